/-
  A tally that nobody made; Diff of any two: walks for every input.
-/
import Derived.Test.YtammaaiknjgjbaaTm
namespace Go.Proofs.Ytammaaiknjgjbaa
set_option linter.unusedVariables false
set_option maxRecDepth 4000
set_option linter.unusedSimpArgs false
open Go.RowKit
attribute [local go_sem ↓] apI bsI ldT stT stI ldA stA
attribute [local go_sem] bzI
theorem nadd_any {W : World} {p : Option Addr} (h : NobT W p) (x y : Value) : Calls Try.prog 13 #[.pointer p, x, y] W fun e W' => e = .returned (.int .i64 4) ∧ W = W' := by
  have H : Hid (NobT W p) := h
  clear h
  go_enter Try.func13, Try.ntmps13
  go_wp2_with fail
  refine (nob_any H.out).mono ?_
  rintro _ _ ⟨rfl, rfl⟩
  go_wp2
  go_ret
  exact ⟨rfl, rfl⟩
theorem nall_any {W : World} {p : Option Addr} (h : NobT W p) : Calls Try.prog 18 #[.pointer p] W fun e W' => e = .returned (.slice none 0 0) ∧ W = W' := by
  have H : Hid (NobT W p) := h
  clear h
  go_enter Try.func18, Try.ntmps18
  go_wp2_with fail
  refine (nob_any H.out).mono ?_
  rintro _ _ ⟨rfl, rfl⟩
  go_wp2
  go_ret
  exact ⟨rfl, rfl⟩
theorem nfork_any {W : World} {p : Option Addr} (h : NobT W p) : Calls Try.prog 12 #[.pointer p] W fun e W' => e = .returned (.pointer none) ∧ W = W' := by
  have H : Hid (NobT W p) := h
  clear h
  go_enter Try.func12, Try.ntmps12
  go_wp2_with fail
  refine (nob_any H.out).mono ?_
  rintro _ _ ⟨rfl, rfl⟩
  go_wp2
  go_ret
  exact ⟨rfl, rfl⟩
/-- The first i differences: the others are the first tally's numbers. -/
def difT (A B : List Int) (i : Nat) : List Int := (List.range 15).map fun (j : Nat) => if j < i then A.getD j 0 - B.getD j 0 else A.getD j 0
def difN (A B : List Int) : List Int := difT A B 15
theorem difT_zero {A : List Int} (h : A.length = 15) (B : List Int) : difT A B 0 = A := by
  refine List.ext_getElem? fun j => ?_
  unfold difT
  by_cases hj : j < 15
  · simp only [List.getElem?_map, List.getElem?_range hj, Option.map_some]
    simp [h, hj]
  · rw [List.getElem?_eq_none (by simp; omega), List.getElem?_eq_none (by omega)]
theorem difT_len (A B : List Int) (i : Nat) : (difT A B i).length = 15 := by simp [difT]
theorem difT_at (A B : List Int) {i : Nat} (hi : i < 15) : (difT A B i)[i]? = some (A.getD i 0) := by
  unfold difT
  simp only [List.getElem?_map, List.getElem?_range hi, Option.map_some]
  simp
theorem difT_set (A B : List Int) {i : Nat} (hi : i < 15) : (difT A B i).set i (A.getD i 0 - B.getD i 0) = difT A B (i + 1) := by
  refine List.ext_getElem? fun j => ?_
  rw [List.getElem?_set]
  by_cases hj : i = j
  · subst hj
    rw [if_pos rfl, if_pos (by rw [difT_len]; exact hi)]
    simp [difT, hi]
  · rw [if_neg hj]
    by_cases hj2 : j < 15
    · unfold difT
      simp only [List.getElem?_map, List.getElem?_range hj2, Option.map_some]
      by_cases h3 : j < i
      · rw [if_pos h3, if_pos (by omega)]
      · rw [if_neg h3, if_neg (by omega)]
    · rw [List.getElem?_eq_none (by rw [difT_len]; omega), List.getElem?_eq_none (by rw [difT_len]; omega)]
theorem IsN.getD {N : List Int} (h : IsN N) {i : Nat} (hi : i < 15) : N[i]? = some (N.getD i 0) ∧ 0 ≤ N.getD i 0 ∧ N.getD i 0 ≤ 1125899906842624 := by
  have hl : i < N.length := by rw [h.1]; exact hi
  have e : N.getD i 0 = N[i] := by rw [List.getD_eq_getElem?_getD, List.getElem?_eq_getElem hl]; rfl
  have hb := h.2 _ (List.getElem_mem hl)
  rw [← e] at hb
  exact ⟨by rw [List.getElem?_eq_getElem hl, e], hb.1, hb.2⟩
set_option maxHeartbeats 4000000 in
theorem diff_any {W : World} {p q : Option Addr} {A B : List Int} (ha : TT W p A) (hb : TT W q B) : Calls Try.prog 25 #[.pointer p, .pointer q] W fun e W' => ∃ a c, e = .returned (.slice a 15 c) ∧ Oa W' W.heap.size (.slice a 15 c) (difN A B) ∧ Below W.heap.size W W' := by
  have HT : Hid (TT W p A ∧ TT W q B) := ⟨ha, hb⟩
  have hA := ha.isN
  have hB := hb.isN
  clear ha hb
  go_enter Try.func25, Try.ntmps25
  go_wp2_with fail
  refine (tall_any HT.out.1).mono ?_
  rintro _ X0 ⟨rfl, b0⟩
  obtain ⟨V, hV, r, b1⟩ := AtA.new X0
  obtain ⟨Z, s1, r1, b2⟩ := AtA.put r rfl hA.1 b1
  obtain ⟨g0, hg0⟩ : ∃ e, X0.heap.size = e := ⟨_, rfl⟩
  have HZ : Hid (AtA Z g0 (difT A B 0) ∧ Below W.heap.size W Z ∧ W.heap.size ≤ g0) := ⟨by rw [difT_zero hA.1, ← hg0]; exact r1, below_over b0 b2, by rw [← hg0]; exact b0.size⟩
  obtain ⟨C, hC⟩ : ∃ e, ai A = e := ⟨_, rfl⟩
  rw [hC] at s1 ⊢
  rw [hg0] at s1
  clear hC r b1 r1 b2 b0
  go_wp2_with fail
  try rw [hg0]
  clear hg0
  refine (tall_any (HT.out.2.below HZ.out.2.1)).mono ?_
  rintro _ Z1 ⟨rfl, b3⟩
  have HP : Hid (AtA Z1 g0 (difT A B 0) ∧ Below W.heap.size W Z1 ∧ W.heap.size ≤ g0) := ⟨RvAt.below HZ.out.1 b3, below_over HZ.out.2.1 b3, HZ.out.2.2⟩
  have hix : ∀ {k : Nat}, k < 15 → ∀ U : World, (Instr.index 53 (.agg (ai B)) (.int .i64 (k : Int))).run Try.prog U = .ok (.int .i64 (B.getD k 0)) U := fun hk => ixA' hB.1 hk (hB.getD hk).1
  obtain ⟨D, hD⟩ : ∃ e, ai B = e := ⟨_, rfl⟩
  rw [hD] at hix ⊢
  have HX : Hid (∀ {k : Nat}, k < 15 → ∀ U : World, (Instr.index 53 (.agg D) (.int .i64 (k : Int))).run Try.prog U = .ok (.int .i64 (B.getD k 0)) U) := hix
  clear hix hD b3 s1 hV HZ
  go_wp2_with fail
  go_loopw [12] (fun v wr => ∃ i : Nat, i ≤ 15 ∧ v = .int .i64 i ∧ AtA wr g0 (difT A B i) ∧ Below W.heap.size W wr) (fun v _ => 15 - (intOf v).toNat)
  case atStart => exact ⟨0, by omega, rfl, HP.out.1, HP.out.2.1⟩
  case round =>
    obtain ⟨i, hi, rfl, hS, hS2⟩ := hrel
    obtain ⟨X, hX⟩ : ∃ e, wr = e := ⟨_, rfl⟩
    rw [hX] at hS hS2 ⊢
    have J : Hid (AtA X g0 (difT A B i) ∧ Below W.heap.size W X ∧ W.heap.size ≤ g0) := ⟨hS, hS2, HP.out.2.2⟩
    have hi0 : (0 : Int) ≤ (i : Int) := by omega
    clear hS hS2 hX HP
    by_cases hit : i < 15
    · have hi1 : (i : Int) < 15 := by omega
      have a0 := (hA.getD hit).2
      have a1 := (hB.getD hit).2
      have c0 := HX.out hit
      have c1 := AtA.cn J.out.1 (difT_at A B hit)
      obtain ⟨Y, s1, p1, g1⟩ := AtA.st J.out.1 (difT_len A B i) hit (A.getD i 0 - B.getD i 0)
      rw [difT_set A B hit] at p1
      have K : Hid (AtA Y g0 (difT A B (i + 1)) ∧ Below W.heap.size W Y ∧ i < 15) := ⟨p1, gro J.out.2.1 g1 J.out.2.2 J.out.2.1.size, hit⟩
      obtain ⟨u, hu⟩ : ∃ e, A.getD i 0 = e := ⟨_, rfl⟩
      obtain ⟨v, hv⟩ : ∃ e, B.getD i 0 = e := ⟨_, rfl⟩
      rw [hu] at a0 c1 s1
      rw [hv] at a1 c0 s1
      have pw : IntKind.i64.wrap (u - v) = u - v := IntWalk.i64_in _ (by omega)
      clear hit p1 g1 hu hv a0 a1
      go_wp2
      go_roundw
      case rel => exact ⟨i + 1, by have := K.out; omega, by go_num, K.out.1, K.out.2.1⟩
      case measure => have := K.out; simp [intOf]; omega
    · obtain rfl : i = 15 := by omega
      go_wp2
      go_ret
      exact ⟨_, _, rfl, ⟨_, rfl, J.out.2.2, J.out.1, difT_len A B 15⟩, J.out.2.1⟩
end Go.Proofs.Ytammaaiknjgjbaa
