/-
  A tally in memory: the walk of Sum, for every input.
-/
import Derived.Test.YtammaaiknjgjbaaTc
import Derived.Test.YtammaaiknjgjbaaTs
namespace Go.Proofs.Ytammaaiknjgjbaa
set_option linter.unusedVariables false
set_option maxRecDepth 4000
set_option linter.unusedSimpArgs false
open Go.RowKit
attribute [local go_sem ↓] apI bsI ldT stT stI ldA stA
attribute [local go_sem] bzI
/-- The numbers without those that are in the sum by the first i. -/
def subT (N l : List Int) (i : Nat) : List Int := (List.range 15).map fun (j : Nat) => if okW (j : Int) && (l.take i).contains (j : Int) then 0 else N.getD j 0
theorem subT_len (N l : List Int) (i : Nat) : (subT N l i).length = 15 := by simp [subT]
theorem subT_zero {N : List Int} (h : N.length = 15) (l : List Int) : subT N l 0 = N := by
  refine List.ext_getElem? fun j => ?_
  unfold subT
  by_cases hj : j < 15
  · simp only [List.getElem?_map, List.getElem?_range hj, Option.map_some, List.take_zero]
    simp [h, hj]
  · rw [List.getElem?_eq_none (by simp; omega), List.getElem?_eq_none (by omega)]
theorem subT_at {N : List Int} (hN : IsN N) (l : List Int) (i : Nat) {k : Nat} (hk : k < 15) (hw : okW (k : Int) = true) : (subT N l i)[k]? = some (if (l.take i).contains (k : Int) then 0 else getN N k) := by
  have g : getN N (k : Int) = N.getD k 0 := by unfold getN; rw [if_pos hw]; rfl
  unfold subT
  simp only [List.getElem?_map, List.getElem?_range hk, Option.map_some, hw, Bool.true_and, g]
theorem subT_same (N l : List Int) (i : Nat) {x : Int} (hx : l[i]? = some x) (h : okW x = false) : subT N l (i + 1) = subT N l i := by
  unfold subT
  refine List.map_congr_left fun j hj => ?_
  rw [take_has hx]
  by_cases e : x = (j : Int)
  · rw [← e, h]
    rfl
  · have : (x == (j : Int)) = false := by simpa using e
    rw [this, Bool.or_false]
theorem subT_set (N l : List Int) (i : Nat) {k : Nat} (hx : l[i]? = some (k : Int)) (hk : k < 15) (hw : okW (k : Int) = true) : (subT N l i).set k 0 = subT N l (i + 1) := by
  unfold subT
  refine List.ext_getElem? fun j => ?_
  rw [List.getElem?_set]
  by_cases hj : k = j
  · subst hj
    rw [if_pos rfl, if_pos (by simp; omega)]
    simp only [List.getElem?_map, List.getElem?_range hk, Option.map_some, hw, take_has hx]
    simp
  · rw [if_neg hj]
    by_cases hj2 : j < 15
    · have e : ((k : Int) == (j : Int)) = false := by simp; omega
      simp only [List.getElem?_map, List.getElem?_range hj2, Option.map_some, take_has hx, e, Bool.or_false]
    · rw [List.getElem?_eq_none (by simp; omega), List.getElem?_eq_none (by simp; omega)]
structure SnS (W V : World) (g : Nat) (N l : List Int) (i : Nat) : Prop where
  b : Below W.heap.size W V
  r : AtA V g (subT N l i)
  lo : W.heap.size ≤ g
set_option maxHeartbeats 8000000 in
theorem tsum_any {W : World} {p : Option Addr} {N : List Int} (h : TT W p N) {a2 : Option Addr} {n c2 : Nat} {l : List Int} (hs : SlAt eW W a2 n c2 l) (hn : n ≤ 1000) :
    Calls Try.prog 19 #[.pointer p, .slice a2 n c2] W fun e W' => e = .returned (.int .i64 (sumT N l n)) ∧ Below W.heap.size W W' := by
  have hN := h.isN
  have HI : Hid (TT W p N ∧ SlAt eW W a2 n c2 l) := ⟨h, hs⟩
  clear h hs
  go_enter Try.func19, Try.ntmps19
  go_wp2_with fail
  refine (tall_any HI.out.1).mono ?_
  rintro _ X0 ⟨rfl, b0⟩
  obtain ⟨V, hV, r, b1⟩ := AtA.new X0
  obtain ⟨Z, s1, r1, b2⟩ := AtA.put r rfl hN.1 b1
  obtain ⟨g0, hg0⟩ : ∃ e, X0.heap.size = e := ⟨_, rfl⟩
  have HS : Hid (SnS W Z g0 N l 0) := ⟨below_over b0 b2, by rw [subT_zero hN.1, ← hg0]; exact r1, by rw [← hg0]; exact b0.size⟩
  obtain ⟨C, hC⟩ : ∃ e, ai N = e := ⟨_, rfl⟩
  rw [hC] at s1 ⊢
  rw [hg0] at s1
  clear hC r b1 r1 b2 b0
  go_wp2_with fail
  try rw [hg0]
  clear hg0
  go_loopw [6, 13] (fun v6 v13 wr => ∃ i : Nat, i ≤ n ∧ v6 = .int .i64 (sumT N l i) ∧ v13 = .int .i64 i ∧ SnS W wr g0 N l i) (fun _ v _ => n - (intOf v).toNat)
  case atStart => exact ⟨0, by omega, rfl, rfl, HS.out⟩
  case round =>
    obtain ⟨i, hi, rfl, rfl, hS⟩ := hrel
    obtain ⟨X, hX⟩ : ∃ e, wr = e := ⟨_, rfl⟩
    rw [hX] at hS ⊢
    have J : Hid (SnS W X g0 N l i) := hS
    have hi0 : (0 : Int) ≤ (i : Int) := by omega
    clear hS hX HS hV s1
    have hsb := sumT_le hN l i
    obtain ⟨sm, hsm⟩ : ∃ e, sumT N l i = e := ⟨_, rfl⟩
    rw [hsm] at hsb ⊢
    have hs0 := hsb.1
    have hs1 : sm ≤ 1125899906842624000 := by have := hsb.2; omega
    clear hsb
    by_cases hit : i < n
    · have hi1 : (i : Int) < (n : Int) := by omega
      obtain ⟨b2, o2, rfl⟩ := HI.out.2.some' (by omega)
      obtain ⟨x, hx⟩ : ∃ t, l[i]? = some t := ⟨_, List.getElem?_eq_getElem (by rw [HI.out.2.len]; exact hit)⟩
      have hd : l.getD i 0 = x := by rw [List.getD_eq_getElem?_getD, hx]; rfl
      have e1 : sumT N l (i + 1) = sm + if (l.take i).contains x then 0 else getN N x := by rw [← hsm, sumT, hd]
      have HX : Hid (l[i]? = some x ∧ i < n) := ⟨hx, hit⟩
      have c0 : X.cell? ⟨b2, o2 + i, none⟩ = some (.int .i64 x) := lW (HI.out.2.below J.out.b) hx
      clear hx hd hit hsm
      cases hw : okW x with
      | false =>
        have e2 : getN N x = 0 := by unfold getN; simp [hw]
        have HE : Hid (sumT N l (i + 1) = sm ∧ SnS W X g0 N l (i + 1)) := by
          refine ⟨by rw [e1, e2]; simp, J.out.b, ?_, J.out.lo⟩
          rw [subT_same N l i HX.out.1 hw]
          exact J.out.r
        clear e1 e2
        go_wp2_with fail
        refine (is_any x _).mono ?_
        rintro _ _ ⟨rfl, rfl⟩
        rw [hw]
        go_wp2
        go_roundw
        case rel => exact ⟨i + 1, by have := HX.out.2; omega, by rw [HE.out.1], by go_num, HE.out.2⟩
        case measure => have := HX.out.2; simp [intOf]; omega
      | true =>
        have q := hN.get hw
        obtain ⟨k, rfl⟩ : ∃ k : Nat, x = k := ⟨x.toNat, q.2.2.2.1⟩
        have hk : (k : Int) < 15 := by have := q.2.2.2.2.1; omega
        have hk0 : (0 : Int) ≤ (k : Int) := by omega
        have c1 := AtA.cn J.out.r (subT_at hN l i (k := k) (by omega) hw)
        have hz := hN.get0 (k : Int)
        have hz' : 0 ≤ (if (l.take i).contains (k : Int) then 0 else getN N k) ∧ (if (l.take i).contains (k : Int) then 0 else getN N k) ≤ 1125899906842624 := by split <;> omega
        obtain ⟨z, ez⟩ : ∃ z, (if (l.take i).contains (k : Int) then 0 else getN N k) = z := ⟨_, rfl⟩
        rw [ez] at c1 hz' e1
        have hz0 := hz'.1
        have hz1 := hz'.2
        obtain ⟨Y, s1, r1, g1⟩ := AtA.st J.out.r (subT_len N l i) (k := k) (by omega) 0
        rw [subT_set N l i HX.out.1 (by omega) hw] at r1
        have HE : Hid (sumT N l (i + 1) = sm + z ∧ SnS W Y g0 N l (i + 1)) := ⟨e1, gro J.out.b g1 J.out.lo J.out.b.size, r1, J.out.lo⟩
        have pw : IntKind.i64.wrap (sm + z) = sm + z := IntWalk.i64_in _ (by omega)
        clear e1 q hz hz' ez r1 g1
        go_wp2_with fail
        refine (is_any (k : Int) _).mono ?_
        rintro _ _ ⟨rfl, rfl⟩
        rw [hw]
        go_wp2
        go_roundw
        case rel => exact ⟨i + 1, by have := HX.out.2; omega, by rw [HE.out.1], by go_num, HE.out.2⟩
        case measure => have := HX.out.2; simp [intOf]; omega
    · obtain rfl : i = n := by omega
      have hi1 : ¬ (i : Int) < (i : Int) := by omega
      clear hit
      go_wp2
      go_ret
      exact ⟨rfl, J.out.b⟩
theorem sum_any {W : World} {g : Nat} {N : List Int} (h : TAt W g N) (hN : IsN N) {a2 : Option Addr} {n c2 : Nat} {l : List Int} (hs : SlAt eW W a2 n c2 l) (hn : n ≤ 1000) :
    Calls Try.prog 19 #[.pointer (some ⟨g, 0, none⟩), .slice a2 n c2] W fun e W' => e = .returned (.int .i64 (sumT N l n)) ∧ Below W.heap.size W W' := tsum_any (.inl ⟨g, rfl, h, hN⟩) hs hn
theorem sumT_zN (l : List Int) : ∀ n, sumT zN l n = 0
  | 0 => rfl
  | n + 1 => by
    rw [sumT, sumT_zN l n, get_zN]
    split <;> rfl
theorem nsum_any {W : World} {p : Option Addr} (h : NobT W p) {a2 : Option Addr} {n c2 : Nat} {l : List Int} (hs : SlAt eW W a2 n c2 l) (hn : n ≤ 1000) :
    Calls Try.prog 19 #[.pointer p, .slice a2 n c2] W fun e W' => e = .returned (.int .i64 0) ∧ Below W.heap.size W W' := by
  have := tsum_any (.inr ⟨h, rfl⟩) hs hn
  rwa [sumT_zN] at this
end Go.Proofs.Ytammaaiknjgjbaa
