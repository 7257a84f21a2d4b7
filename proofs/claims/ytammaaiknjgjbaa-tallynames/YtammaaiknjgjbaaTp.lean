/-
  Names of counters: walks of names, Name and Parse of the code, each for every input.
-/
import Derived.Test.YtammaaiknjgjbaaTn
import Derived.Test.YtammaaiknjgjbaaTd
namespace Go.Proofs.Ytammaaiknjgjbaa
set_option linter.unusedVariables false
set_option maxRecDepth 4000
set_option linter.unusedSimpArgs false
open Go.RowKit
theorem infoS : (Try.prog.info? 60).map (·.size) = some 15 := by kernel_rfl
theorem rtS : RowTy 60 15 := ⟨infoS, _, Try.underlying60, rfl⟩
theorem stN (x y : Value) : Instr.storeAt 60 x y = stS 60 x y := rfl
attribute [local go_sem ↓] apI bsI stN
def nmC : Array Value := (nms.map Value.string).toArray
theorem nmC_one : ∀ v ∈ nmC.toList, v.oneCell' = true := by
  intro v hv
  simp only [nmC, List.toList_toArray] at hv
  obtain ⟨x, _, rfl⟩ := List.mem_map.1 hv
  rfl
set_option maxHeartbeats 2000000 in
theorem names_any (W : World) : Calls Try.prog 30 #[] W fun e W' => e = .returned (.agg nmC) ∧ Below W.heap.size W W' := by
  obtain ⟨V, hV⟩ : ∃ e, W.alloc (.cells #[.string ⟨#[]⟩, .string ⟨#[]⟩, .string ⟨#[]⟩, .string ⟨#[]⟩, .string ⟨#[]⟩, .string ⟨#[]⟩, .string ⟨#[]⟩, .string ⟨#[]⟩, .string ⟨#[]⟩, .string ⟨#[]⟩, .string ⟨#[]⟩, .string ⟨#[]⟩, .string ⟨#[]⟩, .string ⟨#[]⟩, .string ⟨#[]⟩] 60) = e := ⟨_, rfl⟩
  have r : RvAt V W.heap.size 60 #[.string ⟨#[]⟩, .string ⟨#[]⟩, .string ⟨#[]⟩, .string ⟨#[]⟩, .string ⟨#[]⟩, .string ⟨#[]⟩, .string ⟨#[]⟩, .string ⟨#[]⟩, .string ⟨#[]⟩, .string ⟨#[]⟩, .string ⟨#[]⟩, .string ⟨#[]⟩, .string ⟨#[]⟩, .string ⟨#[]⟩, .string ⟨#[]⟩] := by rw [← hV]; exact RvAt.new W _ _
  have b : Below W.heap.size W V := by rw [← hV]; exact (Below.refl _ _).alloc (Nat.le_refl _) _
  have s0 := RvAt.st rtS r rfl (ds := nmC) rfl nmC_one
  obtain ⟨Z, hZ⟩ : ∃ e, V.setRow W.heap.size nmC = e := ⟨_, rfl⟩
  have H : Hid (RvAt Z W.heap.size 60 nmC ∧ Below W.heap.size W Z) := by
    rw [← hZ]
    exact ⟨RvAt.set r, gro b (grown_row _ _ _) (Nat.le_refl _) b.size⟩
  rw [hZ] at s0
  have s1 : (stS 60 (.pointer (some ⟨W.heap.size, 0, none⟩)) (.agg #[.string ⟨#[]⟩, .string ⟨#[105, 110, 32, 99, 117, 115, 116, 111, 109, 101, 114]⟩, .string ⟨#[105, 110, 32, 98, 97, 99, 107, 98, 111, 110, 101]⟩, .string ⟨#[111, 117, 116, 32, 99, 117, 115, 116, 111, 109, 101, 114]⟩, .string ⟨#[111, 117, 116, 32, 98, 97, 99, 107, 98, 111, 110, 101]⟩, .string ⟨#[98, 97, 100, 32, 102, 114, 97, 109, 101]⟩, .string ⟨#[98, 105, 103, 32, 102, 114, 97, 109, 101]⟩, .string ⟨#[110, 111, 32, 115, 101, 114, 118, 105, 99, 101]⟩, .string ⟨#[110, 111, 32, 109, 101, 109, 98, 101, 114]⟩, .string ⟨#[98, 108, 111, 99, 107, 101, 100]⟩, .string ⟨#[97, 119, 97, 121]⟩, .string ⟨#[111, 119, 110, 32, 102, 114, 97, 109, 101]⟩, .string ⟨#[113, 117, 101, 117, 101, 32, 102, 117, 108, 108]⟩, .string ⟨#[112, 111, 114, 116, 32, 100, 111, 119, 110]⟩, .string ⟨#[110, 111, 98, 111, 100, 121]⟩])).run Try.prog V = .ok () Z := s0
  clear r b s0 hZ
  go_enter Try.func30, Try.ntmps30
  go_wp2
  refine ⟨rfl, _, results_row rtS Try.results30 _ _ _ _ rfl H.out.1 rfl, ?_⟩
  exact ⟨rfl, H.out.2⟩
theorem nmC_at {k : Nat} {s : ByteArray} (h : nms[k]? = some s) : nmC[k]? = some (.string s) := by simp [nmC, h]
theorem ixN (V : World) : ∀ k : Nat, k < 15 → (Instr.index 60 (.agg nmC) (.int .i64 (k : Int))).run Try.prog V = .ok (.string (nms.getD k ⟨#[]⟩)) V
  | 0, _ => by kernel_rfl
  | 1, _ => by kernel_rfl
  | 2, _ => by kernel_rfl
  | 3, _ => by kernel_rfl
  | 4, _ => by kernel_rfl
  | 5, _ => by kernel_rfl
  | 6, _ => by kernel_rfl
  | 7, _ => by kernel_rfl
  | 8, _ => by kernel_rfl
  | 9, _ => by kernel_rfl
  | 10, _ => by kernel_rfl
  | 11, _ => by kernel_rfl
  | 12, _ => by kernel_rfl
  | 13, _ => by kernel_rfl
  | 14, _ => by kernel_rfl
  | k + 15, h => absurd h (by omega)
theorem ixN' {k : Nat} {s : ByteArray} (hk : k < 15) (h : nms[k]? = some s) (V : World) : (Instr.index 60 (.agg nmC) (.int .i64 (k : Int))).run Try.prog V = .ok (.string s) V := by
  have := ixN V k hk
  rwa [List.getD_eq_getElem?_getD, h] at this
set_option maxHeartbeats 2000000 in
theorem name_any (w : Int) (W : World) : Calls Try.prog 23 #[.int .i64 w] W fun e W' => e = .returned (.string (nameOf w)) ∧ Below W.heap.size W W' := by
  cases hw : okW w with
  | false =>
    have e : nameOf w = ⟨#[]⟩ := by unfold nameOf; simp [hw]
    rw [e]
    go_enter Try.func23, Try.ntmps23
    go_wp2_with fail
    refine (is_any w _).mono ?_
    rintro _ _ ⟨rfl, rfl⟩
    rw [hw]
    go_wp2
    go_ret
    exact ⟨rfl, Below.refl _ _⟩
  | true =>
    have hw' : 1 ≤ w ∧ w ≤ 14 := by unfold okW at hw; exact of_decide_eq_true hw
    obtain ⟨k, rfl⟩ : ∃ k : Nat, w = k := ⟨w.toNat, by omega⟩
    have hk : (k : Int) < 15 := by omega
    have hk0 : (0 : Int) ≤ (k : Int) := by omega
    have hkl : k < nms.length := by show k < 15; omega
    obtain ⟨s, hs⟩ : ∃ s, nms[k]? = some s := ⟨_, List.getElem?_eq_getElem hkl⟩
    have e : nameOf k = s := by unfold nameOf; rw [if_pos hw, Int.toNat_natCast, List.getD_eq_getElem?_getD, hs]; rfl
    rw [e]
    have c0 := ixN' (by omega) hs
    obtain ⟨C, hC⟩ : ∃ e, nmC = e := ⟨_, rfl⟩
    rw [hC] at c0
    clear hs e hkl hw'
    go_enter Try.func23, Try.ntmps23
    go_wp2_with fail
    refine (is_any (k : Int) _).mono ?_
    rintro _ _ ⟨rfl, rfl⟩
    rw [hw]
    go_wp2_with fail
    refine (names_any W).mono ?_
    rintro _ X ⟨rfl, b⟩
    rw [hC]
    have K : Hid (Below W.heap.size W X) := b
    clear b hC
    go_wp2
    go_ret
    exact ⟨rfl, K.out⟩
set_option maxHeartbeats 2000000 in
theorem parse_any (s : ByteArray) (W : World) : Calls Try.prog 21 #[.string s] W fun e W' => ∃ w ok, e = .returned (.tuple #[.int .i64 w, .bool ok]) ∧ ParOut s w ok ∧ Below W.heap.size W W' := by
  go_enter Try.func21, Try.ntmps21
  go_wp2_with fail
  refine (names_any W).mono ?_
  rintro _ X ⟨rfl, b⟩
  obtain ⟨C, hC⟩ : ∃ e, nmC = e := ⟨_, rfl⟩
  have K : Hid (Below W.heap.size W X ∧ nmC = C) := ⟨b, hC⟩
  rw [hC]
  clear b hC
  go_wp2_with fail
  go_loopw [7] (fun v wr => ∃ i : Nat, i ≤ 15 ∧ v = .int .i64 i ∧ wr = X ∧ ∀ j : Nat, 1 ≤ j → j < i → nms[j]? ≠ some s) (fun v _ => 15 - (intOf v).toNat)
  case atStart => exact ⟨0, by omega, rfl, rfl, fun j h1 h2 => by omega⟩
  case round =>
    obtain ⟨i, hi, rfl, rfl, hno⟩ := hrel
    have HN : Hid (∀ j : Nat, 1 ≤ j → j < i → nms[j]? ≠ some s) := hno
    have hi0 : (0 : Int) ≤ (i : Int) := by omega
    clear hno
    by_cases hit : i < 15
    · have hi2 : (i : Int) < 15 := by omega
      obtain ⟨y, hy⟩ : ∃ y, nms[i]? = some y := ⟨_, List.getElem?_eq_getElem (by show i < 15; exact hit)⟩
      have c0 : ∀ V : World, (Instr.index 60 (.agg C) (.int .i64 (i : Int))).run Try.prog V = .ok (.string y) V := by rw [← K.out.2]; exact ixN' hit hy
      have HI : Hid (i < 15 ∧ nms[i]? = some y) := ⟨hit, hy⟩
      clear hy
      by_cases h0 : i = 0
      · subst h0
        have c00 : ∀ V : World, (Instr.index 60 (.agg C) (.int .i64 0)).run Try.prog V = .ok (.string y) V := c0
        clear hit
        by_cases hys : y = s
        · subst hys
          have yy := ba_self y
          go_wp2
          go_roundw
          case rel => exact ⟨1, by omega, by go_num, trivial, fun j h1 h2 => by omega⟩
          case measure => simp [intOf]
        · have yy := ba_ne hys
          clear hys
          go_wp2
          go_roundw
          case rel => exact ⟨1, by omega, by go_num, trivial, fun j h1 h2 => by omega⟩
          case measure => simp [intOf]
      · have h1 : (0 : Int) < (i : Int) := by omega
        have HZ : Hid (1 ≤ i) := by exact (by omega : 1 ≤ i)
        clear hit
        by_cases hys : y = s
        · subst hys
          have yy := ba_self y
          go_wp2
          go_returns
          exact ⟨i, true, rfl, .inl ⟨rfl, i, HZ.out, HI.out.1, rfl, HI.out.2⟩, K.out.1⟩
        · have yy := ba_ne hys
          have HY : Hid (y ≠ s) := hys
          clear hys
          go_wp2
          go_roundw
          case rel => exact ⟨i + 1, by have := HI.out; omega, by go_num, trivial, fun j h1 h2 e => by
            by_cases hj : j = i
            · subst hj
              rw [HI.out.2] at e
              exact HY.out (by simpa using e)
            · exact HN.out j h1 (by omega) e⟩
          case measure => have := HI.out; simp [intOf]; omega
    · obtain rfl : i = 15 := by omega
      go_wp2
      go_returns
      exact ⟨0, false, rfl, .inr ⟨rfl, rfl, HN.out⟩, K.out.1⟩
end Go.Proofs.Ytammaaiknjgjbaa
