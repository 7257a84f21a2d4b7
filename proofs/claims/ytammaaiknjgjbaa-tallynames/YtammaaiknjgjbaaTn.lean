/-
  Names of counters, by definition: walks of Names, Name and Parse, each for every input.
-/
import Derived.Test.YtammaaiknjgjbaaTa
namespace Go.Proofs.Ytammaaiknjgjbaa
set_option linter.unusedVariables false
set_option maxRecDepth 4000
set_option linter.unusedSimpArgs false
open Go.RowKit
def nms : List ByteArray := [⟨#[]⟩,
  ⟨#[105, 110, 32, 99, 117, 115, 116, 111, 109, 101, 114]⟩,
  ⟨#[105, 110, 32, 98, 97, 99, 107, 98, 111, 110, 101]⟩,
  ⟨#[111, 117, 116, 32, 99, 117, 115, 116, 111, 109, 101, 114]⟩,
  ⟨#[111, 117, 116, 32, 98, 97, 99, 107, 98, 111, 110, 101]⟩,
  ⟨#[98, 97, 100, 32, 102, 114, 97, 109, 101]⟩,
  ⟨#[98, 105, 103, 32, 102, 114, 97, 109, 101]⟩,
  ⟨#[110, 111, 32, 115, 101, 114, 118, 105, 99, 101]⟩,
  ⟨#[110, 111, 32, 109, 101, 109, 98, 101, 114]⟩,
  ⟨#[98, 108, 111, 99, 107, 101, 100]⟩,
  ⟨#[97, 119, 97, 121]⟩,
  ⟨#[111, 119, 110, 32, 102, 114, 97, 109, 101]⟩,
  ⟨#[113, 117, 101, 117, 101, 32, 102, 117, 108, 108]⟩,
  ⟨#[112, 111, 114, 116, 32, 100, 111, 119, 110]⟩,
  ⟨#[110, 111, 98, 111, 100, 121]⟩]
def eT : El ByteArray := ⟨fun s => #[.string s], 9, 62, 1, 16⟩
theorem kT : eT.Ok := ⟨fun _ => rfl, by decide, fun _ => one_of rfl, Try.underlying62, ⟨.string ⟨#[]⟩, by kernel_rfl, rfl⟩, by decide⟩
theorem lT {W : World} {b o n c i : Nat} {l : List ByteArray} {x : ByteArray} (h : SlAt eT W (some ⟨b, o, none⟩) n c l) (hx : l[i]? = some x) : W.cell? ⟨b, o + i, none⟩ = some (.string x) := h.cell kT (j := 0) hx rfl (by show o + i = o + (i * 1 + 0); omega)
theorem bsT (n : Nat) (ps : Array (Nat × Value)) : Instr.buildSlice 62 n ps = bsS 62 n ps := rfl
theorem b15 (w : World) : (bsS 62 15 #[(0, .string ⟨#[]⟩), (1, .string ⟨#[105, 110, 32, 99, 117, 115, 116, 111, 109, 101, 114]⟩), (2, .string ⟨#[105, 110, 32, 98, 97, 99, 107, 98, 111, 110, 101]⟩), (3, .string ⟨#[111, 117, 116, 32, 99, 117, 115, 116, 111, 109, 101, 114]⟩), (4, .string ⟨#[111, 117, 116, 32, 98, 97, 99, 107, 98, 111, 110, 101]⟩), (5, .string ⟨#[98, 97, 100, 32, 102, 114, 97, 109, 101]⟩), (6, .string ⟨#[98, 105, 103, 32, 102, 114, 97, 109, 101]⟩), (7, .string ⟨#[110, 111, 32, 115, 101, 114, 118, 105, 99, 101]⟩), (8, .string ⟨#[110, 111, 32, 109, 101, 109, 98, 101, 114]⟩), (9, .string ⟨#[98, 108, 111, 99, 107, 101, 100]⟩), (10, .string ⟨#[97, 119, 97, 121]⟩), (11, .string ⟨#[111, 119, 110, 32, 102, 114, 97, 109, 101]⟩), (12, .string ⟨#[113, 117, 101, 117, 101, 32, 102, 117, 108, 108]⟩), (13, .string ⟨#[112, 111, 114, 116, 32, 100, 111, 119, 110]⟩), (14, .string ⟨#[110, 111, 98, 111, 100, 121]⟩)]).run Try.prog w = .ok (.slice (some ⟨w.heap.size, 0, none⟩) 15 15) (w.alloc (.cells (eT.fl nms).toArray 9)) := by kernel_rfl
attribute [local go_sem ↓] bsT
attribute [local go_sem] b15
set_option maxHeartbeats 2000000 in
theorem rnames_any (W : World) : Calls Try.prog 31 #[] W fun e W' => ∃ g, e = .returned (.slice (some ⟨g, 0, none⟩) 15 15) ∧ SlAt eT W' (some ⟨g, 0, none⟩) 15 15 nms ∧ Below W.heap.size W W' := by
  have p : PAt eT (W.alloc (.cells (eT.fl nms).toArray 9)) W.heap.size 15 nms := ⟨_, RvAt.new W _ _, Nat.le_refl _, by unfold maxLen; omega, rfl, rfl⟩
  have b : Below W.heap.size W (W.alloc (.cells (eT.fl nms).toArray 9)) := (Below.refl _ _).alloc (Nat.le_refl _) _
  obtain ⟨U, hU⟩ : ∃ e, W.alloc (.cells (eT.fl nms).toArray 9) = e := ⟨_, rfl⟩
  rw [hU] at p b
  have H : Hid (PAt eT U W.heap.size 15 nms ∧ Below W.heap.size W U) := ⟨p, b⟩
  clear p b
  go_enter Try.func31, Try.ntmps31
  go_wp2
  go_ret
  exact ⟨_, rfl, H.out.1.sl kT, H.out.2⟩
def nameOf (w : Int) : ByteArray := if okW w then nms.getD w.toNat ⟨#[]⟩ else ⟨#[]⟩
set_option maxHeartbeats 2000000 in
theorem rname_any (w : Int) (W : World) : Calls Try.prog 24 #[.int .i64 w] W fun e W' => e = .returned (.string (nameOf w)) ∧ Below W.heap.size W W' := by
  cases hw : okW w with
  | false =>
    have e : nameOf w = ⟨#[]⟩ := by unfold nameOf; simp [hw]
    rw [e]
    go_enter Try.func24, Try.ntmps24
    go_wp2_with fail
    refine (ris_any w _).mono ?_
    rintro _ _ ⟨rfl, rfl⟩
    rw [hw]
    go_wp2
    go_ret
    exact ⟨rfl, Below.refl _ _⟩
  | true =>
    have hw' : 1 ≤ w ∧ w ≤ 14 := by unfold okW at hw; exact of_decide_eq_true hw
    obtain ⟨k, rfl⟩ : ∃ k : Nat, w = k := ⟨w.toNat, by omega⟩
    have hk : (k : Int) < 15 := by omega
    have hk0 : (0 : Int) ≤ (k : Int) := by omega
    have hkl : k < nms.length := by show k < 15; omega
    obtain ⟨s, hs⟩ : ∃ s, nms[k]? = some s := ⟨_, List.getElem?_eq_getElem hkl⟩
    have e : nameOf k = s := by unfold nameOf; rw [if_pos hw, Int.toNat_natCast, List.getD_eq_getElem?_getD, hs]; rfl
    rw [e]
    have HS : Hid (nms[k]? = some s) := hs
    clear hs e hkl hw'
    go_enter Try.func24, Try.ntmps24
    go_wp2_with fail
    refine (ris_any (k : Int) _).mono ?_
    rintro _ _ ⟨rfl, rfl⟩
    rw [hw]
    go_wp2_with fail
    refine (rnames_any W).mono ?_
    rintro _ X ⟨g, rfl, sl, b⟩
    have c0 : X.cell? ⟨g, k, none⟩ = some (.string s) := by
      have := lT sl HS.out
      rwa [Nat.zero_add] at this
    have K : Hid (Below W.heap.size W X) := b
    clear sl b
    go_wp2
    go_ret
    exact ⟨rfl, K.out⟩
theorem ba_self (y : ByteArray) : (y.toList == y.toList) = true := by simp
theorem ba_ne {y s : ByteArray} (h : y ≠ s) : (y.toList == s.toList) = false := by
  rw [beq_eq_false_iff_ne]
  intro e
  apply h
  rw [ByteArray.toList_eq, ByteArray.toList_eq] at e
  cases y
  cases s
  congr 1
  exact Array.toList_inj.1 e
/-- Whose name s is: w, if ok. -/
def ParOut (s : ByteArray) (w : Int) (ok : Bool) : Prop := (ok = true ∧ ∃ i : Nat, 1 ≤ i ∧ i < 15 ∧ w = i ∧ nms[i]? = some s) ∨ (ok = false ∧ w = 0 ∧ ∀ i : Nat, 1 ≤ i → i < 15 → nms[i]? ≠ some s)
set_option maxHeartbeats 2000000 in
theorem rparse_any (s : ByteArray) (W : World) : Calls Try.prog 22 #[.string s] W fun e W' => ∃ w ok, e = .returned (.tuple #[.int .i64 w, .bool ok]) ∧ ParOut s w ok ∧ Below W.heap.size W W' := by
  go_enter Try.func22, Try.ntmps22
  go_wp2_with fail
  refine (rnames_any W).mono ?_
  rintro _ X ⟨g, rfl, sl, b⟩
  have K : Hid (SlAt eT X (some ⟨g, 0, none⟩) 15 15 nms ∧ Below W.heap.size W X) := ⟨sl, b⟩
  clear sl b
  go_wp2_with fail
  go_loopw [5] (fun v wr => ∃ i : Nat, 1 ≤ i ∧ i ≤ 15 ∧ v = .int .i64 i ∧ wr = X ∧ ∀ j : Nat, 1 ≤ j → j < i → nms[j]? ≠ some s) (fun v _ => 15 - (intOf v).toNat)
  case atStart => exact ⟨1, by omega, by omega, rfl, rfl, fun j h1 h2 => by omega⟩
  case round =>
    obtain ⟨i, hi1, hi, rfl, rfl, hno⟩ := hrel
    have HN : Hid (∀ j : Nat, 1 ≤ j → j < i → nms[j]? ≠ some s) := hno
    have hi0 : (0 : Int) ≤ (i : Int) := by omega
    clear hno
    by_cases hit : i < 15
    · have hi2 : (i : Int) < 15 := by omega
      obtain ⟨y, hy⟩ : ∃ y, nms[i]? = some y := ⟨_, List.getElem?_eq_getElem (by show i < 15; exact hit)⟩
      have c0 : wr.cell? ⟨g, i, none⟩ = some (.string y) := by
        have := lT K.out.1 hy
        rwa [Nat.zero_add] at this
      have HI : Hid (1 ≤ i ∧ i < 15 ∧ nms[i]? = some y) := ⟨hi1, hit, hy⟩
      clear hy hit
      by_cases hys : y = s
      · subst hys
        have yy := ba_self y
        go_wp2
        go_returns
        exact ⟨i, true, rfl, .inl ⟨rfl, i, HI.out.1, HI.out.2.1, rfl, HI.out.2.2⟩, K.out.2⟩
      · have yy := ba_ne hys
        have HY : Hid (y ≠ s) := hys
        clear hys
        go_wp2
        go_roundw
        case rel => exact ⟨i + 1, by omega, by have := HI.out; omega, by go_num, trivial, fun j h1 h2 e => by
          by_cases hj : j = i
          · subst hj
            rw [HI.out.2.2] at e
            exact HY.out (by simpa using e)
          · exact HN.out j h1 (by omega) e⟩
        case measure => have := HI.out; simp [intOf]; omega
    · obtain rfl : i = 15 := by omega
      go_wp2
      go_returns
      exact ⟨0, false, rfl, .inr ⟨rfl, rfl, HN.out⟩, K.out.2⟩
end Go.Proofs.Ytammaaiknjgjbaa
