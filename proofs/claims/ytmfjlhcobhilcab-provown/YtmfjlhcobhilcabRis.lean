/-
  Whether rows rise, whether all ports are there, the kinds of ports, room: walks of the code, each for every input.
-/
import Derived.Test.YtmfjlhcobhilcabSml
namespace Go.Proofs.Ytmfjlhcobhilcab
set_option linter.unusedVariables false
set_option maxRecDepth 4000
set_option linter.unusedSimpArgs false
open Go.RowKit
attribute [local go_sem ↓] ldM stM ldC stC ldB stB ldP stP apI bsI
attribute [local go_sem] bsI_is bsI2_is

set_option maxHeartbeats 2000000 in
theorem risI_any (a : Option Addr) (n c : Nat) (l : List Int) (w : World) (hs : SlAt eI w a n c l) :
    Calls Try.prog 57 #[.slice a n c, .func (.func 52) #[] #[]] w fun r w' => r = .returned (.bool (ris ltI l)) ∧ Below w.heap.size w w' := by
  have hnn := hs.int
  obtain ⟨R, hR⟩ : ∃ z, ris ltI l = z := ⟨_, rfl⟩
  have H : Hid (SlAt eI w a n c l ∧ l.length = n) := ⟨hs, hs.len⟩
  have HR : Hid (ris ltI l = R) := hR
  rw [hR]
  clear hs hR
  go_enter Try.func57, Try.ntmps57
  go_wp2_with fail
  go_loopw [5] (fun v wr => ∃ i : Nat, (i + 1 ≤ n ∨ i = 0) ∧ v = .int .i64 ((i : Int) + 1) ∧ R = ris ltI (l.drop i) ∧ Below w.heap.size w wr) (fun v _ => n - (intOf v).toNat)
  case atStart => exact ⟨0, Or.inr rfl, rfl, HR.out.symm, Below.refl _ _⟩
  case round =>
    obtain ⟨i, hi, rfl, hf, hB⟩ := hrel
    have J : Hid (R = ris ltI (l.drop i) ∧ Below w.heap.size w wr) := ⟨hf, hB⟩
    have hi0 : (0 : Int) ≤ (i : Int) := by omega
    have hi3 : (0 : Int) ≤ (i : Int) + 1 := by omega
    have hi4 : (i : Int) + 1 ≤ 9223372036854775807 := by omega
    have hi5 : (i : Int) + 1 - 1 = (i : Int) := by omega
    by_cases hit : i + 1 < n
    · have hi1 : (i : Int) + 1 < (n : Int) := by omega
      have hi2 : (i : Int) < (n : Int) := by omega
      obtain ⟨b, o, rfl⟩ := H.out.1.some' (by omega)
      obtain ⟨x, hx⟩ := lt_nth (l := l) (i := i) (by rw [H.out.2]; omega)
      obtain ⟨y, hy⟩ := lt_nth (l := l) (i := i + 1) (by rw [H.out.2]; exact hit)
      have HX : Hid (l[i]? = some x ∧ l[i + 1]? = some y) := ⟨hx, hy⟩
      clear hf hB hx hy
      by_cases hc : ltI x y = true
      · have E : Hid (R = ris ltI (l.drop (i + 1))) := by rw [J.out.1, ris_yes HX.out.1 HX.out.2 hc]; exact rfl
        obtain ⟨k, hk⟩ : ∃ z, cmI x y = z := ⟨_, rfl⟩
        have hk0 : decide (k ≥ 0) = false := by
          have := cmI_lt.2 (of_decide_eq_true hc)
          rw [hk] at this
          simp; omega
        have hk1 : decide (0 ≤ k) = false := by rw [← hk0]
        have P : Hid (∀ q : Later wr, _) := fun q : Later wr => cmp_bel x y q.val
        rw [hk] at P
        clear hc hk
        go_wp2_with fail
        have l0 := fun q : Later wr => lI ((H.out.1.below J.out.2).below q.below) HX.out.1
        have l1 := fun q : Later wr => lI ((H.out.1.below J.out.2).below q.below) HX.out.2
        refine wp_region_later (by kernel_rfl) (by kernel_rfl) ?_
        repeat (go_big_quiet_step (first | exact rfl | (go_at_call 52; with_reducible exact Calls.later_of (P.out _))))
        refine wpQuiet_nil ?_
        intro _ hw'
        obtain ⟨q, rfl⟩ := hw'
        clear l0 l1
        go_wp2
        go_roundw
        case rel => exact ⟨i + 1, by omega, by go_num, E.out, below_later J.out.2 q⟩
        case measure => simp [intOf]; omega
      · have hc' : ltI x y = false := by simpa using hc
        have E : Hid (R = false) := by rw [J.out.1, ris_no HX.out.1 HX.out.2 hc']; exact rfl
        obtain ⟨k, hk⟩ : ∃ z, cmI x y = z := ⟨_, rfl⟩
        have hk0 : decide (k ≥ 0) = true := by
          have : ¬ (cmI x y < 0) := fun e : cmI x y < 0 => hc (decide_eq_true (cmI_lt.1 e))
          rw [hk] at this
          simp; omega
        have hk1 : decide (0 ≤ k) = true := by rw [← hk0]
        have P : Hid (∀ q : Later wr, _) := fun q : Later wr => cmp_bel x y q.val
        rw [hk] at P
        clear hc hk hc'
        go_wp2_with fail
        have l0 := fun q : Later wr => lI ((H.out.1.below J.out.2).below q.below) HX.out.1
        have l1 := fun q : Later wr => lI ((H.out.1.below J.out.2).below q.below) HX.out.2
        refine wp_region_later (by kernel_rfl) (by kernel_rfl) ?_
        repeat (go_big_quiet_step (first | exact rfl | (go_at_call 52; with_reducible exact Calls.later_of (P.out _))))
        refine wpQuiet_nil ?_
        intro _ hw'
        obtain ⟨q, rfl⟩ := hw'
        clear l0 l1
        go_wp2
        go_ret
        exact ⟨ret_bool E.out.symm, below_later J.out.2 q⟩
    · have hi1 : ¬ (i : Int) + 1 < (n : Int) := by omega
      have E : Hid (R = true) := by rw [J.out.1, ris_end (by rw [H.out.2]; omega)]; exact rfl
      clear hf hB
      go_wp2
      go_ret
      exact ⟨ret_bool E.out.symm, J.out.2⟩
set_option maxHeartbeats 2000000 in
theorem risC_any (a : Option Addr) (n c : Nat) (l : List Cr) (w : World) (hs : SlAt eC w a n c l) :
    Calls Try.prog 72 #[.slice a n c, .func (.func 21) #[] #[]] w fun r w' => r = .returned (.bool (ris ltC l)) ∧ Below w.heap.size w w' := by
  have hnn := hs.int
  obtain ⟨R, hR⟩ : ∃ z, ris ltC l = z := ⟨_, rfl⟩
  have H : Hid (SlAt eC w a n c l ∧ l.length = n) := ⟨hs, hs.len⟩
  have HR : Hid (ris ltC l = R) := hR
  rw [hR]
  clear hs hR
  go_enter Try.func72, Try.ntmps72
  go_wp2_with fail
  go_loopw [5] (fun v wr => ∃ i : Nat, (i + 1 ≤ n ∨ i = 0) ∧ v = .int .i64 ((i : Int) + 1) ∧ R = ris ltC (l.drop i) ∧ Below w.heap.size w wr) (fun v _ => n - (intOf v).toNat)
  case atStart => exact ⟨0, Or.inr rfl, rfl, HR.out.symm, Below.refl _ _⟩
  case round =>
    obtain ⟨i, hi, rfl, hf, hB⟩ := hrel
    have J : Hid (R = ris ltC (l.drop i) ∧ Below w.heap.size w wr) := ⟨hf, hB⟩
    have hi0 : (0 : Int) ≤ (i : Int) := by omega
    have hi3 : (0 : Int) ≤ (i : Int) + 1 := by omega
    have hi4 : (i : Int) + 1 ≤ 9223372036854775807 := by omega
    have hi5 : (i : Int) + 1 - 1 = (i : Int) := by omega
    by_cases hit : i + 1 < n
    · have hi1 : (i : Int) + 1 < (n : Int) := by omega
      have hi2 : (i : Int) < (n : Int) := by omega
      obtain ⟨b, o, rfl⟩ := H.out.1.some' (by omega)
      obtain ⟨x, hx⟩ := lt_nth (l := l) (i := i) (by rw [H.out.2]; omega)
      obtain ⟨y, hy⟩ := lt_nth (l := l) (i := i + 1) (by rw [H.out.2]; exact hit)
      have HX : Hid (l[i]? = some x ∧ l[i + 1]? = some y) := ⟨hx, hy⟩
      clear hf hB hx hy
      by_cases hc : ltC x y = true
      · have E : Hid (R = ris ltC (l.drop (i + 1))) := by rw [J.out.1, ris_yes HX.out.1 HX.out.2 hc]; exact rfl
        obtain ⟨k, hk⟩ : ∃ z, cmC x y = z := ⟨_, rfl⟩
        have hk0 : decide (k ≥ 0) = false := by
          have : cmC x y < 0 := (cmI_lt (a := x.s) (b := y.s)).2 (of_decide_eq_true hc)
          rw [hk] at this
          simp; omega
        have hk1 : decide (0 ≤ k) = false := by rw [← hk0]
        have P : Hid (∀ q : Later wr, _) := fun q : Later wr => byC_any x y q.val
        rw [hk] at P
        clear hc hk
        go_wp2_with fail
        have l0 := fun q : Later wr => lC ((H.out.1.below J.out.2).below q.below) HX.out.1
        have l1 := fun q : Later wr => lC ((H.out.1.below J.out.2).below q.below) HX.out.2
        refine wp_region_later (by kernel_rfl) (by kernel_rfl) ?_
        repeat (go_big_quiet_step (first | exact rfl | (go_at_call 21; with_reducible exact Calls.later_of (P.out _))))
        refine wpQuiet_nil ?_
        intro _ hw'
        obtain ⟨q, rfl⟩ := hw'
        clear l0 l1
        go_wp2
        go_roundw
        case rel => exact ⟨i + 1, by omega, by go_num, E.out, below_later J.out.2 q⟩
        case measure => simp [intOf]; omega
      · have hc' : ltC x y = false := by simpa using hc
        have E : Hid (R = false) := by rw [J.out.1, ris_no HX.out.1 HX.out.2 hc']; exact rfl
        obtain ⟨k, hk⟩ : ∃ z, cmC x y = z := ⟨_, rfl⟩
        have hk0 : decide (k ≥ 0) = true := by
          have : ¬ (cmC x y < 0) := fun e : cmC x y < 0 => hc (decide_eq_true (cmI_lt.1 e))
          rw [hk] at this
          simp; omega
        have hk1 : decide (0 ≤ k) = true := by rw [← hk0]
        have P : Hid (∀ q : Later wr, _) := fun q : Later wr => byC_any x y q.val
        rw [hk] at P
        clear hc hk hc'
        go_wp2_with fail
        have l0 := fun q : Later wr => lC ((H.out.1.below J.out.2).below q.below) HX.out.1
        have l1 := fun q : Later wr => lC ((H.out.1.below J.out.2).below q.below) HX.out.2
        refine wp_region_later (by kernel_rfl) (by kernel_rfl) ?_
        repeat (go_big_quiet_step (first | exact rfl | (go_at_call 21; with_reducible exact Calls.later_of (P.out _))))
        refine wpQuiet_nil ?_
        intro _ hw'
        obtain ⟨q, rfl⟩ := hw'
        clear l0 l1
        go_wp2
        go_ret
        exact ⟨ret_bool E.out.symm, below_later J.out.2 q⟩
    · have hi1 : ¬ (i : Int) + 1 < (n : Int) := by omega
      have E : Hid (R = true) := by rw [J.out.1, ris_end (by rw [H.out.2]; omega)]; exact rfl
      clear hf hB
      go_wp2
      go_ret
      exact ⟨ret_bool E.out.symm, J.out.2⟩
set_option maxHeartbeats 2000000 in
theorem risM_any (a : Option Addr) (n c : Nat) (l : List Mp) (w : World) (hs : SlAt eM w a n c l) :
    Calls Try.prog 74 #[.slice a n c, .func (.func 16) #[] #[]] w fun r w' => r = .returned (.bool (ris ltM l)) ∧ Below w.heap.size w w' := by
  have hnn := hs.int
  obtain ⟨R, hR⟩ : ∃ z, ris ltM l = z := ⟨_, rfl⟩
  have H : Hid (SlAt eM w a n c l ∧ l.length = n) := ⟨hs, hs.len⟩
  have HR : Hid (ris ltM l = R) := hR
  rw [hR]
  clear hs hR
  go_enter Try.func74, Try.ntmps74
  go_wp2_with fail
  go_loopw [5] (fun v wr => ∃ i : Nat, (i + 1 ≤ n ∨ i = 0) ∧ v = .int .i64 ((i : Int) + 1) ∧ R = ris ltM (l.drop i) ∧ Below w.heap.size w wr) (fun v _ => n - (intOf v).toNat)
  case atStart => exact ⟨0, Or.inr rfl, rfl, HR.out.symm, Below.refl _ _⟩
  case round =>
    obtain ⟨i, hi, rfl, hf, hB⟩ := hrel
    have J : Hid (R = ris ltM (l.drop i) ∧ Below w.heap.size w wr) := ⟨hf, hB⟩
    have hi0 : (0 : Int) ≤ (i : Int) := by omega
    have hi3 : (0 : Int) ≤ (i : Int) + 1 := by omega
    have hi4 : (i : Int) + 1 ≤ 9223372036854775807 := by omega
    have hi5 : (i : Int) + 1 - 1 = (i : Int) := by omega
    by_cases hit : i + 1 < n
    · have hi1 : (i : Int) + 1 < (n : Int) := by omega
      have hi2 : (i : Int) < (n : Int) := by omega
      obtain ⟨b, o, rfl⟩ := H.out.1.some' (by omega)
      obtain ⟨x, hx⟩ := lt_nth (l := l) (i := i) (by rw [H.out.2]; omega)
      obtain ⟨y, hy⟩ := lt_nth (l := l) (i := i + 1) (by rw [H.out.2]; exact hit)
      have HX : Hid (l[i]? = some x ∧ l[i + 1]? = some y) := ⟨hx, hy⟩
      clear hf hB hx hy
      by_cases hc : ltM x y = true
      · have E : Hid (R = ris ltM (l.drop (i + 1))) := by rw [J.out.1, ris_yes HX.out.1 HX.out.2 hc]; exact rfl
        obtain ⟨k, hk⟩ : ∃ z, cmM x y = z := ⟨_, rfl⟩
        have hk0 : decide (k ≥ 0) = false := by
          have := cmM_lt.2 hc
          rw [hk] at this
          simp; omega
        have hk1 : decide (0 ≤ k) = false := by rw [← hk0]
        have P : Hid (∀ q : Later wr, _) := fun q : Later wr => byM_any x y q.val
        rw [hk] at P
        clear hc hk
        go_wp2_with fail
        have l0 := fun q : Later wr => lM ((H.out.1.below J.out.2).below q.below) HX.out.1
        have l1 := fun q : Later wr => lM ((H.out.1.below J.out.2).below q.below) HX.out.2
        refine wp_region_later (by kernel_rfl) (by kernel_rfl) ?_
        repeat (go_big_quiet_step (first | exact rfl | (go_at_call 16; with_reducible exact Calls.later_of (P.out _))))
        refine wpQuiet_nil ?_
        intro _ hw'
        obtain ⟨q, rfl⟩ := hw'
        clear l0 l1
        go_wp2
        go_roundw
        case rel => exact ⟨i + 1, by omega, by go_num, E.out, below_later J.out.2 q⟩
        case measure => simp [intOf]; omega
      · have hc' : ltM x y = false := by simpa using hc
        have E : Hid (R = false) := by rw [J.out.1, ris_no HX.out.1 HX.out.2 hc']; exact rfl
        obtain ⟨k, hk⟩ : ∃ z, cmM x y = z := ⟨_, rfl⟩
        have hk0 : decide (k ≥ 0) = true := by
          have : ¬ (cmM x y < 0) := fun e : cmM x y < 0 => hc (cmM_lt.1 e)
          rw [hk] at this
          simp; omega
        have hk1 : decide (0 ≤ k) = true := by rw [← hk0]
        have P : Hid (∀ q : Later wr, _) := fun q : Later wr => byM_any x y q.val
        rw [hk] at P
        clear hc hk hc'
        go_wp2_with fail
        have l0 := fun q : Later wr => lM ((H.out.1.below J.out.2).below q.below) HX.out.1
        have l1 := fun q : Later wr => lM ((H.out.1.below J.out.2).below q.below) HX.out.2
        refine wp_region_later (by kernel_rfl) (by kernel_rfl) ?_
        repeat (go_big_quiet_step (first | exact rfl | (go_at_call 16; with_reducible exact Calls.later_of (P.out _))))
        refine wpQuiet_nil ?_
        intro _ hw'
        obtain ⟨q, rfl⟩ := hw'
        clear l0 l1
        go_wp2
        go_ret
        exact ⟨ret_bool E.out.symm, below_later J.out.2 q⟩
    · have hi1 : ¬ (i : Int) + 1 < (n : Int) := by omega
      have E : Hid (R = true) := by rw [J.out.1, ris_end (by rw [H.out.2]; omega)]; exact rfl
      clear hf hB
      go_wp2
      go_ret
      exact ⟨ret_bool E.out.symm, J.out.2⟩
def ltR (a b : Mr) : Bool := decide (a.v < b.v)
set_option maxHeartbeats 2000000 in
theorem risB_any (a : Option Addr) (n c : Nat) (l : List Mr) (w : World) (hs : SlAt eB w a n c l) :
    Calls Try.prog 71 #[.slice a n c, .func (.func 27) #[] #[]] w fun r w' => r = .returned (.bool (ris ltR l)) ∧ Below w.heap.size w w' := by
  have hnn := hs.int
  obtain ⟨R, hR⟩ : ∃ z, ris ltR l = z := ⟨_, rfl⟩
  have H : Hid (SlAt eB w a n c l ∧ l.length = n) := ⟨hs, hs.len⟩
  have HR : Hid (ris ltR l = R) := hR
  rw [hR]
  clear hs hR
  go_enter Try.func71, Try.ntmps71
  go_wp2_with fail
  go_loopw [5] (fun v wr => ∃ i : Nat, (i + 1 ≤ n ∨ i = 0) ∧ v = .int .i64 ((i : Int) + 1) ∧ R = ris ltR (l.drop i) ∧ Below w.heap.size w wr) (fun v _ => n - (intOf v).toNat)
  case atStart => exact ⟨0, Or.inr rfl, rfl, HR.out.symm, Below.refl _ _⟩
  case round =>
    obtain ⟨i, hi, rfl, hf, hB⟩ := hrel
    have J : Hid (R = ris ltR (l.drop i) ∧ Below w.heap.size w wr) := ⟨hf, hB⟩
    have hi0 : (0 : Int) ≤ (i : Int) := by omega
    have hi3 : (0 : Int) ≤ (i : Int) + 1 := by omega
    have hi4 : (i : Int) + 1 ≤ 9223372036854775807 := by omega
    have hi5 : (i : Int) + 1 - 1 = (i : Int) := by omega
    by_cases hit : i + 1 < n
    · have hi1 : (i : Int) + 1 < (n : Int) := by omega
      have hi2 : (i : Int) < (n : Int) := by omega
      obtain ⟨b, o, rfl⟩ := H.out.1.some' (by omega)
      obtain ⟨x, hx⟩ := lt_nth (l := l) (i := i) (by rw [H.out.2]; omega)
      obtain ⟨y, hy⟩ := lt_nth (l := l) (i := i + 1) (by rw [H.out.2]; exact hit)
      have HX : Hid (l[i]? = some x ∧ l[i + 1]? = some y) := ⟨hx, hy⟩
      clear hf hB hx hy
      by_cases hc : ltR x y = true
      · have E : Hid (R = ris ltR (l.drop (i + 1))) := by rw [J.out.1, ris_yes HX.out.1 HX.out.2 hc]; exact rfl
        obtain ⟨k, hk⟩ : ∃ z, cmI x.v y.v = z := ⟨_, rfl⟩
        have hk0 : decide (k ≥ 0) = false := by
          have := cmI_lt.2 (of_decide_eq_true hc)
          rw [hk] at this
          simp; omega
        have hk1 : decide (0 ≤ k) = false := by rw [← hk0]
        have P : Hid (∀ q : Later wr, _) := fun q : Later wr => byB_any x y q.val
        rw [hk] at P
        clear hc hk
        go_wp2_with fail
        have l0 := fun q : Later wr => lB ((H.out.1.below J.out.2).below q.below) HX.out.1
        have l1 := fun q : Later wr => lB ((H.out.1.below J.out.2).below q.below) HX.out.2
        refine wp_region_later (by kernel_rfl) (by kernel_rfl) ?_
        repeat (go_big_quiet_step (first | exact rfl | (go_at_call 27; with_reducible exact Calls.later_of (P.out _))))
        refine wpQuiet_nil ?_
        intro _ hw'
        obtain ⟨q, rfl⟩ := hw'
        clear l0 l1
        go_wp2
        go_roundw
        case rel => exact ⟨i + 1, by omega, by go_num, E.out, below_later J.out.2 q⟩
        case measure => simp [intOf]; omega
      · have hc' : ltR x y = false := by simpa using hc
        have E : Hid (R = false) := by rw [J.out.1, ris_no HX.out.1 HX.out.2 hc']; exact rfl
        obtain ⟨k, hk⟩ : ∃ z, cmI x.v y.v = z := ⟨_, rfl⟩
        have hk0 : decide (k ≥ 0) = true := by
          have : ¬ (cmI x.v y.v < 0) := fun e : cmI x.v y.v < 0 => hc (decide_eq_true (cmI_lt.1 e))
          rw [hk] at this
          simp; omega
        have hk1 : decide (0 ≤ k) = true := by rw [← hk0]
        have P : Hid (∀ q : Later wr, _) := fun q : Later wr => byB_any x y q.val
        rw [hk] at P
        clear hc hk hc'
        go_wp2_with fail
        have l0 := fun q : Later wr => lB ((H.out.1.below J.out.2).below q.below) HX.out.1
        have l1 := fun q : Later wr => lB ((H.out.1.below J.out.2).below q.below) HX.out.2
        refine wp_region_later (by kernel_rfl) (by kernel_rfl) ?_
        repeat (go_big_quiet_step (first | exact rfl | (go_at_call 27; with_reducible exact Calls.later_of (P.out _))))
        refine wpQuiet_nil ?_
        intro _ hw'
        obtain ⟨q, rfl⟩ := hw'
        clear l0 l1
        go_wp2
        go_ret
        exact ⟨ret_bool E.out.symm, below_later J.out.2 q⟩
    · have hi1 : ¬ (i : Int) + 1 < (n : Int) := by omega
      have E : Hid (R = true) := by rw [J.out.1, ris_end (by rw [H.out.2]; omega)]; exact rfl
      clear hf hB
      go_wp2
      go_ret
      exact ⟨ret_bool E.out.symm, J.out.2⟩
end Go.Proofs.Ytmfjlhcobhilcab
