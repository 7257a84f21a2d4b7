/-
  A queue that nobody made is none: the walk of the law, for every input.
-/
import Derived.Test.YtoojoiindfgoeaaLNob
namespace Go.Proofs.Ytoojoiindfgoeaa
set_option linter.unusedVariables false
set_option maxRecDepth 4000
set_option linter.unusedSimpArgs false
open Go.RowKit Go.Conc
attribute [local go_sem ↓] apU apL bsU bsL slL slU
attribute [local go_sem] bzU bzL b1S
set_option maxHeartbeats 8000000 in
theorem nobody_law (a : Option Addr) (n k : Nat) (l : List Int) (w : World) (h : SlAt eU w a n k l) :
    Calls Try.prog 5 #[.slice a n k] w fun r w' => r = .returned (.bool true) ∧ Below w.heap.size w w' := by
  have hnn := h.int
  obtain ⟨m, hm⟩ : ∃ e : Nat, min n 100 = e := ⟨_, rfl⟩
  have f1 : (if (100 : Int) < (n : Int) then (100 : Int) else (n : Int)) = (m : Int) := by split <;> omega
  have f2 : ∀ Z : World, (slS 33 (.slice a n k) none (some (.int .i64 m)) none).run Try.prog Z = .ok (.slice a m k) Z := slU_cut a n k m (by omega) h.cap
  clear h hm
  go_enter Try.func5, Try.ntmps5
  go_wp2_with fail
  have b1 : Below w.heap.size w (w.alloc (.cells #[.chan none] 50)) := (Below.refl _ _).alloc (Nat.le_refl _) _
  have q1 : RvAt (w.alloc (.cells #[.chan none] 50)) w.heap.size 50 #[.chan none] := RvAt.new w _ _
  have e1 : (w.alloc (.cells #[.chan none] 50)).heap.size = w.heap.size + 1 := by simp
  obtain ⟨W1, hW1⟩ : ∃ e, w.alloc (.cells #[.chan none] 50) = e := ⟨_, rfl⟩
  rw [hW1] at b1 q1 e1 ⊢
  clear hW1
  have b2 : Below W1.heap.size W1 (W1.alloc (.cells #[.pointer none, .pointer (some ⟨w.heap.size, 0, none⟩)] 23)) := (Below.refl _ _).alloc (Nat.le_refl _) _
  have q2 : RvAt (W1.alloc (.cells #[.pointer none, .pointer (some ⟨w.heap.size, 0, none⟩)] 23)) W1.heap.size 23 #[.pointer none, .pointer (some ⟨w.heap.size, 0, none⟩)] := RvAt.new W1 _ _
  obtain ⟨W2, hW2⟩ : ∃ e, W1.alloc (.cells #[.pointer none, .pointer (some ⟨w.heap.size, 0, none⟩)] 23) = e := ⟨_, rfl⟩
  rw [hW2] at b2 q2 ⊢
  rw [e1] at q2
  clear hW2
  obtain ⟨g, hg⟩ : ∃ e, w.heap.size = e := ⟨_, rfl⟩
  have K : Hid (Below w.heap.size w W2 ∧ RvAt W2 (g + 1) 23 #[.pointer none, .pointer (some ⟨g, 0, none⟩)] ∧ RvAt W2 g 50 #[.chan none]) := by
    rw [← hg]
    exact ⟨below_over b1 b2, q2, q1.below b2⟩
  rw [hg]
  clear hg b1 q1 e1 b2 q2
  go_loopw [13] (fun v13 wx => ∃ i : Nat, i ≤ 2 ∧ v13 = .int .i64 i ∧ wx = W2) (fun v13 _ => 2 - (intOf v13).toNat)
  case atStart => exact ⟨0, by omega, rfl, rfl⟩
  case round =>
    obtain ⟨i, hi, rfl, rfl⟩ := hrel
    by_cases hi2 : i < 2
    · have hi3 : (i : Int) < 2 := by omega
      obtain ⟨p, hp⟩ : ∃ p : Option Addr, (#[.pointer none, .pointer (some ⟨g, 0, none⟩)] : Array Value)[i]? = some (.pointer p) ∧ NobQ wr p := by
        rcases i with _ | _ | i
        · exact ⟨none, rfl, .inl rfl⟩
        · exact ⟨some ⟨g, 0, none⟩, rfl, .inr ⟨g, rfl, K.out.2.2⟩⟩
        · omega
      have c1 := K.out.2.1.cell i _ hp.1
      have HP : Hid (NobQ wr p ∧ i < 2) := ⟨hp.2, hi2⟩
      clear hp hi2
      go_wp2_with fail
      refine (ntake_any HP.out.1).mono ?_
      rintro _ _ ⟨rfl, rfl⟩
      go_wp2_with fail
      refine (nput_any HP.out.1 _).mono ?_
      rintro _ _ ⟨rfl, rfl⟩
      go_wp2_with fail
      refine (nlen_any HP.out.1).mono ?_
      rintro _ _ ⟨rfl, rfl⟩
      go_wp2_with fail
      refine (nroom_any HP.out.1).mono ?_
      rintro _ _ ⟨rfl, rfl⟩
      go_wp2_with fail
      refine (nall_any HP.out.1).mono ?_
      rintro _ _ ⟨rfl, rfl⟩
      go_wp2_with fail
      refine (nclear_any HP.out.1).mono ?_
      rintro _ _ ⟨rfl, rfl⟩
      go_wp2_with fail
      refine (nfork_any HP.out.1).mono ?_
      rintro _ _ ⟨rfl, rfl⟩
      go_wp2
      go_roundw
      case rel => exact ⟨i + 1, by have := HP.out; omega, by go_num, trivial⟩
      case measure => have := HP.out; simp [intOf]; omega
    · have hi3 : ¬ (i : Int) < 2 := by omega
      go_wp2_with fail
      refine (awake_any wr).mono ?_
      rintro _ X ⟨rfl, b⟩
      go_wp2
      go_ret
      exact ⟨rfl, below_over K.out.1 b⟩
end Go.Proofs.Ytoojoiindfgoeaa
