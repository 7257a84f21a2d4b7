/-
  Which graphs may be: the walk of Check, for every input.
-/
import Derived.Test.YtcagdfdhpbeolaaCk
namespace Go.Proofs.Ytcagdfdhpbeolaa
set_option linter.unusedVariables false
set_option maxRecDepth 4000
set_option linter.unusedSimpArgs false
open Go.RowKit

/-- May a graph be? -/
def chkI (ids : List Nat) (es : List Eg) : Bool := decide ((1 : Int) ≤ (ids.length : Int) ∧ (ids.length : Int) ≤ 7) && !decide ((es.length : Int) > 24) && !dup sameA (asI ids) && !es.any (wrongE (ids.length : Int)) && !dup sameP (portsE es)
def errI (ids : List Nat) (es : List Eg) : Int := if chkI ids es = true then 0 else 160
theorem err_no {ids : List Nat} {es : List Eg} (h : chkI ids es = false) : errI ids es = 160 := by unfold errI; rw [h]; rfl
theorem err_ok {ids : List Nat} {es : List Eg} (h : chkI ids es = true) : errI ids es = 0 := by unfold errI; rw [h]; rfl
set_option maxHeartbeats 4000000 in
theorem scheck_any (a : Option Addr) (n c : Nat) (ids : List Nat) (a' : Option Addr) (n' c' : Nat) (es : List Eg) (w : World) (hs : SlAt eU w a n c ids) (ht : SlAt eE w a' n' c' es) (hl : ∀ x ∈ ids, x < 18446744073709551616) (hn : n ≤ 100) (hm : n' ≤ 100) :
    Calls Try.prog 13 #[.slice a n c, .slice a' n' c'] w fun r w' => r = .returned (.int .i64 (errI ids es)) ∧ Below w.heap.size w w' := by
  obtain ⟨W, hW⟩ : ∃ W, w.alloc (.cells #[.slice a n c] 22) = W := ⟨_, rfl⟩
  have bW : Below w.heap.size w W := by rw [← hW]; exact (Below.refl _ _).alloc (Nat.le_refl _) _
  have r0 : RvAt W w.heap.size 22 #[.slice a n c] := by rw [← hW]; exact RvAt.new w _ _
  have c0 := r0.cell 0 _ rfl
  have hnn := hs.int
  have hmm := ht.int
  have H : Hid (SlAt eU W a n c ids ∧ SlAt eE W a' n' c' es ∧ RvAt W w.heap.size 22 #[.slice a n c] ∧ Below w.heap.size w W ∧ (∀ x ∈ ids, x < 18446744073709551616) ∧ n ≤ 100 ∧ n' ≤ 100) := ⟨hs.below bW, ht.below bW, r0, bW, hl, hn, hm⟩
  have hi : ids.length = n := hs.len
  have he : es.length = n' := ht.len
  have D : Hid (chkI ids es = (decide ((1 : Int) ≤ (n : Int) ∧ (n : Int) ≤ 7) && !decide ((n' : Int) > 24) && !dup sameA (asI ids) && !es.any (wrongE (n : Int)) && !dup sameP (portsE es))) := by show _ = _; unfold chkI; rw [hi, he]
  clear hs ht hl hn hm r0 bW hi he
  cases p1 : decide ((1 : Int) ≤ (n : Int) ∧ (n : Int) ≤ 7)
  · have P1 : Hid (∀ w : World, _) := within_is p1
    rw [err_no (show chkI ids es = false by rw [D.out, p1]; rfl)]
    go_enter Try.func13, Try.ntmps13
    go_wp2_with fail
    refine (P1.out _).mono ?_
    rintro _ W1 ⟨rfl, b1⟩
    go_wp2
    go_ret
    exact ⟨rfl, below_over H.out.2.2.2.1 b1⟩
  · have P1 : Hid (∀ w : World, _) := within_is p1
    by_cases h2 : (n' : Int) > 24
    · rw [err_no (show chkI ids es = false by rw [D.out, p1]; simp [h2])]
      go_enter Try.func13, Try.ntmps13
      go_wp2_with fail
      refine (P1.out _).mono ?_
      rintro _ W1 ⟨rfl, b1⟩
      go_wp2
      go_ret
      exact ⟨rfl, below_over H.out.2.2.2.1 b1⟩
    · have D2 : Hid (chkI ids es = (!dup sameA (asI ids) && !es.any (wrongE (n : Int)) && !dup sameP (portsE es))) := by
        have := D.out
        rw [p1] at this
        show _ = _
        simpa [h2] using this
      have P3 : Hid (∀ W1, Below W.heap.size W W1 → _) := fun W1 b1 => sharedA_any a n c ids W1 (H.out.1.below b1) H.out.2.2.2.2.1 H.out.2.2.2.2.2.1
      cases p3 : dup sameA (asI ids)
      rotate_left
      · rw [p3] at P3
        rw [err_no (show chkI ids es = false by rw [D2.out, p3]; rfl)]
        clear p1 D
        go_enter Try.func13, Try.ntmps13
        go_wp2_with fail
        refine (P1.out _).mono ?_
        rintro _ W1 ⟨rfl, b1⟩
        have c1 := (H.out.2.2.1.below b1).cell 0 _ rfl
        have B1 : Hid (Below W.heap.size W W1) := b1
        clear b1
        go_wp2_with fail
        refine (P3.out _ B1.out).mono ?_
        rintro _ W2 ⟨rfl, b2⟩
        go_wp2
        go_ret
        exact ⟨rfl, below_over H.out.2.2.2.1 (below_over B1.out b2)⟩
      · rw [p3] at P3
        have P4 : Hid (∀ W1, Below W.heap.size W W1 → _) := fun W1 b1 => containsE_any a' n' c' es w.heap.size a n c W1 (H.out.2.1.below b1) ((H.out.2.2.1.below b1).cell 0 _ rfl) H.out.2.2.2.2.2.1
        cases p4 : es.any (wrongE (n : Int))
        rotate_left
        · rw [p4] at P4
          rw [err_no (show chkI ids es = false by rw [D2.out, p3, p4]; rfl)]
          clear p1 D
          go_enter Try.func13, Try.ntmps13
          go_wp2_with fail
          refine (P1.out _).mono ?_
          rintro _ W1 ⟨rfl, b1⟩
          have c1 := (H.out.2.2.1.below b1).cell 0 _ rfl
          have B1 : Hid (Below W.heap.size W W1) := b1
          clear b1
          go_wp2_with fail
          refine (P3.out _ B1.out).mono ?_
          rintro _ W2 ⟨rfl, b2⟩
          have B2 : Hid (Below W.heap.size W W2) := below_over B1.out b2
          clear b2
          go_wp2_with fail
          refine (P4.out _ B2.out).mono ?_
          rintro _ W3 ⟨rfl, b3⟩
          go_wp2
          go_ret
          exact ⟨rfl, below_over H.out.2.2.2.1 (below_over B2.out b3)⟩
        · rw [p4] at P4
          have P5 : Hid (∀ W1, Below W.heap.size W W1 → _) := fun W1 b1 => sharedP_any a' n' c' es W1 (H.out.2.1.below b1) H.out.2.2.2.2.2.2
          cases p5 : dup sameP (portsE es)
          all_goals
            rw [p5] at P5
            first
              | rw [err_no (show chkI ids es = false by rw [D2.out, p3, p4, p5]; rfl)]
              | rw [err_ok (show chkI ids es = true by rw [D2.out, p3, p4, p5]; rfl)]
            clear p1 D
            go_enter Try.func13, Try.ntmps13
            go_wp2_with fail
            refine (P1.out _).mono ?_
            rintro _ W1 ⟨rfl, b1⟩
            have c1 := (H.out.2.2.1.below b1).cell 0 _ rfl
            have B1 : Hid (Below W.heap.size W W1) := b1
            clear b1
            go_wp2_with fail
            refine (P3.out _ B1.out).mono ?_
            rintro _ W2 ⟨rfl, b2⟩
            have B2 : Hid (Below W.heap.size W W2) := below_over B1.out b2
            clear b2
            go_wp2_with fail
            refine (P4.out _ B2.out).mono ?_
            rintro _ W3 ⟨rfl, b3⟩
            have B3 : Hid (Below W.heap.size W W3) := below_over B2.out b3
            clear b3
            go_wp2_with fail
            refine (P5.out _ B3.out).mono ?_
            rintro _ W4 ⟨rfl, b4⟩
            go_wp2
            go_ret
            exact ⟨rfl, below_over H.out.2.2.2.1 (below_over B3.out b4)⟩
end Go.Proofs.Ytcagdfdhpbeolaa
