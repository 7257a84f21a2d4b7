/-
  Names: the walk of the law, for every input.
-/
import Derived.Test.YtammaaiknjgjbaaTp
import Derived.Test.YtammaaiknjgjbaaTw
namespace Go.Proofs.Ytammaaiknjgjbaa
set_option linter.unusedVariables false
set_option maxRecDepth 4000
set_option linter.unusedSimpArgs false
open Go.RowKit
theorem nms_one : ∀ i : Fin 15, ∀ j : Fin 15, nms[i.val]? = nms[j.val]? → i = j := by decide +kernel
theorem ParOut.uniq {s : ByteArray} {x y : Int} {a b : Bool} (h1 : ParOut s x a) (h2 : ParOut s y b) : x = y ∧ a = b := by
  rcases h1 with ⟨rfl, i, h3, h4, rfl, h5⟩ | ⟨rfl, rfl, h3⟩
  · rcases h2 with ⟨rfl, j, h6, h7, rfl, h8⟩ | ⟨rfl, rfl, h6⟩
    · have := nms_one ⟨i, h4⟩ ⟨j, h7⟩ (by show nms[i]? = nms[j]?; rw [h5, h8])
      cases this
      exact ⟨rfl, rfl⟩
    · exact absurd h5 (h6 i h3 h4)
  · rcases h2 with ⟨rfl, j, h6, h7, rfl, h8⟩ | ⟨rfl, rfl, h6⟩
    · exact absurd h8 (h3 j h6 h7)
    · exact ⟨rfl, rfl⟩
theorem ParOut.name {s : ByteArray} {x : Int} (h : ParOut s x true) : nameOf x = s := by
  rcases h with ⟨_, i, h3, h4, rfl, h5⟩ | ⟨e, _⟩
  · have hw : okW (i : Int) = true := by unfold okW; exact decide_eq_true (by omega)
    unfold nameOf
    rw [if_pos hw, Int.toNat_natCast, List.getD_eq_getElem?_getD, h5]
    rfl
  · cases e
theorem name_par (w : Int) : ParOut (nameOf w) (if okW w then w else 0) (okW w) := by
  cases hw : okW w with
  | true =>
    have hw' : 1 ≤ w ∧ w ≤ 14 := by unfold okW at hw; exact of_decide_eq_true hw
    refine .inl ⟨rfl, w.toNat, by omega, by omega, by rw [if_pos rfl]; omega, ?_⟩
    have hl : w.toNat < nms.length := by show w.toNat < 15; omega
    unfold nameOf
    rw [if_pos hw, List.getD_eq_getElem?_getD, List.getElem?_eq_getElem hl]
    rfl
  | false =>
    refine .inr ⟨rfl, by simp, fun i h1 h2 e => ?_⟩
    have h3 : nameOf w = ⟨#[]⟩ := by unfold nameOf; simp [hw]
    rw [h3] at e
    have := nms_one ⟨i, h2⟩ ⟨0, by omega⟩ (by show nms[i]? = nms[0]?; rw [e]; rfl)
    cases this
    omega
set_option maxHeartbeats 8000000 in
theorem names_law (w : Int) (s : ByteArray) (W : World) : Calls Try.prog 4 #[.int .i64 w, .string s] W fun e W' => e = .returned (.bool true) ∧ Below W.heap.size W W' := by
  go_enter Try.func4, Try.ntmps4
  by_cases h60 : 60 < (s.size : Int)
  · obtain ⟨t, ht⟩ : ∃ e, s.extract 0 60 = e := ⟨_, rfl⟩
    go_wp2_with fail
    clear ht h60
    refine (parse_any t W).mono ?_
    rintro _ X1 ⟨x, ok, rfl, p1, b1⟩
    have K1 : Hid (ParOut t x ok ∧ Below W.heap.size W X1) := ⟨p1, b1⟩
    clear p1 b1
    go_wp2_with fail
    refine (rparse_any t X1).mono ?_
    rintro _ X2 ⟨y, is, rfl, p2, b2⟩
    obtain ⟨rfl, rfl⟩ := ParOut.uniq K1.out.1 p2
    have K2 : Hid (Below W.heap.size W X2) := below_over K1.out.2 b2
    clear p2 b2
    go_wp2_with fail
    refine (name_any w X2).mono ?_
    rintro _ X3 ⟨rfl, b3⟩
    have K3 : Hid (Below W.heap.size W X3) := below_over K2.out b3
    clear b3 K2
    have PW : Hid (ParOut (nameOf w) (if okW w then w else 0) (okW w)) := name_par w
    obtain ⟨nn, hnn⟩ : ∃ e, nameOf w = e := ⟨_, rfl⟩
    rw [hnn] at PW ⊢
    have HN : Hid (nameOf w = nn) := hnn
    clear hnn
    go_wp2_with fail
    refine (parse_any nn X3).mono ?_
    rintro _ X4 ⟨back, has, rfl, p4, b4⟩
    obtain ⟨rfl, rfl⟩ := ParOut.uniq p4 PW.out
    have K4 : Hid (Below W.heap.size W X4) := below_over K3.out b4
    clear p4 b4 K3
    have C5 : Hid (Calls Try.prog 24 #[.int .i64 w] X4 fun e W' => e = .returned (.string nn) ∧ Below X4.heap.size X4 W') := by rw [← HN.out]; exact rname_any w X4
    have nb := ba_self nn
    have xx : (x == x) = true := by simp
    have ww : (w == w) = true := by simp
    have oo : (ok == ok) = true := by simp
    by_cases h1 : 1 ≤ w
    · by_cases h2 : w ≤ 14
      · have e : okW w = true := by unfold okW; simp [h1, h2]
        rw [e, if_pos rfl]
        clear e
        cases ok with
        | true =>
          have ne := K1.out.1.name
          have C6 : Hid (∀ V : World, Calls Try.prog 23 #[.int .i64 x] V fun e W' => e = .returned (.string t) ∧ Below V.heap.size V W') := fun V => by rw [← ne]; exact name_any x V
          clear ne
          have tb := ba_self t
          go_wp2_with fail
          refine C5.out.mono ?_
          rintro _ X5 ⟨rfl, b5⟩
          have K5 : Hid (Below W.heap.size W X5) := below_over K4.out b5
          clear b5
          go_wp2_with fail
          refine (C6.out X5).mono ?_
          rintro _ X6 ⟨rfl, b6⟩
          have K6 : Hid (Below W.heap.size W X6) := below_over K5.out b6
          clear b6
          go_wp2_with fail
          refine (awake_any X6).mono ?_
          rintro _ X7 ⟨rfl, b7⟩
          go_wp2
          go_ret
          exact ⟨rfl, below_over K6.out b7⟩
        | false =>
          go_wp2_with fail
          refine C5.out.mono ?_
          rintro _ X5 ⟨rfl, b5⟩
          have K5 : Hid (Below W.heap.size W X5) := below_over K4.out b5
          clear b5
          go_wp2_with fail
          refine (awake_any X5).mono ?_
          rintro _ X7 ⟨rfl, b7⟩
          go_wp2
          go_ret
          exact ⟨rfl, below_over K5.out b7⟩
      · have d2 : decide (w ≤ 14) = false := by simpa using h2
        have e : okW w = false := by unfold okW; simp [h2]
        rw [e, if_neg (by simp)]
        clear e
        cases ok with
        | true =>
          have ne := K1.out.1.name
          have C6 : Hid (∀ V : World, Calls Try.prog 23 #[.int .i64 x] V fun e W' => e = .returned (.string t) ∧ Below V.heap.size V W') := fun V => by rw [← ne]; exact name_any x V
          clear ne
          have tb := ba_self t
          go_wp2_with fail
          refine C5.out.mono ?_
          rintro _ X5 ⟨rfl, b5⟩
          have K5 : Hid (Below W.heap.size W X5) := below_over K4.out b5
          clear b5
          go_wp2_with fail
          refine (C6.out X5).mono ?_
          rintro _ X6 ⟨rfl, b6⟩
          have K6 : Hid (Below W.heap.size W X6) := below_over K5.out b6
          clear b6
          go_wp2_with fail
          refine (awake_any X6).mono ?_
          rintro _ X7 ⟨rfl, b7⟩
          go_wp2
          go_ret
          exact ⟨rfl, below_over K6.out b7⟩
        | false =>
          go_wp2_with fail
          refine C5.out.mono ?_
          rintro _ X5 ⟨rfl, b5⟩
          have K5 : Hid (Below W.heap.size W X5) := below_over K4.out b5
          clear b5
          go_wp2_with fail
          refine (awake_any X5).mono ?_
          rintro _ X7 ⟨rfl, b7⟩
          go_wp2
          go_ret
          exact ⟨rfl, below_over K5.out b7⟩
    · have d2 : decide (1 ≤ w) = false := by simpa using h1
      have e : okW w = false := by unfold okW; simp [h1]
      rw [e, if_neg (by simp)]
      clear e
      cases ok with
      | true =>
        have ne := K1.out.1.name
        have C6 : Hid (∀ V : World, Calls Try.prog 23 #[.int .i64 x] V fun e W' => e = .returned (.string t) ∧ Below V.heap.size V W') := fun V => by rw [← ne]; exact name_any x V
        clear ne
        have tb := ba_self t
        go_wp2_with fail
        refine C5.out.mono ?_
        rintro _ X5 ⟨rfl, b5⟩
        have K5 : Hid (Below W.heap.size W X5) := below_over K4.out b5
        clear b5
        go_wp2_with fail
        refine (C6.out X5).mono ?_
        rintro _ X6 ⟨rfl, b6⟩
        have K6 : Hid (Below W.heap.size W X6) := below_over K5.out b6
        clear b6
        go_wp2_with fail
        refine (awake_any X6).mono ?_
        rintro _ X7 ⟨rfl, b7⟩
        go_wp2
        go_ret
        exact ⟨rfl, below_over K6.out b7⟩
      | false =>
        go_wp2_with fail
        refine C5.out.mono ?_
        rintro _ X5 ⟨rfl, b5⟩
        have K5 : Hid (Below W.heap.size W X5) := below_over K4.out b5
        clear b5
        go_wp2_with fail
        refine (awake_any X5).mono ?_
        rintro _ X7 ⟨rfl, b7⟩
        go_wp2
        go_ret
        exact ⟨rfl, below_over K5.out b7⟩
  · go_wp2_with fail
    clear h60
    refine (parse_any s W).mono ?_
    rintro _ X1 ⟨x, ok, rfl, p1, b1⟩
    have K1 : Hid (ParOut s x ok ∧ Below W.heap.size W X1) := ⟨p1, b1⟩
    clear p1 b1
    go_wp2_with fail
    refine (rparse_any s X1).mono ?_
    rintro _ X2 ⟨y, is, rfl, p2, b2⟩
    obtain ⟨rfl, rfl⟩ := ParOut.uniq K1.out.1 p2
    have K2 : Hid (Below W.heap.size W X2) := below_over K1.out.2 b2
    clear p2 b2
    go_wp2_with fail
    refine (name_any w X2).mono ?_
    rintro _ X3 ⟨rfl, b3⟩
    have K3 : Hid (Below W.heap.size W X3) := below_over K2.out b3
    clear b3 K2
    have PW : Hid (ParOut (nameOf w) (if okW w then w else 0) (okW w)) := name_par w
    obtain ⟨nn, hnn⟩ : ∃ e, nameOf w = e := ⟨_, rfl⟩
    rw [hnn] at PW ⊢
    have HN : Hid (nameOf w = nn) := hnn
    clear hnn
    go_wp2_with fail
    refine (parse_any nn X3).mono ?_
    rintro _ X4 ⟨back, has, rfl, p4, b4⟩
    obtain ⟨rfl, rfl⟩ := ParOut.uniq p4 PW.out
    have K4 : Hid (Below W.heap.size W X4) := below_over K3.out b4
    clear p4 b4 K3
    have C5 : Hid (Calls Try.prog 24 #[.int .i64 w] X4 fun e W' => e = .returned (.string nn) ∧ Below X4.heap.size X4 W') := by rw [← HN.out]; exact rname_any w X4
    have nb := ba_self nn
    have xx : (x == x) = true := by simp
    have ww : (w == w) = true := by simp
    have oo : (ok == ok) = true := by simp
    by_cases h1 : 1 ≤ w
    · by_cases h2 : w ≤ 14
      · have e : okW w = true := by unfold okW; simp [h1, h2]
        rw [e, if_pos rfl]
        clear e
        cases ok with
        | true =>
          have ne := K1.out.1.name
          have C6 : Hid (∀ V : World, Calls Try.prog 23 #[.int .i64 x] V fun e W' => e = .returned (.string s) ∧ Below V.heap.size V W') := fun V => by rw [← ne]; exact name_any x V
          clear ne
          have tb := ba_self s
          go_wp2_with fail
          refine C5.out.mono ?_
          rintro _ X5 ⟨rfl, b5⟩
          have K5 : Hid (Below W.heap.size W X5) := below_over K4.out b5
          clear b5
          go_wp2_with fail
          refine (C6.out X5).mono ?_
          rintro _ X6 ⟨rfl, b6⟩
          have K6 : Hid (Below W.heap.size W X6) := below_over K5.out b6
          clear b6
          go_wp2_with fail
          refine (awake_any X6).mono ?_
          rintro _ X7 ⟨rfl, b7⟩
          go_wp2
          go_ret
          exact ⟨rfl, below_over K6.out b7⟩
        | false =>
          go_wp2_with fail
          refine C5.out.mono ?_
          rintro _ X5 ⟨rfl, b5⟩
          have K5 : Hid (Below W.heap.size W X5) := below_over K4.out b5
          clear b5
          go_wp2_with fail
          refine (awake_any X5).mono ?_
          rintro _ X7 ⟨rfl, b7⟩
          go_wp2
          go_ret
          exact ⟨rfl, below_over K5.out b7⟩
      · have d2 : decide (w ≤ 14) = false := by simpa using h2
        have e : okW w = false := by unfold okW; simp [h2]
        rw [e, if_neg (by simp)]
        clear e
        cases ok with
        | true =>
          have ne := K1.out.1.name
          have C6 : Hid (∀ V : World, Calls Try.prog 23 #[.int .i64 x] V fun e W' => e = .returned (.string s) ∧ Below V.heap.size V W') := fun V => by rw [← ne]; exact name_any x V
          clear ne
          have tb := ba_self s
          go_wp2_with fail
          refine C5.out.mono ?_
          rintro _ X5 ⟨rfl, b5⟩
          have K5 : Hid (Below W.heap.size W X5) := below_over K4.out b5
          clear b5
          go_wp2_with fail
          refine (C6.out X5).mono ?_
          rintro _ X6 ⟨rfl, b6⟩
          have K6 : Hid (Below W.heap.size W X6) := below_over K5.out b6
          clear b6
          go_wp2_with fail
          refine (awake_any X6).mono ?_
          rintro _ X7 ⟨rfl, b7⟩
          go_wp2
          go_ret
          exact ⟨rfl, below_over K6.out b7⟩
        | false =>
          go_wp2_with fail
          refine C5.out.mono ?_
          rintro _ X5 ⟨rfl, b5⟩
          have K5 : Hid (Below W.heap.size W X5) := below_over K4.out b5
          clear b5
          go_wp2_with fail
          refine (awake_any X5).mono ?_
          rintro _ X7 ⟨rfl, b7⟩
          go_wp2
          go_ret
          exact ⟨rfl, below_over K5.out b7⟩
    · have d2 : decide (1 ≤ w) = false := by simpa using h1
      have e : okW w = false := by unfold okW; simp [h1]
      rw [e, if_neg (by simp)]
      clear e
      cases ok with
      | true =>
        have ne := K1.out.1.name
        have C6 : Hid (∀ V : World, Calls Try.prog 23 #[.int .i64 x] V fun e W' => e = .returned (.string s) ∧ Below V.heap.size V W') := fun V => by rw [← ne]; exact name_any x V
        clear ne
        have tb := ba_self s
        go_wp2_with fail
        refine C5.out.mono ?_
        rintro _ X5 ⟨rfl, b5⟩
        have K5 : Hid (Below W.heap.size W X5) := below_over K4.out b5
        clear b5
        go_wp2_with fail
        refine (C6.out X5).mono ?_
        rintro _ X6 ⟨rfl, b6⟩
        have K6 : Hid (Below W.heap.size W X6) := below_over K5.out b6
        clear b6
        go_wp2_with fail
        refine (awake_any X6).mono ?_
        rintro _ X7 ⟨rfl, b7⟩
        go_wp2
        go_ret
        exact ⟨rfl, below_over K6.out b7⟩
      | false =>
        go_wp2_with fail
        refine C5.out.mono ?_
        rintro _ X5 ⟨rfl, b5⟩
        have K5 : Hid (Below W.heap.size W X5) := below_over K4.out b5
        clear b5
        go_wp2_with fail
        refine (awake_any X5).mono ?_
        rintro _ X7 ⟨rfl, b7⟩
        go_wp2
        go_ret
        exact ⟨rfl, below_over K5.out b7⟩

end Go.Proofs.Ytammaaiknjgjbaa
