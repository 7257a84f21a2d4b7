/-
  A step of a port's state: the walks of Pst and of the definition's, for every port.
-/
import Derived.Test.YtfjigbmhheekbaaPur
namespace Go.Proofs.Ytfjigbmhheekbaa
set_option linter.unusedVariables false
set_option maxRecDepth 4000
set_option linter.unusedSimpArgs false
open Go.RowKit

attribute [local go_sem ↓] ldP stP stB alP
attribute [local go_sem] alP_run
set_option maxHeartbeats 1000000 in
theorem does_any (W : World) (b : Nat) (p : Pt) (x y : Bool) (hb : RvAt W b 36 p.cs) :
    Calls Try.prog 20 #[.bool x, .bool y, .pointer (some ⟨b, 0, none⟩)] W fun r W' => r = .returned (.tuple #[.agg (doesP x y p).cs, .bool true]) ∧ W.grownBy W' (some b) := by
  obtain ⟨W1, hW1, r1, b1, z1⟩ := new_p W zeroP
  obtain ⟨d, hd⟩ : ∃ d, W.heap.size = d := ⟨_, rfl⟩
  have hlt : b < d := by rw [← hd]; exact hb.lt
  rw [hd] at r1
  obtain ⟨V1, e1, p1, g1⟩ := (hb.below b1).setB kb10 x
  obtain ⟨V2, e2, p2, g2⟩ := p1.setB kb8 y
  have r2 := (r1.keptBut g1 (by simp; omega)).keptBut g2 (by simp; omega)
  have p2 : RvAt V2 b 36 (doesP x y p).cs := p2
  have lp := p2.pld
  obtain ⟨U, e3, r3, g3⟩ := r2.pst (q := doesP x y p)
  have gU : W.grownBy U (some b) := by
    have k1 : W.grownBy V2 (some b) := grown_self (grown_self (grown_of_below b1 _) g1) g2
    refine ⟨g3.os.trans k1.os, g3.tape.trans k1.tape, g3.output.trans k1.output, Nat.le_trans k1.size g3.size, fun i hi hne => ?_⟩
    rw [g3.block i (Nat.lt_of_lt_of_le hi k1.size) (by simp; omega), k1.block i hi hne]
  have F : Hid (RvAt U d 36 (doesP x y p).cs ∧ W.grownBy U (some b)) := ⟨r3, gU⟩
  clear hb r1 b1 z1 hlt p1 g1 p2 g2 r2 r3 g3 gU
  go_enter Try.func20, Try.ntmps20
  go_wp2_with (with_reducible exact ret_pb Try.results20 (by with_unfolding_all rfl) (by with_unfolding_all rfl) (by with_unfolding_all rfl) F.out.1 ⟨rfl, F.out.2⟩)
theorem ent_does (x y z : Value) (V : World) : (callFunc 20 #[x, y, z]).run Try.prog V = .ok (.enter 20 #[x, y, z]) V := by go_simp
abbrev PRes (w : World) (p : Pt) (O : Option Pt) (r : Ending) (w' : World) : Prop := r = .returned (.tuple #[.agg (O.getD p).cs, .bool O.isSome]) ∧ Below w.heap.size w w'
set_option maxHeartbeats 4000000 in
theorem pst_any (p : Pt) (w : World) : Calls Try.prog 9 #[.agg p.cs] w fun r w' => PRes w p (pstO p) r w' := by
  obtain ⟨OO, hOO⟩ : ∃ z, pstO p = z := ⟨_, rfl⟩
  rw [hOO]
  have EO : Hid (pstO p = OO) := hOO
  obtain ⟨W, hW, s0⟩ := PS.start w p
  have S : Hid (PS w W w.heap.size (w.heap.size + 1) p) := s0
  obtain ⟨b10, h10⟩ : ∃ z, p.bt 10 = z := ⟨_, rfl⟩
  have H10 : Hid (p.bt 10 = b10) := h10
  clear h10
  obtain ⟨b8, h8⟩ : ∃ z, p.bt 8 = z := ⟨_, rfl⟩
  have H8 : Hid (p.bt 8 = b8) := h8
  clear h8
  obtain ⟨b9, h9⟩ : ∃ z, p.bt 9 = z := ⟨_, rfl⟩
  have H9 : Hid (p.bt 9 = b9) := h9
  clear h9
  obtain ⟨b7, h7⟩ : ∃ z, p.bt 7 = z := ⟨_, rfl⟩
  have H7 : Hid (p.bt 7 = b7) := h7
  clear h7
  clear s0 hOO
  cases b10
  · cases b8
    · cases b9
      · have E : OO = none := by
          rw [← EO.out]
          unfold pstO
          rw [if_neg (by rw [H10.out, H8.out, H9.out]; simp), if_neg (by rw [H8.out, H7.out]; simp), if_neg (by rw [H9.out, H10.out]; simp), if_neg (by rw [H10.out, H7.out, H8.out]; simp)]
        have E9 : Hid (Ending.returned (.tuple #[.agg (p).cs, .bool false]) = .returned (.tuple #[.agg (OO.getD p).cs, .bool OO.isSome])) := by rw [E]; exact rfl
        clear E
        have c10 := S.out.var.pbit (j := 10) rfl
        rw [H10.out] at c10
        have c8 := S.out.var.pbit (j := 8) rfl
        rw [H8.out] at c8
        have c9 := S.out.var.pbit (j := 9) rfl
        rw [H9.out] at c9
        have c7 := S.out.var.pbit (j := 7) rfl
        rw [H7.out] at c7
        have lp := S.out.ld
        obtain ⟨U, sU, rU, bU⟩ := S.out.tell p
        have G : Hid (RvAt U (w.heap.size + 1) 36 p.cs ∧ Below w.heap.size w U) := ⟨rU, bU⟩
        clear rU bU
        go_enter Try.func9, Try.ntmps9
        go_wp2_with (with_reducible exact ret_pb Try.results9 (by with_unfolding_all rfl) (by with_unfolding_all rfl) (by with_unfolding_all rfl) G.out.1 ⟨E9.out, G.out.2⟩)
      · have E : OO = some (doesP true false p) := by
          rw [← EO.out]
          unfold pstO
          rw [if_neg (by rw [H10.out, H8.out, H9.out]; simp), if_neg (by rw [H8.out, H7.out]; simp), if_pos (by rw [H9.out, H10.out]; simp)]
          rw [H8.out]
        have E9 : Hid (Ending.returned (.tuple #[.agg (doesP true false p).cs, .bool true]) = .returned (.tuple #[.agg (OO.getD p).cs, .bool OO.isSome])) := by rw [E]; exact rfl
        clear E
        have c10 := S.out.var.pbit (j := 10) rfl
        rw [H10.out] at c10
        have c8 := S.out.var.pbit (j := 8) rfl
        rw [H8.out] at c8
        have c9 := S.out.var.pbit (j := 9) rfl
        rw [H9.out] at c9
        have c7 := S.out.var.pbit (j := 7) rfl
        rw [H7.out] at c7
        have C : Hid _ := does_any W w.heap.size p true false S.out.var
        go_enter Try.func9, Try.ntmps9
        go_wp2_with fail
        refine Calls.mono C.out ?_
        rintro _ X ⟨rfl, gX⟩
        obtain ⟨U, sU, rU, gU⟩ := (S.out.out.keptBut gX (by simp)).pst (q := doesP true false p)
        have bX := gro S.out.bel gX (Nat.le_refl _) S.out.bel.size
        have G : Hid (RvAt U (w.heap.size + 1) 36 (doesP true false p).cs ∧ Below w.heap.size w U) := ⟨rU, gro bX gU (by omega) bX.size⟩
        clear gX rU gU bX C
        go_wp2_with (with_reducible exact ret_pb Try.results9 (by with_unfolding_all rfl) (by with_unfolding_all rfl) (by with_unfolding_all rfl) G.out.1 ⟨E9.out, G.out.2⟩)
    · cases b9
      · have E : OO = some (doesP false false p) := by
          rw [← EO.out]
          unfold pstO
          rw [if_pos (by rw [H10.out, H8.out, H9.out]; simp)]
        have E9 : Hid (Ending.returned (.tuple #[.agg (doesP false false p).cs, .bool true]) = .returned (.tuple #[.agg (OO.getD p).cs, .bool OO.isSome])) := by rw [E]; exact rfl
        clear E
        have c10 := S.out.var.pbit (j := 10) rfl
        rw [H10.out] at c10
        have c8 := S.out.var.pbit (j := 8) rfl
        rw [H8.out] at c8
        have c9 := S.out.var.pbit (j := 9) rfl
        rw [H9.out] at c9
        have c7 := S.out.var.pbit (j := 7) rfl
        rw [H7.out] at c7
        have C : Hid _ := does_any W w.heap.size p false false S.out.var
        go_enter Try.func9, Try.ntmps9
        go_wp2_with fail
        refine Calls.mono C.out ?_
        rintro _ X ⟨rfl, gX⟩
        obtain ⟨U, sU, rU, gU⟩ := (S.out.out.keptBut gX (by simp)).pst (q := doesP false false p)
        have bX := gro S.out.bel gX (Nat.le_refl _) S.out.bel.size
        have G : Hid (RvAt U (w.heap.size + 1) 36 (doesP false false p).cs ∧ Below w.heap.size w U) := ⟨rU, gro bX gU (by omega) bX.size⟩
        clear gX rU gU bX C
        go_wp2_with (with_reducible exact ret_pb Try.results9 (by with_unfolding_all rfl) (by with_unfolding_all rfl) (by with_unfolding_all rfl) G.out.1 ⟨E9.out, G.out.2⟩)
      · cases b7
        · have E : OO = some (doesP false false p) := by
            rw [← EO.out]
            unfold pstO
            rw [if_neg (by rw [H10.out, H8.out, H9.out]; simp), if_pos (by rw [H8.out, H7.out]; simp)]
            rw [H10.out]
          have E9 : Hid (Ending.returned (.tuple #[.agg (doesP false false p).cs, .bool true]) = .returned (.tuple #[.agg (OO.getD p).cs, .bool OO.isSome])) := by rw [E]; exact rfl
          clear E
          have c10 := S.out.var.pbit (j := 10) rfl
          rw [H10.out] at c10
          have c8 := S.out.var.pbit (j := 8) rfl
          rw [H8.out] at c8
          have c9 := S.out.var.pbit (j := 9) rfl
          rw [H9.out] at c9
          have c7 := S.out.var.pbit (j := 7) rfl
          rw [H7.out] at c7
          have C : Hid _ := does_any W w.heap.size p false false S.out.var
          go_enter Try.func9, Try.ntmps9
          go_wp2_with fail
          refine Calls.mono C.out ?_
          rintro _ X ⟨rfl, gX⟩
          obtain ⟨U, sU, rU, gU⟩ := (S.out.out.keptBut gX (by simp)).pst (q := doesP false false p)
          have bX := gro S.out.bel gX (Nat.le_refl _) S.out.bel.size
          have G : Hid (RvAt U (w.heap.size + 1) 36 (doesP false false p).cs ∧ Below w.heap.size w U) := ⟨rU, gro bX gU (by omega) bX.size⟩
          clear gX rU gU bX C
          go_wp2_with (with_reducible exact ret_pb Try.results9 (by with_unfolding_all rfl) (by with_unfolding_all rfl) (by with_unfolding_all rfl) G.out.1 ⟨E9.out, G.out.2⟩)
        · have E : OO = some (doesP true true p) := by
            rw [← EO.out]
            unfold pstO
            rw [if_neg (by rw [H10.out, H8.out, H9.out]; simp), if_neg (by rw [H8.out, H7.out]; simp), if_pos (by rw [H9.out, H10.out]; simp)]
            rw [H8.out]
          have E9 : Hid (Ending.returned (.tuple #[.agg (doesP true true p).cs, .bool true]) = .returned (.tuple #[.agg (OO.getD p).cs, .bool OO.isSome])) := by rw [E]; exact rfl
          clear E
          have c10 := S.out.var.pbit (j := 10) rfl
          rw [H10.out] at c10
          have c8 := S.out.var.pbit (j := 8) rfl
          rw [H8.out] at c8
          have c9 := S.out.var.pbit (j := 9) rfl
          rw [H9.out] at c9
          have c7 := S.out.var.pbit (j := 7) rfl
          rw [H7.out] at c7
          have C : Hid _ := does_any W w.heap.size p true true S.out.var
          go_enter Try.func9, Try.ntmps9
          go_wp2_with fail
          refine Calls.mono C.out ?_
          rintro _ X ⟨rfl, gX⟩
          obtain ⟨U, sU, rU, gU⟩ := (S.out.out.keptBut gX (by simp)).pst (q := doesP true true p)
          have bX := gro S.out.bel gX (Nat.le_refl _) S.out.bel.size
          have G : Hid (RvAt U (w.heap.size + 1) 36 (doesP true true p).cs ∧ Below w.heap.size w U) := ⟨rU, gro bX gU (by omega) bX.size⟩
          clear gX rU gU bX C
          go_wp2_with (with_reducible exact ret_pb Try.results9 (by with_unfolding_all rfl) (by with_unfolding_all rfl) (by with_unfolding_all rfl) G.out.1 ⟨E9.out, G.out.2⟩)
  · cases b9
    · have E : OO = some (doesP false false p) := by
        rw [← EO.out]
        unfold pstO
        rw [if_pos (by rw [H10.out, H8.out, H9.out]; simp)]
      have E9 : Hid (Ending.returned (.tuple #[.agg (doesP false false p).cs, .bool true]) = .returned (.tuple #[.agg (OO.getD p).cs, .bool OO.isSome])) := by rw [E]; exact rfl
      clear E
      have c10 := S.out.var.pbit (j := 10) rfl
      rw [H10.out] at c10
      have c8 := S.out.var.pbit (j := 8) rfl
      rw [H8.out] at c8
      have c9 := S.out.var.pbit (j := 9) rfl
      rw [H9.out] at c9
      have c7 := S.out.var.pbit (j := 7) rfl
      rw [H7.out] at c7
      have C : Hid _ := does_any W w.heap.size p false false S.out.var
      go_enter Try.func9, Try.ntmps9
      go_wp2_with fail
      refine Calls.mono C.out ?_
      rintro _ X ⟨rfl, gX⟩
      obtain ⟨U, sU, rU, gU⟩ := (S.out.out.keptBut gX (by simp)).pst (q := doesP false false p)
      have bX := gro S.out.bel gX (Nat.le_refl _) S.out.bel.size
      have G : Hid (RvAt U (w.heap.size + 1) 36 (doesP false false p).cs ∧ Below w.heap.size w U) := ⟨rU, gro bX gU (by omega) bX.size⟩
      clear gX rU gU bX C
      go_wp2_with (with_reducible exact ret_pb Try.results9 (by with_unfolding_all rfl) (by with_unfolding_all rfl) (by with_unfolding_all rfl) G.out.1 ⟨E9.out, G.out.2⟩)
    · cases b8
      · cases b7
        · have E : OO = none := by
            rw [← EO.out]
            unfold pstO
            rw [if_neg (by rw [H10.out, H8.out, H9.out]; simp), if_neg (by rw [H8.out, H7.out]; simp), if_neg (by rw [H9.out, H10.out]; simp), if_neg (by rw [H10.out, H7.out, H8.out]; simp)]
          have E9 : Hid (Ending.returned (.tuple #[.agg (p).cs, .bool false]) = .returned (.tuple #[.agg (OO.getD p).cs, .bool OO.isSome])) := by rw [E]; exact rfl
          clear E
          have c10 := S.out.var.pbit (j := 10) rfl
          rw [H10.out] at c10
          have c8 := S.out.var.pbit (j := 8) rfl
          rw [H8.out] at c8
          have c9 := S.out.var.pbit (j := 9) rfl
          rw [H9.out] at c9
          have c7 := S.out.var.pbit (j := 7) rfl
          rw [H7.out] at c7
          have lp := S.out.ld
          obtain ⟨U, sU, rU, bU⟩ := S.out.tell p
          have G : Hid (RvAt U (w.heap.size + 1) 36 p.cs ∧ Below w.heap.size w U) := ⟨rU, bU⟩
          clear rU bU
          go_enter Try.func9, Try.ntmps9
          go_wp2_with (with_reducible exact ret_pb Try.results9 (by with_unfolding_all rfl) (by with_unfolding_all rfl) (by with_unfolding_all rfl) G.out.1 ⟨E9.out, G.out.2⟩)
        · have E : OO = some (doesP true true p) := by
            rw [← EO.out]
            unfold pstO
            rw [if_neg (by rw [H10.out, H8.out, H9.out]; simp), if_neg (by rw [H8.out, H7.out]; simp), if_neg (by rw [H9.out, H10.out]; simp), if_pos (by rw [H10.out, H7.out, H8.out]; simp)]
          have E9 : Hid (Ending.returned (.tuple #[.agg (doesP true true p).cs, .bool true]) = .returned (.tuple #[.agg (OO.getD p).cs, .bool OO.isSome])) := by rw [E]; exact rfl
          clear E
          have c10 := S.out.var.pbit (j := 10) rfl
          rw [H10.out] at c10
          have c8 := S.out.var.pbit (j := 8) rfl
          rw [H8.out] at c8
          have c9 := S.out.var.pbit (j := 9) rfl
          rw [H9.out] at c9
          have c7 := S.out.var.pbit (j := 7) rfl
          rw [H7.out] at c7
          have C : Hid _ := does_any W w.heap.size p true true S.out.var
          go_enter Try.func9, Try.ntmps9
          go_wp2_with fail
          refine Calls.mono C.out ?_
          rintro _ X ⟨rfl, gX⟩
          obtain ⟨U, sU, rU, gU⟩ := (S.out.out.keptBut gX (by simp)).pst (q := doesP true true p)
          have bX := gro S.out.bel gX (Nat.le_refl _) S.out.bel.size
          have G : Hid (RvAt U (w.heap.size + 1) 36 (doesP true true p).cs ∧ Below w.heap.size w U) := ⟨rU, gro bX gU (by omega) bX.size⟩
          clear gX rU gU bX C
          go_wp2_with (with_reducible exact ret_pb Try.results9 (by with_unfolding_all rfl) (by with_unfolding_all rfl) (by with_unfolding_all rfl) G.out.1 ⟨E9.out, G.out.2⟩)
      · cases b7
        · have E : OO = some (doesP true false p) := by
            rw [← EO.out]
            unfold pstO
            rw [if_neg (by rw [H10.out, H8.out, H9.out]; simp), if_pos (by rw [H8.out, H7.out]; simp)]
            rw [H10.out]
          have E9 : Hid (Ending.returned (.tuple #[.agg (doesP true false p).cs, .bool true]) = .returned (.tuple #[.agg (OO.getD p).cs, .bool OO.isSome])) := by rw [E]; exact rfl
          clear E
          have c10 := S.out.var.pbit (j := 10) rfl
          rw [H10.out] at c10
          have c8 := S.out.var.pbit (j := 8) rfl
          rw [H8.out] at c8
          have c9 := S.out.var.pbit (j := 9) rfl
          rw [H9.out] at c9
          have c7 := S.out.var.pbit (j := 7) rfl
          rw [H7.out] at c7
          have C : Hid _ := does_any W w.heap.size p true false S.out.var
          go_enter Try.func9, Try.ntmps9
          go_wp2_with fail
          refine Calls.mono C.out ?_
          rintro _ X ⟨rfl, gX⟩
          obtain ⟨U, sU, rU, gU⟩ := (S.out.out.keptBut gX (by simp)).pst (q := doesP true false p)
          have bX := gro S.out.bel gX (Nat.le_refl _) S.out.bel.size
          have G : Hid (RvAt U (w.heap.size + 1) 36 (doesP true false p).cs ∧ Below w.heap.size w U) := ⟨rU, gro bX gU (by omega) bX.size⟩
          clear gX rU gU bX C
          go_wp2_with (with_reducible exact ret_pb Try.results9 (by with_unfolding_all rfl) (by with_unfolding_all rfl) (by with_unfolding_all rfl) G.out.1 ⟨E9.out, G.out.2⟩)
        · have E : OO = none := by
            rw [← EO.out]
            unfold pstO
            rw [if_neg (by rw [H10.out, H8.out, H9.out]; simp), if_neg (by rw [H8.out, H7.out]; simp), if_neg (by rw [H9.out, H10.out]; simp), if_neg (by rw [H10.out, H7.out, H8.out]; simp)]
          have E9 : Hid (Ending.returned (.tuple #[.agg (p).cs, .bool false]) = .returned (.tuple #[.agg (OO.getD p).cs, .bool OO.isSome])) := by rw [E]; exact rfl
          clear E
          have c10 := S.out.var.pbit (j := 10) rfl
          rw [H10.out] at c10
          have c8 := S.out.var.pbit (j := 8) rfl
          rw [H8.out] at c8
          have c9 := S.out.var.pbit (j := 9) rfl
          rw [H9.out] at c9
          have c7 := S.out.var.pbit (j := 7) rfl
          rw [H7.out] at c7
          have lp := S.out.ld
          obtain ⟨U, sU, rU, bU⟩ := S.out.tell p
          have G : Hid (RvAt U (w.heap.size + 1) 36 p.cs ∧ Below w.heap.size w U) := ⟨rU, bU⟩
          clear rU bU
          go_enter Try.func9, Try.ntmps9
          go_wp2_with (with_reducible exact ret_pb Try.results9 (by with_unfolding_all rfl) (by with_unfolding_all rfl) (by with_unfolding_all rfl) G.out.1 ⟨E9.out, G.out.2⟩)
set_option maxHeartbeats 4000000 in
theorem rpst_any (p : Pt) (w : World) : Calls Try.prog 10 #[.agg p.cs] w fun r w' => PRes w p (pstO p) r w' := by
  obtain ⟨OO, hOO⟩ : ∃ z, pstO p = z := ⟨_, rfl⟩
  rw [hOO]
  have EO : Hid (pstO p = OO) := hOO
  obtain ⟨W, hW, s0⟩ := PS.start w p
  have S : Hid (PS w W w.heap.size (w.heap.size + 1) p) := s0
  obtain ⟨b10, h10⟩ : ∃ z, p.bt 10 = z := ⟨_, rfl⟩
  have H10 : Hid (p.bt 10 = b10) := h10
  clear h10
  obtain ⟨b8, h8⟩ : ∃ z, p.bt 8 = z := ⟨_, rfl⟩
  have H8 : Hid (p.bt 8 = b8) := h8
  clear h8
  obtain ⟨b9, h9⟩ : ∃ z, p.bt 9 = z := ⟨_, rfl⟩
  have H9 : Hid (p.bt 9 = b9) := h9
  clear h9
  obtain ⟨b7, h7⟩ : ∃ z, p.bt 7 = z := ⟨_, rfl⟩
  have H7 : Hid (p.bt 7 = b7) := h7
  clear h7
  clear s0 hOO
  cases b10
  · cases b8
    · cases b9
      · have E : OO = none := by
          rw [← EO.out]
          unfold pstO
          rw [if_neg (by rw [H10.out, H8.out, H9.out]; simp), if_neg (by rw [H8.out, H7.out]; simp), if_neg (by rw [H9.out, H10.out]; simp), if_neg (by rw [H10.out, H7.out, H8.out]; simp)]
        have E9 : Hid (Ending.returned (.tuple #[.agg (p).cs, .bool false]) = .returned (.tuple #[.agg (OO.getD p).cs, .bool OO.isSome])) := by rw [E]; exact rfl
        clear E
        have c10 := S.out.var.pbit (j := 10) rfl
        rw [H10.out] at c10
        have c8 := S.out.var.pbit (j := 8) rfl
        rw [H8.out] at c8
        have c9 := S.out.var.pbit (j := 9) rfl
        rw [H9.out] at c9
        have c7 := S.out.var.pbit (j := 7) rfl
        rw [H7.out] at c7
        have lp := S.out.ld
        obtain ⟨U, sU, rU, bU⟩ := S.out.tell p
        have G : Hid (RvAt U (w.heap.size + 1) 36 p.cs ∧ Below w.heap.size w U) := ⟨rU, bU⟩
        clear rU bU
        go_enter Try.func10, Try.ntmps10
        go_wp2_with (with_reducible exact ret_pb Try.results10 (by with_unfolding_all rfl) (by with_unfolding_all rfl) (by with_unfolding_all rfl) G.out.1 ⟨E9.out, G.out.2⟩)
      · have E : OO = some (doesP true false p) := by
          rw [← EO.out]
          unfold pstO
          rw [if_neg (by rw [H10.out, H8.out, H9.out]; simp), if_neg (by rw [H8.out, H7.out]; simp), if_pos (by rw [H9.out, H10.out]; simp)]
          rw [H8.out]
        have E9 : Hid (Ending.returned (.tuple #[.agg (doesP true false p).cs, .bool true]) = .returned (.tuple #[.agg (OO.getD p).cs, .bool OO.isSome])) := by rw [E]; exact rfl
        clear E
        have c10 := S.out.var.pbit (j := 10) rfl
        rw [H10.out] at c10
        have c8 := S.out.var.pbit (j := 8) rfl
        rw [H8.out] at c8
        have c9 := S.out.var.pbit (j := 9) rfl
        rw [H9.out] at c9
        have c7 := S.out.var.pbit (j := 7) rfl
        rw [H7.out] at c7
        obtain ⟨V2, e2, q2⟩ := S.out.setB kb10 true
        rw [← does_10, H8.out] at q2
        have lp := q2.ld
        obtain ⟨U, sU, rU, bU⟩ := q2.tell (doesP true false p)
        have G : Hid (RvAt U (w.heap.size + 1) 36 (doesP true false p).cs ∧ Below w.heap.size w U) := ⟨rU, bU⟩
        clear rU bU q2
        go_enter Try.func10, Try.ntmps10
        go_wp2_with (with_reducible exact ret_pb Try.results10 (by with_unfolding_all rfl) (by with_unfolding_all rfl) (by with_unfolding_all rfl) G.out.1 ⟨E9.out, G.out.2⟩)
    · cases b9
      · have E : OO = some (doesP false false p) := by
          rw [← EO.out]
          unfold pstO
          rw [if_pos (by rw [H10.out, H8.out, H9.out]; simp)]
        have E9 : Hid (Ending.returned (.tuple #[.agg (doesP false false p).cs, .bool true]) = .returned (.tuple #[.agg (OO.getD p).cs, .bool OO.isSome])) := by rw [E]; exact rfl
        clear E
        have c10 := S.out.var.pbit (j := 10) rfl
        rw [H10.out] at c10
        have c8 := S.out.var.pbit (j := 8) rfl
        rw [H8.out] at c8
        have c9 := S.out.var.pbit (j := 9) rfl
        rw [H9.out] at c9
        have c7 := S.out.var.pbit (j := 7) rfl
        rw [H7.out] at c7
        obtain ⟨V1, e1, q1⟩ := S.out.setB kb10 false
        obtain ⟨V2, e2, q2⟩ := q1.setB kb8 false
        have q2 : PS w V2 w.heap.size (w.heap.size + 1) (doesP false false p) := q2
        have lp := q2.ld
        obtain ⟨U, sU, rU, bU⟩ := q2.tell (doesP false false p)
        have G : Hid (RvAt U (w.heap.size + 1) 36 (doesP false false p).cs ∧ Below w.heap.size w U) := ⟨rU, bU⟩
        clear rU bU q2 q1
        go_enter Try.func10, Try.ntmps10
        go_wp2_with (with_reducible exact ret_pb Try.results10 (by with_unfolding_all rfl) (by with_unfolding_all rfl) (by with_unfolding_all rfl) G.out.1 ⟨E9.out, G.out.2⟩)
      · cases b7
        · have E : OO = some (doesP false false p) := by
            rw [← EO.out]
            unfold pstO
            rw [if_neg (by rw [H10.out, H8.out, H9.out]; simp), if_pos (by rw [H8.out, H7.out]; simp)]
            rw [H10.out]
          have E9 : Hid (Ending.returned (.tuple #[.agg (doesP false false p).cs, .bool true]) = .returned (.tuple #[.agg (OO.getD p).cs, .bool OO.isSome])) := by rw [E]; exact rfl
          clear E
          have c10 := S.out.var.pbit (j := 10) rfl
          rw [H10.out] at c10
          have c8 := S.out.var.pbit (j := 8) rfl
          rw [H8.out] at c8
          have c9 := S.out.var.pbit (j := 9) rfl
          rw [H9.out] at c9
          have c7 := S.out.var.pbit (j := 7) rfl
          rw [H7.out] at c7
          obtain ⟨V2, e2, q2⟩ := S.out.setB kb8 false
          rw [← does_8, H10.out] at q2
          have lp := q2.ld
          obtain ⟨U, sU, rU, bU⟩ := q2.tell (doesP false false p)
          have G : Hid (RvAt U (w.heap.size + 1) 36 (doesP false false p).cs ∧ Below w.heap.size w U) := ⟨rU, bU⟩
          clear rU bU q2
          go_enter Try.func10, Try.ntmps10
          go_wp2_with (with_reducible exact ret_pb Try.results10 (by with_unfolding_all rfl) (by with_unfolding_all rfl) (by with_unfolding_all rfl) G.out.1 ⟨E9.out, G.out.2⟩)
        · have E : OO = some (doesP true true p) := by
            rw [← EO.out]
            unfold pstO
            rw [if_neg (by rw [H10.out, H8.out, H9.out]; simp), if_neg (by rw [H8.out, H7.out]; simp), if_pos (by rw [H9.out, H10.out]; simp)]
            rw [H8.out]
          have E9 : Hid (Ending.returned (.tuple #[.agg (doesP true true p).cs, .bool true]) = .returned (.tuple #[.agg (OO.getD p).cs, .bool OO.isSome])) := by rw [E]; exact rfl
          clear E
          have c10 := S.out.var.pbit (j := 10) rfl
          rw [H10.out] at c10
          have c8 := S.out.var.pbit (j := 8) rfl
          rw [H8.out] at c8
          have c9 := S.out.var.pbit (j := 9) rfl
          rw [H9.out] at c9
          have c7 := S.out.var.pbit (j := 7) rfl
          rw [H7.out] at c7
          obtain ⟨V2, e2, q2⟩ := S.out.setB kb10 true
          rw [← does_10, H8.out] at q2
          have lp := q2.ld
          obtain ⟨U, sU, rU, bU⟩ := q2.tell (doesP true true p)
          have G : Hid (RvAt U (w.heap.size + 1) 36 (doesP true true p).cs ∧ Below w.heap.size w U) := ⟨rU, bU⟩
          clear rU bU q2
          go_enter Try.func10, Try.ntmps10
          go_wp2_with (with_reducible exact ret_pb Try.results10 (by with_unfolding_all rfl) (by with_unfolding_all rfl) (by with_unfolding_all rfl) G.out.1 ⟨E9.out, G.out.2⟩)
  · cases b9
    · have E : OO = some (doesP false false p) := by
        rw [← EO.out]
        unfold pstO
        rw [if_pos (by rw [H10.out, H8.out, H9.out]; simp)]
      have E9 : Hid (Ending.returned (.tuple #[.agg (doesP false false p).cs, .bool true]) = .returned (.tuple #[.agg (OO.getD p).cs, .bool OO.isSome])) := by rw [E]; exact rfl
      clear E
      have c10 := S.out.var.pbit (j := 10) rfl
      rw [H10.out] at c10
      have c8 := S.out.var.pbit (j := 8) rfl
      rw [H8.out] at c8
      have c9 := S.out.var.pbit (j := 9) rfl
      rw [H9.out] at c9
      have c7 := S.out.var.pbit (j := 7) rfl
      rw [H7.out] at c7
      obtain ⟨V1, e1, q1⟩ := S.out.setB kb10 false
      obtain ⟨V2, e2, q2⟩ := q1.setB kb8 false
      have q2 : PS w V2 w.heap.size (w.heap.size + 1) (doesP false false p) := q2
      have lp := q2.ld
      obtain ⟨U, sU, rU, bU⟩ := q2.tell (doesP false false p)
      have G : Hid (RvAt U (w.heap.size + 1) 36 (doesP false false p).cs ∧ Below w.heap.size w U) := ⟨rU, bU⟩
      clear rU bU q2 q1
      go_enter Try.func10, Try.ntmps10
      go_wp2_with (with_reducible exact ret_pb Try.results10 (by with_unfolding_all rfl) (by with_unfolding_all rfl) (by with_unfolding_all rfl) G.out.1 ⟨E9.out, G.out.2⟩)
    · cases b8
      · cases b7
        · have E : OO = none := by
            rw [← EO.out]
            unfold pstO
            rw [if_neg (by rw [H10.out, H8.out, H9.out]; simp), if_neg (by rw [H8.out, H7.out]; simp), if_neg (by rw [H9.out, H10.out]; simp), if_neg (by rw [H10.out, H7.out, H8.out]; simp)]
          have E9 : Hid (Ending.returned (.tuple #[.agg (p).cs, .bool false]) = .returned (.tuple #[.agg (OO.getD p).cs, .bool OO.isSome])) := by rw [E]; exact rfl
          clear E
          have c10 := S.out.var.pbit (j := 10) rfl
          rw [H10.out] at c10
          have c8 := S.out.var.pbit (j := 8) rfl
          rw [H8.out] at c8
          have c9 := S.out.var.pbit (j := 9) rfl
          rw [H9.out] at c9
          have c7 := S.out.var.pbit (j := 7) rfl
          rw [H7.out] at c7
          have lp := S.out.ld
          obtain ⟨U, sU, rU, bU⟩ := S.out.tell p
          have G : Hid (RvAt U (w.heap.size + 1) 36 p.cs ∧ Below w.heap.size w U) := ⟨rU, bU⟩
          clear rU bU
          go_enter Try.func10, Try.ntmps10
          go_wp2_with (with_reducible exact ret_pb Try.results10 (by with_unfolding_all rfl) (by with_unfolding_all rfl) (by with_unfolding_all rfl) G.out.1 ⟨E9.out, G.out.2⟩)
        · have E : OO = some (doesP true true p) := by
            rw [← EO.out]
            unfold pstO
            rw [if_neg (by rw [H10.out, H8.out, H9.out]; simp), if_neg (by rw [H8.out, H7.out]; simp), if_neg (by rw [H9.out, H10.out]; simp), if_pos (by rw [H10.out, H7.out, H8.out]; simp)]
          have E9 : Hid (Ending.returned (.tuple #[.agg (doesP true true p).cs, .bool true]) = .returned (.tuple #[.agg (OO.getD p).cs, .bool OO.isSome])) := by rw [E]; exact rfl
          clear E
          have c10 := S.out.var.pbit (j := 10) rfl
          rw [H10.out] at c10
          have c8 := S.out.var.pbit (j := 8) rfl
          rw [H8.out] at c8
          have c9 := S.out.var.pbit (j := 9) rfl
          rw [H9.out] at c9
          have c7 := S.out.var.pbit (j := 7) rfl
          rw [H7.out] at c7
          obtain ⟨V2, e2, q2⟩ := S.out.setB kb8 true
          rw [← does_8, H10.out] at q2
          have lp := q2.ld
          obtain ⟨U, sU, rU, bU⟩ := q2.tell (doesP true true p)
          have G : Hid (RvAt U (w.heap.size + 1) 36 (doesP true true p).cs ∧ Below w.heap.size w U) := ⟨rU, bU⟩
          clear rU bU q2
          go_enter Try.func10, Try.ntmps10
          go_wp2_with (with_reducible exact ret_pb Try.results10 (by with_unfolding_all rfl) (by with_unfolding_all rfl) (by with_unfolding_all rfl) G.out.1 ⟨E9.out, G.out.2⟩)
      · cases b7
        · have E : OO = some (doesP true false p) := by
            rw [← EO.out]
            unfold pstO
            rw [if_neg (by rw [H10.out, H8.out, H9.out]; simp), if_pos (by rw [H8.out, H7.out]; simp)]
            rw [H10.out]
          have E9 : Hid (Ending.returned (.tuple #[.agg (doesP true false p).cs, .bool true]) = .returned (.tuple #[.agg (OO.getD p).cs, .bool OO.isSome])) := by rw [E]; exact rfl
          clear E
          have c10 := S.out.var.pbit (j := 10) rfl
          rw [H10.out] at c10
          have c8 := S.out.var.pbit (j := 8) rfl
          rw [H8.out] at c8
          have c9 := S.out.var.pbit (j := 9) rfl
          rw [H9.out] at c9
          have c7 := S.out.var.pbit (j := 7) rfl
          rw [H7.out] at c7
          obtain ⟨V2, e2, q2⟩ := S.out.setB kb8 false
          rw [← does_8, H10.out] at q2
          have lp := q2.ld
          obtain ⟨U, sU, rU, bU⟩ := q2.tell (doesP true false p)
          have G : Hid (RvAt U (w.heap.size + 1) 36 (doesP true false p).cs ∧ Below w.heap.size w U) := ⟨rU, bU⟩
          clear rU bU q2
          go_enter Try.func10, Try.ntmps10
          go_wp2_with (with_reducible exact ret_pb Try.results10 (by with_unfolding_all rfl) (by with_unfolding_all rfl) (by with_unfolding_all rfl) G.out.1 ⟨E9.out, G.out.2⟩)
        · have E : OO = none := by
            rw [← EO.out]
            unfold pstO
            rw [if_neg (by rw [H10.out, H8.out, H9.out]; simp), if_neg (by rw [H8.out, H7.out]; simp), if_neg (by rw [H9.out, H10.out]; simp), if_neg (by rw [H10.out, H7.out, H8.out]; simp)]
          have E9 : Hid (Ending.returned (.tuple #[.agg (p).cs, .bool false]) = .returned (.tuple #[.agg (OO.getD p).cs, .bool OO.isSome])) := by rw [E]; exact rfl
          clear E
          have c10 := S.out.var.pbit (j := 10) rfl
          rw [H10.out] at c10
          have c8 := S.out.var.pbit (j := 8) rfl
          rw [H8.out] at c8
          have c9 := S.out.var.pbit (j := 9) rfl
          rw [H9.out] at c9
          have c7 := S.out.var.pbit (j := 7) rfl
          rw [H7.out] at c7
          have lp := S.out.ld
          obtain ⟨U, sU, rU, bU⟩ := S.out.tell p
          have G : Hid (RvAt U (w.heap.size + 1) 36 p.cs ∧ Below w.heap.size w U) := ⟨rU, bU⟩
          clear rU bU
          go_enter Try.func10, Try.ntmps10
          go_wp2_with (with_reducible exact ret_pb Try.results10 (by with_unfolding_all rfl) (by with_unfolding_all rfl) (by with_unfolding_all rfl) G.out.1 ⟨E9.out, G.out.2⟩)
end Go.Proofs.Ytfjigbmhheekbaa
