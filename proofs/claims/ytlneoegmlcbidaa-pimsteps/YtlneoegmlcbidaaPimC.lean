/-
  Steps of a port: the walks of fromDisabled, fromAged, fromCurrent and step, each for every port.
-/
import Derived.Test.YtlneoegmlcbidaaPimR
namespace Go.Proofs.Ytlneoegmlcbidaa
set_option linter.unusedVariables false
set_option maxRecDepth 4000
set_option linter.unusedSimpArgs false
open Go.RowKit

attribute [local go_sem ↓] ldP stP ldM stM ldTm stTm ldV stV stB stU stI stW
attribute [local go_sem ↓] alP alM
attribute [local go_sem] alP_run alM_run
set_option maxHeartbeats 4000000 in
theorem fds_any (p : Pt) (w : World) :
    Calls Try.prog 29 #[.agg p.cs] w fun r w' => r = .returned (.tuple #[.agg (tellO p (fdsO p)).cs, .bool (fdsO p).isSome]) ∧ Below w.heap.size w w' := by
  obtain ⟨W0, hW, S0⟩ := PS.start w p
  have l0 := S0.ld
  have c2 := S0.var.bit (j := 2) rfl
  have c14 := S0.var.bit (j := 14) rfl
  have H0 : Hid (PS w W0 w.heap.size (w.heap.size + 1) p) := S0
  clear S0
  cases h2 : p.bt 2
  · rw [h2] at c2
    cases h14 : p.bt 14
    · rw [h14] at c14
      have EQ : Hid (fdsO p = none) := show fdsO p = _ by simp [fdsO, h2, h14]
      have ER : Hid (Ending.returned (.tuple #[.agg (p).cs, .bool false]) = Ending.returned (.tuple #[.agg (tellO p (fdsO p)).cs, .bool (fdsO p).isSome])) := show Ending.returned _ = _ by rw [EQ.out]; rfl
      clear EQ
      clear h2 h14
      go_enter Try.func29, Try.ntmps29
      obtain ⟨U, sU, G0⟩ := H0.out.tell p
      have G : Hid (RvAt U (w.heap.size + 1) 47 p.cs ∧ Below w.heap.size w U) := G0
      clear G0 H0
      go_wp2_with (with_reducible exact ret_pb Try.results29 (by with_unfolding_all rfl) (by with_unfolding_all rfl) (by with_unfolding_all rfl) G.out.1 ⟨ER.out, G.out.2⟩)
    · rw [h14] at c14
      have EQ : Hid (fdsO p = some (disP p)) := show fdsO p = _ by simp [fdsO, h2, h14]
      have ER : Hid (Ending.returned (.tuple #[.agg (disP p).cs, .bool true]) = Ending.returned (.tuple #[.agg (tellO p (fdsO p)).cs, .bool (fdsO p).isSome])) := show Ending.returned _ = _ by rw [EQ.out]; rfl
      clear EQ
      clear h2 h14
      go_enter Try.func29, Try.ntmps29
      go_wp2_with fail
      refine (dis_any p W0).mono ?_
      rintro _ V ⟨rfl, bV⟩
      obtain ⟨U, sU, G0⟩ := (H0.out.below bV).tell (disP p)
      have G : Hid (RvAt U (w.heap.size + 1) 47 (disP p).cs ∧ Below w.heap.size w U) := G0
      clear G0 H0 bV hW l0 c2 c14
      go_wp2_with (with_reducible exact ret_pb Try.results29 (by with_unfolding_all rfl) (by with_unfolding_all rfl) (by with_unfolding_all rfl) G.out.1 ⟨ER.out, G.out.2⟩)
  · rw [h2] at c2
    have EQ : Hid (fdsO p = some (agdP p)) := show fdsO p = _ by simp [fdsO, h2]
    have ER : Hid (Ending.returned (.tuple #[.agg (agdP p).cs, .bool true]) = Ending.returned (.tuple #[.agg (tellO p (fdsO p)).cs, .bool (fdsO p).isSome])) := show Ending.returned _ = _ by rw [EQ.out]; rfl
    clear EQ
    clear h2
    go_enter Try.func29, Try.ntmps29
    go_wp2_with fail
    refine (agd_any p W0).mono ?_
    rintro _ V ⟨rfl, bV⟩
    obtain ⟨U, sU, G0⟩ := (H0.out.below bV).tell (agdP p)
    have G : Hid (RvAt U (w.heap.size + 1) 47 (agdP p).cs ∧ Below w.heap.size w U) := G0
    clear G0 H0 bV hW l0 c2 c14
    go_wp2_with (with_reducible exact ret_pb Try.results29 (by with_unfolding_all rfl) (by with_unfolding_all rfl) (by with_unfolding_all rfl) G.out.1 ⟨ER.out, G.out.2⟩)
set_option maxHeartbeats 4000000 in
theorem fag_any (p : Pt) (w : World) :
    Calls Try.prog 30 #[.agg p.cs] w fun r w' => r = .returned (.tuple #[.agg (tellO p (fagO p)).cs, .bool (fagO p).isSome]) ∧ Below w.heap.size w w' := by
  obtain ⟨W0, hW, S0⟩ := PS.start w p
  have l0 := S0.ld
  have c22 := S0.var.bit (j := 22) rfl
  have c28 := S0.var.bit (j := 28) rfl
  have H0 : Hid (PS w W0 w.heap.size (w.heap.size + 1) p) := S0
  clear S0
  cases h22 : p.bt 22
  · rw [h22] at c22
    have EQ : Hid (fagO p = none) := show fagO p = _ by simp [fagO, h22]
    have ER : Hid (Ending.returned (.tuple #[.agg (p).cs, .bool false]) = Ending.returned (.tuple #[.agg (tellO p (fagO p)).cs, .bool (fagO p).isSome])) := show Ending.returned _ = _ by rw [EQ.out]; rfl
    clear EQ
    clear h22
    go_enter Try.func30, Try.ntmps30
    obtain ⟨U, sU, G0⟩ := H0.out.tell p
    have G : Hid (RvAt U (w.heap.size + 1) 47 p.cs ∧ Below w.heap.size w U) := G0
    clear G0 H0
    go_wp2_with (with_reducible exact ret_pb Try.results30 (by with_unfolding_all rfl) (by with_unfolding_all rfl) (by with_unfolding_all rfl) G.out.1 ⟨ER.out, G.out.2⟩)
  · rw [h22] at c22
    cases h28 : p.bt 28
    · rw [h28] at c28
      have EQ : Hid (fagO p = none) := show fagO p = _ by simp [fagO, h22, h28]
      have ER : Hid (Ending.returned (.tuple #[.agg (p).cs, .bool false]) = Ending.returned (.tuple #[.agg (tellO p (fagO p)).cs, .bool (fagO p).isSome])) := show Ending.returned _ = _ by rw [EQ.out]; rfl
      clear EQ
      clear h22 h28
      go_enter Try.func30, Try.ntmps30
      obtain ⟨U, sU, G0⟩ := H0.out.tell p
      have G : Hid (RvAt U (w.heap.size + 1) 47 p.cs ∧ Below w.heap.size w U) := G0
      clear G0 H0
      go_wp2_with (with_reducible exact ret_pb Try.results30 (by with_unfolding_all rfl) (by with_unfolding_all rfl) (by with_unfolding_all rfl) G.out.1 ⟨ER.out, G.out.2⟩)
    · rw [h28] at c28
      have EQ : Hid (fagO p = some (updP p)) := show fagO p = _ by simp [fagO, h22, h28]
      have ER : Hid (Ending.returned (.tuple #[.agg (updP p).cs, .bool true]) = Ending.returned (.tuple #[.agg (tellO p (fagO p)).cs, .bool (fagO p).isSome])) := show Ending.returned _ = _ by rw [EQ.out]; rfl
      clear EQ
      clear h22 h28
      go_enter Try.func30, Try.ntmps30
      go_wp2_with fail
      refine (upd_any p W0).mono ?_
      rintro _ V ⟨rfl, bV⟩
      obtain ⟨U, sU, G0⟩ := (H0.out.below bV).tell (updP p)
      have G : Hid (RvAt U (w.heap.size + 1) 47 (updP p).cs ∧ Below w.heap.size w U) := G0
      clear G0 H0 bV hW l0 c22 c28
      go_wp2_with (with_reducible exact ret_pb Try.results30 (by with_unfolding_all rfl) (by with_unfolding_all rfl) (by with_unfolding_all rfl) G.out.1 ⟨ER.out, G.out.2⟩)
set_option maxHeartbeats 4000000 in
theorem fcu_any (p : Pt) (w : World) :
    Calls Try.prog 31 #[.agg p.cs] w fun r w' => r = .returned (.tuple #[.agg (tellO p (fcuO p)).cs, .bool (fcuO p).isSome]) ∧ Below w.heap.size w w' := by
  obtain ⟨W0, hW, S0⟩ := PS.start w p
  have l0 := S0.ld
  have c14 := S0.var.bit (j := 14) rfl
  have c22 := S0.var.bit (j := 22) rfl
  have c28 := S0.var.bit (j := 28) rfl
  have c29 := S0.var.num (j := 29) (k := .i64) rfl
  have c69 := S0.var.num (j := 69) (k := .u8) rfl
  have H0 : Hid (PS w W0 w.heap.size (w.heap.size + 1) p) := S0
  clear S0
  cases h14 : p.bt 14
  · rw [h14] at c14
    cases h22 : p.bt 22
    · rw [h22] at c22
      by_cases e29_3 : p.nm 29 = 3
      · rw [e29_3] at c29
        by_cases e69_0 : p.nm 69 = 0
        · rw [e69_0] at c69
          cases h28 : p.bt 28
          · rw [h28] at c28
            have EQ : Hid (fcuO p = some (agdP p)) := show fcuO p = _ by simp [fcuO, h14, h22, e29_3, e69_0, h28]
            have ER : Hid (Ending.returned (.tuple #[.agg (agdP p).cs, .bool true]) = Ending.returned (.tuple #[.agg (tellO p (fcuO p)).cs, .bool (fcuO p).isSome])) := show Ending.returned _ = _ by rw [EQ.out]; rfl
            clear EQ
            clear e29_3
            clear e69_0
            clear h14 h22 h28
            go_enter Try.func31, Try.ntmps31
            go_wp2_with fail
            refine (agd_any p W0).mono ?_
            rintro _ V ⟨rfl, bV⟩
            obtain ⟨U, sU, G0⟩ := (H0.out.below bV).tell (agdP p)
            have G : Hid (RvAt U (w.heap.size + 1) 47 (agdP p).cs ∧ Below w.heap.size w U) := G0
            clear G0 H0 bV hW l0 c14 c22 c28 c29 c69
            go_wp2_with (with_reducible exact ret_pb Try.results31 (by with_unfolding_all rfl) (by with_unfolding_all rfl) (by with_unfolding_all rfl) G.out.1 ⟨ER.out, G.out.2⟩)
          · rw [h28] at c28
            have EQ : Hid (fcuO p = none) := show fcuO p = _ by simp [fcuO, h14, h22, e29_3, e69_0, h28]
            have ER : Hid (Ending.returned (.tuple #[.agg (p).cs, .bool false]) = Ending.returned (.tuple #[.agg (tellO p (fcuO p)).cs, .bool (fcuO p).isSome])) := show Ending.returned _ = _ by rw [EQ.out]; rfl
            clear EQ
            clear e29_3
            clear e69_0
            clear h14 h22 h28
            go_enter Try.func31, Try.ntmps31
            obtain ⟨U, sU, G0⟩ := H0.out.tell p
            have G : Hid (RvAt U (w.heap.size + 1) 47 p.cs ∧ Below w.heap.size w U) := G0
            clear G0 H0
            go_wp2_with (with_reducible exact ret_pb Try.results31 (by with_unfolding_all rfl) (by with_unfolding_all rfl) (by with_unfolding_all rfl) G.out.1 ⟨ER.out, G.out.2⟩)
        · skip
          have EQ : Hid (fcuO p = none) := show fcuO p = _ by simp [fcuO, h14, h22, e29_3, e69_0]
          have ER : Hid (Ending.returned (.tuple #[.agg (p).cs, .bool false]) = Ending.returned (.tuple #[.agg (tellO p (fcuO p)).cs, .bool (fcuO p).isSome])) := show Ending.returned _ = _ by rw [EQ.out]; rfl
          clear EQ
          clear e29_3
          obtain ⟨K69, g69⟩ : ∃ K, p.nm 69 = K := ⟨_, rfl⟩
          rw [g69] at c69 e69_0
          have q69_0 : (K69 == 0) = false := by simp [e69_0]
          have n69_0 : (K69 != 0) = true := by simp [e69_0]
          clear g69
          clear h14 h22
          go_enter Try.func31, Try.ntmps31
          obtain ⟨U, sU, G0⟩ := H0.out.tell p
          have G : Hid (RvAt U (w.heap.size + 1) 47 p.cs ∧ Below w.heap.size w U) := G0
          clear G0 H0
          go_wp2_with (with_reducible exact ret_pb Try.results31 (by with_unfolding_all rfl) (by with_unfolding_all rfl) (by with_unfolding_all rfl) G.out.1 ⟨ER.out, G.out.2⟩)
      · skip
        have EQ : Hid (fcuO p = none) := show fcuO p = _ by simp [fcuO, h14, h22, e29_3]
        have ER : Hid (Ending.returned (.tuple #[.agg (p).cs, .bool false]) = Ending.returned (.tuple #[.agg (tellO p (fcuO p)).cs, .bool (fcuO p).isSome])) := show Ending.returned _ = _ by rw [EQ.out]; rfl
        clear EQ
        obtain ⟨K29, g29⟩ : ∃ K, p.nm 29 = K := ⟨_, rfl⟩
        rw [g29] at c29 e29_3
        have q29_3 : (K29 == 3) = false := by simp [e29_3]
        have n29_3 : (K29 != 3) = true := by simp [e29_3]
        clear g29
        clear h14 h22
        go_enter Try.func31, Try.ntmps31
        obtain ⟨U, sU, G0⟩ := H0.out.tell p
        have G : Hid (RvAt U (w.heap.size + 1) 47 p.cs ∧ Below w.heap.size w U) := G0
        clear G0 H0
        go_wp2_with (with_reducible exact ret_pb Try.results31 (by with_unfolding_all rfl) (by with_unfolding_all rfl) (by with_unfolding_all rfl) G.out.1 ⟨ER.out, G.out.2⟩)
    · rw [h22] at c22
      cases h28 : p.bt 28
      · rw [h28] at c28
        by_cases e29_3 : p.nm 29 = 3
        · rw [e29_3] at c29
          by_cases e69_0 : p.nm 69 = 0
          · rw [e69_0] at c69
            have EQ : Hid (fcuO p = some (agdP p)) := show fcuO p = _ by simp [fcuO, h14, h22, h28, e29_3, e69_0]
            have ER : Hid (Ending.returned (.tuple #[.agg (agdP p).cs, .bool true]) = Ending.returned (.tuple #[.agg (tellO p (fcuO p)).cs, .bool (fcuO p).isSome])) := show Ending.returned _ = _ by rw [EQ.out]; rfl
            clear EQ
            clear e29_3
            clear e69_0
            clear h14 h22 h28
            go_enter Try.func31, Try.ntmps31
            go_wp2_with fail
            refine (agd_any p W0).mono ?_
            rintro _ V ⟨rfl, bV⟩
            obtain ⟨U, sU, G0⟩ := (H0.out.below bV).tell (agdP p)
            have G : Hid (RvAt U (w.heap.size + 1) 47 (agdP p).cs ∧ Below w.heap.size w U) := G0
            clear G0 H0 bV hW l0 c14 c22 c28 c29 c69
            go_wp2_with (with_reducible exact ret_pb Try.results31 (by with_unfolding_all rfl) (by with_unfolding_all rfl) (by with_unfolding_all rfl) G.out.1 ⟨ER.out, G.out.2⟩)
          · skip
            have EQ : Hid (fcuO p = none) := show fcuO p = _ by simp [fcuO, h14, h22, h28, e29_3, e69_0]
            have ER : Hid (Ending.returned (.tuple #[.agg (p).cs, .bool false]) = Ending.returned (.tuple #[.agg (tellO p (fcuO p)).cs, .bool (fcuO p).isSome])) := show Ending.returned _ = _ by rw [EQ.out]; rfl
            clear EQ
            clear e29_3
            obtain ⟨K69, g69⟩ : ∃ K, p.nm 69 = K := ⟨_, rfl⟩
            rw [g69] at c69 e69_0
            have q69_0 : (K69 == 0) = false := by simp [e69_0]
            have n69_0 : (K69 != 0) = true := by simp [e69_0]
            clear g69
            clear h14 h22 h28
            go_enter Try.func31, Try.ntmps31
            obtain ⟨U, sU, G0⟩ := H0.out.tell p
            have G : Hid (RvAt U (w.heap.size + 1) 47 p.cs ∧ Below w.heap.size w U) := G0
            clear G0 H0
            go_wp2_with (with_reducible exact ret_pb Try.results31 (by with_unfolding_all rfl) (by with_unfolding_all rfl) (by with_unfolding_all rfl) G.out.1 ⟨ER.out, G.out.2⟩)
        · skip
          have EQ : Hid (fcuO p = none) := show fcuO p = _ by simp [fcuO, h14, h22, h28, e29_3]
          have ER : Hid (Ending.returned (.tuple #[.agg (p).cs, .bool false]) = Ending.returned (.tuple #[.agg (tellO p (fcuO p)).cs, .bool (fcuO p).isSome])) := show Ending.returned _ = _ by rw [EQ.out]; rfl
          clear EQ
          obtain ⟨K29, g29⟩ : ∃ K, p.nm 29 = K := ⟨_, rfl⟩
          rw [g29] at c29 e29_3
          have q29_3 : (K29 == 3) = false := by simp [e29_3]
          have n29_3 : (K29 != 3) = true := by simp [e29_3]
          clear g29
          clear h14 h22 h28
          go_enter Try.func31, Try.ntmps31
          obtain ⟨U, sU, G0⟩ := H0.out.tell p
          have G : Hid (RvAt U (w.heap.size + 1) 47 p.cs ∧ Below w.heap.size w U) := G0
          clear G0 H0
          go_wp2_with (with_reducible exact ret_pb Try.results31 (by with_unfolding_all rfl) (by with_unfolding_all rfl) (by with_unfolding_all rfl) G.out.1 ⟨ER.out, G.out.2⟩)
      · rw [h28] at c28
        have EQ : Hid (fcuO p = some (updP p)) := show fcuO p = _ by simp [fcuO, h14, h22, h28]
        have ER : Hid (Ending.returned (.tuple #[.agg (updP p).cs, .bool true]) = Ending.returned (.tuple #[.agg (tellO p (fcuO p)).cs, .bool (fcuO p).isSome])) := show Ending.returned _ = _ by rw [EQ.out]; rfl
        clear EQ
        clear h14 h22 h28
        go_enter Try.func31, Try.ntmps31
        go_wp2_with fail
        refine (upd_any p W0).mono ?_
        rintro _ V ⟨rfl, bV⟩
        obtain ⟨U, sU, G0⟩ := (H0.out.below bV).tell (updP p)
        have G : Hid (RvAt U (w.heap.size + 1) 47 (updP p).cs ∧ Below w.heap.size w U) := G0
        clear G0 H0 bV hW l0 c14 c22 c28 c29 c69
        go_wp2_with (with_reducible exact ret_pb Try.results31 (by with_unfolding_all rfl) (by with_unfolding_all rfl) (by with_unfolding_all rfl) G.out.1 ⟨ER.out, G.out.2⟩)
  · rw [h14] at c14
    cases h28 : p.bt 28
    · rw [h28] at c28
      have EQ : Hid (fcuO p = some (recP p)) := show fcuO p = _ by simp [fcuO, h14, h28]
      have ER : Hid (Ending.returned (.tuple #[.agg (recP p).cs, .bool true]) = Ending.returned (.tuple #[.agg (tellO p (fcuO p)).cs, .bool (fcuO p).isSome])) := show Ending.returned _ = _ by rw [EQ.out]; rfl
      clear EQ
      clear h14 h28
      go_enter Try.func31, Try.ntmps31
      go_wp2_with fail
      refine (rec_any p W0).mono ?_
      rintro _ V ⟨rfl, bV⟩
      obtain ⟨U, sU, G0⟩ := (H0.out.below bV).tell (recP p)
      have G : Hid (RvAt U (w.heap.size + 1) 47 (recP p).cs ∧ Below w.heap.size w U) := G0
      clear G0 H0 bV hW l0 c14 c22 c28 c29 c69
      go_wp2_with (with_reducible exact ret_pb Try.results31 (by with_unfolding_all rfl) (by with_unfolding_all rfl) (by with_unfolding_all rfl) G.out.1 ⟨ER.out, G.out.2⟩)
    · rw [h28] at c28
      cases h22 : p.bt 22
      · rw [h22] at c22
        by_cases e29_3 : p.nm 29 = 3
        · rw [e29_3] at c29
          by_cases e69_0 : p.nm 69 = 0
          · rw [e69_0] at c69
            have EQ : Hid (fcuO p = none) := show fcuO p = _ by simp [fcuO, h14, h28, h22, e29_3, e69_0]
            have ER : Hid (Ending.returned (.tuple #[.agg (p).cs, .bool false]) = Ending.returned (.tuple #[.agg (tellO p (fcuO p)).cs, .bool (fcuO p).isSome])) := show Ending.returned _ = _ by rw [EQ.out]; rfl
            clear EQ
            clear e29_3
            clear e69_0
            clear h14 h28 h22
            go_enter Try.func31, Try.ntmps31
            obtain ⟨U, sU, G0⟩ := H0.out.tell p
            have G : Hid (RvAt U (w.heap.size + 1) 47 p.cs ∧ Below w.heap.size w U) := G0
            clear G0 H0
            go_wp2_with (with_reducible exact ret_pb Try.results31 (by with_unfolding_all rfl) (by with_unfolding_all rfl) (by with_unfolding_all rfl) G.out.1 ⟨ER.out, G.out.2⟩)
          · skip
            have EQ : Hid (fcuO p = none) := show fcuO p = _ by simp [fcuO, h14, h28, h22, e29_3, e69_0]
            have ER : Hid (Ending.returned (.tuple #[.agg (p).cs, .bool false]) = Ending.returned (.tuple #[.agg (tellO p (fcuO p)).cs, .bool (fcuO p).isSome])) := show Ending.returned _ = _ by rw [EQ.out]; rfl
            clear EQ
            clear e29_3
            obtain ⟨K69, g69⟩ : ∃ K, p.nm 69 = K := ⟨_, rfl⟩
            rw [g69] at c69 e69_0
            have q69_0 : (K69 == 0) = false := by simp [e69_0]
            have n69_0 : (K69 != 0) = true := by simp [e69_0]
            clear g69
            clear h14 h28 h22
            go_enter Try.func31, Try.ntmps31
            obtain ⟨U, sU, G0⟩ := H0.out.tell p
            have G : Hid (RvAt U (w.heap.size + 1) 47 p.cs ∧ Below w.heap.size w U) := G0
            clear G0 H0
            go_wp2_with (with_reducible exact ret_pb Try.results31 (by with_unfolding_all rfl) (by with_unfolding_all rfl) (by with_unfolding_all rfl) G.out.1 ⟨ER.out, G.out.2⟩)
        · skip
          have EQ : Hid (fcuO p = none) := show fcuO p = _ by simp [fcuO, h14, h28, h22, e29_3]
          have ER : Hid (Ending.returned (.tuple #[.agg (p).cs, .bool false]) = Ending.returned (.tuple #[.agg (tellO p (fcuO p)).cs, .bool (fcuO p).isSome])) := show Ending.returned _ = _ by rw [EQ.out]; rfl
          clear EQ
          obtain ⟨K29, g29⟩ : ∃ K, p.nm 29 = K := ⟨_, rfl⟩
          rw [g29] at c29 e29_3
          have q29_3 : (K29 == 3) = false := by simp [e29_3]
          have n29_3 : (K29 != 3) = true := by simp [e29_3]
          clear g29
          clear h14 h28 h22
          go_enter Try.func31, Try.ntmps31
          obtain ⟨U, sU, G0⟩ := H0.out.tell p
          have G : Hid (RvAt U (w.heap.size + 1) 47 p.cs ∧ Below w.heap.size w U) := G0
          clear G0 H0
          go_wp2_with (with_reducible exact ret_pb Try.results31 (by with_unfolding_all rfl) (by with_unfolding_all rfl) (by with_unfolding_all rfl) G.out.1 ⟨ER.out, G.out.2⟩)
      · rw [h22] at c22
        have EQ : Hid (fcuO p = some (updP p)) := show fcuO p = _ by simp [fcuO, h14, h28, h22]
        have ER : Hid (Ending.returned (.tuple #[.agg (updP p).cs, .bool true]) = Ending.returned (.tuple #[.agg (tellO p (fcuO p)).cs, .bool (fcuO p).isSome])) := show Ending.returned _ = _ by rw [EQ.out]; rfl
        clear EQ
        clear h14 h28 h22
        go_enter Try.func31, Try.ntmps31
        go_wp2_with fail
        refine (upd_any p W0).mono ?_
        rintro _ V ⟨rfl, bV⟩
        obtain ⟨U, sU, G0⟩ := (H0.out.below bV).tell (updP p)
        have G : Hid (RvAt U (w.heap.size + 1) 47 (updP p).cs ∧ Below w.heap.size w U) := G0
        clear G0 H0 bV hW l0 c14 c22 c28 c29 c69
        go_wp2_with (with_reducible exact ret_pb Try.results31 (by with_unfolding_all rfl) (by with_unfolding_all rfl) (by with_unfolding_all rfl) G.out.1 ⟨ER.out, G.out.2⟩)
set_option maxHeartbeats 4000000 in
theorem step_any (p : Pt) (w : World) :
    Calls Try.prog 19 #[.agg p.cs] w fun r w' => r = .returned (.tuple #[.agg (tellO p (stepO p)).cs, .bool (stepO p).isSome]) ∧ Below w.heap.size w w' := by
  obtain ⟨W0, hW, S0⟩ := PS.start w p
  have l0 := S0.ld
  have c2 := S0.var.bit (j := 2) rfl
  have c29 := S0.var.num (j := 29) (k := .i64) rfl
  have c72 := S0.var.num (j := 72) (k := .i64) rfl
  have H0 : Hid (PS w W0 w.heap.size (w.heap.size + 1) p) := S0
  clear S0
  cases h2 : p.bt 2
  · rw [h2] at c2
    by_cases e29_0 : p.nm 29 = 0
    · rw [e29_0] at c29
      by_cases e72_1 : p.nm 72 = 1
      · rw [e72_1] at c72
        have EQ : Hid (stepO p = fdsO p) := show stepO p = _ by simp [stepO, h2, e29_0, e72_1]
        have ER : Hid (Ending.returned (.tuple #[.agg (tellO p (fdsO p)).cs, .bool (fdsO p).isSome]) = Ending.returned (.tuple #[.agg (tellO p (stepO p)).cs, .bool (stepO p).isSome])) := show Ending.returned _ = _ by rw [EQ.out]
        clear EQ
        clear e29_0
        clear e72_1
        clear h2
        go_enter Try.func19, Try.ntmps19
        go_wp2_with fail
        refine (fds_any p W0).mono ?_
        rintro _ V ⟨rfl, bV⟩
        obtain ⟨U, sU, G0⟩ := (H0.out.below bV).tell (tellO p (fdsO p))
        have G : Hid (RvAt U (w.heap.size + 1) 47 (tellO p (fdsO p)).cs ∧ Below w.heap.size w U) := G0
        clear G0 H0 bV hW l0 c2 c29 c72
        go_wp2_with (with_reducible exact ret_pb Try.results19 (by with_unfolding_all rfl) (by with_unfolding_all rfl) (by with_unfolding_all rfl) G.out.1 ⟨ER.out, G.out.2⟩)
      · skip
        by_cases e72_2 : p.nm 72 = 2
        · rw [e72_2] at c72
          have EQ : Hid (stepO p = fagO p) := show stepO p = _ by simp [stepO, h2, e29_0, e72_1, e72_2]
          have ER : Hid (Ending.returned (.tuple #[.agg (tellO p (fagO p)).cs, .bool (fagO p).isSome]) = Ending.returned (.tuple #[.agg (tellO p (stepO p)).cs, .bool (stepO p).isSome])) := show Ending.returned _ = _ by rw [EQ.out]
          clear EQ
          clear e29_0
          clear e72_1
          clear e72_2
          clear h2
          go_enter Try.func19, Try.ntmps19
          go_wp2_with fail
          refine (fag_any p W0).mono ?_
          rintro _ V ⟨rfl, bV⟩
          obtain ⟨U, sU, G0⟩ := (H0.out.below bV).tell (tellO p (fagO p))
          have G : Hid (RvAt U (w.heap.size + 1) 47 (tellO p (fagO p)).cs ∧ Below w.heap.size w U) := G0
          clear G0 H0 bV hW l0 c2 c29 c72
          go_wp2_with (with_reducible exact ret_pb Try.results19 (by with_unfolding_all rfl) (by with_unfolding_all rfl) (by with_unfolding_all rfl) G.out.1 ⟨ER.out, G.out.2⟩)
        · skip
          by_cases e72_3 : p.nm 72 = 3
          · rw [e72_3] at c72
            have EQ : Hid (stepO p = fcuO p) := show stepO p = _ by simp [stepO, h2, e29_0, e72_1, e72_2, e72_3]
            have ER : Hid (Ending.returned (.tuple #[.agg (tellO p (fcuO p)).cs, .bool (fcuO p).isSome]) = Ending.returned (.tuple #[.agg (tellO p (stepO p)).cs, .bool (stepO p).isSome])) := show Ending.returned _ = _ by rw [EQ.out]
            clear EQ
            clear e29_0
            clear e72_1
            clear e72_2
            clear e72_3
            clear h2
            go_enter Try.func19, Try.ntmps19
            go_wp2_with fail
            refine (fcu_any p W0).mono ?_
            rintro _ V ⟨rfl, bV⟩
            obtain ⟨U, sU, G0⟩ := (H0.out.below bV).tell (tellO p (fcuO p))
            have G : Hid (RvAt U (w.heap.size + 1) 47 (tellO p (fcuO p)).cs ∧ Below w.heap.size w U) := G0
            clear G0 H0 bV hW l0 c2 c29 c72
            go_wp2_with (with_reducible exact ret_pb Try.results19 (by with_unfolding_all rfl) (by with_unfolding_all rfl) (by with_unfolding_all rfl) G.out.1 ⟨ER.out, G.out.2⟩)
          · skip
            have EQ : Hid (stepO p = some (disP p)) := show stepO p = _ by simp [stepO, h2, e29_0, e72_1, e72_2, e72_3]
            have ER : Hid (Ending.returned (.tuple #[.agg (disP p).cs, .bool true]) = Ending.returned (.tuple #[.agg (tellO p (stepO p)).cs, .bool (stepO p).isSome])) := show Ending.returned _ = _ by rw [EQ.out]; rfl
            clear EQ
            clear e29_0
            obtain ⟨K72, g72⟩ : ∃ K, p.nm 72 = K := ⟨_, rfl⟩
            rw [g72] at c72 e72_1 e72_2 e72_3
            have q72_1 : (K72 == 1) = false := by simp [e72_1]
            have n72_1 : (K72 != 1) = true := by simp [e72_1]
            have q72_2 : (K72 == 2) = false := by simp [e72_2]
            have n72_2 : (K72 != 2) = true := by simp [e72_2]
            have q72_3 : (K72 == 3) = false := by simp [e72_3]
            have n72_3 : (K72 != 3) = true := by simp [e72_3]
            clear g72
            clear h2
            go_enter Try.func19, Try.ntmps19
            go_wp2_with fail
            refine (dis_any p W0).mono ?_
            rintro _ V ⟨rfl, bV⟩
            obtain ⟨U, sU, G0⟩ := (H0.out.below bV).tell (disP p)
            have G : Hid (RvAt U (w.heap.size + 1) 47 (disP p).cs ∧ Below w.heap.size w U) := G0
            clear G0 H0 bV hW l0 c2 c29 c72
            go_wp2_with (with_reducible exact ret_pb Try.results19 (by with_unfolding_all rfl) (by with_unfolding_all rfl) (by with_unfolding_all rfl) G.out.1 ⟨ER.out, G.out.2⟩)
    · skip
      have EQ : Hid (stepO p = some (disP p)) := show stepO p = _ by simp [stepO, h2, e29_0]
      have ER : Hid (Ending.returned (.tuple #[.agg (disP p).cs, .bool true]) = Ending.returned (.tuple #[.agg (tellO p (stepO p)).cs, .bool (stepO p).isSome])) := show Ending.returned _ = _ by rw [EQ.out]; rfl
      clear EQ
      obtain ⟨K29, g29⟩ : ∃ K, p.nm 29 = K := ⟨_, rfl⟩
      rw [g29] at c29 e29_0
      have q29_0 : (K29 == 0) = false := by simp [e29_0]
      have n29_0 : (K29 != 0) = true := by simp [e29_0]
      clear g29
      clear h2
      go_enter Try.func19, Try.ntmps19
      go_wp2_with fail
      refine (dis_any p W0).mono ?_
      rintro _ V ⟨rfl, bV⟩
      obtain ⟨U, sU, G0⟩ := (H0.out.below bV).tell (disP p)
      have G : Hid (RvAt U (w.heap.size + 1) 47 (disP p).cs ∧ Below w.heap.size w U) := G0
      clear G0 H0 bV hW l0 c2 c29 c72
      go_wp2_with (with_reducible exact ret_pb Try.results19 (by with_unfolding_all rfl) (by with_unfolding_all rfl) (by with_unfolding_all rfl) G.out.1 ⟨ER.out, G.out.2⟩)
  · rw [h2] at c2
    by_cases e72_1 : p.nm 72 = 1
    · rw [e72_1] at c72
      have EQ : Hid (stepO p = fdsO p) := show stepO p = _ by simp [stepO, h2, e72_1]
      have ER : Hid (Ending.returned (.tuple #[.agg (tellO p (fdsO p)).cs, .bool (fdsO p).isSome]) = Ending.returned (.tuple #[.agg (tellO p (stepO p)).cs, .bool (stepO p).isSome])) := show Ending.returned _ = _ by rw [EQ.out]
      clear EQ
      clear e72_1
      clear h2
      go_enter Try.func19, Try.ntmps19
      go_wp2_with fail
      refine (fds_any p W0).mono ?_
      rintro _ V ⟨rfl, bV⟩
      obtain ⟨U, sU, G0⟩ := (H0.out.below bV).tell (tellO p (fdsO p))
      have G : Hid (RvAt U (w.heap.size + 1) 47 (tellO p (fdsO p)).cs ∧ Below w.heap.size w U) := G0
      clear G0 H0 bV hW l0 c2 c29 c72
      go_wp2_with (with_reducible exact ret_pb Try.results19 (by with_unfolding_all rfl) (by with_unfolding_all rfl) (by with_unfolding_all rfl) G.out.1 ⟨ER.out, G.out.2⟩)
    · skip
      by_cases e72_2 : p.nm 72 = 2
      · rw [e72_2] at c72
        have EQ : Hid (stepO p = fagO p) := show stepO p = _ by simp [stepO, h2, e72_1, e72_2]
        have ER : Hid (Ending.returned (.tuple #[.agg (tellO p (fagO p)).cs, .bool (fagO p).isSome]) = Ending.returned (.tuple #[.agg (tellO p (stepO p)).cs, .bool (stepO p).isSome])) := show Ending.returned _ = _ by rw [EQ.out]
        clear EQ
        clear e72_1
        clear e72_2
        clear h2
        go_enter Try.func19, Try.ntmps19
        go_wp2_with fail
        refine (fag_any p W0).mono ?_
        rintro _ V ⟨rfl, bV⟩
        obtain ⟨U, sU, G0⟩ := (H0.out.below bV).tell (tellO p (fagO p))
        have G : Hid (RvAt U (w.heap.size + 1) 47 (tellO p (fagO p)).cs ∧ Below w.heap.size w U) := G0
        clear G0 H0 bV hW l0 c2 c29 c72
        go_wp2_with (with_reducible exact ret_pb Try.results19 (by with_unfolding_all rfl) (by with_unfolding_all rfl) (by with_unfolding_all rfl) G.out.1 ⟨ER.out, G.out.2⟩)
      · skip
        by_cases e72_3 : p.nm 72 = 3
        · rw [e72_3] at c72
          have EQ : Hid (stepO p = fcuO p) := show stepO p = _ by simp [stepO, h2, e72_1, e72_2, e72_3]
          have ER : Hid (Ending.returned (.tuple #[.agg (tellO p (fcuO p)).cs, .bool (fcuO p).isSome]) = Ending.returned (.tuple #[.agg (tellO p (stepO p)).cs, .bool (stepO p).isSome])) := show Ending.returned _ = _ by rw [EQ.out]
          clear EQ
          clear e72_1
          clear e72_2
          clear e72_3
          clear h2
          go_enter Try.func19, Try.ntmps19
          go_wp2_with fail
          refine (fcu_any p W0).mono ?_
          rintro _ V ⟨rfl, bV⟩
          obtain ⟨U, sU, G0⟩ := (H0.out.below bV).tell (tellO p (fcuO p))
          have G : Hid (RvAt U (w.heap.size + 1) 47 (tellO p (fcuO p)).cs ∧ Below w.heap.size w U) := G0
          clear G0 H0 bV hW l0 c2 c29 c72
          go_wp2_with (with_reducible exact ret_pb Try.results19 (by with_unfolding_all rfl) (by with_unfolding_all rfl) (by with_unfolding_all rfl) G.out.1 ⟨ER.out, G.out.2⟩)
        · skip
          have EQ : Hid (stepO p = some (disP p)) := show stepO p = _ by simp [stepO, h2, e72_1, e72_2, e72_3]
          have ER : Hid (Ending.returned (.tuple #[.agg (disP p).cs, .bool true]) = Ending.returned (.tuple #[.agg (tellO p (stepO p)).cs, .bool (stepO p).isSome])) := show Ending.returned _ = _ by rw [EQ.out]; rfl
          clear EQ
          obtain ⟨K72, g72⟩ : ∃ K, p.nm 72 = K := ⟨_, rfl⟩
          rw [g72] at c72 e72_1 e72_2 e72_3
          have q72_1 : (K72 == 1) = false := by simp [e72_1]
          have n72_1 : (K72 != 1) = true := by simp [e72_1]
          have q72_2 : (K72 == 2) = false := by simp [e72_2]
          have n72_2 : (K72 != 2) = true := by simp [e72_2]
          have q72_3 : (K72 == 3) = false := by simp [e72_3]
          have n72_3 : (K72 != 3) = true := by simp [e72_3]
          clear g72
          clear h2
          go_enter Try.func19, Try.ntmps19
          go_wp2_with fail
          refine (dis_any p W0).mono ?_
          rintro _ V ⟨rfl, bV⟩
          obtain ⟨U, sU, G0⟩ := (H0.out.below bV).tell (disP p)
          have G : Hid (RvAt U (w.heap.size + 1) 47 (disP p).cs ∧ Below w.heap.size w U) := G0
          clear G0 H0 bV hW l0 c2 c29 c72
          go_wp2_with (with_reducible exact ret_pb Try.results19 (by with_unfolding_all rfl) (by with_unfolding_all rfl) (by with_unfolding_all rfl) G.out.1 ⟨ER.out, G.out.2⟩)
end Go.Proofs.Ytlneoegmlcbidaa
