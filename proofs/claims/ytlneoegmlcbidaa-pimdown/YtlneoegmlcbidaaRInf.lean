/-
  The definitions of Take, Designated, Info, BetterOrSame, Flags: their walks, each for every input.
-/
import Derived.Test.YtlneoegmlcbidaaRefs
import Derived.Test.YtlneoegmlcbidaaInf
import Derived.Test.YtlneoegmlcbidaaVRef
namespace Go.Proofs.Ytlneoegmlcbidaa
set_option linter.unusedVariables false
set_option maxRecDepth 4000
set_option linter.unusedSimpArgs false
open Go.RowKit

theorem rbetter_row (a b : Vc) (w : World) : Calls Try.prog 56 #[.agg a.cs, .agg b.cs] w fun e w' => e = .returned (.bool (bet a b)) ∧ Below w.heap.size w w' := by
  rw [← v4_cs a, ← v4_cs b]
  exact betref_any _ _ w
theorem rsuperior_row (a b : Vc) (w : World) : Calls Try.prog 58 #[.agg a.cs, .agg b.cs] w fun e w' => e = .returned (.bool (sup a b)) ∧ Below w.heap.size w w' := by
  rw [← v4_cs a, ← v4_cs b]
  exact supref_any _ _ w (v4_wf a) (v4_wf b)
theorem msg_v (p : Pt) : vOf (msg p) = mV p := by
  refine Row.ext' ?_
  show (((p.cl.drop 48).take 16).drop 8).take 4 = (p.cl.drop 56).take 4
  rw [List.drop_take, List.take_take, List.drop_drop]
  rfl
theorem msg_t (p : Pt) : tOf (msg p) = mT p := by
  refine Row.ext' ?_
  show (((p.cl.drop 48).take 16).drop 12).take 4 = (p.cl.drop 60).take 4
  rw [List.drop_take, List.take_take, List.drop_drop]
  rfl
attribute [local go_sem ↓] ldP stP ldM stM ldTm stTm ldV stV stB stU eqgTm eqlTm eqgV eqlV
attribute [local go_sem ↓] alP alM
attribute [local go_sem] alP_run alM_run
set_option maxHeartbeats 1000000 in
theorem rdesig_any (m : Mg) (w : World) :
    Calls Try.prog 57 #[.agg m.cs] w fun r w' => r = .returned (.bool (desM m)) ∧ Below w.heap.size w w' := by
  obtain ⟨W, hW, r0, bW, zW⟩ := new_m w m
  have m0 := r0.num (j := 0) (k := .i64) rfl
  have m7 := r0.num (j := 7) (k := .i64) rfl
  have H : Hid (Below w.heap.size w W) := bW
  obtain ⟨K, hK⟩ : ∃ K, m.nm 0 = K := ⟨_, rfl⟩
  obtain ⟨R, hR⟩ : ∃ R, m.nm 7 = R := ⟨_, rfl⟩
  have E : Hid (desM m = (decide (K = 1) || (decide (K = 3) && decide (R = 4)))) := show desM m = _ by rw [desM, hK, hR]
  rw [hK] at m0; rw [hR] at m7
  clear r0 bW zW hK hR
  by_cases h1 : K = 1
  · subst h1
    go_enter Try.func57, Try.ntmps57
    go_wp2
    go_ret
    exact ⟨ret_bool (by rw [E.out]; rfl), H.out⟩
  · by_cases h3 : K = 3
    · subst h3
      go_enter Try.func57, Try.ntmps57
      go_wp2
      go_ret
      exact ⟨ret_bool (by rw [E.out]; by_cases h : R = 4 <;> simp [h]), H.out⟩
    · go_enter Try.func57, Try.ntmps57
      go_wp2
      go_ret
      exact ⟨ret_bool (by rw [E.out]; simp [h1, h3]), H.out⟩
set_option maxHeartbeats 2000000 in
theorem rtake_any (p : Pt) (m : Mg) (w : World) :
    Calls Try.prog 23 #[.agg p.cs, .agg m.cs] w fun r w' => r = .returned (.agg (takeP p m).cs) ∧ Below w.heap.size w w' := by
  obtain ⟨W, hW, hp, rm, r1, bW, zW⟩ := three_p w p m
  have c2 := hp.bit (j := 2) rfl
  have m0 := rm.num (j := 0) (k := .i64) rfl
  have lm := rm.mld
  have H : Hid (RvAt W (w.heap.size + 1 + 1) 47 zeroP.cs ∧ Below w.heap.size w W) := ⟨r1, bW⟩
  clear r1 bW zW
  cases h0 : p.bt 2
  · rw [h0] at c2
    obtain ⟨lX, U, sU, hU, bU⟩ := fin_p H.out.1 H.out.2 hp (World.grownBy.refl _ _) (Nat.le_refl _) (by omega) (by omega)
    have G : Hid (RvAt U (w.heap.size + 1 + 1) 47 (takeP p m).cs ∧ Below w.heap.size w U) := by
      show RvAt U _ _ (takeP p m).cs ∧ _
      rw [show takeP p m = p by simp [takeP, h0]]
      exact ⟨hU, bU⟩
    clear hp rm hU bU h0
    go_enter Try.func23, Try.ntmps23
    go_wp2_with (with_reducible exact ret_port Try.results23 (by with_unfolding_all rfl) (by with_unfolding_all rfl) G.out.1 ⟨rfl, G.out.2⟩)
  · rw [h0] at c2
    obtain ⟨K, hK⟩ : ∃ K, m.nm 0 = K := ⟨_, rfl⟩
    have E : Hid (takeP p m = if K = 3 then gotP p m 15 kb15 else if K = 1 ∨ K = 2 then gotP p m 16 kb16 else p) := show takeP p m = _ by rw [takeP, if_pos h0, hK]
    rw [hK] at m0
    obtain ⟨V, s1, hV, gV⟩ := hp.putM m
    have dm := (rm.keptBut gV (by simp)).num (j := 0) (k := .i64) rfl
    obtain ⟨X, s2, hX, gX⟩ := hV.setB kb14 true
    have em := ((rm.keptBut gV (by simp)).keptBut gX (by simp)).num (j := 0) (k := .i64) rfl
    rw [hK] at dm em
    by_cases h3 : K = 3
    · subst h3
      obtain ⟨Z, s3, hZ, gZ⟩ := hX.setB kb15 true
      rw [got_ref p m kb15 (by decide) (by decide)] at hZ
      obtain ⟨lX, U, sU, hU, bU⟩ := fin_p H.out.1 H.out.2 hZ (grown_self (grown_self gV gX) gZ) (Nat.le_refl _) (by omega) (by omega)
      have G : Hid (RvAt U (w.heap.size + 1 + 1) 47 (takeP p m).cs ∧ Below w.heap.size w U) := by
        show RvAt U _ _ (takeP p m).cs ∧ _
        rw [E.out, if_pos rfl]
        exact ⟨hU, bU⟩
      clear hp rm hU bU h0 hK hV gV hX gX hZ gZ
      go_enter Try.func23, Try.ntmps23
      go_wp2_with (with_reducible exact ret_port Try.results23 (by with_unfolding_all rfl) (by with_unfolding_all rfl) G.out.1 ⟨rfl, G.out.2⟩)
    · by_cases h12 : K = 1 ∨ K = 2
      · obtain ⟨Z, s3, hZ, gZ⟩ := hX.setB kb16 true
        rw [got_ref p m kb16 (by decide) (by decide)] at hZ
        obtain ⟨lX, U, sU, hU, bU⟩ := fin_p H.out.1 H.out.2 hZ (grown_self (grown_self gV gX) gZ) (Nat.le_refl _) (by omega) (by omega)
        have G : Hid (RvAt U (w.heap.size + 1 + 1) 47 (takeP p m).cs ∧ Below w.heap.size w U) := by
          show RvAt U _ _ (takeP p m).cs ∧ _
          rw [E.out, if_neg h3, if_pos h12]
          exact ⟨hU, bU⟩
        clear hp rm hU bU h0 hK hV gV hX gX hZ gZ h3 E
        rcases h12 with h | h
        all_goals
          subst h
          go_enter Try.func23, Try.ntmps23
          go_wp2_with (with_reducible exact ret_port Try.results23 (by with_unfolding_all rfl) (by with_unfolding_all rfl) G.out.1 ⟨rfl, G.out.2⟩)
      · obtain ⟨lX, U, sU, hU, bU⟩ := fin_p H.out.1 H.out.2 hp (World.grownBy.refl _ _) (Nat.le_refl _) (by omega) (by omega)
        have G : Hid (RvAt U (w.heap.size + 1 + 1) 47 (takeP p m).cs ∧ Below w.heap.size w U) := by
          show RvAt U _ _ (takeP p m).cs ∧ _
          rw [E.out, if_neg h3, if_neg h12]
          exact ⟨hU, bU⟩
        have h1 : ¬ K = 1 := fun e => h12 (.inl e)
        have h2 : ¬ K = 2 := fun e => h12 (.inr e)
        have e3 : (K != 3) = true := by simp [h3]
        have e1 : (K != 1) = true := by simp [h1]
        have e2 : (K != 2) = true := by simp [h2]
        clear hp rm hU bU h0 hK hV gV hX gX h12 s1 s2 dm em
        go_enter Try.func23, Try.ntmps23
        go_wp2_with (with_reducible exact ret_port Try.results23 (by with_unfolding_all rfl) (by with_unfolding_all rfl) G.out.1 ⟨rfl, G.out.2⟩)
set_option maxHeartbeats 2000000 in
theorem rbos_any (p : Pt) (is : Int) (w : World) :
    Calls Try.prog 44 #[.agg p.cs, .int .i64 is] w fun r w' => r = .returned (.bool (bosP p is)) ∧ Below w.heap.size w w' := by
  obtain ⟨W, hW, r0, bW, zW⟩ := new_p w p
  have H : Hid (Below w.heap.size w W) := bW
  have c29 := r0.num (j := 29) (k := .i64) rfl
  have lv := r0.pmV
  have lp := r0.ppri
  have ld := r0.pdsg
  have P1 : Hid (∀ V : World, _) := fun V => rbetter_row (pri p) (mV p) V
  have P2 : Hid (∀ V : World, _) := fun V => rbetter_row (pri p) (dsg p) V
  obtain ⟨K, hK⟩ : ∃ K, p.nm 29 = K := ⟨_, rfl⟩
  have E : Hid (bosP p is = if K = is then (if is = 3 then !bet (pri p) (mV p) else if is = 2 then !bet (pri p) (dsg p) else false) else false) := show bosP p is = _ by rw [bosP, hK]
  rw [hK] at c29
  clear r0 bW zW hK
  by_cases h3 : is = 3
  · subst h3
    by_cases h0 : K = 3
    · subst h0
      go_enter Try.func44, Try.ntmps44
      go_wp2_with fail
      refine (P1.out _).mono ?_
      rintro _ V ⟨rfl, bV⟩
      have H1 : Hid (Below w.heap.size w V) := below_over H.out bV
      clear bV
      go_wp2
      go_ret
      exact ⟨ret_bool (by rw [E.out]; rfl), H1.out⟩
    · go_enter Try.func44, Try.ntmps44
      go_wp2
      go_ret
      exact ⟨ret_bool (by rw [E.out]; simp [h0]), H.out⟩
  · by_cases h2 : is = 2
    · subst h2
      by_cases h0 : K = 2
      · subst h0
        go_enter Try.func44, Try.ntmps44
        go_wp2_with fail
        refine (P2.out _).mono ?_
        rintro _ V ⟨rfl, bV⟩
        have H1 : Hid (Below w.heap.size w V) := below_over H.out bV
        clear bV
        go_wp2
        go_ret
        exact ⟨ret_bool (by rw [E.out]; rfl), H1.out⟩
      · go_enter Try.func44, Try.ntmps44
        go_wp2
        go_ret
        exact ⟨ret_bool (by rw [E.out]; simp [h0]), H.out⟩
    · go_enter Try.func44, Try.ntmps44
      go_wp2
      go_ret
      exact ⟨ret_bool (by rw [E.out]; simp [h2, h3]), H.out⟩
/-- A message's variable, new. -/
theorem var_m (W : World) (m : Mg) : ∃ W', (stS 35 (.pointer (some ⟨W.heap.size, 0, none⟩)) (.agg m.cs)).run Try.prog (W.alloc (.cells zeroM.cs 35)) = .ok () W' ∧ RvAt W' W.heap.size 35 m.cs ∧ Below W.heap.size W W' ∧ W'.heap.size = W.heap.size + 1 :=
  row_new rtM W zeroM.cs m.cs (by rw [Row.csize, lenM]) (by rw [Row.csize, lenM]) m.one'
set_option maxHeartbeats 4000000 in
theorem rinf_any (p : Pt) (w : World) :
    Calls Try.prog 45 #[.agg p.cs] w fun r w' => r = .returned (.int .i64 (infP p)) ∧ Below w.heap.size w w' := by
  obtain ⟨W, hW, hp, bW, zW⟩ := new_p w p
  have l0 := hp.pmsg
  obtain ⟨X, s0, rX, bX, zX⟩ := var_m W (msg p)
  have E : Hid (infP p = if desM (msg p) = true then (if ((mV p).eq (pri p) && (mT p).eq (priT p)) = true then 2 else if sup (mV p) (pri p) = true then 1 else 3) else if othM (msg p) = true then (if bet (mV p) (pri p) = true then 0 else 4) else 0) := show infP p = _ from rfl
  have P1 : Hid (∀ V : World, _) := fun V => rdesig_any (msg p) V
  have P3 : Hid (∀ V : World, _) := fun V => rbetter_row (mV p) (pri p) V
  have P4 : Hid (∀ V : World, _) := fun V => rsuperior_row (mV p) (pri p) V
  have lm := rX.mld
  have H : Hid (RvAt X w.heap.size 47 p.cs ∧ RvAt X W.heap.size 35 (msg p).cs ∧ Below w.heap.size w X) := ⟨hp.below bX, rX, below_over bW bX⟩
  clear hp bW rX bX zX zW
  obtain ⟨d, hd⟩ : ∃ d, W.heap.size = d := ⟨_, rfl⟩
  rw [hd] at H lm s0
  go_enter Try.func45, Try.ntmps45
  go_wp2_with fail
  refine (P1.out _).mono ?_
  rintro _ V ⟨rfl, bV⟩
  have hV := H.out.1.below bV
  have mW := H.out.2.1.below bV
  have B1 : Hid (Below w.heap.size w V) := below_over H.out.2.2 bV
  have lp := hV.ppri
  have lq := hV.ppriT
  have lv := mW.mvof
  have lt := mW.mtof
  rw [msg_v] at lv
  rw [msg_t] at lt
  have m0 := mW.num (j := 0) (k := .i64) rfl
  have m7 := mW.num (j := 7) (k := .i64) rfl
  clear bV hV mW hW l0 s0 lm hd H
  cases h1 : desM (msg p)
  · rw [h1] at E
    obtain ⟨K, hK⟩ : ∃ K, (msg p).nm 0 = K := ⟨_, rfl⟩
    obtain ⟨R, hR⟩ : ∃ R, (msg p).nm 7 = R := ⟨_, rfl⟩
    have O : Hid (othM (msg p) = (decide (K = 3) && (decide (R = 3) || (decide (R = 1) || decide (R = 2))))) := show othM (msg p) = _ by rw [othM, hK, hR]
    rw [hK] at m0; rw [hR] at m7
    clear hK hR h1
    by_cases h3 : K = 3
    · subst h3
      have e3 : Hid (othM (msg p) = true → ∀ b : Bool, bet (mV p) (pri p) = b → infP p = if b = true then 0 else 4) := by
        intro ho b hb
        rw [E.out, ho, hb]
        rfl
      have n3 : Hid (othM (msg p) = false → infP p = 0) := by
        intro ho
        rw [E.out, ho]
        rfl
      clear E
      by_cases r3 : R = 3
      · subst r3
        have ho := e3.out O.out
        cases hb : bet (mV p) (pri p)
        all_goals
          have F : Hid (infP p = _) := ho _ hb
          rw [hb] at P3
          clear ho e3 n3 hb
          go_wp2_with fail
          refine (P3.out _).mono ?_
          rintro _ U ⟨rfl, bU⟩
          have B2 : Hid (Below w.heap.size w U) := below_over B1.out bU
          clear bU
          go_wp2
          go_ret
          exact ⟨ret_int (by rw [F.out]; rfl), B2.out⟩
      · by_cases r1 : R = 1
        · subst r1
          have ho := e3.out O.out
          cases hb : bet (mV p) (pri p)
          all_goals
            have F : Hid (infP p = _) := ho _ hb
            rw [hb] at P3
            clear ho e3 n3 hb
            go_wp2_with fail
            refine (P3.out _).mono ?_
            rintro _ U ⟨rfl, bU⟩
            have B2 : Hid (Below w.heap.size w U) := below_over B1.out bU
            clear bU
            go_wp2
            go_ret
            exact ⟨ret_int (by rw [F.out]; rfl), B2.out⟩
        · by_cases r2 : R = 2
          · subst r2
            have ho := e3.out O.out
            cases hb : bet (mV p) (pri p)
            all_goals
              have F : Hid (infP p = _) := ho _ hb
              rw [hb] at P3
              clear ho e3 n3 hb
              go_wp2_with fail
              refine (P3.out _).mono ?_
              rintro _ U ⟨rfl, bU⟩
              have B2 : Hid (Below w.heap.size w U) := below_over B1.out bU
              clear bU
              go_wp2
              go_ret
              exact ⟨ret_int (by rw [F.out]; rfl), B2.out⟩
          · have F : Hid (infP p = 0) := n3.out (by rw [O.out]; simp [r1, r2, r3])
            have q3 : (R == 3) = false := by simp [r3]
            have q1 : (R == 1) = false := by simp [r1]
            have q2 : (R == 2) = false := by simp [r2]
            clear e3 n3
            go_wp2
            go_ret
            exact ⟨ret_int (by rw [F.out]), B1.out⟩
    · have F : Hid (infP p = 0) := by
        show infP p = 0
        rw [E.out, O.out]
        simp [h3]
      have q3 : (K == 3) = false := by simp [h3]
      by_cases r3 : R = 3
      · subst r3
        clear E O
        go_wp2
        go_ret
        exact ⟨ret_int (by rw [F.out]), B1.out⟩
      · by_cases r1 : R = 1
        · subst r1
          clear E O
          go_wp2
          go_ret
          exact ⟨ret_int (by rw [F.out]), B1.out⟩
        · clear E O
          go_wp2
          go_ret
          exact ⟨ret_int (by rw [F.out]), B1.out⟩
  · rw [h1] at E
    clear h1 m0 m7
    cases h2 : (mV p).eq (pri p)
    · cases h3 : sup (mV p) (pri p)
      all_goals
        rw [h3] at P4
        rw [h2, h3] at E
        go_wp2_with fail
        refine (P4.out _).mono ?_
        rintro _ U ⟨rfl, bU⟩
        have B2 : Hid (Below w.heap.size w U) := below_over B1.out bU
        clear bU
        go_wp2
        go_ret
        exact ⟨ret_int (by rw [E.out]; rfl), B2.out⟩
    · cases h4 : (mT p).eq (priT p)
      · cases h3 : sup (mV p) (pri p)
        all_goals
          rw [h3] at P4
          rw [h2, h3, h4] at E
          go_wp2_with fail
          refine (P4.out _).mono ?_
          rintro _ U ⟨rfl, bU⟩
          have B2 : Hid (Below w.heap.size w U) := below_over B1.out bU
          clear bU
          go_wp2
          go_ret
          exact ⟨ret_int (by rw [E.out]; rfl), B2.out⟩
      · rw [h2, h4] at E
        go_wp2
        go_ret
        exact ⟨ret_int (by rw [E.out]; rfl), B1.out⟩
end Go.Proofs.Ytlneoegmlcbidaa
