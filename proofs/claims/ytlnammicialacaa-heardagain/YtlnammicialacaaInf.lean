/-
  What a message is to a port: the walks of designated, ofDesignated, ofOther, Info, BetterOrSame, each for every input.
-/
import Derived.Test.YtlnammicialacaaClos
namespace Go.Proofs.Ytlnammicialacaa
set_option linter.unusedVariables false
set_option maxRecDepth 4000
set_option linter.unusedSimpArgs false
open Go.RowKit

/-- Is a message designated? -/
def desM (m : Mg) : Bool := decide (m.nm 0 = 1) || (decide (m.nm 0 = 3) && decide (m.nm 7 = 4))
/-- Is it of a port that is up and not designated? -/
def othM (m : Mg) : Bool := decide (m.nm 0 = 3) && (decide (m.nm 7 = 3) || (decide (m.nm 7 = 1) || decide (m.nm 7 = 2)))
def samP (p : Pt) : Bool := (mV p).eq (pri p) && (mT p).eq (priT p)
def ofDes (p : Pt) : Int := if samP p = true then 2 else if sup (mV p) (pri p) = true then 1 else 3
/-- What a message is. -/
def infP (p : Pt) : Int := if desM (msg p) = true then ofDes p else if othM (msg p) = true then (if bet (mV p) (pri p) = true then 0 else 4) else 0
def bosP (p : Pt) (is : Int) : Bool := if p.nm 29 = is then (if is = 3 then !bet (pri p) (mV p) else if is = 2 then !bet (pri p) (dsg p) else false) else false
attribute [local go_sem ↓] ldP stP ldM stM ldTm stTm ldV stV stB stU eqgTm eqlTm eqgV eqlV
set_option maxHeartbeats 1000000 in
theorem desig_any (m : Mg) (w : World) :
    Calls Try.prog 33 #[.agg m.cs] w fun r w' => r = .returned (.bool (desM m)) ∧ Below w.heap.size w w' := by
  obtain ⟨W, hW, r0, bW, zW⟩ := new_m w m
  have m0 := r0.num (j := 0) (k := .i64) rfl
  have m7 := r0.num (j := 7) (k := .i64) rfl
  have H : Hid (Below w.heap.size w W) := bW
  obtain ⟨K, hK⟩ : ∃ K, m.nm 0 = K := ⟨_, rfl⟩
  obtain ⟨R, hR⟩ : ∃ R, m.nm 7 = R := ⟨_, rfl⟩
  have E : Hid (desM m = (decide (K = 1) || (decide (K = 3) && decide (R = 4)))) := show desM m = _ by rw [desM, hK, hR]
  rw [hK] at m0; rw [hR] at m7
  clear r0 bW zW hK hR
  by_cases h3 : K = 3
  · subst h3
    by_cases h4 : R = 4
    · subst h4
      go_enter Try.func33, Try.ntmps33
      go_wp2
      go_ret
      exact ⟨ret_bool (by rw [E.out]; rfl), H.out⟩
    · go_enter Try.func33, Try.ntmps33
      go_wp2
      go_ret
      exact ⟨ret_bool (by rw [E.out]; simp [h4]), H.out⟩
  · by_cases h1 : K = 1
    · subst h1
      go_enter Try.func33, Try.ntmps33
      go_wp2
      go_ret
      exact ⟨ret_bool (by rw [E.out]; rfl), H.out⟩
    · go_enter Try.func33, Try.ntmps33
      go_wp2
      go_ret
      exact ⟨ret_bool (by rw [E.out]; simp [h1, h3]), H.out⟩
set_option maxHeartbeats 1000000 in
theorem oth_any (m : Mg) (w : World) :
    Calls Try.prog 35 #[.agg m.cs] w fun r w' => r = .returned (.bool (othM m)) ∧ Below w.heap.size w w' := by
  obtain ⟨W, hW, r0, bW, zW⟩ := new_m w m
  have m0 := r0.num (j := 0) (k := .i64) rfl
  have m7 := r0.num (j := 7) (k := .i64) rfl
  have H : Hid (Below w.heap.size w W) := bW
  obtain ⟨K, hK⟩ : ∃ K, m.nm 0 = K := ⟨_, rfl⟩
  obtain ⟨R, hR⟩ : ∃ R, m.nm 7 = R := ⟨_, rfl⟩
  have E : Hid (othM m = (decide (K = 3) && (decide (R = 3) || (decide (R = 1) || decide (R = 2))))) := show othM m = _ by rw [othM, hK, hR]
  rw [hK] at m0; rw [hR] at m7
  clear r0 bW zW hK hR
  by_cases h3 : K = 3
  · subst h3
    by_cases r3 : R = 3
    · subst r3
      go_enter Try.func35, Try.ntmps35
      go_wp2
      go_ret
      exact ⟨ret_bool (by rw [E.out]; rfl), H.out⟩
    · by_cases r1 : R = 1
      · subst r1
        go_enter Try.func35, Try.ntmps35
        go_wp2
        go_ret
        exact ⟨ret_bool (by rw [E.out]; rfl), H.out⟩
      · by_cases r2 : R = 2
        · subst r2
          go_enter Try.func35, Try.ntmps35
          go_wp2
          go_ret
          exact ⟨ret_bool (by rw [E.out]; rfl), H.out⟩
        · go_enter Try.func35, Try.ntmps35
          go_wp2
          go_ret
          exact ⟨ret_bool (by rw [E.out]; simp [r1, r2, r3]), H.out⟩
  · go_enter Try.func35, Try.ntmps35
    go_wp2
    go_ret
    exact ⟨ret_bool (by rw [E.out]; simp [h3]), H.out⟩
set_option maxHeartbeats 2000000 in
theorem ofDes_any (p : Pt) (w : World) :
    Calls Try.prog 34 #[.agg p.cs] w fun r w' => r = .returned (.int .i64 (ofDes p)) ∧ Below w.heap.size w w' := by
  obtain ⟨W, hW, r0, bW, zW⟩ := new_p w p
  have H : Hid (Below w.heap.size w W) := bW
  have lv := r0.pmV
  have lp := r0.ppri
  have lt := r0.pmT
  have lq := r0.ppriT
  have E : Hid (ofDes p = if ((mV p).eq (pri p) && (mT p).eq (priT p)) = true then 2 else if sup (mV p) (pri p) = true then 1 else 3) := show ofDes p = _ from rfl
  have P1 : Hid (∀ V : World, _) := fun V => superior_row (mV p) (pri p) V
  clear r0 bW zW
  cases h1 : (mV p).eq (pri p)
  · cases h3 : sup (mV p) (pri p)
    all_goals
      rw [h3] at P1
      rw [h1, h3] at E
      go_enter Try.func34, Try.ntmps34
      go_wp2_with fail
      refine (P1.out _).mono ?_
      rintro _ V ⟨rfl, bV⟩
      have H1 : Hid (Below w.heap.size w V) := below_over H.out bV
      clear bV
      go_wp2
      go_ret
      exact ⟨ret_int (by rw [E.out]; rfl), H1.out⟩
  · cases h2 : (mT p).eq (priT p)
    · cases h3 : sup (mV p) (pri p)
      all_goals
        rw [h3] at P1
        rw [h1, h2, h3] at E
        go_enter Try.func34, Try.ntmps34
        go_wp2_with fail
        refine (P1.out _).mono ?_
        rintro _ V ⟨rfl, bV⟩
        have H1 : Hid (Below w.heap.size w V) := below_over H.out bV
        clear bV
        go_wp2
        go_ret
        exact ⟨ret_int (by rw [E.out]; rfl), H1.out⟩
    · rw [h1, h2] at E
      go_enter Try.func34, Try.ntmps34
      go_wp2
      go_ret
      exact ⟨ret_int (by rw [E.out]; rfl), H.out⟩
set_option maxHeartbeats 2000000 in
theorem inf_any (p : Pt) (w : World) :
    Calls Try.prog 12 #[.agg p.cs] w fun r w' => r = .returned (.int .i64 (infP p)) ∧ Below w.heap.size w w' := by
  obtain ⟨W, hW, r0, bW, zW⟩ := new_p w p
  have H : Hid (Below w.heap.size w W ∧ RvAt W w.heap.size 36 p.cs) := ⟨bW, r0⟩
  have lm := r0.pmsg
  have E : Hid (infP p = if desM (msg p) = true then ofDes p else if othM (msg p) = true then (if bet (mV p) (pri p) = true then 0 else 4) else 0) := show infP p = _ from rfl
  have P1 : Hid (∀ V : World, _) := fun V => desig_any (msg p) V
  have P2 : Hid (∀ V : World, _) := fun V => oth_any (msg p) V
  have P3 : Hid (∀ V : World, _) := fun V => better_row (mV p) (pri p) V
  have P4 : Hid (∀ V : World, _) := fun V => ofDes_any p V
  clear r0 bW zW
  cases h1 : desM (msg p)
  · rw [h1] at P1 E
    go_enter Try.func12, Try.ntmps12
    go_wp2_with fail
    refine (P1.out _).mono ?_
    rintro _ V ⟨rfl, bV⟩
    have hV := H.out.2.below bV
    have H1 : Hid (Below w.heap.size w V ∧ RvAt V w.heap.size 36 p.cs) := ⟨below_over H.out.1 bV, hV⟩
    have lm1 := hV.pmsg
    clear bV hV lm hW
    cases h2 : othM (msg p)
    · rw [h2] at P2 E
      go_wp2_with fail
      refine (P2.out _).mono ?_
      rintro _ U ⟨rfl, bU⟩
      have H2 : Hid (Below w.heap.size w U) := below_over H1.out.1 bU
      clear bU
      go_wp2
      go_ret
      exact ⟨ret_int (by rw [E.out]; rfl), H2.out⟩
    · rw [h2] at P2 E
      go_wp2_with fail
      refine (P2.out _).mono ?_
      rintro _ U ⟨rfl, bU⟩
      have hU := H1.out.2.below bU
      have H2 : Hid (Below w.heap.size w U) := below_over H1.out.1 bU
      have lv := hU.pmV
      have lp := hU.ppri
      clear bU hU lm1
      cases h3 : bet (mV p) (pri p)
      all_goals
        rw [h3] at P3 E
        go_wp2_with fail
        refine (P3.out _).mono ?_
        rintro _ Z ⟨rfl, bZ⟩
        have H3 : Hid (Below w.heap.size w Z) := below_over H2.out bZ
        clear bZ
        go_wp2
        go_ret
        exact ⟨ret_int (by rw [E.out]; rfl), H3.out⟩
  · rw [h1] at P1 E
    go_enter Try.func12, Try.ntmps12
    go_wp2_with fail
    refine (P1.out _).mono ?_
    rintro _ V ⟨rfl, bV⟩
    have hV := H.out.2.below bV
    have H1 : Hid (Below w.heap.size w V) := below_over H.out.1 bV
    have lp1 := hV.pld
    clear bV hV lm hW
    go_wp2_with fail
    refine (P4.out _).mono ?_
    rintro _ U ⟨rfl, bU⟩
    have H2 : Hid (Below w.heap.size w U) := below_over H1.out bU
    clear bU
    go_wp2
    go_ret
    exact ⟨ret_int (by rw [E.out]; rfl), H2.out⟩
set_option maxHeartbeats 2000000 in
theorem bos_any (p : Pt) (is : Int) (w : World) :
    Calls Try.prog 14 #[.agg p.cs, .int .i64 is] w fun r w' => r = .returned (.bool (bosP p is)) ∧ Below w.heap.size w w' := by
  obtain ⟨W, hW, r0, bW, zW⟩ := new_p w p
  have H : Hid (Below w.heap.size w W) := bW
  have c29 := r0.num (j := 29) (k := .i64) rfl
  have lv := r0.pmV
  have lp := r0.ppri
  have ld := r0.pdsg
  have P1 : Hid (∀ V : World, _) := fun V => better_row (pri p) (mV p) V
  have P2 : Hid (∀ V : World, _) := fun V => better_row (pri p) (dsg p) V
  obtain ⟨K, hK⟩ : ∃ K, p.nm 29 = K := ⟨_, rfl⟩
  have E : Hid (bosP p is = if K = is then (if is = 3 then !bet (pri p) (mV p) else if is = 2 then !bet (pri p) (dsg p) else false) else false) := show bosP p is = _ by rw [bosP, hK]
  rw [hK] at c29
  clear r0 bW zW hK
  by_cases h0 : K = is
  · subst h0
    by_cases h3 : K = 3
    · subst h3
      go_enter Try.func14, Try.ntmps14
      go_wp2_with fail
      refine (P1.out _).mono ?_
      rintro _ V ⟨rfl, bV⟩
      have H1 : Hid (Below w.heap.size w V) := below_over H.out bV
      clear bV
      go_wp2
      go_ret
      exact ⟨ret_bool (by rw [E.out]; rfl), H1.out⟩
    · by_cases h2 : K = 2
      · subst h2
        go_enter Try.func14, Try.ntmps14
        go_wp2_with fail
        refine (P2.out _).mono ?_
        rintro _ V ⟨rfl, bV⟩
        have H1 : Hid (Below w.heap.size w V) := below_over H.out bV
        clear bV
        go_wp2
        go_ret
        exact ⟨ret_bool (by rw [E.out]; rfl), H1.out⟩
      · go_enter Try.func14, Try.ntmps14
        go_wp2
        go_ret
        exact ⟨ret_bool (by rw [E.out]; simp [h2, h3]), H.out⟩
  · go_enter Try.func14, Try.ntmps14
    go_wp2
    go_ret
    exact ⟨ret_bool (by rw [E.out]; simp [h0]), H.out⟩
end Go.Proofs.Ytlnammicialacaa
