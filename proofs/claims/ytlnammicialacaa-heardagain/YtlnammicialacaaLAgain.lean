/-
  HeardAgain: its walk, for every port and message.
-/
import Derived.Test.YtlnammicialacaaLaws
namespace Go.Proofs.Ytlnammicialacaa
set_option linter.unusedVariables false
set_option maxRecDepth 4000
set_option linter.unusedSimpArgs false
open Go.RowKit

theorem part_get {l : List Value} {o n j : Nat} (h : j < n) : ((l.drop o).take n)[j]? = l[o + j]? := by
  rw [List.getElem?_take, if_pos h, List.getElem?_drop]
theorem mV_get (p : Pt) {j : Nat} (h : j < 4) : (mV p).cl[j]? = p.cl[56 + j]? := part_get h
theorem mT_get (p : Pt) {j : Nat} (h : j < 4) : (mT p).cl[j]? = p.cl[60 + j]? := part_get h
theorem pri_get (p : Pt) {j : Nat} (h : j < 4) : (pri p).cl[j]? = p.cl[36 + j]? := part_get h
theorem priT_get (p : Pt) {j : Nat} (h : j < 4) : (priT p).cl[j]? = p.cl[44 + j]? := part_get h
theorem prioP_get (p : Pt) (i : Nat) : (prioP p).cl[i]? = if 36 ≤ i ∧ i < 40 then p.cl[56 + (i - 36)]? else p.cl[i]? := by
  rw [prioP, Row.put_get]
  by_cases h : 36 ≤ i ∧ i < 40
  · rw [if_pos h, if_pos (by rw [lenV]; exact h), mV_get p (by omega)]
  · rw [if_neg h, if_neg (by rw [lenV]; exact h)]
theorem timQ_get (p : Pt) (i : Nat) : (timQ p).cl[i]? = if 44 ≤ i ∧ i < 48 then p.cl[60 + (i - 44)]? else p.cl[i]? := by
  rw [timQ, Row.put_get]
  by_cases h : 44 ≤ i ∧ i < 48
  · rw [if_pos h, if_pos (by rw [lenT]; exact h), mT_get p (by omega)]
  · rw [if_neg h, if_neg (by rw [lenT]; exact h)]
theorem gotP_get (p : Pt) (m : Mg) {j : Nat} (h : kdP[j]? = some none) (i : Nat) : (gotP p m j h).cl[i]? = if i = 14 then some (.bool true) else if 48 ≤ i ∧ i < 64 then m.cl[i - 48]? else if i = j then some (.bool true) else p.cl[i]? := by
  rw [gotP, Row.setB_get, Row.put_get, Row.setB_get, lenM]
/-- Behind recording it, a message is repeated. -/
theorem again_inf (p : Pt) (m : Mg) (hu : p.bt 2 = true) (hk : m.nm 0 = 3) (hr : m.nm 7 = 4) (hh : m.nm 14 ≠ 0) : infP (timP (prioP (takeP p m))) = 2 := by
  have e1 : takeP p m = gotP p m 15 kb15 := by rw [takeP, if_pos hu, if_pos hk]
  rw [e1]
  obtain ⟨g, hg⟩ : ∃ g, gotP p m 15 kb15 = g := ⟨_, rfl⟩
  have gm : ∀ j, j < 16 → g.cl[48 + j]? = m.cl[j]? := fun j hj => by
    rw [← hg, gotP_get, if_neg (by omega), if_pos (by omega), Nat.add_sub_cancel_left]
  rw [hg]
  have e62 : (prioP g).nm 62 = m.nm 14 := nm_of (by rw [prioP_get, if_neg (by omega)]; exact gm 14 (by omega))
  have e2 : timP (prioP g) = timQ (prioP g) := by rw [timP, if_neg (by rw [e62]; exact hh)]
  rw [e2]
  have q48 : ∀ j, j < 16 → (msg (timQ (prioP g))).cl[j]? = m.cl[j]? := fun j hj => by
    rw [show (msg (timQ (prioP g))).cl[j]? = (timQ (prioP g)).cl[48 + j]? from part_get hj, timQ_get, if_neg (by omega), prioP_get, if_neg (by omega)]
    exact gm j hj
  have d1 : desM (msg (timQ (prioP g))) = true := by
    rw [desM, nm_of (q48 0 (by omega)), nm_of (q48 7 (by omega)), hk, hr]
    rfl
  have d2 : mV (timQ (prioP g)) = pri (timQ (prioP g)) := by
    refine Row.same fun j hj => ?_
    rw [lenV] at hj
    rw [mV_get _ hj, pri_get _ hj, timQ_get, timQ_get, if_neg (by omega), if_neg (by omega), prioP_get, prioP_get, if_neg (by omega), if_pos (by omega), Nat.add_sub_cancel_left]
  have d3 : mT (timQ (prioP g)) = priT (timQ (prioP g)) := by
    refine Row.same fun j hj => ?_
    rw [lenT] at hj
    rw [mT_get _ hj, priT_get _ hj, timQ_get, timQ_get, if_neg (by omega), if_pos (by omega), Nat.add_sub_cancel_left]
  rw [infP, if_pos d1, ofDes, samP, d2, d3, Row.eq_self, Row.eq_self]
  rfl
theorem km14 : kdM[14]? = some (some .u8) := rfl
theorem km0' : kdM[0]? = some (some .i64) := rfl
theorem infoK : (Try.prog.info? 31).map (·.size) = some 1 := by kernel_rfl
theorem infoR : (Try.prog.info? 25).map (·.size) = some 1 := by kernel_rfl
theorem stK (x y : Value) : Instr.storeAt 31 x y = stS 31 x y := rfl
theorem stR (x y : Value) : Instr.storeAt 25 x y = stS 25 x y := rfl
/-- A message made RST of Designated. -/
def rstM (m : Mg) : Mg := (m.set 0 (.int .i64 3) (fit_num km0 (by decide))).set 7 (.int .i64 4) (fit_num km7 (by decide))
theorem rstM_get (m : Mg) (i : Nat) : (rstM m).cl[i]? = if i = 7 then some (.int .i64 4) else if i = 0 then some (.int .i64 3) else m.cl[i]? := by
  rw [rstM, Row.set_get _ _ (by decide), Row.set_get _ _ (by decide)]
theorem nm_lit {ks : List (Option IntKind)} {r : Row ks} {j : Nat} {k : IntKind} {n : Int} (h : r.cl[j]? = some (.int k n)) : r.nm j = n := by
  simp [Row.nm, h]
theorem bt_lit {ks : List (Option IntKind)} {r : Row ks} {j : Nat} {b : Bool} (h : r.cl[j]? = some (.bool b)) : r.bt j = b := by
  simp [Row.bt, h]
attribute [local go_sem ↓] ldP stP ldM stM ldTm stTm ldV stV stB stU eqgP eqlP stK stR
set_option maxHeartbeats 4000000 in
theorem HeardAgain_walk (p : Pt) (m : Mg) (w : World) :
    Calls Try.prog 8 #[.agg p.cs, .agg m.cs] w fun r w' => r = .returned (.bool true) ∧ Below w.heap.size w w' := by
  obtain ⟨W, hW, rp, rm, bW, zW⟩ := two_pm w p m
  obtain ⟨A, sA, rA, gA⟩ := rp.setB kb2 true
  have mA := rm.keptBut gA (by simp)
  obtain ⟨B, sB, mB, gB⟩ := mA.rset (j := 0) (v := .int .i64 3) infoK (by decide) rfl (fit_num km0 (by decide))
  obtain ⟨C, sC, mC0, gC⟩ := mB.rset (j := 7) (v := .int .i64 4) infoR (by decide) rfl (fit_num km7 (by decide))
  have mC : RvAt C (w.heap.size + 1) 33 (rstM m).cs := mC0
  have pC := (rA.keptBut gB (by simp)).keptBut gC (by simp)
  have bC : Below w.heap.size w C := gro (gro (gro bW gA (Nat.le_refl _) bW.size) gB (by omega) (Nat.le_trans bW.size gA.size)) gC (by omega) (Nat.le_trans (Nat.le_trans bW.size gA.size) gB.size)
  have hu : (p.setB 2 kb2 true).bt 2 = true := setB_at p kb2 true
  have h14 := mC.num (j := 14) (k := .u8) rfl
  obtain ⟨T, hT⟩ : ∃ T, (rstM m).nm 14 = T := ⟨_, rfl⟩
  rw [hT] at h14
  have k0 : (rstM m).nm 0 = 3 := nm_lit (k := .i64) (by rw [rstM_get, if_neg (by decide), if_pos rfl])
  have k7 : (rstM m).nm 7 = 4 := nm_lit (k := .i64) (by rw [rstM_get, if_pos rfl])
  obtain ⟨p1, hp1⟩ : ∃ p1, p.setB 2 kb2 true = p1 := ⟨_, rfl⟩
  rw [hp1] at pC hu
  have S : ∃ (m2 : Mg) (D : World), (T = 0 → (stS 5 (.pointer (some ⟨w.heap.size + 1, 14, none⟩)) (.int .u8 2)).run Try.prog C = .ok () D) ∧ (¬ T = 0 → D = C) ∧ RvAt D (w.heap.size + 1) 33 m2.cs ∧ RvAt D w.heap.size 36 p1.cs ∧ Below w.heap.size w D ∧ infP (timP (prioP (takeP p1 m2))) = 2 := by
    by_cases h : T = 0
    · obtain ⟨D, sD, mD, gD⟩ := mC.setU km14 (n := 2) (by omega)
      refine ⟨_, D, fun _ => sD, fun n => absurd h n, mD, pC.keptBut gD (by simp), gro bC gD (by omega) bC.size, again_inf _ _ hu ?_ ?_ ?_⟩
      · rw [← k0]; exact nm_of (by rw [Row.setU_get _ km14 (wf8 (by omega)), if_neg (by decide)])
      · rw [← k7]; exact nm_of (by rw [Row.setU_get _ km14 (wf8 (by omega)), if_neg (by decide)])
      · rw [nm_lit (k := .u8) (n := 2) (by rw [Row.setU_get _ km14 (wf8 (by omega)), if_pos rfl])]; decide
    · exact ⟨_, C, fun e => absurd e h, fun _ => rfl, mC, pC, bC, again_inf _ _ hu k0 k7 (by rw [hT]; exact h)⟩
  obtain ⟨m2, D, sD, sD', mD, pD, bD, hi⟩ := S
  have ld := pD.pld
  have le := mD.mld
  have G : Hid (RvAt D w.heap.size 36 p1.cs ∧ Below w.heap.size w D ∧ infP (timP (prioP (takeP p1 m2))) = 2) := ⟨pD, bD, hi⟩
  clear rp rm bW zW rA gA mA mB gB mC0 mC gC pC bC hu hT k0 k7 hp1 mD pD bD hi
  obtain ⟨q, hq⟩ : ∃ q, timP (prioP (takeP p1 m2)) = q := ⟨_, rfl⟩
  rw [hq] at G
  have Q : Hid (timP (prioP (takeP p1 m2)) = q) := hq
  clear hq
  by_cases h : T = 0
  all_goals
    first
    | (have sd := sD h
       subst h)
    | (have sd := sD' h
       subst sd)
    clear sD sD'
    go_enter Try.func8, Try.ntmps8
    go_wp2_with fail
    refine (take_any p1 m2 _).mono ?_
    rintro _ V1 ⟨rfl, b1⟩
    have B1 : Hid (Below _ _ V1) := b1
    clear b1
    go_wp2_with fail
    refine (prio_any _ _).mono ?_
    rintro _ V2 ⟨rfl, b2⟩
    have B2 : Hid (Below _ _ V2) := below_over B1.out b2
    clear b2
    go_wp2_with fail
    refine (tim_any _ _).mono ?_
    rintro _ V3 ⟨rfl, b3⟩
    rw [Q.out]
    have b13 := below_over B2.out b3
    obtain ⟨U, sU, rU, gU⟩ := (G.out.1.below b13).pst (q := q)
    have lU := rU.pld
    have G3 : Hid (Below w.heap.size w U) := gro (below_over G.out.2.1 b13) gU (Nat.le_refl _) (below_over G.out.2.1 b13).size
    clear b3 b13 rU gU
    go_wp2_with fail
    refine (inf_any q U).mono ?_
    rintro _ X ⟨rfl, bX⟩
    rw [G.out.2.2]
    have G4 : Hid (Below w.heap.size w X) := below_over G3.out bX
    clear bX
    go_wp2_with fail
    refine (awake_any X).mono ?_
    rintro _ Y ⟨rfl, bY⟩
    have G5 : Hid (Below w.heap.size w Y) := below_over G4.out bY
    clear bY
    go_wp2
    go_ret
    exact ⟨rfl, G5.out⟩
end Go.Proofs.Ytlnammicialacaa
