/-
  What stays of a port where the machine steps; ports that wait, ports that are down: plain facts.
-/
import Derived.Test.YtlneoegmlcbidaaPimB
import Derived.Test.YtlneoegmlcbidaaRTick
namespace Go.Proofs.Ytlneoegmlcbidaa
set_option linter.unusedVariables false
set_option maxRecDepth 4000
set_option linter.unusedSimpArgs false
open Go.RowKit

theorem part_get {l : List Value} {o n j : Nat} (h : j < n) : ((l.drop o).take n)[j]? = l[o + j]? := by
  rw [List.getElem?_take, if_pos h, List.getElem?_drop]
theorem mV_get (p : Pt) {j : Nat} (h : j < 4) : (mV p).cl[j]? = p.cl[56 + j]? := part_get h
theorem mT_get (p : Pt) {j : Nat} (h : j < 4) : (mT p).cl[j]? = p.cl[60 + j]? := part_get h
theorem pri_get (p : Pt) {j : Nat} (h : j < 4) : (pri p).cl[j]? = p.cl[36 + j]? := part_get h
theorem prioP_get (p : Pt) (i : Nat) : (prioP p).cl[i]? = if 36 ≤ i ∧ i < 40 then p.cl[56 + (i - 36)]? else p.cl[i]? := by
  rw [prioP, Row.put_get]
  by_cases h : 36 ≤ i ∧ i < 40
  · rw [if_pos h, if_pos (by rw [lenV]; exact h), mV_get p (by omega)]
  · rw [if_neg h, if_neg (by rw [lenV]; exact h)]
theorem timQ_get (p : Pt) (i : Nat) : (timQ p).cl[i]? = if 44 ≤ i ∧ i < 48 then p.cl[60 + (i - 44)]? else p.cl[i]? := by
  rw [timQ, Row.put_get]
  by_cases h : 44 ≤ i ∧ i < 48
  · rw [if_pos h, if_pos (by rw [lenT]; exact h), mT_get p (by omega)]
  · rw [if_neg h, if_neg (by rw [lenT]; exact h)]
theorem ku46 : kdP[46]? = some (some .u8) := rfl
theorem timP_get (p : Pt) {i : Nat} (h : i ≠ 46) : (timP p).cl[i]? = (timQ p).cl[i]? := by
  unfold timP
  split
  · rw [Row.setU_get _ ku46 (wf8 (by omega)), if_neg h]
  · rfl
theorem whiN_in (p : Pt) : 0 ≤ whiN p ∧ whiN p ≤ 255 := by
  have := p.u8 (j := 46) rfl
  unfold whiN
  (repeat' split) <;> omega
theorem setB_else {ks : List (Option IntKind)} (r : Row ks) {i j : Nat} (h : ks[j]? = some none) (b : Bool) (hn : i ≠ j) : (r.setB j h b).cl[i]? = r.cl[i]? := by rw [r.setB_get, if_neg hn]
theorem gotP_else (p : Pt) (m : Mg) {j : Nat} (h : kdP[j]? = some none) {i : Nat} (h1 : i ≠ 14) (h2 : i ≠ j) (h3 : ¬ (48 ≤ i ∧ i < 64)) : (gotP p m j h).cl[i]? = p.cl[i]? := by
  rw [gotP, setB_else _ _ _ h1, Row.put_get, if_neg (by rw [lenM]; exact h3), setB_else _ _ _ h2]
theorem take_else (p : Pt) (m : Mg) {i : Nat} (h1 : i ≠ 14) (h2 : i ≠ 15) (h3 : i ≠ 16) (h4 : ¬ (48 ≤ i ∧ i < 64)) : (takeP p m).cl[i]? = p.cl[i]? := by
  unfold takeP
  split
  · split
    · exact gotP_else p m kb15 h1 h2 h4
    · split
      · exact gotP_else p m kb16 h1 h3 h4
      · rfl
  · rfl
theorem prop_else (p : Pt) {i : Nat} (h : i ≠ 12) : (propP p).cl[i]? = p.cl[i]? := by
  unfold propP
  split
  · exact setB_else _ _ _ h
  · rfl
theorem agr_else (p : Pt) {i : Nat} (h1 : i ≠ 4) (h2 : i ≠ 13) : (agrP p).cl[i]? = p.cl[i]? := by
  unfold agrP
  split
  · rw [setB_else _ _ _ h2, setB_else _ _ _ h1]
  · exact setB_else _ _ _ h1
theorem disp_else (p : Pt) {i : Nat} (h1 : i ≠ 4) (h2 : i ≠ 5) : (dispP p).cl[i]? = p.cl[i]? := by
  unfold dispP
  split
  · rw [setB_else _ _ _ h1, setB_else _ _ _ h2]
  · rfl
theorem flag_else (p : Pt) {i : Nat} (h1 : i ≠ 17) (h2 : i ≠ 18) (h3 : i ≠ 19) : (flagP p).cl[i]? = p.cl[i]? := by
  unfold flagP
  split
  · exact setB_else _ _ _ h3
  · split
    · rw [tcP, setB_else _ _ _ h1, ackP, setB_else _ _ _ h2]
    · split
      · exact setB_else _ _ _ h1
      · rfl
theorem whi_else (p : Pt) {i : Nat} (h : i ≠ 69) : (whiP p).cl[i]? = p.cl[i]? := by
  rw [whiP, Row.setU_get _ ku69 (wf8 (whiN_in p)), if_neg h]
theorem tim_else (p : Pt) {i : Nat} (h : ¬ (44 ≤ i ∧ i < 48)) : (timP p).cl[i]? = p.cl[i]? := by
  rw [timP_get p (by omega), timQ_get, if_neg h]
theorem prio_else (p : Pt) {i : Nat} (h : ¬ (36 ≤ i ∧ i < 40)) : (prioP p).cl[i]? = p.cl[i]? := by
  rw [prioP_get, if_neg h]
def isT (j : Nat) : Prop := 64 ≤ j ∧ j ≤ 71
theorem kdT_u8 {j : Nat} (h : isT j) : kdP[j]? = some (some .u8) := by
  obtain ⟨h1, h2⟩ := h
  obtain ⟨k, rfl⟩ : ∃ k, j = 64 + k := ⟨j - 64, by omega⟩
  match k, h2 with
  | 0, _ => rfl
  | 1, _ => rfl
  | 2, _ => rfl
  | 3, _ => rfl
  | 4, _ => rfl
  | 5, _ => rfl
  | 6, _ => rfl
  | 7, _ => rfl
  | k + 8, h => omega
theorem tk_nm (p : Pt) (i j : Nat) (hi : isT i) (hj : isT j) : (tk p i).nm j = if i = j then dec1 (p.nm j) else p.nm j := by
  unfold tk
  split
  · rename_i e
    subst e
    exact p.setU_at (kdT_u8 hi) (wf8 (dec1_in (p.u8 (kdT_u8 hi))))
  · rename_i e
    exact p.setU_nm e
theorem tk_cl (p : Pt) {i j : Nat} (h : i ≠ j) : (tk p i).cl[j]? = p.cl[j]? := p.setU_ne h
theorem tickP_eq (p : Pt) : tickP p = tk (tk (tk (tk (tk (tk (tk (tk p 65) 66) 67) 68) 69) 70) 71) 64 := rfl
theorem tickP_cl (p : Pt) {j : Nat} (h : ¬ isT j) : (tickP p).cl[j]? = p.cl[j]? := by
  have ne : ∀ i, isT i → i ≠ j := fun i hi e => h (e ▸ hi)
  rw [tickP_eq, tk_cl _ (ne 64 ⟨by omega, by omega⟩), tk_cl _ (ne 71 ⟨by omega, by omega⟩), tk_cl _ (ne 70 ⟨by omega, by omega⟩), tk_cl _ (ne 69 ⟨by omega, by omega⟩), tk_cl _ (ne 68 ⟨by omega, by omega⟩), tk_cl _ (ne 67 ⟨by omega, by omega⟩), tk_cl _ (ne 66 ⟨by omega, by omega⟩), tk_cl _ (ne 65 ⟨by omega, by omega⟩)]
theorem tickP_nm (p : Pt) {j : Nat} (h : isT j) : (tickP p).nm j = dec1 (p.nm j) := by
  have hT : isT 64 ∧ isT 65 ∧ isT 66 ∧ isT 67 ∧ isT 68 ∧ isT 69 ∧ isT 70 ∧ isT 71 := ⟨⟨by omega, by omega⟩, ⟨by omega, by omega⟩, ⟨by omega, by omega⟩, ⟨by omega, by omega⟩, ⟨by omega, by omega⟩, ⟨by omega, by omega⟩, ⟨by omega, by omega⟩, ⟨by omega, by omega⟩⟩
  obtain ⟨t0, t1, t2, t3, t4, t5, t6, t7⟩ := hT
  rw [tickP_eq, tk_nm _ 64 j t0 h, tk_nm _ 71 j t7 h, tk_nm _ 70 j t6 h, tk_nm _ 69 j t5 h, tk_nm _ 68 j t4 h, tk_nm _ 67 j t3 h, tk_nm _ 66 j t2 h, tk_nm _ 65 j t1 h]
  have h' := h
  obtain ⟨h1, h2⟩ := h'
  obtain ⟨k, rfl⟩ : ∃ k, j = 64 + k := ⟨j - 64, by omega⟩
  match k, h2 with
  | 0, _ => simp
  | 1, _ => simp
  | 2, _ => simp
  | 3, _ => simp
  | 4, _ => simp
  | 5, _ => simp
  | 6, _ => simp
  | 7, _ => simp
  | k + 8, h => omega
/-- A cell that no message touches but the last of a superior one's deeds. -/
theorem rec_else (p : Pt) {i : Nat} (hi : i = 2 ∨ i = 28 ∨ i = 72) : (recP p).cl[i]? = p.cl[i]? := by
  have hB : ∀ (q : Pt) {j : Nat} (h : kdP[j]? = some none) (b : Bool), i ≠ j → (q.setB j h b).cl[i]? = q.cl[i]? := fun q j h b hn => setB_else q h b hn
  have hN : ∀ (q : Pt) {j : Nat} (h : kdP[j]? = some (some .i64)) (n : Int) (hw : (Lit.int .i64 n).wf = true), i ≠ j → (q.setN j h n hw).cl[i]? = q.cl[i]? := fun q j h n hw hn => by rw [q.setN_get, if_neg hn]
  rw [recP, hB _ kb14 _ (by omega), recQ]
  split
  · rw [supP, d4P, rslP, hB _ kb22 _ (by omega), hB _ kb21 _ (by omega), hN _ kn29 _ wi3 (by omega), whi_else _ (by omega), tim_else _ (by omega), prio_else _ (by omega), synP, hB _ kb25 _ (by omega), agr_else _ (by omega) (by omega), d2P, hB _ kb3 _ (by omega), flag_else _ (by omega) (by omega) (by omega), prop_else _ (by omega), d1P, hB _ kb13 _ (by omega), hB _ kb4 _ (by omega)]
  · split
    · rw [whi_else _ (by omega), agr_else _ (by omega) (by omega), flag_else _ (by omega) (by omega) (by omega), prop_else _ (by omega)]
    · split
      · rw [disp_else _ (by omega) (by omega)]
      · split
        · rw [flag_else _ (by omega) (by omega) (by omega), agr_else _ (by omega) (by omega)]
        · unfold othP
          split
          · rw [flag_else _ (by omega) (by omega) (by omega)]
          · rfl
theorem rec_29 (p : Pt) : (recP p).nm 29 = p.nm 29 ∨ (recP p).nm 29 = 3 := by
  have h14 : (recP p).nm 29 = (recQ p).nm 29 := setB_nm _ kb14 _ (by decide)
  rw [h14, recQ]
  split
  · refine Or.inr ?_
    rw [supP, d4P, rslP, setB_nm _ kb22 _ (by decide), setB_nm _ kb21 _ (by decide)]
    exact Row.nset _ _ (by decide)
  · refine Or.inl (nm_of ?_)
    split
    · rw [whi_else _ (by decide), agr_else _ (by decide) (by decide), flag_else _ (by decide) (by decide) (by decide), prop_else _ (by decide)]
    · split
      · rw [disp_else _ (by decide) (by decide)]
      · split
        · rw [flag_else _ (by decide) (by decide) (by decide), agr_else _ (by decide) (by decide)]
        · unfold othP
          split
          · rw [flag_else _ (by decide) (by decide) (by decide)]
          · rfl
theorem rec_14 (p : Pt) : (recP p).bt 14 = false := setB_at _ kb14 _
/-- Cells of ports that are disabled, aged, updated. -/
theorem setN_bt {ks : List (Option IntKind)} (r : Row ks) {i j : Nat} (h : ks[j]? = some (some .i64)) (n : Int) (hw : (Lit.int .i64 n).wf = true) (hn : i ≠ j) : (r.setN j h n hw).bt i = r.bt i := bt_of (by rw [r.setN_get, if_neg hn])
theorem setN_nm {ks : List (Option IntKind)} (r : Row ks) {i j : Nat} (h : ks[j]? = some (some .i64)) (n : Int) (hw : (Lit.int .i64 n).wf = true) (hn : i ≠ j) : (r.setN j h n hw).nm i = r.nm i := nm_of (by rw [r.setN_get, if_neg hn])
theorem setN_at {ks : List (Option IntKind)} (r : Row ks) {j : Nat} (h : ks[j]? = some (some .i64)) (n : Int) (hw : (Lit.int .i64 n).wf = true) : (r.setN j h n hw).nm j = n := Row.nset _ _ (List.getElem?_eq_some_iff.1 h).1
theorem setU_bt (r : Pt) {i j : Nat} {n : Int} (h : kdP[j]? = some (some .u8)) (hn : 0 ≤ n ∧ n ≤ 255) (hi : i ≠ j) : (r.setU j n).bt i = r.bt i := bt_of (by rw [r.setU_get h (wf8 hn), if_neg hi])
theorem dis_2 (p : Pt) : (disP p).bt 2 = p.bt 2 := by
  rw [disP, rslP, setB_bt _ kb22 _ (by decide), setB_bt _ kb21 _ (by decide), disQ, setN_bt _ kn72 _ wi1 (by decide), setN_bt _ kn29 _ wi0 (by decide), setU_bt _ ku69 (by omega) (by decide), setB_bt _ kb4 _ (by decide), setB_bt _ kb3 _ (by decide), setB_bt _ kb12 _ (by decide), setB_bt _ kb13 _ (by decide), setB_bt _ kb14 _ (by decide)]
theorem dis_14 (p : Pt) : (disP p).bt 14 = false := by
  rw [disP, rslP, setB_bt _ kb22 _ (by decide), setB_bt _ kb21 _ (by decide), disQ, setN_bt _ kn72 _ wi1 (by decide), setN_bt _ kn29 _ wi0 (by decide), setU_bt _ ku69 (by omega) (by decide), setB_bt _ kb4 _ (by decide), setB_bt _ kb3 _ (by decide), setB_bt _ kb12 _ (by decide), setB_bt _ kb13 _ (by decide), setB_at]
theorem dis_29 (p : Pt) : (disP p).nm 29 = 0 := by
  rw [disP, rslP, setB_nm _ kb22 _ (by decide), setB_nm _ kb21 _ (by decide), disQ, setN_nm _ kn72 _ wi1 (by decide), setN_at]
theorem dis_72 (p : Pt) : (disP p).nm 72 = 1 := by
  rw [disP, rslP, setB_nm _ kb22 _ (by decide), setB_nm _ kb21 _ (by decide), disQ, setN_at]
theorem agd_29 (p : Pt) : (agdP p).nm 29 = 1 := by
  rw [agdP, rslP, setB_nm _ kb22 _ (by decide), setB_nm _ kb21 _ (by decide), agdQ, setN_nm _ kn72 _ wi2 (by decide), setN_at]
theorem agd_72 (p : Pt) : (agdP p).nm 72 = 2 := by
  rw [agdP, rslP, setB_nm _ kb22 _ (by decide), setB_nm _ kb21 _ (by decide), agdQ, setN_at]
theorem agd_21 (p : Pt) : (agdP p).bt 21 = true := by
  rw [agdP, rslP, setB_bt _ kb22 _ (by decide), setB_at]
theorem upd_2 (p : Pt) : (updP p).bt 2 = p.bt 2 := by
  rw [updP, curP, setN_bt _ kn72 _ wi3 (by decide), setN_bt _ kn29 _ wi2 (by decide), setB_bt _ kb11 _ (by decide), setB_bt _ kb28 _ (by decide), updB, ownP, put_bt _ 44 _ kq44 kl44 (by decide), put_bt _ 36 _ kq36 kl36 (by decide), clrP, setB_bt _ kb12 _ (by decide), setB_bt _ kb13 _ (by decide), synP, setB_bt _ kb25 _ (by decide), updA, setB_bt _ kb4 _ (by decide)]
theorem upd_29 (p : Pt) : (updP p).nm 29 = 2 := by
  rw [updP, curP, setN_nm _ kn72 _ wi3 (by decide), setN_at]
/-- A port that is not up, and at rest, has no information. -/
theorem rest_29 {p : Pt} (h2 : p.bt 2 = false) (h : stepO p = none) : p.nm 29 = 0 := by
  by_cases h29 : p.nm 29 = 0
  · exact h29
  · rw [stepO, if_pos ⟨h2, h29⟩] at h
    cases h
theorem step_dis {p : Pt} (h2 : p.bt 2 = false) : stepO (disP p) = none := by
  simp [stepO, fdsO, dis_2, dis_14, dis_29, dis_72, h2]
theorem step_up2 {q : Pt} (h2 : q.bt 2 = false) (h29 : q.nm 29 ≠ 0) : stepO q = some (disP q) := by
  rw [stepO, if_pos ⟨h2, h29⟩]
/-- Such a port comes to rest within that many steps. -/
def Rests : Nat → Pt → Prop
  | 0, p => stepO p = none
  | r + 1, p => stepO p = none ∨ ∃ q, stepO p = some q ∧ q.bt 2 = false ∧ Rests r q
theorem Rests.mono : ∀ (r : Nat) {p : Pt}, stepO p = none → Rests r p
  | 0, p, h => h
  | r + 1, p, h => Or.inl h
theorem rests_one {q : Pt} (h2 : q.bt 2 = false) (h29 : q.nm 29 ≠ 0) : Rests 1 q := Or.inr ⟨_, step_up2 h2 h29, by rw [dis_2, h2], step_dis h2⟩
theorem rests_two {p : Pt} (h2 : p.bt 2 = false) : Rests 2 p := by
  have D : ∀ q, stepO p = some (disP q) → q = p → Rests 2 p := fun q e hq => Or.inr ⟨_, e, by rw [dis_2, hq, h2], Rests.mono 1 (step_dis (by rw [hq]; exact h2))⟩
  have U : stepO p = some (updP p) → Rests 2 p := fun e => Or.inr ⟨_, e, by rw [upd_2, h2], rests_one (by rw [upd_2, h2]) (by rw [upd_29]; decide)⟩
  by_cases h29 : p.nm 29 = 0
  · by_cases k1 : p.nm 72 = 1
    · cases h14 : p.bt 14
      · exact Rests.mono 2 (by simp [stepO, fdsO, h2, h29, k1, h14])
      · exact D p (by simp [stepO, fdsO, h2, h29, k1, h14]) rfl
    · by_cases k2 : p.nm 72 = 2
      · by_cases hs : p.bt 22 = true ∧ p.bt 28 = true
        · exact U (by simp [stepO, fagO, h29, k2, hs])
        · refine Rests.mono 2 ?_
          rw [stepO, if_neg (fun h => h.2 h29), if_neg k1, if_pos k2, fagO, if_neg hs]
      · by_cases k3 : p.nm 72 = 3
        · have base : stepO p = fcuO p := by rw [stepO, if_neg (fun h => h.2 h29), if_neg k1, if_neg k2, if_pos k3]
          by_cases hr : p.bt 14 = true ∧ p.bt 28 = false
          · have e : stepO p = some (recP p) := by rw [base, fcuO, if_pos hr]
            have q2 : (recP p).bt 2 = false := by rw [bt_of (rec_else p (i := 2) (by omega)), h2]
            have q28 : (recP p).bt 28 = false := by rw [bt_of (rec_else p (i := 28) (by omega)), hr.2]
            have q72 : (recP p).nm 72 = 3 := by rw [nm_of (rec_else p (i := 72) (by omega)), k3]
            refine Or.inr ⟨_, e, q2, ?_⟩
            rcases rec_29 p with h | h
            · refine Rests.mono 1 ?_
              rw [h29] at h
              simp [stepO, fcuO, q2, q28, q72, h, rec_14]
            · exact rests_one q2 (by rw [h]; decide)
          · by_cases hs : p.bt 22 = true ∧ p.bt 28 = true
            · exact U (by rw [base, fcuO, if_neg hr, if_pos hs])
            · refine Rests.mono 2 ?_
              rw [base, fcuO, if_neg hr, if_neg hs, if_neg (fun h => by have := h.1; omega)]
        · exact D p (by rw [stepO, if_neg (fun h => h.2 h29), if_neg k1, if_neg k2, if_neg k3]) rfl
  · exact D p (step_up2 h2 h29) rfl
/-- A port whose information was received waits that long. -/
structure Wait (p : Pt) (m : Int) : Prop where
  up : p.bt 2 = true
  pim : p.nm 72 = 3
  is : p.nm 29 = 3
  got : p.bt 14 = false
  upd : p.bt 28 = false
  left : p.nm 69 = m
theorem Wait.tick {p : Pt} {m : Int} (h : Wait p m) (hm : 0 < m) : Wait (tickP p) (m - 1) := by
  have c : ∀ {j : Nat}, ¬ isT j → (tickP p).cl[j]? = p.cl[j]? := fun hj => tickP_cl p hj
  refine ⟨by rw [bt_of (c (j := 2) (by unfold isT; omega))]; exact h.up, by rw [nm_of (c (j := 72) (by unfold isT; omega))]; exact h.pim, by rw [nm_of (c (j := 29) (by unfold isT; omega))]; exact h.is, by rw [bt_of (c (j := 14) (by unfold isT; omega))]; exact h.got, by rw [bt_of (c (j := 28) (by unfold isT; omega))]; exact h.upd, ?_⟩
  rw [tickP_nm p (j := 69) (by unfold isT; omega), h.left, dec1, if_pos hm]
theorem Wait.still {p : Pt} {m : Int} (h : Wait p m) (hm : 0 < m) : stepO p = none := by
  have h69 : ¬ p.nm 69 = 0 := by have := h.left; omega
  simp [stepO, fcuO, h.up, h.pim, h.got, h.upd, h69]
theorem Wait.out {p : Pt} (h : Wait p 0) : stepO p = some (agdP p) := by
  simp [stepO, fcuO, h.up, h.pim, h.got, h.upd, h.is, h.left]
/-- .. as the statement makes it. -/
def waitP (p : Pt) : Pt := ((((p.setB 2 kb2 true).setN 72 kn72 3 wi3).setN 29 kn29 3 wi3).setB 14 kb14 false).setB 28 kb28 false
theorem waitP_is (p : Pt) : Wait (waitP p) (p.nm 69) := by
  refine ⟨?_, ?_, ?_, ?_, ?_, ?_⟩
  · rw [waitP, setB_bt _ kb28 _ (by decide), setB_bt _ kb14 _ (by decide), setN_bt _ kn29 _ wi3 (by decide), setN_bt _ kn72 _ wi3 (by decide), setB_at]
  · rw [waitP, setB_nm _ kb28 _ (by decide), setB_nm _ kb14 _ (by decide), setN_nm _ kn29 _ wi3 (by decide), setN_at]
  · rw [waitP, setB_nm _ kb28 _ (by decide), setB_nm _ kb14 _ (by decide), setN_at]
  · rw [waitP, setB_bt _ kb28 _ (by decide), setB_at]
  · rw [waitP, setB_at]
  · rw [waitP, setB_nm _ kb28 _ (by decide), setB_nm _ kb14 _ (by decide), setN_nm _ kn29 _ wi3 (by decide), setN_nm _ kn72 _ wi3 (by decide), setB_nm _ kb2 _ (by decide)]
/-- A port that is not up takes no message. -/
theorem take_down {p : Pt} (m : Mg) (h2 : p.bt 2 = false) : takeP p m = p := by simp [takeP, h2]
end Go.Proofs.Ytlneoegmlcbidaa
