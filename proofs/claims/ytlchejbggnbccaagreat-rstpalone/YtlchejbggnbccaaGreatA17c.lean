/-
  Passes over ports that hear nothing, and events of a bridge alone. Plain laws. And what follows from it here.
-/
import Derived.Test.YtlchejbggnbccaaGreatA17b
import Derived.Test.YtlchejbggnbccaaGreatA9a
import Derived.Test.YtlchejbggnbccaaGreatA17a
import Derived.Test.YtlchejbggnbccaaGreatA11b
import Derived.Test.YtlchejbggnbccaaGreatAbb
import Derived.Test.YtlchejbggnbccaaGreatAba
import Derived.Test.YtlchejbggnbccaaGreatA13a
import Derived.Deep.RegionHeld3
import Derived.Test.YtlchejbggnbccaaGreatA13e
import Derived.Test.YtlchejbggnbccaaGreatA14a
import Derived.Test.YtlchejbggnbccaaGreatA14b
import Derived.Deep.Cut
import Derived.Deep.CutRange
import Derived.Test.YtlchejbggnbccaaGreatA15a
import Derived.Test.YtlchejbggnbccaaGreatA12b
import Derived.Test.YtlchejbggnbccaaGreatA14c
import Derived.Test.YtlchejbggnbccaaGreatA15c
namespace Go.Proofs.YtlchejbggnbccaaGreat
set_option linter.unusedVariables false
set_option linter.unusedSimpArgs false
set_option maxRecDepth 4000
section
namespace S17
open Go.RowKit
open S14 (gtP gtP_at set_self)

/-! ### the head -/
theorem root_own (h : Hd) (l : List Pt) (no : ∀ j, j < l.length → (gtP l j).nm 29 ≠ 3) : ∀ i, i ≤ l.length → S12.rtF h l i = (S12.ownV h, -1)
  | 0, _ => rfl
  | i + 1, hi => by
    have e := root_own h l no i (by omega)
    have b : S12.ldB h (S12.gtP l i) = false := by
      unfold S12.ldB
      have : (S12.gtP l i).nm 29 ≠ 3 := no i (by omega)
      simp [this]
    show S12.rtS h l i (S12.rtF h l i) = _
    unfold S12.rtS
    rw [b, e]
    rfl
theorem rooK_own (h : Hd) (l : List Pt) (no : ∀ j, j < l.length → (gtP l j).nm 29 ≠ 3) : S12.rooK h l = -1 ∧ S12.rooV h l = S12.ownV h := by
  unfold S12.rooK S12.rooV
  rw [root_own h l no _ (Nat.le_refl _)]
  exact ⟨rfl, rfl⟩
theorem ownV_of {h g : Hd} (e : h.nm 0 = g.nm 0) : S12.ownV h = S12.ownV g := Row.ext' (by show [Value.int .u64 _, .int .u32 _, .int .u64 _, .int .u16 _] = [Value.int .u64 _, .int .u32 _, .int .u64 _, .int .u16 _]; rw [e])
theorem hd_part {h g : Hd} {o n : Nat} (hh : ∀ j, j < n → h.cl[o + j]? = g.cl[o + j]?) : (h.cl.drop o).take n = (g.cl.drop o).take n := by
  refine List.ext_getElem? fun j => ?_
  rw [List.getElem?_take, List.getElem?_take]
  split
  · rename_i hj
    rw [List.getElem?_drop, List.getElem?_drop, hh j hj]
  · rfl
theorem hd_first (h : Hd) (l : List Pt) (no : ∀ j, j < l.length → (gtP l j).nm 29 ≠ 3) (b6 : h.bt 6 = true) : HR (S12.hdS h l) ∧ (∀ j, j < 7 → (S12.hdS h l).nm j = h.nm j) := by
  have k := rooK_own h l no
  have e : ∀ j, j < 7 → (S12.hdS h l).cl[j]? = h.cl[j]? := fun j hj => S12.hdS_cell h l hj
  refine ⟨⟨?_, ?_, ?_, ?_⟩, fun j hj => S12.hdS_nm h l hj⟩
  · rw [S12.hdS_bt]; exact b6
  · rw [S12.hdS_id]; unfold S12.ridN; rw [k.1]; rfl
  · rw [S12.hdS_root, k.2]; exact ownV_of (S12.hdS_nm0 h l).symm
  · rw [S12.hdS_rt]
    unfold S12.rtmT
    rw [k.1]
    exact Row.ext' (hd_part fun j hj => (e _ (by omega)).symm)
theorem part_at {h g : Hd} {o n : Nat} (e : (h.cl.drop o).take n = (g.cl.drop o).take n) {j : Nat} (hj : j < n) : h.cl[o + j]? = g.cl[o + j]? := by
  have := congrArg (fun z => z[j]?) e
  simp only [List.getElem?_take, if_pos hj, List.getElem?_drop] at this
  exact this
theorem hd_stay (h : Hd) (l : List Pt) (no : ∀ j, j < l.length → (gtP l j).nm 29 ≠ 3) (r : HR h) : S12.hdS h l = h := by
  have f := hd_first h l no r.b6
  have r1 : rOf (S12.hdS h l) = rOf h := by rw [f.1.rt, r.rt]; exact ownV_of (f.2 0 (by omega))
  have u1 : uOf (S12.hdS h l) = uOf h := by
    rw [f.1.ut, r.ut]
    exact Row.ext' (hd_part fun j hj => S12.hdS_cell h l (by omega))
  refine Row.ext' (List.ext_getElem? fun j => ?_)
  by_cases c : j < 7
  · exact S12.hdS_cell h l c
  · by_cases c7 : j = 7
    · subst c7
      rw [(S12.hdS h l).num (k := .u16) rfl, h.num (k := .u16) rfl, f.1.n7, r.n7]
    · by_cases c8 : j < 12
      · obtain ⟨k, rfl⟩ : ∃ k, j = 8 + k := ⟨j - 8, by omega⟩
        exact part_at (congrArg Row.cl r1) (by omega)
      · by_cases c9 : j < 16
        · obtain ⟨k, rfl⟩ : ∃ k, j = 12 + k := ⟨j - 12, by omega⟩
          exact part_at (congrArg Row.cl u1) (by omega)
        · rw [List.getElem?_eq_none (by rw [Row.len]; show 16 ≤ _; omega), List.getElem?_eq_none (by rw [Row.len]; show 16 ≤ _; omega)]
theorem hB6 {h : Hd} (b : h.bt 6 = true) : h.setB 6 S12.kh6 true = h := by
  refine Row.ext' (List.ext_getElem? fun j => ?_)
  rw [h.setB_get]
  split
  · rename_i e
    subst e
    rw [h.bit (j := 6) rfl, b]
  · rfl
theorem gt_mapI {l : List Pt} {f : Nat → Pt → Pt} {j : Nat} (hj : j < l.length) : gtP (l.mapIdx f) j = f j (gtP l j) := by
  unfold gtP
  rw [List.getD_eq_getElem?_getD, List.getElem?_mapIdx, List.getD_eq_getElem?_getD, List.getElem?_eq_getElem hj]
  rfl
theorem stp_own {h : Hd} {l : List Pt} (r : HR h) (no : ∀ j, j < l.length → (gtP l j).nm 29 ≠ 3) : S12.stpH h l = h ∧ (S12.stpL h l).length = l.length ∧ ((S12.stpB h l = false ∧ S12.stpL h l = l) ∨ (S12.stpB h l = true ∧ ∀ j, j < l.length → ∃ b, gtP (S12.stpL h l) j = S12.selP h b (gtP l j))) := by
  unfold S12.stpH S12.stpL
  cases z : S12.stpB h l with
  | false => exact ⟨by simp, by simp, Or.inl ⟨rfl, by simp⟩⟩
  | true =>
    rw [hB6 r.b6, hd_stay h l no r]
    refine ⟨by simp, by simp [S12.selL], Or.inr ⟨rfl, fun j hj => ?_⟩⟩
    rw [if_pos rfl]
    unfold S12.selL
    rw [gt_mapI hj, hd_stay h l no r]
    exact ⟨_, rfl⟩
/-! ### passes -/
theorem psN_at (h : Hd) (n : Nat) (A B : Nat → Pt → Prop) (hA : ∀ j p q, A j p → Vp p q → A j q) (hB : ∀ j p q, B j p → Vp p q → B j q) (ho : ∀ j (s : Ps), j < s.l.length → A j (gtP s.l j) → Ot' j s.l (ptF h j s).l ∧ B j (gtP (ptF h j s).l j)) (s : Ps) (hl : s.l.length = n) (h0 : ∀ j, j < n → A j (gtP s.l j)) :
    ∀ m, m ≤ n → (psN h m s).l.length = n ∧ (∀ j, j < m → B j (gtP (psN h m s).l j)) ∧ (∀ j, m ≤ j → j < n → A j (gtP (psN h m s).l j)) := by
  intro m
  induction m with
  | zero => exact fun _ => ⟨hl, fun j hj => absurd hj (by omega), fun j _ hj => h0 j hj⟩
  | succ m ih =>
    intro hm
    obtain ⟨i1, i2, i3⟩ := ih (by omega)
    have e : psN h (m + 1) s = ptF h m (psN h m s) := by simp only [psN]
    have k := ho m (psN h m s) (by omega) (i3 m (Nat.le_refl _) (by omega))
    rw [e]
    refine ⟨by rw [k.1.len, i1], fun j hj => ?_, fun j h1 h2 => ?_⟩
    · by_cases c : j = m
      · rw [c]; exact k.2
      · exact hB j _ _ (i2 j (by omega)) (k.1.at' j c)
    · exact hA j _ _ (i3 j (by omega) h2) (k.1.at' j (by omega))
structure Fm (n : Nat) (h : Hd) (Y : Nat → Pt → Prop) (t : Ts) : Prop where
  h : t.h = h
  len : t.s.l.length = n
  at' : ∀ j, j < n → Pm (gtP t.s.l j) ∧ Y j (gtP t.s.l j)
theorem Fm.of {n : Nat} {h : Hd} {Y : Nat → Pt → Prop} (t : Ts) (u : Ps) (f : Fm n h Y t) (e : u.l = t.s.l) : Fm n h Y ⟨t.h, u⟩ := ⟨f.h, by rw [e]; exact f.len, by rw [e]; exact f.at'⟩
theorem pass_Fm {n : Nat} {h : Hd} (r : HR h) {Y Y' Z : Nat → Pt → Prop} {t : Ts} (f : Fm n h Y t) (h3 : ∀ j p, Y j p → p.nm 29 ≠ 3)
    (hs : (∀ j p, Y j p → Y' j p) ∨ S12.stpB t.h t.s.l = true) (hq : ∀ j b p, Y j p → Y' j (S12.selP h b p)) (hv : ∀ j p q, Y' j p → Vq p q → Y' j q) (hz : ∀ j p q, Z j p → Vq p q → Z j q)
    (ho : ∀ j (s : Ps), j < s.l.length → Y' j (gtP s.l j) → Pm (gtP s.l j) → Ot' j s.l (ptF h j s).l ∧ Z j (gtP (ptF h j s).l j) ∧ Pm (gtP (ptF h j s).l j)) : Fm n h Z (pass n t) := by
  have k := stp_own (h := h) (l := t.s.l) r (fun j hj => h3 j _ (f.at' j (by rw [← f.len]; exact hj)).2)
  have eh : S12.stpH t.h t.s.l = h := by rw [f.h]; exact k.1
  have el : (S12.stpL t.h t.s.l).length = n := by rw [f.h, k.2.1, f.len]
  have a0 : ∀ j, j < n → Pm (gtP (S12.stpL t.h t.s.l) j) ∧ Y' j (gtP (S12.stpL t.h t.s.l) j) := fun j hj => by
    have fj := f.at' j hj
    rcases k.2.2 with c | c
    · rw [f.h, c.2]
      refine ⟨fj.1, ?_⟩
      rcases hs with hs | hs
      · exact hs j _ fj.2
      · rw [f.h, c.1] at hs; cases hs
    · obtain ⟨b, e⟩ := c.2 j (by rw [f.len]; exact hj)
      rw [f.h, e]
      exact ⟨m_sel h b fj.1, hq j b _ fj.2⟩
  have z := psN_at h n (fun j p => Pm p ∧ Y' j p) (fun j p => Pm p ∧ Z j p) (fun j p q a v => ⟨v.m a.1, hv j p q a.2 v.v⟩) (fun j p q a v => ⟨v.m a.1, hz j p q a.2 v.v⟩)
    (fun j s hj a => by
      have w := ho j s hj a.2 a.1
      exact ⟨w.1, w.2.2, w.2.1⟩) ⟨S12.stpL t.h t.s.l, S12.stpB t.h t.s.l, t.s.o, t.s.f⟩ el a0 n (Nat.le_refl _)
  have ep : pass n t = ⟨h, psN h n ⟨S12.stpL t.h t.s.l, S12.stpB t.h t.s.l, t.s.o, t.s.f⟩⟩ := by
    unfold pass
    rw [eh]
  rw [ep]
  exact ⟨rfl, z.1, z.2.1⟩
def Fu (u : Nat → Bool) (X : Pt → Prop) (h : Hd) (j : Nat) (p : Pt) : Prop := if u j = true then X p else Dn h (h.nm 13) p
def Fi (i : Nat) (W : Pt → Prop) (u : Nat → Bool) (X : Pt → Prop) (h : Hd) (j : Nat) (p : Pt) : Prop := if j = i then W p else Fu u X h j p
theorem dn_all {h : Hd} {j : Nat} {fd : Int} {s : Ps} (hj : j < s.l.length) (a : Dn h fd (gtP s.l j)) (pm : Pm (gtP s.l j)) : Ot' j s.l (ptF h j s).l ∧ Dn h (h.nm 13) (gtP (ptF h j s).l j) ∧ Pm (gtP (ptF h j s).l j) := by
  by_cases e : fd = h.nm 13
  · have := ow_d hj a e pm
    rw [e] at this
    exact this
  · exact ow_e hj a e pm
theorem pass_Fi {n : Nat} {h : Hd} (r : HR h) {i : Nat} {u : Nat → Bool} {X W W' V : Pt → Prop} {t : Ts} (f : Fm n h (Fi i W u X h) t)
    (x3 : ∀ p, X p → p.nm 29 ≠ 3) (w3 : ∀ p, W p → p.nm 29 ≠ 3) (xs : ∀ b p, X p → X (S12.selP h b p)) (ws : ∀ b p, W p → W' (S12.selP h b p)) (wn : (∀ p, W p → W' p) ∨ S12.stpB t.h t.s.l = true)
    (xv : ∀ p q, X p → Vq p q → X q) (wv : ∀ p q, W' p → Vq p q → W' q) (vv : ∀ p q, V p → Vq p q → V q)
    (xo : ∀ j (s : Ps), j < s.l.length → X (gtP s.l j) → Pm (gtP s.l j) → Ot' j s.l (ptF h j s).l ∧ X (gtP (ptF h j s).l j) ∧ Pm (gtP (ptF h j s).l j))
    (wo : ∀ j (s : Ps), j < s.l.length → W' (gtP s.l j) → Pm (gtP s.l j) → Ot' j s.l (ptF h j s).l ∧ V (gtP (ptF h j s).l j) ∧ Pm (gtP (ptF h j s).l j)) : Fm n h (Fi i V u X h) (pass n t) := by
  refine pass_Fm r (Y := Fi i W u X h) (Y' := Fi i W' u X h) f ?_ ?_ ?_ ?_ ?_ ?_
  · intro j p a
    unfold Fi Fu at a
    split at a
    · exact w3 p a
    · split at a
      · exact x3 p a
      · rw [a.n29]; decide
  · rcases wn with wn | wn
    · left
      intro j p a
      unfold Fi at a ⊢
      split at a
      · rename_i c; rw [if_pos c]; exact wn p a
      · rename_i c; rw [if_neg c]; exact a
    · exact Or.inr wn
  · intro j b p a
    unfold Fi Fu at a ⊢
    split at a
    · rename_i c; rw [if_pos c]; exact ws b p a
    · rename_i c; rw [if_neg c]
      split at a
      · rename_i d; rw [if_pos d]; exact xs b p a
      · rename_i d; rw [if_neg d]; exact se_Dn a b
  · intro j p q a v
    unfold Fi Fu at a ⊢
    split at a
    · rename_i c; rw [if_pos c]; exact wv p q a v
    · rename_i c; rw [if_neg c]
      split at a
      · rename_i d; rw [if_pos d]; exact xv p q a v
      · rename_i d; rw [if_neg d]; exact a.to v
  · intro j p q a v
    unfold Fi Fu at a ⊢
    split at a
    · rename_i c; rw [if_pos c]; exact vv p q a v
    · rename_i c; rw [if_neg c]
      split at a
      · rename_i d; rw [if_pos d]; exact xv p q a v
      · rename_i d; rw [if_neg d]; exact a.to v
  · intro j s hj a pm
    unfold Fi Fu at a ⊢
    split at a
    · rename_i c; rw [if_pos c]; exact wo j s hj a pm
    · rename_i c; rw [if_neg c]
      split at a
      · rename_i d; rw [if_pos d]; exact xo j s hj a pm
      · rename_i d; rw [if_neg d]; exact dn_all hj a pm
end S17
end
section
namespace S17
open Go.RowKit
open S14 (gtP gtP_at set_self)

/-! ### ticks of a port -/
theorem tk_cell (p : Pt) {j : Nat} (hj : j ≠ 64 ∧ j ≠ 65 ∧ j ≠ 66 ∧ j ≠ 67 ∧ j ≠ 68 ∧ j ≠ 69 ∧ j ≠ 70 ∧ j ≠ 71) : (S9.tickP p).cl[j]? = p.cl[j]? := by
  obtain ⟨h0, h1, h2, h3, h4, h5, h6, h7⟩ := hj
  simp only [S9.tickP, S9.tickTo, S9.tm, List.getD_eq_getElem?_getD]
  simp [Row.setU_ne, Ne.symm h0, Ne.symm h1, Ne.symm h2, Ne.symm h3, Ne.symm h4, Ne.symm h5, Ne.symm h6, Ne.symm h7]
theorem tk_bt (p : Pt) (j : Nat) : (S9.tickP p).bt j = p.bt j := by
  simp only [S9.tickP, S9.tickTo, gUb]
theorem tk_nm (p : Pt) {j : Nat} (hj : j ≠ 64 ∧ j ≠ 65 ∧ j ≠ 66 ∧ j ≠ 67 ∧ j ≠ 68 ∧ j ≠ 69 ∧ j ≠ 70 ∧ j ≠ 71) : (S9.tickP p).nm j = p.nm j := nm_c (tk_cell p hj)
theorem tk_65 (p : Pt) : (S9.tickP p).nm 65 = S9.dec1 (p.nm 65) := by
  have r := S9.dec1_in (p.u8 (j := 65) rfl)
  simp only [S9.tickP, S9.tickTo, S9.tm, List.getD_eq_getElem?_getD]
  simp [gUe, gU65, r.1, r.2]
theorem tk_70 (p : Pt) : (S9.tickP p).nm 70 = S9.dec1 (p.nm 70) := by
  have r := S9.dec1_in (p.u8 (j := 70) rfl)
  simp only [S9.tickP, S9.tickTo, S9.tm, List.getD_eq_getElem?_getD]
  simp [gUe, gU70, r.1, r.2]
theorem tk_m {p : Pt} (m : Pm p) : Pm (S9.tickP p) := m.of (tk_bt p _) (tk_bt p _) (tk_nm p (by omega))
theorem tk_v (p : Pt) : pri (S9.tickP p) = pri p := S12.pri_of fun j hj => tk_cell p (by omega)
theorem tk_t (p : Pt) : priT (S9.tickP p) = priT p := S12.priT_of fun j hj => tk_cell p (by omega)
theorem ti_Dn {h : Hd} {fd : Int} {p : Pt} (s : Dn h fd p) : Dn h (S9.dec1 fd) (S9.tickP p) := ⟨by rw [tk_bt]; exact s.b2, by rw [tk_bt]; exact s.b4, by rw [tk_bt]; exact s.b5, by rw [tk_bt]; exact s.b7, by rw [tk_bt]; exact s.b8, by rw [tk_bt]; exact s.b9, by rw [tk_bt]; exact s.b10, by rw [tk_bt]; exact s.b13, by rw [tk_bt]; exact s.b14, by rw [tk_bt]; exact s.b20, by rw [tk_bt]; exact s.b21, by rw [tk_bt]; exact s.b22, by rw [tk_bt]; exact s.b24, by rw [tk_bt]; exact s.b25, by rw [tk_bt]; exact s.b28, by rw [tk_nm p (by omega)]; exact s.n29, by rw [tk_nm p (by omega)]; exact s.n30, by rw [tk_nm p (by omega)]; exact s.n31, by rw [tk_65, s.n65], by rw [tk_70, s.n70]; rfl, by rw [tk_nm p (by omega)]; exact s.n72, by rw [tk_nm p (by omega)]; exact s.n73, by rw [tk_nm p (by omega)]; exact s.n41, by rw [tk_nm p (by omega)]; exact s.n42⟩
theorem ti_Uf {h : Hd} {fd : Int} {p : Pt} (s : Uf h fd p) : Uf h (S9.dec1 fd) (S9.tickP p) := ⟨by rw [tk_bt]; exact s.b2, by rw [tk_bt]; exact s.b4, by rw [tk_bt]; exact s.b5, by rw [tk_bt]; exact s.b7, by rw [tk_bt]; exact s.b8, by rw [tk_bt]; exact s.b9, by rw [tk_bt]; exact s.b10, by rw [tk_bt]; exact s.b13, by rw [tk_bt]; exact s.b14, by rw [tk_bt]; exact s.b20, by rw [tk_bt]; exact s.b21, by rw [tk_bt]; exact s.b22, by rw [tk_bt]; exact s.b24, by rw [tk_bt]; exact s.b25, by rw [tk_bt]; exact s.b28, by rw [tk_nm p (by omega)]; exact s.n29, by rw [tk_nm p (by omega)]; exact s.n30, by rw [tk_nm p (by omega)]; exact s.n31, by rw [tk_65, s.n65], by rw [tk_70, s.n70]; rfl, by rw [tk_nm p (by omega)]; exact s.n72, by rw [tk_nm p (by omega)]; exact s.n73, by rw [tk_nm p (by omega)]; exact s.n41, by rw [tk_nm p (by omega)]; exact s.n42, by rw [tk_v, s.tv]; exact des_of (tk_nm p (by omega)).symm, by rw [tk_t]; exact s.tt⟩
theorem ti_Ul {h : Hd} {fd : Int} {p : Pt} (s : Ul h fd p) : Ul h (S9.dec1 fd) (S9.tickP p) := ⟨by rw [tk_bt]; exact s.b2, by rw [tk_bt]; exact s.b4, by rw [tk_bt]; exact s.b5, by rw [tk_bt]; exact s.b7, by rw [tk_bt]; exact s.b8, by rw [tk_bt]; exact s.b9, by rw [tk_bt]; exact s.b10, by rw [tk_bt]; exact s.b13, by rw [tk_bt]; exact s.b14, by rw [tk_bt]; exact s.b20, by rw [tk_bt]; exact s.b21, by rw [tk_bt]; exact s.b22, by rw [tk_bt]; exact s.b24, by rw [tk_bt]; exact s.b25, by rw [tk_bt]; exact s.b28, by rw [tk_nm p (by omega)]; exact s.n29, by rw [tk_nm p (by omega)]; exact s.n30, by rw [tk_nm p (by omega)]; exact s.n31, by rw [tk_65, s.n65], by rw [tk_70, s.n70]; rfl, by rw [tk_nm p (by omega)]; exact s.n72, by rw [tk_nm p (by omega)]; exact s.n73, by rw [tk_nm p (by omega)]; exact s.n41, by rw [tk_nm p (by omega)]; exact s.n42, by rw [tk_v, s.tv]; exact des_of (tk_nm p (by omega)).symm, by rw [tk_t]; exact s.tt⟩
theorem ti_Ug {h : Hd} {fd : Int} {p : Pt} (s : Ug h fd p) : Ug h (S9.dec1 fd) (S9.tickP p) := ⟨by rw [tk_bt]; exact s.b2, by rw [tk_bt]; exact s.b4, by rw [tk_bt]; exact s.b5, by rw [tk_bt]; exact s.b7, by rw [tk_bt]; exact s.b8, by rw [tk_bt]; exact s.b9, by rw [tk_bt]; exact s.b10, by rw [tk_bt]; exact s.b14, by rw [tk_bt]; exact s.b20, by rw [tk_bt]; exact s.b21, by rw [tk_bt]; exact s.b22, by rw [tk_bt]; exact s.b24, by rw [tk_bt]; exact s.b25, by rw [tk_bt]; exact s.b28, by rw [tk_nm p (by omega)]; exact s.n29, by rw [tk_nm p (by omega)]; exact s.n30, by rw [tk_nm p (by omega)]; exact s.n31, by rw [tk_65, s.n65], by rw [tk_70, s.n70]; rfl, by rw [tk_nm p (by omega)]; exact s.n72, by rw [tk_nm p (by omega)]; exact s.n73, by rw [tk_nm p (by omega)]; exact s.n41, by rw [tk_nm p (by omega)]; exact s.n42, by rw [tk_v, s.tv]; exact des_of (tk_nm p (by omega)).symm, by rw [tk_t]; exact s.tt⟩
theorem up_b (p : Pt) (j : Nat) : (S9.upP true p).bt j = if j = 2 then true else p.bt j := gBb p kb2 true j
theorem up_n (p : Pt) (j : Nat) : (S9.upP true p).nm j = if j = 2 then 0 else p.nm j := gBn p kb2 true j
theorem up_Dn {h : Hd} {fd : Int} {p : Pt} (s : Dn h fd p) : Ua h fd (S9.upP true p) := ⟨by rw [up_b, if_pos rfl], by rw [up_b, if_neg (by decide)]; exact s.b4, by rw [up_b, if_neg (by decide)]; exact s.b5, by rw [up_b, if_neg (by decide)]; exact s.b7, by rw [up_b, if_neg (by decide)]; exact s.b8, by rw [up_b, if_neg (by decide)]; exact s.b9, by rw [up_b, if_neg (by decide)]; exact s.b10, by rw [up_b, if_neg (by decide)]; exact s.b13, by rw [up_b, if_neg (by decide)]; exact s.b14, by rw [up_b, if_neg (by decide)]; exact s.b20, by rw [up_b, if_neg (by decide)]; exact s.b21, by rw [up_b, if_neg (by decide)]; exact s.b22, by rw [up_b, if_neg (by decide)]; exact s.b24, by rw [up_b, if_neg (by decide)]; exact s.b25, by rw [up_b, if_neg (by decide)]; exact s.b28, by rw [up_n, if_neg (by decide)]; exact s.n29, by rw [up_n, if_neg (by decide)]; exact s.n30, by rw [up_n, if_neg (by decide)]; exact s.n31, by rw [up_n, if_neg (by decide)]; exact s.n65, by rw [up_n, if_neg (by decide)]; exact s.n70, by rw [up_n, if_neg (by decide)]; exact s.n72, by rw [up_n, if_neg (by decide)]; exact s.n73, by rw [up_n, if_neg (by decide)]; exact s.n41, by rw [up_n, if_neg (by decide)]; exact s.n42⟩
theorem up_m {p : Pt} (m : Pm p) : Pm (S9.upP true p) := m.of (by rw [up_b, if_neg (by decide)]) (by rw [up_b, if_neg (by decide)]) (by rw [up_n, if_neg (by decide)])
/-! ### New -/
theorem new_cell (a b : Int) {j : Nat} (hj : 2 ≤ j) : (S9.newP a b).cl[j]? = zeroP.cl[j]? := by
  unfold S9.newP
  split
  · show ((zeroP.cl.set 0 _).set 1 _)[j]? = _
    rw [List.getElem?_set, if_neg (by omega), List.getElem?_set, if_neg (by omega)]
  · rfl
theorem z_b {j : Nat} : zeroP.bt j = false := by
  unfold Row.bt
  show (match (kdP.map zeroV)[j]? with | some (.bool b) => b | _ => false) = false
  rw [List.getElem?_map]
  cases kdP[j]? with
  | none => rfl
  | some k => cases k <;> rfl
theorem z_n {j : Nat} : zeroP.nm j = 0 := by
  unfold Row.nm
  show (match (kdP.map zeroV)[j]? with | some (.int _ n) => n | _ => 0) = 0
  rw [List.getElem?_map]
  cases kdP[j]? with
  | none => rfl
  | some k => cases k <;> rfl
theorem nw_b (a b : Int) {j : Nat} (hj : 2 ≤ j) : (S9.newP a b).bt j = false := (bt_c (new_cell a b hj)).trans z_b
theorem nw_n (a b : Int) {j : Nat} (hj : 2 ≤ j) : (S9.newP a b).nm j = 0 := (nm_c (new_cell a b hj)).trans z_n
theorem new_Zr (h : Hd) (a b : Int) : Zr h 0 (S9.newP a b) := ⟨nw_b a b (by omega), nw_b a b (by omega), nw_b a b (by omega), nw_b a b (by omega), nw_b a b (by omega), nw_b a b (by omega), nw_b a b (by omega), nw_b a b (by omega), nw_b a b (by omega), nw_b a b (by omega), nw_b a b (by omega), nw_b a b (by omega), nw_b a b (by omega), nw_b a b (by omega), nw_b a b (by omega), nw_n a b (by omega), nw_n a b (by omega), nw_n a b (by omega), nw_n a b (by omega), nw_n a b (by omega), nw_n a b (by omega), nw_n a b (by omega)⟩
theorem gt_new (l : List Int) {j : Nat} (hj : j < l.length) : ∃ b, gtP (S9.newPs l) j = S9.newP (32769 + (j : Int)) b := by
  unfold S9.newPs gtP
  rw [List.getD_eq_getElem?_getD, List.getElem?_mapIdx, List.getElem?_eq_getElem hj]
  exact ⟨_, rfl⟩
theorem any_at {l : List Pt} {j : Nat} (hj : j < l.length) (h : (gtP l j).bt 21 = true) (g : Hd) : S12.stpB g l = true := by
  have : l.any (fun p => p.bt 21) = true := List.any_eq_true.2 ⟨gtP l j, by
    unfold gtP
    rw [List.getD_eq_getElem?_getD, List.getElem?_eq_getElem hj]
    exact List.getElem_mem hj, h⟩
  unfold S12.stpB S12.anyR
  rw [this, Bool.or_true]
theorem new_pass (c : Cf) (l : List Int) (t : Ts) (e1 : t.h = S9.newH c) (e2 : t.s.l = S9.newPs l) : ∃ h, HR h ∧ (∀ j, j < 6 → h.nm j = c.nm j) ∧ h = (pass l.length t).h ∧ Fm l.length h (fun _ => Na h (h.nm 13)) (pass l.length t) := by
  have len := S9.newPs_len l
  have b6 : (S9.newH c).bt 6 = false := rfl
  have sB : S12.stpB (S9.newH c) (S9.newPs l) = true := by unfold S12.stpB; rw [b6]; rfl
  have b6' : ((S9.newH c).setB 6 S12.kh6 true).bt 6 = true := by rw [gBb, if_pos rfl]
  have no : ∀ j, j < (S9.newPs l).length → (gtP (S9.newPs l) j).nm 29 ≠ 3 := fun j hj => by
    obtain ⟨b, e⟩ := gt_new l (by rw [← len]; exact hj)
    rw [e, nw_n _ _ (by omega)]
    decide
  have hf := hd_first ((S9.newH c).setB 6 S12.kh6 true) (S9.newPs l) no b6'
  obtain ⟨h, hh⟩ : ∃ h, S12.hdS ((S9.newH c).setB 6 S12.kh6 true) (S9.newPs l) = h := ⟨_, rfl⟩
  rw [hh] at hf
  have eh : S12.stpH (S9.newH c) (S9.newPs l) = h := by unfold S12.stpH; rw [if_pos sB, hh]
  have el : S12.stpL (S9.newH c) (S9.newPs l) = S12.selL ((S9.newH c).setB 6 S12.kh6 true) (S9.newPs l) := by unfold S12.stpL; rw [if_pos sB]
  have ep : pass l.length t = ⟨h, psN h l.length ⟨S12.stpL (S9.newH c) (S9.newPs l), S12.stpB (S9.newH c) (S9.newPs l), t.s.o, t.s.f⟩⟩ := by
    unfold pass
    rw [e1, e2, eh]
  have a0 : ∀ j, j < l.length → Zs h 0 (gtP (S12.stpL (S9.newH c) (S9.newPs l)) j) ∧ (gtP (S12.stpL (S9.newH c) (S9.newPs l)) j).nm 76 = 0 ∧ (gtP (S12.stpL (S9.newH c) (S9.newPs l)) j).bt 16 = false := fun j hj => by
    obtain ⟨b, e⟩ := gt_new l hj
    rw [el]
    unfold S12.selL
    rw [gt_mapI (by rw [len]; exact hj), hh, e]
    exact ⟨se_Zr (new_Zr h _ b) _, by rw [sn h _ _ (by unfold S12.still; omega)]; exact nw_n _ _ (by omega), by rw [sb h _ _ (by unfold S12.still; omega)]; exact nw_b _ _ (by omega)⟩
  have z := psN_at h l.length (fun j p => Zs h 0 p ∧ p.nm 76 = 0 ∧ p.bt 16 = false) (fun j p => Pm p ∧ Na h (h.nm 13) p) (fun j p q a v => ⟨a.1.to v.v, v.z a.2⟩) (fun j p q a v => ⟨v.m a.1, a.2.to v.v⟩)
    (fun j s hj a => by
      have w := ow_z hj a.1 a.2
      exact ⟨w.1, w.2.2, w.2.1⟩) ⟨S12.stpL (S9.newH c) (S9.newPs l), S12.stpB (S9.newH c) (S9.newPs l), t.s.o, t.s.f⟩ (by rw [el, S12.selL_len, len]) a0 l.length (Nat.le_refl _)
  refine ⟨h, hf.1, fun j hj => ?_, by rw [ep], ?_⟩
  · rw [hf.2 j (by omega), gBn, if_neg (by omega)]
    match j, hj with
    | 0, _ => rfl
    | 1, _ => rfl
    | 2, _ => rfl
    | 3, _ => rfl
    | 4, _ => rfl
    | 5, _ => rfl
  · rw [ep]
    exact ⟨rfl, z.1, z.2.1⟩
theorem keep_all {n : Nat} {h : Hd} (r : HR h) {Y : Nat → Pt → Prop} {t : Ts} (f : Fm n h Y t) (h3 : ∀ j p, Y j p → p.nm 29 ≠ 3) (hq : ∀ j b p, Y j p → Y j (S12.selP h b p)) (hv : ∀ j p q, Y j p → Vq p q → Y j q)
    (ho : ∀ j (s : Ps), j < s.l.length → Y j (gtP s.l j) → Pm (gtP s.l j) → Ot' j s.l (ptF h j s).l ∧ Y j (gtP (ptF h j s).l j) ∧ Pm (gtP (ptF h j s).l j)) : Fm n h Y (pass n t) := pass_Fm r f h3 (Or.inl fun _ _ a => a) hq hv hv ho
theorem new_alone (c : Cf) (l : List Int) (hl : 0 < l.length) : ∃ h, HR h ∧ (∀ j, j < 6 → h.nm j = c.nm j) ∧ Fm l.length h (fun _ => Dn h (h.nm 13)) (runT (S9.newH c) (S9.newPs l)) := by
  have len := S9.newPs_len l
  obtain ⟨h, r, hc, _, f1⟩ := new_pass c l (start (S9.newH c) (S9.newPs l)) rfl rfl
  refine ⟨h, r, hc, ?_⟩
  unfold runT
  rw [len]
  refine run_first (fun t => t = start (S9.newH c) (S9.newPs l)) (Fm l.length h (fun _ => Na h (h.nm 13))) l.length 99 _ rfl (fun t e => by rw [e]; exact f1) (fun t e q => ?_) (fun t u q e => q.of t u e) _ (fun t q => ?_)
  · have a := (q.at' 0 hl).2.n72
    rw [e] at a
    obtain ⟨b, z⟩ := gt_new l hl
    have z : gtP (start (S9.newH c) (S9.newPs l)).s.l 0 = _ := z
    rw [z, nw_n _ _ (by omega)] at a
    cases a
  · refine run_last (Fm l.length h (fun _ => Na h (h.nm 13))) (Fm l.length h (fun _ => Dn h (h.nm 13))) l.length 98 t q (fun t q => ?_) (fun t q => ?_)
    · refine pass_Fm r (Y' := fun _ => Nb h (h.nm 13)) q (fun j p a => by rw [a.n29]; decide) (Or.inr ?_) (fun j b p a => se_Na a b) (fun j p q a v => a.to v) (fun j p q a v => a.to v) (fun j s hj a pm => ow_n hj a pm)
      exact any_at (j := 0) (by rw [q.len]; exact hl) (q.at' 0 hl).2.b21 _
    · exact keep_all r q (fun j p a => by rw [a.n29]; decide) (fun j b p a => se_Dn a b) (fun j p q a v => a.to v) (fun j s hj a pm => dn_all hj a pm)
/-! ### Up -/
theorem fu_up {i : Nat} {u : Nat → Bool} {X : Pt → Prop} {h : Hd} {j : Nat} {p : Pt} (a : Fi i X u X h j p) : Fu (fun k => if k = i then true else u k) X h j p := by
  unfold Fi Fu at a
  unfold Fu
  split at a
  · rename_i c
    rw [if_pos (by simp [c])]
    exact a
  · rename_i c
    simp only [if_neg c]
    exact a
theorem up_alone {n : Nat} {h : Hd} {l : List Pt} {u : Nat → Bool} {i : Nat} (r : HR h) (m0 : h.nm 13 ≠ 0) (hi : i < n) (hu : u i = false) (len : l.length = n) (f : ∀ j, j < n → Pm (gtP l j) ∧ Fu u (Uf h (h.nm 13)) h j (gtP l j)) :
    Fm n h (Fu (fun k => if k = i then true else u k) (Uf h (h.nm 13)) h) ⟨(evUp h l (i : Nat) true).h, ⟨(evUp h l (i : Nat) true).l, false, [], []⟩⟩ := by
  have il : i < l.length := by omega
  have di : Dn h (h.nm 13) (gtP l i) := by
    have := (f i hi).2
    unfold Fu at this
    rw [hu] at this
    simpa using this
  rw [evUp_go il (by rw [di.b2]; decide)]
  have e1 : S9.upL l (i : Int) true = l.set i (S9.upP true (gtP l i)) := by
    unfold S9.upL
    rw [if_pos ⟨by omega, by omega⟩, Int.toNat_natCast]
    rfl
  have f0 : Fm n h (Fi i (Ua h (h.nm 13)) u (Uf h (h.nm 13)) h) (start h (S9.upL l (i : Int) true)) := by
    refine ⟨rfl, by show (S9.upL l (i : Int) true).length = n; rw [e1, List.length_set]; exact len, fun j hj => ?_⟩
    show Pm (gtP (S9.upL l (i : Int) true) j) ∧ Fi i _ u _ h j (gtP (S9.upL l (i : Int) true) j)
    rw [e1, gt_set il]
    unfold Fi
    by_cases c : j = i
    · rw [if_pos c, if_pos c]
      exact ⟨up_m (f i hi).1, up_Dn di⟩
    · rw [if_neg c, if_neg c]
      exact f j hj
  have x3 : ∀ p, Uf h (h.nm 13) p → p.nm 29 ≠ 3 := fun p a => by rw [a.n29]; decide
  have xs : ∀ b p, Uf h (h.nm 13) p → Uf h (h.nm 13) (S12.selP h b p) := fun b p a => se_Uf a b
  have xv : ∀ p q, Uf h (h.nm 13) p → Vq p q → Uf h (h.nm 13) q := fun p q a v => a.to v
  have xo : ∀ j (s : Ps), j < s.l.length → Uf h (h.nm 13) (gtP s.l j) → Pm (gtP s.l j) → Ot' j s.l (ptF h j s).l ∧ Uf h (h.nm 13) (gtP (ptF h j s).l j) ∧ Pm (gtP (ptF h j s).l j) := fun j s hj a pm => ow_f hj a m0 pm
  have at_i : ∀ {W : Pt → Prop} {t : Ts}, Fm n h (Fi i W u (Uf h (h.nm 13)) h) t → W (gtP t.s.l i) := fun {W t} q => by
    have := (q.at' i hi).2
    unfold Fi at this
    rw [if_pos rfl] at this
    exact this
  have fin : ∀ t : Ts, Fm n h (Fi i (Uf h (h.nm 13)) u (Uf h (h.nm 13)) h) t → Fm n h (Fu (fun k => if k = i then true else u k) (Uf h (h.nm 13)) h) ⟨(Ev.of t).h, ⟨(Ev.of t).l, false, [], []⟩⟩ := fun t q => ⟨q.h, q.len, fun j hj => ⟨(q.at' j hj).1, fu_up (q.at' j hj).2⟩⟩
  refine fin _ ?_
  have el : (S9.upL l (i : Int) true).length = n := by rw [e1, List.length_set]; exact len
  unfold runT
  rw [el]
  refine run_first _ (Fm n h (Fi i (Ub h (h.nm 13)) u (Uf h (h.nm 13)) h)) n 99 _ f0 (fun t q => pass_Fi r q x3 (fun p a => by rw [a.n29]; decide) xs (W' := Ua h (h.nm 13)) (fun b p a => se_Ua a b) (Or.inl fun p a => a) xv (fun p q a v => a.to v) (fun p q a v => a.to v) xo (fun j s hj a pm => ow_a hj a pm)) (fun t q1 q2 => ?_) (fun t u q e => q.of t u e) _ (fun t q => ?_)
  · have a := (at_i q1).n29
    rw [(at_i q2).n29] at a
    cases a
  refine run_first _ (Fm n h (Fi i (Ud h (h.nm 13)) u (Uf h (h.nm 13)) h)) n 98 _ q (fun t q => pass_Fi r q x3 (fun p a => by rw [a.n29]; decide) xs (W' := Uc h (h.nm 13)) (fun b p a => se_Ub a b) (Or.inr (any_at (j := i) (by rw [q.len]; exact hi) (at_i q).b21 _)) xv (fun p q a v => a.to v) (fun p q a v => a.to v) xo (fun j s hj a pm => ow_c hj a pm)) (fun t q1 q2 => ?_) (fun t u q e => q.of t u e) _ (fun t q => ?_)
  · have a := (at_i q1).n29
    rw [(at_i q2).n29] at a
    cases a
  refine run_first _ (Fm n h (Fi i (Ue h (h.nm 13)) u (Uf h (h.nm 13)) h)) n 97 _ q (fun t q => pass_Fi r q x3 (fun p a => by rw [a.n29]; decide) xs (W' := Ud h (h.nm 13)) (fun b p a => se_Ud a b) (Or.inl fun p a => a) xv (fun p q a v => a.to v) (fun p q a v => a.to v) xo (fun j s hj a pm => ow_g hj a pm)) (fun t q1 q2 => ?_) (fun t u q e => q.of t u e) _ (fun t q => ?_)
  · have a := (at_i q1).b13
    rw [(at_i q2).b13] at a
    cases a
  refine run_last _ (Fm n h (Fi i (Uf h (h.nm 13)) u (Uf h (h.nm 13)) h)) n 96 _ q (fun t q => pass_Fi r q x3 (fun p a => by rw [a.n29]; decide) xs (W' := Ue h (h.nm 13)) (fun b p a => se_Ue a b) (Or.inl fun p a => a) xv (fun p q a v => a.to v) (fun p q a v => a.to v) xo (fun j s hj a pm => ow_h hj a pm)) (fun t q => pass_Fi r q x3 x3 xs (W' := Uf h (h.nm 13)) xs (Or.inl fun p a => a) xv xv xv xo xo)
/-! ### Tick -/
theorem gt_map {l : List Pt} {f : Pt → Pt} {j : Nat} (hj : j < l.length) : gtP (l.map f) j = f (gtP l j) := by
  unfold gtP
  rw [List.getD_eq_getElem?_getD, List.getElem?_map, List.getD_eq_getElem?_getD, List.getElem?_eq_getElem hj]
  rfl
theorem tick_alone {n : Nat} {h : Hd} {l : List Pt} {u : Nat → Bool} {X A B : Pt → Prop} (r : HR h) (len : l.length = n) (f : ∀ j, j < n → Pm (gtP l j) ∧ Fu u X h j (gtP l j))
    (xa : ∀ p, X p → A (S9.tickP p)) (a3 : ∀ p, A p → p.nm 29 ≠ 3) (asl : ∀ b p, A p → A (S12.selP h b p)) (av : ∀ p q, A p → Vq p q → A q) (b3 : ∀ p, B p → p.nm 29 ≠ 3) (bs : ∀ b p, B p → B (S12.selP h b p)) (bv : ∀ p q, B p → Vq p q → B q)
    (ao : ∀ j (s : Ps), j < s.l.length → A (gtP s.l j) → Pm (gtP s.l j) → Ot' j s.l (ptF h j s).l ∧ B (gtP (ptF h j s).l j) ∧ Pm (gtP (ptF h j s).l j))
    (bo : ∀ j (s : Ps), j < s.l.length → B (gtP s.l j) → Pm (gtP s.l j) → Ot' j s.l (ptF h j s).l ∧ B (gtP (ptF h j s).l j) ∧ Pm (gtP (ptF h j s).l j)) :
    Fm n h (Fu u B h) ⟨(evTick h l).h, ⟨(evTick h l).l, false, [], []⟩⟩ := by
  have f0 : Fm n h (fun j p => if u j = true then A p else Dn h (S9.dec1 (h.nm 13)) p) (start h (l.map S9.tickP)) := by
    refine ⟨rfl, by show (l.map S9.tickP).length = n; rw [List.length_map]; exact len, fun j hj => ?_⟩
    have e : gtP (start h (l.map S9.tickP)).s.l j = S9.tickP (gtP l j) := gt_map (by omega)
    rw [e]
    refine ⟨tk_m (f j hj).1, ?_⟩
    have z := (f j hj).2
    unfold Fu at z
    split at z
    · rename_i c; rw [if_pos c]; exact xa _ z
    · rename_i c; rw [if_neg c]; exact ti_Dn z
  have fin : ∀ t : Ts, Fm n h (Fu u B h) t → Fm n h (Fu u B h) ⟨(Ev.of t).h, ⟨(Ev.of t).l, false, [], []⟩⟩ := fun t q => ⟨q.h, q.len, fun j hj => q.at' j hj⟩
  refine fin _ ?_
  unfold runT
  rw [List.length_map, len]
  refine run_last _ (Fm n h (Fu u B h)) n 99 _ f0 (fun t q => ?_) (fun t q => ?_)
  · refine pass_Fm r (Y' := fun j p => if u j = true then A p else Dn h (S9.dec1 (h.nm 13)) p) q ?_ (Or.inl fun _ _ a => a) ?_ ?_ ?_ ?_
    · intro j p a
      split at a
      · exact a3 p a
      · rw [a.n29]; decide
    · intro j b p a
      split at a
      · rename_i c; rw [if_pos c]; exact asl b p a
      · rename_i c; rw [if_neg c]; exact se_Dn a b
    · intro j p q a v
      split at a
      · rename_i c; rw [if_pos c]; exact av p q a v
      · rename_i c; rw [if_neg c]; exact a.to v
    · intro j p q a v
      unfold Fu at a ⊢
      split at a
      · rename_i c; rw [if_pos c]; exact bv p q a v
      · rename_i c; rw [if_neg c]; exact a.to v
    · intro j s hj a pm
      unfold Fu
      split at a
      · rename_i c; rw [if_pos c]; exact ao j s hj a pm
      · rename_i c; rw [if_neg c]; exact dn_all hj a pm
  · refine keep_all r q ?_ ?_ ?_ ?_
    · intro j p a
      unfold Fu at a
      split at a
      · exact b3 p a
      · rw [a.n29]; decide
    · intro j b p a
      unfold Fu at a ⊢
      split at a
      · rename_i c; rw [if_pos c]; exact bs b p a
      · rename_i c; rw [if_neg c]; exact se_Dn a b
    · intro j p q a v
      unfold Fu at a ⊢
      split at a
      · rename_i c; rw [if_pos c]; exact bv p q a v
      · rename_i c; rw [if_neg c]; exact a.to v
    · intro j s hj a pm
      unfold Fu at a ⊢
      split at a
      · rename_i c; rw [if_pos c]; exact bo j s hj a pm
      · rename_i c; rw [if_neg c]; exact dn_all hj a pm
def Ph (h : Hd) (k : Nat) (p : Pt) : Prop :=
  if (k : Int) < h.nm 13 then Uf h (h.nm 13 - k) p else if (k : Int) < h.nm 13 + h.nm 3 then Ul h (h.nm 13 + h.nm 3 - k) p else Ug h 0 p
theorem dec_pos {n : Int} (h : 0 < n) : S9.dec1 n = n - 1 := if_pos h
theorem ph_next {n : Nat} {h : Hd} {l : List Pt} {u : Nat → Bool} {k : Nat} (r : HR h) (h3 : 1 ≤ h.nm 3) (len : l.length = n) (f : ∀ j, j < n → Pm (gtP l j) ∧ Fu u (Ph h k) h j (gtP l j)) : Fm n h (Fu u (Ph h (k + 1)) h) ⟨(evTick h l).h, ⟨(evTick h l).l, false, [], []⟩⟩ := by
  by_cases c1 : (k : Int) < h.nm 13
  · have e0 : Ph h k = Uf h (h.nm 13 - k) := by funext p; unfold Ph; rw [if_pos c1]
    rw [e0] at f
    by_cases c2 : (k : Int) + 1 < h.nm 13
    · have e1 : Ph h (k + 1) = Uf h (h.nm 13 - k - 1) := by funext p; unfold Ph; rw [if_pos (by omega)]; congr 1; omega
      rw [e1]
      have o := fun j (s : Ps) hj a pm => ow_f (h := h) (fd := h.nm 13 - k - 1) (i := j) (s := s) hj a (by omega) pm
      exact tick_alone r len f (A := Uf h (h.nm 13 - k - 1)) (fun p a => by have := ti_Uf a; rw [dec_pos (by omega)] at this; exact this) (fun p a => by rw [a.n29]; decide) (fun b p a => se_Uf a b) (fun p q a v => a.to v) (fun p a => by rw [a.n29]; decide) (fun b p a => se_Uf a b) (fun p q a v => a.to v) o o
    · have e1 : Ph h (k + 1) = Ul h (h.nm 3) := by funext p; unfold Ph; rw [if_neg (by omega), if_pos (by omega)]; congr 1; omega
      rw [e1]
      have o := fun j (s : Ps) hj a pm => ow_m (h := h) (fd := h.nm 3) (i := j) (s := s) hj a (by omega) pm
      exact tick_alone r len f (A := Uf h 0) (fun p a => by have := ti_Uf a; rw [dec_pos (by omega), show h.nm 13 - (k : Int) - 1 = 0 by omega] at this; exact this) (fun p a => by rw [a.n29]; decide) (fun b p a => se_Uf a b) (fun p q a v => a.to v) (fun p a => by rw [a.n29]; decide) (fun b p a => se_Ul a b) (fun p q a v => a.to v) (fun j s hj a pm => ow_l hj a rfl pm) o
  · by_cases c2 : (k : Int) < h.nm 13 + h.nm 3
    · have e0 : Ph h k = Ul h (h.nm 13 + h.nm 3 - k) := by funext p; unfold Ph; rw [if_neg c1, if_pos c2]
      rw [e0] at f
      by_cases c3 : (k : Int) + 1 < h.nm 13 + h.nm 3
      · have e1 : Ph h (k + 1) = Ul h (h.nm 13 + h.nm 3 - k - 1) := by funext p; unfold Ph; rw [if_neg (by omega), if_pos (by omega)]; congr 1; omega
        rw [e1]
        have o := fun j (s : Ps) hj a pm => ow_m (h := h) (fd := h.nm 13 + h.nm 3 - k - 1) (i := j) (s := s) hj a (by omega) pm
        exact tick_alone r len f (A := Ul h (h.nm 13 + h.nm 3 - k - 1)) (fun p a => by have := ti_Ul a; rw [dec_pos (by omega)] at this; exact this) (fun p a => by rw [a.n29]; decide) (fun b p a => se_Ul a b) (fun p q a v => a.to v) (fun p a => by rw [a.n29]; decide) (fun b p a => se_Ul a b) (fun p q a v => a.to v) o o
      · have e1 : Ph h (k + 1) = Ug h 0 := by funext p; unfold Ph; rw [if_neg (by omega), if_neg (by omega)]
        rw [e1]
        have o := fun j (s : Ps) hj a pm => ow_v (h := h) (fd := 0) (i := j) (s := s) hj a rfl pm
        exact tick_alone r len f (A := Ul h 0) (fun p a => by have := ti_Ul a; rw [dec_pos (by omega), show h.nm 13 + h.nm 3 - (k : Int) - 1 = 0 by omega] at this; exact this) (fun p a => by rw [a.n29]; decide) (fun b p a => se_Ul a b) (fun p q a v => a.to v) (fun p a => by rw [a.n29]; decide) (fun b p a => se_Ug a b) (fun p q a v => a.to v) (fun j s hj a pm => ow_w hj a rfl pm) o
    · have e0 : Ph h k = Ug h 0 := by funext p; unfold Ph; rw [if_neg c1, if_neg c2]
      have e1 : Ph h (k + 1) = Ug h 0 := by funext p; unfold Ph; rw [if_neg (by omega), if_neg (by omega)]
      rw [e0] at f
      rw [e1]
      have o := fun j (s : Ps) hj a pm => ow_v (h := h) (fd := 0) (i := j) (s := s) hj a rfl pm
      exact tick_alone r len f (A := Ug h 0) (fun p a => ti_Ug a) (fun p a => by rw [a.n29]; decide) (fun b p a => se_Ug a b) (fun p q a v => a.to v) (fun p a => by rw [a.n29]; decide) (fun b p a => se_Ug a b) (fun p q a v => a.to v) o o
/-! ### all of it -/
def upN (b : Nat → Bool) (s : Hd × List Pt) : Nat → Hd × List Pt
  | 0 => s
  | i + 1 => if b i = true then ((evUp (upN b s i).1 (upN b s i).2 (i : Nat) true).h, (evUp (upN b s i).1 (upN b s i).2 (i : Nat) true).l) else upN b s i
def tiN (s : Hd × List Pt) : Nat → Hd × List Pt
  | 0 => s
  | k + 1 => ((evTick (tiN s k).1 (tiN s k).2).h, (evTick (tiN s k).1 (tiN s k).2).l)
theorem ups_alone (c : Cf) (l : List Int) (b : Nat → Bool) (hl : 0 < l.length) (hm : c.nm 2 ≠ 0) : ∃ h, HR h ∧ (∀ j, j < 6 → h.nm j = c.nm j) ∧ ∀ m, m ≤ l.length →
    (upN b ((runT (S9.newH c) (S9.newPs l)).h, (runT (S9.newH c) (S9.newPs l)).s.l) m).1 = h ∧ (upN b ((runT (S9.newH c) (S9.newPs l)).h, (runT (S9.newH c) (S9.newPs l)).s.l) m).2.length = l.length ∧
      ∀ j, j < l.length → Pm (gtP (upN b ((runT (S9.newH c) (S9.newPs l)).h, (runT (S9.newH c) (S9.newPs l)).s.l) m).2 j) ∧ Fu (fun k => decide (k < m) && b k) (Uf h (h.nm 13)) h j (gtP (upN b ((runT (S9.newH c) (S9.newPs l)).h, (runT (S9.newH c) (S9.newPs l)).s.l) m).2 j) := by
  obtain ⟨h, r, hc, f⟩ := new_alone c l hl
  have e13 : h.nm 13 = c.nm 2 := by
    rw [← hc 2 (by omega)]
    have := congrArg (fun z : Tm => z.nm 1) r.ut
    have a1 : (uOf h).nm 1 = h.nm 13 := nm_c (by show ((h.cl.drop 12).take 4)[1]? = _; rw [List.getElem?_take, if_pos (by omega), List.getElem?_drop])
    have a2 : (tOfH h).nm 1 = h.nm 2 := nm_c (by show ((h.cl.drop 1).take 4)[1]? = _; rw [List.getElem?_take, if_pos (by omega), List.getElem?_drop])
    simp only [a1, a2] at this
    exact this
  refine ⟨h, r, hc, fun m => ?_⟩
  induction m with
  | zero =>
    refine fun _ => ⟨f.h, f.len, fun j hj => ⟨(f.at' j hj).1, ?_⟩⟩
    unfold Fu
    rw [if_neg (by simp)]
    exact (f.at' j hj).2
  | succ m ih =>
    intro hm1
    obtain ⟨i1, i2, i3⟩ := ih (by omega)
    unfold upN
    cases z : b m with
    | false =>
      rw [if_neg (by decide)]
      refine ⟨i1, i2, fun j hj => ⟨(i3 j hj).1, ?_⟩⟩
      have q := (i3 j hj).2
      have e : (decide (j < m + 1) && b j) = (decide (j < m) && b j) := by
        by_cases c : j = m
        · rw [c, z]; simp
        · congr 1
          exact decide_eq_decide.2 (by omega)
      unfold Fu at q ⊢
      show if (decide (j < m + 1) && b j) = true then _ else _
      rw [e]
      exact q
    | true =>
      rw [if_pos rfl]
      have k := up_alone (u := fun k => decide (k < m) && b k) r (by rw [e13]; exact hm) (i := m) (by omega) (by simp) i2 i3
      rw [i1]
      refine ⟨k.h, k.len, fun j hj => ⟨(k.at' j hj).1, ?_⟩⟩
      have q := (k.at' j hj).2
      have e : (decide (j < m + 1) && b j) = (if j = m then true else (decide (j < m) && b j)) := by
        by_cases c : j = m
        · rw [c, z]; simp
        · rw [if_neg c]
          congr 1
          exact decide_eq_decide.2 (by omega)
      unfold Fu at q ⊢
      show if (decide (j < m + 1) && b j) = true then _ else _
      rw [e]
      exact q
theorem all_alone (c : Cf) (l : List Int) (b : Nat → Bool) (ok : S9.okC c l = true) (K : Nat) (hK : (K : Int) = 2 * c.nm 4 + 8) :
    let s := tiN (upN b ((runT (S9.newH c) (S9.newPs l)).h, (runT (S9.newH c) (S9.newPs l)).s.l) l.length) K
    s.1.nm 7 = 0 ∧ s.1.nm 8 = c.nm 0 ∧ s.2.length = l.length ∧ ∀ j, j < l.length → (gtP s.2 j).bt 8 = b j ∧ (gtP s.2 j).bt 10 = b j ∧ (decide ((gtP s.2 j).nm 30 = 4)) = b j := by
  have okk := of_decide_eq_true ok
  obtain ⟨o1, o2, o3, o4, o5, o6, o7, o8⟩ := okk
  have T : 6 ≤ c.nm 2 ∧ c.nm 2 ≤ 40 ∧ 1 ≤ c.nm 3 ∧ c.nm 3 ≤ 2 ∧ 4 ≤ c.nm 4 ∧ c.nm 4 ≤ 30 ∧ c.nm 2 ≤ 2 * (c.nm 4 - 1) ∧ 2 * (c.nm 3 + 1) ≤ c.nm 2 := by
    unfold S9.chkT at o2
    split at o2
    · assumption
    · cases o2
  obtain ⟨h, r, hc, hu⟩ := ups_alone c l b (by omega) (by omega)
  have e13 : h.nm 13 = c.nm 2 := by
    rw [← hc 2 (by omega)]
    have := congrArg (fun z : Tm => z.nm 1) r.ut
    have a1 : (uOf h).nm 1 = h.nm 13 := nm_c (by show ((h.cl.drop 12).take 4)[1]? = _; rw [List.getElem?_take, if_pos (by omega), List.getElem?_drop])
    have a2 : (tOfH h).nm 1 = h.nm 2 := nm_c (by show ((h.cl.drop 1).take 4)[1]? = _; rw [List.getElem?_take, if_pos (by omega), List.getElem?_drop])
    simp only [a1, a2] at this
    exact this
  have e3 : h.nm 3 = c.nm 3 := hc 3 (by omega)
  obtain ⟨u1, u2, u3⟩ := hu l.length (Nat.le_refl _)
  obtain ⟨s0, hs0⟩ : ∃ z, upN b ((runT (S9.newH c) (S9.newPs l)).h, (runT (S9.newH c) (S9.newPs l)).s.l) l.length = z := ⟨_, rfl⟩
  rw [hs0] at u1 u2 u3 ⊢
  have Q : ∀ k, (tiN s0 k).1 = h ∧ (tiN s0 k).2.length = l.length ∧ ∀ j, j < l.length → Pm (gtP (tiN s0 k).2 j) ∧ Fu (fun k => decide (k < l.length) && b k) (Ph h k) h j (gtP (tiN s0 k).2 j) := by
    intro k
    induction k with
    | zero =>
      have e0 : Ph h 0 = Uf h (h.nm 13) := by funext p; unfold Ph; rw [if_pos (by rw [e13]; show (0 : Int) < _; omega)]; congr 1; simp
      rw [e0]
      exact ⟨u1, u2, u3⟩
    | succ k ih =>
      obtain ⟨i1, i2, i3⟩ := ih
      have z := ph_next r (by rw [e3]; omega) i2 i3
      unfold tiN
      rw [i1]
      exact ⟨z.h, z.len, z.at'⟩
  obtain ⟨q1, q2, q3⟩ := Q K
  intro s
  have n8 : h.nm 8 = c.nm 0 := by
    rw [← hc 0 (by omega)]
    have := congrArg (fun z : Vc => z.nm 0) r.rt
    have a1 : (rOf h).nm 0 = h.nm 8 := nm_c (by show ((h.cl.drop 8).take 4)[0]? = _; rw [List.getElem?_take, if_pos (by omega), List.getElem?_drop])
    simp only [a1] at this
    exact this
  refine ⟨by show (tiN s0 K).1.nm 7 = 0; rw [q1]; exact r.n7, by show (tiN s0 K).1.nm 8 = _; rw [q1]; exact n8, q2, fun j hj => ?_⟩
  have e : Ph h K = Ug h 0 := by funext p; unfold Ph; rw [if_neg (by omega), if_neg (by omega)]
  have z := (q3 j hj).2
  rw [e] at z
  unfold Fu at z
  show (gtP (tiN s0 K).2 j).bt 8 = b j ∧ (gtP (tiN s0 K).2 j).bt 10 = b j ∧ (decide ((gtP (tiN s0 K).2 j).nm 30 = 4)) = b j
  cases y : b j with
  | true =>
    rw [if_pos (by simp [hj, y])] at z
    exact ⟨z.b8, z.b10, by rw [z.n30]; rfl⟩
  | false =>
    rw [if_neg (by simp [y])] at z
    exact ⟨z.b8, z.b10, by rw [z.n30]; rfl⟩
end S17
end
section
namespace S17
open Go.RowKit
open S14 (gtP gtP_at set_self)

def eO : S16.El Ot := ⟨fun r => r.cs, 91, 49, 17, 72⟩
def eI : S16.El Int := ⟨fun n => #[.int .i64 n], 3, 50, 1, 8⟩
theorem one_of {l : List Value} (h : l.all (fun v => v.oneCell') = true) : ∀ v ∈ l, v.oneCell' = true := fun v hv => List.all_eq_true.1 h v hv
def zeroO : Ot := zeroR S15.kdO
theorem kO : eO.Ok := ⟨fun r => by show r.cs.size = 17; rw [Row.csize, S15.lenO], by decide, fun r => r.one', Tryz.underlying49, ⟨.agg zeroO.cs, by kernel_rfl, by show zeroO.cs.size = 17; rw [Row.csize, S15.lenO]⟩, by decide⟩
theorem kI : eI.Ok := ⟨fun _ => rfl, by decide, fun _ => one_of rfl, Tryz.underlying50, ⟨.int .i64 0, by kernel_rfl, rfl⟩, by decide⟩
theorem ne_type {W : World} {b b' : Nat} {t t' : TypeId} {cs cs' : Array Value} (h : RvAt W b t cs) (h' : RvAt W b' t' cs') (n : t ≠ t') : b ≠ b' := by
  intro e
  subst e
  have := h.symm.trans h'
  cases this
  exact n rfl
theorem own_type {α : Type} {e : S16.El α} {W : World} {B b : Nat} {v : Value} {l : List α} {t : TypeId} {cs : Array Value} (o : S16.Own e W B v l) (r : RvAt W b t cs) (n : t ≠ e.ty) : v.ownBlock = none ∨ v.ownBlock ≠ some b := by
  rcases o.pat with ⟨rfl, _⟩ | ⟨g, c, rfl, _, p⟩
  · exact Or.inl rfl
  · right
    obtain ⟨cur, hc, _⟩ := p
    intro e
    simp only [Value.ownBlock, Option.some.injEq] at e
    exact ne_type hc r (Ne.symm n) e
theorem own_one {α : Type} {e : S16.El α} {W : World} {B : Nat} {v : Value} {l : List α} (o : S16.Own e W B v l) : v.oneCell' = true := by
  rcases o.pat with ⟨rfl, _⟩ | ⟨g, c, rfl, _, _⟩ <;> rfl
def ldc (h : Hd) (x o f : Value) : Array Value := (h.cl ++ [x, o, f]).toArray
theorem ldc_size (h : Hd) (x o f : Value) : (ldc h x o f).size = 19 := by simp [ldc, h.len, lenH]
theorem infoD : (Tryz.prog.info? 52).map (·.size) = some 2 := by kernel_rfl
theorem rtD : RowTy 52 2 := ⟨infoD, _, Tryz.underlying52, rfl⟩
theorem infoLO : (Tryz.prog.info? 49).map (·.size) = some 1 := by kernel_rfl
theorem infoLI : (Tryz.prog.info? 50).map (·.size) = some 1 := by kernel_rfl
theorem ldc_get (h : Hd) (x o f : Value) : (ldc h x o f)[16]? = some x ∧ (ldc h x o f)[17]? = some o ∧ (ldc h x o f)[18]? = some f := by
  have := h.len
  rw [lenH] at this
  simp only [ldc, List.getElem?_toArray]
  refine ⟨?_, ?_, ?_⟩ <;> (rw [List.getElem?_append_right (by omega), this]; rfl)
theorem ldc_tree {h : Hd} {x o f v : Value} {j : Nat} (hv : (trc h x)[j]? = some v) : (ldc h x o f)[j]? = some v := by
  have hl := h.len
  rw [lenH] at hl
  have hj := (Array.getElem?_eq_some_iff.1 hv).1
  rw [trc_size] at hj
  simp only [trc, List.getElem?_toArray] at hv
  simp only [ldc, List.getElem?_toArray]
  rw [show h.cl ++ [x, o, f] = (h.cl ++ [x]) ++ [o, f] by simp, List.getElem?_append_left (by simp; omega)]
  exact hv
theorem ldc_st (h g : Hd) (x y o f : Value) : ((ldc h x o f).toList.take 0 ++ (trc g y).toList ++ (ldc h x o f).toList.drop (0 + (trc g y).size)).toArray = ldc g y o f := by
  have hl := h.len
  rw [lenH] at hl
  rw [trc_size]
  simp only [ldc, trc, List.take_zero, List.nil_append, Nat.zero_add]
  rw [show h.cl ++ [x, o, f] = (h.cl ++ [x]) ++ [o, f] by simp, List.drop_append_of_le_length (by simp; omega), List.drop_eq_nil_of_le (by simp; omega)]
  simp
theorem ldc_17 (h : Hd) (x o f y : Value) : ((ldc h x o f).toList.set 17 y).toArray = ldc h x y f := by
  have hl := h.len
  rw [lenH] at hl
  simp only [ldc]
  rw [List.set_append, if_neg (by omega), hl]
  rfl
theorem ldc_18 (h : Hd) (x o f y : Value) : ((ldc h x o f).toList.set 18 y).toArray = ldc h x o y := by
  have hl := h.len
  rw [lenH] at hl
  simp only [ldc]
  rw [List.set_append, if_neg (by omega), hl]
  rfl
theorem stLO (x y : Value) : Instr.storeAt 49 x y = stS 49 x y := rfl
theorem stLI (x y : Value) : Instr.storeAt 50 x y = stS 50 x y := rfl
theorem apLO (ty : TypeId) (xs : Array Value) : Builtin.append_ #[49, 49] ty xs = S16.apS 49 ty xs := rfl
theorem apLI (ty : TypeId) (xs : Array Value) : Builtin.append_ #[50, 50] ty xs = S16.apS 50 ty xs := rfl
theorem ldDn (x : Value) : Instr.loadAt 52 x = ldS 52 x := rfl
theorem stDn (x y : Value) : Instr.storeAt 52 x y = stS 52 x y := rfl
theorem _root_.Go.Proofs.YtlchejbggnbccaaGreat.SlAt.stp {W : World} {b o n c i : Nat} {l : List Pt} {p : Pt} (s : SlAt W (some ⟨b, o, none⟩) n c l) (hi : i < n) :
    ∃ W', (stS 74 (.pointer (some ⟨b, o + i * 77, none⟩)) (.agg p.cs)).run Tryz.prog W = .ok () W' ∧ SlAt W' (some ⟨b, o, none⟩) n c (l.set i p) ∧ W.grownBy W' (some b) := by
  have hl := s.len
  obtain ⟨cur, hb⟩ := s.soft _ rfl (by omega)
  simp only at hb
  obtain ⟨b', o', e, hc⟩ := s.cells _ rfl (by omega)
  cases e
  have hcur : ∀ j u, (l.flatMap Row.cl)[j]? = some u → cur[o + j]? = some u := fun j u hj => by
    have := hc j u hj
    unfold World.cell? at this
    rw [show W.heap[b]? = some (.cells cur 74 (0, 0)) from hb] at this
    simpa using this
  have hsz : o + n * 77 ≤ cur.size := by
    have hf := List.getElem?_eq_getElem (l := l.flatMap Row.cl) (i := n * 77 - 1) (by rw [flat_len, hl]; omega)
    have := (Array.getElem?_eq_some_iff.1 (hcur _ _ hf)).1
    omega
  have hpz : p.cs.size = 77 := by rw [Row.csize, lenP]
  have hin : o + i * 77 + 77 ≤ o + n * 77 := by omega
  have hs := store_cells (ty := 74) (o := o + i * 77) (cs := p.cs) hb (by rw [hpz]; exact infoP) (by rw [hpz]; omega) p.one'
  have hlen : (cur.toList.take (o + i * 77)).length = o + i * 77 := by rw [List.length_take, Array.length_toList]; omega
  refine ⟨_, hs, ⟨⟨by rw [List.length_set]; exact hl, s.cap, s.max, (fun e => by cases e), fun x e _ => ?_⟩, fun x e _ => ?_⟩, grown_row _ _ _⟩
  · cases e
    refine ⟨b, o, rfl, fun j u hj => ?_⟩
    refine RvAt.cell hb.set (o + j) u ?_
    rw [List.getElem?_toArray]
    rw [flat_get, List.getElem?_set] at hj
    have hd := Nat.div_add_mod j 77
    have hm := Nat.mod_lt j (show 0 < 77 by omega)
    by_cases hji : i = j / 77
    · rw [if_pos hji, if_pos (by omega)] at hj
      simp only [Option.bind_some] at hj
      rw [List.append_assoc, List.getElem?_append_right (by rw [hlen]; omega), hlen, show o + j - (o + i * 77) = j % 77 by omega, List.getElem?_append_left (by rw [Array.length_toList, hpz]; omega)]
      exact hj
    · rw [if_neg hji] at hj
      have hold := hcur j u (by rw [flat_get]; exact hj)
      have hju : j < n * 77 := by
        rw [← flat_get] at hj
        have := (List.getElem?_eq_some_iff.1 hj).1
        rw [flat_len, hl] at this
        exact this
      by_cases hlt : j < i * 77
      · rw [List.append_assoc, List.getElem?_append_left (by rw [hlen]; omega), List.getElem?_take, if_pos (by omega), Array.getElem?_toList]
        exact hold
      · have hge : i * 77 + 77 ≤ j := by omega
        rw [List.getElem?_append_right (by rw [List.length_append, hlen, Array.length_toList, hpz]; omega), List.length_append, hlen, Array.length_toList, hpz, List.getElem?_drop, show o + i * 77 + 77 + (o + j - (o + i * 77 + 77)) = o + j by omega, Array.getElem?_toList]
        exact hold
  · cases e
    exact ⟨_, hb.set⟩
theorem _root_.Go.Proofs.YtlchejbggnbccaaGreat.SlAt.stb {W : World} {b o n c i j : Nat} {l : List Pt} {p : Pt} {x : Bool} (s : SlAt W (some ⟨b, o, none⟩) n c l) (hp : l[i]? = some p) (hk : kdP[j]? = some none) :
    ∃ W', (stS 4 (.pointer (some ⟨b, o + i * 77 + j, none⟩)) (.bool x)).run Tryz.prog W = .ok () W' ∧ SlAt W' (some ⟨b, o, none⟩) n c (l.set i (p.setB j hk x)) ∧ W.grownBy W' (some b) := by
  have hl := s.len
  have hil : i < l.length := (List.getElem?_eq_some_iff.1 hp).1
  have hj : j < 77 := by rw [← lenP]; exact (List.getElem?_eq_some_iff.1 hk).1
  obtain ⟨cur, hb⟩ := s.soft _ rfl (by omega)
  simp only at hb
  obtain ⟨b', o', e, hc⟩ := s.cells _ rfl (by omega)
  cases e
  have hcur : ∀ j u, (l.flatMap Row.cl)[j]? = some u → cur[o + j]? = some u := fun j u hj => by
    have := hc j u hj
    unfold World.cell? at this
    rw [show W.heap[b]? = some (.cells cur 74 (0, 0)) from hb] at this
    simpa using this
  have hsz : o + n * 77 ≤ cur.size := by
    have hf := List.getElem?_eq_getElem (l := l.flatMap Row.cl) (i := n * 77 - 1) (by rw [flat_len, hl]; omega)
    have := (Array.getElem?_eq_some_iff.1 (hcur _ _ hf)).1
    omega
  have hs := RvAt.st1 (tv := 4) (k := o + i * 77 + j) (v := .bool x) hb info1.1 (by omega) rfl
  refine ⟨_, hs, ⟨⟨by rw [List.length_set]; exact hl, s.cap, s.max, (fun e => by cases e), fun y e _ => ?_⟩, fun y e _ => ?_⟩, grown_row _ _ _⟩
  · cases e
    refine ⟨b, o, rfl, fun t u ht => ?_⟩
    refine RvAt.cell hb.set (o + t) u ?_
    rw [List.getElem?_toArray, List.getElem?_set]
    rw [flat_get, List.getElem?_set] at ht
    have hd := Nat.div_add_mod t 77
    have hm := Nat.mod_lt t (show 0 < 77 by omega)
    by_cases hji : i = t / 77
    · rw [if_pos hji, if_pos (by omega)] at ht
      simp only [Option.bind_some] at ht
      have hq := Row.setB_get p hk x (t % 77)
      rw [hq] at ht
      by_cases htj : t % 77 = j
      · rw [if_pos htj] at ht
        rw [if_pos (by omega), if_pos (by rw [Array.length_toList]; omega)]
        exact ht
      · rw [if_neg htj] at ht
        rw [if_neg (by omega), Array.getElem?_toList]
        refine hcur t u ?_
        rw [flat_get, ← hji, hp]
        exact ht
    · rw [if_neg hji] at ht
      rw [if_neg (by omega), Array.getElem?_toList]
      exact hcur t u (by rw [flat_get]; exact ht)
  · cases e
    exact ⟨_, hb.set⟩
theorem own_next {α : Type} {e : S16.El α} {W : World} {B : Nat} {v : Value} {l : List α} (k : e.Ok) (o : S16.Own e W B v l) (hB : B ≤ W.heap.size) (hl : l.length ≤ 90000) (p : α) (ty : TypeId) :
    ∃ v' W', (S16.apS e.st ty #[v, .slice (some ⟨W.heap.size, 0, none⟩) 1 1]).run Tryz.prog (W.alloc (.cells (e.f p) e.ty)) = .ok v' W' ∧ S16.Own e W' B v' (l ++ [p]) ∧ W.grownBy W' v.ownBlock := by
  have bA : Below W.heap.size W (W.alloc (.cells (e.f p) e.ty)) := (Below.refl _ _).alloc (Nat.le_refl _) _
  obtain ⟨v', W', ap, o2, g2⟩ := (o.below bA).app k (S16.one_new W p k) (by simp; omega) (Nat.le_trans hB bA.size) ty
  exact ⟨v', W', ap, o2, grown_self (grown_of_below bA _) g2⟩
theorem out_sl {W : World} {v : Value} {u : Option Ot} (h : S15.OutAt W v u) : ∃ a m c, v = .slice a m c ∧ S16.SlAt eO W a m c (opt u) := by
  cases u with
  | none => exact ⟨none, 0, 0, h, S16.SlAt.none' W⟩
  | some r =>
    obtain ⟨b, rfl, hb⟩ := h
    refine ⟨some ⟨b, 0, none⟩, 1, 1, rfl, rfl, Nat.le_refl _, by unfold maxLen; omega, (fun e => by cases e), fun y e' _ => ?_, fun y e' _ => by cases e'; exact ⟨_, hb⟩⟩
    cases e'
    refine ⟨_, _, rfl, fun j u hj => ?_⟩
    rw [Nat.zero_add]
    refine hb.cell j u ?_
    have : eO.fl (opt (some r)) = r.cs.toList := by simp [S16.El.fl, opt, eO]
    rw [this] at hj
    rw [← Array.getElem?_toList]
    exact hj
def Kp (W V : World) : Prop := ∀ (b : Nat) (t : TypeId) (cs : Array Value), RvAt W b t cs → t ≠ 109 → t ≠ 74 → t ≠ 91 → t ≠ 3 → RvAt V b t cs
theorem Kp.of {W V : World} (k : Below W.heap.size W V) : Kp W V := fun b t cs r _ _ _ _ => r.below k
theorem Kp.trans {W V U : World} (h : Kp W V) (k : Kp V U) : Kp W U := fun b t cs r h1 h2 h3 h4 => k b t cs (h b t cs r h1 h2 h3 h4) h1 h2 h3 h4
theorem Kp.row {W V : World} {b : Nat} {t : TypeId} {cs : Array Value} (r : RvAt W b t cs) (g : W.grownBy V (some b)) (ht : t = 109 ∨ t = 74 ∨ t = 91 ∨ t = 3) : Kp W V := fun b' t' cs' r' h1 h2 h3 h4 => r'.keptBut g (by
  have : b' ≠ b := ne_type r' r (by rcases ht with rfl | rfl | rfl | rfl <;> assumption)
  simpa using this)
theorem Kp.own {α : Type} {e : S16.El α} {W V : World} {B : Nat} {v : Value} {l : List α} (o : S16.Own e W B v l) (g : W.grownBy V v.ownBlock) (ht : e.ty = 91 ∨ e.ty = 3) : Kp W V := fun b' t' cs' r' h1 h2 h3 h4 => r'.keptBut g (by
  rcases own_type o r' (by rcases ht with q | q <;> rw [q] <;> assumption) with q | q
  · rw [q]; simp
  · exact fun e => q e.symm)
structure LS (w W : World) (L : Nat) (h : Hd) (a : Option Addr) (n c : Nat) (l : List Pt) (vo vf : Value) (os : List Ot) (fs : List Int) : Prop where
  var : RvAt W L 109 (ldc h (.slice a n c) vo vf)
  sl : SlAt W a n c l
  nw : Nw w a
  ou : S16.Own eO W w.heap.size vo os
  fl : S16.Own eI W w.heap.size vf fs
  bel : Below w.heap.size w W
  hL : w.heap.size ≤ L
theorem LS.below {w W V : World} {L n c : Nat} {h : Hd} {a : Option Addr} {l : List Pt} {vo vf : Value} {os : List Ot} {fs : List Int} (s : LS w W L h a n c l vo vf os fs) (k : Below W.heap.size W V) : LS w V L h a n c l vo vf os fs :=
  ⟨s.var.below k, s.sl.below k, s.nw, s.ou.below k, s.fl.below k, below_over s.bel k, s.hL⟩
theorem LS.tld {w W : World} {L n c : Nat} {h : Hd} {a : Option Addr} {l : List Pt} {vo vf : Value} {os : List Ot} {fs : List Int} (s : LS w W L h a n c l vo vf os fs) : (ldS 39 (.pointer (some ⟨L, 0, none⟩))).run Tryz.prog W = .ok (.agg (trc h (.slice a n c))) W :=
  run_loadAt_mid W L 0 39 (trc h (.slice a n c)).toList _ (fun j v hv => by
    rw [Nat.zero_add]
    exact s.var.cell j v (ldc_tree (by simpa using hv))) Tryz.underlying39 rfl (by rw [Array.length_toList, trc_size]; exact infoT)
theorem LS.c16 {w W : World} {L n c : Nat} {h : Hd} {a : Option Addr} {l : List Pt} {vo vf : Value} {os : List Ot} {fs : List Int} (s : LS w W L h a n c l vo vf os fs) : W.cell? ⟨L, 16, none⟩ = some (.slice a n c) := s.var.cell 16 _ (ldc_get _ _ _ _).1
theorem LS.c17 {w W : World} {L n c : Nat} {h : Hd} {a : Option Addr} {l : List Pt} {vo vf : Value} {os : List Ot} {fs : List Int} (s : LS w W L h a n c l vo vf os fs) : W.cell? ⟨L, 17, none⟩ = some vo := s.var.cell 17 _ (ldc_get _ _ _ _).2.1
theorem LS.c18 {w W : World} {L n c : Nat} {h : Hd} {a : Option Addr} {l : List Pt} {vo vf : Value} {os : List Ot} {fs : List Int} (s : LS w W L h a n c l vo vf os fs) : W.cell? ⟨L, 18, none⟩ = some vf := s.var.cell 18 _ (ldc_get _ _ _ _).2.2
theorem LS.lo {w W : World} {L n c : Nat} {h : Hd} {a : Option Addr} {l : List Pt} {vo vf : Value} {os : List Ot} {fs : List Int} (s : LS w W L h a n c l vo vf os fs) : vo.ownBlock = none ∨ vo.ownBlock ≠ some L := own_type s.ou s.var (by decide)
theorem LS.lf {w W : World} {L n c : Nat} {h : Hd} {a : Option Addr} {l : List Pt} {vo vf : Value} {os : List Ot} {fs : List Int} (s : LS w W L h a n c l vo vf os fs) : vf.ownBlock = none ∨ vf.ownBlock ≠ some L := own_type s.fl s.var (by decide)
theorem LS.tree {w W : World} {L n c c' : Nat} {h h' : Hd} {a a' : Option Addr} {l l' : List Pt} {vo vf : Value} {os : List Ot} {fs : List Int} (s : LS w W L h a n c l vo vf os fs) (hs : SlAt W a' n c' l') (hn : Nw w a') :
    ∃ V, (stS 39 (.pointer (some ⟨L, 0, none⟩)) (.agg (trc h' (.slice a' n c')))).run Tryz.prog W = .ok () V ∧ LS w V L h' a' n c' l' vo vf os fs ∧ Kp W V := by
  have hs' := store_cells (ty := 39) (o := 0) (cs := trc h' (.slice a' n c')) s.var (by rw [trc_size]; exact infoT) (by rw [trc_size, ldc_size]; omega) (trc_one rfl)
  rw [ldc_st] at hs'
  exact ⟨_, hs', ⟨s.var.set, hs.keptZ s.var (by rw [ldc_size]; omega) (grown_row _ _ _), hn, s.ou.keptBut (grown_row _ _ _) s.lo, s.fl.keptBut (grown_row _ _ _) s.lf, gro s.bel (grown_row _ _ _) s.hL s.bel.size, s.hL⟩, Kp.row s.var (grown_row _ _ _) (Or.inl rfl)⟩
theorem LS.outs {w W X : World} {L n c : Nat} {h : Hd} {a : Option Addr} {l : List Pt} {vo vf vo' : Value} {os os' : List Ot} {fs : List Int} (s : LS w W L h a n c l vo vf os fs) (g : W.grownBy X vo.ownBlock) (ho : S16.Own eO X w.heap.size vo' os') :
    ∃ V, (stS 49 (.pointer (some ⟨L, 17, none⟩)) vo').run Tryz.prog X = .ok () V ∧ LS w V L h a n c l vo' vf os' fs ∧ (∀ (a' : Option Addr) (n' c' : Nat) (l' : List Pt), SlAt W a' n' c' l' → SlAt V a' n' c' l') ∧ (∀ (b : Nat) (t : TypeId) (cs : Array Value), RvAt W b t cs → t ≠ 91 → t ≠ 109 → RvAt V b t cs) := by
  have hv : RvAt X L 109 (ldc h (.slice a n c) vo vf) := s.var.keptBut g (by rcases s.lo with e | e <;> simp_all [Ne.symm])
  have ksl : ∀ (a' : Option Addr) (n' c' : Nat) (l' : List Pt), SlAt W a' n' c' l' → SlAt X a' n' c' l' := fun a' n' c' l' q => by
    by_cases h0 : 0 < n'
    · refine q.keptBut g (fun x hx e => ?_)
      obtain ⟨cs, r⟩ := q.soft x hx h0
      rcases own_type s.ou r (by decide) with q | q
      · rw [q] at e; cases e
      · exact q e.symm
    · exact ⟨⟨q.len, q.cap, q.max, q.nil, fun y _ h1 => absurd h1 h0⟩, fun y _ h1 => absurd h1 h0⟩
  have hf : S16.Own eI X w.heap.size vf fs := by
    refine s.fl.keptBut g ?_
    rcases s.ou.pat with ⟨e, _⟩ | ⟨gg, cc, rfl, _, p⟩
    · subst e
      exact (Classical.em (vf.ownBlock = none)).imp id fun q e => q e
    · obtain ⟨cur, hc, _⟩ := p
      exact own_type s.fl hc (by decide)
  have hb : Below w.heap.size w X := s.bel.trans (below_of_grown g s.bel.size (fun j e => (s.ou.blk j e).1))
  have hs := RvAt.st1 (tv := 49) (k := 17) (v := vo') hv infoLO (by rw [ldc_size]; omega) (own_one ho)
  rw [ldc_17] at hs
  have gr := grown_row X L (ldc h (.slice a n c) vo' vf)
  refine ⟨_, hs, ⟨hv.set, (ksl _ _ _ _ s.sl).keptZ hv (by rw [ldc_size]; omega) gr, s.nw, ho.keptBut gr (own_type ho hv (by decide)), hf.keptBut gr (own_type hf hv (by decide)), gro hb gr s.hL hb.size, s.hL⟩, fun a' n' c' l' q => (ksl a' n' c' l' q).keptZ hv (by rw [ldc_size]; omega) gr, fun b t cs r n1 n2 => ?_⟩
  have rX : RvAt X b t cs := r.keptBut g (by
    rcases own_type s.ou r n1 with q | q
    · rw [q]; simp
    · exact fun e => q e.symm)
  exact rX.keptBut gr (by have := ne_type rX hv n2; simpa using this)
theorem LS.flus {w W X : World} {L n c : Nat} {h : Hd} {a : Option Addr} {l : List Pt} {vo vf vf' : Value} {os : List Ot} {fs fs' : List Int} (s : LS w W L h a n c l vo vf os fs) (g : W.grownBy X vf.ownBlock) (ho : S16.Own eI X w.heap.size vf' fs') :
    ∃ V, (stS 50 (.pointer (some ⟨L, 18, none⟩)) vf').run Tryz.prog X = .ok () V ∧ LS w V L h a n c l vo vf' os fs' ∧ Kp W V := by
  have hv : RvAt X L 109 (ldc h (.slice a n c) vo vf) := s.var.keptBut g (by rcases s.lf with e | e <;> simp_all [Ne.symm])
  have hsl : SlAt X a n c l := by
    by_cases h0 : 0 < n
    · refine s.sl.keptBut g (fun x hx e => ?_)
      obtain ⟨cs, r⟩ := s.sl.soft x hx h0
      rcases own_type s.fl r (by decide) with q | q
      · rw [q] at e; cases e
      · exact q e.symm
    · exact ⟨⟨s.sl.len, s.sl.cap, s.sl.max, s.sl.nil, fun y _ h1 => absurd h1 h0⟩, fun y _ h1 => absurd h1 h0⟩
  have hf : S16.Own eO X w.heap.size vo os := by
    refine s.ou.keptBut g ?_
    rcases s.fl.pat with ⟨e, _⟩ | ⟨gg, cc, rfl, _, p⟩
    · subst e
      exact (Classical.em (vo.ownBlock = none)).imp id fun q e => q e
    · obtain ⟨cur, hc, _⟩ := p
      exact own_type s.ou hc (by decide)
  have hb : Below w.heap.size w X := s.bel.trans (below_of_grown g s.bel.size (fun j e => (s.fl.blk j e).1))
  have hs := RvAt.st1 (tv := 50) (k := 18) (v := vf') hv infoLI (by rw [ldc_size]; omega) (own_one ho)
  rw [ldc_18] at hs
  have gr := grown_row X L (ldc h (.slice a n c) vo vf')
  exact ⟨_, hs, ⟨hv.set, hsl.keptZ hv (by rw [ldc_size]; omega) gr, s.nw, hf.keptBut gr (own_type hf hv (by decide)), ho.keptBut gr (own_type ho hv (by decide)), gro hb gr s.hL hb.size, s.hL⟩, (Kp.own s.fl g (Or.inr rfl)).trans (Kp.row hv gr (Or.inl rfl))⟩
theorem LS.ports {w W V : World} {L n c b o : Nat} {h : Hd} {l l' : List Pt} {vo vf : Value} {os : List Ot} {fs : List Int} (s : LS w W L h (some ⟨b, o, none⟩) n c l vo vf os fs) (hn : 0 < n) (hs : SlAt V (some ⟨b, o, none⟩) n c l') (g : W.grownBy V (some b)) : LS w V L h (some ⟨b, o, none⟩) n c l' vo vf os fs := by
  obtain ⟨cs, r⟩ := s.sl.soft _ rfl hn
  simp only at r
  have hbL : b ≠ L := ne_type r s.var (by decide)
  exact ⟨s.var.keptBut g (by simp; omega), hs, s.nw, s.ou.keptBut g (own_type s.ou r (by decide)), s.fl.keptBut g (own_type s.fl r (by decide)), gro s.bel g (s.nw _ rfl) s.bel.size, s.hL⟩
end S17
end
section
namespace S17
open Go.RowKit
open S14 (gtP gtP_at set_self)
theorem ldEn (x : Value) : Instr.loadAt 53 x = ldS 53 x := rfl
theorem stEn (x y : Value) : Instr.storeAt 53 x y = stS 53 x y := rfl
def isO (W : World) (v : Value) (l : List Ot) : Prop := ∃ a n c, v = .slice a n c ∧ S16.SlAt eO W a n c l
def isI (W : World) (v : Value) (l : List Int) : Prop := ∃ a n c, v = .slice a n c ∧ S16.SlAt eI W a n c l
theorem isO.row {W V : World} {v : Value} {l : List Ot} {b : Nat} {t : TypeId} {cs : Array Value} (h : isO W v l) (r : RvAt W b t cs) (ht : t ≠ 91) (g : W.grownBy V (some b)) : isO V v l := by
  obtain ⟨a, n, c, e, s⟩ := h
  exact ⟨a, n, c, e, s.keptV r ht g⟩
theorem isI.row {W V : World} {v : Value} {l : List Int} {b : Nat} {t : TypeId} {cs : Array Value} (h : isI W v l) (r : RvAt W b t cs) (ht : t ≠ 3) (g : W.grownBy V (some b)) : isI V v l := by
  obtain ⟨a, n, c, e, s⟩ := h
  exact ⟨a, n, c, e, s.keptV r ht g⟩
theorem isO.one {W : World} {v : Value} {l : List Ot} (h : isO W v l) : v.oneCell' = true := by
  obtain ⟨a, n, c, rfl, s⟩ := h
  rfl
theorem isI.one {W : World} {v : Value} {l : List Int} (h : isI W v l) : v.oneCell' = true := by
  obtain ⟨a, n, c, rfl, s⟩ := h
  rfl
section
variable {w W V X : World} {h : Hd} {a a' : Option Addr} {n c c' : Nat} {l l' : List Pt} {vo vf vo' vf' : Value} {os os' : List Ot} {fs fs' : List Int}
end
attribute [local go_sem ↓] ldP stP ldT stT ldEn stEn stLO stLI apLO apLI st4 alP
attribute [local go_sem] alP_run
end S17
end
section
namespace S17
open Go.RowKit
open S14 (gtP gtP_at set_self)

attribute [local go_sem ↓] ldP stP ldT stT ldDn stDn stLO stLI apLO apLI st4
theorem one_t (w : World) (h : Hd) (x : Value) : ∃ W, w.alloc (.cells (trc h x) 39) = W ∧ RvAt W w.heap.size 39 (trc h x) ∧ Below w.heap.size w W := ⟨_, rfl, RvAt.new _ _ _, (Below.refl _ _).alloc (Nat.le_refl _) _⟩
set_option maxHeartbeats 2000000 in
theorem take_any {w W : World} {L n c c' : Nat} {h h' : Hd} {a a' : Option Addr} {l l' : List Pt} {vo vf : Value} {os : List Ot} {fs : List Int} (s : LS w W L h a n c l vo vf os fs) (hs : SlAt W a' n c' l') (hn : Nw w a') (x : Bool) :
    Calls Tryz.prog 98 #[.pointer (some ⟨L, 0, none⟩), .agg (trc h' (.slice a' n c')), .bool x] W fun r V => r = .returned (.bool x) ∧ LS w V L h' a' n c' l' vo vf os fs ∧ Kp W V := by
  obtain ⟨X, hX, r0, b0⟩ := one_t W h' (.slice a' n c')
  have l0 := r0.tld
  obtain ⟨V, sV, s', k'⟩ := (s.below b0).tree (h' := h') (hs.below b0) hn
  have S : Hid (LS w V L h' a' n c' l' vo vf os fs ∧ Kp W V) := ⟨s', (Kp.of b0).trans k'⟩
  clear s hs hn r0 b0 s' k'
  go_enter Tryz.func98, Tryz.ntmps98
  go_wp2
  go_ret
  exact ⟨rfl, S.out⟩
set_option maxHeartbeats 2000000 in
theorem sel_any {w W : World} {L n c : Nat} {h : Hd} {a : Option Addr} {l : List Pt} {vo vf : Value} {os : List Ot} {fs : List Int} (s : LS w W L h a n c l vo vf os fs) (hn : n ≤ 1000) :
    Calls Tryz.prog 74 #[.pointer (some ⟨L, 0, none⟩)] W fun r V => r = .returned (.bool (S12.stpB h l)) ∧ ∃ a' c', LS w V L (S12.stpH h l) a' n c' (S12.stpL h l) vo vf os fs ∧ Kp W V := by
  have l0 := s.tld
  have S : Hid (LS w W L h a n c l vo vf os fs) := s
  clear s
  go_enter Tryz.func74, Tryz.ntmps74
  go_wp2_with fail
  refine (S12.step_any h a n c l W S.out.sl hn).mono ?_
  rintro _ X ⟨a', c', rfl, s1, b1, f1⟩
  have N : Hid (Nw w a') := f1.elim (fun e => by rw [e]; exact S.out.nw) (fun q => q.up S.out.bel.size)
  have T : Hid (LS w X L h a n c l vo vf os fs) := S.out.below b1
  have S1 : Hid (SlAt X a' n c' (S12.stpL h l)) := s1
  have KB : Hid (Kp W X) := Kp.of b1
  clear l0 s1 b1 f1
  obtain ⟨hh, ehh⟩ : ∃ z, S12.stpH h l = z := ⟨_, rfl⟩
  obtain ⟨bb, ebb⟩ : ∃ z, S12.stpB h l = z := ⟨_, rfl⟩
  rw [ehh, ebb]
  have EH : Hid (S12.stpH h l = hh) := ehh
  have EB : Hid (S12.stpB h l = bb) := ebb
  clear ehh ebb
  go_wp2_with fail
  refine (take_any T.out S1.out N.out bb).mono ?_
  rintro _ V ⟨rfl, s2, k2⟩
  have S2 : Hid _ := s2
  have K2 : Hid (Kp W V) := KB.out.trans k2
  clear s2 k2
  go_wp2
  go_ret
  exact ⟨by rw [EB.out]; rfl, a', c', by rw [EH.out]; exact S2.out, K2.out⟩
def StepC (F k : Nat) : Prop := ∀ (w W : World) (L n c : Nat) (h : Hd) (a : Option Addr) (vo vf : Value) (s : Ps) (i : Nat), LS w W L h a n c s.l vo vf s.o s.f → n ≤ 1000 → s.o.length ≤ 90000 → s.f.length ≤ 90000 → i < n →
  Calls Tryz.prog F #[.pointer (some ⟨L, 0, none⟩), .int .i64 (i : Int)] W fun r V => ∃ (x : Bool) (a' : Option Addr) (c' : Nat) (vo' vf' : Value), r = .returned (.bool x) ∧ (stK h i s k).b = (s.b || x) ∧ LS w V L h a' n c' (stK h i s k).l vo' vf' (stK h i s k).o (stK h i s k).f ∧ Kp W V
set_option maxHeartbeats 2000000 in
theorem inf_any : StepC 91 0 := by
  intro w W L n c h a vo vf s i hS hn ho hf hi
  have l0 := hS.tld
  have S : Hid (LS w W L h a n c s.l vo vf s.o s.f) := hS
  clear hS ho hf
  go_enter Tryz.func91, Tryz.ntmps91
  go_wp2_with fail
  refine (S11.pstep_any h a n c s.l (i : Int) W S.out.sl hn).mono ?_
  rintro _ X ⟨a', c', rfl, s1, b1, f1⟩
  have N : Hid (Nw w a') := f1.elim (fun e => by rw [e]; exact S.out.nw) (fun q => q.up S.out.bel.size)
  have T : Hid (LS w X L h a n c s.l vo vf s.o s.f) := S.out.below b1
  have S1 : Hid (SlAt X a' n c' (S11.stepL s.l (i : Int))) := s1
  have E : Hid ((stK h i s 0).b = (s.b || S11.stepB s.l (i : Int))) := rfl
  have KB : Hid (Kp W X) := Kp.of b1
  clear l0 s1 b1 f1
  obtain ⟨bb, ebb⟩ : ∃ z, S11.stepB s.l (i : Int) = z := ⟨_, rfl⟩
  rw [ebb] at E ⊢
  clear ebb
  go_wp2_with fail
  refine (take_any T.out S1.out N.out bb).mono ?_
  rintro _ V ⟨rfl, s2, k2⟩
  have S2 : Hid _ := s2
  have K2 : Hid (Kp W V) := KB.out.trans k2
  clear s2 k2
  go_wp2
  go_ret
  exact ⟨bb, a', c', vo, vf, rfl, E.out, S2.out, K2.out⟩
set_option maxHeartbeats 2000000 in
theorem tra_any : StepC 92 1 := by
  intro w W L n c h a vo vf s i hS hn ho hf hi
  have l0 := hS.tld
  have S : Hid (LS w W L h a n c s.l vo vf s.o s.f) := hS
  clear hS ho hf
  go_enter Tryz.func92, Tryz.ntmps92
  go_wp2_with fail
  refine (S13.pstep_any h a n c s.l (i : Int) W S.out.sl hn).mono ?_
  rintro _ X ⟨a', c', rfl, s1, b1, f1⟩
  have N : Hid (Nw w a') := f1.elim (fun e => by rw [e]; exact S.out.nw) (fun q => q.up S.out.bel.size)
  have T : Hid (LS w X L h a n c s.l vo vf s.o s.f) := S.out.below b1
  have S1 : Hid (SlAt X a' n c' (S13.stepL s.l (i : Int))) := s1
  have E : Hid ((stK h i s 1).b = (s.b || S13.stepB s.l (i : Int))) := rfl
  have KB : Hid (Kp W X) := Kp.of b1
  clear l0 s1 b1 f1
  obtain ⟨bb, ebb⟩ : ∃ z, S13.stepB s.l (i : Int) = z := ⟨_, rfl⟩
  rw [ebb] at E ⊢
  clear ebb
  go_wp2_with fail
  refine (take_any T.out S1.out N.out bb).mono ?_
  rintro _ V ⟨rfl, s2, k2⟩
  have S2 : Hid _ := s2
  have K2 : Hid (Kp W V) := KB.out.trans k2
  clear s2 k2
  go_wp2
  go_ret
  exact ⟨bb, a', c', vo, vf, rfl, E.out, S2.out, K2.out⟩
set_option maxHeartbeats 2000000 in
theorem top_any : StepC 94 3 := by
  intro w W L n c h a vo vf s i hS hn ho hf hi
  have l0 := hS.tld
  have S : Hid (LS w W L h a n c s.l vo vf s.o s.f) := hS
  clear hS ho hf
  go_enter Tryz.func94, Tryz.ntmps94
  go_wp2_with fail
  refine (S14.tcm_in h a n c s.l i W S.out.sl hn hi).mono ?_
  rintro _ X ⟨a', c', rfl, s1, b1, f1⟩
  have N : Hid (Nw w a') := f1.elim (fun e => by rw [e]; exact S.out.nw) (fun q => q.up S.out.bel.size)
  have T : Hid (LS w X L h a n c s.l vo vf s.o s.f) := S.out.below b1
  have S1 : Hid (SlAt X a' n c' ((S14.tcmO h s.l i).getD s.l)) := s1
  have E : Hid ((stK h i s 3).b = (s.b || (S14.tcmO h s.l i).isSome)) := rfl
  have KB : Hid (Kp W X) := Kp.of b1
  clear l0 s1 b1 f1
  obtain ⟨bb, ebb⟩ : ∃ z, (S14.tcmO h s.l i).isSome = z := ⟨_, rfl⟩
  rw [ebb] at E ⊢
  clear ebb
  go_wp2_with fail
  refine (take_any T.out S1.out N.out bb).mono ?_
  rintro _ V ⟨rfl, s2, k2⟩
  have S2 : Hid _ := s2
  have K2 : Hid (Kp W V) := KB.out.trans k2
  clear s2 k2
  go_wp2
  go_ret
  exact ⟨bb, a', c', vo, vf, rfl, E.out, S2.out, K2.out⟩
set_option maxHeartbeats 2000000 in
theorem ver_any : StepC 96 5 := by
  intro w W L n c h a vo vf s i hS hn ho hf hi
  have l0 := hS.tld
  have S : Hid (LS w W L h a n c s.l vo vf s.o s.f) := hS
  clear hS ho hf
  go_enter Tryz.func96, Tryz.ntmps96
  go_wp2_with fail
  refine (S15.ppm_new h a n c s.l i W S.out.sl hn hi).mono ?_
  rintro _ X ⟨a', c', rfl, f1, s1, b1⟩
  have N : Hid (Nw w a') := f1.elim (fun e => by rw [e]; exact S.out.nw) (fun q => Nw.up (W := W) q S.out.bel.size)
  have T : Hid (LS w X L h a n c s.l vo vf s.o s.f) := S.out.below b1
  have S1 : Hid (SlAt X a' n c' ((S15.ppmO s.l i).getD s.l)) := s1
  have E : Hid ((stK h i s 5).b = (s.b || (S15.ppmO s.l i).isSome)) := rfl
  have KB : Hid (Kp W X) := Kp.of b1
  clear l0 s1 b1 f1
  obtain ⟨bb, ebb⟩ : ∃ z, (S15.ppmO s.l i).isSome = z := ⟨_, rfl⟩
  rw [ebb] at E ⊢
  clear ebb
  go_wp2_with fail
  refine (take_any T.out S1.out N.out bb).mono ?_
  rintro _ V ⟨rfl, s2, k2⟩
  have S2 : Hid _ := s2
  have K2 : Hid (Kp W V) := KB.out.trans k2
  clear s2 k2
  go_wp2
  go_ret
  exact ⟨bb, a', c', vo, vf, rfl, E.out, S2.out, K2.out⟩
end S17
end
end Go.Proofs.YtlchejbggnbccaaGreat
