/-
  Where frames go: members that forward alone, in order; to many as one that is unknown; other VLANs and services turn nothing. Plain laws.
-/
import Derived.Test.YtcejfkkhmlebdaaAwa
namespace Go.Proofs.Ytcejfkkhmlebdaa
set_option linter.unusedVariables false
set_option maxRecDepth 4000
set_option linter.unusedSimpArgs false

theorem goL_sub (g : List Gt) (src dst : Int) (ev : Bool) : ∀ (l acc : List Int), ∃ m, goL g src dst ev acc l = acc ++ m ∧ m.Sublist l ∧ ∀ y ∈ m, y ≠ src ∧ (gAt g y).f = true
  | [], acc => ⟨[], by rw [goL, List.append_nil], List.Sublist.refl _, fun y hy => by cases hy⟩
  | x :: l, acc => by
    rw [goL]
    by_cases hc : (mayB g src acc x && (ev || x == dst)) = true
    · rw [if_pos hc]
      obtain ⟨m, h1, h2, h3⟩ := goL_sub g src dst ev l (acc ++ [x])
      refine ⟨x :: m, by rw [h1, List.append_assoc]; rfl, h2.cons_cons x, fun y hy => ?_⟩
      rcases List.mem_cons.1 hy with rfl | hy
      · simp only [Bool.and_eq_true, mayB] at hc
        exact ⟨by simpa using hc.1.1.1, hc.1.1.2⟩
      · exact h3 y hy
    · rw [if_neg hc]
      obtain ⟨m, h1, h2, h3⟩ := goL_sub g src dst ev l acc
      exact ⟨m, h1, h2.cons x, h3⟩
theorem out_sub (p : Pv) (g : List Gt) (src : Int) (f : Bf) (dst : Int) (has : Bool) : (outL p g src f dst has).Sublist (mems p f.v) ∧ ∀ y ∈ outL p g src f dst has, y ≠ src ∧ (gAt g y).f = true := by
  unfold outL
  split
  · exact ⟨List.nil_sublist _, fun y hy => by cases hy⟩
  · obtain ⟨m, h1, h2, h3⟩ := goL_sub g src dst (isMany f.d.a || !has) (mems p f.v) []
    rw [h1, List.nil_append]
    exact ⟨h2, h3⟩
theorem mems_ris {p : Pv} (h : chkR p = true) (v : Int) : (mems p v).Pairwise (· < ·) := by
  unfold mems pts
  cases hp : ptl v p.bs with
  | none => exact List.Pairwise.nil
  | some ps =>
    obtain ⟨m, hm, _, rfl⟩ := ptl_mem hp
    have h1 : rB p = true := by
      unfold chkR at h
      simp only [Bool.and_eq_true] at h
      exact h.2.2.2.2.2.1
    unfold rB at h1
    simp only [Bool.and_eq_true] at h1
    have h2 := List.all_eq_true.1 h1.1 m hm
    unfold okB at h2
    simp only [Bool.and_eq_true] at h2
    have h3 := (ris_pw ltI_tr _).1 h2.2.1
    exact h3.imp fun h => by simpa [ltI] using h
theorem out_ris {p : Pv} (h : chkR p = true) (g : List Gt) (src : Int) (f : Bf) (dst : Int) (has : Bool) : (outL p g src f dst has).Pairwise (· < ·) := (mems_ris h f.v).sublist (out_sub p g src f dst has).1
theorem pw_at {l : List Int} (h : l.Pairwise (· < ·)) {i k : Nat} {x y : Int} (hk : k < i) (hx : l[k]? = some x) (hy : l[i]? = some y) : x < y := by
  obtain ⟨h1, e1⟩ := List.getElem?_eq_some_iff.1 hx
  obtain ⟨h2, e2⟩ := List.getElem?_eq_some_iff.1 hy
  have := List.pairwise_iff_getElem.1 h k i h1 h2 hk
  rw [e1, e2] at this
  exact this
/-! ### to many, and to one that is unknown -/
def oM : O6 := ⟨1, 2, 3, 4, 5, 6⟩
def oU : O6 := ⟨2, 2, 3, 4, 5, 6⟩
def oV : O6 := ⟨2, 2, 3, 4, 5, 7⟩
/-- One that is not the bridge's own. -/
def loO (o : O6) : O6 := if eqO oU o then oV else oU
theorem lo_ne (o : O6) : eqO (loO o) o = false := by
  unfold loO
  split
  · rename_i h
    rw [eqO_iff] at h
    subst h
    rfl
  · rename_i h
    simpa using h
theorem lo_many (o : O6) : isMany (loO o).a = false := by
  unfold loO
  split <;> rfl
theorem flood_is (p : Pv) (g : List Gt) (src : Int) (f : Bf) (dst : Int) (has : Bool) (h : eqO p.o oM = false) : outL p g src { f with d := oM } dst has = outL p g src { f with d := loO p.o } dst false := by
  have h1 : eqO oM p.o = false := by
    cases hq : eqO oM p.o with
    | false => rfl
    | true => rw [eqO_iff] at hq; rw [← hq] at h; cases h
  unfold outL
  show (if eqO oM p.o = true then [] else goL g src dst (isMany 1 || !has) [] (mems p f.v)) = if eqO (loO p.o) p.o = true then [] else goL g src dst (isMany (loO p.o).a || !false) [] (mems p f.v)
  rw [h1, lo_ne, lo_many]
  rfl
theorem lost_own (p : Pv) (src : Int) (f : Bf) : outB p src { f with d := loO p.o } = false := by
  unfold outB
  show (decide (0 ≤ src) && (eqO (loO p.o) p.o || isMany (loO p.o).a)) = false
  rw [lo_ne, lo_many]
  simp
/-! ### other VLANs, other services -/
def moP (p : Pv) (m : Mb) (c : Cr) : Pv := { p with bs := m :: p.bs, cs := c :: p.cs }
theorem mo_mems {p : Pv} {m : Mb} {c : Cr} {v : Int} (h : m.v ≠ v) : mems (moP p m c) v = mems p v := by
  unfold mems pts moP
  show (ptl v (m :: p.bs)).getD [] = _
  rw [ptl, if_neg (by simpa using h)]
theorem mo_out {p : Pv} {m : Mb} {c : Cr} {g : List Gt} {src : Int} {f : Bf} {dst : Int} {has : Bool} (h : m.v ≠ f.v) : outL (moP p m c) g src f dst has = outL p g src f dst has := by
  unfold outL
  rw [mo_mems h]
  rfl
theorem mo_own {p : Pv} {m : Mb} {c : Cr} {src : Int} {f : Bf} : outB (moP p m c) src f = outB p src f := rfl
theorem mo_in {p : Pv} {m : Mb} {c : Cr} {g : List Gt} {port : Int} {f : Bf} (h : m.v ≠ f.v) : inC (moP p m c) g port f = inC p g port f := by
  unfold inC isM
  rw [mo_mems h]
  rfl
theorem mo_ac {p : Pv} {m : Mb} {c : Cr} {f : Bf} (h : c.s ≠ f.i) : acC (moP p m c) f = acC p f := by
  have : car (moP p m c) f.i = car p f.i := by
    unfold car moP
    show fnd _ _ (c :: p.cs) = _
    rw [fnd, if_neg (by simpa using h)]
  unfold acC
  rw [this]
end Go.Proofs.Ytcejfkkhmlebdaa
