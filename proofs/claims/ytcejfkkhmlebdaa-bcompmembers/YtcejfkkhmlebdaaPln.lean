/-
  What is asked of what is provisioned: plain functions of its rows.
-/
import Derived.Test.YtcejfkkhmlebdaaKnd
namespace Go.Proofs.Ytcejfkkhmlebdaa
set_option linter.unusedVariables false
set_option maxRecDepth 4000
set_option linter.unusedSimpArgs false

/-- What stands first of a row, by a test. -/
def fnd {α : Type} (c : α → Bool) (g : α → Int) : List α → Int × Bool
  | [] => (0, false)
  | x :: l => if c x then (g x, true) else fnd c g l
theorem fnd_yes {α : Type} {c : α → Bool} {g : α → Int} {l : List α} {i : Nat} {x : α} (h : l[i]? = some x) (hc : c x = true) : fnd c g (l.drop i) = (g x, true) := by
  rw [drop_at h, fnd, if_pos hc]
theorem fnd_no {α : Type} {c : α → Bool} {g : α → Int} {l : List α} {i : Nat} {x : α} (h : l[i]? = some x) (hc : c x = false) : fnd c g (l.drop i) = fnd c g (l.drop (i + 1)) := by
  rw [drop_at h, fnd, if_neg (by rw [hc]; decide)]
theorem fnd_end {α : Type} {c : α → Bool} {g : α → Int} {l : List α} {i : Nat} (h : l.length ≤ i) : fnd c g (l.drop i) = (0, false) := by
  rw [drop_end h]
  rfl
def svc (p : Pv) (port vid : Int) : Int × Bool := fnd (fun m => m.p == port && m.v == vid) (fun m => m.s) p.ms
def vof (p : Pv) (port isid : Int) : Int × Bool := fnd (fun m => m.p == port && m.s == isid) (fun m => m.v) p.ms
def car (p : Pv) (isid : Int) : Int × Bool := fnd (fun c => c.s == isid) (fun c => c.v) p.cs
/-- The ports of the first member of a VLAN. -/
def ptl (vid : Int) : List Mb → Option (List Int)
  | [] => none
  | x :: l => if x.v == vid then some x.ps else ptl vid l
theorem ptl_yes {vid : Int} {l : List Mb} {i : Nat} {x : Mb} (h : l[i]? = some x) (hc : x.v = vid) : ptl vid (l.drop i) = some x.ps := by
  rw [drop_at h, ptl, if_pos (by simp [hc])]
theorem ptl_no {vid : Int} {l : List Mb} {i : Nat} {x : Mb} (h : l[i]? = some x) (hc : ¬ x.v = vid) : ptl vid (l.drop i) = ptl vid (l.drop (i + 1)) := by
  rw [drop_at h, ptl, if_neg (by simp [hc])]
theorem ptl_end {vid : Int} {l : List Mb} {i : Nat} (h : l.length ≤ i) : ptl vid (l.drop i) = none := by
  rw [drop_end h]
  rfl
def pts (p : Pv) (vid : Int) : Option (List Int) := ptl vid p.bs
def att (p : Pv) (isid : Int) : List Int := (p.ms.filter (fun m => m.s == isid)).map (fun m => m.p)
def svs (p : Pv) (vid : Int) : List Int := (p.cs.filter (fun c => c.v == vid)).map (fun c => c.s)
/-- Some of a row, gone through from place i on. -/
theorem fil_yes {α : Type} {c : α → Bool} {g : α → Int} {l : List α} {i : Nat} {x : α} (h : l[i]? = some x) (hc : c x = true) : ((l.drop i).filter c).map g = g x :: ((l.drop (i + 1)).filter c).map g := by
  rw [drop_at h, List.filter_cons, if_pos hc, List.map_cons]
theorem fil_no {α : Type} {c : α → Bool} {g : α → Int} {l : List α} {i : Nat} {x : α} (h : l[i]? = some x) (hc : c x = false) : ((l.drop i).filter c).map g = ((l.drop (i + 1)).filter c).map g := by
  rw [drop_at h, List.filter_cons, if_neg (by rw [hc]; decide)]
theorem fil_end {α : Type} {c : α → Bool} {g : α → Int} {l : List α} {i : Nat} (h : l.length ≤ i) : ((l.drop i).filter c).map g = [] := by
  rw [drop_end h]
  rfl
end Go.Proofs.Ytcejfkkhmlebdaa
