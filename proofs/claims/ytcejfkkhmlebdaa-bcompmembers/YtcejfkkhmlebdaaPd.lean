/-
  What may be provisioned: plain functions, by the definition.
-/
import Derived.Test.YtcejfkkhmlebdaaPln
import Derived.Test.YtcejfkkhmlebdaaKind
namespace Go.Proofs.Ytcejfkkhmlebdaa
set_option linter.unusedVariables false
set_option maxRecDepth 4000
set_option linter.unusedSimpArgs false

def isV (n : Int) : Bool := decide (1 ≤ n) && decide (n ≤ 4094)
def isS (n : Int) : Bool := decide (1 ≤ n) && decide (n ≤ 16777215)
def hasP (p : Pv) (i : Int) : Bool := decide (0 ≤ i) && decide (i < (p.ks.length : Int))
def kAt (p : Pv) (i : Int) : Int := (p.ks[i.toNat]?).getD 0
def isK (p : Pv) (i k : Int) : Bool := hasP p i && kAt p i == k
/-- Does each stand ahead of the next one? -/
def ris {α : Type} (lt : α → α → Bool) : List α → Bool
  | [] => true
  | x :: l => match l with
    | [] => true
    | y :: _ => lt x y && ris lt l
theorem ris_two {α : Type} {lt : α → α → Bool} {x y : α} {l : List α} : ris lt (x :: y :: l) = (lt x y && ris lt (y :: l)) := rfl
theorem ris_yes {α : Type} {lt : α → α → Bool} {l : List α} {i : Nat} {x y : α} (h : l[i]? = some x) (k : l[i + 1]? = some y) (hc : lt x y = true) : ris lt (l.drop i) = ris lt (l.drop (i + 1)) := by
  rw [drop_at h, drop_at k, ris_two, hc, Bool.true_and]
theorem ris_no {α : Type} {lt : α → α → Bool} {l : List α} {i : Nat} {x y : α} (h : l[i]? = some x) (k : l[i + 1]? = some y) (hc : lt x y = false) : ris lt (l.drop i) = false := by
  rw [drop_at h, drop_at k, ris_two, hc, Bool.false_and]
theorem ris_end {α : Type} {lt : α → α → Bool} {l : List α} {i : Nat} (h : l.length ≤ i + 1) : ris lt (l.drop i) = true := by
  cases hd : l.drop i with
  | nil => rfl
  | cons x r =>
    have : (l.drop i).length ≤ 1 := by rw [List.length_drop]; omega
    rw [hd] at this
    have hr : r = [] := by cases r with
      | nil => rfl
      | cons a b => simp at this
    subst hr
    rfl
theorem ris_map {α β : Type} {lt : β → β → Bool} {f : α → β} : ∀ l : List α, ris lt (l.map f) = ris (fun x y => lt (f x) (f y)) l
  | [] => rfl
  | [x] => rfl
  | x :: y :: l => by
    have := ris_map (lt := lt) (f := f) (y :: l)
    simp only [List.map_cons] at this ⊢
    rw [ris_two, ris_two, this]
/-- All of a row, gone through from place i on. -/
theorem all_yes {α : Type} {c : α → Bool} {l : List α} {i : Nat} {x : α} (h : l[i]? = some x) (hc : c x = true) : (l.drop i).all c = (l.drop (i + 1)).all c := by
  rw [drop_at h, List.all_cons, hc, Bool.true_and]
theorem all_no {α : Type} {c : α → Bool} {l : List α} {i : Nat} {x : α} (h : l[i]? = some x) (hc : c x = false) : (l.drop i).all c = false := by
  rw [drop_at h, List.all_cons, hc, Bool.false_and]
theorem all_end {α : Type} {c : α → Bool} {l : List α} {i : Nat} (h : l.length ≤ i) : (l.drop i).all c = true := by
  rw [drop_end h]
  rfl
def ltI (a b : Int) : Bool := decide (a < b)
def ltB (a b : Mb) : Bool := decide (a.v < b.v)
def ltC (a b : Cr) : Bool := decide (a.s < b.s)
def ltM (a b : Mp) : Bool := decide (a.p < b.p) || (a.p == b.p && decide (a.v < b.v))
def gK (ks : List Int) : Bool := decide (1 ≤ ks.length) && (decide (ks.length ≤ 8) && ks.all (fun k => k == 1 || k == 2))
def room (p : Pv) : Bool := decide (p.ms.length ≤ 64) && (decide (p.cs.length ≤ 64) && decide (p.bs.length ≤ 64))
def okB (p : Pv) (m : Mb) : Bool := isV m.v && (ris ltI m.ps && m.ps.all (fun i => isK p i 2))
def gB (p : Pv) : Bool := p.bs.all (okB p) && ris ltB p.bs
def okC (p : Pv) (c : Cr) : Bool := isS c.s && (pts p c.v).isSome
def gC (p : Pv) : Bool := p.cs.all (okC p) && ris ltC p.cs
def okM0 (p : Pv) (m : Mp) : Bool := isV m.v && (isK p m.p 1 && (car p m.s).2)
def okM (p : Pv) (m : Mp) : Bool := okM0 p m && (vof p m.p m.s).1 == m.v
def gM (p : Pv) : Bool := p.ms.all (okM p) && ris ltM p.ms
def cls (o : O6) : Int := kindOf o.a o.b o.c o.d o.e o.f
def chk (p : Pv) : Bool := (cls p.o == 1) && (gK p.ks && (room p && (gB p && (gC p && gM p))))
def smS (k m : Mp) : Bool := k.p == m.p && k.s == m.s
def bef (k : Option Mp) (m : Mp) : Bool := match k with
  | none => true
  | some k => ltM k m
/-- The definition's own test of the maps, those that were ahead and those that are to come. -/
def mpR (p : Pv) (pre : List Mp) : List Mp → Bool
  | [] => true
  | m :: l => okM0 p m && (pre.all (fun k => !smS k m) && (bef pre.getLast? m && mpR p (pre ++ [m]) l))
def rB (p : Pv) : Bool := p.bs.all (okB p) && (ris ltI (p.bs.map (fun m => m.v)) && decide (p.bs.length ≤ 64))
def rC (p : Pv) : Bool := p.cs.all (okC p) && (ris ltI (p.cs.map (fun m => m.s)) && decide (p.cs.length ≤ 64))
def rM (p : Pv) : Bool := mpR p [] p.ms && decide (p.ms.length ≤ 64)
def chkR (p : Pv) : Bool := (cls p.o == 1) && (gK p.ks && (decide (p.bs.length ≤ 64) && (decide (p.cs.length ≤ 64) && (decide (p.ms.length ≤ 64) && (rB p && (rC p && rM p))))))
/-- Rising is standing ahead of all that come behind. -/
theorem ris_cons {α : Type} {lt : α → α → Bool} (ht : ∀ x y z, lt x y = true → lt y z = true → lt x z = true) : ∀ (x : α) (l : List α), ris lt (x :: l) = true ↔ (∀ y ∈ l, lt x y = true) ∧ ris lt l = true
  | x, [] => by simp [ris]
  | x, y :: l => by
    rw [ris_two, Bool.and_eq_true]
    constructor
    · rintro ⟨h1, h2⟩
      refine ⟨fun z hz => ?_, h2⟩
      rcases List.mem_cons.1 hz with rfl | hz
      · exact h1
      · exact ht _ _ _ h1 (((ris_cons ht y l).1 h2).1 z hz)
    · rintro ⟨h1, h2⟩
      exact ⟨h1 y (List.mem_cons_self ..), h2⟩
theorem ris_pw {α : Type} {lt : α → α → Bool} (ht : ∀ x y z, lt x y = true → lt y z = true → lt x z = true) : ∀ (l : List α), ris lt l = true ↔ l.Pairwise (fun x y => lt x y = true)
  | [] => by simp [ris]
  | x :: l => by rw [ris_cons ht, List.pairwise_cons, ris_pw ht l]
theorem ltI_tr (x y z : Int) (h : ltI x y = true) (k : ltI y z = true) : ltI x z = true := by simp [ltI] at *; omega
end Go.Proofs.Ytcejfkkhmlebdaa
