/-
  The walks of an address's class, of its number and back, each for every input. What may be provisioned, what commands make of it: plain functions, of the code and of the definition, and that they are the same. Small functions of the code: numbers that may be, how two are held against each other, places of ports. Each for every input.
-/
import Derived.Test.YtgjagedngdhdaaaJ00Later
import Derived.Laws.BitsAllLaws
import Derived.Test.YtgjagedngdhdaaaJ02Knd
namespace Go.Proofs.Ytgjagedngdhdaaa

section
set_option linter.unusedVariables false
set_option maxRecDepth 4000
set_option linter.unusedSimpArgs false
open Go.RowKit

/-- Are two addresses one? -/
def eq6 (a b c d e f a' b' c' d' e' f' : Int) : Bool := decide (a = a' ∧ b = b' ∧ c = c' ∧ d = d' ∧ e = e' ∧ f = f')
theorem eq6_iff {a b c d e f a' b' c' d' e' f' : Int} : eq6 a b c d e f a' b' c' d' e' f' = true ↔ (a = a' ∧ b = b' ∧ c = c' ∧ d = d' ∧ e = e' ∧ f = f') := by simp [eq6]
theorem eq6_self (a b c d e f : Int) : eq6 a b c d e f a b c d e f = true := by simp [eq6]
theorem eqMac9 (n : Nat) (a b c d e f a' b' c' d' e' f' : Int) (w : World) :
    (Op.equalIn (n + 1 + 1) 23 (.agg #[.int .u8 a, .int .u8 b, .int .u8 c, .int .u8 d, .int .u8 e, .int .u8 f]) (.agg #[.int .u8 a', .int .u8 b', .int .u8 c', .int .u8 d', .int .u8 e', .int .u8 f'])).run Try.prog w = .ok (eq6 a b c d e f a' b' c' d' e' f') w := by
  have u5 := Try.underlying5
  have a5 := Try.isAgg5
  have z5 := Try.sizeOf5
  rw [Op.equalIn]
  simp only [Sem.run_bind, run_underlying Try.underlying23, Result.andThen_ok]
  simp only [Std.Legacy.Range.forIn_eq_forIn_range', Std.Legacy.Range.size, Nat.sub_zero, Nat.add_sub_cancel, Nat.div_one, List.range'_succ, List.range'_zero, List.forIn_cons, List.forIn_nil]
  go_simp
  unfold eq6
  by_cases h1 : a = a' <;> simp [h1]
  by_cases h2 : b = b' <;> simp [h2]
  by_cases h3 : c = c' <;> simp [h3]
  by_cases h4 : d = d' <;> simp [h4]
  by_cases h5 : e = e' <;> simp [h5]
  by_cases h6 : f = f' <;> simp [h6]
@[go_sem] theorem eqMac (a b c d e f a' b' c' d' e' f' : Int) (w : World) :
    (Op.equalIn 10000 23 (.agg #[.int .u8 a, .int .u8 b, .int .u8 c, .int .u8 d, .int .u8 e, .int .u8 f]) (.agg #[.int .u8 a', .int .u8 b', .int .u8 c', .int .u8 d', .int .u8 e', .int .u8 f'])).run Try.prog w = .ok (eq6 a b c d e f a' b' c' d' e' f') w := eqMac9 9998 a b c d e f a' b' c' d' e' f' w
def isSvc (a b c : Int) : Bool := decide (a = 1 ∧ b = 30 ∧ c = 131)
def isRes (a b c d e f : Int) : Bool := decide (a = 1 ∧ b = 128 ∧ c = 194 ∧ d = 0 ∧ e = 0 ∧ f < 16)
def isMany (a : Int) : Bool := a % 2 == 1
set_option maxHeartbeats 400000 in
theorem many_any (a b c d e f : Int) (w : World) (ha : 0 ≤ a ∧ a ≤ 255) :
    Calls Try.prog 95 #[.agg #[.int .u8 a, .int .u8 b, .int .u8 c, .int .u8 d, .int .u8 e, .int .u8 f]] w fun r w' => r = .returned (.bool (isMany a)) ∧ Below w.heap.size w w' := by
  go_enter Try.func95, Try.ntmps95
  go_wp2
  go_ret
  exact ⟨rfl, by go_grown⟩
set_option maxHeartbeats 400000 in
theorem service_any (a b c d e f : Int) (w : World) :
    Calls Try.prog 94 #[.agg #[.int .u8 a, .int .u8 b, .int .u8 c, .int .u8 d, .int .u8 e, .int .u8 f]] w fun r w' => r = .returned (.bool (isSvc a b c)) ∧ Below w.heap.size w w' := by
  go_enter Try.func94, Try.ntmps94
  go_wp2
  go_ret
  refine ⟨ret_bool ?_, by go_grown⟩
  simp [eq6, isSvc]
set_option maxHeartbeats 400000 in
theorem reserved_any (a b c d e f : Int) (w : World) :
    Calls Try.prog 93 #[.agg #[.int .u8 a, .int .u8 b, .int .u8 c, .int .u8 d, .int .u8 e, .int .u8 f]] w fun r w' => r = .returned (.bool (isRes a b c d e f)) ∧ Below w.heap.size w w' := by
  by_cases h : f < 16
  · go_enter Try.func93, Try.ntmps93
    go_wp2
    go_ret
    refine ⟨ret_bool ?_, by go_grown⟩
    simp [eq6, isRes, h]
  · go_enter Try.func93, Try.ntmps93
    go_wp2
    go_ret
    refine ⟨ret_bool ?_, by go_grown⟩
    simp [isRes, h]
set_option maxHeartbeats 800000 in
theorem same_any (a b c d e f x : Int) (w : World) :
    Calls Try.prog 71 #[.agg #[.int .u8 a, .int .u8 b, .int .u8 c, .int .u8 d, .int .u8 e, .int .u8 f], .int .u8 x] w fun r w' => r = .returned (.bool (eq6 a b c d e f x x x x x x)) ∧ Below w.heap.size w w' := by
  go_enter Try.func71, Try.ntmps71
  go_wp2
  go_rounds 7
  all_goals
    go_ret
    refine ⟨ret_bool ?_, by go_grown⟩
    simp_all [eq6]
/-- An address's class. -/
def kindOf (a b c d e f : Int) : Int :=
  if eq6 a b c d e f 0 0 0 0 0 0 then 6 else if eq6 a b c d e f 255 255 255 255 255 255 then 3 else if isRes a b c d e f then 4 else if isSvc a b c then 5 else if isMany a then 2 else 1
set_option maxHeartbeats 800000 in
theorem kind_any (a b c d e f : Int) (w : World) (ha : 0 ≤ a ∧ a ≤ 255) :
    Calls Try.prog 70 #[.agg #[.int .u8 a, .int .u8 b, .int .u8 c, .int .u8 d, .int .u8 e, .int .u8 f]] w fun r w' => r = .returned (.int .i64 (kindOf a b c d e f)) ∧ Below w.heap.size w w' := by
  have hx := @Later.cell
  go_enter Try.func70, Try.ntmps70
  go_wp2_with (first
    | (go_at_call 93; refine Calls.on_later (reserved_any _ _ _ _ _ _ _) ?_; intro x)
    | (go_at_call 94; refine Calls.on_later2 (service_any _ _ _ _ _ _ _) ?_; intro x)
    | (go_at_call 95; refine Calls.on_later2 (many_any _ _ _ _ _ _ _ ha) ?_; intro x))
  all_goals
    go_ret
    refine ⟨ret_int ?_, by first | (with_reducible refine below_later ?_ _; go_grown) | go_grown⟩
    simp_all [kindOf]
set_option maxHeartbeats 800000 in
theorem kind_ref (a b c d e f : Int) (w : World) (ha : 0 ≤ a ∧ a ≤ 255) :
    Calls Try.prog 45 #[.agg #[.int .u8 a, .int .u8 b, .int .u8 c, .int .u8 d, .int .u8 e, .int .u8 f]] w fun r w' => r = .returned (.int .i64 (kindOf a b c d e f)) ∧ Below w.heap.size w w' := by
  have hx := @Later.cell
  go_enter Try.func45, Try.ntmps45
  go_wp2_with (first
    | (go_at_call 71; refine Calls.on_later2 (same_any _ _ _ _ _ _ _ _) ?_; intro x)
    | (go_at_call 71; refine Calls.on_later (same_any _ _ _ _ _ _ _ _) ?_; intro x))
  all_goals
    go_ret
    refine ⟨ret_int ?_, by first | (with_reducible refine below_later ?_ _; go_grown) | go_grown⟩
    first | (simp_all [kindOf, isRes, isSvc, isMany]; done) | (simp_all [kindOf, isRes, isSvc, isMany]; omega)
/-- Six bytes as a number, the highest first. -/
def num (a b c d e f : Int) : Int := ((((a * 256 + b) * 256 + c) * 256 + d) * 256 + e) * 256 + f
end

section
set_option linter.unusedVariables false
set_option maxRecDepth 4000
set_option linter.unusedSimpArgs false

/-! ### what may be -/
def isV (n : Int) : Bool := decide (1 ≤ n) && decide (n ≤ 4094)
def isS (n : Int) : Bool := decide (1 ≤ n) && decide (n ≤ 16777215)
def hasP (p : Pv) (i : Int) : Bool := decide (0 ≤ i) && decide (i < (p.ks.length : Int))
def kAt (p : Pv) (i : Int) : Int := (p.ks[i.toNat]?).getD 0
def isK (p : Pv) (i k : Int) : Bool := hasP p i && kAt p i == k
/-- Does each stand ahead of the next one? -/
def ris {α : Type} (lt : α → α → Bool) : List α → Bool
  | [] => true
  | x :: l => match l with
    | [] => true
    | y :: _ => lt x y && ris lt l
theorem ris_two {α : Type} {lt : α → α → Bool} {x y : α} {l : List α} : ris lt (x :: y :: l) = (lt x y && ris lt (y :: l)) := rfl
theorem ris_yes {α : Type} {lt : α → α → Bool} {l : List α} {i : Nat} {x y : α} (h : l[i]? = some x) (k : l[i + 1]? = some y) (hc : lt x y = true) : ris lt (l.drop i) = ris lt (l.drop (i + 1)) := by
  rw [drop_at h, drop_at k, ris_two, hc, Bool.true_and]
theorem ris_no {α : Type} {lt : α → α → Bool} {l : List α} {i : Nat} {x y : α} (h : l[i]? = some x) (k : l[i + 1]? = some y) (hc : lt x y = false) : ris lt (l.drop i) = false := by
  rw [drop_at h, drop_at k, ris_two, hc, Bool.false_and]
theorem ris_end {α : Type} {lt : α → α → Bool} {l : List α} {i : Nat} (h : l.length ≤ i + 1) : ris lt (l.drop i) = true := by
  cases hd : l.drop i with
  | nil => rfl
  | cons x r =>
    have : (l.drop i).length ≤ 1 := by rw [List.length_drop]; omega
    rw [hd] at this
    have hr : r = [] := by cases r with
      | nil => rfl
      | cons a b => simp at this
    subst hr
    rfl
theorem ris_map {α β : Type} {lt : β → β → Bool} {f : α → β} : ∀ l : List α, ris lt (l.map f) = ris (fun x y => lt (f x) (f y)) l
  | [] => rfl
  | [x] => rfl
  | x :: y :: l => by
    have := ris_map (lt := lt) (f := f) (y :: l)
    simp only [List.map_cons] at this ⊢
    rw [ris_two, ris_two, this]
/-- All of a row, gone through from place i on. -/
theorem all_yes {α : Type} {c : α → Bool} {l : List α} {i : Nat} {x : α} (h : l[i]? = some x) (hc : c x = true) : (l.drop i).all c = (l.drop (i + 1)).all c := by
  rw [drop_at h, List.all_cons, hc, Bool.true_and]
theorem all_no {α : Type} {c : α → Bool} {l : List α} {i : Nat} {x : α} (h : l[i]? = some x) (hc : c x = false) : (l.drop i).all c = false := by
  rw [drop_at h, List.all_cons, hc, Bool.false_and]
theorem all_end {α : Type} {c : α → Bool} {l : List α} {i : Nat} (h : l.length ≤ i) : (l.drop i).all c = true := by
  rw [drop_end h]
  rfl
def ltI (a b : Int) : Bool := decide (a < b)
def ltB (a b : Mb) : Bool := decide (a.v < b.v)
def ltC (a b : Cr) : Bool := decide (a.s < b.s)
def ltM (a b : Mp) : Bool := decide (a.p < b.p) || (a.p == b.p && decide (a.v < b.v))
def gK (ks : List Int) : Bool := decide (1 ≤ ks.length) && (decide (ks.length ≤ 8) && ks.all (fun k => k == 1 || k == 2))
def room (p : Pv) : Bool := decide (p.ms.length ≤ 64) && (decide (p.cs.length ≤ 64) && decide (p.bs.length ≤ 64))
def okB (p : Pv) (m : Mb) : Bool := isV m.v && (ris ltI m.ps && m.ps.all (fun i => isK p i 2))
def gB (p : Pv) : Bool := p.bs.all (okB p) && ris ltB p.bs
def okC (p : Pv) (c : Cr) : Bool := isS c.s && (pts p c.v).isSome
def gC (p : Pv) : Bool := p.cs.all (okC p) && ris ltC p.cs
def okM0 (p : Pv) (m : Mp) : Bool := isV m.v && (isK p m.p 1 && (car p m.s).2)
def okM (p : Pv) (m : Mp) : Bool := okM0 p m && (vof p m.p m.s).1 == m.v
def gM (p : Pv) : Bool := p.ms.all (okM p) && ris ltM p.ms
def cls (o : O6) : Int := kindOf o.a o.b o.c o.d o.e o.f
def chk (p : Pv) : Bool := (cls p.o == 1) && (gK p.ks && (room p && (gB p && (gC p && gM p))))
/-! ### .. by the definition -/
def smS (k m : Mp) : Bool := k.p == m.p && k.s == m.s
def bef (k : Option Mp) (m : Mp) : Bool := match k with
  | none => true
  | some k => ltM k m
/-- The definition's own test of the maps, those that were ahead and those that are to come. -/
def mpR (p : Pv) (pre : List Mp) : List Mp → Bool
  | [] => true
  | m :: l => okM0 p m && (pre.all (fun k => !smS k m) && (bef pre.getLast? m && mpR p (pre ++ [m]) l))
def rB (p : Pv) : Bool := p.bs.all (okB p) && (ris ltI (p.bs.map (fun m => m.v)) && decide (p.bs.length ≤ 64))
def rC (p : Pv) : Bool := p.cs.all (okC p) && (ris ltI (p.cs.map (fun m => m.s)) && decide (p.cs.length ≤ 64))
def rM (p : Pv) : Bool := mpR p [] p.ms && decide (p.ms.length ≤ 64)
def chkR (p : Pv) : Bool := (cls p.o == 1) && (gK p.ks && (decide (p.bs.length ≤ 64) && (decide (p.cs.length ≤ 64) && (decide (p.ms.length ≤ 64) && (rB p && (rC p && rM p))))))
/-- Rising is standing ahead of all that come behind. -/
theorem ris_cons {α : Type} {lt : α → α → Bool} (ht : ∀ x y z, lt x y = true → lt y z = true → lt x z = true) : ∀ (x : α) (l : List α), ris lt (x :: l) = true ↔ (∀ y ∈ l, lt x y = true) ∧ ris lt l = true
  | x, [] => by simp [ris]
  | x, y :: l => by
    rw [ris_two, Bool.and_eq_true]
    constructor
    · rintro ⟨h1, h2⟩
      refine ⟨fun z hz => ?_, h2⟩
      rcases List.mem_cons.1 hz with rfl | hz
      · exact h1
      · exact ht _ _ _ h1 (((ris_cons ht y l).1 h2).1 z hz)
    · rintro ⟨h1, h2⟩
      exact ⟨h1 y (List.mem_cons_self ..), h2⟩
theorem ris_pw {α : Type} {lt : α → α → Bool} (ht : ∀ x y z, lt x y = true → lt y z = true → lt x z = true) : ∀ (l : List α), ris lt l = true ↔ l.Pairwise (fun x y => lt x y = true)
  | [] => by simp [ris]
  | x :: l => by rw [ris_cons ht, List.pairwise_cons, ris_pw ht l]
theorem ltI_tr (x y z : Int) (h : ltI x y = true) (k : ltI y z = true) : ltI x z = true := by simp [ltI] at *; omega
theorem ltB_tr (x y z : Mb) (h : ltB x y = true) (k : ltB y z = true) : ltB x z = true := by simp [ltB] at *; omega
theorem ltC_tr (x y z : Cr) (h : ltC x y = true) (k : ltC y z = true) : ltC x z = true := by simp [ltC] at *; omega
theorem ltM_iff (x y : Mp) : ltM x y = true ↔ x.p < y.p ∨ (x.p = y.p ∧ x.v < y.v) := by simp [ltM]
theorem ltM_tr (x y z : Mp) (h : ltM x y = true) (k : ltM y z = true) : ltM x z = true := by rw [ltM_iff] at *; omega
theorem mpR_iff (p : Pv) : ∀ (l pre : List Mp), mpR p pre l = true ↔ (∀ m ∈ l, okM0 p m = true) ∧ (∀ k ∈ pre, ∀ m ∈ l, smS k m = false) ∧ l.Pairwise (fun k m => smS k m = false) ∧ (∀ m ∈ l.head?, bef pre.getLast? m = true) ∧ ris ltM l = true
  | [], pre => by simp [mpR, ris]
  | m :: l, pre => by
    have ih := mpR_iff p l (pre ++ [m])
    rw [mpR, Bool.and_eq_true, Bool.and_eq_true, Bool.and_eq_true, ih, List.all_eq_true]
    have hg : (pre ++ [m]).getLast? = some m := by simp
    rw [hg]
    constructor
    · rintro ⟨h1, h2, h3, h4, h5, h6, h7, h8⟩
      refine ⟨?_, ?_, ?_, ?_, ?_⟩
      · intro x hx
        rcases List.mem_cons.1 hx with rfl | hx
        · exact h1
        · exact h4 x hx
      · intro k hk x hx
        rcases List.mem_cons.1 hx with rfl | hx
        · simpa using h2 k hk
        · exact h5 k (by simp [hk]) x hx
      · exact List.pairwise_cons.2 ⟨fun x hx => h5 m (by simp) x hx, h6⟩
      · intro x hx
        simp at hx
        subst hx
        exact h3
      · cases l with
        | nil => rfl
        | cons y l => rw [ris_two, h8, Bool.and_true]; exact h7 y rfl
    · rintro ⟨h1, h2, h3, h4, h5⟩
      refine ⟨h1 m (by simp), fun k hk => by simp [h2 k hk m (by simp)], h4 m rfl, fun x hx => h1 x (by simp [hx]), ?_, (List.pairwise_cons.1 h3).2, ?_, ?_⟩
      · intro k hk x hx
        rcases List.mem_append.1 hk with hk | hk
        · exact h2 k hk x (by simp [hx])
        · simp at hk; subst hk; exact (List.pairwise_cons.1 h3).1 x hx
      · intro x hx
        cases l with
        | nil => cases hx
        | cons y l => simp at hx; subst hx; rw [ris_two, Bool.and_eq_true] at h5; exact h5.1
      · exact ((ris_cons ltM_tr m l).1 h5).2
/-- Any two of a row that are unlike in pairs. -/
theorem pw_two {α : Type} {R : α → α → Prop} (hs : ∀ x y, R x y → R y x) : ∀ {l : List α}, l.Pairwise R → ∀ x ∈ l, ∀ y ∈ l, x = y ∨ R x y
  | [], _, x, hx, y, hy => by cases hx
  | a :: l, h, x, hx, y, hy => by
    have h' := List.pairwise_cons.1 h
    rcases List.mem_cons.1 hx with e1 | h1
    · rcases List.mem_cons.1 hy with e2 | h2
      · exact Or.inl (e1.trans e2.symm)
      · rw [e1]; exact Or.inr (h'.1 y h2)
    · rcases List.mem_cons.1 hy with e2 | h2
      · rw [e2]; exact Or.inr (hs _ _ (h'.1 x h1))
      · exact pw_two hs h'.2 x h1 y h2
theorem fnd_some {α : Type} {c : α → Bool} {g : α → Int} : ∀ {l : List α} {m : α}, m ∈ l → c m = true → ∃ x ∈ l, c x = true ∧ fnd c g l = (g x, true)
  | [], m, hm, _ => by cases hm
  | a :: l, m, hm, hc => by
    by_cases ha : c a = true
    · exact ⟨a, by simp, ha, by rw [fnd, if_pos ha]⟩
    · rcases List.mem_cons.1 hm with rfl | hm
      · exact absurd hc ha
      · obtain ⟨x, hx, hcx, e⟩ := fnd_some (g := g) hm hc
        exact ⟨x, by simp [hx], hcx, by rw [fnd, if_neg ha, e]⟩
theorem fnd_none {α : Type} {c : α → Bool} {g : α → Int} : ∀ {l : List α}, (∀ m ∈ l, c m = false) → fnd c g l = (0, false)
  | [], _ => rfl
  | a :: l, h => by
    rw [fnd, if_neg (by simp [h a (by simp)])]
    exact fnd_none fun m hm => h m (by simp [hm])
theorem fnd_in {α : Type} {c : α → Bool} {g : α → Int} : ∀ {l : List α}, (fnd c g l).2 = true → ∃ x ∈ l, c x = true ∧ (fnd c g l).1 = g x
  | [], h => by cases h
  | a :: l, h => by
    by_cases ha : c a = true
    · exact ⟨a, by simp, ha, by rw [fnd, if_pos ha]⟩
    · rw [fnd, if_neg ha] at h ⊢
      obtain ⟨x, hx, r⟩ := fnd_in h
      exact ⟨x, by simp [hx], r⟩
theorem gM_eq (p : Pv) : gM p = mpR p [] p.ms := by
  rw [Bool.eq_iff_iff, mpR_iff, gM, Bool.and_eq_true, List.all_eq_true]
  constructor
  · rintro ⟨h1, h2⟩
    have h1' : ∀ m ∈ p.ms, okM0 p m = true ∧ (vof p m.p m.s).1 = m.v := fun m hm => by
      have := h1 m hm
      rw [okM, Bool.and_eq_true] at this
      exact ⟨this.1, by simpa using this.2⟩
    refine ⟨fun m hm => (h1' m hm).1, (fun k hk => by cases hk), ?_, (fun m hm => rfl), h2⟩
    refine ((ris_pw ltM_tr _).1 h2).imp_of_mem ?_
    intro k m hk hm hl
    by_cases he : smS k m = true
    · simp [smS] at he
      have e1 := (h1' k hk).2
      have e2 := (h1' m hm).2
      rw [← he.1, ← he.2, e1] at e2
      rw [ltM_iff] at hl
      omega
    · simpa using he
  · rintro ⟨h1, _, h3, _, h5⟩
    refine ⟨fun m hm => ?_, h5⟩
    rw [okM, h1 m hm, Bool.true_and]
    obtain ⟨x, hx, hc, e⟩ := fnd_some (c := fun k => k.p == m.p && k.s == m.s) (g := fun k => k.v) hm (by simp)
    rw [vof, e]
    rcases pw_two (fun a b h => by simp [smS] at h ⊢; omega) h3 x hx m hm with rfl | h
    · simp
    · exact absurd hc (by simpa [smS] using h)
theorem chk_eq (p : Pv) : chk p = chkR p := by
  have h1 : rB p = (gB p && decide (p.bs.length ≤ 64)) := by
    rw [rB, gB, ris_map, Bool.and_assoc]
    rfl
  have h2 : rC p = (gC p && decide (p.cs.length ≤ 64)) := by
    rw [rC, gC, ris_map, Bool.and_assoc]
    rfl
  have h3 : rM p = (gM p && decide (p.ms.length ≤ 64)) := by rw [rM, gM_eq]
  unfold chk chkR room
  rw [h1, h2, h3]
  cases (cls p.o == 1) <;> cases gK p.ks <;> cases gB p <;> cases gC p <;> cases gM p <;> cases decide (p.bs.length ≤ 64) <;> cases decide (p.cs.length ≤ 64) <;> cases decide (p.ms.length ≤ 64) <;> rfl
/-! ### what commands do -/
/-- A command: its kind, and what it names. -/
structure Cd where
  k : Int
  m : Mp
  c : Cr
  b : Mb
def cmI (a b : Int) : Int := if a < b then -1 else if b < a then 1 else 0
def cmM (a b : Mp) : Int := if cmI a.p b.p = 0 then cmI a.v b.v else cmI a.p b.p
def cmC (a b : Cr) : Int := cmI a.s b.s
def cmB (a b : Mb) : Int := cmI a.v b.v
/-- A row with one more, where it stands in order. -/
def putL {α : Type} (c : α → Int) (x : α) : List α → List α
  | [] => [x]
  | y :: l => if c y < 0 then y :: putL c x l else if c y = 0 then x :: l else x :: y :: l
def refM (p : Pv) (m : Mp) : Int :=
  if (isV m.v && isS m.s) = false then 1 else if hasP p m.p = false then 5 else if isK p m.p 1 = false then 184 else if ((svc p m.p m.v).2 || (vof p m.p m.s).2) = true then 181 else if (car p m.s).2 = false then 182 else if 64 ≤ p.ms.length then 3 else 0
def refC (p : Pv) (c : Cr) : Int :=
  if (isS c.s && isV c.v) = false then 1 else if (car p c.s).2 = true then 181 else if (pts p c.v).isSome = false then 182 else if 64 ≤ p.cs.length then 3 else 0
def refB (p : Pv) (m : Mb) : Int :=
  if (isV m.v && ris ltI m.ps) = false then 1 else if m.ps.all (hasP p) = false then 5 else if m.ps.all (fun i => isK p i 2) = false then 184 else if (decide (64 ≤ p.bs.length) && !(pts p m.v).isSome) = true then 3 else 0
def eqM (a b : Mp) : Bool := a.p == b.p && (a.v == b.v && a.s == b.s)
def eqC (a b : Cr) : Bool := a.s == b.s && a.v == b.v
def keepC (p : Pv) (c : Cr) : Int := if p.cs.any (eqC · c) = false then 182 else if 0 < (att p c.s).length then 183 else 0
def keepB (p : Pv) (v : Int) : Int := if (pts p v).isSome = false then 182 else if 0 < (svs p v).length then 183 else 0
def keepM (p : Pv) (m : Mp) : Int := if p.ms.any (eqM · m) = false then 182 else 0
def whn (p q : Pv) (e : Int) : Pv × Int := if e = 0 then (q, 0) else (p, e)
def doK (p : Pv) (c : Cd) : Pv × Int :=
  if c.k = 1 then whn p { p with ms := putL (cmM · c.m) c.m p.ms } (refM p c.m)
  else if c.k = 2 then whn p { p with ms := p.ms.filter (fun y => cmM y c.m != 0) } (keepM p c.m)
  else if c.k = 3 then whn p { p with cs := putL (cmC · c.c) c.c p.cs } (refC p c.c)
  else if c.k = 4 then whn p { p with cs := p.cs.filter (fun y => cmC y c.c != 0) } (keepC p c.c)
  else if c.k = 5 then whn p { p with bs := putL (cmB · c.b) c.b p.bs } (refB p c.b)
  else if c.k = 6 then whn p { p with bs := p.bs.filter (fun y => cmB y c.b != 0) } (keepB p c.b.v)
  else (p, 1)
def doC (p : Pv) (c : Cd) : Pv × Int := if chk p then doK p c else (p, 180)
/-! ### .. by the definition -/
/-- A row with one more, ahead of the first that stands behind it. -/
def insR {α : Type} (b : α → Bool) (x : α) : List α → List α
  | [] => [x]
  | y :: l => if b y then x :: y :: l else y :: insR b x l
def setR (x : Mb) : List Mb → List Mb
  | [] => [x]
  | y :: l => if x.v ≤ y.v then x :: (y :: l).filter (fun z => x.v != z.v) else y :: setR x l
def rdM (p : Pv) (m : Mp) : Int := if (p.ms.filter (fun y => !eqM y m)).length = p.ms.length then 182 else 0
def rdC (p : Pv) (c : Cr) : Int := if (p.cs.filter (fun y => !eqC y c)).length = p.cs.length then 182 else if 0 < (att p c.s).length then 183 else 0
def rsB (p : Pv) (m : Mb) : Int :=
  if (isV m.v && ris ltI m.ps) = false then 1 else if m.ps.all (hasP p) = false then 5 else if m.ps.all (fun i => isK p i 2) = false then 184 else if 64 < (setR m p.bs).length then 3 else 0
def rdB (p : Pv) (v : Int) : Int := if (p.bs.filter (fun y => y.v != v)).length = p.bs.length then 182 else if 0 < (svs p v).length then 183 else 0
def roK (p : Pv) (c : Cd) : Pv × Int :=
  if c.k = 1 then whn p { p with ms := insR (ltM c.m) c.m p.ms } (refM p c.m)
  else if c.k = 2 then whn p { p with ms := p.ms.filter (fun y => !eqM y c.m) } (rdM p c.m)
  else if c.k = 3 then whn p { p with cs := insR (ltC c.c) c.c p.cs } (refC p c.c)
  else if c.k = 4 then whn p { p with cs := p.cs.filter (fun y => !eqC y c.c) } (rdC p c.c)
  else if c.k = 5 then whn p { p with bs := setR c.b p.bs } (rsB p c.b)
  else if c.k = 6 then whn p { p with bs := p.bs.filter (fun y => y.v != c.b.v) } (rdB p c.b.v)
  else (p, 1)
def doR (p : Pv) (c : Cd) : Pv × Int := if chkR p then roK p c else (p, 180)
/-! ### .. the same -/
theorem cmI_lt {a b : Int} : cmI a b < 0 ↔ a < b := by unfold cmI; split <;> (try split) <;> omega
theorem cmI_eq {a b : Int} : cmI a b = 0 ↔ a = b := by unfold cmI; split <;> (try split) <;> omega
theorem cmM_lt {a b : Mp} : cmM a b < 0 ↔ ltM a b = true := by
  rw [ltM_iff]
  unfold cmM
  split
  · rename_i h
    have := cmI_eq.1 h
    rw [cmI_lt]
    omega
  · rename_i h
    have : ¬ a.p = b.p := fun e => h (cmI_eq.2 e)
    rw [cmI_lt]
    omega
theorem cmM_eq {a b : Mp} : cmM a b = 0 ↔ a.p = b.p ∧ a.v = b.v := by
  unfold cmM
  split
  · rename_i h
    have := cmI_eq.1 h
    rw [cmI_eq]
    omega
  · rename_i h
    have : ¬ a.p = b.p := fun e => h (cmI_eq.2 e)
    rw [cmI_eq]
    omega
/-- One more, where none stands alike: ahead of the first that stands behind it. -/
theorem put_ins {α : Type} {c : α → Int} {b : α → Bool} {x : α} : ∀ {l : List α}, (∀ y ∈ l, c y ≠ 0 ∧ (b y = true ↔ ¬ c y < 0)) → putL c x l = insR b x l
  | [], _ => rfl
  | y :: l, h => by
    have hy := h y (by simp)
    rw [putL, insR]
    by_cases hc : c y < 0
    · rw [if_pos hc, if_neg (fun e => (hy.2.1 e) hc), put_ins fun z hz => h z (by simp [hz])]
    · rw [if_neg hc, if_neg hy.1, if_pos (hy.2.2 hc)]
theorem fnd_false {α : Type} {c : α → Bool} {g : α → Int} {l : List α} (h : (fnd c g l).2 = false) : ∀ m ∈ l, c m = false := fun m hm => by
  cases hc : c m with
  | false => rfl
  | true =>
    obtain ⟨x, _, _, e⟩ := fnd_some (g := g) hm hc
    rw [e] at h
    cases h
theorem ptl_some {v : Int} : ∀ {l : List Mb}, (ptl v l).isSome = true ↔ ∃ x ∈ l, x.v = v
  | [] => by simp [ptl]
  | y :: l => by
    rw [ptl]
    by_cases h : y.v = v
    · rw [if_pos (by simp [h])]
      simp [h]
    · rw [if_neg (by simp [h]), ptl_some]
      simp [h]
theorem filter_len {α : Type} {c : α → Bool} {l : List α} : (l.filter c).length = l.length ↔ ∀ x ∈ l, c x = true := by
  rw [List.length_filter_eq_length_iff]
theorem set_put {x : Mb} : ∀ {l : List Mb}, ris ltB l = true → putL (cmB · x) x l = setR x l
  | [], _ => rfl
  | y :: l, h => by
    have h' := (ris_cons ltB_tr y l).1 h
    rw [putL, setR]
    by_cases hc : y.v < x.v
    · rw [if_pos (show cmB y x < 0 from cmI_lt.2 hc), if_neg (by omega), set_put h'.2]
    · have hf : ∀ z ∈ l, (x.v != z.v) = true := fun z hz => by
        have := h'.1 z hz
        simp [ltB] at this
        simp
        omega
      rw [if_neg (show ¬ cmB y x < 0 from fun e => hc (cmI_lt.1 e)), if_pos (show x.v ≤ y.v by omega)]
      by_cases he : y.v = x.v
      · rw [if_pos (show cmB y x = 0 from cmI_eq.2 he), List.filter_cons, if_neg (by simp [he]), List.filter_eq_self.2 hf]
      · rw [if_neg (show ¬ cmB y x = 0 from fun e => he (cmI_eq.1 e)), List.filter_cons, if_pos (by simp; omega), List.filter_eq_self.2 hf]
theorem set_len {x : Mb} : ∀ {l : List Mb}, ris ltB l = true → (setR x l).length = if (ptl x.v l).isSome then l.length else l.length + 1
  | [], _ => rfl
  | y :: l, h => by
    have h' := (ris_cons ltB_tr y l).1 h
    rw [setR, ptl]
    by_cases hc : x.v ≤ y.v
    · have hf : ∀ z ∈ l, (x.v != z.v) = true := fun z hz => by
        have := h'.1 z hz
        simp [ltB] at this
        simp
        omega
      rw [if_pos hc, List.filter_cons, List.filter_eq_self.2 hf]
      by_cases he : y.v = x.v
      · rw [if_neg (by simp [he]), if_pos (by simp [he])]
        simp
      · have hn : (ptl x.v l).isSome = false := by
          rw [Bool.eq_false_iff, Ne, ptl_some]
          rintro ⟨z, hz, e⟩
          have := hf z hz
          simp [e] at this
        have e1 : (y.v == x.v) = false := by simp [he]
        rw [if_pos (by simp; omega), e1]
        simp [hn]
    · have e1 : (y.v == x.v) = false := by simp; omega
      have e2 : (if (y.v == x.v) = true then some y.ps else ptl x.v l) = ptl x.v l := by rw [e1]; rfl
      rw [if_neg hc, e2, List.length_cons, set_len h'.2]
      split <;> simp
theorem chk_parts {p : Pv} (h : chk p = true) : gK p.ks = true ∧ p.ms.length ≤ 64 ∧ p.cs.length ≤ 64 ∧ p.bs.length ≤ 64 ∧ gB p = true ∧ gC p = true ∧ gM p = true := by
  simp [chk, room] at h
  exact ⟨h.2.1, h.2.2.1.1, h.2.2.1.2.1, h.2.2.1.2.2, h.2.2.2.1, h.2.2.2.2.1, h.2.2.2.2.2⟩
theorem whn_eq {p q q' : Pv} {e e' : Int} (h : e = e') (k : e = 0 → q = q') : whn p q e = whn p q' e' := by
  subst h
  unfold whn
  split
  · rename_i h0; rw [k h0]
  · rfl
theorem rises_one {α : Type} {lt : α → α → Bool} (ht : ∀ x y z, lt x y = true → lt y z = true → lt x z = true) {l : List α} (h : ris lt l = true) : ∀ x ∈ l, ∀ y ∈ l, x = y ∨ (lt x y = true ∨ lt y x = true) :=
  pw_two (fun x y h => h.symm) (((ris_pw ht l).1 h).imp fun h => Or.inl h)
theorem mp_ext {a b : Mp} (h1 : a.p = b.p) (h2 : a.v = b.v) (h3 : a.s = b.s) : a = b := by cases a; cases b; simp_all
theorem cr_ext {a b : Cr} (h1 : a.s = b.s) (h2 : a.v = b.v) : a = b := by cases a; cases b; simp_all
theorem do_eq (p : Pv) (c : Cd) : doC p c = doR p c := by
  unfold doC doR
  rw [← chk_eq]
  by_cases hc : chk p = true
  · rw [if_pos hc, if_pos hc]
    obtain ⟨_, l1, l2, l3, hB, hC, hM⟩ := chk_parts hc
    have rB' : ris ltB p.bs = true := by rw [gB, Bool.and_eq_true] at hB; exact hB.2
    have rC' : ris ltC p.cs = true := by rw [gC, Bool.and_eq_true] at hC; exact hC.2
    have rM' : ris ltM p.ms = true := by rw [gM, Bool.and_eq_true] at hM; exact hM.2
    unfold doK roK
    by_cases k1 : c.k = 1
    · rw [if_pos k1, if_pos k1]
      refine whn_eq rfl fun h => ?_
      have hs : (svc p c.m.p c.m.v).2 = false := by
        unfold refM at h
        split at h
        · cases h
        · split at h
          · cases h
          · split at h
            · cases h
            · split at h
              · cases h
              · rename_i h'
                simp at h'
                exact h'.1
      rw [put_ins (b := ltM c.m)]
      intro y hy
      have := fnd_false hs y hy
      simp at this
      refine ⟨fun e => ?_, ?_⟩
      · have := cmM_eq.1 e
        omega
      · rw [cmM_lt, ltM_iff, ltM_iff]
        omega
    rw [if_neg k1, if_neg k1]
    by_cases k2 : c.k = 2
    · rw [if_pos k2, if_pos k2]
      have e1 : keepM p c.m = rdM p c.m := by
        unfold keepM rdM
        by_cases ha : p.ms.any (eqM · c.m) = true
        · rw [if_neg (by simp [ha]), if_neg]
          rw [filter_len]
          intro h
          obtain ⟨x, hx, e⟩ := List.any_eq_true.1 ha
          have := h x hx
          rw [e] at this
          cases this
        · rw [if_pos (by simpa using ha), if_pos]
          rw [filter_len]
          intro x hx
          have : ¬ eqM x c.m = true := fun e => ha (List.any_eq_true.2 ⟨x, hx, e⟩)
          simp [this]
      refine whn_eq e1 fun h => ?_
      have ha : p.ms.any (eqM · c.m) = true := by
        unfold keepM at h
        split at h
        · cases h
        · rename_i h'; simpa using h'
      obtain ⟨x, hx, e⟩ := List.any_eq_true.1 ha
      simp [eqM] at e
      have : p.ms.filter (fun y => cmM y c.m != 0) = p.ms.filter (fun y => !eqM y c.m) := by
        refine List.filter_congr fun y hy => ?_
        rw [Bool.eq_iff_iff]
        simp only [bne_iff_ne, ne_eq, cmM_eq, Bool.not_eq_true', eqM]
        rcases rises_one ltM_tr rM' x hx y hy with rfl | h | h
        · simp [e.1, e.2.1, e.2.2]
        · rw [ltM_iff] at h
          simp
          omega
        · rw [ltM_iff] at h
          simp
          omega
      rw [this]
    rw [if_neg k2, if_neg k2]
    by_cases k3 : c.k = 3
    · rw [if_pos k3, if_pos k3]
      refine whn_eq rfl fun h => ?_
      have hs : (car p c.c.s).2 = false := by
        unfold refC at h
        split at h
        · cases h
        · split at h
          · cases h
          · rename_i h'
            simpa using h'
      rw [put_ins (b := ltC c.c)]
      intro y hy
      have := fnd_false hs y hy
      simp at this
      refine ⟨fun e => this (cmI_eq.1 e), ?_⟩
      unfold cmC
      rw [cmI_lt, ltC]
      simp
      omega
    rw [if_neg k3, if_neg k3]
    by_cases k4 : c.k = 4
    · rw [if_pos k4, if_pos k4]
      have e1 : keepC p c.c = rdC p c.c := by
        unfold keepC rdC
        by_cases ha : p.cs.any (eqC · c.c) = true
        · rw [if_neg (by simp [ha]), if_neg (c := (List.filter _ _).length = _)]
          rw [filter_len]
          intro h
          obtain ⟨x, hx, e⟩ := List.any_eq_true.1 ha
          have := h x hx
          rw [e] at this
          cases this
        · rw [if_pos (by simpa using ha), if_pos]
          rw [filter_len]
          intro x hx
          have : ¬ eqC x c.c = true := fun e => ha (List.any_eq_true.2 ⟨x, hx, e⟩)
          simp [this]
      refine whn_eq e1 fun h => ?_
      have ha : p.cs.any (eqC · c.c) = true := by
        unfold keepC at h
        split at h
        · cases h
        · rename_i h'; simpa using h'
      obtain ⟨x, hx, e⟩ := List.any_eq_true.1 ha
      simp [eqC] at e
      have : p.cs.filter (fun y => cmC y c.c != 0) = p.cs.filter (fun y => !eqC y c.c) := by
        refine List.filter_congr fun y hy => ?_
        rw [Bool.eq_iff_iff]
        simp only [bne_iff_ne, ne_eq, cmC, cmI_eq, Bool.not_eq_true', eqC]
        rcases rises_one ltC_tr rC' x hx y hy with rfl | h | h
        · simp [e.1, e.2]
        · simp [ltC] at h
          simp
          omega
        · simp [ltC] at h
          simp
          omega
      rw [this]
    rw [if_neg k4, if_neg k4]
    by_cases k5 : c.k = 5
    · rw [if_pos k5, if_pos k5]
      rw [set_put rB']
      refine whn_eq ?_ fun _ => rfl
      unfold refB rsB
      rw [set_len rB']
      unfold pts
      cases (ptl c.b.v p.bs).isSome with
      | true => 
        have e : ¬ 64 < p.bs.length := by omega
        simp [e]
      | false =>
        by_cases e : 64 ≤ p.bs.length
        · have e' : 64 < p.bs.length + 1 := by omega
          simp [e, e']
        · have e' : ¬ 64 < p.bs.length + 1 := by omega
          simp [e, e']
    rw [if_neg k5, if_neg k5]
    by_cases k6 : c.k = 6
    · rw [if_pos k6, if_pos k6]
      have e0 : p.bs.filter (fun y => cmB y c.b != 0) = p.bs.filter (fun y => y.v != c.b.v) := by
        refine List.filter_congr fun y hy => ?_
        rw [Bool.eq_iff_iff]
        simp [cmB, cmI_eq]
      rw [e0]
      refine whn_eq ?_ fun _ => rfl
      unfold keepB rdB pts
      by_cases ha : (ptl c.b.v p.bs).isSome = true
      · rw [if_neg (by simp [ha]), if_neg (c := (List.filter _ _).length = _)]
        rw [filter_len]
        intro h
        obtain ⟨x, hx, e⟩ := ptl_some.1 ha
        have := h x hx
        simp [e] at this
      · rw [if_pos (by simpa using ha), if_pos]
        rw [filter_len]
        intro x hx
        have : ¬ x.v = c.b.v := fun e => ha (ptl_some.2 ⟨x, hx, e⟩)
        simp [this]
    rw [if_neg k6, if_neg k6]
  · rw [if_neg hc, if_neg hc]
end

section
set_option linter.unusedVariables false
set_option maxRecDepth 4000
set_option linter.unusedSimpArgs false
open Go.RowKit
attribute [local go_sem ↓] ldM stM ldC stC ldB stB ldP stP apI bsI
attribute [local go_sem] bsI_is bsI2_is

def orI (x y : Int) : Int := if x = 0 then y else x
end

end Go.Proofs.Ytgjagedngdhdaaa
