/-
  Entries of a filtering database as a list in order: what is found, put, struck, and which one goes first. Plain laws.
-/
import Derived.Handy
namespace Go.Proofs.Ytpbpofmlpbobmaa
set_option linter.unusedVariables false
set_option maxRecDepth 4000
set_option linter.unusedSimpArgs false

/-- A VLAN and an address. -/
structure Ky where
  vid : Int
  a : Int
  b : Int
  c : Int
  d : Int
  e : Int
  f : Int
/-- The address as a number. -/
def Ky.num (k : Ky) : Int := ((((k.a * 256 + k.b) * 256 + k.c) * 256 + k.d) * 256 + k.e) * 256 + k.f
/-- Its place in the order. -/
def Ky.rk (k : Ky) : Int := k.vid * 281474976710656 + k.num
structure Ky.wf (k : Ky) : Prop where
  vid : -9223372036854775808 ≤ k.vid ∧ k.vid ≤ 9223372036854775807
  a : 0 ≤ k.a ∧ k.a ≤ 255
  b : 0 ≤ k.b ∧ k.b ≤ 255
  c : 0 ≤ k.c ∧ k.c ≤ 255
  d : 0 ≤ k.d ∧ k.d ≤ 255
  e : 0 ≤ k.e ∧ k.e ≤ 255
  f : 0 ≤ k.f ∧ k.f ≤ 255
theorem Ky.wf.num {k : Ky} (h : k.wf) : 0 ≤ k.num ∧ k.num < 281474976710656 := by
  obtain ⟨_, h1, h2, h3, h4, h5, h6⟩ := h
  unfold Ky.num
  omega
theorem num_inj {a b c d e f a' b' c' d' e' f' : Int} (h1 : 0 ≤ a ∧ a ≤ 255) (h2 : 0 ≤ b ∧ b ≤ 255) (h3 : 0 ≤ c ∧ c ≤ 255) (h4 : 0 ≤ d ∧ d ≤ 255) (h5 : 0 ≤ e ∧ e ≤ 255) (h6 : 0 ≤ f ∧ f ≤ 255)
    (g1 : 0 ≤ a' ∧ a' ≤ 255) (g2 : 0 ≤ b' ∧ b' ≤ 255) (g3 : 0 ≤ c' ∧ c' ≤ 255) (g4 : 0 ≤ d' ∧ d' ≤ 255) (g5 : 0 ≤ e' ∧ e' ≤ 255) (g6 : 0 ≤ f' ∧ f' ≤ 255)
    (h : ((((a * 256 + b) * 256 + c) * 256 + d) * 256 + e) * 256 + f = ((((a' * 256 + b') * 256 + c') * 256 + d') * 256 + e') * 256 + f') : a = a' ∧ b = b' ∧ c = c' ∧ d = d' ∧ e = e' ∧ f = f' := by
  have e6 : f = f' := by omega
  subst e6
  have e5 : e = e' := by omega
  subst e5
  have e4 : d = d' := by omega
  subst e4
  have e3 : c = c' := by omega
  subst e3
  have e2 : b = b' := by omega
  subst e2
  exact ⟨by omega, rfl, rfl, rfl, rfl, rfl⟩
theorem Ky.rk_iff {k q : Ky} (hk : k.wf) (hq : q.wf) : k.rk = q.rk ↔ k.vid = q.vid ∧ k.num = q.num := by
  have h1 := hk.num
  have h2 := hq.num
  unfold Ky.rk
  omega
theorem Ky.rk_lt {k q : Ky} (hk : k.wf) (hq : q.wf) : k.rk < q.rk ↔ k.vid < q.vid ∨ k.vid = q.vid ∧ k.num < q.num := by
  have h1 := hk.num
  have h2 := hq.num
  unfold Ky.rk
  omega
theorem Ky.inj {k q : Ky} (hk : k.wf) (hq : q.wf) (h : k.rk = q.rk) : k = q := by
  obtain ⟨h1, h2⟩ := (Ky.rk_iff hk hq).1 h
  obtain ⟨v, a, b, c, d, e, f⟩ := k
  obtain ⟨v', a', b', c', d', e', f'⟩ := q
  obtain ⟨_, k1, k2, k3, k4, k5, k6⟩ := hk
  obtain ⟨_, q1, q2, q3, q4, q5, q6⟩ := hq
  obtain ⟨rfl, rfl, rfl, rfl, rfl, rfl⟩ := num_inj k1 k2 k3 k4 k5 k6 q1 q2 q3 q4 q5 q6 h2
  obtain rfl : v = v' := h1
  rfl
/-- An entry. -/
structure En where
  k : Ky
  port : Int
  st : Bool
  seen : Int
structure En.wf (x : En) : Prop where
  k : x.k.wf
  port : 0 ≤ x.port ∧ x.port ≤ 7
  seen : 0 ≤ x.seen ∧ x.seen ≤ 1099511627776
/-- Its place in the order. -/
def En.rk (x : En) : Int := x.k.rk
/-- In order, no two of one key. -/
def Srt (l : List En) : Prop := l.Pairwise (fun x y => x.rk < y.rk)
def Wfs (l : List En) : Prop := ∀ x ∈ l, x.wf
/-- The entry of a key. -/
def look (l : List En) (q : Int) : Option En := l.find? (fun x => decide (x.rk = q))
/-- Without the entry of a key. -/
def del (l : List En) (q : Int) : List En := l.filter (fun x => decide (x.rk ≠ q))
/-- With another one. -/
def ins (l : List En) (e : En) : List En := l.takeWhile (fun x => decide (x.rk < e.rk)) ++ e :: l.dropWhile (fun x => decide (x.rk < e.rk))
theorem Srt.inj {l : List En} (h : Srt l) {x y : En} (hx : x ∈ l) (hy : y ∈ l) (e : x.rk = y.rk) : x = y := by
  induction l with
  | nil => cases hx
  | cons z r ih =>
    obtain ⟨h1, h2⟩ := List.pairwise_cons.1 h
    rcases List.mem_cons.1 hx with ex | hx'
    · rcases List.mem_cons.1 hy with ey | hy'
      · rw [ex, ey]
      · have := h1 y hy'; rw [ex] at e; omega
    · rcases List.mem_cons.1 hy with ey | hy'
      · have := h1 x hx'; rw [ey] at e; omega
      · exact ih h2 hx' hy'
theorem srt_ext : ∀ {l m : List En}, Srt l → Srt m → (∀ x, x ∈ l ↔ x ∈ m) → l = m
  | [], [], _, _, _ => rfl
  | [], b :: s, _, _, h => by have := (h b).2 (by simp); simp at this
  | a :: r, [], _, _, h => by have := (h a).1 (by simp); simp at this
  | a :: r, b :: s, h1, h2, h => by
    obtain ⟨a1, a2⟩ := List.pairwise_cons.1 h1
    obtain ⟨b1, b2⟩ := List.pairwise_cons.1 h2
    have hab : a = b := by
      rcases List.mem_cons.1 ((h a).1 (by simp)) with e | ha
      · exact e
      · rcases List.mem_cons.1 ((h b).2 (by simp)) with e | hb
        · exact e.symm
        · have x1 := a1 b hb
          have x2 := b1 a ha
          omega
    subst hab
    rw [srt_ext a2 b2 (fun p => ⟨fun hp => by
      rcases List.mem_cons.1 ((h p).1 (by simp [hp])) with e | hp'
      · have := a1 p hp
        rw [e] at this
        omega
      · exact hp', fun hp => by
      rcases List.mem_cons.1 ((h p).2 (by simp [hp])) with e | hp'
      · have := b1 p hp
        rw [e] at this
        omega
      · exact hp'⟩)]
theorem Srt.filter {l : List En} (h : Srt l) (p : En → Bool) : Srt (l.filter p) := List.Pairwise.filter p h
theorem Wfs.filter {l : List En} (h : Wfs l) (p : En → Bool) : Wfs (l.filter p) := fun x hx => h x (List.mem_filter.1 hx).1
theorem mem_del {l : List En} {q : Int} {x : En} : x ∈ del l q ↔ x ∈ l ∧ x.rk ≠ q := by simp [del]
theorem Srt.del {l : List En} (h : Srt l) (q : Int) : Srt (del l q) := h.filter _
theorem Wfs.del {l : List En} (h : Wfs l) (q : Int) : Wfs (del l q) := h.filter _
theorem look_mem {l : List En} {q : Int} {x : En} (h : look l q = some x) : x ∈ l ∧ x.rk = q := by
  unfold look at h
  exact ⟨List.mem_of_find?_eq_some h, by simpa using List.find?_some h⟩
theorem look_none {l : List En} {q : Int} : look l q = none ↔ ∀ x ∈ l, x.rk ≠ q := by simp [look, List.find?_eq_none]
theorem Srt.look {l : List En} (h : Srt l) {x : En} (hx : x ∈ l) : look l x.rk = some x := by
  cases hl : Go.Proofs.Ytpbpofmlpbobmaa.look l x.rk with
  | none => exact absurd rfl (look_none.1 hl x hx)
  | some y =>
    obtain ⟨h1, h2⟩ := look_mem hl
    rw [h.inj h1 hx h2]
theorem del_none {l : List En} {q : Int} (h : look l q = none) : del l q = l := by
  unfold del
  exact List.filter_eq_self.2 (fun x hx => by simpa using look_none.1 h x hx)
theorem mem_take_while {l : List En} (h : Srt l) {q : Int} {x : En} : x ∈ l.takeWhile (fun x => decide (x.rk < q)) ↔ x ∈ l ∧ x.rk < q := by
  induction l with
  | nil => simp
  | cons z r ih =>
    obtain ⟨h1, h2⟩ := List.pairwise_cons.1 h
    by_cases hz : z.rk < q
    · simp only [List.takeWhile_cons, hz, decide_true, if_true, List.mem_cons, ih h2]
      constructor
      · rintro (rfl | ⟨h3, h4⟩)
        · exact ⟨.inl rfl, hz⟩
        · exact ⟨.inr h3, h4⟩
      · rintro ⟨rfl | h3, h4⟩
        · exact .inl rfl
        · exact .inr ⟨h3, h4⟩
    · simp only [List.takeWhile_cons, hz, decide_false]
      constructor
      · intro h3; simp at h3
      · rintro ⟨h3, h4⟩
        rcases List.mem_cons.1 h3 with rfl | h3
        · exact absurd h4 hz
        · have := h1 x h3; omega
theorem mem_drop_while {l : List En} (h : Srt l) {q : Int} {x : En} : x ∈ l.dropWhile (fun x => decide (x.rk < q)) ↔ x ∈ l ∧ ¬ x.rk < q := by
  induction l with
  | nil => simp
  | cons z r ih =>
    obtain ⟨h1, h2⟩ := List.pairwise_cons.1 h
    by_cases hz : z.rk < q
    · simp only [List.dropWhile_cons, hz, decide_true, if_true, List.mem_cons, ih h2]
      constructor
      · rintro ⟨h3, h4⟩
        exact ⟨.inr h3, h4⟩
      · rintro ⟨rfl | h3, h4⟩
        · exact absurd hz h4
        · exact ⟨h3, h4⟩
    · simp only [List.dropWhile_cons, hz, decide_false]
      constructor
      · intro h3
        have h3' : x ∈ z :: r := by simpa using h3
        refine ⟨h3', ?_⟩
        rcases List.mem_cons.1 h3' with rfl | h4
        · exact hz
        · have := h1 x h4; omega
      · rintro ⟨h3, _⟩
        simpa using h3
theorem mem_ins {l : List En} (h : Srt l) {e x : En} : x ∈ ins l e ↔ x = e ∨ x ∈ l := by
  unfold ins
  simp only [List.mem_append, List.mem_cons, mem_take_while h, mem_drop_while h]
  by_cases hx : x.rk < e.rk <;> simp [hx]
  constructor
  · rintro (h1 | h1)
    · exact .inr h1
    · exact .inl h1
  · rintro (h1 | h1)
    · exact .inr h1
    · exact .inl h1
theorem Srt.ins {l : List En} (h : Srt l) {e : En} (hn : ∀ x ∈ l, x.rk ≠ e.rk) : Srt (ins l e) := by
  unfold Go.Proofs.Ytpbpofmlpbobmaa.ins
  refine List.pairwise_append.2 ⟨h.sublist (List.takeWhile_sublist _), List.pairwise_cons.2 ⟨fun y hy => ?_, h.sublist (List.dropWhile_sublist _)⟩, fun x hx y hy => ?_⟩
  · obtain ⟨h1, h2⟩ := (mem_drop_while h).1 hy
    have := hn y h1
    omega
  · obtain ⟨h1, h2⟩ := (mem_take_while h).1 hx
    rcases List.mem_cons.1 hy with rfl | hy
    · exact h2
    · obtain ⟨h3, h4⟩ := (mem_drop_while h).1 hy
      omega
theorem Wfs.ins {l : List En} (h : Wfs l) (hs : Srt l) {e : En} (he : e.wf) : Wfs (ins l e) := fun x hx => by
  rcases (mem_ins hs).1 hx with rfl | hx
  · exact he
  · exact h x hx
theorem length_ins (l : List En) (e : En) : (ins l e).length = l.length + 1 := by
  unfold ins
  have := congrArg List.length (List.takeWhile_append_dropWhile (p := fun x : En => decide (x.rk < e.rk)) (l := l))
  simp only [List.length_append, List.length_cons] at this ⊢
  omega
theorem length_del {l : List En} (h : Srt l) {x : En} (hx : x ∈ l) : (del l x.rk).length + 1 = l.length := by
  induction l with
  | nil => cases hx
  | cons z r ih =>
    obtain ⟨h1, h2⟩ := List.pairwise_cons.1 h
    rcases List.mem_cons.1 hx with rfl | hx'
    · have : del (x :: r) x.rk = r := by
        unfold del
        rw [List.filter_cons_of_neg (by simp)]
        exact List.filter_eq_self.2 (fun y hy => by have := h1 y hy; simp; omega)
      rw [this]; rfl
    · have hz : z.rk ≠ x.rk := by have := h1 x hx'; omega
      have : del (z :: r) x.rk = z :: del r x.rk := by
        unfold del
        rw [List.filter_cons_of_pos (by simp [hz])]
      rw [this]
      have := ih h2 hx'
      simp only [List.length_cons]; omega
theorem srt_sub {l m : List En} (hl : Srt l) (hm : Srt m) (h : ∀ x ∈ m, x ∈ l) : m.length ≤ l.length := by
  have e : m = l.filter (fun x => (look m x.rk).isSome) := by
    refine srt_ext hm (hl.filter _) (fun x => ⟨fun hx => List.mem_filter.2 ⟨h x hx, by rw [hm.look hx]; rfl⟩, fun hx => ?_⟩)
    obtain ⟨hx1, hx2⟩ := List.mem_filter.1 hx
    obtain ⟨y, hy⟩ := Option.isSome_iff_exists.1 hx2
    obtain ⟨h1, h2⟩ := look_mem hy
    rw [← hl.inj (h y h1) hx1 h2]
    exact h1
  rw [e]
  exact List.length_filter_le _ _
/-- In place of that of its key. -/
def put (l : List En) (e : En) : List En := ins (del l e.rk) e
theorem mem_put {l : List En} (h : Srt l) {e x : En} : x ∈ put l e ↔ x = e ∨ (x ∈ l ∧ x.rk ≠ e.rk) := by
  unfold put
  rw [mem_ins (h.del _), mem_del]
theorem Srt.put {l : List En} (h : Srt l) (e : En) : Srt (put l e) := (h.del _).ins (fun x hx => (mem_del.1 hx).2)
theorem Wfs.put {l : List En} (h : Wfs l) (hs : Srt l) {e : En} (he : e.wf) : Wfs (put l e) := (h.del _).ins (hs.del _) he
theorem put_none {l : List En} {e : En} (h : look l e.rk = none) : put l e = ins l e := by unfold put; rw [del_none h]
theorem length_put {l : List En} (h : Srt l) (e : En) : (put l e).length = if (look l e.rk).isSome then l.length else l.length + 1 := by
  unfold put
  rw [length_ins]
  cases hl : look l e.rk with
  | none => rw [del_none hl]; rfl
  | some x =>
    obtain ⟨h1, h2⟩ := look_mem hl
    rw [← h2]
    have := length_del h h1
    simp; omega
/-- The one that goes first. -/
structure Old (l : List En) (x : En) : Prop where
  mem : x ∈ l
  st : x.st = false
  le : ∀ y ∈ l, y.st = false → x.seen < y.seen ∨ x.seen = y.seen ∧ x.rk ≤ y.rk
theorem Old.inj {l : List En} (h : Srt l) {x y : En} (hx : Old l x) (hy : Old l y) : x = y := by
  refine h.inj hx.mem hy.mem ?_
  have h1 := hx.le y hy.mem hy.st
  have h2 := hy.le x hx.mem hx.st
  omega
def isOld (l : List En) (x : En) : Bool := !x.st && l.all fun y => y.st || decide (x.seen < y.seen ∨ x.seen = y.seen ∧ x.rk ≤ y.rk)
theorem isOld_iff {l : List En} {x : En} (m : x ∈ l) : isOld l x = true ↔ Old l x := by
  unfold isOld
  rw [Bool.and_eq_true, List.all_eq_true]
  constructor
  · rintro ⟨h1, h2⟩
    refine ⟨m, by simpa using h1, fun y hy hs => ?_⟩
    have := h2 y hy
    rw [hs, Bool.false_or] at this
    exact of_decide_eq_true this
  · intro h
    refine ⟨by simp [h.st], fun y hy => ?_⟩
    cases hs : y.st with
    | true => rfl
    | false => rw [Bool.false_or]; exact decide_eq_true (h.le y hy hs)
/-- The one that goes first, looked for. -/
def eld (l : List En) : Option En := l.find? (isOld l)
theorem eld_old {l : List En} {x : En} (h : eld l = some x) : Old l x := (isOld_iff (List.mem_of_find?_eq_some h)).1 (List.find?_some h)
theorem eld_is {l : List En} {x : En} (hx : Old l x) : eld l ≠ none := fun e => by
  have := List.find?_eq_none.1 e x hx.mem
  exact this ((isOld_iff hx.mem).2 hx)
theorem eld_some {l : List En} (h : Srt l) {x : En} (hx : Old l x) : eld l = some x := by
  cases e : eld l with
  | none => exact absurd e (eld_is hx)
  | some y => rw [Old.inj h (eld_old e) hx]
theorem eld_none {l : List En} (h : ∀ x ∈ l, x.st = true) : eld l = none := by
  cases e : eld l with
  | none => rfl
  | some x =>
    have hx := eld_old e
    have := h x hx.mem
    rw [hx.st] at this
    cases this
theorem old_or (l : List En) : (∀ x ∈ l, x.st = true) ∨ ∃ x, Old l x := by
  induction l with
  | nil => exact .inl (by simp)
  | cons z r ih =>
    cases hz : z.st with
    | true =>
      rcases ih with h | ⟨x, hx⟩
      · exact .inl (fun x hx => by rcases List.mem_cons.1 hx with rfl | hx; exact hz; exact h x hx)
      · refine .inr ⟨x, List.mem_cons_of_mem _ hx.mem, hx.st, fun y hy hs => ?_⟩
        rcases List.mem_cons.1 hy with rfl | hy
        · rw [hz] at hs; cases hs
        · exact hx.le y hy hs
    | false =>
      rcases ih with h | ⟨x, hx⟩
      · refine .inr ⟨z, by simp, hz, fun y hy hs => ?_⟩
        rcases List.mem_cons.1 hy with rfl | hy
        · exact .inr ⟨rfl, Int.le_refl _⟩
        · rw [h y hy] at hs; cases hs
      · by_cases hc : x.seen < z.seen ∨ x.seen = z.seen ∧ x.rk ≤ z.rk
        · refine .inr ⟨x, List.mem_cons_of_mem _ hx.mem, hx.st, fun y hy hs => ?_⟩
          rcases List.mem_cons.1 hy with rfl | hy
          · exact hc
          · exact hx.le y hy hs
        · refine .inr ⟨z, by simp, hz, fun y hy hs => ?_⟩
          rcases List.mem_cons.1 hy with rfl | hy
          · exact .inr ⟨rfl, Int.le_refl _⟩
          · have := hx.le y hy hs
            omega
theorem eld_none_all {l : List En} (h : eld l = none) : ∀ x ∈ l, x.st = true := by
  rcases old_or l with h' | ⟨x, hx⟩
  · exact h'
  · exact absurd h (eld_is hx)
end Go.Proofs.Ytpbpofmlpbobmaa
