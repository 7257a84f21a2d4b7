/-
  Stations in the order in which they were learned last, and the base beside them; rows of numbers: plain laws.
-/
import Derived.Test.YtoelpbajaadfeaaLFd
namespace Go.Proofs.Ytoelpbajaadfeaa
set_option linter.unusedVariables false
set_option maxRecDepth 4000
set_option linter.unusedSimpArgs false
open Go.RowKit

/-- Station k, learned at tick t. -/
def eF (k t : Int) : En := ⟨kyOf 3 (stA k), stA 100, t⟩
theorem eF_may {k t : Int} (hk : 0 ≤ k ∧ k ≤ 255) (ht : 0 ≤ t ∧ t ≤ 60) : mayOf (eF k t) = true :=
  (mayOf_iff _).2 ⟨⟨by show (1 : Int) ≤ 3; omega, by show (3 : Int) ≤ _; omega⟩, stA_kind hk, stA_kind (n := 100) (by omega), ht.1, by show t ≤ _; omega⟩
theorem eF_rk {k t k' t' : Int} : (eF k t).rk = (eF k' t').rk ↔ k = k' := by
  simp only [En.rk, eF, kyOf, Ky.rk, Ky.num, stA]
  omega
theorem eF_wf {k t : Int} (hk : 0 ≤ k ∧ k ≤ 255) (ht : 0 ≤ t ∧ t ≤ 60) : (eF k t).wf :=
  ⟨kyOf_wf (by omega) (stA_wf hk), stA_wf (by omega), by simp only [eF]; omega⟩
/-- The entries in the order in which they were learned last. -/
structure Fu (n i : Nat) (l es : List En) : Prop where
  mem : ∀ x, x ∈ l ↔ x ∈ es
  shape : ∀ x ∈ es, ∃ k t : Int, x = eF k t ∧ (0 ≤ k ∧ k ≤ 19) ∧ 0 ≤ t ∧ t < i
  ord : es.Pairwise (fun x y => x.seen < y.seen ∧ x.rk ≠ y.rk)
  len : es.length ≤ n
/-- Their stations' numbers. -/
def stns (es : List En) : List Int := es.map (fun x => x.k.f)
theorem Fu.length {n i : Nat} {l es : List En} (h : Fu n i l es) (hs : Srt l) : l.length = es.length :=
  (nodup_perm (hs.imp (fun {a b} h => by omega)) (h.ord.imp (fun {a b} h => h.2)) h.mem).length_eq
theorem Fu.find {n i : Nat} {l es : List En} (h : Fu n i l es) (hs : Srt l) (hw : Wfs l) {j : Int} : (look l (kyOf 3 (stA j)).rk).isSome = decide (j ∈ stns es) := by
  have key : (look l (kyOf 3 (stA j)).rk).isSome = true ↔ j ∈ stns es := by
    constructor
    · intro hh
      obtain ⟨x, hx⟩ := Option.isSome_iff_exists.1 hh
      obtain ⟨h1, h2⟩ := look_mem hx
      have h3 := (h.mem x).1 h1
      obtain ⟨k, t, rfl, _, _⟩ := h.shape x h3
      have : k = j := (eF_rk (t' := 0)).1 (show (eF k t).rk = (eF j 0).rk from h2)
      subst this
      exact List.mem_map.2 ⟨_, h3, rfl⟩
    · intro hh
      obtain ⟨x, hx, e⟩ := List.mem_map.1 hh
      obtain ⟨k, t, rfl, _, _⟩ := h.shape x hx
      have : k = j := e
      subst this
      have := hs.look ((h.mem _).2 hx)
      have e2 : (eF k t).rk = (kyOf 3 (stA k)).rk := rfl
      rw [e2] at this
      rw [this]
      rfl
  cases hc : (look l (kyOf 3 (stA j)).rk).isSome with
  | false => rw [decide_eq_false]; intro hh; rw [key.2 hh] at hc; cases hc
  | true => rw [decide_eq_true (key.1 hc)]
/-- What becomes of the order when station k is learned. -/
def nxt (n : Nat) (es : List En) (e : En) : List En :=
  let es' := es.filter (fun x => decide (x.rk ≠ e.rk)) ++ [e]
  es'.drop (es'.length - n)
theorem pair_last {es : List En} {e : En} {i : Nat} (ho : es.Pairwise (fun x y => x.seen < y.seen ∧ x.rk ≠ y.rk)) (ht : ∀ x ∈ es, x.seen < i) (he : e.seen = i) : (es.filter (fun x => decide (x.rk ≠ e.rk)) ++ [e]).Pairwise (fun x y => x.seen < y.seen ∧ x.rk ≠ y.rk) := by
  refine List.pairwise_append.2 ⟨ho.filter _, List.pairwise_singleton _ _, fun x hx y hy => ?_⟩
  rw [List.mem_singleton] at hy
  subst hy
  obtain ⟨h1, h2⟩ := List.mem_filter.1 hx
  exact ⟨by rw [he]; exact ht x h1, of_decide_eq_true h2⟩
theorem filter_none {es : List En} {q : Int} (h : ∀ x ∈ es, x.rk ≠ q) : es.filter (fun x => decide (x.rk ≠ q)) = es := List.filter_eq_self.2 (fun x hx => by simpa using h x hx)
theorem filter_some {es : List En} {q : Int} (h : ∃ x ∈ es, x.rk = q) : (es.filter (fun x => decide (x.rk ≠ q))).length < es.length := by
  obtain ⟨x, hx, e⟩ := h
  refine List.length_filter_lt_length_iff_exists.2 ⟨x, hx, by simpa using e⟩
theorem Fu.learn {n i : Nat} {l es : List En} (h : Fu n i l es) (hn : 1 ≤ n) (hs : Srt l) (hi : i < 60) {k : Int} (hk : 0 ≤ k ∧ k ≤ 19) (c : Cf) (hc : c.room = n) :
    learnS c l (eF k i) = (putS c.room l (eF k i), 0) ∧ Fu n (i + 1) (putS c.room l (eF k i)) (nxt n es (eF k i)) := by
  have hlen := h.length hs
  have hseen : ∀ x ∈ es, x.seen < i := fun x hx => by
    obtain ⟨k, t, rfl, _, h1, h2⟩ := h.shape x hx
    exact h2
  refine ⟨?_, ?_⟩
  · unfold learnS
    rw [if_pos (eF_may (by omega) (by omega))]
  obtain ⟨e, he⟩ : ∃ e, e = eF k i := ⟨_, rfl⟩
  rw [← he]
  have hes : e.seen = i := by rw [he]; rfl
  have hsh : ∀ x, (x = e ∨ x ∈ es) → ∃ k t : Int, x = eF k t ∧ (0 ≤ k ∧ k ≤ 19) ∧ 0 ≤ t ∧ t < ((i + 1 : Nat) : Int) := by
    rintro x (rfl | hx)
    · exact ⟨k, i, he, hk, by omega, by omega⟩
    · obtain ⟨k, t, h1, h2, h3, h4⟩ := h.shape x hx
      exact ⟨k, t, h1, h2, h3, by omega⟩
  have hpair := pair_last h.ord hseen hes
  have easy : ∀ (hle : (es.filter (fun x => decide (x.rk ≠ e.rk)) ++ [e]).length ≤ n) (hp : putS c.room l e = put l e), Fu n (i + 1) (putS c.room l e) (nxt n es e) := by
    intro hle hp
    have hnx : nxt n es e = es.filter (fun x => decide (x.rk ≠ e.rk)) ++ [e] := by
      unfold nxt
      show List.drop ((es.filter (fun x => decide (x.rk ≠ e.rk)) ++ [e]).length - n) _ = _
      rw [Nat.sub_eq_zero_of_le hle, List.drop_zero]
    rw [hnx, hp]
    refine ⟨fun x => ?_, fun x hx => hsh x ?_, hpair, hle⟩
    · rw [mem_put hs, h.mem x, List.mem_append, List.mem_filter, List.mem_singleton]
      simp only [decide_eq_true_eq]
      exact Or.comm
    · rcases List.mem_append.1 hx with hx | hx
      · exact .inr (List.mem_filter.1 hx).1
      · exact .inl (List.mem_singleton.1 hx)
  by_cases hin : ∃ x ∈ es, x.rk = e.rk
  · refine easy ?_ ?_
    · have := filter_some hin
      have := h.len
      rw [List.length_append, List.length_singleton]
      omega
    · have hsm : (look l e.rk).isSome = true := by
        obtain ⟨x, hx, e2⟩ := hin
        have := hs.look ((h.mem x).2 hx)
        rw [e2] at this
        rw [this, Option.isSome_some]
      unfold putS
      rw [if_pos (.inl hsm)]
  · have hno : ∀ x ∈ es, x.rk ≠ e.rk := fun x hx e2 => hin ⟨x, hx, e2⟩
    have hlk : look l e.rk = none := look_none.2 (fun x hx => hno x ((h.mem x).1 hx))
    have hfl := filter_none hno
    by_cases hlt : es.length < n
    · refine easy ?_ ?_
      · rw [hfl, List.length_append, List.length_singleton]
        omega
      · unfold putS
        rw [if_pos (.inr (by rw [hc, hlen]; omega))]
    · have hen : es.length = n := by have := h.len; omega
      obtain ⟨x0, r, hr⟩ : ∃ x r, es = x :: r := by
        cases es with
        | nil => simp at hen; omega
        | cons x r => exact ⟨x, r, rfl⟩
      have hord := h.ord
      rw [hr] at hord
      obtain ⟨o1, o2⟩ := List.pairwise_cons.1 hord
      have hx0 : x0 ∈ l := (h.mem x0).2 (by rw [hr]; simp)
      have hel : eld l = some x0 := eld_some hs ⟨hx0, fun y hy => by
        have := (h.mem y).1 hy
        rw [hr] at this
        rcases List.mem_cons.1 this with rfl | hy
        · exact .inr ⟨rfl, Int.le_refl _⟩
        · exact .inl (o1 y hy).1⟩
      have hp : putS c.room l e = put (del l x0.rk) e := by
        unfold putS
        rw [if_neg (by rintro (h1 | h1); rw [hlk] at h1; cases h1; rw [hc, hlen] at h1; omega), hel]
      have hnx : nxt n es e = r ++ [e] := by
        unfold nxt
        show List.drop ((es.filter (fun x => decide (x.rk ≠ e.rk)) ++ [e]).length - n) _ = _
        rw [hfl, List.length_append, List.length_singleton, show es.length + 1 - n = 1 by omega, hr]
        rfl
      rw [hp, hnx]
      refine ⟨fun x => ?_, fun x hx => hsh x ?_, ?_, ?_⟩
      · rw [mem_put (hs.del _), mem_del, h.mem x, hr, List.mem_append, List.mem_singleton, List.mem_cons]
        constructor
        · rintro (h1 | ⟨⟨h1 | h1, h2⟩, h3⟩)
          · exact .inr h1
          · rw [h1] at h2; exact absurd rfl h2
          · exact .inl h1
        · rintro (h1 | h1)
          · exact .inr ⟨⟨.inr h1, fun e2 => (o1 x h1).2 e2.symm⟩, hno x (by rw [hr]; exact List.mem_cons_of_mem _ h1)⟩
          · exact .inl h1
      · rcases List.mem_append.1 hx with hx | hx
        · exact .inr (by rw [hr]; exact List.mem_cons_of_mem _ hx)
        · exact .inl (List.mem_singleton.1 hx)
      · rw [hfl, hr] at hpair
        exact (List.pairwise_cons.1 hpair).2
      · rw [hr] at hen
        rw [List.length_append, List.length_singleton]
        simp only [List.length_cons] at hen
        omega
/-- The same, of the stations' numbers. -/
theorem stns_filter {es : List En} (h : ∀ x ∈ es, ∃ k t : Int, x = eF k t) (k t : Int) : stns (es.filter (fun x => decide (x.rk ≠ (eF k t).rk))) = (stns es).filter (fun j => decide (j ≠ k)) := by
  induction es with
  | nil => rfl
  | cons x r ih =>
    obtain ⟨k', t', rfl⟩ := h x (by simp)
    have ih' := ih (fun y hy => h y (List.mem_cons_of_mem _ hy))
    by_cases e : k' = k
    · have e2 : (eF k' t').rk = (eF k t).rk := eF_rk.2 e
      rw [List.filter_cons_of_neg (by simpa using e2), ih']
      show _ = (k' :: stns r).filter _
      rw [List.filter_cons_of_neg (by simpa using e)]
    · have e2 : (eF k' t').rk ≠ (eF k t).rk := fun h => e (eF_rk.1 h)
      rw [List.filter_cons_of_pos (by simpa using e2)]
      show k' :: stns _ = (k' :: stns r).filter _
      rw [ih', List.filter_cons_of_pos (by simpa using e)]
theorem stns_nxt {n i : Nat} {l es : List En} (h : Fu n i l es) (k t : Int) : stns (nxt n es (eF k t)) = ((stns es).filter (fun j => decide (j ≠ k)) ++ [k]).drop (((stns es).filter (fun j => decide (j ≠ k)) ++ [k]).length - n) := by
  have h1 := stns_filter (fun x hx => by obtain ⟨k, t, e, _⟩ := h.shape x hx; exact ⟨k, t, e⟩) k t
  have h2 : stns (es.filter (fun x => decide (x.rk ≠ (eF k t).rk)) ++ [eF k t]) = (stns es).filter (fun j => decide (j ≠ k)) ++ [k] := by
    unfold stns at h1 ⊢
    rw [List.map_append, h1]
    rfl
  unfold nxt
  show stns (List.drop _ _) = _
  rw [← h2]
  unfold stns
  rw [List.map_drop, List.length_map]
/-! ### rows of numbers -/
/-- The slice leads to these numbers. -/
structure IsL (W : World) (a : Option Addr) (n c : Nat) (l : List Int) : Prop where
  len : l.length = n
  cap : n ≤ c
  max : c ≤ maxLen
  nil : a = none → n = 0 ∧ c = 0
  blk : ∀ x, a = some x → x.block < W.heap.size
  cells : ∀ x, a = some x → ∃ b o, x = ⟨b, o, none⟩ ∧ ∀ j u, l[j]? = some u → W.cell? ⟨b, o + j, none⟩ = some (.int .i64 u)
theorem IsL.below {W W' : World} {a : Option Addr} {n c : Nat} {l : List Int} (h : IsL W a n c l) (hb : Below W.heap.size W W') : IsL W' a n c l := by
  refine ⟨h.len, h.cap, h.max, h.nil, fun x hx => Nat.lt_of_lt_of_le (h.blk x hx) hb.size, fun x hx => ?_⟩
  obtain ⟨b, o, e, hc⟩ := h.cells x hx
  exact ⟨b, o, e, fun j u hj => (hb.cell (World.block_lt_of_cell? W _ (hc j u hj))).trans (hc j u hj)⟩
theorem IsL.keptBut {W W' : World} {a : Option Addr} {n c : Nat} {l : List Int} {row : Option Nat} (h : IsL W a n c l) (hg : W.grownBy W' row) (hn : ∀ x, a = some x → some x.block ≠ row) : IsL W' a n c l := by
  refine ⟨h.len, h.cap, h.max, h.nil, fun x hx => Nat.lt_of_lt_of_le (h.blk x hx) hg.size, fun x hx => ?_⟩
  obtain ⟨b, o, e, hc⟩ := h.cells x hx
  refine ⟨b, o, e, fun j u hj => ?_⟩
  subst e
  exact hg.cell (hc j u hj) (hn ⟨b, o, none⟩ hx)
theorem IsL.none' (W : World) : IsL W none 0 0 [] := ⟨rfl, Nat.le_refl _, by simp, fun _ => ⟨rfl, rfl⟩, (fun x h => by cases h), fun x h => by cases h⟩
theorem IsL.some' {W : World} {a : Option Addr} {n c : Nat} {l : List Int} (h : IsL W a n c l) (hn : 0 < n) : ∃ b o, a = some ⟨b, o, none⟩ := by
  cases a with
  | none => have := (h.nil rfl).1; omega
  | some x =>
    obtain ⟨b, o, e, _⟩ := h.cells x rfl
    exact ⟨b, o, by rw [e]⟩
theorem IsL.cell {W : World} {b o n c : Nat} {l : List Int} (h : IsL W (some ⟨b, o, none⟩) n c l) {j : Nat} {u : Int} (hj : l[j]? = some u) : W.cell? ⟨b, o + j, none⟩ = some (.int .i64 u) := by
  obtain ⟨b', o', e, hc⟩ := h.cells _ rfl
  cases e
  exact hc j u hj
/-- A slice of the call's own that holds these numbers. -/
def IOwn (W : World) (B : Nat) (v : Value) (l : List Int) : Prop := W.ownsRow B 3 1 v l.length (l.map (Value.int .i64))
theorem IOwn.form {W : World} {B : Nat} {v : Value} {l : List Int} (h : IOwn W B v l) : ∃ a c, v = .slice a l.length c ∧ IsL W a l.length c l ∧ ∀ x, a = some x → B ≤ x.block ∧ x.block < W.heap.size := by
  rcases h.2 with ⟨rfl, h0⟩ | ⟨g, cap, cur, rfl, hB, hb, h1, h2, h3, h4⟩
  · have : l = [] := List.eq_nil_of_length_eq_zero h0
    subst this
    exact ⟨none, 0, rfl, IsL.none' W, fun x e => by cases e⟩
  · refine ⟨some ⟨g, 0, none⟩, cap, rfl, ⟨rfl, h1, h2, (fun e => by cases e), (fun x e => by cases e; exact lt_of_block hb), fun x e => ?_⟩, fun x e => ?_⟩
    · cases e
      refine ⟨g, 0, rfl, fun j u hj => ?_⟩
      rw [Nat.zero_add]
      refine cell_at hb j _ ?_
      have h5 : (l.map (Value.int .i64))[j]? = some (.int .i64 u) := by rw [List.getElem?_map, hj]; rfl
      rw [← h4, List.getElem?_take] at h5
      split at h5
      · rw [← Array.getElem?_toList]; exact h5
      · cases h5
    · cases e
      exact ⟨hB, lt_of_block hb⟩
theorem IOwn.nil (W : World) (B : Nat) : IOwn W B (.slice none 0 0) [] := World.ownsRow_nil W B _ _
theorem IOwn.below {W W' : World} {B : Nat} {v : Value} {l : List Int} (h : IOwn W B v l) (hb : Below W.heap.size W W') : IOwn W' B v l := by
  refine World.ownsRow.kept h (grown_of_below hb none) ?_
  cases v.ownBlock <;> simp
theorem infoI3 : (Try.prog.info? 3).map (fun i => (i.zero, i.size, i.bytes)) = some (some (.int .i64 0), 1, 8) := by kernel_rfl
/-- append, at numbers. -/
def apIS (ty : TypeId) (xs : Array Value) : Sem Value := Builtin.append_ #[43, 43] ty xs
theorem apI (ty : TypeId) (xs : Array Value) : Builtin.append_ #[43, 43] ty xs = apIS ty xs := rfl
/-- A number more, appended by a slice of one. -/
theorem IOwn.one {wr W1 : World} {a6 : Option Addr} {m6 c6 : Nat} {acc : List Int} (x : Int) (h : IOwn wr W1.heap.size (.slice a6 m6 c6) acc) (hB : Below W1.heap.size W1 wr) (hl : acc.length ≤ 1000) :
    ∃ Y1 Y2 a7 m7 c7, wr.alloc (.cells #[.int .i64 x] 3) = Y1 ∧
      (apIS 43 #[.slice a6 m6 c6, .slice (some ⟨wr.heap.size, 0, none⟩) 1 1]).run Try.prog Y1 = .ok (.slice a7 m7 c7) Y2 ∧ IOwn Y2 W1.heap.size (.slice a7 m7 c7) (acc ++ [x]) ∧ Below W1.heap.size W1 Y2 ∧ (acc ++ [x]).length = m7 := by
  obtain ⟨i0, hi, hz0, hz1, hz2⟩ := info_parts infoI3
  obtain ⟨Y1, hY1⟩ : ∃ Y1, wr.alloc (.cells #[.int .i64 x] 3) = Y1 := ⟨_, rfl⟩
  have b1 : Below wr.heap.size wr Y1 := by rw [← hY1]; exact (Below.refl _ _).alloc (Nat.le_refl _) _
  have o1 := h.below b1
  have hc1 : Y1.cell? ⟨wr.heap.size, 0, none⟩ = some (.int .i64 x) := by rw [← hY1]; exact cell_new _ _ _
  obtain ⟨v', Y2, hrun, h1, h2, _⟩ := run_append_own (P := Try.prog) Y1 W1.heap.size 43 43 3 i0 _ 1 8 Try.underlying43 hi hz0 hz1 hz2 rfl (by decide) (.slice a6 m6 c6) acc.length _ o1 ⟨wr.heap.size, 0, none⟩ 1 1 [.int .i64 x] (by simp)
    (fun j u hj => by
      match j, hj with
      | 0, hj => cases hj; exact hc1
      | j + 1, hj => simp at hj) (fun v hv => by rw [List.mem_singleton.1 hv]; rfl) (by unfold maxLen; omega) (by omega) (Nat.le_trans hB.size b1.size)
  have h3 : IOwn Y2 W1.heap.size v' (acc ++ [x]) := by
    unfold IOwn
    rw [List.map_append, List.length_append]
    exact h1
  obtain ⟨a7, c7, hv7, s7, _⟩ := h3.form
  subst hv7
  have b12 := below_over hB b1
  exact ⟨Y1, Y2, a7, _, c7, hY1, hrun, h3, b12.trans (below_of_grown h2 b12.size (fun j e => (World.ownsRow.lt o1 j e).1)), rfl⟩
/-- A part of a row of numbers. -/
def slIS (x : Value) (lo hi mx : Option Value) : Sem Value := Instr.sliceAt 43 x lo hi mx
theorem slI (x : Value) (lo hi mx : Option Value) : Instr.sliceAt 43 x lo hi mx = slIS x lo hi mx := rfl
theorem IsL.suf {W : World} {a : Option Addr} {n c : Nat} {l : List Int} (h : IsL W a n c l) {i : Nat} (hi : i ≤ n) :
    ∃ a', (∀ V : World, (slIS (.slice a n c) (some (.int .i64 i)) none none).run Try.prog V = .ok (.slice a' (n - i) (c - i)) V) ∧ IsL W a' (n - i) (c - i) (l.drop i) ∧ (∀ x, a' = some x → ∃ y, a = some y ∧ x.block = y.block) := by
  refine ⟨if c = i then a else a.map (·.add (i * 1)), fun V => ?_, ?_, ?_⟩
  · have hin : (i : Int) ≤ (n : Int) := by omega
    have hz := Try.sizeOf3
    have hu : Try.prog.underlying 43 = some (.slice 3) := Try.underlying43
    unfold slIS
    simp only [Instr.sliceAt, Sem.run_bind, run_underlying hu, Result.andThen_ok]
    simp only [Instr.slice, Sem.run_bind, run_underlying hu, Result.andThen_ok, Instr.sliceBounds, Sem.run_pure]
    rw [run_sliceBound V .i64 (i : Int) n _ (by omega) hin]
    simp only [Result.andThen_ok, Sem.run_pure, hz V, Int.toNat_natCast]
  · have hcap := h.cap
    refine ⟨by rw [List.length_drop, h.len], by omega, by have := h.max; omega, fun e => ?_, fun x e => ?_, fun x e => ?_⟩
    · split at e
      · have := h.nil e; omega
      · have := h.nil (by simpa using e); omega
    · split at e
      · exact h.blk x e
      · obtain ⟨y, hy, e3⟩ := Option.map_eq_some_iff.1 e
        obtain ⟨b, o, e2, _⟩ := h.cells y hy
        have := h.blk y hy
        subst e2
        rw [Addr.add_lit] at e3
        rw [← e3]
        exact this
    · split at e
      · next hci =>
        obtain ⟨b, o, e2, hc⟩ := h.cells x e
        refine ⟨b, o, e2, fun j u hj => ?_⟩
        have : l.drop i = [] := List.drop_eq_nil_of_le (by rw [h.len]; omega)
        rw [this] at hj
        simp at hj
      · obtain ⟨y, hy, e3⟩ := Option.map_eq_some_iff.1 e
        obtain ⟨b, o, e2, hc⟩ := h.cells y hy
        subst e2
        rw [Addr.add_lit] at e3
        refine ⟨b, o + i * 1, e3.symm, fun j u hj => ?_⟩
        rw [List.getElem?_drop] at hj
        rw [Nat.mul_one, Nat.add_assoc]
        exact hc _ u hj
  · intro x e
    split at e
    · exact ⟨x, e, rfl⟩
    · obtain ⟨y, hy, e3⟩ := Option.map_eq_some_iff.1 e
      obtain ⟨b, o, e2, _⟩ := h.cells y hy
      subst e2
      rw [Addr.add_lit] at e3
      exact ⟨_, hy, by rw [← e3]⟩
end Go.Proofs.Ytoelpbajaadfeaa
