/-
  A row of which the first are let go and behind which others come: what it leads to, its tail, append. Plain laws.
-/
import Derived.Test.YtoojoiindfgoeaaQq
namespace Go.Proofs.Ytoojoiindfgoeaa
set_option linter.unusedVariables false
set_option maxRecDepth 4000
set_option linter.unusedSimpArgs false
open Go.RowKit Go.Conc
/-- The block that a slice leads into. -/
def Sl.blk (x : Sl) : Option Nat := x.a.map (·.block)
/-- A slice of rows within a block of one's own, with what may come behind it. -/
def TlS (W : World) (B : Nat) (v : Sl) (tt : List Sl) : Prop :=
  (v = ⟨none, 0, 0⟩ ∧ tt = []) ∨ ∃ g o cap cur, v = ⟨some ⟨g, o, none⟩, tt.length, cap⟩ ∧ B ≤ g ∧ RvAt W g 33 cur ∧ tt.length ≤ cap ∧ cap ≤ maxLen ∧ o + cap ≤ cur.size ∧ ∀ (j : Nat) (x : Sl), tt[j]? = some x → cur[o + j]? = some x.v
theorem TlS.keptBut {W W' : World} {B : Nat} {v : Sl} {tt : List Sl} {row : Option Nat} (h : TlS W B v tt) (hg : W.grownBy W' row) (hn : ∀ g, v.blk = some g → some g ≠ row) : TlS W' B v tt := by
  rcases h with h | ⟨g, o, cap, cur, rfl, h1, h2, h3⟩
  · exact .inl h
  · exact .inr ⟨g, o, cap, cur, rfl, h1, h2.keptBut hg (hn g rfl), h3⟩
theorem TlS.below {W W' : World} {B : Nat} {v : Sl} {tt : List Sl} (h : TlS W B v tt) (hb : Below W.heap.size W W') : TlS W' B v tt := h.keptBut (grown_of_below hb none) fun g _ e => by cases e
theorem TlS.len {W : World} {B : Nat} {v : Sl} {tt : List Sl} (h : TlS W B v tt) : v.n = tt.length := by
  rcases h with ⟨rfl, rfl⟩ | ⟨g, o, cap, cur, rfl, _⟩ <;> rfl
theorem TlS.sl {W : World} {B : Nat} {v : Sl} {tt : List Sl} (h : TlS W B v tt) : SlAt eS W v.a v.n v.c tt := by
  rcases h with ⟨rfl, rfl⟩ | ⟨g, o, cap, cur, rfl, h1, h2, h3, h4, h5, h6⟩
  · exact SlAt.none' W
  · refine ⟨rfl, h3, h4, (fun e => by cases e), fun x hx _ => ?_⟩
    cases hx
    refine ⟨g, o, rfl, fun j u hj => ?_⟩
    rw [El.fl_get kS] at hj
    have hK : eS.K = 1 := rfl
    rw [hK, Nat.div_one, Nat.mod_one] at hj
    obtain ⟨x, hx, hu⟩ := Option.bind_eq_some_iff.1 hj
    have e1 := h6 j x hx
    have e2 : x.v = u := by
      have : (eS.f x).toList = [x.v] := rfl
      rw [this] at hu
      simpa using hu
    rw [← e2]
    exact h2.cell _ _ e1
theorem TlS.blk {W : World} {B : Nat} {v : Sl} {tt : List Sl} (h : TlS W B v tt) {g : Nat} (hg : v.blk = some g) : B ≤ g ∧ ∃ cur, RvAt W g 33 cur := by
  rcases h with ⟨rfl, rfl⟩ | ⟨g', o, cap, cur, rfl, h1, h2, _⟩
  · cases hg
  · cases hg
    exact ⟨h1, cur, h2⟩
/-- All but the first. -/
theorem TlS.tail {W : World} {B : Nat} {v : Sl} {x : Sl} {tt : List Sl} (h : TlS W B v (x :: tt)) :
    ∃ v' : Sl, (∀ V : World, (slS 27 v.v (some (.int .i64 1)) none none).run Try.prog V = .ok v'.v V) ∧ TlS W B v' tt ∧ v'.blk = v.blk := by
  rcases h with ⟨_, e⟩ | ⟨g, o, cap, cur, rfl, h1, h2, h3, h4, h5, h6⟩
  · cases e
  · have hl : (x :: tt).length = tt.length + 1 := rfl
    have e1 : ∀ V : World, (slS 27 (.slice (some ⟨g, o, none⟩) (tt.length + 1) cap) (some (.int .i64 1)) none none).run Try.prog V = .ok (.slice (if cap = 1 then some ⟨g, o, none⟩ else some ⟨g, o + 1, none⟩) tt.length (cap - 1)) V := fun V => by
      have := slL_suf (some ⟨g, o, none⟩) (tt.length + 1) cap 1 (by omega) V
      rw [show ((1 : Nat) : Int) = 1 from rfl] at this
      rw [this]
      have e : (⟨g, o, none⟩ : Addr).add (1 * eS.K) = ⟨g, o + 1, none⟩ := by
        show (⟨g, o, none⟩ : Addr).add 1 = _
        rw [Addr.add_lit]
      rw [Option.map_some, e]
      rfl
    rw [hl] at h3
    by_cases hc : cap = 1
    · refine ⟨⟨some ⟨g, o, none⟩, tt.length, cap - 1⟩, fun V => ?_, .inr ⟨g, o, cap - 1, cur, rfl, h1, h2, by omega, by omega, by omega, fun j y hj => ?_⟩, rfl⟩
      · have := e1 V
        rw [if_pos hc] at this
        exact this
      · have : tt.length = 0 := by omega
        rw [List.eq_nil_of_length_eq_zero this] at hj
        simp at hj
    · refine ⟨⟨some ⟨g, o + 1, none⟩, tt.length, cap - 1⟩, fun V => ?_, .inr ⟨g, o + 1, cap - 1, cur, rfl, h1, h2, by omega, by omega, by omega, fun j y hj => ?_⟩, rfl⟩
      · have := e1 V
        rw [if_neg hc] at this
        exact this
      · rw [show o + 1 + j = o + (j + 1) by omega]
        exact h6 (j + 1) y hj
theorem room_at {w : World} {g o n c : Nat} {cur : Array Value} (hg : RvAt w g 33 cur) (b p : Nat) (x : Sl) (hx : w.cell? ⟨b, p, none⟩ = some x.v) (hroom : n + 1 ≤ c) (hfit : o + c ≤ cur.size) (ty : TypeId) :
    (apS 27 ty #[.slice (some ⟨g, o, none⟩) n c, .slice (some ⟨b, p, none⟩) 1 1]).run Try.prog w = .ok (.slice (some ⟨g, o, none⟩) (n + 1) c) (w.setRow g (cur.toList.set (o + n) x.v).toArray) := by
  obtain ⟨i0, hi, hz0, hz1, hz2⟩ := info_parts (P := Try.prog) (e := 33) (z := .slice none 0 0) (size := 1) (bytes := 24) (by kernel_rfl)
  have hu := Try.underlying27
  have hf := run_firstCells_some (P := Try.prog) (w := w) 1 1 ⟨b, p, none⟩ 1 1 [x.v] rfl (fun j u hj => by
    match j, hj with
    | 0, hj =>
      cases hj
      rw [Addr.add_lit]
      exact hx)
  have hst := run_storeCells_at Try.prog g (o + n) 33 [x.v] 0 cur w hg (by simp; omega) (by
    intro u hu'
    simp at hu'
    subst hu'
    rfl)
  simp only [Nat.add_zero] at hst
  have e : cur.toList.take (o + n) ++ [x.v] ++ cur.toList.drop (o + n + [x.v].length) = cur.toList.set (o + n) x.v := by
    rw [List.set_eq_take_append_cons_drop, if_pos (by simp; omega)]
    simp
  rw [e] at hst
  unfold apS
  simp [Builtin.append_, run_underlying hu, sizeOf, typeInfo, hi, hz1, Builtin.lenOf, hroom, hf, Addr.add_lit, hst]
/-- One more behind them. -/
theorem TlS.next {W : World} {B : Nat} {v : Sl} {tt : List Sl} (h : TlS W B v tt) (hB : B ≤ W.heap.size) (hl : tt.length ≤ 1000) (x : Sl) (ty : TypeId) :
    ∃ (v' : Sl) (W' : World), (apS 27 ty #[v.v, .slice (some ⟨W.heap.size, 0, none⟩) 1 1]).run Try.prog (W.alloc (.cells #[x.v] 33)) = .ok v'.v W' ∧ TlS W' B v' (tt ++ [x]) ∧ W.grownBy W' v.blk ∧ ∀ g, v'.blk = some g → v.blk = some g ∨ W.heap.size ≤ g := by
  obtain ⟨Wa, hWa⟩ : ∃ e, W.alloc (.cells #[x.v] 33) = e := ⟨_, rfl⟩
  have ba : Below W.heap.size W Wa := by rw [← hWa]; exact (Below.refl _ _).alloc (Nat.le_refl _) _
  have s1 : SlAt eS Wa (some ⟨W.heap.size, 0, none⟩) 1 1 [x] := by rw [← hWa]; exact one_new W x kS
  have ss : W.heap.size < Wa.heap.size := by rw [← hWa]; simp
  have hx : Wa.cell? ⟨W.heap.size, 0, none⟩ = some x.v := lS s1 (i := 0) rfl
  rw [hWa]
  obtain ⟨i0, hi, hz0, hz1, hz2⟩ := info_parts (P := Try.prog) (e := 33) (z := .slice none 0 0) (size := 1) (bytes := 24) (by kernel_rfl)
  have hu := Try.underlying27
  have hnew : ∀ (j : Nat) (u : Value), [x.v][j]? = some u → Wa.cell? ((⟨W.heap.size, 0, none⟩ : Addr).add j) = some u := fun j u hj => by
    match j, hj with
    | 0, hj =>
      cases hj
      rw [Addr.add_lit]
      exact hx
  have hzc : (Value.slice none 0 0).cells = #[Value.slice none 0 0] := rfl
  rcases h with ⟨rfl, rfl⟩ | ⟨g, o, cap, cur, rfl, h1, h2, h3, h4, h5, h6⟩
  · have hr := run_append_nil (P := Try.prog) (w := Wa) 27 ty 33 i0 _ hu hi hz0 ⟨W.heap.size, 0, none⟩ 1 1 [x.v] (by rw [hz1]; rfl) hnew (by omega) (by omega) (by rw [hz2]; omega)
    have hge := grownCap_ge Wa 1 0 33
    have hcm := grownCap_le_maxLen Wa 1 0 33 (by unfold maxLen; omega)
    refine ⟨⟨some ⟨Wa.heap.size, 0, none⟩, 1, grownCap Wa 1 0 33⟩, _, hr, .inr ⟨Wa.heap.size, 0, _, _, rfl, Nat.le_trans hB ba.size, heap_alloc_new Wa.drew _, hge, hcm, ?_, fun j y hj => ?_⟩, grown_self (grown_of_below ba _) ⟨rfl, rfl, rfl, by simp, fun k hk _ => heap_alloc_old Wa.drew _ hk⟩, fun g hg => .inr ?_⟩
    · simp only [Array.size_append, List.size_toArray, size_zeroCells, hzc, List.length_singleton]
      show 0 + grownCap Wa 1 0 33 ≤ 1 + (grownCap Wa 1 0 33 - 1) * 1
      omega
    · match j, hj with
      | 0, hj =>
        cases hj
        rw [Nat.zero_add, Array.getElem?_append_left (by simp)]
        rfl
    · cases hg
      exact Nat.le_of_lt ss
  · by_cases hroom : tt.length + 1 ≤ cap
    · have hgw : g < W.heap.size := h2.lt
      have hr := room_at (h2.below ba) W.heap.size 0 x hx hroom h5 ty
      refine ⟨⟨some ⟨g, o, none⟩, tt.length + 1, cap⟩, _, hr, .inr ⟨g, o, cap, _, by rw [List.length_append]; rfl, h1, RvAt.set (h2.below ba), by rw [List.length_append]; exact hroom, h4, by simpa using h5, fun j y hj => ?_⟩, grown_self (grown_of_below ba _) (grown_row _ _ _), fun g' hg' => .inl hg'⟩
      simp only [List.getElem?_toArray]
      rw [List.getElem?_set]
      by_cases hjn : j < tt.length
      · rw [if_neg (by omega), Array.getElem?_toList]
        rw [List.getElem?_append_left hjn] at hj
        exact h6 j y hj
      · have hj2 : j = tt.length := by
          have := (List.getElem?_eq_some_iff.1 hj).1
          simp at this
          omega
        subst hj2
        rw [if_pos rfl, if_pos (by simp; omega)]
        simp at hj
        rw [hj]
    · have holds : ∀ (j : Nat) (u : Value), (tt.map Sl.v)[j]? = some u → Wa.cell? ((⟨g, o, none⟩ : Addr).add j) = some u := fun j u hj => by
        rw [List.getElem?_map] at hj
        obtain ⟨y, hy, rfl⟩ := Option.map_eq_some_iff.1 hj
        rw [Addr.add_lit]
        exact (h2.below ba).cell _ _ (h6 j y hy)
      have hr := run_append_grow (P := Try.prog) (w := Wa) 27 ty 33 i0 _ hu hi hz0 ⟨g, o, none⟩ tt.length cap (tt.map Sl.v) (by rw [hz1]; simp) holds ⟨W.heap.size, 0, none⟩ 1 1 [x.v] (by rw [hz1]; rfl) hnew (by omega) (by omega) (growslice_fits (by omega) (by rw [hz2]; omega))
      have hge := grownCap_ge Wa (tt.length + 1) cap 33
      have hcm := grownCap_le_maxLen Wa (tt.length + 1) cap 33 (by unfold maxLen; omega)
      refine ⟨⟨some ⟨Wa.heap.size, 0, none⟩, tt.length + 1, grownCap Wa (tt.length + 1) cap 33⟩, _, hr, .inr ⟨Wa.heap.size, 0, _, _, by rw [List.length_append]; rfl, Nat.le_trans hB ba.size, heap_alloc_new Wa.drew _, by rw [List.length_append]; exact hge, hcm, ?_, fun j y hj => ?_⟩, grown_self (grown_of_below ba _) ⟨rfl, rfl, rfl, by simp, fun k hk _ => heap_alloc_old Wa.drew _ hk⟩, fun g' hg' => .inr ?_⟩
      · simp only [Array.size_append, List.size_toArray, size_zeroCells, hzc, List.length_singleton, List.length_map]
        show 0 + grownCap Wa (tt.length + 1) cap 33 ≤ tt.length + 1 + (grownCap Wa (tt.length + 1) cap 33 - (tt.length + 1)) * 1
        omega
      · have hjl := (List.getElem?_eq_some_iff.1 hj).1
        rw [List.length_append, List.length_singleton] at hjl
        have e : ((tt.map Sl.v).toArray ++ [x.v].toArray ++ Builtin.zeroCells (Value.slice none 0 0).cells (grownCap Wa (tt.length + 1) cap 33 - (tt.length + 1)))[0 + j]? = ((tt ++ [x]).map Sl.v)[j]? := by
          rw [Array.getElem?_append_left (by simp; omega), Nat.zero_add]
          simp
        rw [e, List.getElem?_map, hj]
        rfl
      · cases hg'
        exact Nat.le_of_lt ss
end Go.Proofs.Ytoojoiindfgoeaa
