/-
  What is told, written over: stores into its rows touch nothing of what was handed in. Plain laws.
-/
import Derived.Test.YtmfjlhcobhilcabSha
namespace Go.Proofs.Ytmfjlhcobhilcab
set_option linter.unusedVariables false
set_option maxRecDepth 4000
set_option linter.unusedSimpArgs false
open Go.RowKit

theorem SlAt.inj {α : Type} {e : El α} (k : e.Ok) (hi : ∀ x y, e.f x = e.f y → x = y) {W : World} {a : Option Addr} {n c : Nat} {l m : List α} (h : SlAt e W a n c l) (h' : SlAt e W a n c m) : l = m := by
  by_cases h0 : 0 < n
  · obtain ⟨b, o, rfl⟩ := h.some' h0
    refine List.ext_getElem? fun i => ?_
    by_cases hin : i < n
    · obtain ⟨x, hx⟩ := lt_nth (l := l) (i := i) (by rw [h.len]; exact hin)
      obtain ⟨y, hy⟩ := lt_nth (l := m) (i := i) (by rw [h'.len]; exact hin)
      rw [hx, hy, hi x y ?_]
      refine Array.ext_getElem? fun j => ?_
      by_cases hj : j < e.K
      · have h1 := h.cell k (i := i) (j := j) hx (Array.getElem?_eq_getElem (by rw [k.size]; exact hj)) rfl
        have h2 := h'.cell k (i := i) (j := j) hy (Array.getElem?_eq_getElem (by rw [k.size]; exact hj)) rfl
        rw [h1] at h2
        rw [Array.getElem?_eq_getElem (by rw [k.size]; exact hj), Array.getElem?_eq_getElem (by rw [k.size]; exact hj)]
        exact h2
      · rw [Array.getElem?_eq_none (by rw [k.size]; omega), Array.getElem?_eq_none (by rw [k.size]; omega)]
    · rw [List.getElem?_eq_none (by rw [h.len]; omega), List.getElem?_eq_none (by rw [h'.len]; omega)]
  · have e1 := h.len
    have e2 := h'.len
    rw [List.eq_nil_of_length_eq_zero (l := l) (by omega), List.eq_nil_of_length_eq_zero (l := m) (by omega)]
theorem inj_I (x y : Int) (h : eI.f x = eI.f y) : x = y := by
  have := congrArg (fun a : Array Value => a[0]?) h
  simpa [eI] using this
/-- Room for n rows of K cells of a type, from block B on. -/
def Blk (W : World) (B : Nat) (T K : Nat) (a : Option Addr) (n : Nat) : Prop := n = 0 ∨ ∃ g o cur, a = some ⟨g, o, none⟩ ∧ B ≤ g ∧ RvAt W g T cur ∧ o + n * K ≤ cur.size
theorem Blk.of {α : Type} {e : El α} {W : World} {B : Nat} {v : Value} {l : List α} (h : Own e W B v l) : ∃ a c, v = .slice a l.length c ∧ Blk W B e.ty e.K a l.length := by
  rcases h.pat with ⟨rfl, rfl⟩ | ⟨g, c, rfl, hB, cur, hr, h1, h2, h3, h4⟩
  · exact ⟨none, 0, rfl, Or.inl rfl⟩
  · refine ⟨_, c, rfl, Or.inr ⟨g, 0, cur, rfl, hB, hr, ?_⟩⟩
    rw [h3, Nat.zero_add]
    exact Nat.mul_le_mul_right _ h1
theorem RvAt.uni {W : World} {g T T' : Nat} {cs cs' : Array Value} (h : RvAt W g T cs) (h' : RvAt W g T' cs') : T = T' ∧ cs = cs' := by
  have h3 := h.symm.trans h'
  simp only [Option.some.injEq, Obj.cells.injEq] at h3
  exact ⟨h3.2.1, h3.1⟩
/-- One block's cells were written over. -/
structure Ovr (W W' : World) (B g T : Nat) (cur cur' : Array Value) : Prop where
  lo : B ≤ g
  was : RvAt W g T cur
  now : RvAt W' g T cur'
  size : cur'.size = cur.size
  gb : W.grownBy W' (some g)
theorem Blk.ovr {W W' : World} {B T K n g T' : Nat} {a : Option Addr} {cur cur' : Array Value} (h : Blk W B T K a n) (s : Ovr W W' B g T' cur cur') : Blk W' B T K a n := by
  rcases h with h | ⟨g', o, c, ha, hB, hr, hl⟩
  · exact Or.inl h
  · by_cases e : g' = g
    · subst e
      obtain ⟨rfl, rfl⟩ := hr.uni s.was
      exact Or.inr ⟨g', o, cur', ha, hB, s.now, by rw [s.size]; exact hl⟩
    · exact Or.inr ⟨g', o, c, ha, hB, hr.keptBut s.gb (by simpa using e), hl⟩
theorem Blk.below {W W' : World} {B T K n : Nat} {a : Option Addr} (h : Blk W B T K a n) (hb : Below W.heap.size W W') : Blk W' B T K a n := by
  rcases h with h | ⟨g', o, c, ha, hB, hr, hl⟩
  · exact Or.inl h
  · exact Or.inr ⟨g', o, c, ha, hB, hr.below hb, hl⟩
/-- A cell of a row written over. -/
theorem Blk.st {W : World} {B T K n i j : Nat} {a : Option Addr} {tv : TypeId} {v : Value} (h : Blk W B T K a n) (hi : i < n) (hj : j < K) (hv : v.oneCell' = true) (ht : (Try.prog.info? tv).map (·.size) = some 1) :
    ∃ g o W' cur, a = some ⟨g, o, none⟩ ∧ (∀ q, q = o + i * K + j → (stS tv (.pointer (some ⟨g, q, none⟩)) v).run Try.prog W = .ok () W') ∧ Ovr W W' B g T cur (cur.toList.set (o + i * K + j) v).toArray := by
  rcases h with h | ⟨g, o, cur, ha, hB, hr, hl⟩
  · omega
  · have hik : i * K + K ≤ n * K := by rw [← Nat.succ_mul]; exact Nat.mul_le_mul_right _ hi
    exact ⟨g, o, _, cur, ha, fun q hq => by rw [hq]; exact RvAt.st1 hr ht (by omega) hv, hB, hr, RvAt.set hr, by simp, grown_row _ _ _⟩
/-- Rows of members, each with room for its ports. -/
def RowB (W : World) (B : Nat) (a : Option Addr) (n : Nat) : Prop := n = 0 ∨ ∃ g o cur, a = some ⟨g, o, none⟩ ∧ B ≤ g ∧ RvAt W g 38 cur ∧ o + n * 2 ≤ cur.size ∧ ∀ i, i < n → ∃ a' n' c', cur[o + i * 2 + 1]? = some (.slice a' n' c') ∧ n' ≤ maxLen ∧ Blk W B 3 1 a' n'
theorem RowB.of {W : World} {B : Nat} {v : Value} {r : List Mr} {l : List Mb} (h : Own eB W B v r) (hl : Al (OwnP W B) r l) : ∃ a c, v = .slice a r.length c ∧ RowB W B a r.length := by
  rcases h.pat with ⟨rfl, rfl⟩ | ⟨g, c, rfl, hB, hp⟩
  · exact ⟨none, 0, rfl, Or.inl rfl⟩
  · obtain ⟨cur, hr, h1, h2, h3, h4⟩ := hp
    have h3' : cur.size = c * 2 := h3
    refine ⟨_, c, rfl, Or.inr ⟨g, 0, cur, rfl, hB, hr, by rw [h3']; omega, fun i hi => ?_⟩⟩
    obtain ⟨u, hu⟩ := lt_nth hi
    have hli : i < l.length := by rw [← hl.len]; exact hi
    obtain ⟨z, hz⟩ := lt_nth hli
    obtain ⟨_, ho⟩ := hl.at' i u z hu hz
    obtain ⟨a', c', e', hb⟩ := Blk.of ho
    obtain ⟨_, _, e2, hs, _⟩ := ho.form
    have hp : PAt eB W g c r := ⟨cur, hr, h1, h2, h3, h4⟩
    have hc := hp.cell kB (i := i) (j := 1) hu rfl (rfl : i * 2 + 1 = i * 2 + 1)
    refine ⟨u.a, u.n, u.c, ?_, ?_, ?_⟩
    · have := hr.get (i * 2 + 1)
      rw [hc] at this
      rw [Nat.zero_add]
      exact this.symm
    · simp only [Value.slice.injEq] at e2
      have := hs.cap
      have := hs.max
      omega
    · simp only [Value.slice.injEq] at e'
      rw [e'.1, e'.2.1]
      exact hb
theorem RowB.ovr {W W' : World} {B n g T' : Nat} {a : Option Addr} {cur cur' : Array Value} (h : RowB W B a n) (s : Ovr W W' B g T' cur cur') (hne : T' ≠ 38) : RowB W' B a n := by
  rcases h with h | ⟨g', o, c, ha, hB, hr, hl, hp⟩
  · exact Or.inl h
  · have e : g' ≠ g := fun e => by
      subst e
      exact hne (hr.uni s.was).1.symm
    refine Or.inr ⟨g', o, c, ha, hB, hr.keptBut s.gb (by simpa using e), hl, fun i hi => ?_⟩
    obtain ⟨a', n', c', h1, h2, h3⟩ := hp i hi
    exact ⟨a', n', c', h1, h2, h3.ovr s⟩
theorem RowB.below {W W' : World} {B n : Nat} {a : Option Addr} (h : RowB W B a n) (hb : Below W.heap.size W W') : RowB W' B a n := by
  rcases h with h | ⟨g', o, c, ha, hB, hr, hl, hp⟩
  · exact Or.inl h
  · refine Or.inr ⟨g', o, c, ha, hB, hr.below hb, hl, fun i hi => ?_⟩
    obtain ⟨a', n', c', h1, h2, h3⟩ := hp i hi
    exact ⟨a', n', c', h1, h2, h3.below hb⟩
/-- A row's ports, read. -/
theorem RowB.at' {W : World} {B n i : Nat} {a : Option Addr} (h : RowB W B a n) (hi : i < n) : ∃ g o a' n' c', a = some ⟨g, o, none⟩ ∧ W.cell? ⟨g, o + i * 2 + 1, none⟩ = some (.slice a' n' c') ∧ n' ≤ maxLen ∧ Blk W B 3 1 a' n' ∧ ∃ cur, RvAt W g 38 cur ∧ cur[o + i * 2 + 1]? = some (.slice a' n' c') := by
  rcases h with h | ⟨g, o, cur, ha, hB, hr, hl, hp⟩
  · omega
  · obtain ⟨a', n', c', h1, h2, h3⟩ := hp i hi
    exact ⟨g, o, a', n', c', ha, by rw [hr.get]; exact h1, h2, h3, cur, hr, h1⟩
/-- A row's number, written over. -/
theorem RowB.st {W : World} {B n i : Nat} {a : Option Addr} {z : Int} (h : RowB W B a n) (hi : i < n) :
    ∃ g o W' cur cur', a = some ⟨g, o, none⟩ ∧ (∀ q, q = o + i * 2 → (stS 3 (.pointer (some ⟨g, q, none⟩)) (.int .i64 z)).run Try.prog W = .ok () W') ∧ Ovr W W' B g 38 cur cur' ∧ RowB W' B a n := by
  rcases h with h | ⟨g, o, cur, ha, hB, hr, hl, hp⟩
  · omega
  · have s : Ovr W (W.setRow g (cur.toList.set (o + i * 2) (.int .i64 z)).toArray) B g 38 cur (cur.toList.set (o + i * 2) (.int .i64 z)).toArray := ⟨hB, hr, RvAt.set hr, by simp, grown_row _ _ _⟩
    refine ⟨g, o, _, cur, _, ha, fun q hq => by rw [hq]; exact RvAt.st1 hr infoI (by omega) rfl, s, Or.inr ⟨g, o, _, ha, hB, s.now, by rw [s.size]; exact hl, fun j hj => ?_⟩⟩
    obtain ⟨a', n', c', h1, h2, h3⟩ := hp j hj
    refine ⟨a', n', c', ?_, h2, h3.ovr s⟩
    rw [List.getElem?_toArray, List.getElem?_set, if_neg (by omega), Array.getElem?_toList]
    exact h1
/-- What is told, to be written over: its variable, its rows. -/
structure QW (W : World) (B g : Nat) (x : Pr) (ka : Option Addr) (kn : Nat) (ma : Option Addr) (mn : Nat) (ca : Option Addr) (cn : Nat) (ba : Option Addr) (bn : Nat) : Prop where
  var : PrAt W g x
  k : Blk W B 31 1 ka kn
  m : Blk W B 40 3 ma mn
  c : Blk W B 42 2 ca cn
  b : RowB W B ba bn
variable {W W' : World} {B g : Nat} {x : Pr} {ka : Option Addr} {kn : Nat} {ma : Option Addr} {mn : Nat} {ca : Option Addr} {cn : Nat} {ba : Option Addr} {bn : Nat}
theorem QW.below (h : QW W B g x ka kn ma mn ca cn ba bn) (hb : Below W.heap.size W W') : QW W' B g x ka kn ma mn ca cn ba bn := ⟨h.var.below hb, h.k.below hb, h.m.below hb, h.c.below hb, h.b.below hb⟩
theorem QW.ovr (h : QW W B g x ka kn ma mn ca cn ba bn) {g' T' : Nat} {cur cur' : Array Value} (s : Ovr W W' B g' T' cur cur') (h1 : T' ≠ 38) (h2 : T' ≠ 29) : QW W' B g x ka kn ma mn ca cn ba bn :=
  ⟨RvAt.keptBut h.var s.gb (by simp; intro e; subst e; exact h2 ((RvAt.uni h.var s.was).1.symm)), h.k.ovr s, h.m.ovr s, h.c.ovr s, h.b.ovr s h1⟩
theorem QW.ovrB (h : QW W B g x ka kn ma mn ca cn ba bn) {g' : Nat} {cur cur' : Array Value} (s : Ovr W W' B g' 38 cur cur') (hb : RowB W' B ba bn) : QW W' B g x ka kn ma mn ca cn ba bn :=
  ⟨RvAt.keptBut h.var s.gb (by simp; intro e; subst e; exact absurd (RvAt.uni h.var s.was).1 (by decide)), h.k.ovr s, h.m.ovr s, h.c.ovr s, hb⟩
theorem QW.of {p : Pv} (h : IsOwn W B x p) (hv : PrAt W g x) : ∃ ka kn kc ma mn mc ca cn cc ba bn bc, x.k = .slice ka kn kc ∧ x.m = .slice ma mn mc ∧ x.c = .slice ca cn cc ∧ x.b = .slice ba bn bc ∧ kn ≤ maxLen ∧ mn ≤ maxLen ∧ cn ≤ maxLen ∧ bn ≤ maxLen ∧ QW W B g x ka kn ma mn ca cn ba bn := by
  obtain ⟨ka, kc, hk, k1⟩ := Blk.of h.k
  obtain ⟨ma, mc, hm, m1⟩ := Blk.of h.m
  obtain ⟨ca, cc, hc, c1⟩ := Blk.of h.c
  obtain ⟨r, hr, hl⟩ := h.b
  obtain ⟨ba, bc, hb, b1⟩ := RowB.of hr hl
  have q : ∀ {α : Type} {e : El α} {v : Value} {l : List α}, Own e W B v l → l.length ≤ maxLen := fun ho => by
    obtain ⟨_, _, _, hs, _⟩ := ho.form
    exact Nat.le_trans hs.cap hs.max
  exact ⟨ka, _, kc, ma, _, mc, ca, _, cc, ba, _, bc, hk, hm, hc, hb, q h.k, q h.m, q h.c, q hr, hv, k1, m1, c1, b1⟩
theorem Ovr.bel {w : World} {T : Nat} {cur cur' : Array Value} (s : Ovr W W' w.heap.size g T cur cur') (h : Below w.heap.size w W) : Below w.heap.size w W' := Go.Proofs.Ytmfjlhcobhilcab.gro h s.gb s.lo h.size
end Go.Proofs.Ytmfjlhcobhilcab
