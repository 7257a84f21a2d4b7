/-
  What calls, addresses and numbers that are handed in are; closed facts of the program.
-/
import Derived.Test.YtoelpbajaadfeaaAwake
import Derived.Handy
import Derived.OpenShut
import Derived.ChangeSlices
import Derived.ShutString
import Derived.ChangeOld
import Derived.Deep.Slices
namespace Go.Proofs.Ytoelpbajaadfeaa
set_option linter.unusedVariables false
set_option maxRecDepth 4000
open Go.ChangeShapes Go.WideShapes Go.ChangeAt Go.RowKit

theorem own : ownKnob Try.prog.godebug = none := by kernel_rfl
theorem cellsO : Try.prog.cellsOf 40 = 16 := by kernel_rfl
theorem mac_cells {H : Type} {enc : TypeId × Value → H} {W : World} {b fuel : Nat} {sp : Nat → Bool} {c0 c1 c2 c3 c4 c5 : Value} {r : DataW H × List MemPlace} (hf : DataW.trod enc Try.prog W b sp true fuel 38 [c0, c1, c2, c3, c4, c5] = some r) :
    ∃ a b c x y z : Int, [c0, c1, c2, c3, c4, c5] = [.int .u8 a, .int .u8 b, .int .u8 c, .int .u8 x, .int .u8 y, .int .u8 z] ∧ (0 ≤ a ∧ a ≤ 255) ∧ (0 ≤ b ∧ b ≤ 255) ∧ (0 ≤ c ∧ c ≤ 255) ∧ (0 ≤ x ∧ x ≤ 255) ∧ (0 ≤ y ∧ y ≤ 255) ∧ (0 ≤ z ∧ z ≤ 255) := by
  obtain ⟨dd, pl⟩ := r
  obtain ⟨xs, m, _, _, _, hl, hg⟩ := DataW.trod_array Try.underlying38 hf
  simp only [u8Cells] at hg
  have get : ∀ (i : Nat) (cv : Value), i < 6 → (([c0, c1, c2, c3, c4, c5] : List Value).drop (i * 1)).take 1 = [cv] → ∃ n : Int, cv = .int .u8 n ∧ 0 ≤ n ∧ n ≤ 255 := by
    intro i cv hi e
    have := hg i hi
    rw [e] at this
    rw [List.getElem?_eq_getElem (by omega)] at this
    obtain ⟨n, e1, _, wn⟩ := DataW.trod_int Try.underlying5 this
    simp at e1
    exact ⟨n, e1, bounds_u8 wn⟩
  obtain ⟨n0, rfl, g0⟩ := get 0 c0 (by omega) rfl
  obtain ⟨n1, rfl, g1⟩ := get 1 c1 (by omega) rfl
  obtain ⟨n2, rfl, g2⟩ := get 2 c2 (by omega) rfl
  obtain ⟨n3, rfl, g3⟩ := get 3 c3 (by omega) rfl
  obtain ⟨n4, rfl, g4⟩ := get 4 c4 (by omega) rfl
  obtain ⟨n5, rfl, g5⟩ := get 5 c5 (by omega) rfl
  exact ⟨n0, n1, n2, n3, n4, n5, rfl, g0, g1, g2, g3, g4, g5⟩
theorem open_o16 {H : Type} {enc : TypeId × Value → H} {W : World} {b fuel : Nat} {sp : Nat → Bool} {c0 c1 c2 c3 c4 c5 c6 c7 c8 c9 c10 c11 c12 c13 c14 c15 : Value} {r : DataW H × List MemPlace} (hf : DataW.trod enc Try.prog W b sp true fuel 40 [c0, c1, c2, c3, c4, c5, c6, c7, c8, c9, c10, c11, c12, c13, c14, c15] = some r) :
    ∃ o : Oq, [c0, c1, c2, c3, c4, c5, c6, c7, c8, c9, c10, c11, c12, c13, c14, c15] = o.cs.toList ∧ o.wf := by
  obtain ⟨dd, pl⟩ := r
  obtain ⟨xs, m, _, _, _, hl, hg⟩ := DataW.trod_struct Try.underlying40 hf
  have hl' : xs.length = 6 := hl
  have g0 : DataW.trod enc Try.prog W b sp true m 5 ((([c0, c1, c2, c3, c4, c5, c6, c7, c8, c9, c10, c11, c12, c13, c14, c15] : List Value).drop 0).take (Try.prog.cellsOf 5)) = xs[0]? := hg 0 _ rfl
  rw [u8Cells, List.getElem?_eq_getElem (by omega)] at g0
  have g1 : DataW.trod enc Try.prog W b sp true m 3 ((([c0, c1, c2, c3, c4, c5, c6, c7, c8, c9, c10, c11, c12, c13, c14, c15] : List Value).drop 1).take (Try.prog.cellsOf 3)) = xs[1]? := hg 1 _ rfl
  rw [intCells, List.getElem?_eq_getElem (by omega)] at g1
  have g2 : DataW.trod enc Try.prog W b sp true m 3 ((([c0, c1, c2, c3, c4, c5, c6, c7, c8, c9, c10, c11, c12, c13, c14, c15] : List Value).drop 2).take (Try.prog.cellsOf 3)) = xs[2]? := hg 2 _ rfl
  rw [intCells, List.getElem?_eq_getElem (by omega)] at g2
  have g3 : DataW.trod enc Try.prog W b sp true m 38 ((([c0, c1, c2, c3, c4, c5, c6, c7, c8, c9, c10, c11, c12, c13, c14, c15] : List Value).drop 3).take (Try.prog.cellsOf 38)) = xs[3]? := hg 3 _ rfl
  rw [macCells, List.getElem?_eq_getElem (by omega)] at g3
  have g4 : DataW.trod enc Try.prog W b sp true m 38 ((([c0, c1, c2, c3, c4, c5, c6, c7, c8, c9, c10, c11, c12, c13, c14, c15] : List Value).drop 9).take (Try.prog.cellsOf 38)) = xs[4]? := hg 4 _ rfl
  rw [macCells, List.getElem?_eq_getElem (by omega)] at g4
  have g5 : DataW.trod enc Try.prog W b sp true m 3 ((([c0, c1, c2, c3, c4, c5, c6, c7, c8, c9, c10, c11, c12, c13, c14, c15] : List Value).drop 15).take (Try.prog.cellsOf 3)) = xs[5]? := hg 5 _ rfl
  rw [intCells, List.getElem?_eq_getElem (by omega)] at g5
  obtain ⟨n0, e0, _, w0⟩ := DataW.trod_int Try.underlying5 g0
  obtain ⟨n1, e1, _, w1⟩ := DataW.trod_int Try.underlying3 g1
  obtain ⟨n2, e2, _, w2⟩ := DataW.trod_int Try.underlying3 g2
  obtain ⟨n5, e5, _, w5⟩ := DataW.trod_int Try.underlying3 g5
  obtain ⟨a, b', c, x, y, z, e, h1, h2, h3, h4, h5, h6⟩ := mac_cells (show DataW.trod enc Try.prog W b sp true m 38 [c3, c4, c5, c6, c7, c8] = some _ from g3)
  obtain ⟨a', b'', c', x', y', z', e', h1', h2', h3', h4', h5', h6'⟩ := mac_cells (show DataW.trod enc Try.prog W b sp true m 38 [c9, c10, c11, c12, c13, c14] = some _ from g4)
  simp at e0 e1 e2 e5 e e'
  obtain ⟨rfl, rfl, rfl, rfl, rfl, rfl⟩ := e
  obtain ⟨rfl, rfl, rfl, rfl, rfl, rfl⟩ := e'
  subst e0 e1 e2 e5
  exact ⟨⟨n0, n1, n2, ⟨a, b', c, x, y, z⟩, ⟨a', b'', c', x', y', z'⟩, n5⟩, rfl, ⟨bounds_u8 w0, bounds_i64 w1, ⟨h1, h2, h3, h4, h5, h6⟩, ⟨h1', h2', h3', h4', h5', h6'⟩⟩⟩
theorem open_op {H : Type} {enc : TypeId × Value → H} {W : World} {base : Nat} {sp : Nat → Bool} {v : Value} {dd : DataW H} {pl : List MemPlace}
    (hv : Value.okWide Try.prog W .any base 40 v) (h : DataW.Trod enc Try.prog W 0 sp true 40 v dd pl) : ∃ o : Oq, v = .agg o.cs ∧ o.wf := by
  obtain ⟨cs, rfl, hsz, _⟩ : ∃ cs, v = .agg cs ∧ cs.size = Try.prog.cellsOf 40 ∧ Row.okWide Try.prog W .any base 40 cs := by
    simpa [Value.okWide, Try.underlying40] using hv
  rw [cellsO] at hsz
  obtain ⟨l⟩ := cs
  obtain ⟨fuel, hf⟩ := h
  match l, hsz with
  | [c0, c1, c2, c3, c4, c5, c6, c7, c8, c9, c10, c11, c12, c13, c14, c15], _ =>
    obtain ⟨o, e, ho⟩ := open_o16 (show DataW.trod enc Try.prog W 0 sp true fuel 40 [c0, c1, c2, c3, c4, c5, c6, c7, c8, c9, c10, c11, c12, c13, c14, c15] = some (dd, pl) from hf)
    refine ⟨o, ?_, ho⟩
    rw [e]
theorem cells_ten {W : World} {base : Nat} {a : Addr} {cs : List Value} (h : W.cells? base a 16 = some cs) : ∃ c0 c1 c2 c3 c4 c5 c6 c7 c8 c9 c10 c11 c12 c13 c14 c15, cs = [c0, c1, c2, c3, c4, c5, c6, c7, c8, c9, c10, c11, c12, c13, c14, c15] ∧ ∀ j x, [c0, c1, c2, c3, c4, c5, c6, c7, c8, c9, c10, c11, c12, c13, c14, c15][j]? = some x → W.cell? (a.add j) = some x := by
  unfold World.cells? at h
  split at h
  · rw [show List.range 16 = [0, 1, 2, 3, 4, 5, 6, 7, 8, 9, 10, 11, 12, 13, 14, 15] from rfl] at h
    simp only [List.mapM_cons, List.mapM_nil, Option.bind_eq_bind, Option.bind_eq_some_iff, Option.pure_def, Option.some.injEq] at h
    obtain ⟨c0, h0, l1, ⟨c1, h1, l2, ⟨c2, h2, l3, ⟨c3, h3, l4, ⟨c4, h4, l5, ⟨c5, h5, l6, ⟨c6, h6, l7, ⟨c7, h7, l8, ⟨c8, h8, l9, ⟨c9, h9, l10, ⟨c10, h10, l11, ⟨c11, h11, l12, ⟨c12, h12, l13, ⟨c13, h13, l14, ⟨c14, h14, l15, ⟨c15, h15, l16, rfl, rfl⟩, rfl⟩, rfl⟩, rfl⟩, rfl⟩, rfl⟩, rfl⟩, rfl⟩, rfl⟩, rfl⟩, rfl⟩, rfl⟩, rfl⟩, rfl⟩, rfl⟩, rfl⟩ := h
    refine ⟨c0, c1, c2, c3, c4, c5, c6, c7, c8, c9, c10, c11, c12, c13, c14, c15, rfl, fun j x hj => ?_⟩
    match j, hj with
    | 0, hj => cases hj; exact h0
    | 1, hj => cases hj; exact h1
    | 2, hj => cases hj; exact h2
    | 3, hj => cases hj; exact h3
    | 4, hj => cases hj; exact h4
    | 5, hj => cases hj; exact h5
    | 6, hj => cases hj; exact h6
    | 7, hj => cases hj; exact h7
    | 8, hj => cases hj; exact h8
    | 9, hj => cases hj; exact h9
    | 10, hj => cases hj; exact h10
    | 11, hj => cases hj; exact h11
    | 12, hj => cases hj; exact h12
    | 13, hj => cases hj; exact h13
    | 14, hj => cases hj; exact h14
    | 15, hj => cases hj; exact h15
    | j + 16, hj => simp at hj
  · cases h
def zeroO : Oq := ⟨0, 0, 0, Ad.zero, Ad.zero, 0⟩
def gtO (l : List Oq) (i : Nat) : Oq := l.getD i zeroO
/-- The slice leads to the calls l. -/
def OpsAt (W : World) (a : Option Addr) (n c : Nat) (l : List Oq) : Prop :=
  l.length = n ∧ n ≤ c ∧ c ≤ maxLen ∧ (0 < n → ∃ b o, a = some ⟨b, o, none⟩) ∧ (∀ x ∈ l, x.wf) ∧ ∀ b o, a = some ⟨b, o, none⟩ → ∀ j, j < n → W.rangeAt b (o + j * 16) (gtO l j).cs.toList
theorem OpsAt.below {W W' : World} {a : Option Addr} {n c : Nat} {l : List Oq} (h : OpsAt W a n c l) (hb : Below W.heap.size W W') : OpsAt W' a n c l := by
  obtain ⟨h1, h2, h3, h4, hw, h5⟩ := h
  refine ⟨h1, h2, h3, h4, hw, fun b o e j hj k v hv => ?_⟩
  have := h5 b o e j hj k v hv
  exact (hb.cell (World.block_lt_of_cell? W _ this)).trans this
theorem OpsAt.wf {W : World} {a : Option Addr} {n c : Nat} {l : List Oq} (h : OpsAt W a n c l) (j : Nat) (hj : j < n) : (gtO l j).wf := by
  unfold gtO
  rw [List.getD_eq_getElem?_getD, List.getElem?_eq_getElem (by have := h.1; omega)]
  exact h.2.2.2.2.1 _ (List.getElem_mem _)
theorem OpsAt.ld {W : World} {b o n c : Nat} {l : List Oq} (h : OpsAt W (some ⟨b, o, none⟩) n c l) (j : Nat) (hj : j < n) : (ldS 40 (.pointer (some ⟨b, o + j * 16, none⟩))).run Try.prog W = .ok (.agg (gtO l j).cs) W :=
  run_loadAt_mid W b (o + j * 16) 40 (gtO l j).cs.toList _ (h.2.2.2.2.2 b o rfl j hj) Try.underlying40 rfl infoO
theorem OpsAt.cell {W : World} {b o n c : Nat} {l : List Oq} (h : OpsAt W (some ⟨b, o, none⟩) n c l) (j : Nat) (hj : j < n) (k : Nat) (v : Value) (hv : (gtO l j).cs.toList[k]? = some v) : W.cell? ⟨b, o + j * 16 + k, none⟩ = some v := h.2.2.2.2.2 b o rfl j hj k v hv
theorem OpsAt.cmac {W : World} {b o n c : Nat} {l : List Oq} (h : OpsAt W (some ⟨b, o, none⟩) n c l) (i : Nat) (hi : i < n) : (ldS 38 (.pointer (some ⟨b, o + i * 16 + 3, none⟩))).run Try.prog W = .ok (.agg (gtO l i).c.cs) W :=
  run_loadAt_mid W b (o + i * 16 + 3) 38 (gtO l i).c.cs.toList _ (fun j v hv => by
    rw [Nat.add_assoc (o + i * 16) 3 j]
    refine h.cell i hi (3 + j) v ?_
    match j, hv with
    | 0, hx => cases hx; rfl
    | 1, hx => cases hx; rfl
    | 2, hx => cases hx; rfl
    | 3, hx => cases hx; rfl
    | 4, hx => cases hx; rfl
    | 5, hx => cases hx; rfl
    | j + 6, hx => simp [Ad.cs] at hx) Try.underlying38 rfl infoM
theorem OpsAt.bmac {W : World} {b o n c : Nat} {l : List Oq} (h : OpsAt W (some ⟨b, o, none⟩) n c l) (i : Nat) (hi : i < n) : (ldS 38 (.pointer (some ⟨b, o + i * 16 + 9, none⟩))).run Try.prog W = .ok (.agg (gtO l i).b.cs) W :=
  run_loadAt_mid W b (o + i * 16 + 9) 38 (gtO l i).b.cs.toList _ (fun j v hv => by
    rw [Nat.add_assoc (o + i * 16) 9 j]
    refine h.cell i hi (9 + j) v ?_
    match j, hv with
    | 0, hx => cases hx; rfl
    | 1, hx => cases hx; rfl
    | 2, hx => cases hx; rfl
    | 3, hx => cases hx; rfl
    | 4, hx => cases hx; rfl
    | 5, hx => cases hx; rfl
    | j + 6, hx => simp [Ad.cs] at hx) Try.underlying38 rfl infoM
theorem open_ops {H : Type} {enc : TypeId × Value → H} {W : World} {base : Nat} {v : Value} {dd : DataW H} {pl : List MemPlace}
    (hv : Value.okWide Try.prog W .any base 22 v) (h : DataW.Trod enc Try.prog W 0 (fun _ => true) true 22 v dd pl) :
    ∃ (a : Option Addr) (n c : Nat) (l : List Oq), v = .slice a n c ∧ OpsAt W a n c l := by
  obtain ⟨a0, n0, c0, rfl⟩ := okWide_slice Try.underlying22 hv
  obtain ⟨fuel, hf⟩ := h
  rcases Go.Deep.open_slice Try.underlying22 hf with ⟨hcs, _⟩ | ⟨a, len, cap, m, k, D, Pl, hcs, _, hl, hm, hmm, _, hel⟩
  · simp [Value.cells] at hcs
    obtain ⟨rfl, rfl, rfl⟩ := hcs
    exact ⟨none, 0, 0, [], rfl, rfl, Nat.le_refl _, by simp, (fun h => by omega), (fun x hx => by cases hx), (fun b o e => by cases e)⟩
  · simp [Value.cells] at hcs
    obtain ⟨rfl, rfl, rfl⟩ := hcs
    have hmm' : m = c0 := by simpa using hmm
    subst hmm'
    have key : ∀ i, i < n0 → ∃ u : Oq, u.wf ∧ ∀ j x, u.cs.toList[j]? = some x → W.cell? ((a.add (i * 16)).add j) = some x := by
      intro i hi
      obtain ⟨cs', h1, h2⟩ := hel i (by omega)
      rw [cellsO] at h1
      obtain ⟨x0, x1, x2, x3, x4, x5, x6, x7, x8, x9, x10, x11, x12, x13, x14, x15, rfl, y⟩ := cells_ten h1
      obtain ⟨u, e, hu⟩ := open_o16 h2
      refine ⟨u, hu, fun j x hj => ?_⟩
      rw [← e] at hj
      exact y j x hj
    have : Inhabited Oq := ⟨zeroO⟩
    obtain ⟨V, hV⟩ := Go.Deep.choose_lt key
    have hg : ∀ j, j < n0 → gtO ((List.range n0).map V) j = V j := by
      intro j hj
      simp [gtO, List.getD_eq_getElem?_getD, hj]
    refine ⟨some a, n0, m, (List.range n0).map V, rfl, by simp, hl, hm, ?_, ?_, ?_⟩
    · intro hn
      have h0 := (hV 0 hn).2 0 _ rfl
      obtain ⟨b, o, sp⟩ := a
      have hsp : sp = none := by simpa [Addr.add] using World.cell?_spot h0
      subst hsp
      exact ⟨b, o, rfl⟩
    · intro u hu
      obtain ⟨i, hi, rfl⟩ := List.mem_map.1 hu
      exact (hV i (by simpa using hi)).1
    · intro b o e j hj k x hk
      cases e
      rw [hg j hj] at hk
      have := (hV j hj).2 k x hk
      rwa [Addr.add_lit, Addr.add_lit] at this
/-- The slice leads to these bytes. -/
structure BsAt (W : World) (a : Option Addr) (n c : Nat) (l : List Int) : Prop where
  len : l.length = n
  cap : n ≤ c
  max : c ≤ maxLen
  some' : 0 < n → ∃ b o, a = some ⟨b, o, none⟩
  bnd : ∀ x ∈ l, 0 ≤ x ∧ x ≤ 255
  cells : ∀ b o, a = some ⟨b, o, none⟩ → ∀ j v, l[j]? = some v → W.cell? ⟨b, o + j, none⟩ = some (.int .u8 v)
theorem BsAt.below {W W' : World} {a : Option Addr} {n c : Nat} {l : List Int} (h : BsAt W a n c l) (hb : Below W.heap.size W W') : BsAt W' a n c l :=
  ⟨h.len, h.cap, h.max, h.some', h.bnd, fun b o e j v hv => by
    have := h.cells b o e j v hv
    exact (hb.cell (World.block_lt_of_cell? W _ this)).trans this⟩
theorem open_bytes {H : Type} {enc : TypeId × Value → H} {W : World} {base : Nat} {d : DataW H} {p : List MemPlace} {v : Value}
    (hv : Value.okWide Try.prog W .any base 42 v) (h : DataW.Trod enc Try.prog W 0 (fun _ => true) true 42 v d p) :
    ∃ (a : Option Addr) (n c : Nat) (l : List Int), v = .slice a n c ∧ BsAt W a n c l := by
  obtain ⟨a0, n0, c0, rfl⟩ := okWide_slice Try.underlying42 hv
  obtain ⟨fuel, hf⟩ := h
  rcases open_ints Try.underlying42 Try.underlying5 (by kernel_rfl) hf with ⟨hcs, _⟩ | ⟨x, l, c, zs, hcs, _, hl, hm, hz, _, hcell, hwz⟩
  · simp [Value.cells] at hcs
    obtain ⟨rfl, rfl, rfl⟩ := hcs
    exact ⟨none, 0, 0, [], rfl, ⟨rfl, Nat.le_refl _, by simp, (fun h => by omega), (fun x hx => by cases hx), fun b o e => by cases e⟩⟩
  · simp [Value.cells] at hcs
    obtain ⟨rfl, rfl, rfl⟩ := hcs
    have hz' : zs.length = c0 := by simpa using hz
    have ht : (zs.take n0).length = n0 := by simp; omega
    have key : ∀ j v, (zs.take n0)[j]? = some v → W.cell? (x.add j) = some (.int .u8 v) := fun j v hj => by
      have hj' : j < n0 := by
        have := (List.getElem?_eq_some_iff.1 hj).1
        omega
      rw [hcell j (by omega)]
      rw [List.getElem?_take_of_lt hj'] at hj
      simp [List.getD, hj]
    refine ⟨some x, n0, c0, zs.take n0, rfl, ⟨ht, hl, hm, ?_, ?_, ?_⟩⟩
    · intro hn
      have h0 := key 0 _ (List.getElem?_eq_getElem (by omega))
      obtain ⟨b, o, sp⟩ := x
      have hsp : sp = none := by simpa [Addr.add] using World.cell?_spot h0
      subst hsp
      exact ⟨b, o, rfl⟩
    · intro y hy
      exact bounds_u8 (hwz y (List.mem_of_mem_take hy))
    · intro b o e j v hj
      cases e
      have := key j v hj
      rwa [Addr.add_lit] at this
end Go.Proofs.Ytoelpbajaadfeaa
