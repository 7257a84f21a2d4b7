/-
  What vectors, times, addresses and numbers that are handed in are; closed facts of the program.
-/
import Derived.Test.YtdpaclfnjiegbaaBest
import Derived.Handy
import Derived.OpenShut
import Derived.ChangeSlices
import Derived.ShutString
import Derived.ChangeOld
import Derived.Deep.Slices
namespace Go.Proofs.Ytdpaclfnjiegbaa
set_option linter.unusedVariables false
set_option maxRecDepth 4000
open Go.ChangeShapes Go.WideShapes Go.ChangeAt Go.RowKit

theorem own : ownKnob Try.prog.godebug = none := by kernel_rfl
theorem laidOut : laidOutB Try.prog = true := by kernel_rfl
theorem cellsM : Try.prog.cellsOf 37 = 6 := by kernel_rfl
theorem cells8 : Try.prog.cellsOf 5 = 1 := by kernel_rfl
theorem open_mac {H : Type} {enc : TypeId × Value → H} {W : World} {base : Nat} {sp : Nat → Bool} {v : Value} {d : DataW H} {p : List MemPlace}
    (hv : Value.okWide Try.prog W .any base 37 v) (h : DataW.Trod enc Try.prog W 0 sp true 37 v d p) :
    ∃ a b c x y z : Int, v = .agg #[.int .u8 a, .int .u8 b, .int .u8 c, .int .u8 x, .int .u8 y, .int .u8 z] ∧ (0 ≤ a ∧ a ≤ 255) ∧ (0 ≤ b ∧ b ≤ 255) ∧ (0 ≤ c ∧ c ≤ 255) ∧ (0 ≤ x ∧ x ≤ 255) ∧ (0 ≤ y ∧ y ≤ 255) ∧ (0 ≤ z ∧ z ≤ 255) := by
  obtain ⟨cs, rfl, hsz, _⟩ : ∃ cs, v = .agg cs ∧ cs.size = Try.prog.cellsOf 37 ∧ Row.okWide Try.prog W .any base 37 cs := by
    simpa [Value.okWide, Try.underlying37] using hv
  rw [cellsM] at hsz
  obtain ⟨l⟩ := cs
  match l, hsz with
  | [c0, c1, c2, c3, c4, c5], _ =>
    obtain ⟨fuel, hf⟩ := h
    obtain ⟨xs, m, _, _, _, hl, hg⟩ := DataW.trod_array Try.underlying37 hf
    simp only [cells8, Value.cells] at hg
    have get : ∀ (i : Nat) (cv : Value), i < 6 → (([c0, c1, c2, c3, c4, c5] : List Value).drop (i * 1)).take 1 = [cv] → ∃ n : Int, cv = .int .u8 n ∧ 0 ≤ n ∧ n ≤ 255 := by
      intro i cv hi e
      have := hg i hi
      rw [e] at this
      rw [List.getElem?_eq_getElem (by omega)] at this
      obtain ⟨n, e1, _, wn⟩ := DataW.trod_int Try.underlying5 this
      simp at e1
      exact ⟨n, e1, bounds_u8 wn⟩
    obtain ⟨n0, rfl, g0⟩ := get 0 c0 (by omega) rfl
    obtain ⟨n1, rfl, g1⟩ := get 1 c1 (by omega) rfl
    obtain ⟨n2, rfl, g2⟩ := get 2 c2 (by omega) rfl
    obtain ⟨n3, rfl, g3⟩ := get 3 c3 (by omega) rfl
    obtain ⟨n4, rfl, g4⟩ := get 4 c4 (by omega) rfl
    obtain ⟨n5, rfl, g5⟩ := get 5 c5 (by omega) rfl
    exact ⟨n0, n1, n2, n3, n4, n5, rfl, g0, g1, g2, g3, g4, g5⟩
theorem cells64 : Try.prog.cellsOf 22 = 1 := by kernel_rfl
theorem cells32 : Try.prog.cellsOf 23 = 1 := by kernel_rfl
theorem cells16 : Try.prog.cellsOf 24 = 1 := by kernel_rfl
theorem cellsV : Try.prog.cellsOf 26 = 4 := by kernel_rfl
theorem cellsT : Try.prog.cellsOf 44 = 4 := by kernel_rfl
theorem open_v4 {H : Type} {enc : TypeId × Value → H} {W : World} {b : Nat} {sp : Nat → Bool} {fuel : Nat} {x : DataW H × List MemPlace} {c0 c1 c2 c3 : Value}
    (hf : DataW.trod enc Try.prog W b sp true fuel 26 [c0, c1, c2, c3] = some x) : ∃ v : Vc, [c0, c1, c2, c3] = v.cs.toList ∧ v.wf := by
  obtain ⟨xs, m, _, _, _, hl, hg⟩ := DataW.trod_struct Try.underlying26 hf
  have hl' : xs.length = 4 := hl
  have g0 : DataW.trod enc Try.prog W b sp true m 22 ((([c0, c1, c2, c3] : List Value).drop 0).take (Try.prog.cellsOf 22)) = xs[0]? := hg 0 _ rfl
  rw [cells64, List.getElem?_eq_getElem (by omega)] at g0
  have g1 : DataW.trod enc Try.prog W b sp true m 23 ((([c0, c1, c2, c3] : List Value).drop 1).take (Try.prog.cellsOf 23)) = xs[1]? := hg 1 _ rfl
  rw [cells32, List.getElem?_eq_getElem (by omega)] at g1
  have g2 : DataW.trod enc Try.prog W b sp true m 22 ((([c0, c1, c2, c3] : List Value).drop 2).take (Try.prog.cellsOf 22)) = xs[2]? := hg 2 _ rfl
  rw [cells64, List.getElem?_eq_getElem (by omega)] at g2
  have g3 : DataW.trod enc Try.prog W b sp true m 24 ((([c0, c1, c2, c3] : List Value).drop 3).take (Try.prog.cellsOf 24)) = xs[3]? := hg 3 _ rfl
  rw [cells16, List.getElem?_eq_getElem (by omega)] at g3
  obtain ⟨n0, e0, _, w0⟩ := DataW.trod_int Try.underlying22 g0
  obtain ⟨n1, e1, _, w1⟩ := DataW.trod_int Try.underlying23 g1
  obtain ⟨n2, e2, _, w2⟩ := DataW.trod_int Try.underlying22 g2
  obtain ⟨n3, e3, _, w3⟩ := DataW.trod_int Try.underlying24 g3
  simp at e0 e1 e2 e3
  subst e0 e1 e2 e3
  have x0 := bounds_u64 w0
  have x1 := bounds_u32 w1
  have x2 := bounds_u64 w2
  have x3 := bounds_u16 w3
  exact ⟨⟨n0, n1, n2, n3⟩, rfl, by show 0 ≤ n0 ∧ _; omega, by show 0 ≤ n1 ∧ _; omega, by show 0 ≤ n2 ∧ _; omega, by show 0 ≤ n3 ∧ _; omega⟩
theorem open_vec {H : Type} {enc : TypeId × Value → H} {W : World} {base : Nat} {sp : Nat → Bool} {v : Value} {dd : DataW H} {pl : List MemPlace}
    (hv : Value.okWide Try.prog W .any base 26 v) (h : DataW.Trod enc Try.prog W 0 sp true 26 v dd pl) : ∃ m : Vc, v = .agg m.cs ∧ m.wf := by
  obtain ⟨cs, rfl, hsz, _⟩ : ∃ cs, v = .agg cs ∧ cs.size = Try.prog.cellsOf 26 ∧ Row.okWide Try.prog W .any base 26 cs := by
    simpa [Value.okWide, Try.underlying26] using hv
  rw [cellsV] at hsz
  obtain ⟨l⟩ := cs
  obtain ⟨fuel, hf⟩ := h
  match l, hsz with
  | [c0, c1, c2, c3], _ =>
    obtain ⟨m, e, hm⟩ := open_v4 (show DataW.trod enc Try.prog W 0 sp true fuel 26 [c0, c1, c2, c3] = some (dd, pl) from hf)
    refine ⟨m, ?_, hm⟩
    rw [e]
theorem open_times {H : Type} {enc : TypeId × Value → H} {W : World} {base : Nat} {sp : Nat → Bool} {v : Value} {dd : DataW H} {pl : List MemPlace}
    (hv : Value.okWide Try.prog W .any base 44 v) (h : DataW.Trod enc Try.prog W 0 sp true 44 v dd pl) :
    ∃ a x y d : Int, v = .agg #[.int .u8 a, .int .u8 x, .int .u8 y, .int .u8 d] ∧ (0 ≤ a ∧ a ≤ 255) ∧ (0 ≤ x ∧ x ≤ 255) ∧ (0 ≤ y ∧ y ≤ 255) ∧ (0 ≤ d ∧ d ≤ 255) := by
  obtain ⟨cs, rfl, hsz, _⟩ : ∃ cs, v = .agg cs ∧ cs.size = Try.prog.cellsOf 44 ∧ Row.okWide Try.prog W .any base 44 cs := by
    simpa [Value.okWide, Try.underlying44] using hv
  rw [cellsT] at hsz
  obtain ⟨l⟩ := cs
  obtain ⟨fuel, hf⟩ := h
  match l, hsz with
  | [c0, c1, c2, c3], _ =>
    have hf' : DataW.trod enc Try.prog W 0 sp true fuel 44 [c0, c1, c2, c3] = some (dd, pl) := hf
    obtain ⟨xs, m, _, _, _, hl, hg⟩ := DataW.trod_struct Try.underlying44 hf'
    have hl' : xs.length = 4 := hl
    have g0 : DataW.trod enc Try.prog W 0 sp true m 5 ((([c0, c1, c2, c3] : List Value).drop 0).take (Try.prog.cellsOf 5)) = xs[0]? := hg 0 _ rfl
    rw [cells8, List.getElem?_eq_getElem (by omega)] at g0
    have g1 : DataW.trod enc Try.prog W 0 sp true m 5 ((([c0, c1, c2, c3] : List Value).drop 1).take (Try.prog.cellsOf 5)) = xs[1]? := hg 1 _ rfl
    rw [cells8, List.getElem?_eq_getElem (by omega)] at g1
    have g2 : DataW.trod enc Try.prog W 0 sp true m 5 ((([c0, c1, c2, c3] : List Value).drop 2).take (Try.prog.cellsOf 5)) = xs[2]? := hg 2 _ rfl
    rw [cells8, List.getElem?_eq_getElem (by omega)] at g2
    have g3 : DataW.trod enc Try.prog W 0 sp true m 5 ((([c0, c1, c2, c3] : List Value).drop 3).take (Try.prog.cellsOf 5)) = xs[3]? := hg 3 _ rfl
    rw [cells8, List.getElem?_eq_getElem (by omega)] at g3
    obtain ⟨n0, e0, _, w0⟩ := DataW.trod_int Try.underlying5 g0
    obtain ⟨n1, e1, _, w1⟩ := DataW.trod_int Try.underlying5 g1
    obtain ⟨n2, e2, _, w2⟩ := DataW.trod_int Try.underlying5 g2
    obtain ⟨n3, e3, _, w3⟩ := DataW.trod_int Try.underlying5 g3
    simp at e0 e1 e2 e3
    subst e0 e1 e2 e3
    exact ⟨n0, n1, n2, n3, rfl, bounds_u8 w0, bounds_u8 w1, bounds_u8 w2, bounds_u8 w3⟩
theorem cells_four {W : World} {base : Nat} {a : Addr} {cs : List Value} (h : W.cells? base a 4 = some cs) : ∃ c0 c1 c2 c3, cs = [c0, c1, c2, c3] ∧ W.cell? (a.add 0) = some c0 ∧ W.cell? (a.add 1) = some c1 ∧ W.cell? (a.add 2) = some c2 ∧ W.cell? (a.add 3) = some c3 := by
  unfold World.cells? at h
  split at h
  · rw [show List.range 4 = [0, 1, 2, 3] from rfl] at h
    simp only [List.mapM_cons, List.mapM_nil, Option.bind_eq_bind, Option.bind_eq_some_iff, Option.pure_def, Option.some.injEq] at h
    obtain ⟨c0, h0, l1, ⟨c1, h1, l2, ⟨c2, h2, l3, ⟨c3, h3, l4, rfl, rfl⟩, rfl⟩, rfl⟩, rfl⟩ := h
    exact ⟨c0, c1, c2, c3, rfl, h0, h1, h2, h3⟩
  · cases h
theorem open_vecs {H : Type} {enc : TypeId × Value → H} {W : World} {base : Nat} {v : Value} {dd : DataW H} {pl : List MemPlace}
    (hv : Value.okWide Try.prog W .any base 30 v) (h : DataW.Trod enc Try.prog W 0 (fun _ => true) true 30 v dd pl) :
    ∃ (a : Option Addr) (n c : Nat) (l : List Vc), v = .slice a n c ∧ VsAt W a n c l ∧ ∀ u ∈ l, u.wf := by
  obtain ⟨a0, n0, c0, rfl⟩ := okWide_slice Try.underlying30 hv
  obtain ⟨fuel, hf⟩ := h
  rcases Go.Deep.open_slice Try.underlying30 hf with ⟨hcs, _⟩ | ⟨a, len, cap, m, k, D, Pl, hcs, _, hl, hm, hmm, _, hel⟩
  · simp [Value.cells] at hcs
    obtain ⟨rfl, rfl, rfl⟩ := hcs
    exact ⟨none, 0, 0, [], rfl, ⟨rfl, Nat.le_refl _, by simp, (fun h => by omega), (fun b o e => by cases e)⟩, by simp⟩
  · simp [Value.cells] at hcs
    obtain ⟨rfl, rfl, rfl⟩ := hcs
    have hmm' : m = c0 := by simpa using hmm
    subst hmm'
    have key : ∀ i, i < n0 → ∃ u : Vc, u.wf ∧ ∀ j x, u.cs.toList[j]? = some x → W.cell? ((a.add (i * 4)).add j) = some x := by
      intro i hi
      obtain ⟨cs', h1, h2⟩ := hel i (by omega)
      rw [cellsV] at h1
      obtain ⟨x0, x1, x2, x3, rfl, y0, y1, y2, y3⟩ := cells_four h1
      obtain ⟨u, e, hu⟩ := open_v4 h2
      refine ⟨u, hu, fun j x hj => ?_⟩
      rw [← e] at hj
      match j, hj with
      | 0, hj => cases hj; exact y0
      | 1, hj => cases hj; exact y1
      | 2, hj => cases hj; exact y2
      | 3, hj => cases hj; exact y3
      | j + 4, hj => simp at hj
    have : Inhabited Vc := ⟨zeroV⟩
    obtain ⟨V, hV⟩ := Go.Deep.choose_lt key
    have hg : ∀ j, j < n0 → gtV ((List.range n0).map V) j = V j := by
      intro j hj
      simp [gtV, List.getD_eq_getElem?_getD, hj]
    refine ⟨some a, n0, m, (List.range n0).map V, rfl, ⟨by simp, hl, hm, ?_, ?_⟩, ?_⟩
    · intro hn
      have h0 := (hV 0 hn).2 0 _ rfl
      obtain ⟨b, o, sp⟩ := a
      have hsp : sp = none := by simpa [Addr.add] using World.cell?_spot h0
      subst hsp
      exact ⟨b, o, rfl⟩
    · intro b o e j hj k x hk
      cases e
      rw [hg j hj] at hk
      have := (hV j hj).2 k x hk
      rwa [Addr.add_lit, Addr.add_lit] at this
    · intro u hu
      obtain ⟨i, hi, rfl⟩ := List.mem_map.1 hu
      exact (hV i (by simpa using hi)).1
end Go.Proofs.Ytdpaclfnjiegbaa
