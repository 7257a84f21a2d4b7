/-
  What a tag, a service's tag and bytes that are handed in are; two closed facts of the program.
-/
import Derived.Test.YteljcgdenagcmaaBytes
import Derived.Handy
import Derived.OpenShut
import Derived.ChangeSlices
import Derived.ShutString
import Derived.ChangeOld
namespace Go.Proofs.Yteljcgdenagcmaa
set_option linter.unusedVariables false
set_option maxRecDepth 4000
open Go.ChangeShapes Go.WideShapes Go.ChangeAt Go.RowKit

theorem own : ownKnob Try.prog.godebug = none := by kernel_rfl
theorem laidOut : laidOutB Try.prog = true := by kernel_rfl
theorem cells23 : Try.prog.cellsOf 25 = 3 := by kernel_rfl
theorem cells27 : Try.prog.cellsOf 27 = 16 := by kernel_rfl
theorem cells25 : Try.prog.cellsOf 23 = 6 := by kernel_rfl
theorem cells3 : Try.prog.cellsOf 3 = 1 := by kernel_rfl
theorem cells4 : Try.prog.cellsOf 4 = 1 := by kernel_rfl
theorem cells5 : Try.prog.cellsOf 5 = 1 := by kernel_rfl

theorem open_tag {H : Type} {enc : TypeId × Value → H} {W : World} {base : Nat} {sp : Nat → Bool} {v : Value} {d : DataW H} {p : List MemPlace}
    (hv : Value.okWide Try.prog W .any base 25 v) (h : DataW.Trod enc Try.prog W 0 sp true 25 v d p) :
    ∃ (a : Int) (b : Bool) (c : Int), v = .agg #[.int .i64 a, .bool b, .int .i64 c] := by
  obtain ⟨cs, rfl, hsz, _⟩ : ∃ cs, v = .agg cs ∧ cs.size = Try.prog.cellsOf 25 ∧ Row.okWide Try.prog W .any base 25 cs := by
    simpa [Value.okWide, Try.underlying25] using hv
  rw [cells23] at hsz
  obtain ⟨l⟩ := cs
  match l, hsz with
  | [c0, c1, c2], _ =>
    obtain ⟨fuel, hf⟩ := h
    obtain ⟨xs, m, _, _, _, hl, hg⟩ := DataW.trod_struct Try.underlying25 hf
    have hl' : xs.length = 3 := hl
    have g0 : DataW.trod enc Try.prog W 0 sp true m 3 ((([c0, c1, c2] : List Value).drop 0).take (Try.prog.cellsOf 3)) = xs[0]? := hg 0 _ rfl
    rw [cells3, List.getElem?_eq_getElem (by omega)] at g0
    have g1 : DataW.trod enc Try.prog W 0 sp true m 4 ((([c0, c1, c2] : List Value).drop 1).take (Try.prog.cellsOf 4)) = xs[1]? := hg 1 _ rfl
    rw [cells4, List.getElem?_eq_getElem (by omega)] at g1
    have g2 : DataW.trod enc Try.prog W 0 sp true m 3 ((([c0, c1, c2] : List Value).drop 2).take (Try.prog.cellsOf 3)) = xs[2]? := hg 2 _ rfl
    rw [cells3, List.getElem?_eq_getElem (by omega)] at g2
    obtain ⟨n0, e0, _, _⟩ := DataW.trod_int Try.underlying3 g0
    obtain ⟨n1, e1, _⟩ := DataW.trod_bool Try.underlying4 g1
    obtain ⟨n2, e2, _, _⟩ := DataW.trod_int Try.underlying3 g2
    simp at e0 e1 e2
    subst e0 e1 e2
    exact ⟨n0, n1, n2, rfl⟩

theorem open_six {H : Type} {enc : TypeId × Value → H} {W : World} {b : Nat} {sp : Nat → Bool} {m : Nat} {x : DataW H × List MemPlace} {c0 c1 c2 c3 c4 c5 : Value}
    (hf : DataW.trod enc Try.prog W b sp true m 23 [c0, c1, c2, c3, c4, c5] = some x) :
    ∃ a0 a1 a2 a3 a4 a5 : Int, c0 = .int .u8 a0 ∧ c1 = .int .u8 a1 ∧ c2 = .int .u8 a2 ∧ c3 = .int .u8 a3 ∧ c4 = .int .u8 a4 ∧ c5 = .int .u8 a5 := by
  obtain ⟨xs, m, _, _, _, hl, hg⟩ := DataW.trod_array Try.underlying23 hf
  simp only [cells5] at hg
  have get : ∀ (i : Nat) (cv : Value), i < 6 → (([c0, c1, c2, c3, c4, c5] : List Value).drop (i * 1)).take 1 = [cv] → ∃ n : Int, cv = .int .u8 n := by
    intro i cv hi e
    have := hg i hi
    rw [e] at this
    rw [List.getElem?_eq_getElem (by omega)] at this
    obtain ⟨n, e1, _, wn⟩ := DataW.trod_int Try.underlying5 this
    simp at e1
    exact ⟨n, e1⟩
  obtain ⟨n0, h0⟩ := get 0 c0 (by omega) rfl
  obtain ⟨n1, h1⟩ := get 1 c1 (by omega) rfl
  obtain ⟨n2, h2⟩ := get 2 c2 (by omega) rfl
  obtain ⟨n3, h3⟩ := get 3 c3 (by omega) rfl
  obtain ⟨n4, h4⟩ := get 4 c4 (by omega) rfl
  obtain ⟨n5, h5⟩ := get 5 c5 (by omega) rfl
  exact ⟨n0, n1, n2, n3, n4, n5, h0, h1, h2, h3, h4, h5⟩

theorem list16 {l : List Value} (h : l.length = 16) : ∃ c0 c1 c2 c3 c4 c5 c6 c7 c8 c9 c10 c11 c12 c13 c14 c15, l = [c0, c1, c2, c3, c4, c5, c6, c7, c8, c9, c10, c11, c12, c13, c14, c15] := by
  match l, h with
  | [c0, c1, c2, c3, c4, c5, c6, c7, c8, c9, c10, c11, c12, c13, c14, c15], _ => exact ⟨c0, c1, c2, c3, c4, c5, c6, c7, c8, c9, c10, c11, c12, c13, c14, c15, rfl⟩

theorem open_itag {H : Type} {enc : TypeId × Value → H} {W : World} {base : Nat} {sp : Nat → Bool} {v : Value} {dd : DataW H} {pl : List MemPlace}
    (hv : Value.okWide Try.prog W .any base 27 v) (h : DataW.Trod enc Try.prog W 0 sp true 27 v dd pl) :
    ∃ (p : Int) (d u : Bool) (i a0 a1 a2 a3 a4 a5 s0 s1 s2 s3 s4 s5 : Int), v = .agg #[.int .i64 p, .bool d, .bool u, .int .i64 i, .int .u8 a0, .int .u8 a1, .int .u8 a2, .int .u8 a3, .int .u8 a4, .int .u8 a5, .int .u8 s0, .int .u8 s1, .int .u8 s2, .int .u8 s3, .int .u8 s4, .int .u8 s5] := by
  obtain ⟨cs, rfl, hsz, _⟩ : ∃ cs, v = .agg cs ∧ cs.size = Try.prog.cellsOf 27 ∧ Row.okWide Try.prog W .any base 27 cs := by
    simpa [Value.okWide, Try.underlying27] using hv
  rw [cells27] at hsz
  obtain ⟨l⟩ := cs
  obtain ⟨c0, c1, c2, c3, c4, c5, c6, c7, c8, c9, c10, c11, c12, c13, c14, c15, rfl⟩ := list16 (show l.length = 16 from hsz)
  obtain ⟨fuel, hf⟩ := h
  obtain ⟨xs, m, _, _, _, hl, hg⟩ := DataW.trod_struct Try.underlying27 hf
  have hl' : xs.length = 6 := hl
  have g0 : DataW.trod enc Try.prog W 0 sp true m 3 ((([c0, c1, c2, c3, c4, c5, c6, c7, c8, c9, c10, c11, c12, c13, c14, c15] : List Value).drop 0).take (Try.prog.cellsOf 3)) = xs[0]? := hg 0 _ rfl
  rw [cells3, List.getElem?_eq_getElem (by omega)] at g0
  have g1 : DataW.trod enc Try.prog W 0 sp true m 4 ((([c0, c1, c2, c3, c4, c5, c6, c7, c8, c9, c10, c11, c12, c13, c14, c15] : List Value).drop 1).take (Try.prog.cellsOf 4)) = xs[1]? := hg 1 _ rfl
  rw [cells4, List.getElem?_eq_getElem (by omega)] at g1
  have g2 : DataW.trod enc Try.prog W 0 sp true m 4 ((([c0, c1, c2, c3, c4, c5, c6, c7, c8, c9, c10, c11, c12, c13, c14, c15] : List Value).drop 2).take (Try.prog.cellsOf 4)) = xs[2]? := hg 2 _ rfl
  rw [cells4, List.getElem?_eq_getElem (by omega)] at g2
  have g3 : DataW.trod enc Try.prog W 0 sp true m 3 ((([c0, c1, c2, c3, c4, c5, c6, c7, c8, c9, c10, c11, c12, c13, c14, c15] : List Value).drop 3).take (Try.prog.cellsOf 3)) = xs[3]? := hg 3 _ rfl
  rw [cells3, List.getElem?_eq_getElem (by omega)] at g3
  have g4 : DataW.trod enc Try.prog W 0 sp true m 23 ((([c0, c1, c2, c3, c4, c5, c6, c7, c8, c9, c10, c11, c12, c13, c14, c15] : List Value).drop 4).take (Try.prog.cellsOf 23)) = xs[4]? := hg 4 _ rfl
  rw [cells25, List.getElem?_eq_getElem (by omega)] at g4
  have g5 : DataW.trod enc Try.prog W 0 sp true m 23 ((([c0, c1, c2, c3, c4, c5, c6, c7, c8, c9, c10, c11, c12, c13, c14, c15] : List Value).drop 10).take (Try.prog.cellsOf 23)) = xs[5]? := hg 5 _ rfl
  rw [cells25, List.getElem?_eq_getElem (by omega)] at g5
  obtain ⟨n0, e0, _, _⟩ := DataW.trod_int Try.underlying3 g0
  obtain ⟨n1, e1, _⟩ := DataW.trod_bool Try.underlying4 g1
  obtain ⟨n2, e2, _⟩ := DataW.trod_bool Try.underlying4 g2
  obtain ⟨n3, e3, _, _⟩ := DataW.trod_int Try.underlying3 g3
  have f4 : DataW.trod enc Try.prog W 0 sp true m 23 [c4, c5, c6, c7, c8, c9] = some _ := g4
  have f5 : DataW.trod enc Try.prog W 0 sp true m 23 [c10, c11, c12, c13, c14, c15] = some _ := g5
  obtain ⟨a0, a1, a2, a3, a4, a5, rfl, rfl, rfl, rfl, rfl, rfl⟩ := open_six f4
  obtain ⟨s0, s1, s2, s3, s4, s5, rfl, rfl, rfl, rfl, rfl, rfl⟩ := open_six f5
  simp at e0 e1 e2 e3
  subst e0 e1 e2 e3
  exact ⟨n0, n1, n2, n3, a0, a1, a2, a3, a4, a5, s0, s1, s2, s3, s4, s5, rfl⟩

theorem open_bytes {H : Type} {enc : TypeId × Value → H} {W : World} {base : Nat} {d : DataW H} {p : List MemPlace} {v : Value}
    (hv : Value.okWide Try.prog W .any base 28 v) (h : DataW.Trod enc Try.prog W 0 (fun _ => true) true 28 v d p) :
    ∃ (a : Option Addr) (n c : Nat) (l : List Int), v = .slice a n c ∧ Src W (.slice a n c) l ∧ ∀ x ∈ l, 0 ≤ x ∧ x ≤ 255 := by
  obtain ⟨a0, n0, c0, rfl⟩ := okWide_slice Try.underlying28 hv
  obtain ⟨fuel, hf⟩ := h
  rcases open_ints Try.underlying28 Try.underlying5 (by kernel_rfl) hf with ⟨hcs, _⟩ | ⟨x, l, c, zs, hcs, _, hl, hm, hz, _, hcell, hwz⟩
  · simp [Value.cells] at hcs
    obtain ⟨rfl, rfl, rfl⟩ := hcs
    exact ⟨none, 0, 0, [], rfl, ⟨none, 0, rfl, Nat.le_refl _, by simp, (fun _ => ⟨rfl, rfl⟩), (fun ad e => by cases e)⟩, by simp⟩
  · simp [Value.cells] at hcs
    obtain ⟨rfl, rfl, rfl⟩ := hcs
    have hz' : zs.length = c0 := by simpa using hz
    have ht : (zs.take n0).length = n0 := by simp; omega
    refine ⟨some x, n0, c0, zs.take n0, rfl, ⟨some x, c0, by rw [ht], by rw [ht]; exact hl, hm, (fun e => by cases e), (fun ad e j hj => ?_)⟩, ?_⟩
    · cases e
      rw [ht] at hj
      rw [hcell j (by omega)]
      simp [List.getD, List.getElem?_take_of_lt hj]
    · intro y hy
      exact bounds_u8 (hwz y (List.mem_of_mem_take hy))
end Go.Proofs.Yteljcgdenagcmaa
