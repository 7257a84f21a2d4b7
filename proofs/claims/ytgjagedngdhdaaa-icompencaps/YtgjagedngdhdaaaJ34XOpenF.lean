/-
  What a frame that is handed in is. What a frame of the backbone that is handed in is, and an address.
-/
import Derived.Test.YtgjagedngdhdaaaJ33LRd
import Derived.Test.YtgjagedngdhdaaaJ13XFrame
import Derived.Test.YtgjagedngdhdaaaJ16XBFrame
namespace Go.Proofs.Ytgjagedngdhdaaa

section
namespace S4
set_option linter.unusedVariables false
set_option maxRecDepth 4000
open Go.ChangeShapes Go.WideShapes Go.ChangeAt Go.RowKit

theorem cells_suint8 : Try.prog.cellsOf 34 = 17 := by kernel_rfl
theorem cells_MAC' : Try.prog.cellsOf 23 = 6 := by kernel_rfl
theorem cells_Tag' : Try.prog.cellsOf 32 = 3 := by kernel_rfl
theorem cells_structPCPintDEIboolUCAboolISIDintDAMACSAMAC : Try.prog.cellsOf 30 = 1 := by kernel_rfl

theorem open_mac {H : Type} {enc : TypeId × Value → H} {W : World} {b : Nat} {sp : Nat → Bool} {m : Nat} {x : DataW H × List MemPlace} {c0 c1 c2 c3 c4 c5 : Value}
    (hf : DataW.trod enc Try.prog W b sp true m 23 [c0, c1, c2, c3, c4, c5] = some x) :
    ∃ q : M6, c0 = .int .u8 q.a ∧ c1 = .int .u8 q.b ∧ c2 = .int .u8 q.c ∧ c3 = .int .u8 q.d ∧ c4 = .int .u8 q.e ∧ c5 = .int .u8 q.f ∧ q.ok := by
  obtain ⟨xs, m, _, _, _, hl, hg⟩ := DataW.trod_array Try.underlying23 hf
  simp only [cells_uint8] at hg
  have get : ∀ (i : Nat) (cv : Value), i < 6 → (([c0, c1, c2, c3, c4, c5] : List Value).drop (i * 1)).take 1 = [cv] → ∃ n : Int, cv = .int .u8 n ∧ 0 ≤ n ∧ n ≤ 255 := by
    intro i cv hi e
    have := hg i hi
    rw [e] at this
    rw [List.getElem?_eq_getElem (by omega)] at this
    obtain ⟨n, e1, _, wn⟩ := DataW.trod_int Try.underlying5 this
    simp at e1
    exact ⟨n, e1, bounds_u8 wn⟩
  obtain ⟨n0, h0, g0⟩ := get 0 c0 (by omega) rfl
  obtain ⟨n1, h1, g1⟩ := get 1 c1 (by omega) rfl
  obtain ⟨n2, h2, g2⟩ := get 2 c2 (by omega) rfl
  obtain ⟨n3, h3, g3⟩ := get 3 c3 (by omega) rfl
  obtain ⟨n4, h4, g4⟩ := get 4 c4 (by omega) rfl
  obtain ⟨n5, h5, g5⟩ := get 5 c5 (by omega) rfl
  refine ⟨⟨n0, n1, n2, n3, n4, n5⟩, h0, h1, h2, h3, h4, h5, ?_⟩
  intro x hx
  simp only [M6.l, List.mem_cons, List.not_mem_nil, or_false] at hx
  rcases hx with rfl | rfl | rfl | rfl | rfl | rfl <;> assumption

theorem open_slice26 {H : Type} {enc : TypeId × Value → H} {W : World} {m : Nat} {x : DataW H × List MemPlace} {v : Value}
    (hf : DataW.trod enc Try.prog W 0 (fun _ => true) true m 30 [v] = some x) :
    ∃ l : List Int, Src W v l ∧ ∀ x ∈ l, 0 ≤ x ∧ x ≤ 255 := by
  rcases open_ints Try.underlying30 Try.underlying5 (by kernel_rfl) hf with ⟨hcs, _⟩ | ⟨y, n0, c0, zs, hcs, _, hl, hm, hz, _, hcell, hwz⟩
  · simp at hcs
    subst hcs
    exact ⟨[], ⟨none, 0, rfl, Nat.le_refl _, by simp, (fun _ => ⟨rfl, rfl⟩), (fun ad e => by cases e)⟩, by simp⟩
  · simp at hcs
    subst hcs
    have hz' : zs.length = c0 := by simpa using hz
    have ht : (zs.take n0).length = n0 := by simp; omega
    refine ⟨zs.take n0, ⟨some y, c0, by rw [ht], by rw [ht]; exact hl, hm, (fun e => by cases e), (fun ad e j hj => ?_)⟩, ?_⟩
    · cases e
      rw [ht] at hj
      rw [hcell j (by omega)]
      simp [List.getD, List.getElem?_take_of_lt hj]
    · intro y hy
      exact bounds_u8 (hwz y (List.mem_of_mem_take hy))

theorem list17 {l : List Value} (h : l.length = 17) : ∃ c0 c1 c2 c3 c4 c5 c6 c7 c8 c9 c10 c11 c12 c13 c14 c15 c16, l = [c0, c1, c2, c3, c4, c5, c6, c7, c8, c9, c10, c11, c12, c13, c14, c15, c16] := by
  match l, h with
  | [c0, c1, c2, c3, c4, c5, c6, c7, c8, c9, c10, c11, c12, c13, c14, c15, c16], _ => exact ⟨c0, c1, c2, c3, c4, c5, c6, c7, c8, c9, c10, c11, c12, c13, c14, c15, c16, rfl⟩

theorem open_frame {H : Type} {enc : TypeId × Value → H} {W : World} {base : Nat} {v : Value} {dd : DataW H} {pl : List MemPlace}
    (hv : Value.okWide Try.prog W .any base 34 v) (h : DataW.Trod enc Try.prog W 0 (fun _ => true) true 34 v dd pl) :
    ∃ (f : Fr) (x : Value) (l : List Int), v = .agg (fcs f x) ∧ f.ok ∧ Src W x l ∧ ∀ x ∈ l, 0 ≤ x ∧ x ≤ 255 := by
  obtain ⟨cs, rfl, hsz, _⟩ : ∃ cs, v = .agg cs ∧ cs.size = Try.prog.cellsOf 34 ∧ Row.okWide Try.prog W .any base 34 cs := by
    simpa [Value.okWide, Try.underlying34] using hv
  rw [cells_suint8] at hsz
  obtain ⟨l⟩ := cs
  obtain ⟨c0, c1, c2, c3, c4, c5, c6, c7, c8, c9, c10, c11, c12, c13, c14, c15, c16, rfl⟩ := list17 (show l.length = 17 from hsz)
  obtain ⟨fuel, hf⟩ := h
  obtain ⟨xs, m, _, _, _, hl, hg⟩ := DataW.trod_struct Try.underlying34 hf
  have hl' : xs.length = 5 := hl
  have g0 : DataW.trod enc Try.prog W 0 (fun _ => true) true m 23 ((([c0, c1, c2, c3, c4, c5, c6, c7, c8, c9, c10, c11, c12, c13, c14, c15, c16] : List Value).drop 0).take (Try.prog.cellsOf 23)) = xs[0]? := hg 0 _ rfl
  rw [cells_MAC', List.getElem?_eq_getElem (by omega)] at g0
  have g1 : DataW.trod enc Try.prog W 0 (fun _ => true) true m 23 ((([c0, c1, c2, c3, c4, c5, c6, c7, c8, c9, c10, c11, c12, c13, c14, c15, c16] : List Value).drop 6).take (Try.prog.cellsOf 23)) = xs[1]? := hg 1 _ rfl
  rw [cells_MAC', List.getElem?_eq_getElem (by omega)] at g1
  have g2 : DataW.trod enc Try.prog W 0 (fun _ => true) true m 4 ((([c0, c1, c2, c3, c4, c5, c6, c7, c8, c9, c10, c11, c12, c13, c14, c15, c16] : List Value).drop 12).take (Try.prog.cellsOf 4)) = xs[2]? := hg 2 _ rfl
  rw [cells_bool, List.getElem?_eq_getElem (by omega)] at g2
  have g3 : DataW.trod enc Try.prog W 0 (fun _ => true) true m 32 ((([c0, c1, c2, c3, c4, c5, c6, c7, c8, c9, c10, c11, c12, c13, c14, c15, c16] : List Value).drop 13).take (Try.prog.cellsOf 32)) = xs[3]? := hg 3 _ rfl
  rw [cells_Tag', List.getElem?_eq_getElem (by omega)] at g3
  have g4 : DataW.trod enc Try.prog W 0 (fun _ => true) true m 30 ((([c0, c1, c2, c3, c4, c5, c6, c7, c8, c9, c10, c11, c12, c13, c14, c15, c16] : List Value).drop 16).take (Try.prog.cellsOf 30)) = xs[4]? := hg 4 _ rfl
  rw [cells_structPCPintDEIboolUCAboolISIDintDAMACSAMAC, List.getElem?_eq_getElem (by omega)] at g4
  have f0 : DataW.trod enc Try.prog W 0 (fun _ => true) true m 23 [c0, c1, c2, c3, c4, c5] = some _ := g0
  have f1 : DataW.trod enc Try.prog W 0 (fun _ => true) true m 23 [c6, c7, c8, c9, c10, c11] = some _ := g1
  have f3 : DataW.trod enc Try.prog W 0 (fun _ => true) true m 32 [c13, c14, c15] = some _ := g3
  have f4 : DataW.trod enc Try.prog W 0 (fun _ => true) true m 30 [c16] = some _ := g4
  obtain ⟨qd, rfl, rfl, rfl, rfl, rfl, rfl, okd⟩ := open_mac f0
  obtain ⟨qs, rfl, rfl, rfl, rfl, rfl, rfl, oks⟩ := open_mac f1
  obtain ⟨t, e2, _⟩ := DataW.trod_bool Try.underlying4 g2
  obtain ⟨ys, m3, _, _, _, hl3, hg3⟩ := DataW.trod_struct Try.underlying32 f3
  have hl3' : ys.length = 3 := hl3
  have i0 : DataW.trod enc Try.prog W 0 (fun _ => true) true m3 3 ((([c13, c14, c15] : List Value).drop 0).take (Try.prog.cellsOf 3)) = ys[0]? := hg3 0 _ rfl
  rw [cells_int, List.getElem?_eq_getElem (by omega)] at i0
  have i1 : DataW.trod enc Try.prog W 0 (fun _ => true) true m3 4 ((([c13, c14, c15] : List Value).drop 1).take (Try.prog.cellsOf 4)) = ys[1]? := hg3 1 _ rfl
  rw [cells_bool, List.getElem?_eq_getElem (by omega)] at i1
  have i2 : DataW.trod enc Try.prog W 0 (fun _ => true) true m3 3 ((([c13, c14, c15] : List Value).drop 2).take (Try.prog.cellsOf 3)) = ys[2]? := hg3 2 _ rfl
  rw [cells_int, List.getElem?_eq_getElem (by omega)] at i2
  obtain ⟨p, e3, _, _⟩ := DataW.trod_int Try.underlying3 i0
  obtain ⟨e, e4, _⟩ := DataW.trod_bool Try.underlying4 i1
  obtain ⟨vv, e5, _, _⟩ := DataW.trod_int Try.underlying3 i2
  simp at e2 e3 e4 e5
  subst e2 e3 e4 e5
  obtain ⟨l, hs, hb⟩ := open_slice26 f4
  exact ⟨⟨qd, qs, t, p, e, vv⟩, c16, l, rfl, ⟨okd, oks⟩, hs, hb⟩
end S4
end

section
namespace S4
set_option linter.unusedVariables false
set_option maxRecDepth 8000
open Go.ChangeShapes Go.WideShapes Go.ChangeAt Go.RowKit

theorem cells_BFrame : Try.prog.cellsOf 49 = 32 := by kernel_rfl
theorem cells_ITag' : Try.prog.cellsOf 47 = 16 := by kernel_rfl

theorem list32 {l : List Value} (h : l.length = 32) : ∃ c0 c1 c2 c3 c4 c5 c6 c7 c8 c9 c10 c11 c12 c13 c14 c15 c16 c17 c18 c19 c20 c21 c22 c23 c24 c25 c26 c27 c28 c29 c30 c31, l = [c0, c1, c2, c3, c4, c5, c6, c7, c8, c9, c10, c11, c12, c13, c14, c15, c16, c17, c18, c19, c20, c21, c22, c23, c24, c25, c26, c27, c28, c29, c30, c31] := by
  match l, h with
  | [c0, c1, c2, c3, c4, c5, c6, c7, c8, c9, c10, c11, c12, c13, c14, c15, c16, c17, c18, c19, c20, c21, c22, c23, c24, c25, c26, c27, c28, c29, c30, c31], _ => exact ⟨c0, c1, c2, c3, c4, c5, c6, c7, c8, c9, c10, c11, c12, c13, c14, c15, c16, c17, c18, c19, c20, c21, c22, c23, c24, c25, c26, c27, c28, c29, c30, c31, rfl⟩

theorem open_t3 {H : Type} {enc : TypeId × Value → H} {W : World} {m : Nat} {x : DataW H × List MemPlace} {c0 c1 c2 : Value}
    (hf : DataW.trod enc Try.prog W 0 (fun _ => true) true m 32 [c0, c1, c2] = some x) : ∃ (p : Int) (e : Bool) (v : Int), c0 = .int .i64 p ∧ c1 = .bool e ∧ c2 = .int .i64 v := by
  obtain ⟨ys, m3, _, _, _, hl3, hg3⟩ := DataW.trod_struct Try.underlying32 hf
  have hl3' : ys.length = 3 := hl3
  have i0 : DataW.trod enc Try.prog W 0 (fun _ => true) true m3 3 ((([c0, c1, c2] : List Value).drop 0).take (Try.prog.cellsOf 3)) = ys[0]? := hg3 0 _ rfl
  rw [cells_int, List.getElem?_eq_getElem (by omega)] at i0
  have i1 : DataW.trod enc Try.prog W 0 (fun _ => true) true m3 4 ((([c0, c1, c2] : List Value).drop 1).take (Try.prog.cellsOf 4)) = ys[1]? := hg3 1 _ rfl
  rw [cells_bool, List.getElem?_eq_getElem (by omega)] at i1
  have i2 : DataW.trod enc Try.prog W 0 (fun _ => true) true m3 3 ((([c0, c1, c2] : List Value).drop 2).take (Try.prog.cellsOf 3)) = ys[2]? := hg3 2 _ rfl
  rw [cells_int, List.getElem?_eq_getElem (by omega)] at i2
  obtain ⟨p, e3, _, _⟩ := DataW.trod_int Try.underlying3 i0
  obtain ⟨e, e4, _⟩ := DataW.trod_bool Try.underlying4 i1
  obtain ⟨v, e5, _, _⟩ := DataW.trod_int Try.underlying3 i2
  simp at e3 e4 e5
  exact ⟨p, e, v, e3, e4, e5⟩

theorem open_t16 {H : Type} {enc : TypeId × Value → H} {W : World} {m : Nat} {x : DataW H × List MemPlace} {c0 c1 c2 c3 c4 c5 c6 c7 c8 c9 c10 c11 c12 c13 c14 c15 : Value}
    (hf : DataW.trod enc Try.prog W 0 (fun _ => true) true m 47 [c0, c1, c2, c3, c4, c5, c6, c7, c8, c9, c10, c11, c12, c13, c14, c15] = some x) : ∃ (p : Int) (e u : Bool) (i : Int) (d s : M6), c0 = .int .i64 p ∧ c1 = .bool e ∧ c2 = .bool u ∧ c3 = .int .i64 i ∧
      c4 = .int .u8 d.a ∧ c5 = .int .u8 d.b ∧ c6 = .int .u8 d.c ∧ c7 = .int .u8 d.d ∧ c8 = .int .u8 d.e ∧ c9 = .int .u8 d.f ∧ c10 = .int .u8 s.a ∧ c11 = .int .u8 s.b ∧ c12 = .int .u8 s.c ∧ c13 = .int .u8 s.d ∧ c14 = .int .u8 s.e ∧ c15 = .int .u8 s.f ∧ d.ok ∧ s.ok := by
  obtain ⟨ys, m3, _, _, _, hl3, hg3⟩ := DataW.trod_struct Try.underlying47 hf
  have hl3' : ys.length = 6 := hl3
  have i0 : DataW.trod enc Try.prog W 0 (fun _ => true) true m3 3 ((([c0, c1, c2, c3, c4, c5, c6, c7, c8, c9, c10, c11, c12, c13, c14, c15] : List Value).drop 0).take (Try.prog.cellsOf 3)) = ys[0]? := hg3 0 _ rfl
  rw [cells_int, List.getElem?_eq_getElem (by omega)] at i0
  have i1 : DataW.trod enc Try.prog W 0 (fun _ => true) true m3 4 ((([c0, c1, c2, c3, c4, c5, c6, c7, c8, c9, c10, c11, c12, c13, c14, c15] : List Value).drop 1).take (Try.prog.cellsOf 4)) = ys[1]? := hg3 1 _ rfl
  rw [cells_bool, List.getElem?_eq_getElem (by omega)] at i1
  have i2 : DataW.trod enc Try.prog W 0 (fun _ => true) true m3 4 ((([c0, c1, c2, c3, c4, c5, c6, c7, c8, c9, c10, c11, c12, c13, c14, c15] : List Value).drop 2).take (Try.prog.cellsOf 4)) = ys[2]? := hg3 2 _ rfl
  rw [cells_bool, List.getElem?_eq_getElem (by omega)] at i2
  have i3 : DataW.trod enc Try.prog W 0 (fun _ => true) true m3 3 ((([c0, c1, c2, c3, c4, c5, c6, c7, c8, c9, c10, c11, c12, c13, c14, c15] : List Value).drop 3).take (Try.prog.cellsOf 3)) = ys[3]? := hg3 3 _ rfl
  rw [cells_int, List.getElem?_eq_getElem (by omega)] at i3
  have i4 : DataW.trod enc Try.prog W 0 (fun _ => true) true m3 23 ((([c0, c1, c2, c3, c4, c5, c6, c7, c8, c9, c10, c11, c12, c13, c14, c15] : List Value).drop 4).take (Try.prog.cellsOf 23)) = ys[4]? := hg3 4 _ rfl
  rw [cells_MAC', List.getElem?_eq_getElem (by omega)] at i4
  have i5 : DataW.trod enc Try.prog W 0 (fun _ => true) true m3 23 ((([c0, c1, c2, c3, c4, c5, c6, c7, c8, c9, c10, c11, c12, c13, c14, c15] : List Value).drop 10).take (Try.prog.cellsOf 23)) = ys[5]? := hg3 5 _ rfl
  rw [cells_MAC', List.getElem?_eq_getElem (by omega)] at i5
  obtain ⟨p, e0, _, _⟩ := DataW.trod_int Try.underlying3 i0
  obtain ⟨e, e1, _⟩ := DataW.trod_bool Try.underlying4 i1
  obtain ⟨u, e2, _⟩ := DataW.trod_bool Try.underlying4 i2
  obtain ⟨i, e3, _, _⟩ := DataW.trod_int Try.underlying3 i3
  have f4 : DataW.trod enc Try.prog W 0 (fun _ => true) true m3 23 [c4, c5, c6, c7, c8, c9] = some _ := i4
  have f5 : DataW.trod enc Try.prog W 0 (fun _ => true) true m3 23 [c10, c11, c12, c13, c14, c15] = some _ := i5
  obtain ⟨qd, d1, d2, d3, d4, d5, d6, okd⟩ := open_mac f4
  obtain ⟨qs, s1, s2, s3, s4, s5, s6, oks⟩ := open_mac f5
  simp at e0 e1 e2 e3
  exact ⟨p, e, u, i, qd, qs, e0, e1, e2, e3, d1, d2, d3, d4, d5, d6, s1, s2, s3, s4, s5, s6, okd, oks⟩

set_option maxHeartbeats 1000000 in
theorem open_bframe {H : Type} {enc : TypeId × Value → H} {W : World} {base : Nat} {v : Value} {dd : DataW H} {pl : List MemPlace}
    (hv : Value.okWide Try.prog W .any base 49 v) (h : DataW.Trod enc Try.prog W 0 (fun _ => true) true 49 v dd pl) :
    ∃ (f : Bf) (x : Value) (l : List Int), v = .agg (bcs f x) ∧ f.ok ∧ Src W x l ∧ ∀ x ∈ l, 0 ≤ x ∧ x ≤ 255 := by
  obtain ⟨cs, rfl, hsz, _⟩ : ∃ cs, v = .agg cs ∧ cs.size = Try.prog.cellsOf 49 ∧ Row.okWide Try.prog W .any base 49 cs := by
    simpa [Value.okWide, Try.underlying49] using hv
  rw [cells_BFrame] at hsz
  obtain ⟨l⟩ := cs
  obtain ⟨c0, c1, c2, c3, c4, c5, c6, c7, c8, c9, c10, c11, c12, c13, c14, c15, c16, c17, c18, c19, c20, c21, c22, c23, c24, c25, c26, c27, c28, c29, c30, c31, rfl⟩ := list32 (show l.length = 32 from hsz)
  obtain ⟨fuel, hf⟩ := h
  obtain ⟨xs, m, _, _, _, hl, hg⟩ := DataW.trod_struct Try.underlying49 hf
  have hl' : xs.length = 5 := hl
  have g0 : DataW.trod enc Try.prog W 0 (fun _ => true) true m 23 ((([c0, c1, c2, c3, c4, c5, c6, c7, c8, c9, c10, c11, c12, c13, c14, c15, c16, c17, c18, c19, c20, c21, c22, c23, c24, c25, c26, c27, c28, c29, c30, c31] : List Value).drop 0).take (Try.prog.cellsOf 23)) = xs[0]? := hg 0 _ rfl
  rw [cells_MAC', List.getElem?_eq_getElem (by omega)] at g0
  have f0 : DataW.trod enc Try.prog W 0 (fun _ => true) true m 23 [c0, c1, c2, c3, c4, c5] = some _ := g0
  have g1 : DataW.trod enc Try.prog W 0 (fun _ => true) true m 23 ((([c0, c1, c2, c3, c4, c5, c6, c7, c8, c9, c10, c11, c12, c13, c14, c15, c16, c17, c18, c19, c20, c21, c22, c23, c24, c25, c26, c27, c28, c29, c30, c31] : List Value).drop 6).take (Try.prog.cellsOf 23)) = xs[1]? := hg 1 _ rfl
  rw [cells_MAC', List.getElem?_eq_getElem (by omega)] at g1
  have f1 : DataW.trod enc Try.prog W 0 (fun _ => true) true m 23 [c6, c7, c8, c9, c10, c11] = some _ := g1
  have g2 : DataW.trod enc Try.prog W 0 (fun _ => true) true m 32 ((([c0, c1, c2, c3, c4, c5, c6, c7, c8, c9, c10, c11, c12, c13, c14, c15, c16, c17, c18, c19, c20, c21, c22, c23, c24, c25, c26, c27, c28, c29, c30, c31] : List Value).drop 12).take (Try.prog.cellsOf 32)) = xs[2]? := hg 2 _ rfl
  rw [cells_Tag', List.getElem?_eq_getElem (by omega)] at g2
  have f2 : DataW.trod enc Try.prog W 0 (fun _ => true) true m 32 [c12, c13, c14] = some _ := g2
  have g3 : DataW.trod enc Try.prog W 0 (fun _ => true) true m 47 ((([c0, c1, c2, c3, c4, c5, c6, c7, c8, c9, c10, c11, c12, c13, c14, c15, c16, c17, c18, c19, c20, c21, c22, c23, c24, c25, c26, c27, c28, c29, c30, c31] : List Value).drop 15).take (Try.prog.cellsOf 47)) = xs[3]? := hg 3 _ rfl
  rw [cells_ITag', List.getElem?_eq_getElem (by omega)] at g3
  have f3 : DataW.trod enc Try.prog W 0 (fun _ => true) true m 47 [c15, c16, c17, c18, c19, c20, c21, c22, c23, c24, c25, c26, c27, c28, c29, c30] = some _ := g3
  have g4 : DataW.trod enc Try.prog W 0 (fun _ => true) true m 30 ((([c0, c1, c2, c3, c4, c5, c6, c7, c8, c9, c10, c11, c12, c13, c14, c15, c16, c17, c18, c19, c20, c21, c22, c23, c24, c25, c26, c27, c28, c29, c30, c31] : List Value).drop 31).take (Try.prog.cellsOf 30)) = xs[4]? := hg 4 _ rfl
  rw [cells_structPCPintDEIboolUCAboolISIDintDAMACSAMAC, List.getElem?_eq_getElem (by omega)] at g4
  have f4 : DataW.trod enc Try.prog W 0 (fun _ => true) true m 30 [c31] = some _ := g4
  obtain ⟨qd, rfl, rfl, rfl, rfl, rfl, rfl, okd⟩ := open_mac f0
  obtain ⟨qs, rfl, rfl, rfl, rfl, rfl, rfl, oks⟩ := open_mac f1
  obtain ⟨p, e, vv, rfl, rfl, rfl⟩ := open_t3 f2
  obtain ⟨ip, ie, iu, ii, qx, qy, rfl, rfl, rfl, rfl, rfl, rfl, rfl, rfl, rfl, rfl, rfl, rfl, rfl, rfl, rfl, rfl, okx, oky⟩ := open_t16 f3
  obtain ⟨l, hs, hb⟩ := open_slice26 f4
  exact ⟨⟨qd, qs, p, e, vv, ip, ie, iu, ii, qx, qy⟩, c31, l, rfl, ⟨okd, oks, okx, oky⟩, hs, hb⟩

theorem list6v {l : List Value} (h : l.length = 6) : ∃ c0 c1 c2 c3 c4 c5, l = [c0, c1, c2, c3, c4, c5] := by
  match l, h with
  | [c0, c1, c2, c3, c4, c5], _ => exact ⟨c0, c1, c2, c3, c4, c5, rfl⟩
theorem open_macv {H : Type} {enc : TypeId × Value → H} {W : World} {base : Nat} {v : Value} {dd : DataW H} {pl : List MemPlace}
    (hv : Value.okWide Try.prog W .any base 23 v) (h : DataW.Trod enc Try.prog W 0 (fun _ => true) true 23 v dd pl) :
    ∃ m : M6, v = .agg #[.int .u8 m.a, .int .u8 m.b, .int .u8 m.c, .int .u8 m.d, .int .u8 m.e, .int .u8 m.f] ∧ m.ok := by
  obtain ⟨cs, rfl, hsz, _⟩ : ∃ cs, v = .agg cs ∧ cs.size = Try.prog.cellsOf 23 ∧ Row.okWide Try.prog W .any base 23 cs := by
    simpa [Value.okWide, Try.underlying23] using hv
  rw [cells_MAC'] at hsz
  obtain ⟨l⟩ := cs
  obtain ⟨c0, c1, c2, c3, c4, c5, rfl⟩ := list6v (show l.length = 6 from hsz)
  obtain ⟨fuel, hf⟩ := h
  obtain ⟨q, rfl, rfl, rfl, rfl, rfl, rfl, ok⟩ := open_mac hf
  exact ⟨q, rfl, ok⟩
end S4
end

end Go.Proofs.Ytgjagedngdhdaaa
