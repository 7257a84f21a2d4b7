/-
  What a message, an address and bytes that are handed in are; what the table of roles holds; closed facts of the program.
-/
import Derived.Test.YtfpoopllkmnagaaDoorMsg
import Derived.Handy
import Derived.OpenShut
import Derived.ChangeSlices
import Derived.ShutString
import Derived.ChangeOld
import Derived.LaidLaws
import Derived.LaidHandle
import Derived.Lib.LaidTab
import Derived.Stop.Joined
import Derived.JoinedOf
namespace Go.Proofs.YtfpoopllkmnagaaDoor
set_option linter.unusedVariables false
set_option maxRecDepth 4000
open Go.ChangeShapes Go.WideShapes Go.ChangeAt Go.RowKit

theorem own : ownKnob Tryd.prog.godebug = none := by kernel_rfl
theorem laidOut : laidOutB Tryd.prog = true := by kernel_rfl
theorem cells22 : Tryd.prog.cellsOf 22 = 1 := by kernel_rfl
theorem cells23 : Tryd.prog.cellsOf 23 = 1 := by kernel_rfl
theorem cells24 : Tryd.prog.cellsOf 24 = 1 := by kernel_rfl
theorem cells25 : Tryd.prog.cellsOf 25 = 1 := by kernel_rfl
theorem cells26 : Tryd.prog.cellsOf 26 = 1 := by kernel_rfl
theorem cells3 : Tryd.prog.cellsOf 3 = 1 := by kernel_rfl
theorem cells4 : Tryd.prog.cellsOf 4 = 1 := by kernel_rfl
theorem cells5 : Tryd.prog.cellsOf 5 = 1 := by kernel_rfl
theorem cells28 : Tryd.prog.cellsOf 28 = 4 := by kernel_rfl
theorem cells30 : Tryd.prog.cellsOf 30 = 4 := by kernel_rfl
theorem cells32 : Tryd.prog.cellsOf 32 = 16 := by kernel_rfl
theorem cells49 : Tryd.prog.cellsOf 49 = 6 := by kernel_rfl
theorem cells83 : Tryd.prog.cellsOf 83 = 4 := by kernel_rfl

theorem open_six {H : Type} {enc : TypeId × Value → H} {W : World} {b : Nat} {sp : Nat → Bool} {m : Nat} {x : DataW H × List MemPlace} {c0 c1 c2 c3 c4 c5 : Value}
    (hf : DataW.trod enc Tryd.prog W b sp true m 49 [c0, c1, c2, c3, c4, c5] = some x) :
    ∃ a0 a1 a2 a3 a4 a5 : Int, c0 = .int .u8 a0 ∧ c1 = .int .u8 a1 ∧ c2 = .int .u8 a2 ∧ c3 = .int .u8 a3 ∧ c4 = .int .u8 a4 ∧ c5 = .int .u8 a5 := by
  obtain ⟨xs, m, _, _, _, hl, hg⟩ := DataW.trod_array Tryd.underlying49 hf
  simp only [cells5] at hg
  have get : ∀ (i : Nat) (cv : Value), i < 6 → (([c0, c1, c2, c3, c4, c5] : List Value).drop (i * 1)).take 1 = [cv] → ∃ n : Int, cv = .int .u8 n := by
    intro i cv hi e
    have := hg i hi
    rw [e] at this
    rw [List.getElem?_eq_getElem (by omega)] at this
    obtain ⟨n, e1, _, wn⟩ := DataW.trod_int Tryd.underlying5 this
    simp at e1
    exact ⟨n, e1⟩
  obtain ⟨n0, h0⟩ := get 0 c0 (by omega) rfl
  obtain ⟨n1, h1⟩ := get 1 c1 (by omega) rfl
  obtain ⟨n2, h2⟩ := get 2 c2 (by omega) rfl
  obtain ⟨n3, h3⟩ := get 3 c3 (by omega) rfl
  obtain ⟨n4, h4⟩ := get 4 c4 (by omega) rfl
  obtain ⟨n5, h5⟩ := get 5 c5 (by omega) rfl
  exact ⟨n0, n1, n2, n3, n4, n5, h0, h1, h2, h3, h4, h5⟩
theorem list16 {l : List Value} (h : l.length = 16) : ∃ c0 c1 c2 c3 c4 c5 c6 c7 c8 c9 c10 c11 c12 c13 c14 c15, l = [c0, c1, c2, c3, c4, c5, c6, c7, c8, c9, c10, c11, c12, c13, c14, c15] := by
  match l, h with
  | [c0, c1, c2, c3, c4, c5, c6, c7, c8, c9, c10, c11, c12, c13, c14, c15], _ => exact ⟨c0, c1, c2, c3, c4, c5, c6, c7, c8, c9, c10, c11, c12, c13, c14, c15, rfl⟩
theorem open_bytes {H : Type} {enc : TypeId × Value → H} {W : World} {base : Nat} {d : DataW H} {p : List MemPlace} {v : Value}
    (hv : Value.okWide Tryd.prog W .any base 33 v) (h : DataW.Trod enc Tryd.prog W 0 (fun _ => true) true 33 v d p) :
    ∃ (a : Option Addr) (n c : Nat) (l : List Int), v = .slice a n c ∧ Src W (.slice a n c) l ∧ ∀ x ∈ l, 0 ≤ x ∧ x ≤ 255 := by
  obtain ⟨a0, n0, c0, rfl⟩ := okWide_slice Tryd.underlying33 hv
  obtain ⟨fuel, hf⟩ := h
  rcases open_ints Tryd.underlying33 Tryd.underlying5 (by kernel_rfl) hf with ⟨hcs, _⟩ | ⟨x, l, c, zs, hcs, _, hl, hm, hz, _, hcell, hwz⟩
  · simp [Value.cells] at hcs
    obtain ⟨rfl, rfl, rfl⟩ := hcs
    exact ⟨none, 0, 0, [], rfl, ⟨none, 0, rfl, Nat.le_refl _, by simp, (fun _ => ⟨rfl, rfl⟩), (fun ad e => by cases e)⟩, by simp⟩
  · simp [Value.cells] at hcs
    obtain ⟨rfl, rfl, rfl⟩ := hcs
    have hz' : zs.length = c0 := by simpa using hz
    have ht : (zs.take n0).length = n0 := by simp; omega
    refine ⟨some x, n0, c0, zs.take n0, rfl, ⟨some x, c0, by rw [ht], by rw [ht]; exact hl, hm, (fun e => by cases e), (fun ad e j hj => ?_)⟩, ?_⟩
    · cases e
      rw [ht] at hj
      rw [hcell j (by omega)]
      simp [List.getD, List.getElem?_take_of_lt hj]
    · intro y hy
      exact bounds_u8 (hwz y (List.mem_of_mem_take hy))

theorem open_bpdu {H : Type} {enc : TypeId × Value → H} {W : World} {base : Nat} {sp : Nat → Bool} {v : Value} {dd : DataW H} {pl : List MemPlace}
    (hv : Value.okWide Tryd.prog W .any base 32 v) (h : DataW.Trod enc Tryd.prog W 0 sp true 32 v dd pl) : ∃ m : Bp, v = .agg m.cs ∧ m.wf := by
  obtain ⟨cs, rfl, hsz, _⟩ : ∃ cs, v = .agg cs ∧ cs.size = Tryd.prog.cellsOf 32 ∧ Row.okWide Tryd.prog W .any base 32 cs := by
    simpa [Value.okWide, Tryd.underlying32] using hv
  rw [cells32] at hsz
  obtain ⟨l⟩ := cs
  obtain ⟨c0, c1, c2, c3, c4, c5, c6, c7, c8, c9, c10, c11, c12, c13, c14, c15, rfl⟩ := list16 (show l.length = 16 from hsz)
  obtain ⟨fuel, hf⟩ := h
  obtain ⟨xs, m, _, _, _, hl, hg⟩ := DataW.trod_struct Tryd.underlying32 hf
  have hl' : xs.length = 10 := hl
  have g0 : DataW.trod enc Tryd.prog W 0 sp true m 22 ((([c0, c1, c2, c3, c4, c5, c6, c7, c8, c9, c10, c11, c12, c13, c14, c15] : List Value).drop 0).take (Tryd.prog.cellsOf 22)) = xs[0]? := hg 0 _ rfl
  rw [cells22, List.getElem?_eq_getElem (by omega)] at g0
  have g1 : DataW.trod enc Tryd.prog W 0 sp true m 4 ((([c0, c1, c2, c3, c4, c5, c6, c7, c8, c9, c10, c11, c12, c13, c14, c15] : List Value).drop 1).take (Tryd.prog.cellsOf 4)) = xs[1]? := hg 1 _ rfl
  rw [cells4, List.getElem?_eq_getElem (by omega)] at g1
  have g2 : DataW.trod enc Tryd.prog W 0 sp true m 4 ((([c0, c1, c2, c3, c4, c5, c6, c7, c8, c9, c10, c11, c12, c13, c14, c15] : List Value).drop 2).take (Tryd.prog.cellsOf 4)) = xs[2]? := hg 2 _ rfl
  rw [cells4, List.getElem?_eq_getElem (by omega)] at g2
  have g3 : DataW.trod enc Tryd.prog W 0 sp true m 4 ((([c0, c1, c2, c3, c4, c5, c6, c7, c8, c9, c10, c11, c12, c13, c14, c15] : List Value).drop 3).take (Tryd.prog.cellsOf 4)) = xs[3]? := hg 3 _ rfl
  rw [cells4, List.getElem?_eq_getElem (by omega)] at g3
  have g4 : DataW.trod enc Tryd.prog W 0 sp true m 4 ((([c0, c1, c2, c3, c4, c5, c6, c7, c8, c9, c10, c11, c12, c13, c14, c15] : List Value).drop 4).take (Tryd.prog.cellsOf 4)) = xs[4]? := hg 4 _ rfl
  rw [cells4, List.getElem?_eq_getElem (by omega)] at g4
  have g5 : DataW.trod enc Tryd.prog W 0 sp true m 4 ((([c0, c1, c2, c3, c4, c5, c6, c7, c8, c9, c10, c11, c12, c13, c14, c15] : List Value).drop 5).take (Tryd.prog.cellsOf 4)) = xs[5]? := hg 5 _ rfl
  rw [cells4, List.getElem?_eq_getElem (by omega)] at g5
  have g6 : DataW.trod enc Tryd.prog W 0 sp true m 4 ((([c0, c1, c2, c3, c4, c5, c6, c7, c8, c9, c10, c11, c12, c13, c14, c15] : List Value).drop 6).take (Tryd.prog.cellsOf 4)) = xs[6]? := hg 6 _ rfl
  rw [cells4, List.getElem?_eq_getElem (by omega)] at g6
  have g7 : DataW.trod enc Tryd.prog W 0 sp true m 23 ((([c0, c1, c2, c3, c4, c5, c6, c7, c8, c9, c10, c11, c12, c13, c14, c15] : List Value).drop 7).take (Tryd.prog.cellsOf 23)) = xs[7]? := hg 7 _ rfl
  rw [cells23, List.getElem?_eq_getElem (by omega)] at g7
  have g8 : DataW.trod enc Tryd.prog W 0 sp true m 28 ((([c0, c1, c2, c3, c4, c5, c6, c7, c8, c9, c10, c11, c12, c13, c14, c15] : List Value).drop 8).take (Tryd.prog.cellsOf 28)) = xs[8]? := hg 8 _ rfl
  rw [cells28, List.getElem?_eq_getElem (by omega)] at g8
  have g9 : DataW.trod enc Tryd.prog W 0 sp true m 30 ((([c0, c1, c2, c3, c4, c5, c6, c7, c8, c9, c10, c11, c12, c13, c14, c15] : List Value).drop 12).take (Tryd.prog.cellsOf 30)) = xs[9]? := hg 9 _ rfl
  rw [cells30, List.getElem?_eq_getElem (by omega)] at g9
  obtain ⟨n0, e0, _, _⟩ := DataW.trod_int Tryd.underlying22 g0
  obtain ⟨n1, e1, _⟩ := DataW.trod_bool Tryd.underlying4 g1
  obtain ⟨n2, e2, _⟩ := DataW.trod_bool Tryd.underlying4 g2
  obtain ⟨n3, e3, _⟩ := DataW.trod_bool Tryd.underlying4 g3
  obtain ⟨n4, e4, _⟩ := DataW.trod_bool Tryd.underlying4 g4
  obtain ⟨n5, e5, _⟩ := DataW.trod_bool Tryd.underlying4 g5
  obtain ⟨n6, e6, _⟩ := DataW.trod_bool Tryd.underlying4 g6
  obtain ⟨n7, e7, _, _⟩ := DataW.trod_int Tryd.underlying23 g7
  have f8 : DataW.trod enc Tryd.prog W 0 sp true m 28 [c8, c9, c10, c11] = some _ := g8
  have f9 : DataW.trod enc Tryd.prog W 0 sp true m 30 [c12, c13, c14, c15] = some _ := g9
  obtain ⟨ys, m1, _, _, _, hl1, hg1⟩ := DataW.trod_struct Tryd.underlying28 f8
  have hl1' : ys.length = 4 := hl1
  obtain ⟨zs, m2, _, _, _, hl2, hg2⟩ := DataW.trod_struct Tryd.underlying30 f9
  have hl2' : zs.length = 4 := hl2
  have a0 : DataW.trod enc Tryd.prog W 0 sp true m1 24 ((([c8, c9, c10, c11] : List Value).drop 0).take (Tryd.prog.cellsOf 24)) = ys[0]? := hg1 0 _ rfl
  rw [cells24, List.getElem?_eq_getElem (by omega)] at a0
  obtain ⟨r0, s0, _, t0⟩ := DataW.trod_int Tryd.underlying24 a0
  have a1 : DataW.trod enc Tryd.prog W 0 sp true m1 25 ((([c8, c9, c10, c11] : List Value).drop 1).take (Tryd.prog.cellsOf 25)) = ys[1]? := hg1 1 _ rfl
  rw [cells25, List.getElem?_eq_getElem (by omega)] at a1
  obtain ⟨r1, s1, _, t1⟩ := DataW.trod_int Tryd.underlying25 a1
  have a2 : DataW.trod enc Tryd.prog W 0 sp true m1 24 ((([c8, c9, c10, c11] : List Value).drop 2).take (Tryd.prog.cellsOf 24)) = ys[2]? := hg1 2 _ rfl
  rw [cells24, List.getElem?_eq_getElem (by omega)] at a2
  obtain ⟨r2, s2, _, t2⟩ := DataW.trod_int Tryd.underlying24 a2
  have a3 : DataW.trod enc Tryd.prog W 0 sp true m1 26 ((([c8, c9, c10, c11] : List Value).drop 3).take (Tryd.prog.cellsOf 26)) = ys[3]? := hg1 3 _ rfl
  rw [cells26, List.getElem?_eq_getElem (by omega)] at a3
  obtain ⟨r3, s3, _, t3⟩ := DataW.trod_int Tryd.underlying26 a3
  have b0 : DataW.trod enc Tryd.prog W 0 sp true m2 5 ((([c12, c13, c14, c15] : List Value).drop 0).take (Tryd.prog.cellsOf 5)) = zs[0]? := hg2 0 _ rfl
  rw [cells5, List.getElem?_eq_getElem (by omega)] at b0
  obtain ⟨u0, v0, _, w0⟩ := DataW.trod_int Tryd.underlying5 b0
  have b1 : DataW.trod enc Tryd.prog W 0 sp true m2 5 ((([c12, c13, c14, c15] : List Value).drop 1).take (Tryd.prog.cellsOf 5)) = zs[1]? := hg2 1 _ rfl
  rw [cells5, List.getElem?_eq_getElem (by omega)] at b1
  obtain ⟨u1, v1, _, w1⟩ := DataW.trod_int Tryd.underlying5 b1
  have b2 : DataW.trod enc Tryd.prog W 0 sp true m2 5 ((([c12, c13, c14, c15] : List Value).drop 2).take (Tryd.prog.cellsOf 5)) = zs[2]? := hg2 2 _ rfl
  rw [cells5, List.getElem?_eq_getElem (by omega)] at b2
  obtain ⟨u2, v2, _, w2⟩ := DataW.trod_int Tryd.underlying5 b2
  have b3 : DataW.trod enc Tryd.prog W 0 sp true m2 5 ((([c12, c13, c14, c15] : List Value).drop 3).take (Tryd.prog.cellsOf 5)) = zs[3]? := hg2 3 _ rfl
  rw [cells5, List.getElem?_eq_getElem (by omega)] at b3
  obtain ⟨u3, v3, _, w3⟩ := DataW.trod_int Tryd.underlying5 b3
  simp at e0 e1 e2 e3 e4 e5 e6 e7 s0 v0 s1 v1 s2 v2 s3 v3
  subst e0 e1 e2 e3 e4 e5 e6 e7 s0 v0 s1 v1 s2 v2 s3 v3
  have x0 := bounds_u64 t0
  have x1 := bounds_u32 t1
  have x2 := bounds_u64 t2
  have x3 := bounds_u16 t3
  have y0 := bounds_u8 w0
  have y1 := bounds_u8 w1
  have y2 := bounds_u8 w2
  have y3 := bounds_u8 w3
  obtain ⟨Nr0, rfl⟩ := Int.eq_ofNat_of_zero_le (show 0 ≤ r0 by omega)
  obtain ⟨Nr1, rfl⟩ := Int.eq_ofNat_of_zero_le (show 0 ≤ r1 by omega)
  obtain ⟨Nr2, rfl⟩ := Int.eq_ofNat_of_zero_le (show 0 ≤ r2 by omega)
  obtain ⟨Nr3, rfl⟩ := Int.eq_ofNat_of_zero_le (show 0 ≤ r3 by omega)
  obtain ⟨Nu0, rfl⟩ := Int.eq_ofNat_of_zero_le (show 0 ≤ u0 by omega)
  obtain ⟨Nu1, rfl⟩ := Int.eq_ofNat_of_zero_le (show 0 ≤ u1 by omega)
  obtain ⟨Nu2, rfl⟩ := Int.eq_ofNat_of_zero_le (show 0 ≤ u2 by omega)
  obtain ⟨Nu3, rfl⟩ := Int.eq_ofNat_of_zero_le (show 0 ≤ u3 by omega)
  exact ⟨⟨n0, n1, n2, n3, n4, n5, n6, n7, Nr0, Nr1, Nr2, Nr3, Nu0, Nu1, Nu2, Nu3⟩, rfl, by show Nr0 < _; omega, by show Nr1 < _; omega, by show Nr2 < _; omega, by show Nr3 < _; omega, by show Nu0 < _; omega, by show Nu1 < _; omega, by show Nu2 < _; omega, by show Nu3 < _; omega⟩

theorem open_macv {H : Type} {enc : TypeId × Value → H} {W : World} {base : Nat} {sp : Nat → Bool} {v : Value} {dd : DataW H} {pl : List MemPlace}
    (hv : Value.okWide Tryd.prog W .any base 49 v) (h : DataW.Trod enc Tryd.prog W 0 sp true 49 v dd pl) : ∃ s : M6, v = .agg s.cs ∧ s.ok := by
  obtain ⟨cs, rfl, hsz, _⟩ : ∃ cs, v = .agg cs ∧ cs.size = Tryd.prog.cellsOf 49 ∧ Row.okWide Tryd.prog W .any base 49 cs := by
    simpa [Value.okWide, Tryd.underlying49] using hv
  rw [cells49] at hsz
  obtain ⟨l⟩ := cs
  obtain ⟨fuel, hf⟩ := h
  match l, hsz with
  | [c0, c1, c2, c3, c4, c5], _ =>
    have hf' : DataW.trod enc Tryd.prog W 0 sp true fuel 49 [c0, c1, c2, c3, c4, c5] = some (dd, pl) := hf
    obtain ⟨xs, m, _, _, _, hl, hg⟩ := DataW.trod_array Tryd.underlying49 hf'
    simp only [cells5] at hg
    have get : ∀ (i : Nat) (cv : Value), i < 6 → (([c0, c1, c2, c3, c4, c5] : List Value).drop (i * 1)).take 1 = [cv] → ∃ n : Int, cv = .int .u8 n ∧ 0 ≤ n ∧ n ≤ 255 := by
      intro i cv hi e
      have := hg i hi
      rw [e] at this
      rw [List.getElem?_eq_getElem (by omega)] at this
      obtain ⟨n, e1, _, wn⟩ := DataW.trod_int Tryd.underlying5 this
      simp at e1
      exact ⟨n, e1, bounds_u8 wn⟩
    obtain ⟨n0, h0, b0⟩ := get 0 c0 (by omega) rfl
    obtain ⟨n1, h1, b1⟩ := get 1 c1 (by omega) rfl
    obtain ⟨n2, h2, b2⟩ := get 2 c2 (by omega) rfl
    obtain ⟨n3, h3, b3⟩ := get 3 c3 (by omega) rfl
    obtain ⟨n4, h4, b4⟩ := get 4 c4 (by omega) rfl
    obtain ⟨n5, h5, b5⟩ := get 5 c5 (by omega) rfl
    subst h0 h1 h2 h3 h4 h5
    refine ⟨⟨n0, n1, n2, n3, n4, n5⟩, rfl, ?_⟩
    intro x hx
    simp only [M6.l, List.mem_cons, List.not_mem_nil, or_false] at hx
    rcases hx with rfl | rfl | rfl | rfl | rfl | rfl <;> assumption

/-- The table is what the row says that it is. -/
theorem gRoles : Tryd.prog.globalNamed "pontage/bpdu.roles" = some 0 := by kernel_rfl
theorem gRolesType : (Tryd.prog.globals[0]?).map (·.type) = some 83 := by kernel_rfl
theorem rl_of_laid {W : World} (h : laidMetH Tryd.prog [("pontage/bpdu.roles", Rows.laid_pontage_bpdu_roles)] W) : Rl W := by
  have h' : laidMet Tryd.prog [("pontage/bpdu.roles", Lib.tabData .i64 [0, 1, 3, 4])] W := h
  have hT := Lib.tabIs_of_head gRoles gRolesType Tryd.underlying83 Tryd.underlying23 cells23 cells83 h'
  have hv : W.var? Tryd.prog "pontage/bpdu.roles" = some rolesC := hT
  simp only [World.var?, gRoles, Option.bind_some] at hv
  split at hv
  · next cs t fr he =>
    cases hv
    exact ⟨t, fr, he⟩
  · cases hv
/-- A world that has it. -/
def laidWorld (w0 : World) : World :=
  { w0 with heap := w0.heap.modify 0 fun
      | .cells _ t frozen => .cells rolesC t frozen
      | o => o }
end Go.Proofs.YtfpoopllkmnagaaDoor
