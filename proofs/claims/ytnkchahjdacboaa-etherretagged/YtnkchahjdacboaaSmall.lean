/-
  The walks of the statements' own cuts, of the page's frame, and of which frames are the same: for every frame.
-/
import Derived.Test.YtnkchahjdacboaaCheck
namespace Go.Proofs.Ytnkchahjdacboaa
set_option linter.unusedVariables false
set_option linter.unusedSimpArgs false
open Go.RowKit

attribute [local go_sem ↓] ldS23 ldS25 ldS28 stS28 nqS_eq eqS_eq eqM_eq

theorem FrAt.lv {W : World} {b : Nat} {f : Fr} {x : Value} (h : FrAt W b f x) : (loadVar 28 ⟨b, 0, none⟩).run Try.prog W = .ok (.agg (fcs f x)) W :=
  run_loadVar_row (P := Try.prog) W b 28 28 (fcs f x) (0, 0) _ h Try.underlying28 rfl (by rw [fcs_size]; exact info28)

/-- What a call answers whose one result lies in a variable. -/
theorem results_one {fn : Func} {k : Nat} (hr : fn.results = #[.cell k 28]) (tmps : Array Value) (w : World) (b : Nat) (f : Fr) (x : Value) (h2 : tmps.getD k undef = .pointer (some ⟨b, 0, none⟩)) (h : FrAt w b f x) :
    (results fn tmps).run Try.prog w = .ok (.agg (fcs f x)) w := by
  have hl := h.lv
  have h2' : tmps[k]?.getD undef = .pointer (some ⟨b, 0, none⟩) := by simpa using h2
  simp [results, hr, asAddr, hl, h2']
/-- .. whose first result lies in a variable, the other in a slot. -/
theorem results_two {fn : Func} {k j : Nat} (hr : fn.results = #[.cell k 28, .tmp j]) (tmps : Array Value) (w : World) (b : Nat) (f : Fr) (x e : Value) (h2 : tmps.getD k undef = .pointer (some ⟨b, 0, none⟩)) (h3 : tmps.getD j undef = e) (h : FrAt w b f x) :
    (results fn tmps).run Try.prog w = .ok (.tuple #[.agg (fcs f x), e]) w := by
  have hl := h.lv
  have h2' : tmps[k]?.getD undef = .pointer (some ⟨b, 0, none⟩) := by simpa using h2
  have h3' : tmps[j]?.getD undef = e := by simpa using h3
  simp [results, hr, asAddr, hl, h2', h3']

theorem fcs_set16 (f : Fr) (x y : Value) : (fcs f x).setIfInBounds 16 y = fcs f y := rfl
theorem fcs_set12 (f : Fr) (x : Value) (t : Bool) : (fcs f x).setIfInBounds 12 (.bool t) = fcs ⟨f.d, f.s, t, f.p, f.e, f.v⟩ x := rfl
theorem fcs_set15 (f : Fr) (x : Value) (v : Int) : (fcs f x).setIfInBounds 15 (.int .i64 v) = fcs ⟨f.d, f.s, f.t, f.p, f.e, v⟩ x := rfl
attribute [local go_sem] fcs_set16

/-- The rest of a frame, stored. -/
theorem FrAt.rest {W : World} {b : Nat} {f : Fr} {x : Value} (h : FrAt W b f x) (y : Value) : FrAt (W.setCell ⟨b, 16, none⟩ y) b f y := by
  unfold FrAt at *
  rw [heap_setCell_same W b 16 (fcs f x) 28 y h]
  rfl
theorem FrAt.tags {W : World} {b : Nat} {f : Fr} {x : Value} (h : FrAt W b f x) (p : Int) (e : Bool) (v : Int) : FrAt (((W.setCell ⟨b, 13, none⟩ (.int .i64 p)).setCell ⟨b, 14, none⟩ (.bool e)).setCell ⟨b, 15, none⟩ (.int .i64 v)) b ⟨f.d, f.s, f.t, p, e, v⟩ x := by
  unfold FrAt at *
  rw [heap_setCell_same _ b 15 _ 28 _ (heap_setCell_same _ b 14 _ 28 _ (heap_setCell_same W b 13 (fcs f x) 28 _ h))]
  rfl
theorem FrAt.vid {W : World} {b : Nat} {f : Fr} {x : Value} (h : FrAt W b f x) (v : Int) : FrAt (W.setCell ⟨b, 15, none⟩ (.int .i64 v)) b ⟨f.d, f.s, f.t, f.p, f.e, v⟩ x := by
  unfold FrAt at *
  rw [heap_setCell_same _ b 15 _ 28 _ h]
  rfl
theorem FrAt.flag {W : World} {b : Nat} {f : Fr} {x : Value} (h : FrAt W b f x) (t : Bool) : FrAt (W.setCell ⟨b, 12, none⟩ (.bool t)) b ⟨f.d, f.s, t, f.p, f.e, f.v⟩ x := by
  unfold FrAt at *
  rw [heap_setCell_same _ b 12 _ 28 _ h]
  rfl
theorem FrAt.apart {W : World} {b : Nat} {f : Fr} {x : Value} (h : FrAt W b f x) {a : Addr} (ha : b ≠ a.block) (y : Value) : FrAt (W.setCell a y) b f x := (heap_setCell_other W a b y ha).trans h

theorem zero_new (W : World) : FrAt (W.alloc (.cells #[.int .u8 0, .int .u8 0, .int .u8 0, .int .u8 0, .int .u8 0, .int .u8 0, .int .u8 0, .int .u8 0, .int .u8 0, .int .u8 0, .int .u8 0, .int .u8 0, .bool false, .int .i64 0, .bool false, .int .i64 0, .slice none 0 0] 28)) W.heap.size zeroF (.slice none 0 0) := FrAt.new W zeroF _

set_option maxHeartbeats 1000000 in
theorem light_any (f : Fr) (x : Value) (l : List Int) (u w : World) (h : Src u x l) :
    Calls Try.prog 8 #[.agg (fcs f x)] w fun r w' => ∃ y, r = .returned (.agg (fcs f y)) ∧ Src u y (l.take 1600) ∧ Below w.heap.size w w' := by
  obtain ⟨a, n, c, rfl⟩ := src_form h
  obtain ⟨hn, hc, hm⟩ := src_short h
  have hF2 : FrAt ((w.alloc (.cells (fcs f (.slice a n c)) 28)).alloc (.cells #[.int .u8 0, .int .u8 0, .int .u8 0, .int .u8 0, .int .u8 0, .int .u8 0, .int .u8 0, .int .u8 0, .int .u8 0, .int .u8 0, .int .u8 0, .int .u8 0, .bool false, .int .i64 0, .bool false, .int .i64 0, .slice none 0 0] 28)) w.heap.size f (.slice a n c) := (FrAt.new w f (.slice a n c)).below ((Below.refl _ _).alloc (Nat.le_refl _) _)
  have c16 := hF2.c16
  have lv := hF2.live
  by_cases h4 : 1600 < n
  · have h4' : (1600 : Int) < (n : Int) := by omega
    have hc4 : (1600 : Int) ≤ (c : Int) := by omega
    have hc5 : 1600 ≤ c := by omega
    have hm' : c ≤ 9223372036854775807 := by unfold maxLen at hm; omega
    obtain ⟨b, o, rfl, _, _⟩ := src_some h (by omega)
    have HS : Hid (Src u (.slice (some ⟨b, o, none⟩) 1600 c) (l.take 1600)) := h.take 1600 (by omega) (by simp)
    have F3 : FrAt ((w.alloc (.cells (fcs f (.slice (some ⟨b, o, none⟩) 1600 c)) 28)).alloc (.cells #[.int .u8 0, .int .u8 0, .int .u8 0, .int .u8 0, .int .u8 0, .int .u8 0, .int .u8 0, .int .u8 0, .int .u8 0, .int .u8 0, .int .u8 0, .int .u8 0, .bool false, .int .i64 0, .bool false, .int .i64 0, .slice none 0 0] 28)) w.heap.size f (.slice (some ⟨b, o, none⟩) 1600 c) := (FrAt.new w f (.slice (some ⟨b, o, none⟩) 1600 c)).below ((Below.refl _ _).alloc (Nat.le_refl _) _)
    have hZ := zero_new (w.alloc (.cells (fcs f (.slice (some ⟨b, o, none⟩) 1600 c)) 28))
    simp only [World.size_alloc] at hZ
    have ld3 := F3.ld
    have st3 := hZ.st (g := f) (y := .slice (some ⟨b, o, none⟩) 1600 c) rfl
    have F4 := hZ.set (g := f) (y := .slice (some ⟨b, o, none⟩) 1600 c)
    have B4 := below_setRow (((Below.refl w.heap.size w).alloc (Nat.le_refl _) (.cells (fcs f (.slice (some ⟨b, o, none⟩) 1600 c)) 28)).alloc (by simp) (.cells #[.int .u8 0, .int .u8 0, .int .u8 0, .int .u8 0, .int .u8 0, .int .u8 0, .int .u8 0, .int .u8 0, .int .u8 0, .int .u8 0, .int .u8 0, .int .u8 0, .bool false, .int .i64 0, .bool false, .int .i64 0, .slice none 0 0] 28)) (g := w.heap.size + 1) (by omega) (fcs f (.slice (some ⟨b, o, none⟩) 1600 c))
    have HH : Hid _ := And.intro F4 B4
    clear h hn F3 F4 B4 hZ hF2
    go_enter Try.func8, Try.ntmps8
    go_wp2
    refine bodyPost_ret (results_one Try.results8 _ _ _ _ _ rfl HH.out.1) rfl ?_
    exact ⟨_, rfl, HS.out, HH.out.2⟩
  · have h4' : ¬ (1600 : Int) < (n : Int) := by omega
    have HS : Hid (Src u (.slice a n c) (l.take 1600)) := by
      rw [List.take_of_length_le (by omega)]
      exact h
    have F3 : FrAt ((w.alloc (.cells (fcs f (.slice a n c)) 28)).alloc (.cells #[.int .u8 0, .int .u8 0, .int .u8 0, .int .u8 0, .int .u8 0, .int .u8 0, .int .u8 0, .int .u8 0, .int .u8 0, .int .u8 0, .int .u8 0, .int .u8 0, .bool false, .int .i64 0, .bool false, .int .i64 0, .slice none 0 0] 28)) w.heap.size f (.slice a n c) := (FrAt.new w f (.slice a n c)).below ((Below.refl _ _).alloc (Nat.le_refl _) _)
    have hZ := zero_new (w.alloc (.cells (fcs f (.slice a n c)) 28))
    simp only [World.size_alloc] at hZ
    have ld3 := F3.ld
    have st3 := hZ.st (g := f) (y := .slice a n c) rfl
    have F4 := hZ.set (g := f) (y := .slice a n c)
    have B4 := below_setRow (((Below.refl w.heap.size w).alloc (Nat.le_refl _) (.cells (fcs f (.slice a n c)) 28)).alloc (by simp) (.cells #[.int .u8 0, .int .u8 0, .int .u8 0, .int .u8 0, .int .u8 0, .int .u8 0, .int .u8 0, .int .u8 0, .int .u8 0, .int .u8 0, .int .u8 0, .int .u8 0, .bool false, .int .i64 0, .bool false, .int .i64 0, .slice none 0 0] 28)) (g := w.heap.size + 1) (by omega) (fcs f (.slice a n c))
    have HH : Hid _ := And.intro F4 B4
    clear h hn F3 F4 B4 hZ hF2
    go_enter Try.func8, Try.ntmps8
    go_wp2
    refine bodyPost_ret (results_one Try.results8 _ _ _ _ _ rfl HH.out.1) rfl ?_
    exact ⟨_, rfl, HS.out, HH.out.2⟩

set_option maxHeartbeats 400000 in
theorem cut_any (a : Option Addr) (n c : Nat) (l : List Int) (u w : World) (h : Src u (.slice a n c) l) :
    Calls Try.prog 13 #[.slice a n c] w fun r w' => ∃ m, r = .returned (.slice a m c) ∧ w' = w ∧ Src u (.slice a m c) (l.take 1700) := by
  obtain ⟨hn, hc, hm⟩ := src_short h
  by_cases h4 : 1700 < n
  · have h4' : (1700 : Int) < (n : Int) := by omega
    have hc4 : (1700 : Int) ≤ (c : Int) := by omega
    have hc5 : 1700 ≤ c := by omega
    have hm' : c ≤ 9223372036854775807 := by unfold maxLen at hm; omega
    obtain ⟨b, o, rfl, _, _⟩ := src_some h (by omega)
    have hS : Hid (Src u (.slice (some ⟨b, o, none⟩) 1700 c) (l.take 1700)) := h.take 1700 (by omega) (by simp)
    clear h hn
    go_enter Try.func13, Try.ntmps13
    go_wp2
    go_ret
    exact ⟨1700, rfl, rfl, hS.out⟩
  · have h4' : ¬ (1700 : Int) < (n : Int) := by omega
    have hS : Hid (Src u (.slice a n c) (l.take 1700)) := by
      rw [List.take_of_length_le (by omega)]
      exact h
    clear h hn
    go_enter Try.func13, Try.ntmps13
    go_wp2
    go_ret
    exact ⟨n, rfl, rfl, hS.out⟩

/-- The page's frame. -/
def plainF : Fr := ⟨⟨255, 255, 255, 255, 255, 255⟩, ⟨2, 0, 0, 0, 0, 1⟩, true, 3, false, 100⟩

theorem FrAt.stv {W : World} {b : Nat} {f g : Fr} {x y : Value} (h : FrAt W b f x) (hy : y.oneCell' = true) (v : Value) (hv : v = .agg (fcs g y)) : (stS 28 (.pointer (some ⟨b, 0, none⟩)) v).run Try.prog W = .ok () (W.setRow b (fcs g y)) := by
  subst hv
  exact h.st hy

set_option maxHeartbeats 1000000 in
theorem plain_any (w : World) : Calls Try.prog 26 #[] w fun r w' => ∃ y, r = .returned (.agg (fcs plainF y)) ∧ Src w' y [8, 0, 69] ∧ Below w.heap.size w w' := by
  have hZ := (zero_new w).below ((Below.refl _ (w.alloc (.cells #[.int .u8 0, .int .u8 0, .int .u8 0, .int .u8 0, .int .u8 0, .int .u8 0, .int .u8 0, .int .u8 0, .int .u8 0, .int .u8 0, .int .u8 0, .int .u8 0, .bool false, .int .i64 0, .bool false, .int .i64 0, .slice none 0 0] 28))).alloc (Nat.le_refl _) (.cells #[.int .u8 8, .int .u8 0, .int .u8 69] 5))
  have st := hZ.stv (g := plainF) (y := .slice (some ⟨w.heap.size + 1, 0, none⟩) 3 3) rfl _ rfl
  simp only [fcs, plainF] at st
  have F4 := hZ.set (g := plainF) (y := .slice (some ⟨w.heap.size + 1, 0, none⟩) 3 3)
  have S4 : Src (((w.alloc (.cells #[.int .u8 0, .int .u8 0, .int .u8 0, .int .u8 0, .int .u8 0, .int .u8 0, .int .u8 0, .int .u8 0, .int .u8 0, .int .u8 0, .int .u8 0, .int .u8 0, .bool false, .int .i64 0, .bool false, .int .i64 0, .slice none 0 0] 28)).alloc (.cells #[.int .u8 8, .int .u8 0, .int .u8 69] 5)).setRow w.heap.size (fcs plainF (.slice (some ⟨w.heap.size + 1, 0, none⟩) 3 3))) (.slice (some ⟨w.heap.size + 1, 0, none⟩) 3 3) [8, 0, 69] := by
    have := own_new (w.alloc (.cells #[.int .u8 0, .int .u8 0, .int .u8 0, .int .u8 0, .int .u8 0, .int .u8 0, .int .u8 0, .int .u8 0, .int .u8 0, .int .u8 0, .int .u8 0, .int .u8 0, .bool false, .int .i64 0, .bool false, .int .i64 0, .slice none 0 0] 28)) [8, 0, 69] (w.heap.size + 1) (w.heap.size + 1) _ rfl (by simp) (Nat.le_refl _) (by simp)
    refine (this.of_block (w' := _) (fun k hk => ?_)).src
    have hk' : k = w.heap.size + 1 := by cases hk; rfl
    exact setRow_other _ _ _ _ (by omega)
  have B4 := below_setRow (((Below.refl w.heap.size w).alloc (Nat.le_refl _) (.cells #[.int .u8 0, .int .u8 0, .int .u8 0, .int .u8 0, .int .u8 0, .int .u8 0, .int .u8 0, .int .u8 0, .int .u8 0, .int .u8 0, .int .u8 0, .int .u8 0, .bool false, .int .i64 0, .bool false, .int .i64 0, .slice none 0 0] 28)).alloc (by simp) (.cells #[.int .u8 8, .int .u8 0, .int .u8 69] 5)) (g := w.heap.size) (Nat.le_refl _) (fcs plainF (.slice (some ⟨w.heap.size + 1, 0, none⟩) 3 3))
  have HH : Hid _ := And.intro F4 (And.intro S4 B4)
  clear hZ F4 S4 B4
  go_enter Try.func26, Try.ntmps26
  go_wp2
  refine bodyPost_ret (results_one Try.results26 _ _ _ _ _ rfl HH.out.1) rfl ?_
  exact ⟨_, rfl, HH.out.2.1, HH.out.2.2⟩

/-- Are bytes the same? -/
def beqL (l m : List Int) : Bool := (bs l).toList == (bs m).toList
theorem beqL_self (l : List Int) : beqL l l = true := by simp [beqL]

theorem equal_any (x y : Value) (l m : List Int) (w : World) (hx : Src w x l) (hy : Src w y m) :
    Calls Try.prog 35 #[x, y] w fun r w' => r = .returned (.bool (beqL l m)) ∧ w' = w := by
  have q1 := hx.string
  have q2 := hy.string
  clear hx hy
  go_enter Try.func35, Try.ntmps35
  go_wp2
  go_ret
  exact ⟨rfl, rfl⟩
end Go.Proofs.Ytnkchahjdacboaa
