/-
  The walks of the statements' own cuts, and of a frame there and back.
-/
import Derived.Test.YteljcgdenagcmaaBBack
import Derived.Test.YteljcgdenagcmaaBHide
namespace Go.Proofs.Yteljcgdenagcmaa
set_option linter.unusedVariables false
set_option maxRecDepth 4000
set_option linter.unusedSimpArgs false
open Go.RowKit

theorem take_le (l : List Int) (k : Nat) : (l.take k).length ≤ k := by simp; omega
theorem take_b {l : List Int} (hb : ∀ x ∈ l, 0 ≤ x ∧ x ≤ 255) (k : Nat) : ∀ x ∈ l.take k, 0 ≤ x ∧ x ≤ 255 := fun x hx => hb x (List.mem_of_mem_take hx)
theorem fcs_set16' (f : Fr) (x y : Value) : (fcs f x).setIfInBounds 16 y = fcs f y := rfl
theorem bcs_set31 (f : Bf) (x y : Value) : (bcs f x).setIfInBounds 31 y = bcs f y := rfl
theorem results_bone {fn : Func} {k : Nat} (hr : fn.results = #[.cell k 30]) (tmps : Array Value) (w : World) (b : Nat) (f : Bf) (x : Value) (h2 : tmps.getD k undef = .pointer (some ⟨b, 0, none⟩)) (h : BfAt w b f x) :
    (results fn tmps).run Try.prog w = .ok (.agg (bcs f x)) w := by
  have hl := h.lv
  have h2' : tmps[k]?.getD undef = .pointer (some ⟨b, 0, none⟩) := by simpa using h2
  simp [results, hr, asAddr, hl, h2']

attribute [local go_sem ↓] ldS23 ldS25 ldI27 ldS30 ldS38 stS38 stS30 stS25
attribute [local go_sem] fcs_set16' bcs_set31

set_option maxHeartbeats 1000000 in
theorem few_any (f : Fr) (x : Value) (l : List Int) (u w : World) (h : Src u x l) :
    Calls Try.prog 22 #[.agg (fcs f x)] w fun r w' => ∃ y, r = .returned (.agg (fcs f y)) ∧ Src u y (l.take 1510) ∧ Below w.heap.size w w' := by
  obtain ⟨a, n, c, rfl⟩ := src_form h
  obtain ⟨hn, hc, hm⟩ := src_short h
  have hF2 : FrAt ((w.alloc (.cells (fcs f (.slice a n c)) 38)).alloc (.cells #[.int .u8 0, .int .u8 0, .int .u8 0, .int .u8 0, .int .u8 0, .int .u8 0, .int .u8 0, .int .u8 0, .int .u8 0, .int .u8 0, .int .u8 0, .int .u8 0, .bool false, .int .i64 0, .bool false, .int .i64 0, .slice none 0 0] 38)) w.heap.size f (.slice a n c) := (FrAt.new w f (.slice a n c)).below ((Below.refl _ _).alloc (Nat.le_refl _) _)
  have c16 := hF2.c16
  have lv := hF2.live
  by_cases h4 : 1510 < n
  · have h4' : (1510 : Int) < (n : Int) := by omega
    have hc4 : (1510 : Int) ≤ (c : Int) := by omega
    have hc5 : 1510 ≤ c := by omega
    have hm' : c ≤ 9223372036854775807 := by unfold maxLen at hm; omega
    obtain ⟨b, o, rfl, _, _⟩ := src_some h (by omega)
    have HS : Hid (Src u (.slice (some ⟨b, o, none⟩) 1510 c) (l.take 1510)) := h.take 1510 (by omega) (by simp)
    have F3 : FrAt ((w.alloc (.cells (fcs f (.slice (some ⟨b, o, none⟩) 1510 c)) 38)).alloc (.cells #[.int .u8 0, .int .u8 0, .int .u8 0, .int .u8 0, .int .u8 0, .int .u8 0, .int .u8 0, .int .u8 0, .int .u8 0, .int .u8 0, .int .u8 0, .int .u8 0, .bool false, .int .i64 0, .bool false, .int .i64 0, .slice none 0 0] 38)) w.heap.size f (.slice (some ⟨b, o, none⟩) 1510 c) := (FrAt.new w f (.slice (some ⟨b, o, none⟩) 1510 c)).below ((Below.refl _ _).alloc (Nat.le_refl _) _)
    have hZ := zero_new (w.alloc (.cells (fcs f (.slice (some ⟨b, o, none⟩) 1510 c)) 38))
    simp only [World.size_alloc] at hZ
    have ld3 := F3.ld
    have st3 := hZ.st (g := f) (y := (.slice (some ⟨b, o, none⟩) 1510 c)) rfl
    have F4 := hZ.set (g := f) (y := (.slice (some ⟨b, o, none⟩) 1510 c))
    have B4 := below_setRow (((Below.refl w.heap.size w).alloc (Nat.le_refl _) (.cells (fcs f (.slice (some ⟨b, o, none⟩) 1510 c)) 38)).alloc (by simp) (.cells #[.int .u8 0, .int .u8 0, .int .u8 0, .int .u8 0, .int .u8 0, .int .u8 0, .int .u8 0, .int .u8 0, .int .u8 0, .int .u8 0, .int .u8 0, .int .u8 0, .bool false, .int .i64 0, .bool false, .int .i64 0, .slice none 0 0] 38)) (g := w.heap.size + 1) (by omega) (fcs f (.slice (some ⟨b, o, none⟩) 1510 c))
    have HH : Hid _ := And.intro F4 B4
    clear h hn F3 F4 B4 hZ hF2
    go_enter Try.func22, Try.ntmps22
    go_wp2
    refine bodyPost_ret (results_one Try.results22 _ _ _ _ _ rfl HH.out.1) rfl ?_
    exact ⟨_, rfl, HS.out, HH.out.2⟩
  · have h4' : ¬ (1510 : Int) < (n : Int) := by omega
    have HS : Hid (Src u (.slice a n c) (l.take 1510)) := by
      rw [List.take_of_length_le (by omega)]
      exact h
    have F3 : FrAt ((w.alloc (.cells (fcs f (.slice a n c)) 38)).alloc (.cells #[.int .u8 0, .int .u8 0, .int .u8 0, .int .u8 0, .int .u8 0, .int .u8 0, .int .u8 0, .int .u8 0, .int .u8 0, .int .u8 0, .int .u8 0, .int .u8 0, .bool false, .int .i64 0, .bool false, .int .i64 0, .slice none 0 0] 38)) w.heap.size f (.slice a n c) := (FrAt.new w f (.slice a n c)).below ((Below.refl _ _).alloc (Nat.le_refl _) _)
    have hZ := zero_new (w.alloc (.cells (fcs f (.slice a n c)) 38))
    simp only [World.size_alloc] at hZ
    have ld3 := F3.ld
    have st3 := hZ.st (g := f) (y := (.slice a n c)) rfl
    have F4 := hZ.set (g := f) (y := (.slice a n c))
    have B4 := below_setRow (((Below.refl w.heap.size w).alloc (Nat.le_refl _) (.cells (fcs f (.slice a n c)) 38)).alloc (by simp) (.cells #[.int .u8 0, .int .u8 0, .int .u8 0, .int .u8 0, .int .u8 0, .int .u8 0, .int .u8 0, .int .u8 0, .int .u8 0, .int .u8 0, .int .u8 0, .int .u8 0, .bool false, .int .i64 0, .bool false, .int .i64 0, .slice none 0 0] 38)) (g := w.heap.size + 1) (by omega) (fcs f (.slice a n c))
    have HH : Hid _ := And.intro F4 B4
    clear h hn F3 F4 B4 hZ hF2
    go_enter Try.func22, Try.ntmps22
    go_wp2
    refine bodyPost_ret (results_one Try.results22 _ _ _ _ _ rfl HH.out.1) rfl ?_
    exact ⟨_, rfl, HS.out, HH.out.2⟩

set_option maxHeartbeats 1000000 in
theorem fewb_any (f : Bf) (x : Value) (l : List Int) (u w : World) (h : Src u x l) :
    Calls Try.prog 9 #[.agg (bcs f x)] w fun r w' => ∃ y, r = .returned (.agg (bcs f y)) ∧ Src u y (l.take 1510) ∧ Below w.heap.size w w' := by
  obtain ⟨a, n, c, rfl⟩ := src_form h
  obtain ⟨hn, hc, hm⟩ := src_short h
  have hF2 : BfAt ((w.alloc (.cells (bcs f (.slice a n c)) 30)).alloc (.cells #[.int .u8 0, .int .u8 0, .int .u8 0, .int .u8 0, .int .u8 0, .int .u8 0, .int .u8 0, .int .u8 0, .int .u8 0, .int .u8 0, .int .u8 0, .int .u8 0, .int .i64 0, .bool false, .int .i64 0, .int .i64 0, .bool false, .bool false, .int .i64 0, .int .u8 0, .int .u8 0, .int .u8 0, .int .u8 0, .int .u8 0, .int .u8 0, .int .u8 0, .int .u8 0, .int .u8 0, .int .u8 0, .int .u8 0, .int .u8 0, .slice none 0 0] 30)) w.heap.size f (.slice a n c) := (BfAt.new w f (.slice a n c)).below ((Below.refl _ _).alloc (Nat.le_refl _) _)
  have c16 := hF2.c31
  have lv := hF2.live
  by_cases h4 : 1510 < n
  · have h4' : (1510 : Int) < (n : Int) := by omega
    have hc4 : (1510 : Int) ≤ (c : Int) := by omega
    have hc5 : 1510 ≤ c := by omega
    have hm' : c ≤ 9223372036854775807 := by unfold maxLen at hm; omega
    obtain ⟨b, o, rfl, _, _⟩ := src_some h (by omega)
    have HS : Hid (Src u (.slice (some ⟨b, o, none⟩) 1510 c) (l.take 1510)) := h.take 1510 (by omega) (by simp)
    have F3 : BfAt ((w.alloc (.cells (bcs f (.slice (some ⟨b, o, none⟩) 1510 c)) 30)).alloc (.cells #[.int .u8 0, .int .u8 0, .int .u8 0, .int .u8 0, .int .u8 0, .int .u8 0, .int .u8 0, .int .u8 0, .int .u8 0, .int .u8 0, .int .u8 0, .int .u8 0, .int .i64 0, .bool false, .int .i64 0, .int .i64 0, .bool false, .bool false, .int .i64 0, .int .u8 0, .int .u8 0, .int .u8 0, .int .u8 0, .int .u8 0, .int .u8 0, .int .u8 0, .int .u8 0, .int .u8 0, .int .u8 0, .int .u8 0, .int .u8 0, .slice none 0 0] 30)) w.heap.size f (.slice (some ⟨b, o, none⟩) 1510 c) := (BfAt.new w f (.slice (some ⟨b, o, none⟩) 1510 c)).below ((Below.refl _ _).alloc (Nat.le_refl _) _)
    have hZ := zeroB_new (w.alloc (.cells (bcs f (.slice (some ⟨b, o, none⟩) 1510 c)) 30))
    simp only [World.size_alloc] at hZ
    have ld3 := F3.ld
    have st3 := hZ.st (g := f) (y := (.slice (some ⟨b, o, none⟩) 1510 c)) rfl
    have F4 := hZ.set (g := f) (y := (.slice (some ⟨b, o, none⟩) 1510 c))
    have B4 := below_setRow (((Below.refl w.heap.size w).alloc (Nat.le_refl _) (.cells (bcs f (.slice (some ⟨b, o, none⟩) 1510 c)) 30)).alloc (by simp) (.cells #[.int .u8 0, .int .u8 0, .int .u8 0, .int .u8 0, .int .u8 0, .int .u8 0, .int .u8 0, .int .u8 0, .int .u8 0, .int .u8 0, .int .u8 0, .int .u8 0, .int .i64 0, .bool false, .int .i64 0, .int .i64 0, .bool false, .bool false, .int .i64 0, .int .u8 0, .int .u8 0, .int .u8 0, .int .u8 0, .int .u8 0, .int .u8 0, .int .u8 0, .int .u8 0, .int .u8 0, .int .u8 0, .int .u8 0, .int .u8 0, .slice none 0 0] 30)) (g := w.heap.size + 1) (by omega) (bcs f (.slice (some ⟨b, o, none⟩) 1510 c))
    have HH : Hid _ := And.intro F4 B4
    clear h hn F3 F4 B4 hZ hF2
    go_enter Try.func9, Try.ntmps9
    go_wp2
    refine bodyPost_ret (results_bone Try.results9 _ _ _ _ _ rfl HH.out.1) rfl ?_
    exact ⟨_, rfl, HS.out, HH.out.2⟩
  · have h4' : ¬ (1510 : Int) < (n : Int) := by omega
    have HS : Hid (Src u (.slice a n c) (l.take 1510)) := by
      rw [List.take_of_length_le (by omega)]
      exact h
    have F3 : BfAt ((w.alloc (.cells (bcs f (.slice a n c)) 30)).alloc (.cells #[.int .u8 0, .int .u8 0, .int .u8 0, .int .u8 0, .int .u8 0, .int .u8 0, .int .u8 0, .int .u8 0, .int .u8 0, .int .u8 0, .int .u8 0, .int .u8 0, .int .i64 0, .bool false, .int .i64 0, .int .i64 0, .bool false, .bool false, .int .i64 0, .int .u8 0, .int .u8 0, .int .u8 0, .int .u8 0, .int .u8 0, .int .u8 0, .int .u8 0, .int .u8 0, .int .u8 0, .int .u8 0, .int .u8 0, .int .u8 0, .slice none 0 0] 30)) w.heap.size f (.slice a n c) := (BfAt.new w f (.slice a n c)).below ((Below.refl _ _).alloc (Nat.le_refl _) _)
    have hZ := zeroB_new (w.alloc (.cells (bcs f (.slice a n c)) 30))
    simp only [World.size_alloc] at hZ
    have ld3 := F3.ld
    have st3 := hZ.st (g := f) (y := (.slice a n c)) rfl
    have F4 := hZ.set (g := f) (y := (.slice a n c))
    have B4 := below_setRow (((Below.refl w.heap.size w).alloc (Nat.le_refl _) (.cells (bcs f (.slice a n c)) 30)).alloc (by simp) (.cells #[.int .u8 0, .int .u8 0, .int .u8 0, .int .u8 0, .int .u8 0, .int .u8 0, .int .u8 0, .int .u8 0, .int .u8 0, .int .u8 0, .int .u8 0, .int .u8 0, .int .i64 0, .bool false, .int .i64 0, .int .i64 0, .bool false, .bool false, .int .i64 0, .int .u8 0, .int .u8 0, .int .u8 0, .int .u8 0, .int .u8 0, .int .u8 0, .int .u8 0, .int .u8 0, .int .u8 0, .int .u8 0, .int .u8 0, .int .u8 0, .slice none 0 0] 30)) (g := w.heap.size + 1) (by omega) (bcs f (.slice a n c))
    have HH : Hid _ := And.intro F4 B4
    clear h hn F3 F4 B4 hZ hF2
    go_enter Try.func9, Try.ntmps9
    go_wp2
    refine bodyPost_ret (results_bone Try.results9 _ _ _ _ _ rfl HH.out.1) rfl ?_
    exact ⟨_, rfl, HS.out, HH.out.2⟩

set_option maxHeartbeats 1000000 in
theorem cut_any (x : Value) (l : List Int) (u w : World) (h : Src u x l) :
    Calls Try.prog 18 #[x] w fun r w' => ∃ y, r = .returned y ∧ Src u y (l.take 1600) ∧ Below w.heap.size w w' := by
  obtain ⟨a, n, c, rfl⟩ := src_form h
  obtain ⟨hn, hc, hm⟩ := src_short h
  by_cases h4 : 1600 < n
  · have h4' : (1600 : Int) < (n : Int) := by omega
    have hc4 : (1600 : Int) ≤ (c : Int) := by omega
    have hc5 : 1600 ≤ c := by omega
    have hm' : c ≤ 9223372036854775807 := by unfold maxLen at hm; omega
    obtain ⟨b, o, rfl, _, _⟩ := src_some h (by omega)
    have HS : Hid (Src u (.slice (some ⟨b, o, none⟩) 1600 c) (l.take 1600)) := h.take 1600 (by omega) (by simp)
    clear h hn
    go_enter Try.func18, Try.ntmps18
    go_wp2
    go_ret
    exact ⟨_, rfl, HS.out, Below.refl _ _⟩
  · have h4' : ¬ (1600 : Int) < (n : Int) := by omega
    have HS : Hid (Src u (.slice a n c) (l.take 1600)) := by
      rw [List.take_of_length_le (by omega)]
      exact h
    clear h hn
    go_enter Try.func18, Try.ntmps18
    go_wp2
    go_ret
    exact ⟨_, rfl, HS.out, Below.refl _ _⟩

/-- Forty-six zeros. -/
def z46 : Array Value := #[.int .u8 0, .int .u8 0, .int .u8 0, .int .u8 0, .int .u8 0, .int .u8 0, .int .u8 0, .int .u8 0, .int .u8 0, .int .u8 0, .int .u8 0, .int .u8 0, .int .u8 0, .int .u8 0, .int .u8 0, .int .u8 0, .int .u8 0, .int .u8 0, .int .u8 0, .int .u8 0, .int .u8 0, .int .u8 0, .int .u8 0, .int .u8 0, .int .u8 0, .int .u8 0, .int .u8 0, .int .u8 0, .int .u8 0, .int .u8 0, .int .u8 0, .int .u8 0, .int .u8 0, .int .u8 0, .int .u8 0, .int .u8 0, .int .u8 0, .int .u8 0, .int .u8 0, .int .u8 0, .int .u8 0, .int .u8 0, .int .u8 0, .int .u8 0, .int .u8 0, .int .u8 0]
def oneL : List Int := List.replicate 46 0
def oneB : Bf := ⟨⟨1, 30, 131, 0, 0, 7⟩, ⟨2, 0, 0, 0, 0, 1⟩, 0, false, 10, 0, false, true, 7, ⟨2, 9, 0, 0, 0, 0⟩, ⟨2, 8, 0, 0, 0, 0⟩⟩
theorem make46 (w : World) : (Instr.makeSlice 28 (.int .i64 46) (.int .i64 46)).run Try.prog w = .ok (.slice (some ⟨w.heap.size, 0, none⟩) 46 46) (w.alloc (.cells z46 5)) := by kernel_rfl
theorem one_chk : chkB oneB oneL = 0 := by decide +kernel
theorem one_ok : oneB.ok := by
  refine ⟨?_, ?_, ?_, ?_⟩ <;> intro x hx <;> simp only [M6.l, oneB, List.mem_cons, List.not_mem_nil, or_false] at hx <;> omega
theorem one_b : ∀ x ∈ oneL, 0 ≤ x ∧ x ≤ 255 := by
  intro x hx
  have := List.eq_of_mem_replicate hx
  omega

set_option maxHeartbeats 1000000 in
theorem one_any (w : World) : Calls Try.prog 37 #[] w fun r w' => ∃ y, r = .returned (.agg (bcs oneB y)) ∧ Src w' y oneL ∧ Below w.heap.size w w' := by
  have hZ := (zeroB_new w).below ((Below.refl _ (w.alloc (.cells #[.int .u8 0, .int .u8 0, .int .u8 0, .int .u8 0, .int .u8 0, .int .u8 0, .int .u8 0, .int .u8 0, .int .u8 0, .int .u8 0, .int .u8 0, .int .u8 0, .int .i64 0, .bool false, .int .i64 0, .int .i64 0, .bool false, .bool false, .int .i64 0, .int .u8 0, .int .u8 0, .int .u8 0, .int .u8 0, .int .u8 0, .int .u8 0, .int .u8 0, .int .u8 0, .int .u8 0, .int .u8 0, .int .u8 0, .int .u8 0, .slice none 0 0] 30))).alloc (Nat.le_refl _) (.cells z46 5))
  have mk := make46
  have st := hZ.st (g := oneB) (y := .slice (some ⟨w.heap.size + 1, 0, none⟩) 46 46) rfl
  simp only [bcs, oneB] at st
  have F4 := hZ.set (g := oneB) (y := .slice (some ⟨w.heap.size + 1, 0, none⟩) 46 46)
  have S4 : Src (((w.alloc (.cells #[.int .u8 0, .int .u8 0, .int .u8 0, .int .u8 0, .int .u8 0, .int .u8 0, .int .u8 0, .int .u8 0, .int .u8 0, .int .u8 0, .int .u8 0, .int .u8 0, .int .i64 0, .bool false, .int .i64 0, .int .i64 0, .bool false, .bool false, .int .i64 0, .int .u8 0, .int .u8 0, .int .u8 0, .int .u8 0, .int .u8 0, .int .u8 0, .int .u8 0, .int .u8 0, .int .u8 0, .int .u8 0, .int .u8 0, .int .u8 0, .slice none 0 0] 30)).alloc (.cells z46 5)).setRow w.heap.size (bcs oneB (.slice (some ⟨w.heap.size + 1, 0, none⟩) 46 46))) (.slice (some ⟨w.heap.size + 1, 0, none⟩) 46 46) oneL := by
    have := own_new (w.alloc (.cells #[.int .u8 0, .int .u8 0, .int .u8 0, .int .u8 0, .int .u8 0, .int .u8 0, .int .u8 0, .int .u8 0, .int .u8 0, .int .u8 0, .int .u8 0, .int .u8 0, .int .i64 0, .bool false, .int .i64 0, .int .i64 0, .bool false, .bool false, .int .i64 0, .int .u8 0, .int .u8 0, .int .u8 0, .int .u8 0, .int .u8 0, .int .u8 0, .int .u8 0, .int .u8 0, .int .u8 0, .int .u8 0, .int .u8 0, .int .u8 0, .slice none 0 0] 30)) oneL (w.heap.size + 1) (w.heap.size + 1) z46 rfl (by simp) (Nat.le_refl _) (by decide)
    refine (this.of_block (w' := _) (fun k hk => ?_)).src
    have hk' : k = w.heap.size + 1 := by cases hk; rfl
    exact setRow_other _ _ _ _ (by omega)
  have B4 := below_setRow (((Below.refl w.heap.size w).alloc (Nat.le_refl _) (.cells #[.int .u8 0, .int .u8 0, .int .u8 0, .int .u8 0, .int .u8 0, .int .u8 0, .int .u8 0, .int .u8 0, .int .u8 0, .int .u8 0, .int .u8 0, .int .u8 0, .int .i64 0, .bool false, .int .i64 0, .int .i64 0, .bool false, .bool false, .int .i64 0, .int .u8 0, .int .u8 0, .int .u8 0, .int .u8 0, .int .u8 0, .int .u8 0, .int .u8 0, .int .u8 0, .int .u8 0, .int .u8 0, .int .u8 0, .int .u8 0, .slice none 0 0] 30)).alloc (by simp) (.cells z46 5)) (g := w.heap.size) (Nat.le_refl _) (bcs oneB (.slice (some ⟨w.heap.size + 1, 0, none⟩) 46 46))
  have HH : Hid _ := And.intro F4 (And.intro S4 B4)
  clear hZ F4 S4 B4
  go_enter Try.func37, Try.ntmps37
  go_wp2
  refine bodyPost_ret (results_bone Try.results37 _ _ _ _ _ rfl HH.out.1) rfl ?_
  exact ⟨_, rfl, HH.out.2.1, HH.out.2.2⟩

theorem enc_one (y : Value) (w : World) (h : Src w y oneL) : Calls Try.prog 10 #[.agg (bcs oneB y)] w fun r w' => ∃ s, r = .returned (.tuple #[s, .int .i64 0]) ∧ Own w' w.heap.size s (bencL oneB oneL) ∧ Below w.heap.size w w' := bencode_yes oneB y oneL w h one_b one_ok one_chk
theorem dec_one (s : Value) (w : World) (h : Src w s (bencL oneB oneL)) : Calls Try.prog 19 #[s] w fun r w' => ∃ y, r = .returned (.tuple #[.agg (bcs oneB y), .int .i64 0]) ∧ Own w' w.heap.size y oneL ∧ Below w.heap.size w w' := by
  obtain ⟨e1, e2, e3⟩ := benc_dec one_chk
  refine (bdec_any s _ w h (benc_bytes one_ok one_b one_chk)).mono ?_
  rintro r w' ⟨y, h1, h2, h3⟩
  rw [e1, e2] at h1
  rw [e3] at h2
  exact ⟨y, h1, h2, h3⟩

set_option maxHeartbeats 2000000 in
theorem awake_any (w : World) : Calls Try.prog 17 #[] w fun r w' => r = .returned (.bool true) ∧ Below w.heap.size w w' := by
  go_enter Try.func17, Try.ntmps17
  go_wp2_with fail
  refine (one_any _).mono ?_
  rintro _ w1 ⟨y1, rfl, s1, b1⟩
  have S1 : Hid (Src w1 y1 oneL) := s1
  have B1 : Hid (Below w.heap.size w w1) := b1
  clear s1 b1
  go_wp2_with fail
  refine (enc_one y1 _ S1.out).mono ?_
  rintro _ w2 ⟨s2, rfl, o2, b2⟩
  have B2 : Hid (Below w.heap.size w w2) := below_over B1.out b2
  obtain ⟨a2, n2, c2, rfl⟩ := src_form o2.src
  have e2 := (src_short o2.src).1
  rw [benc_len, show oneL.length = 46 from rfl] at e2
  subst e2
  have O2 : Hid (Src w2 (.slice a2 (34 + 46) c2) (bencL oneB oneL)) := o2.src
  clear o2 b2 S1 B1
  go_wp2_with fail
  refine (dec_one _ _ O2.out).mono ?_
  rintro _ w3 ⟨y3, rfl, o3, b3⟩
  obtain ⟨a3, n3, c3, rfl⟩ := src_form o3.src
  have e3 := (src_short o3.src).1
  rw [show oneL.length = 46 from rfl] at e3
  subst e3
  obtain ⟨W3, st3, F3, E3⟩ := bstore_new w3 oneB (.slice a3 46 c3) rfl
  have c18 := F3.c18
  rw [show oneB.i = 7 from rfl] at c18
  have c31 := F3.c31
  have B3 : Hid (Below w.heap.size w W3) := below_over (below_over B2.out b3) E3
  clear o3 b3 F3 E3 B2 O2
  go_wp2
  go_ret
  exact ⟨rfl, B3.out⟩
end Go.Proofs.Yteljcgdenagcmaa
