/-
  TagTakes: for all bytes, which tag and which service's tag they begin with, as defined: the walk.
-/
import Derived.Test.YtmhnoggihnhenaaTakeIRef
import Derived.Test.YtmhnoggihnhenaaSame
namespace Go.Proofs.Ytmhnoggihnhenaa
set_option linter.unusedVariables false
set_option linter.unusedSimpArgs false
open Go.RowKit

/-- Two service's tags, or two tags, held against each other. -/
def eqS27 (x y : Value) : Sem Value := binOp .eql 27 x y
theorem eqS27_eq (x y : Value) : binOp .eql 27 x y = eqS27 x y := rfl
def eqS23 (x y : Value) : Sem Value := binOp .eql 23 x y
theorem eqS23_eq (x y : Value) : binOp .eql 23 x y = eqS23 x y := rfl

/-- Bytes, cut at 400. -/
theorem cut_any (a : Option Addr) (n c : Nat) (l : List Int) (w : World) (h : Src w (.slice a n c) l) :
    Calls Try.prog 17 #[.slice a n c] w fun r w' => ∃ m, r = .returned (.slice a m c) ∧ w' = w ∧ Src w (.slice a m c) (l.take 400) := by
  obtain ⟨hn, hc, hm⟩ := src_short h
  by_cases h4 : 400 < n
  · have h4' : (400 : Int) < (n : Int) := by omega
    have hc4 : (400 : Int) ≤ (c : Int) := by omega
    have hc5 : 400 ≤ c := by omega
    have hm' : c ≤ 9223372036854775807 := by unfold maxLen at hm; omega
    obtain ⟨b, o, rfl, _, _⟩ := src_some h (by omega)
    have hS : Hid (Src w (.slice (some ⟨b, o, none⟩) 400 c) (l.take 400)) := h.take 400 (by omega) (by simp)
    clear h hn
    go_enter Try.func17, Try.ntmps17
    go_wp2
    go_ret
    exact ⟨400, rfl, rfl, hS.out⟩
  · have h4' : ¬ (400 : Int) < (n : Int) := by omega
    have hS : Hid (Src w (.slice a n c) (l.take 400)) := by
      rw [List.take_of_length_le (by omega)]
      exact h
    clear h hn
    go_enter Try.func17, Try.ntmps17
    go_wp2
    go_ret
    exact ⟨n, rfl, rfl, hS.out⟩

theorem store_new27 (w : World) (cs : Array Value) (h2 : cs.size = 16) (h3 : ∀ v ∈ cs.toList, v.oneCell' = true) :
    ∃ W, (stS27 (.pointer (some ⟨w.heap.size, 0, none⟩)) (.agg cs)).run Try.prog (w.alloc (.cells #[.int .i64 0, .bool false, .bool false, .int .i64 0, .int .u8 0, .int .u8 0, .int .u8 0, .int .u8 0, .int .u8 0, .int .u8 0, .int .u8 0, .int .u8 0, .int .u8 0, .int .u8 0, .int .u8 0, .int .u8 0] 27)) = .ok () W ∧ Below w.heap.size w W ∧ W.heap[w.heap.size]? = some (.cells cs 27 (0, 0)) :=
  ⟨_, store27 (alloc_at w _) rfl h2 h3, below_setRow ((Below.refl _ _).alloc (Nat.le_refl _) _) (Nat.le_refl _) _, setRow_heap _ _ _ _ _ _ (alloc_at w _)⟩

attribute [local go_sem ↓] ldS27_eq stS27_eq eqS27_eq eqS23_eq

set_option maxHeartbeats 1000000 in
theorem TagTakes_walk (a : Option Addr) (n c : Nat) (l : List Int) (w : World) (h : Src w (.slice a n c) l) (hb : ∀ x ∈ l, 0 ≤ x ∧ x ≤ 255) :
    Calls Try.prog 4 #[.slice a n c] w fun r w' => r = .returned (.bool true) ∧ Below w.heap.size w w' := by
  obtain ⟨L, hL⟩ : ∃ L, l.take 400 = L := ⟨_, rfl⟩
  have hL4 : L.length ≤ 1000 := by rw [← hL]; simp; omega
  have hLb : ∀ x ∈ L, 0 ≤ x ∧ x ≤ 255 := by rw [← hL]; intro x hx; exact hb x (List.mem_of_mem_take hx)
  have hH : Hid (Src w (.slice a n c) l) := h
  clear h hb
  have HL : Hid (L.length ≤ 1000 ∧ ∀ x ∈ L, 0 ≤ x ∧ x ≤ 255) := ⟨hL4, hLb⟩
  clear hL4 hLb
  go_enter Try.func4, Try.ntmps4
  go_wp2_with fail
  refine (cut_any a n c l _ hH.out).mono ?_
  rintro _ w0 ⟨m, rfl, hw0, hS0⟩
  rw [hw0]
  rw [hL] at hS0
  have S0 : Hid (Src w (.slice a m c) L) := hS0
  clear hS0 hL hH
  go_wp2_with fail
  refine (take_any a m c L _ S0.out HL.out.1 HL.out.2).mono ?_
  rintro _ w1 ⟨s1, rfl, ho1, hb1⟩
  have B1 : Hid (Below w.heap.size w (w1.alloc (.cells #[.int .i64 (tkP L), .bool (tkD L), .int .i64 (tkV L)] 23))) := hb1.alloc hb1.size _
  have R1 : Hid (Src (w1.alloc (.cells #[.int .i64 (tkP L), .bool (tkD L), .int .i64 (tkV L)] 23)) s1 (tkR L)) := ho1.src.below ((Below.refl _ _).alloc (Nat.le_refl _) _)
  have K3 : Hid ((w1.alloc (.cells #[.int .i64 (tkP L), .bool (tkD L), .int .i64 (tkV L)] 23)).heap[w1.heap.size]? = some (.cells #[.int .i64 (tkP L), .bool (tkD L), .int .i64 (tkV L)] 23 (0, 0))) := alloc_at _ _
  clear ho1 hb1
  go_wp2_with fail
  refine (takeref_any a m c L _ (S0.out.below B1.out) HL.out.1 HL.out.2).mono ?_
  rintro _ w2 ⟨s2, rfl, ho2, hb2⟩
  have hb2' := hb2.alloc hb2.size (.cells #[.int .i64 (tkP L), .bool (tkD L), .int .i64 (tkV L)] 23)
  have R1' : Hid (Src (w2.alloc (.cells #[.int .i64 (tkP L), .bool (tkD L), .int .i64 (tkV L)] 23)) s1 (tkR L)) := R1.out.below hb2'
  have R2 : Hid (Src (w2.alloc (.cells #[.int .i64 (tkP L), .bool (tkD L), .int .i64 (tkV L)] 23)) s2 (tkR L)) := ho2.src.below ((Below.refl _ _).alloc (Nat.le_refl _) _)
  have K3' : Hid ((w2.alloc (.cells #[.int .i64 (tkP L), .bool (tkD L), .int .i64 (tkV L)] 23)).heap[w1.heap.size]? = some (.cells #[.int .i64 (tkP L), .bool (tkD L), .int .i64 (tkV L)] 23 (0, 0))) := (hb2'.block _ (lt_of_block K3.out)).trans K3.out
  have K6 : Hid ((w2.alloc (.cells #[.int .i64 (tkP L), .bool (tkD L), .int .i64 (tkV L)] 23)).heap[w2.heap.size]? = some (.cells #[.int .i64 (tkP L), .bool (tkD L), .int .i64 (tkV L)] 23 (0, 0))) := alloc_at _ _
  have B2 : Hid (Below w.heap.size w (w2.alloc (.cells #[.int .i64 (tkP L), .bool (tkD L), .int .i64 (tkV L)] 23))) := below_over B1.out hb2'
  clear ho2 hb2 hb2' R1 K3 B1
  go_wp2_with fail
  refine (takei_any a m c L _ (S0.out.below B2.out) HL.out.1 HL.out.2).mono ?_
  rintro _ w3 ⟨s3, rfl, ho3, hb3⟩
  obtain ⟨W3, hst3, b3, k9⟩ := store_new27 w3 #[.int .i64 (tiP L), .bool (tiD L), .bool (tiU L), .int .i64 (tiI L), .int .u8 (tiX L 4), .int .u8 (tiX L 5), .int .u8 (tiX L 6), .int .u8 (tiX L 7), .int .u8 (tiX L 8), .int .u8 (tiX L 9), .int .u8 (tiX L 10), .int .u8 (tiX L 11), .int .u8 (tiX L 12), .int .u8 (tiX L 13), .int .u8 (tiX L 14), .int .u8 (tiX L 15)] rfl (by simp [Value.oneCell'])
  have hb3' := below_over hb3 b3
  have R1 : Hid (Src W3 s1 (tkR L)) := R1'.out.below hb3'
  have R2' : Hid (Src W3 s2 (tkR L)) := R2.out.below hb3'
  have R3 : Hid (Src W3 s3 (tiR L)) := ho3.src.below b3
  have K3 : Hid (W3.heap[w1.heap.size]? = some (.cells #[.int .i64 (tkP L), .bool (tkD L), .int .i64 (tkV L)] 23 (0, 0))) := (hb3'.block _ (lt_of_block K3'.out)).trans K3'.out
  have K6' : Hid (W3.heap[w2.heap.size]? = some (.cells #[.int .i64 (tkP L), .bool (tkD L), .int .i64 (tkV L)] 23 (0, 0))) := (hb3'.block _ (lt_of_block K6.out)).trans K6.out
  have K9 : Hid (W3.heap[w3.heap.size]? = some (.cells #[.int .i64 (tiP L), .bool (tiD L), .bool (tiU L), .int .i64 (tiI L), .int .u8 (tiX L 4), .int .u8 (tiX L 5), .int .u8 (tiX L 6), .int .u8 (tiX L 7), .int .u8 (tiX L 8), .int .u8 (tiX L 9), .int .u8 (tiX L 10), .int .u8 (tiX L 11), .int .u8 (tiX L 12), .int .u8 (tiX L 13), .int .u8 (tiX L 14), .int .u8 (tiX L 15)] 27 (0, 0))) := k9
  have B3 : Hid (Below w.heap.size w W3) := below_over B2.out hb3'
  clear ho3 hb3 b3 hb3' k9 R1' R2 K3' K6 B2
  go_wp2_with fail
  refine (takeiref_any a m c L _ (S0.out.below B3.out) HL.out.1 HL.out.2).mono ?_
  rintro _ w4 ⟨s4, rfl, ho4, hb4⟩
  obtain ⟨W4, hst4, b4, k12⟩ := store_new27 w4 #[.int .i64 (tiP L), .bool (tiD L), .bool (tiU L), .int .i64 (tiI L), .int .u8 (tiX L 4), .int .u8 (tiX L 5), .int .u8 (tiX L 6), .int .u8 (tiX L 7), .int .u8 (tiX L 8), .int .u8 (tiX L 9), .int .u8 (tiX L 10), .int .u8 (tiX L 11), .int .u8 (tiX L 12), .int .u8 (tiX L 13), .int .u8 (tiX L 14), .int .u8 (tiX L 15)] rfl (by simp [Value.oneCell'])
  have hb4' := below_over hb4 b4
  have c1 := (R1.out.below hb4').string
  have c2 := (R2'.out.below hb4').string
  have c3 := (R3.out.below hb4').string
  have c4 := (ho4.src.below b4).string
  have K3' := (hb4'.block _ (lt_of_block K3.out)).trans K3.out
  have K6 := (hb4'.block _ (lt_of_block K6'.out)).trans K6'.out
  have l9 := loadrow27 ((hb4'.block _ (lt_of_block K9.out)).trans K9.out) rfl
  have l12 := loadrow27 k12 rfl
  have k30 := cell3_0 K3'
  have k31 := cell3_1 K3'
  have k32 := cell3_2 K3'
  have k60 := cell3_0 K6
  have k61 := cell3_1 K6
  have k62 := cell3_2 K6
  have q27 : ∀ W, (eqS27 (.agg #[.int .i64 (tiP L), .bool (tiD L), .bool (tiU L), .int .i64 (tiI L), .int .u8 (tiX L 4), .int .u8 (tiX L 5), .int .u8 (tiX L 6), .int .u8 (tiX L 7), .int .u8 (tiX L 8), .int .u8 (tiX L 9), .int .u8 (tiX L 10), .int .u8 (tiX L 11), .int .u8 (tiX L 12), .int .u8 (tiX L 13), .int .u8 (tiX L 14), .int .u8 (tiX L 15)]) (.agg #[.int .i64 (tiP L), .bool (tiD L), .bool (tiU L), .int .i64 (tiI L), .int .u8 (tiX L 4), .int .u8 (tiX L 5), .int .u8 (tiX L 6), .int .u8 (tiX L 7), .int .u8 (tiX L 8), .int .u8 (tiX L 9), .int .u8 (tiX L 10), .int .u8 (tiX L 11), .int .u8 (tiX L 12), .int .u8 (tiX L 13), .int .u8 (tiX L 14), .int .u8 (tiX L 15)])).run Try.prog W = .ok (.bool true) W := fun W => eq27_self _ _ _ _ _ _ _ _ _ _ _ _ _ _ _ _  W
  have q23 : ∀ W, (eqS23 (.agg #[.int .i64 (tkP L), .bool (tkD L), .int .i64 (tkV L)]) (.agg #[.int .i64 (tkP L), .bool (tkD L), .int .i64 (tkV L)])).run Try.prog W = .ok (.bool true) W := fun W => eq23_self _ _ _ W
  have B4 : Hid (Below w.heap.size w W4) := below_over B3.out hb4'
  clear ho4 hb4 b4 hb4' k12 R1 R2' R3 K3 K6' K9 B3 K3' K6 hst3
  go_wp2_with fail
  refine Calls.on_later (awake_any _) ?_
  intro y5
  go_wp2
  go_ret
  exact ⟨rfl, below_later B4.out y5⟩
end Go.Proofs.Ytmhnoggihnhenaa
