/-
  The walks of the methods that go over a type and the tags of a frame of the backbone.
-/
import Derived.Test.YteljcgdenagcmaaBWalk
namespace Go.Proofs.Yteljcgdenagcmaa
set_option linter.unusedVariables false
set_option maxRecDepth 4000
set_option linter.unusedSimpArgs false
open Go.RowKit

attribute [local go_sem ↓] slS_eq ldS23 ldS25 ldI27 ldS30 stS30 stS23 stS25 stI27 stS70

theorem two_len {l : List Int} {k : Nat} (h : k < l.length) : (l.take k).length = k := by simp; omega

set_option maxHeartbeats 1000000 in
theorem expect_any (w W : World) (b : Nat) (l : List Int) (g : Bool) (B o n c : Nat) (v : Int) (h : Wst w W b l g B o n c) (hk : 2 < l.length) (hb : ∀ x ∈ l, 0 ≤ x ∧ x ≤ 255) :
    Calls Try.prog 39 #[.pointer (some ⟨b, 0, none⟩), .int .i64 v] W fun r w' => r = .returned (.tuple #[]) ∧ Wst w w' b (l.drop 2) (g || (tyN (l.take 2) != v)) B (o + 2) (n - 2) (c - 2) ∧ Wk W b w' := by
  have HW : Hid (Wst w W b l g B o n c) := h
  have HL : Hid (2 < l.length ∧ ∀ x ∈ l.take 2, 0 ≤ x ∧ x ≤ 255) := ⟨hk, fun x hx => hb x (List.mem_of_mem_take hx)⟩
  clear h hk hb
  go_enter Try.func39, Try.ntmps39
  go_wp2_with fail
  refine (next_any w W b l g B o n c 2 HW.out HL.out.1).mono ?_
  rintro _ W2 ⟨rfl, s2, k2, q2⟩
  have S2 : Hid (Wst w W2 b (l.drop 2) g B (o + 2) (n - 2) (c - 2)) := s2
  have K2 : Hid (Wk W b W2 ∧ Src w (.slice (some ⟨B, o, none⟩) 2 2) (l.take 2)) := ⟨k2, q2⟩
  clear s2 k2 q2
  go_wp2_with fail
  refine (ttype_any _ 2 2 (l.take 2) _ (K2.out.2.below S2.out.below) (by rw [two_len HL.out.1]; omega) HL.out.2).mono ?_
  rintro _ W3 ⟨s3, rfl, _, b3⟩
  have e3 : tyE (l.take 2) = 0 := by unfold tyE; rw [if_neg (by rw [two_len HL.out.1]; omega)]
  rw [e3]
  have S3 : Hid (Wst w W3 b (l.drop 2) g B (o + 2) (n - 2) (c - 2)) := S2.out.later b3
  have K3 : Hid (Wk W b W3) := K2.out.1.trans (Wk.of b3 S2.out.at'.lt)
  clear b3 e3 K2 S2
  obtain ⟨t, ht⟩ : ∃ t, tyN (l.take 2) = t := ⟨_, rfl⟩
  rw [ht]
  have HT : Hid (tyN (l.take 2) = t) := ht
  clear ht
  go_wp2_with fail
  refine (doubt_any w W3 b (l.drop 2) g (t != v) B (o + 2) (n - 2) (c - 2) S3.out).mono ?_
  rintro _ W4 ⟨rfl, s4, k4⟩
  have H4 : Hid (Wst w W4 b (l.drop 2) (g || (t != v)) B (o + 2) (n - 2) (c - 2) ∧ Wk W b W4) := ⟨s4, K3.out.trans k4⟩
  clear s4 k4
  go_wp2
  go_end0
  exact ⟨rfl, by rw [HT.out]; exact H4.out.1, H4.out.2⟩

set_option maxHeartbeats 1000000 in
theorem vlan_any (w W : World) (b : Nat) (l : List Int) (g : Bool) (B o n c : Nat) (h : Wst w W b l g B o n c) (hk : 2 < l.length) (hb : ∀ x ∈ l, 0 ≤ x ∧ x ≤ 255) :
    Calls Try.prog 40 #[.pointer (some ⟨b, 0, none⟩)] W fun r w' => r = .returned (.agg #[.int .i64 (tkP (l.take 2)), .bool (tkD (l.take 2)), .int .i64 (tkV (l.take 2))]) ∧ Wst w w' b (l.drop 2) (g || (tkE (l.take 2) != 0)) B (o + 2) (n - 2) (c - 2) ∧ Wk W b w' := by
  have z1 : RvAt (W.alloc (.cells #[.int .i64 0, .bool false, .int .i64 0] 25)) W.heap.size 25 #[.int .i64 0, .bool false, .int .i64 0] := alloc_at W _
  have hB : Below W.heap.size W (W.alloc (.cells #[.int .i64 0, .bool false, .int .i64 0] 25)) := (Below.refl _ _).alloc (Nat.le_refl _) _
  obtain ⟨V, hV⟩ : ∃ V, (W.alloc (.cells #[.int .i64 0, .bool false, .int .i64 0] 25)) = V := ⟨_, rfl⟩
  rw [hV] at z1 hB
  have HW : Hid (Wst w V b l g B o n c ∧ RvAt V W.heap.size 25 #[.int .i64 0, .bool false, .int .i64 0] ∧ Below W.heap.size W V ∧ b < W.heap.size) := ⟨h.later hB, z1, hB, h.at'.lt⟩
  have HL : Hid (2 < l.length ∧ ∀ x ∈ l.take 2, 0 ≤ x ∧ x ≤ 255) := ⟨hk, fun x hx => hb x (List.mem_of_mem_take hx)⟩
  clear h hk hb z1 hB
  go_enter Try.func40, Try.ntmps40
  go_wp2_with fail
  clear hV
  refine (next_any w V b l g B o n c 2 HW.out.1 HL.out.1).mono ?_
  rintro _ W2 ⟨rfl, s2, k2, q2⟩
  have hne : W.heap.size ≠ b := by have := HW.out.2.2.2; omega
  have S2 : Hid (Wst w W2 b (l.drop 2) g B (o + 2) (n - 2) (c - 2) ∧ RvAt W2 W.heap.size 25 #[.int .i64 0, .bool false, .int .i64 0]) := ⟨s2, k2.row HW.out.2.1 hne⟩
  have K2 : Hid (Wk W b W2 ∧ Src w (.slice (some ⟨B, o, none⟩) 2 2) (l.take 2)) := ⟨(Wk.of HW.out.2.2.1 HW.out.2.2.2).trans k2, q2⟩
  clear s2 k2 q2 hne
  go_wp2_with fail
  refine (take_any _ 2 2 (l.take 2) _ (K2.out.2.below S2.out.1.below) (by rw [two_len HL.out.1]; omega) HL.out.2).mono ?_
  rintro _ W3 ⟨s3, rfl, _, b3⟩
  obtain ⟨W4, st4, r4, b4, _⟩ := row_new rt25 W3 #[.int .i64 0, .bool false, .int .i64 0] #[.int .i64 (tkP (l.take 2)), .bool (tkD (l.take 2)), .int .i64 (tkV (l.take 2))] rfl rfl (by
    intro c hc
    simp only [List.mem_cons, List.not_mem_nil, or_false] at hc
    rcases hc with rfl | rfl | rfl <;> rfl)
  have b34 := below_over b3 b4
  have S4 : Hid (Wst w W4 b (l.drop 2) g B (o + 2) (n - 2) (c - 2) ∧ RvAt W4 W.heap.size 25 #[.int .i64 0, .bool false, .int .i64 0] ∧ RvAt W4 W3.heap.size 25 #[.int .i64 (tkP (l.take 2)), .bool (tkD (l.take 2)), .int .i64 (tkV (l.take 2))]) := ⟨S2.out.1.later b34, S2.out.2.below b34, r4⟩
  have K4 : Hid (Wk W b W4 ∧ b < W3.heap.size) := ⟨K2.out.1.trans (Wk.of b34 S2.out.1.at'.lt), by have := S2.out.1.at'.lt; have := b3.size; omega⟩
  clear b3 b4 b34 r4 K2 S2
  obtain ⟨e, he⟩ : ∃ e, tkE (l.take 2) = e := ⟨_, rfl⟩
  rw [he]
  have HE : Hid (tkE (l.take 2) = e) := he
  clear he
  go_wp2_with fail
  refine (doubt_any w W4 b (l.drop 2) g (e != 0) B (o + 2) (n - 2) (c - 2) S4.out.1).mono ?_
  rintro _ W5 ⟨rfl, s5, k5⟩
  have r5 := k5.row S4.out.2.2 (by have := K4.out.2; omega)
  have z5 := k5.row S4.out.2.1 (by have := HW.out.2.2.2; omega)
  have ld5 := r5.ld rt25 rfl
  have st5 := z5.st (ds := #[.int .i64 (tkP (l.take 2)), .bool (tkD (l.take 2)), .int .i64 (tkV (l.take 2))]) rt25 rfl rfl (by
    intro c hc
    simp only [List.mem_cons, List.not_mem_nil, or_false] at hc
    rcases hc with rfl | rfl | rfl <;> rfl)
  have hlt := HW.out.2.2.2
  have k6 : Wk W b W5 := K4.out.1.trans k5
  have HZ : Hid (RvAt (W5.setRow W.heap.size #[.int .i64 (tkP (l.take 2)), .bool (tkD (l.take 2)), .int .i64 (tkV (l.take 2))]) W.heap.size 25 #[.int .i64 (tkP (l.take 2)), .bool (tkD (l.take 2)), .int .i64 (tkV (l.take 2))] ∧ Wk W b (W5.setRow W.heap.size #[.int .i64 (tkP (l.take 2)), .bool (tkD (l.take 2)), .int .i64 (tkV (l.take 2))]) ∧ Wst w (W5.setRow W.heap.size #[.int .i64 (tkP (l.take 2)), .bool (tkD (l.take 2)), .int .i64 (tkV (l.take 2))]) b (l.drop 2) (g || (e != 0)) B (o + 2) (n - 2) (c - 2)) := ⟨z5.set, ⟨k6.lo.trans (below_setRow (Below.refl _ _) (by omega) _), fun k hk hs => by rw [setRow_other _ _ _ _ (by omega)]; exact k6.hi k hk hs⟩, ⟨(setRow_other _ _ _ _ (by omega)).trans s5.at', s5.src, below_setRow s5.below (by have := s5.le; omega) _, s5.le⟩⟩
  clear k6 s5 k5 r5 z5 S4 K4 HW HL hlt st4
  go_wp2
  refine bodyPost_ret (results_row rt25 Try.results40 _ _ _ _ rfl HZ.out.1 rfl) rfl ?_
  exact ⟨rfl, by rw [HE.out]; exact HZ.out.2.2, HZ.out.2.1⟩

set_option maxHeartbeats 1000000 in
theorem serv_any (w W : World) (b : Nat) (l : List Int) (g : Bool) (B o n c : Nat) (h : Wst w W b l g B o n c) (hk : 16 < l.length) (hb : ∀ x ∈ l, 0 ≤ x ∧ x ≤ 255) :
    Calls Try.prog 41 #[.pointer (some ⟨b, 0, none⟩)] W fun r w' => r = .returned (.agg #[.int .i64 (tiP (l.take 16)), .bool (tiD (l.take 16)), .bool (tiU (l.take 16)), .int .i64 (tiI (l.take 16)), .int .u8 (tiX (l.take 16) 4), .int .u8 (tiX (l.take 16) 5), .int .u8 (tiX (l.take 16) 6), .int .u8 (tiX (l.take 16) 7), .int .u8 (tiX (l.take 16) 8), .int .u8 (tiX (l.take 16) 9), .int .u8 (tiX (l.take 16) 10), .int .u8 (tiX (l.take 16) 11), .int .u8 (tiX (l.take 16) 12), .int .u8 (tiX (l.take 16) 13), .int .u8 (tiX (l.take 16) 14), .int .u8 (tiX (l.take 16) 15)]) ∧ Wst w w' b (l.drop 16) (g || (tiE (l.take 16) != 0)) B (o + 16) (n - 16) (c - 16) ∧ Wk W b w' := by
  have z1 : RvAt (W.alloc (.cells #[.int .i64 0, .bool false, .bool false, .int .i64 0, .int .u8 0, .int .u8 0, .int .u8 0, .int .u8 0, .int .u8 0, .int .u8 0, .int .u8 0, .int .u8 0, .int .u8 0, .int .u8 0, .int .u8 0, .int .u8 0] 27)) W.heap.size 27 #[.int .i64 0, .bool false, .bool false, .int .i64 0, .int .u8 0, .int .u8 0, .int .u8 0, .int .u8 0, .int .u8 0, .int .u8 0, .int .u8 0, .int .u8 0, .int .u8 0, .int .u8 0, .int .u8 0, .int .u8 0] := alloc_at W _
  have hB : Below W.heap.size W (W.alloc (.cells #[.int .i64 0, .bool false, .bool false, .int .i64 0, .int .u8 0, .int .u8 0, .int .u8 0, .int .u8 0, .int .u8 0, .int .u8 0, .int .u8 0, .int .u8 0, .int .u8 0, .int .u8 0, .int .u8 0, .int .u8 0] 27)) := (Below.refl _ _).alloc (Nat.le_refl _) _
  obtain ⟨V, hV⟩ : ∃ V, (W.alloc (.cells #[.int .i64 0, .bool false, .bool false, .int .i64 0, .int .u8 0, .int .u8 0, .int .u8 0, .int .u8 0, .int .u8 0, .int .u8 0, .int .u8 0, .int .u8 0, .int .u8 0, .int .u8 0, .int .u8 0, .int .u8 0] 27)) = V := ⟨_, rfl⟩
  rw [hV] at z1 hB
  have HW : Hid (Wst w V b l g B o n c ∧ RvAt V W.heap.size 27 #[.int .i64 0, .bool false, .bool false, .int .i64 0, .int .u8 0, .int .u8 0, .int .u8 0, .int .u8 0, .int .u8 0, .int .u8 0, .int .u8 0, .int .u8 0, .int .u8 0, .int .u8 0, .int .u8 0, .int .u8 0] ∧ Below W.heap.size W V ∧ b < W.heap.size) := ⟨h.later hB, z1, hB, h.at'.lt⟩
  have HL : Hid (16 < l.length ∧ ∀ x ∈ l.take 16, 0 ≤ x ∧ x ≤ 255) := ⟨hk, fun x hx => hb x (List.mem_of_mem_take hx)⟩
  clear h hk hb z1 hB
  go_enter Try.func41, Try.ntmps41
  go_wp2_with fail
  clear hV
  refine (next_any w V b l g B o n c 16 HW.out.1 HL.out.1).mono ?_
  rintro _ W2 ⟨rfl, s2, k2, q2⟩
  have hne : W.heap.size ≠ b := by have := HW.out.2.2.2; omega
  have S2 : Hid (Wst w W2 b (l.drop 16) g B (o + 16) (n - 16) (c - 16) ∧ RvAt W2 W.heap.size 27 #[.int .i64 0, .bool false, .bool false, .int .i64 0, .int .u8 0, .int .u8 0, .int .u8 0, .int .u8 0, .int .u8 0, .int .u8 0, .int .u8 0, .int .u8 0, .int .u8 0, .int .u8 0, .int .u8 0, .int .u8 0]) := ⟨s2, k2.row HW.out.2.1 hne⟩
  have K2 : Hid (Wk W b W2 ∧ Src w (.slice (some ⟨B, o, none⟩) 16 16) (l.take 16)) := ⟨(Wk.of HW.out.2.2.1 HW.out.2.2.2).trans k2, q2⟩
  clear s2 k2 q2 hne
  go_wp2_with fail
  refine (takei_any _ 16 16 (l.take 16) _ (K2.out.2.below S2.out.1.below) (by rw [two_len HL.out.1]; omega) HL.out.2).mono ?_
  rintro _ W3 ⟨s3, rfl, _, b3⟩
  obtain ⟨W4, st4, r4, b4, _⟩ := row_new rt27 W3 #[.int .i64 0, .bool false, .bool false, .int .i64 0, .int .u8 0, .int .u8 0, .int .u8 0, .int .u8 0, .int .u8 0, .int .u8 0, .int .u8 0, .int .u8 0, .int .u8 0, .int .u8 0, .int .u8 0, .int .u8 0] #[.int .i64 (tiP (l.take 16)), .bool (tiD (l.take 16)), .bool (tiU (l.take 16)), .int .i64 (tiI (l.take 16)), .int .u8 (tiX (l.take 16) 4), .int .u8 (tiX (l.take 16) 5), .int .u8 (tiX (l.take 16) 6), .int .u8 (tiX (l.take 16) 7), .int .u8 (tiX (l.take 16) 8), .int .u8 (tiX (l.take 16) 9), .int .u8 (tiX (l.take 16) 10), .int .u8 (tiX (l.take 16) 11), .int .u8 (tiX (l.take 16) 12), .int .u8 (tiX (l.take 16) 13), .int .u8 (tiX (l.take 16) 14), .int .u8 (tiX (l.take 16) 15)] rfl rfl (by
    intro c hc
    simp only [List.mem_cons, List.not_mem_nil, or_false] at hc
    rcases hc with rfl | rfl | rfl | rfl | rfl | rfl | rfl | rfl | rfl | rfl | rfl | rfl | rfl | rfl | rfl | rfl <;> rfl)
  have b34 := below_over b3 b4
  have S4 : Hid (Wst w W4 b (l.drop 16) g B (o + 16) (n - 16) (c - 16) ∧ RvAt W4 W.heap.size 27 #[.int .i64 0, .bool false, .bool false, .int .i64 0, .int .u8 0, .int .u8 0, .int .u8 0, .int .u8 0, .int .u8 0, .int .u8 0, .int .u8 0, .int .u8 0, .int .u8 0, .int .u8 0, .int .u8 0, .int .u8 0] ∧ RvAt W4 W3.heap.size 27 #[.int .i64 (tiP (l.take 16)), .bool (tiD (l.take 16)), .bool (tiU (l.take 16)), .int .i64 (tiI (l.take 16)), .int .u8 (tiX (l.take 16) 4), .int .u8 (tiX (l.take 16) 5), .int .u8 (tiX (l.take 16) 6), .int .u8 (tiX (l.take 16) 7), .int .u8 (tiX (l.take 16) 8), .int .u8 (tiX (l.take 16) 9), .int .u8 (tiX (l.take 16) 10), .int .u8 (tiX (l.take 16) 11), .int .u8 (tiX (l.take 16) 12), .int .u8 (tiX (l.take 16) 13), .int .u8 (tiX (l.take 16) 14), .int .u8 (tiX (l.take 16) 15)]) := ⟨S2.out.1.later b34, S2.out.2.below b34, r4⟩
  have K4 : Hid (Wk W b W4 ∧ b < W3.heap.size) := ⟨K2.out.1.trans (Wk.of b34 S2.out.1.at'.lt), by have := S2.out.1.at'.lt; have := b3.size; omega⟩
  clear b3 b4 b34 r4 K2 S2
  obtain ⟨e, he⟩ : ∃ e, tiE (l.take 16) = e := ⟨_, rfl⟩
  rw [he]
  have HE : Hid (tiE (l.take 16) = e) := he
  clear he
  go_wp2_with fail
  refine (doubt_any w W4 b (l.drop 16) g (e != 0) B (o + 16) (n - 16) (c - 16) S4.out.1).mono ?_
  rintro _ W5 ⟨rfl, s5, k5⟩
  have r5 := k5.row S4.out.2.2 (by have := K4.out.2; omega)
  have z5 := k5.row S4.out.2.1 (by have := HW.out.2.2.2; omega)
  have ld5 := r5.ld rt27 rfl
  have st5 := z5.st (ds := #[.int .i64 (tiP (l.take 16)), .bool (tiD (l.take 16)), .bool (tiU (l.take 16)), .int .i64 (tiI (l.take 16)), .int .u8 (tiX (l.take 16) 4), .int .u8 (tiX (l.take 16) 5), .int .u8 (tiX (l.take 16) 6), .int .u8 (tiX (l.take 16) 7), .int .u8 (tiX (l.take 16) 8), .int .u8 (tiX (l.take 16) 9), .int .u8 (tiX (l.take 16) 10), .int .u8 (tiX (l.take 16) 11), .int .u8 (tiX (l.take 16) 12), .int .u8 (tiX (l.take 16) 13), .int .u8 (tiX (l.take 16) 14), .int .u8 (tiX (l.take 16) 15)]) rt27 rfl rfl (by
    intro c hc
    simp only [List.mem_cons, List.not_mem_nil, or_false] at hc
    rcases hc with rfl | rfl | rfl | rfl | rfl | rfl | rfl | rfl | rfl | rfl | rfl | rfl | rfl | rfl | rfl | rfl <;> rfl)
  have hlt := HW.out.2.2.2
  have k6 : Wk W b W5 := K4.out.1.trans k5
  have HZ : Hid (RvAt (W5.setRow W.heap.size #[.int .i64 (tiP (l.take 16)), .bool (tiD (l.take 16)), .bool (tiU (l.take 16)), .int .i64 (tiI (l.take 16)), .int .u8 (tiX (l.take 16) 4), .int .u8 (tiX (l.take 16) 5), .int .u8 (tiX (l.take 16) 6), .int .u8 (tiX (l.take 16) 7), .int .u8 (tiX (l.take 16) 8), .int .u8 (tiX (l.take 16) 9), .int .u8 (tiX (l.take 16) 10), .int .u8 (tiX (l.take 16) 11), .int .u8 (tiX (l.take 16) 12), .int .u8 (tiX (l.take 16) 13), .int .u8 (tiX (l.take 16) 14), .int .u8 (tiX (l.take 16) 15)]) W.heap.size 27 #[.int .i64 (tiP (l.take 16)), .bool (tiD (l.take 16)), .bool (tiU (l.take 16)), .int .i64 (tiI (l.take 16)), .int .u8 (tiX (l.take 16) 4), .int .u8 (tiX (l.take 16) 5), .int .u8 (tiX (l.take 16) 6), .int .u8 (tiX (l.take 16) 7), .int .u8 (tiX (l.take 16) 8), .int .u8 (tiX (l.take 16) 9), .int .u8 (tiX (l.take 16) 10), .int .u8 (tiX (l.take 16) 11), .int .u8 (tiX (l.take 16) 12), .int .u8 (tiX (l.take 16) 13), .int .u8 (tiX (l.take 16) 14), .int .u8 (tiX (l.take 16) 15)] ∧ Wk W b (W5.setRow W.heap.size #[.int .i64 (tiP (l.take 16)), .bool (tiD (l.take 16)), .bool (tiU (l.take 16)), .int .i64 (tiI (l.take 16)), .int .u8 (tiX (l.take 16) 4), .int .u8 (tiX (l.take 16) 5), .int .u8 (tiX (l.take 16) 6), .int .u8 (tiX (l.take 16) 7), .int .u8 (tiX (l.take 16) 8), .int .u8 (tiX (l.take 16) 9), .int .u8 (tiX (l.take 16) 10), .int .u8 (tiX (l.take 16) 11), .int .u8 (tiX (l.take 16) 12), .int .u8 (tiX (l.take 16) 13), .int .u8 (tiX (l.take 16) 14), .int .u8 (tiX (l.take 16) 15)]) ∧ Wst w (W5.setRow W.heap.size #[.int .i64 (tiP (l.take 16)), .bool (tiD (l.take 16)), .bool (tiU (l.take 16)), .int .i64 (tiI (l.take 16)), .int .u8 (tiX (l.take 16) 4), .int .u8 (tiX (l.take 16) 5), .int .u8 (tiX (l.take 16) 6), .int .u8 (tiX (l.take 16) 7), .int .u8 (tiX (l.take 16) 8), .int .u8 (tiX (l.take 16) 9), .int .u8 (tiX (l.take 16) 10), .int .u8 (tiX (l.take 16) 11), .int .u8 (tiX (l.take 16) 12), .int .u8 (tiX (l.take 16) 13), .int .u8 (tiX (l.take 16) 14), .int .u8 (tiX (l.take 16) 15)]) b (l.drop 16) (g || (e != 0)) B (o + 16) (n - 16) (c - 16)) := ⟨z5.set, ⟨k6.lo.trans (below_setRow (Below.refl _ _) (by omega) _), fun k hk hs => by rw [setRow_other _ _ _ _ (by omega)]; exact k6.hi k hk hs⟩, ⟨(setRow_other _ _ _ _ (by omega)).trans s5.at', s5.src, below_setRow s5.below (by have := s5.le; omega) _, s5.le⟩⟩
  clear k6 s5 k5 r5 z5 S4 K4 HW HL hlt st4
  go_wp2
  refine bodyPost_ret (results_row rt27 Try.results41 _ _ _ _ rfl HZ.out.1 rfl) rfl ?_
  exact ⟨rfl, by rw [HE.out]; exact HZ.out.2.2, HZ.out.2.1⟩
end Go.Proofs.Yteljcgdenagcmaa
