/-
  The walk of the page's examples.
-/
import Derived.Test.YtnkchahjdacboaaDecode
import Derived.Deep.RegionHeld3
import Derived.Deep.AppendLies
namespace Go.Proofs.Ytnkchahjdacboaa
set_option linter.unusedVariables false
set_option linter.unusedSimpArgs false
open Go.RowKit

attribute [local go_sem ↓] slS_eq ldS23 ldS25 ldS28 stS28 nqS_eq eqS_eq eqM_eq

/-- A new variable, a whole frame stored into it. -/
theorem store_new (W : World) (g : Fr) (y : Value) (hy : y.oneCell' = true) :
    ∃ W', (stS 28 (.pointer (some ⟨W.heap.size, 0, none⟩)) (.agg (fcs g y))).run Try.prog (W.alloc (.cells #[.int .u8 0, .int .u8 0, .int .u8 0, .int .u8 0, .int .u8 0, .int .u8 0, .int .u8 0, .int .u8 0, .int .u8 0, .int .u8 0, .int .u8 0, .int .u8 0, .bool false, .int .i64 0, .bool false, .int .i64 0, .slice none 0 0] 28)) = .ok () W' ∧ FrAt W' W.heap.size g y ∧ Below W.heap.size W W' :=
  ⟨_, (zero_new W).st hy, (zero_new W).set, below_setRow ((Below.refl _ _).alloc (Nat.le_refl _) _) (Nat.le_refl _) _⟩

/-- The bytes of the page's frame. -/
def plainL : List Int := [255, 255, 255, 255, 255, 255, 2, 0, 0, 0, 0, 1, 136, 168, 96, 100, 8, 0, 69]
theorem pl_chk : chkF plainF [8, 0, 69] = 0 := by decide +kernel
theorem pl_enc : encO plainF [8, 0, 69] = plainL := by decide +kernel
theorem pl_dcE : dcE plainL = 0 := by decide +kernel
theorem pl_dcF : dcF plainL = plainF := by
  unfold dcF
  rw [pl_dcE, if_pos rfl]
  rfl
theorem pl_dcR : dcR plainL = [8, 0, 69] := by decide +kernel
theorem pl_no : dcE [] = 6 := by decide +kernel
theorem pl_rtE : rtE plainF [8, 0, 69] 200 = 0 := by decide +kernel
theorem pl_rtF : rtF plainF [8, 0, 69] 200 = plainF.vid 200 := by unfold rtF; rw [pl_rtE, if_pos rfl]
theorem pl_ok : plainF.ok := by
  constructor <;> intro x hx <;> simp only [M6.l, plainF, List.mem_cons, List.not_mem_nil, or_false] at hx <;> omega
theorem pl_b : ∀ x ∈ ([8, 0, 69] : List Int), 0 ≤ x ∧ x ≤ 255 := by intro x hx; simp only [List.mem_cons, List.not_mem_nil, or_false] at hx; omega
theorem pl_bL : ∀ x ∈ plainL, 0 ≤ x ∧ x ≤ 255 := by intro x hx; simp only [plainL, List.mem_cons, List.not_mem_nil, or_false] at hx; omega
theorem src_nil (w : World) : Src w (.slice none 0 0) [] := ⟨none, 0, rfl, Nat.le_refl _, by simp, (fun _ => ⟨rfl, rfl⟩), (fun ad e => by cases e)⟩
theorem zero_ok : zeroF.ok := by
  constructor <;> intro x hx <;> simp only [M6.l, zeroF, List.mem_cons, List.not_mem_nil, or_false] at hx <;> omega
theorem zero_chk : chkF zeroF [] = 30 := by decide +kernel

theorem enc_plain (y : Value) (w : World) (h : Src w y [8, 0, 69]) : Calls Try.prog 9 #[.agg (fcs plainF y)] w fun r w' => ∃ s, r = .returned (.tuple #[s, .int .i64 0]) ∧ Own w' w.heap.size s plainL ∧ Below w.heap.size w w' := by
  have := encode_any plainF y [8, 0, 69] w h pl_b pl_ok
  rw [pl_chk, pl_enc] at this
  exact this
theorem dec_plain (s : Value) (w : World) (h : Src w s plainL) : Calls Try.prog 14 #[s] w fun r w' => ∃ y, r = .returned (.tuple #[.agg (fcs plainF y), .int .i64 0]) ∧ Own w' w.heap.size y [8, 0, 69] ∧ Below w.heap.size w w' := by
  refine (decode_any s plainL w h pl_bL (by simp [plainL])).mono ?_
  rintro r w' ⟨y, h1, h2, h3⟩
  rw [pl_dcE, pl_dcF] at h1
  rw [pl_dcR] at h2
  exact ⟨y, h1, h2, h3⟩
theorem dec_none (w : World) : Calls Try.prog 14 #[.slice none 0 0] w fun r w' => ∃ g y, r = .returned (.tuple #[.agg (fcs g y), .int .i64 6]) ∧ y.oneCell' = true ∧ Below w.heap.size w w' := by
  refine (decode_any _ [] w (src_nil w) (by simp) (by simp)).mono ?_
  rintro r w' ⟨y, h1, h2, h3⟩
  rw [pl_no] at h1
  exact ⟨_, y, h1, src_one h2.src, h3⟩
theorem rt_plain (y : Value) (w : World) (h : Src w y [8, 0, 69]) : Calls Try.prog 17 #[.agg (fcs plainF y), .int .i64 200] w fun r w' => ∃ s, r = .returned (.tuple #[.agg (fcs (plainF.vid 200) s), .int .i64 0]) ∧ s.oneCell' = true ∧ Below w.heap.size w w' := by
  refine (retag_any plainF y [8, 0, 69] 200 w h pl_b pl_ok).mono ?_
  rintro r w' ⟨s, h1, h2, h3⟩
  rw [pl_rtE, pl_rtF] at h1
  exact ⟨s, h1, src_one h2.src, h3⟩
theorem same_plain (x y : Value) (w : World) (hx : Src w x [8, 0, 69]) (hy : Src w y [8, 0, 69]) : Calls Try.prog 19 #[.agg (fcs plainF x), .agg (fcs plainF y)] w fun r w' => r = .returned (.bool true) ∧ Below w.heap.size w w' := by
  have := same_any2 plainF plainF x y _ _ w hx hy
  rw [same_self] at this
  exact this
theorem type_plain (x : Value) (w : World) (hx : Src w x [8, 0, 69]) : Calls Try.prog 20 #[.agg (fcs plainF x)] w fun r w' => r = .returned (.int .i64 2048) ∧ Below w.heap.size w w' := type_any plainF x _ w hx pl_b
theorem check_none (w : World) : Calls Try.prog 11 #[.agg (fcs zeroF (.slice none 0 0))] w fun r w' => r = .returned (.int .i64 30) ∧ Below w.heap.size w w' := by
  have := check_fr zeroF (.slice none 0 0) [] w (src_nil w) (by simp) zero_ok
  rw [zero_chk] at this
  exact this

/-- A contract, met in a world that is later than W0. -/
theorem Calls.on_s {P : Program} {F : FuncId} {args : Array Value} {W0 W : World} {v : Value} {K : Ending → World → Prop} {S : World → Prop}
    (h : Calls P F args W fun e w' => e = .returned v ∧ Below W.heap.size W w') (hB : Hid (Below W0.heap.size W0 W)) (hS : Hid (∀ W', Below W0.heap.size W0 W' → S W')) (k : ∀ W', Hid (Below W0.heap.size W0 W') → S W' → K (.returned v) W') : Calls P F args W K :=
  h.mono fun _ w' ⟨he, hb⟩ => by subst he; exact k w' (below_over hB.out hb) (hS.out _ (below_over hB.out hb))

set_option maxHeartbeats 2000000 in
theorem awake_any (w : World) : Calls Try.prog 12 #[] w fun r w' => r = .returned (.bool true) ∧ Below w.heap.size w w' := by
  go_enter Try.func12, Try.ntmps12
  go_wp2_with fail
  refine (plain_any _).mono ?_
  rintro _ w1 ⟨y1, rfl, s1, b1⟩
  have S1 : Hid (Src w1 y1 [8, 0, 69]) := s1
  have B1 : Hid (Below w.heap.size w w1) := b1
  clear s1 b1
  go_wp2_with fail
  refine (enc_plain y1 _ S1.out).mono ?_
  rintro _ w2 ⟨s2, rfl, o2, b2⟩
  have B2 : Hid (Below w.heap.size w w2) := below_over B1.out b2
  obtain ⟨g, cp, rfl, hg, hlt⟩ := World.ownsRow.form o2 (by decide)
  rw [show plainL.length = 19 from rfl] at o2 ⊢
  have hcp : 19 ≤ cp ∧ cp ≤ maxLen := by
    obtain ⟨_, ⟨h, _⟩ | ⟨_, _, _, h, _, _, h16, h17, _⟩⟩ := o2
    · cases h
    · cases h; exact ⟨h16, h17⟩
  have O2 : Hid (Src w2 (.slice (some ⟨g, 0, none⟩) 19 cp) plainL ∧ 19 ≤ cp ∧ cp ≤ maxLen) := ⟨o2.src, hcp⟩
  clear o2 b2 hg hlt hcp S1 B1
  go_wp2_with fail
  refine (dec_plain _ _ O2.out.1).mono ?_
  rintro _ w3 ⟨y3, rfl, o3, b3⟩
  obtain ⟨W3, st3, F3, E3⟩ := store_new w3 plainF y3 (src_one o3.src)
  have N3 : Hid (FrAt W3 w3.heap.size plainF y3 ∧ Src W3 y3 [8, 0, 69] ∧ Src W3 (.slice (some ⟨g, 0, none⟩) 19 cp) plainL ∧ Below w.heap.size w W3) := ⟨F3, o3.src.below E3, (O2.out.1.below b3).below E3, below_over (below_over B2.out b3) E3⟩
  clear o3 b3 F3 E3 B2
  go_wp2_with fail
  refine (dec_none _).mono ?_
  rintro _ w4 ⟨g4, y4, rfl, e4, b4⟩
  obtain ⟨W4, st4, F4, E4⟩ := store_new w4 g4 y4 e4
  have N4 : Hid (FrAt W4 w3.heap.size plainF y3 ∧ Src W4 y3 [8, 0, 69] ∧ Src W4 (.slice (some ⟨g, 0, none⟩) 19 cp) plainL ∧ Below w.heap.size w W4) := by
    have hb := below_over b4 E4
    exact ⟨N3.out.1.below hb, N3.out.2.1.below hb, N3.out.2.2.1.below hb, below_over N3.out.2.2.2 hb⟩
  clear b4 e4 F4 E4 N3 st3
  go_wp2_with fail
  refine (plain_any _).mono ?_
  rintro _ w5 ⟨y5, rfl, s5, b5⟩
  have N5 : Hid (FrAt w5 w3.heap.size plainF y3 ∧ Src w5 y3 [8, 0, 69] ∧ Src w5 (.slice (some ⟨g, 0, none⟩) 19 cp) plainL ∧ Below w.heap.size w w5) := ⟨N4.out.1.below b5, N4.out.2.1.below b5, N4.out.2.2.1.below b5, below_over N4.out.2.2.2 b5⟩
  have S5 : Hid (Src w5 y5 [8, 0, 69]) := s5
  clear s5 b5 N4 st4
  go_wp2_with fail
  refine (rt_plain _ _ S5.out).mono ?_
  rintro _ w6 ⟨y6, rfl, e6, b6⟩
  obtain ⟨W6, st6, F6, E6⟩ := store_new w6 (plainF.vid 200) y6 e6
  have N6 : Hid (FrAt W6 w3.heap.size plainF y3 ∧ FrAt W6 w6.heap.size (plainF.vid 200) y6 ∧ Src W6 y3 [8, 0, 69] ∧ Src W6 (.slice (some ⟨g, 0, none⟩) 19 cp) plainL ∧ Below w.heap.size w W6) := by
    have hb := below_over b6 E6
    exact ⟨N5.out.1.below hb, F6, N5.out.2.1.below hb, N5.out.2.2.1.below hb, below_over N5.out.2.2.2 hb⟩
  clear b6 e6 F6 E6 N5 S5
  go_wp2
  clear st6
  obtain ⟨B3, hB3⟩ : ∃ B, w3.heap.size = B := ⟨_, rfl⟩
  obtain ⟨B6, hB6⟩ : ∃ B, w6.heap.size = B := ⟨_, rfl⟩
  rw [hB3] at N6 ⊢
  rw [hB6] at N6 ⊢
  clear hB3 hB6
  have hs12 : ∀ W, (slS (.slice (some ⟨g, 0, none⟩) 19 cp) (some (.int .i64 12)) none none).run Try.prog W = .ok (dropV g 0 19 cp 12) W := fun W => slS_drop g 0 19 cp 12 (by omega) O2.out.2.1 O2.out.2.2 W
  have HS : Hid (∀ W', Below W6.heap.size W6 W' → ((ldS 28 (.pointer (some ⟨B3, 0, none⟩))).run Try.prog W' = .ok (.agg (fcs plainF y3)) W' ∧ W'.cell? ⟨B6, 15, none⟩ = some (.int .i64 200) ∧ (convert 26 9 (dropV g 0 19 cp 12)).run Try.prog W' = .ok (.string ⟨#[136, 168, 96, 100, 8, 0, 69]⟩) W')) := fun W' hW => ⟨(N6.out.1.below hW).ld, (N6.out.2.1.below hW).c15, (src_dropV (N6.out.2.2.2.1.below hW) 12 (by omega)).string⟩
  have HB0 : Hid (Below W6.heap.size W6 W6.drew) := (Below.refl _ _).drew
  obtain ⟨k1, k2, k3⟩ := HS.out _ HB0.out
  have ez : (.agg #[.int .u8 0, .int .u8 0, .int .u8 0, .int .u8 0, .int .u8 0, .int .u8 0, .int .u8 0, .int .u8 0, .int .u8 0, .int .u8 0, .int .u8 0, .int .u8 0, .bool false, .int .i64 0, .bool false, .int .i64 0, .slice none 0 0] : Value) = .agg (fcs zeroF (.slice none 0 0)) := rfl
  have HZ : Hid _ := ez
  clear O2 ez
  go_region_held3 (fun w' => (ldS 28 (.pointer (some ⟨B3, 0, none⟩))).run Try.prog w' = .ok (.agg (fcs plainF y3)) w' ∧ w'.cell? ⟨B6, 15, none⟩ = some (.int .i64 200) ∧ (convert 26 9 (dropV g 0 19 cp 12)).run Try.prog w' = .ok (.string ⟨#[136, 168, 96, 100, 8, 0, 69]⟩) w') (go_keep)
    ((first
      | (go_at_call 26; refine (plain_any _).mono ?_; rintro _ w7 ⟨y7, rfl, s7, b7⟩; have hq := below_over HB0.out b7; clear k1 k2 k3 HB0; have HB0 : Hid (Below W6.heap.size W6 w7) := hq; have S7 : Hid (Src w7 y7 [8, 0, 69]) := s7; clear hq s7 b7; obtain ⟨k1, k2, k3⟩ := HS.out _ HB0.out)
      | (go_at_call 19; refine Calls.on_s (same_plain _ _ _ (N6.out.2.2.1.below HB0.out) S7.out) HB0 HS ?_; clear k1 k2 k3 HB0 S7; rintro w8 HB0 ⟨k1, k2, k3⟩)
      | (go_at_call 20; refine Calls.on_s (type_plain _ _ (N6.out.2.2.1.below HB0.out)) HB0 HS ?_; clear k1 k2 k3 HB0; rintro w9 HB0 ⟨k1, k2, k3⟩)
      | (go_at_call 11; refine Calls.on_s (check_none _) HB0 HS ?_; clear k1 k2 k3 HB0; rintro w10 HB0 ⟨k1, k2, k3⟩)))
  go_wp2
  go_ret
  exact ⟨rfl, below_over N6.out.2.2.2.2 HB0.out⟩
end Go.Proofs.Ytnkchahjdacboaa
