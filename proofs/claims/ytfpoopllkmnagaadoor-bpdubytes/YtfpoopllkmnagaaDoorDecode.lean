/-
  The walk of the message of a frame, and whose it is: for all bytes.
-/
import Derived.Test.YtfpoopllkmnagaaDoorFrames
import Derived.Test.YtfpoopllkmnagaaDoorRead
namespace Go.Proofs.YtfpoopllkmnagaaDoor
set_option linter.unusedVariables false
set_option maxRecDepth 4000
set_option linter.unusedSimpArgs false
open Go.RowKit

attribute [local go_sem ↓] ldS32 ldS49 ldS28 ldS30 ldS83 stS32 stS49 stS28 stS30 eqP_eq nqP_eq eqM_eq nqM_eq nqV_eq nqT_eq mkS_eq slS_eq


/-- In the midst of decoding: the answers' variables, of zeros yet. -/
structure DSt (w W : World) : Prop where
  zm : MvAt W w.heap.size zeroM
  zp : PvAt W (w.heap.size + 1) zeroP
  rl : Rl W
  below : Below w.heap.size w W
theorem DSt.later {w W W' : World} (h : DSt w W) (k : Below W.heap.size W W') : DSt w W' := ⟨h.zm.below k, h.zp.below k, h.rl.below k h.rl.lt, below_over h.below k⟩
theorem DSt.ch {w W W' : World} {S : Nat → Prop} (h : DSt w W) (k : Ch S W W') (hs : ∀ i, S i → w.heap.size + 1 < i) : DSt w W' :=
  ⟨k.mv h.zm (fun e => by have := hs _ e; omega), k.pv h.zp (fun e => by have := hs _ e; omega), k.rl h.rl (fun e => by have := hs _ e; omega), h.below.trans (k.below h.below.size (fun i _ e => by have := hs _ e; omega))⟩
theorem DSt.two {w W : World} (h : DSt w W) (s : M6) (m : Bp) : MvAt ((W.setRow w.heap.size s.cs).setRow (w.heap.size + 1) m.cs) w.heap.size s ∧ PvAt ((W.setRow w.heap.size s.cs).setRow (w.heap.size + 1) m.cs) (w.heap.size + 1) m ∧ Below w.heap.size w ((W.setRow w.heap.size s.cs).setRow (w.heap.size + 1) m.cs) := by
  have h1 : MvAt (W.setRow w.heap.size s.cs) w.heap.size s := h.zm.set
  have h2 : PvAt (W.setRow w.heap.size s.cs) (w.heap.size + 1) zeroP := (setRow_other _ _ _ _ (by omega)).trans h.zp
  exact ⟨(setRow_other _ _ _ _ (by omega)).trans h1, h2.set, below_setRow (below_setRow h.below (Nat.le_refl _) _) (by omega) _⟩
theorem DSt.st2 {w W : World} (h : DSt w W) (s : M6) (m : Bp) : (stS 32 (.pointer (some ⟨w.heap.size + 1, 0, none⟩)) (.agg m.cs)).run Tryd.prog (W.setRow w.heap.size s.cs) = .ok () ((W.setRow w.heap.size s.cs).setRow (w.heap.size + 1) m.cs) := by
  have h2 : PvAt (W.setRow w.heap.size s.cs) (w.heap.size + 1) zeroP := (setRow_other _ _ _ _ (by omega)).trans h.zp
  exact h2.st

theorem DSt.start (w : World) (hR : Rl w) : DSt w ((w.alloc (.cells #[.int .u8 0, .int .u8 0, .int .u8 0, .int .u8 0, .int .u8 0, .int .u8 0] 49)).alloc (.cells #[.int .i64 0, .bool false, .bool false, .bool false, .bool false, .bool false, .bool false, .int .i64 0, .int .u64 0, .int .u32 0, .int .u64 0, .int .u16 0, .int .u8 0, .int .u8 0, .int .u8 0, .int .u8 0] 32)) := by
  have hB : Below w.heap.size w ((w.alloc (.cells #[.int .u8 0, .int .u8 0, .int .u8 0, .int .u8 0, .int .u8 0, .int .u8 0] 49)).alloc (.cells #[.int .i64 0, .bool false, .bool false, .bool false, .bool false, .bool false, .bool false, .int .i64 0, .int .u64 0, .int .u32 0, .int .u64 0, .int .u16 0, .int .u8 0, .int .u8 0, .int .u8 0, .int .u8 0] 32)) := ((Below.refl _ _).alloc (Nat.le_refl _) _).alloc (by simp) _
  have h1 : MvAt (w.alloc (.cells #[.int .u8 0, .int .u8 0, .int .u8 0, .int .u8 0, .int .u8 0, .int .u8 0] 49)) w.heap.size zeroM := alloc_at w _
  refine ⟨h1.below ((Below.refl _ _).alloc (Nat.le_refl _) _), ?_, hR.below hB hR.lt, hB⟩
  have := alloc_at (w.alloc (.cells #[.int .u8 0, .int .u8 0, .int .u8 0, .int .u8 0, .int .u8 0, .int .u8 0] 49)) (.cells #[.int .i64 0, .bool false, .bool false, .bool false, .bool false, .bool false, .bool false, .int .i64 0, .int .u64 0, .int .u32 0, .int .u64 0, .int .u16 0, .int .u8 0, .int .u8 0, .int .u8 0, .int .u8 0] 32)
  have e : (w.alloc (.cells #[.int .u8 0, .int .u8 0, .int .u8 0, .int .u8 0, .int .u8 0, .int .u8 0] 49)).heap.size = w.heap.size + 1 := by simp
  rw [e] at this
  exact this
theorem DSt.zst {w W : World} (h : DSt w W) : (stS 32 (.pointer (some ⟨w.heap.size + 1, 0, none⟩)) (.agg #[.int .i64 0, .bool false, .bool false, .bool false, .bool false, .bool false, .bool false, .int .i64 0, .int .u64 0, .int .u32 0, .int .u64 0, .int .u16 0, .int .u8 0, .int .u8 0, .int .u8 0, .int .u8 0])).run Tryd.prog (W.setRow w.heap.size zeroM.cs) = .ok () ((W.setRow w.heap.size zeroM.cs).setRow (w.heap.size + 1) zeroP.cs) := h.st2 zeroM zeroP

set_option maxHeartbeats 1000000 in
theorem dec16_short (a : Option Addr) (n c : Nat) (l : List Int) (w : World) (hR : Rl w) (h : Src w (.slice a n c) l) (h21 : l.length < 21) :
    Calls Tryd.prog 16 #[.slice a n c] w fun r w' => ∃ s m e, r = .returned (.tuple #[.agg (M6.cs s), .agg (Bp.cs m), .int .i64 e]) ∧ DcOut l s m e ∧ Below w.heap.size w w' := by
  obtain ⟨hn, _, _⟩ := src_short h
  have hn' : (n : Int) < 21 := by omega
  have HL : Hid (l.length < 21) := h21
  have h0 := DSt.start w hR
  obtain ⟨W0, hW0⟩ : ∃ W, (w.alloc (.cells #[.int .u8 0, .int .u8 0, .int .u8 0, .int .u8 0, .int .u8 0, .int .u8 0] 49)).alloc (.cells #[.int .i64 0, .bool false, .bool false, .bool false, .bool false, .bool false, .bool false, .int .i64 0, .int .u64 0, .int .u32 0, .int .u64 0, .int .u16 0, .int .u8 0, .int .u8 0, .int .u8 0, .int .u8 0] 32) = W := ⟨_, rfl⟩
  rw [hW0] at h0
  have hs0 : W0.heap.size = w.heap.size + 2 := by rw [← hW0]; simp
  have D0 : Hid (DSt w W0) := h0
  clear h hn h21 h0 hs0 hR
  have st1 := D0.out.zm.stz
  have st2 := D0.out.zst
  have HF : Hid (MvAt ((W0.setRow w.heap.size zeroM.cs).setRow (w.heap.size + 1) zeroP.cs) w.heap.size zeroM ∧ PvAt ((W0.setRow w.heap.size zeroM.cs).setRow (w.heap.size + 1) zeroP.cs) (w.heap.size + 1) zeroP ∧ Below w.heap.size w ((W0.setRow w.heap.size zeroM.cs).setRow (w.heap.size + 1) zeroP.cs)) := D0.out.two zeroM zeroP
  go_enter Tryd.func16, Tryd.ntmps16
  go_wp2_with fail
  try rw [hW0]
  go_wp2
  refine bodyPost_ret (results_row3 rt49 rt32 Tryd.results16 _ _ _ _ _ _ _ rfl rfl rfl HF.out.1 rfl HF.out.2.1 rfl) rfl ?_
  exact ⟨zeroM, zeroP, 6, rfl, dc_short HL.out, HF.out.2.2⟩

set_option maxHeartbeats 8000000 in
theorem dec_long (b o n c : Nat) (l : List Int) (w : World) (hR : Rl w) (h : Src w (.slice (some ⟨b, o, none⟩) n c) l) (hb : ∀ x ∈ l, 0 ≤ x ∧ x ≤ 255) (h21 : 21 ≤ l.length) :
    Calls Tryd.prog 16 #[.slice (some ⟨b, o, none⟩) n c] w fun r w' => ∃ s m e, r = .returned (.tuple #[.agg (M6.cs s), .agg (Bp.cs m), .int .i64 e]) ∧ DcOut l s m e ∧ Below w.heap.size w w' := by
  obtain ⟨hn, hc, hm⟩ := src_short h
  have hn' : ¬ (n : Int) < 21 := by omega
  have hmx : (n : Int) ≤ 9223372036854775807 := by unfold maxLen at hm; omega
  have h0 := DSt.start w hR
  obtain ⟨W0, hW0⟩ : ∃ W, (w.alloc (.cells #[.int .u8 0, .int .u8 0, .int .u8 0, .int .u8 0, .int .u8 0, .int .u8 0] 49)).alloc (.cells #[.int .i64 0, .bool false, .bool false, .bool false, .bool false, .bool false, .bool false, .int .i64 0, .int .u64 0, .int .u32 0, .int .u64 0, .int .u16 0, .int .u8 0, .int .u8 0, .int .u8 0, .int .u8 0] 32) = W := ⟨_, rfl⟩
  rw [hW0] at h0
  have hs0 : W0.heap.size = w.heap.size + 2 := by rw [← hW0]; simp
  have e6 : dropV b o n c 6 = .slice (some ⟨b, o + 6, none⟩) (n - 6) (c - 6) := by unfold dropV; rw [if_neg (by omega)]
  have e17 : dropV b o n c 17 = .slice (some ⟨b, o + 17, none⟩) (n - 17) (c - 17) := by unfold dropV; rw [if_neg (by omega)]
  have hs6 : ∀ W, (slS (.slice (some ⟨b, o, none⟩) n c) (some (.int .i64 6)) none none).run Tryd.prog W = .ok (.slice (some ⟨b, o + 6, none⟩) (n - 6) (c - 6)) W := fun W => by rw [← e6]; exact slS_drop b o n c 6 (by omega) hc hm W
  have hs17 : ∀ W, (slS (.slice (some ⟨b, o, none⟩) n c) (some (.int .i64 17)) none none).run Tryd.prog W = .ok (.slice (some ⟨b, o + 17, none⟩) (n - 17) (c - 17)) W := fun W => by rw [← e17]; exact slS_drop b o n c 17 (by omega) hc hm W
  have S6 : Hid (Src w (.slice (some ⟨b, o + 6, none⟩) (n - 6) (c - 6)) (l.drop 6)) := src_drop h 6 (by omega)
  have S17 : Hid (Src w (.slice (some ⟨b, o + 17, none⟩) (n - 17) (c - 17)) (l.drop 17)) := src_drop h 17 (by omega)
  have S0 : Hid (Src w (.slice (some ⟨b, o, none⟩) n c) l) := h
  have HL : Hid (21 ≤ l.length ∧ n = l.length) := ⟨h21, hn⟩
  have HB : Hid (∀ x ∈ l, 0 ≤ x ∧ x ≤ 255) := hb
  have D0 : Hid (DSt w W0 ∧ W0.heap.size = w.heap.size + 2) := ⟨h0, hs0⟩
  have M6K : Hid ((m6 l 6).ok ∧ sub l 6 6 = (m6 l 6).l) := ⟨m6_ok hb 6, list6 (by omega)⟩
  clear h hb hn hc hm h21 h0 hs0 hR e6 e17
  go_enter Tryd.func16, Tryd.ntmps16
  go_wp2_with fail
  try rw [hW0]
  clear hW0
  refine (taker_any b (o + 6) (n - 6) (c - 6) (l.drop 6) W0 (S6.out.below D0.out.1.below) (by have := HL.out.1; simp; omega)).mono ?_
  rintro _ W1 ⟨rfl, p1, b1⟩
  obtain ⟨X, hX⟩ : ∃ X, W0.heap.size = X := ⟨_, rfl⟩
  rw [hX] at p1 D0 ⊢
  have HX : Hid (X = w.heap.size + 2) := D0.out.2
  have P1 : Hid (TSt W1 b (o + 6) (n - 6) (c - 6) X (X + 1) (l.drop 6) 0) := p1
  have D1 : Hid (DSt w W1) := D0.out.1.later b1
  clear p1 b1 hX D0 hs6
  have L6 : Hid (∀ x ∈ l.drop 6, 0 ≤ x ∧ x ≤ 255) := fun x hx => HB.out x (List.mem_of_mem_drop hx)
  go_wp2_with fail
  refine (take_any 6 b (o + 6) (n - 6) (c - 6) X (X + 1) 0 (l.drop 6) W1 P1.out L6.out (by omega) (by have := HL.out.1; simp; omega)).mono ?_
  rintro _ W2 ⟨rfl, p2, c2⟩
  rw [sub_drop, show sub l (6 + 0) 6 = (m6 l 6).l from M6K.out.2]
  have P2 : Hid (TSt W2 b (o + 6) (n - 6) (c - 6) X (X + 1) (l.drop 6) 6) := p2
  have D2 : Hid (DSt w W2) := D1.out.ch c2 (fun i e => by have := HX.out; omega)
  clear p2 c2 P1 D1
  go_wp2_with fail
  refine (from_m (m6 l 6) _ M6K.out.1).mono ?_
  rintro _ W3 ⟨rfl, b3⟩
  obtain ⟨s, hs⟩ : ∃ s, m6 l 6 = s := ⟨_, rfl⟩
  have ES : Hid (m6 l 6 = s) := hs
  rw [hs] at M6K ⊢
  obtain ⟨W4, st4, r4, b4, z4⟩ := row_new rt49 W3 #[.int .u8 0, .int .u8 0, .int .u8 0, .int .u8 0, .int .u8 0, .int .u8 0] s.cs rfl rfl s.one
  have st4' : (stS 49 (.pointer (some ⟨W3.heap.size, 0, none⟩)) s.v).run Tryd.prog (W3.alloc (.cells #[.int .u8 0, .int .u8 0, .int .u8 0, .int .u8 0, .int .u8 0, .int .u8 0] 49)) = .ok () W4 := st4
  have r4' : MvAt W4 W3.heap.size s := r4
  have P4 : Hid (TSt W4 b (o + 6) (n - 6) (c - 6) X (X + 1) (l.drop 6) 6) := (P2.out.below b3).below b4
  have D4 : Hid (DSt w W4) := (D2.out.later b3).later b4
  have M4 : Hid (MvAt W4 W3.heap.size s ∧ w.heap.size + 1 < W3.heap.size ∧ X + 1 < W3.heap.size) := ⟨r4', (D2.out.later b3).zp.lt, lt_of_block (P2.out.below b3).at_⟩
  clear st4 r4 r4' b3 b4 z4 P2 D2 hs
  go_wp2_with fail
  obtain ⟨sB, hsB⟩ : ∃ x, W3.heap.size = x := ⟨_, rfl⟩
  rw [hsB] at M4 ⊢
  clear hsB st4'
  refine (take_any 2 b (o + 6) (n - 6) (c - 6) X (X + 1) 6 (l.drop 6) W4 P4.out L6.out (by omega) (by have := HL.out.1; simp; omega)).mono ?_
  rintro _ W5 ⟨rfl, p5, c5⟩
  rw [sub_drop]
  obtain ⟨N, hN⟩ : ∃ N, nu (sub l (6 + 6) 2) = N := ⟨_, rfl⟩
  rw [hN]
  have EN : Hid (nu (sub l 12 2) = N) := hN
  have D5 : Hid (DSt w W5 ∧ MvAt W5 sB s) := ⟨D4.out.ch c5 (fun i e => by have := HX.out; omega), c5.mv M4.out.1 (by have := M4.out.2.2; omega)⟩
  clear p5 c5 P4 D4 hN
  go_wp2_with fail
  refine (read_any _ _ _ (l.drop 17) W5 D5.out.1.rl (S17.out.below D5.out.1.below) (fun x hx => HB.out x (List.mem_of_mem_drop hx))).mono ?_
  rintro _ W6 ⟨m, e, rfl, ro, b6⟩
  obtain ⟨W7, st7, r7, b7, z7⟩ := row_new rt32 W6 #[.int .i64 0, .bool false, .bool false, .bool false, .bool false, .bool false, .bool false, .int .i64 0, .int .u64 0, .int .u32 0, .int .u64 0, .int .u16 0, .int .u8 0, .int .u8 0, .int .u8 0, .int .u8 0] m.cs rfl rfl m.one
  have r7' : PvAt W7 W6.heap.size m := r7
  have D7 : Hid (DSt w W7 ∧ MvAt W7 sB s ∧ PvAt W7 W6.heap.size m ∧ w.heap.size + 1 < W6.heap.size ∧ w.heap.size + 1 < sB) := ⟨(D5.out.1.later b6).later b7, (D5.out.2.below b6).below b7, r7', (D5.out.1.later b6).zp.lt, M4.out.2.1⟩
  have EI : Hid (Src W7 (.slice (some ⟨b, o, none⟩) n c) l) := S0.out.below D7.out.1.below
  have lm7 := D7.out.2.1.ld
  have lp7 := D7.out.2.2.1.ld
  have RO : Hid (RdOut (l.drop 17) m e ∧ 4 ≤ (l.drop 17).length) := ⟨ro, by have := HL.out.1; simp; omega⟩
  clear r7 r7' b6 b7 z7 D5 M4 ro hs17 S6 S17
  rcases rd_cases RO.out.1 RO.out.2 with ⟨rok, rfl⟩ | ⟨rno, rfl⟩
  rotate_left
  · have NO : Hid (∀ n, ¬ RdOk (l.drop 17) n) := rno
    clear rno lm7 lp7
    have D8 : Hid (DSt w W7) := D7.out.1
    have st1 := D8.out.zm.stz
    have st2 := D8.out.zst
    have HF : Hid (MvAt ((W7.setRow w.heap.size zeroM.cs).setRow (w.heap.size + 1) zeroP.cs) w.heap.size zeroM ∧ PvAt ((W7.setRow w.heap.size zeroM.cs).setRow (w.heap.size + 1) zeroP.cs) (w.heap.size + 1) zeroP ∧ Below w.heap.size w ((W7.setRow w.heap.size zeroM.cs).setRow (w.heap.size + 1) zeroP.cs)) := D8.out.two zeroM zeroP
    go_wp2
    refine bodyPost_ret (results_row3 rt49 rt32 Tryd.results16 _ _ _ _ _ _ _ rfl rfl rfl HF.out.1 rfl HF.out.2.1 rfl) rfl ?_
    exact ⟨zeroM, zeroP, 50, rfl, dc_no HL.out.1 (fun m h _ => NO.out m h), HF.out.2.2⟩
  have OK : Hid (RdOk (l.drop 17) m) := rok
  clear rok RO
  go_wp2_with fail
  refine (is_any _ _ _ l W7 EI.out HB.out).mono ?_
  rintro _ W8 ⟨rfl, b8⟩
  have D8 : Hid (DSt w W8) := D7.out.1.later b8
  have E8 : Hid (MvAt W8 sB s ∧ PvAt W8 W6.heap.size m ∧ w.heap.size + 1 < W6.heap.size ∧ w.heap.size + 1 < sB) := ⟨D7.out.2.1.below b8, D7.out.2.2.1.below b8, D7.out.2.2.2.1, D7.out.2.2.2.2⟩
  have lm8 := E8.out.1.ld
  clear b8 D7 lm7 lp7 EI st7
  rcases Bool.eq_false_or_eq_true (isB l) with hi | hi
  rotate_left
  · rw [hi]
    have HI : Hid (isB l = false) := hi
    clear hi lm8
    have st1 := D8.out.zm.stz
    have st2 := D8.out.zst
    have HF : Hid (MvAt ((W8.setRow w.heap.size zeroM.cs).setRow (w.heap.size + 1) zeroP.cs) w.heap.size zeroM ∧ PvAt ((W8.setRow w.heap.size zeroM.cs).setRow (w.heap.size + 1) zeroP.cs) (w.heap.size + 1) zeroP ∧ Below w.heap.size w ((W8.setRow w.heap.size zeroM.cs).setRow (w.heap.size + 1) zeroP.cs)) := D8.out.two zeroM zeroP
    go_wp2
    refine bodyPost_ret (results_row3 rt49 rt32 Tryd.results16 _ _ _ _ _ _ _ rfl rfl rfl HF.out.1 rfl HF.out.2.1 rfl) rfl ?_
    exact ⟨zeroM, zeroP, 50, rfl, dc_no HL.out.1 (fun m _ h => by unfold frB at h; rw [HI.out] at h; cases h), HF.out.2.2⟩
  rw [hi]
  have HI : Hid (isB l = true) := hi
  clear hi
  go_wp2_with fail
  refine (kind_m s _ M6K.out.1).mono ?_
  rintro _ W9 ⟨rfl, b9⟩
  have D9 : Hid (DSt w W9) := D8.out.later b9
  have E9 : Hid (MvAt W9 sB s ∧ PvAt W9 W6.heap.size m ∧ w.heap.size + 1 < W6.heap.size ∧ w.heap.size + 1 < sB) := ⟨E8.out.1.below b9, E8.out.2.1.below b9, E8.out.2.2⟩
  clear b9 D8 E8 lm8
  by_cases hk : s.kd = 1
  rotate_left
  · obtain ⟨kd, hkd⟩ : ∃ k, s.kd = k := ⟨_, rfl⟩
    have HK : Hid (¬ s.kd = 1) := hk
    rw [hkd] at hk ⊢
    clear hkd
    have st1 := D9.out.zm.stz
    have st2 := D9.out.zst
    have HF : Hid (MvAt ((W9.setRow w.heap.size zeroM.cs).setRow (w.heap.size + 1) zeroP.cs) w.heap.size zeroM ∧ PvAt ((W9.setRow w.heap.size zeroM.cs).setRow (w.heap.size + 1) zeroP.cs) (w.heap.size + 1) zeroP ∧ Below w.heap.size w ((W9.setRow w.heap.size zeroM.cs).setRow (w.heap.size + 1) zeroP.cs)) := D9.out.two zeroM zeroP
    go_wp2
    refine bodyPost_ret (results_row3 rt49 rt32 Tryd.results16 _ _ _ _ _ _ _ rfl rfl rfl HF.out.1 rfl HF.out.2.1 rfl) rfl ?_
    exact ⟨zeroM, zeroP, 50, rfl, dc_no HL.out.1 (fun m _ h => by unfold frB at h; rw [ES.out, decide_eq_false HK.out] at h; simp at h), HF.out.2.2⟩
  have HK : Hid (s.kd = 1) := hk
  rw [hk]
  clear hk
  by_cases hz : (N : Int) = (n : Int) - 14
  rotate_left
  · have HZ : Hid (¬ nu (sub l 12 2) = l.length - 14) := by
      have h1 := EN.out
      have h2 := HL.out
      show ¬ _
      rw [h1]
      omega
    have st1 := D9.out.zm.stz
    have st2 := D9.out.zst
    have HF : Hid (MvAt ((W9.setRow w.heap.size zeroM.cs).setRow (w.heap.size + 1) zeroP.cs) w.heap.size zeroM ∧ PvAt ((W9.setRow w.heap.size zeroM.cs).setRow (w.heap.size + 1) zeroP.cs) (w.heap.size + 1) zeroP ∧ Below w.heap.size w ((W9.setRow w.heap.size zeroM.cs).setRow (w.heap.size + 1) zeroP.cs)) := D9.out.two zeroM zeroP
    go_wp2
    refine bodyPost_ret (results_row3 rt49 rt32 Tryd.results16 _ _ _ _ _ _ _ rfl rfl rfl HF.out.1 rfl HF.out.2.1 rfl) rfl ?_
    exact ⟨zeroM, zeroP, 50, rfl, dc_no HL.out.1 (fun m _ h => by unfold frB at h; rw [decide_eq_false HZ.out] at h; simp at h), HF.out.2.2⟩
  have HZ : Hid (nu (sub l 12 2) = l.length - 14) := by
    have h1 := EN.out
    have h2 := HL.out
    show _ = _
    rw [h1]
    omega
  have HFR : Hid (frB l = true) := by
    show _ = _
    unfold frB
    rw [HI.out, ES.out, decide_eq_true HK.out, decide_eq_true HZ.out]
    rfl
  have HDC : Hid (DcOut l s m 0) := by
    have := dc_ok HB.out HL.out.1 HFR.out OK.out
    rw [ES.out] at this
    exact this
  go_wp2_with fail
  obtain ⟨pB, hpB⟩ : ∃ x, W6.heap.size = x := ⟨_, rfl⟩
  rw [hpB] at E9 ⊢
  clear hpB hz
  have EV : Hid (MvAt W9.drew sB s ∧ PvAt W9.drew pB m ∧ w.heap.size + 1 < pB ∧ w.heap.size + 1 < sB ∧ DSt w W9.drew) := ⟨E9.out.1, E9.out.2.1, E9.out.2.2.1, E9.out.2.2.2, D9.out.zm, D9.out.zp, D9.out.rl, D9.out.below.drew⟩
  clear E9 D9
  obtain ⟨V, hV⟩ : ∃ V, W9.drew = V := ⟨_, rfl⟩
  rw [hV] at EV
  have stm := EV.out.2.2.2.2.zm.st (n := s)
  have stp := EV.out.2.2.2.2.st2 s m
  have lq : (ldS 49 (.pointer (some ⟨sB, 0, none⟩))).run Tryd.prog (V.setRow w.heap.size s.cs) = .ok s.v (V.setRow w.heap.size s.cs) ∧ (ldS 32 (.pointer (some ⟨pB, 0, none⟩))).run Tryd.prog (V.setRow w.heap.size s.cs) = .ok (.agg m.cs) (V.setRow w.heap.size s.cs) := by
    have h1 : MvAt (V.setRow w.heap.size s.cs) sB s := (setRow_other _ _ _ _ (by have := EV.out.2.2; omega)).trans EV.out.1
    have h2 : PvAt (V.setRow w.heap.size s.cs) pB m := (setRow_other _ _ _ _ (by have := EV.out.2.2; omega)).trans EV.out.2.1
    exact ⟨h1.ld, h2.ld⟩
  have LQ : Hid ((ldS 49 (.pointer (some ⟨sB, 0, none⟩))).run Tryd.prog (V.setRow w.heap.size s.cs) = .ok s.v (V.setRow w.heap.size s.cs) ∧ (ldS 32 (.pointer (some ⟨pB, 0, none⟩))).run Tryd.prog (V.setRow w.heap.size s.cs) = .ok (.agg m.cs) (V.setRow w.heap.size s.cs)) := lq
  have lr : (ldS 49 (.pointer (some ⟨sB, 0, none⟩))).run Tryd.prog ((V.setRow w.heap.size s.cs).setRow (w.heap.size + 1) m.cs) = .ok s.v ((V.setRow w.heap.size s.cs).setRow (w.heap.size + 1) m.cs) ∧ (ldS 32 (.pointer (some ⟨pB, 0, none⟩))).run Tryd.prog ((V.setRow w.heap.size s.cs).setRow (w.heap.size + 1) m.cs) = .ok (.agg m.cs) ((V.setRow w.heap.size s.cs).setRow (w.heap.size + 1) m.cs) := by
    have h1 : MvAt ((V.setRow w.heap.size s.cs).setRow (w.heap.size + 1) m.cs) sB s := (setRow_other _ _ _ _ (by have := EV.out.2.2; omega)).trans ((setRow_other _ _ _ _ (by have := EV.out.2.2; omega)).trans EV.out.1)
    have h2 : PvAt ((V.setRow w.heap.size s.cs).setRow (w.heap.size + 1) m.cs) pB m := (setRow_other _ _ _ _ (by have := EV.out.2.2; omega)).trans ((setRow_other _ _ _ _ (by have := EV.out.2.2; omega)).trans EV.out.2.1)
    exact ⟨h1.ld, h2.ld⟩
  have LR : Hid ((ldS 49 (.pointer (some ⟨sB, 0, none⟩))).run Tryd.prog ((V.setRow w.heap.size s.cs).setRow (w.heap.size + 1) m.cs) = .ok s.v ((V.setRow w.heap.size s.cs).setRow (w.heap.size + 1) m.cs) ∧ (ldS 32 (.pointer (some ⟨pB, 0, none⟩))).run Tryd.prog ((V.setRow w.heap.size s.cs).setRow (w.heap.size + 1) m.cs) = .ok (.agg m.cs) ((V.setRow w.heap.size s.cs).setRow (w.heap.size + 1) m.cs)) := lr
  clear lq lr
  refine wp_region_noPanic ?_
  refine wp_region_held_drew (S := fun w' => (ldS 49 (.pointer (some ⟨sB, 0, none⟩))).run Tryd.prog w' = .ok s.v w' ∧ (ldS 32 (.pointer (some ⟨pB, 0, none⟩))).run Tryd.prog w' = .ok (.agg m.cs) w') (by kernel_rfl) (by rw [hV]; exact ⟨EV.out.1.ld, EV.out.2.1.ld⟩) (fun hHeld => ?_)
  rw [hV] at hHeld ⊢
  clear hV
  refine wpAnyH_take (i := 0) (oi := { dst := some 51, op := Op.load 49 (Operand.tmp 6), type := 49, pos := "bpdu.go:240", after := #[], guard := none }) (v := ?_) rfl (by kernel_rfl) (by kernel_rfl) (by kernel_rfl) (fun _ _ _ h => h) (Or.inl ⟨by rfl, ?_⟩) hHeld ?_
  rotate_left
  · intro W hSw
    obtain ⟨l1, l2⟩ := hSw
    first | (go_simp; done) | (go_simp; with_reducible rfl)
  rotate_left
  try simp only [Act.put, List.setIfInBounds_toArray, List.set_cons_zero, List.set_cons_succ]
  refine wpAnyH_take (i := 1) (oi := { dst := some 52, op := Op.load 32 (Operand.tmp 8), type := 32, pos := "bpdu.go:240", after := #[{ on := 2, ground := Ground.gcOnly Departure.lateStores }], guard := none }) (v := ?_) rfl (by kernel_rfl) (by kernel_rfl) (by kernel_rfl) (fun _ _ _ h => h) (Or.inl ⟨by rfl, ?_⟩) hHeld ?_
  rotate_left
  · intro W hSw
    obtain ⟨l1, l2⟩ := hSw
    first | (go_simp; done) | (go_simp; with_reducible rfl)
  rotate_left
  try simp only [Act.put, List.setIfInBounds_toArray, List.set_cons_zero, List.set_cons_succ]
  refine wpAnyH_ready (rs := [2]) (by kernel_rfl) (by simp) ?_
  refine AllReadyH.cons (o := { dst := none, op := Op.store 49 (Operand.tmp 2) (Operand.tmp 51), type := 0, pos := "bpdu.go:240", after := #[{ on := 0, ground := Ground.data }, { on := 0, ground := Ground.phase }, { on := 1, ground := Ground.textOnly Departure.lateStores }], guard := none }) rfl (fun K hK => ?_) AllReadyH.nil
  go_simp
  clear hHeld
  refine hK.out _ _ LQ.out (fun hHeld => ?_)
  clear hK K
  try simp only [Act.put, List.setIfInBounds_toArray, List.set_cons_zero, List.set_cons_succ]
  refine wpAnyH_ready (rs := [3]) (by kernel_rfl) (by simp) ?_
  refine AllReadyH.cons (o := { dst := none, op := Op.store 32 (Operand.tmp 3) (Operand.tmp 52), type := 0, pos := "bpdu.go:240", after := #[{ on := 1, ground := Ground.data }, { on := 2, ground := Ground.chain }, { on := 0, ground := Ground.phase }, { on := 1, ground := Ground.phase }, { on := 2, ground := Ground.phase }], guard := none }) rfl (fun K hK => ?_) AllReadyH.nil
  go_simp
  clear hHeld
  refine hK.out _ _ LR.out (fun hHeld => ?_)
  clear hK K
  try simp only [Act.put, List.setIfInBounds_toArray, List.set_cons_zero, List.set_cons_succ]
  refine wpAnyH_ready (rs := [4]) (by kernel_rfl) (by simp) ?_
  refine AllReadyH.cons (o := { dst := some 4, op := Op.assign (Operand.const (Value.int IntKind.i64 0)), type := 34, pos := "bpdu.go:240", after := #[{ on := 3, ground := Ground.chain }, { on := 0, ground := Ground.phase }, { on := 1, ground := Ground.phase }, { on := 2, ground := Ground.phase }, { on := 3, ground := Ground.phase }], guard := none }) rfl (fun K hK => ?_) AllReadyH.nil
  go_simp
  clear hHeld
  refine hK.out _ _ LR.out (fun hHeld => ?_)
  clear hK K
  try simp only [Act.put, List.setIfInBounds_toArray, List.set_cons_zero, List.set_cons_succ]
  refine wpAnyH_done (by kernel_rfl) ?_ _
  refine NoPanic.normal ?_
  clear hHeld
  have HF : Hid (MvAt ((V.setRow w.heap.size s.cs).setRow (w.heap.size + 1) m.cs) w.heap.size s ∧ PvAt ((V.setRow w.heap.size s.cs).setRow (w.heap.size + 1) m.cs) (w.heap.size + 1) m ∧ Below w.heap.size w ((V.setRow w.heap.size s.cs).setRow (w.heap.size + 1) m.cs)) := EV.out.2.2.2.2.two s m
  go_wp2
  refine bodyPost_ret (results_row3 rt49 rt32 Tryd.results16 _ _ _ _ _ _ _ rfl rfl rfl HF.out.1 rfl HF.out.2.1 rfl) rfl ?_
  exact ⟨s, m, 0, rfl, HDC.out, HF.out.2.2⟩

/-- The message of any bytes that are a frame, and whose it is. -/
theorem decode_any (a : Option Addr) (n c : Nat) (l : List Int) (w : World) (hR : Rl w) (h : Src w (.slice a n c) l) (hb : ∀ x ∈ l, 0 ≤ x ∧ x ≤ 255) :
    Calls Tryd.prog 16 #[.slice a n c] w fun r w' => ∃ s m e, r = .returned (.tuple #[.agg (M6.cs s), .agg (Bp.cs m), .int .i64 e]) ∧ DcOut l s m e ∧ Below w.heap.size w w' := by
  by_cases h21 : l.length < 21
  · exact dec16_short a n c l w hR h h21
  obtain ⟨b, o, rfl, _, _⟩ := src_some h (by omega)
  exact dec_long b o n c l w hR h hb (by omega)
end Go.Proofs.YtfpoopllkmnagaaDoor
