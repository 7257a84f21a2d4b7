/-
  The walk of the message of a frame, and whose it is, by definition: for all bytes.
-/
import Derived.Test.YtfpoopllkmnagaaDoorDecode
import Derived.Test.YtfpoopllkmnagaaDoorRRd
import Derived.Test.YtfpoopllkmnagaaDoorRefEnc
namespace Go.Proofs.YtfpoopllkmnagaaDoor
set_option linter.unusedVariables false
set_option maxRecDepth 4000
set_option linter.unusedSimpArgs false
open Go.RowKit

attribute [local go_sem ↓] ldS32 ldS49 ldS28 ldS30 ldS83 stS32 stS49 stS28 stS30 eqP_eq nqP_eq eqM_eq nqM_eq nqV_eq nqT_eq slS_eq


set_option maxHeartbeats 1000000 in
theorem dec17_short (a : Option Addr) (n c : Nat) (l : List Int) (w : World) (hR : Rl w) (h : Src w (.slice a n c) l) (h21 : l.length < 21) :
    Calls Tryd.prog 17 #[.slice a n c] w fun r w' => ∃ s m e, r = .returned (.tuple #[.agg (M6.cs s), .agg (Bp.cs m), .int .i64 e]) ∧ DcOut l s m e ∧ Below w.heap.size w w' := by
  obtain ⟨hn, _, _⟩ := src_short h
  have hn' : (n : Int) < 21 := by omega
  have HL : Hid (l.length < 21) := h21
  have h0 := DSt.start w hR
  obtain ⟨W0, hW0⟩ : ∃ W, (w.alloc (.cells #[.int .u8 0, .int .u8 0, .int .u8 0, .int .u8 0, .int .u8 0, .int .u8 0] 49)).alloc (.cells #[.int .i64 0, .bool false, .bool false, .bool false, .bool false, .bool false, .bool false, .int .i64 0, .int .u64 0, .int .u32 0, .int .u64 0, .int .u16 0, .int .u8 0, .int .u8 0, .int .u8 0, .int .u8 0] 32) = W := ⟨_, rfl⟩
  rw [hW0] at h0
  have hs0 : W0.heap.size = w.heap.size + 2 := by rw [← hW0]; simp
  have D0 : Hid (DSt w W0) := h0
  clear h hn h21 h0 hs0 hR
  have st1 := D0.out.zm.stz
  have st2 := D0.out.zst
  have HF : Hid (MvAt ((W0.setRow w.heap.size zeroM.cs).setRow (w.heap.size + 1) zeroP.cs) w.heap.size zeroM ∧ PvAt ((W0.setRow w.heap.size zeroM.cs).setRow (w.heap.size + 1) zeroP.cs) (w.heap.size + 1) zeroP ∧ Below w.heap.size w ((W0.setRow w.heap.size zeroM.cs).setRow (w.heap.size + 1) zeroP.cs)) := D0.out.two zeroM zeroP
  go_enter Tryd.func17, Tryd.ntmps17
  go_wp2_with fail
  try rw [hW0]
  go_wp2
  refine bodyPost_ret (results_row3 rt49 rt32 Tryd.results17 _ _ _ _ _ _ _ rfl rfl rfl HF.out.1 rfl HF.out.2.1 rfl) rfl ?_
  exact ⟨zeroM, zeroP, 6, rfl, dc_short HL.out, HF.out.2.2⟩

/-- The first i bytes of an address, then zeros. -/
def part (s : M6) (i : Nat) : M6 := ⟨if 0 < i then s.a else 0, if 1 < i then s.b else 0, if 2 < i then s.c else 0, if 3 < i then s.d else 0, if 4 < i then s.e else 0, if 5 < i then s.f else 0⟩
theorem part_step (s : M6) (i : Nat) (h : i < 6) : (part s i).cs.setIfInBounds i (.int .u8 (s.l.getD i 0)) = (part s (i + 1)).cs := by
  have h6 : i = 0 ∨ i = 1 ∨ i = 2 ∨ i = 3 ∨ i = 4 ∨ i = 5 := by omega
  rcases h6 with rfl | rfl | rfl | rfl | rfl | rfl <;> rfl
theorem m6_get (l : List Int) (i : Nat) (h : i < 6) : (m6 l 6).l.getD i 0 = gt l (6 + i) := by
  have h6 : i = 0 ∨ i = 1 ∨ i = 2 ∨ i = 3 ∨ i = 4 ∨ i = 5 := by omega
  rcases h6 with rfl | rfl | rfl | rfl | rfl | rfl <;> rfl
theorem MvAt.live {W : World} {b : Nat} {m : M6} (h : MvAt W b m) (o : Nat) : W.frozen? ⟨b, o, none⟩ = false := by
  unfold MvAt RvAt at h
  simp [World.frozen?, h]
/-- Of a frame: the bytes are those of its own message from its own station. -/
theorem dr_no {l : List Int} {m : Bp} (h21 : 21 ≤ l.length) (hr : RdOk (l.drop 17) m) (h : (m6 l 6).kd = 1 → menc (m6 l 6) m = l → False) : DcOut l zeroM zeroP 50 :=
  .inr (.inr ⟨h21, fun t n hn => by
    obtain ⟨e1, e2, _⟩ := dc_fwd hn
    have e3 := hr.inj e2
    subst e1
    subst e3
    exact h hn.kd hn.eq, rfl, rfl, rfl⟩)

set_option maxHeartbeats 8000000 in
theorem dref_long (b o n c : Nat) (l : List Int) (w : World) (hR : Rl w) (h : Src w (.slice (some ⟨b, o, none⟩) n c) l) (hb : ∀ x ∈ l, 0 ≤ x ∧ x ≤ 255) (h21 : 21 ≤ l.length) :
    Calls Tryd.prog 17 #[.slice (some ⟨b, o, none⟩) n c] w fun r w' => ∃ s m e, r = .returned (.tuple #[.agg (M6.cs s), .agg (Bp.cs m), .int .i64 e]) ∧ DcOut l s m e ∧ Below w.heap.size w w' := by
  obtain ⟨hn, hc, hm⟩ := src_short h
  have hn' : ¬ (n : Int) < 21 := by omega
  have hmx : (n : Int) ≤ 9223372036854775807 := by unfold maxLen at hm; omega
  have h0 := DSt.start w hR
  obtain ⟨W0, hW0⟩ : ∃ W, (w.alloc (.cells #[.int .u8 0, .int .u8 0, .int .u8 0, .int .u8 0, .int .u8 0, .int .u8 0] 49)).alloc (.cells #[.int .i64 0, .bool false, .bool false, .bool false, .bool false, .bool false, .bool false, .int .i64 0, .int .u64 0, .int .u32 0, .int .u64 0, .int .u16 0, .int .u8 0, .int .u8 0, .int .u8 0, .int .u8 0] 32) = W := ⟨_, rfl⟩
  rw [hW0] at h0
  have hs0 : W0.heap.size = w.heap.size + 2 := by rw [← hW0]; simp
  have e17 : dropV b o n c 17 = .slice (some ⟨b, o + 17, none⟩) (n - 17) (c - 17) := by unfold dropV; rw [if_neg (by omega)]
  have hs17 : ∀ W, (slS (.slice (some ⟨b, o, none⟩) n c) (some (.int .i64 17)) none none).run Tryd.prog W = .ok (.slice (some ⟨b, o + 17, none⟩) (n - 17) (c - 17)) W := fun W => by rw [← e17]; exact slS_drop b o n c 17 (by omega) hc hm W
  have S17 : Hid (Src w (.slice (some ⟨b, o + 17, none⟩) (n - 17) (c - 17)) (l.drop 17)) := src_drop h 17 (by omega)
  have S0 : Hid (Src w (.slice (some ⟨b, o, none⟩) n c) l) := h
  have HL : Hid (21 ≤ l.length ∧ n = l.length) := ⟨h21, hn⟩
  have HB : Hid (∀ x ∈ l, 0 ≤ x ∧ x ≤ 255) := hb
  have HJ : Hid (∀ j, j < l.length → w.cell? ⟨b, o + j, none⟩ = some (.int .u8 (l.getD j 0))) := by
    obtain ⟨b', o', e, _, hj⟩ := src_some h (by omega)
    cases e
    exact hj
  have hbl : b < w.heap.size := by
    obtain ⟨b', o', e, hb', _⟩ := src_some h (by omega)
    cases e
    exact hb'
  have MK : Hid (m6 l 6).ok := m6_ok hb 6
  have n21 : (21 : Int) ≤ (n : Int) := by omega
  have D0 : Hid (DSt w W0 ∧ W0.heap.size = w.heap.size + 2) := ⟨h0, hs0⟩
  have hz1 : MvAt (W0.alloc (.cells #[.int .u8 0, .int .u8 0, .int .u8 0, .int .u8 0, .int .u8 0, .int .u8 0] 49)) W0.heap.size (part (m6 l 6) 0) := alloc_at W0 _
  have b1 : Below W0.heap.size W0 (W0.alloc (.cells #[.int .u8 0, .int .u8 0, .int .u8 0, .int .u8 0, .int .u8 0, .int .u8 0] 49)) := (Below.refl _ _).alloc (Nat.le_refl _) _
  obtain ⟨W1, hW1⟩ : ∃ W, W0.alloc (.cells #[.int .u8 0, .int .u8 0, .int .u8 0, .int .u8 0, .int .u8 0, .int .u8 0] 49) = W := ⟨_, rfl⟩
  rw [hW1] at hz1 b1
  have D1 : Hid (DSt w W1 ∧ MvAt W1 W0.heap.size (part (m6 l 6) 0) ∧ w.heap.size + 1 < W0.heap.size) := ⟨h0.later b1, hz1, by omega⟩
  clear h hb hn hc hm h21 h0 hs0 hR e17 hz1 b1
  go_enter Tryd.func17, Tryd.ntmps17
  go_wp2_with fail
  try rw [hW0]
  try rw [hW1]
  go_loopw [6] (fun v6 wr => ∃ i : Nat, i ≤ 6 ∧ v6 = .int .i64 (i : Nat) ∧ MvAt wr W0.heap.size (part (m6 l 6) i) ∧ DSt w wr) (fun v6 _ => 6 - (intOf v6).toNat)
  case atStart => exact ⟨0, by omega, rfl, D1.out.2.1, D1.out.1⟩
  case round =>
    obtain ⟨i, hi, rfl, hv, hd⟩ := hrel
    clear hW0 hW1
    have HV : Hid (MvAt wr W0.heap.size (part (m6 l 6) i) ∧ DSt w wr) := ⟨hv, hd⟩
    by_cases hlt : i < 6
    · have p1 : (i : Int) < 6 := by omega
      have c1 := hv.cell i hlt
      have c2 := hv.live i
      have c3 := (hd.below.cell (p := ⟨b, o + (6 + i), none⟩) hbl).trans (HJ.out (6 + i) (by have := HL.out.1; omega))
      have e3 : l.getD (6 + i) 0 = (m6 l 6).l.getD i 0 := (m6_get l i hlt).symm
      rw [e3] at c3
      have HY : Hid (MvAt (wr.setCell ⟨W0.heap.size, i, none⟩ (.int .u8 ((m6 l 6).l.getD i 0))) W0.heap.size (part (m6 l 6) (i + 1)) ∧ DSt w (wr.setCell ⟨W0.heap.size, i, none⟩ (.int .u8 ((m6 l 6).l.getD i 0)))) := by
        refine ⟨?_, ?_⟩
        · unfold MvAt RvAt at *
          rw [heap_setCell_same wr W0.heap.size i _ 49 _ hv, part_step _ _ hlt]
        · exact hd.ch ((Ch.refl (fun k => k = W0.heap.size) wr).setCell _ _ (fun _ => rfl)) (fun k e => by have := D1.out.2.2; omega)
      have n6 : 6 + i < n := by omega
      obtain ⟨y, hy⟩ : ∃ y, (m6 l 6).l.getD i 0 = y := ⟨_, rfl⟩
      rw [hy] at c3 HY
      clear hv hd e3 hy HV
      go_wp2
      go_roundw
      case rel => exact ⟨i + 1, by omega, by congr 1, HY.out.1, HY.out.2⟩
      case measure => simp [intOf]; omega
    · have : i = 6 := by omega
      subst this
      rw [show ((6 : Nat) : Int) = 6 from rfl]
      obtain ⟨sB, hsB⟩ : ∃ x, W0.heap.size = x := ⟨_, rfl⟩
      rw [hsB] at D1 HV ⊢
      obtain ⟨s, hs⟩ : ∃ s, m6 l 6 = s := ⟨_, rfl⟩
      have ES : Hid (m6 l 6 = s) := hs
      have es : part s 6 = s := rfl
      rw [hs] at HV MK
      have D2 : Hid (DSt w wr ∧ MvAt wr sB s ∧ w.heap.size + 1 < sB) := ⟨HV.out.2, by rw [← es]; exact HV.out.1, D1.out.2.2⟩
      clear hv hd HV D0 D1 hs es hsB
      go_wp2_with fail
      refine (rref_any _ _ _ (l.drop 17) wr (S17.out.below D2.out.1.below) (fun x hx => HB.out x (List.mem_of_mem_drop hx))).mono ?_
      rintro _ W6 ⟨m, e, rfl, ro, b6⟩
      obtain ⟨W7, st7, r7, b7, z7⟩ := row_new rt32 W6 #[.int .i64 0, .bool false, .bool false, .bool false, .bool false, .bool false, .bool false, .int .i64 0, .int .u64 0, .int .u32 0, .int .u64 0, .int .u16 0, .int .u8 0, .int .u8 0, .int .u8 0, .int .u8 0] m.cs rfl rfl m.one
      have r7' : PvAt W7 W6.heap.size m := r7
      have D7 : Hid (DSt w W7 ∧ MvAt W7 sB s ∧ PvAt W7 W6.heap.size m ∧ w.heap.size + 1 < W6.heap.size ∧ w.heap.size + 1 < sB) := ⟨(D2.out.1.later b6).later b7, (D2.out.2.1.below b6).below b7, r7', (D2.out.1.later b6).zp.lt, D2.out.2.2⟩
      have lm7 := D7.out.2.1.ld
      have lp7 := D7.out.2.2.1.ld
      have RO : Hid (RdOut (l.drop 17) m e ∧ 4 ≤ (l.drop 17).length) := ⟨ro, by have := HL.out.1; simp; omega⟩
      clear r7 r7' b6 b7 z7 D2 ro hs17 S17
      rcases rd_cases RO.out.1 RO.out.2 with ⟨rok, rfl⟩ | ⟨rno, rfl⟩
      rotate_left
      · have NO : Hid (∀ n, ¬ RdOk (l.drop 17) n) := rno
        clear rno lm7 lp7
        have D8 : Hid (DSt w W7) := D7.out.1
        have st1 := D8.out.zm.stz
        have st2 := D8.out.zst
        have HF : Hid (MvAt ((W7.setRow w.heap.size zeroM.cs).setRow (w.heap.size + 1) zeroP.cs) w.heap.size zeroM ∧ PvAt ((W7.setRow w.heap.size zeroM.cs).setRow (w.heap.size + 1) zeroP.cs) (w.heap.size + 1) zeroP ∧ Below w.heap.size w ((W7.setRow w.heap.size zeroM.cs).setRow (w.heap.size + 1) zeroP.cs)) := D8.out.two zeroM zeroP
        go_wp2
        refine bodyPost_ret (results_row3 rt49 rt32 Tryd.results17 _ _ _ _ _ _ _ rfl rfl rfl HF.out.1 rfl HF.out.2.1 rfl) rfl ?_
        exact ⟨zeroM, zeroP, 50, rfl, dc_no HL.out.1 (fun m h _ => NO.out m h), HF.out.2.2⟩
      have OK : Hid (RdOk (l.drop 17) m) := rok
      clear rok RO
      go_wp2_with fail
      refine (eref_any s m _ D7.out.1.rl MK.out OK.out.wf).mono ?_
      rintro _ W8 ⟨s8, rfl, o8, b8⟩
      have D8 : Hid (DSt w W8) := D7.out.1.later b8
      have E8 : Hid (MvAt W8 sB s ∧ PvAt W8 W6.heap.size m ∧ w.heap.size + 1 < W6.heap.size ∧ w.heap.size + 1 < sB) := ⟨D7.out.2.1.below b8, D7.out.2.2.1.below b8, D7.out.2.2.2⟩
      have x1 := o8.src.string
      have x2 := (S0.out.below D8.out.below).string
      clear b8 D7 lm7 lp7 st7 o8
      by_cases hk : s.kd = 1
      rotate_left
      · have HK : Hid (¬ s.kd = 1) := hk
        have e1 : encE s m = 1 := by unfold encE; rw [if_neg hk]
        rw [e1]
        clear x1 x2 hk e1
        have st1 := D8.out.zm.stz
        have st2 := D8.out.zst
        have HF : Hid (MvAt ((W8.setRow w.heap.size zeroM.cs).setRow (w.heap.size + 1) zeroP.cs) w.heap.size zeroM ∧ PvAt ((W8.setRow w.heap.size zeroM.cs).setRow (w.heap.size + 1) zeroP.cs) (w.heap.size + 1) zeroP ∧ Below w.heap.size w ((W8.setRow w.heap.size zeroM.cs).setRow (w.heap.size + 1) zeroP.cs)) := D8.out.two zeroM zeroP
        go_wp2
        refine bodyPost_ret (results_row3 rt49 rt32 Tryd.results17 _ _ _ _ _ _ _ rfl rfl rfl HF.out.1 rfl HF.out.2.1 rfl) rfl ?_
        exact ⟨zeroM, zeroP, 50, rfl, dr_no HL.out.1 OK.out (fun h _ => by rw [ES.out] at h; exact HK.out h), HF.out.2.2⟩
      have HK : Hid (s.kd = 1) := hk
      have e1 : encE s m = 0 := by unfold encE chkP; rw [if_pos hk, OK.out.ok]; rfl
      have e2 : encO s m = menc s m := by unfold encO; rw [if_pos hk, if_pos OK.out.ok]
      rw [e1]
      rw [e2] at x1
      clear e1 e2 hk
      have MO : Hid (∀ x ∈ menc s m, 0 ≤ x ∧ x ≤ 255) := menc_ok MK.out OK.out.wf
      cases hq : beqL (menc s m) l
      · have hq' : ((bs (menc s m)).toList == (bs l).toList) = false := hq
        have HQ : Hid (beqL (menc s m) l = false) := hq
        clear hq
        have st1 := D8.out.zm.stz
        have st2 := D8.out.zst
        have HF : Hid (MvAt ((W8.setRow w.heap.size zeroM.cs).setRow (w.heap.size + 1) zeroP.cs) w.heap.size zeroM ∧ PvAt ((W8.setRow w.heap.size zeroM.cs).setRow (w.heap.size + 1) zeroP.cs) (w.heap.size + 1) zeroP ∧ Below w.heap.size w ((W8.setRow w.heap.size zeroM.cs).setRow (w.heap.size + 1) zeroP.cs)) := D8.out.two zeroM zeroP
        go_wp2
        refine bodyPost_ret (results_row3 rt49 rt32 Tryd.results17 _ _ _ _ _ _ _ rfl rfl rfl HF.out.1 rfl HF.out.2.1 rfl) rfl ?_
        exact ⟨zeroM, zeroP, 50, rfl, dr_no HL.out.1 OK.out (fun _ h => by have := HQ.out; rw [← ES.out, h, beqL_self] at this; cases this), HF.out.2.2⟩
      have hq' : ((bs (menc s m)).toList == (bs l).toList) = true := hq
      have HDC : Hid (DcOut l s m 0) := .inr (.inl ⟨HL.out.1, ⟨MK.out, HK.out, OK.out.wf, OK.out.ok, (beqL_iff MO.out HB.out).1 hq⟩, rfl⟩)
      clear hq
      go_wp2_with fail
      obtain ⟨pB, hpB⟩ : ∃ x, W6.heap.size = x := ⟨_, rfl⟩
      rw [hpB] at E8 ⊢
      clear hpB hq' x1 x2
      have EV : Hid (MvAt W8.drew sB s ∧ PvAt W8.drew pB m ∧ w.heap.size + 1 < pB ∧ w.heap.size + 1 < sB ∧ DSt w W8.drew) := ⟨E8.out.1, E8.out.2.1, E8.out.2.2.1, E8.out.2.2.2, D8.out.zm, D8.out.zp, D8.out.rl, D8.out.below.drew⟩
      clear E8 D8
      obtain ⟨V, hV⟩ : ∃ V, W8.drew = V := ⟨_, rfl⟩
      rw [hV] at EV
      have stm := EV.out.2.2.2.2.zm.st (n := s)
      have stp := EV.out.2.2.2.2.st2 s m
      have lq : (ldS 49 (.pointer (some ⟨sB, 0, none⟩))).run Tryd.prog (V.setRow w.heap.size s.cs) = .ok s.v (V.setRow w.heap.size s.cs) ∧ (ldS 32 (.pointer (some ⟨pB, 0, none⟩))).run Tryd.prog (V.setRow w.heap.size s.cs) = .ok (.agg m.cs) (V.setRow w.heap.size s.cs) := by
        have h1 : MvAt (V.setRow w.heap.size s.cs) sB s := (setRow_other _ _ _ _ (by have := EV.out.2.2; omega)).trans EV.out.1
        have h2 : PvAt (V.setRow w.heap.size s.cs) pB m := (setRow_other _ _ _ _ (by have := EV.out.2.2; omega)).trans EV.out.2.1
        exact ⟨h1.ld, h2.ld⟩
      have LQ : Hid ((ldS 49 (.pointer (some ⟨sB, 0, none⟩))).run Tryd.prog (V.setRow w.heap.size s.cs) = .ok s.v (V.setRow w.heap.size s.cs) ∧ (ldS 32 (.pointer (some ⟨pB, 0, none⟩))).run Tryd.prog (V.setRow w.heap.size s.cs) = .ok (.agg m.cs) (V.setRow w.heap.size s.cs)) := lq
      have lr : (ldS 49 (.pointer (some ⟨sB, 0, none⟩))).run Tryd.prog ((V.setRow w.heap.size s.cs).setRow (w.heap.size + 1) m.cs) = .ok s.v ((V.setRow w.heap.size s.cs).setRow (w.heap.size + 1) m.cs) ∧ (ldS 32 (.pointer (some ⟨pB, 0, none⟩))).run Tryd.prog ((V.setRow w.heap.size s.cs).setRow (w.heap.size + 1) m.cs) = .ok (.agg m.cs) ((V.setRow w.heap.size s.cs).setRow (w.heap.size + 1) m.cs) := by
        have h1 : MvAt ((V.setRow w.heap.size s.cs).setRow (w.heap.size + 1) m.cs) sB s := (setRow_other _ _ _ _ (by have := EV.out.2.2; omega)).trans ((setRow_other _ _ _ _ (by have := EV.out.2.2; omega)).trans EV.out.1)
        have h2 : PvAt ((V.setRow w.heap.size s.cs).setRow (w.heap.size + 1) m.cs) pB m := (setRow_other _ _ _ _ (by have := EV.out.2.2; omega)).trans ((setRow_other _ _ _ _ (by have := EV.out.2.2; omega)).trans EV.out.2.1)
        exact ⟨h1.ld, h2.ld⟩
      have LR : Hid ((ldS 49 (.pointer (some ⟨sB, 0, none⟩))).run Tryd.prog ((V.setRow w.heap.size s.cs).setRow (w.heap.size + 1) m.cs) = .ok s.v ((V.setRow w.heap.size s.cs).setRow (w.heap.size + 1) m.cs) ∧ (ldS 32 (.pointer (some ⟨pB, 0, none⟩))).run Tryd.prog ((V.setRow w.heap.size s.cs).setRow (w.heap.size + 1) m.cs) = .ok (.agg m.cs) ((V.setRow w.heap.size s.cs).setRow (w.heap.size + 1) m.cs)) := lr
      clear lq lr
      refine wp_region_noPanic ?_
      refine wp_region_held_drew (S := fun w' => (ldS 49 (.pointer (some ⟨sB, 0, none⟩))).run Tryd.prog w' = .ok s.v w' ∧ (ldS 32 (.pointer (some ⟨pB, 0, none⟩))).run Tryd.prog w' = .ok (.agg m.cs) w') (by kernel_rfl) (by rw [hV]; exact ⟨EV.out.1.ld, EV.out.2.1.ld⟩) (fun hHeld => ?_)
      rw [hV] at hHeld ⊢
      clear hV
      refine wpAnyH_take (i := 0) (oi := { dst := some 54, op := Op.load 49 (Operand.tmp 5), type := 49, pos := "ref.go:176", after := #[], guard := none }) (v := ?_) rfl (by kernel_rfl) (by kernel_rfl) (by kernel_rfl) (fun _ _ _ h => h) (Or.inl ⟨by rfl, ?_⟩) hHeld ?_
      rotate_left
      · intro W hSw
        obtain ⟨l1, l2⟩ := hSw
        first | (go_simp; done) | (go_simp; with_reducible rfl)
      rotate_left
      try simp only [Act.put, List.setIfInBounds_toArray, List.set_cons_zero, List.set_cons_succ]
      refine wpAnyH_take (i := 1) (oi := { dst := some 55, op := Op.load 32 (Operand.tmp 7), type := 32, pos := "ref.go:176", after := #[{ on := 2, ground := Ground.gcOnly Departure.lateStores }], guard := none }) (v := ?_) rfl (by kernel_rfl) (by kernel_rfl) (by kernel_rfl) (fun _ _ _ h => h) (Or.inl ⟨by rfl, ?_⟩) hHeld ?_
      rotate_left
      · intro W hSw
        obtain ⟨l1, l2⟩ := hSw
        first | (go_simp; done) | (go_simp; with_reducible rfl)
      rotate_left
      try simp only [Act.put, List.setIfInBounds_toArray, List.set_cons_zero, List.set_cons_succ]
      refine wpAnyH_ready (rs := [2]) (by kernel_rfl) (by simp) ?_
      refine AllReadyH.cons (o := { dst := none, op := Op.store 49 (Operand.tmp 2) (Operand.tmp 54), type := 0, pos := "ref.go:176", after := #[{ on := 0, ground := Ground.data }, { on := 0, ground := Ground.phase }, { on := 1, ground := Ground.textOnly Departure.lateStores }], guard := none }) rfl (fun K hK => ?_) AllReadyH.nil
      go_simp
      clear hHeld
      refine hK.out _ _ LQ.out (fun hHeld => ?_)
      clear hK K
      try simp only [Act.put, List.setIfInBounds_toArray, List.set_cons_zero, List.set_cons_succ]
      refine wpAnyH_ready (rs := [3]) (by kernel_rfl) (by simp) ?_
      refine AllReadyH.cons (o := { dst := none, op := Op.store 32 (Operand.tmp 3) (Operand.tmp 55), type := 0, pos := "ref.go:176", after := #[{ on := 1, ground := Ground.data }, { on := 2, ground := Ground.chain }, { on := 0, ground := Ground.phase }, { on := 1, ground := Ground.phase }, { on := 2, ground := Ground.phase }], guard := none }) rfl (fun K hK => ?_) AllReadyH.nil
      go_simp
      clear hHeld
      refine hK.out _ _ LR.out (fun hHeld => ?_)
      clear hK K
      try simp only [Act.put, List.setIfInBounds_toArray, List.set_cons_zero, List.set_cons_succ]
      refine wpAnyH_ready (rs := [4]) (by kernel_rfl) (by simp) ?_
      refine AllReadyH.cons (o := { dst := some 4, op := Op.assign (Operand.const (Value.int IntKind.i64 0)), type := 3, pos := "ref.go:176", after := #[{ on := 3, ground := Ground.chain }, { on := 0, ground := Ground.phase }, { on := 1, ground := Ground.phase }, { on := 2, ground := Ground.phase }, { on := 3, ground := Ground.phase }], guard := none }) rfl (fun K hK => ?_) AllReadyH.nil
      go_simp
      clear hHeld
      refine hK.out _ _ LR.out (fun hHeld => ?_)
      clear hK K
      try simp only [Act.put, List.setIfInBounds_toArray, List.set_cons_zero, List.set_cons_succ]
      refine wpAnyH_done (by kernel_rfl) ?_ _
      refine NoPanic.normal ?_
      clear hHeld
      have HF : Hid (MvAt ((V.setRow w.heap.size s.cs).setRow (w.heap.size + 1) m.cs) w.heap.size s ∧ PvAt ((V.setRow w.heap.size s.cs).setRow (w.heap.size + 1) m.cs) (w.heap.size + 1) m ∧ Below w.heap.size w ((V.setRow w.heap.size s.cs).setRow (w.heap.size + 1) m.cs)) := EV.out.2.2.2.2.two s m
      go_wp2
      refine bodyPost_ret (results_row3 rt49 rt32 Tryd.results17 _ _ _ _ _ _ _ rfl rfl rfl HF.out.1 rfl HF.out.2.1 rfl) rfl ?_
      exact ⟨s, m, 0, rfl, HDC.out, HF.out.2.2⟩

/-- The message of any bytes that are a frame, and whose it is, by definition. -/
theorem dref_any (a : Option Addr) (n c : Nat) (l : List Int) (w : World) (hR : Rl w) (h : Src w (.slice a n c) l) (hb : ∀ x ∈ l, 0 ≤ x ∧ x ≤ 255) :
    Calls Tryd.prog 17 #[.slice a n c] w fun r w' => ∃ s m e, r = .returned (.tuple #[.agg (M6.cs s), .agg (Bp.cs m), .int .i64 e]) ∧ DcOut l s m e ∧ Below w.heap.size w w' := by
  by_cases h21 : l.length < 21
  · exact dec17_short a n c l w hR h h21
  obtain ⟨b, o, rfl, _, _⟩ := src_some h (by omega)
  exact dref_long b o n c l w hR h hb (by omega)
end Go.Proofs.YtfpoopllkmnagaaDoor
