/-
  The walk of what bytes tell by definition, of a kind.
-/
import Derived.Test.YtfpoopllkmnagaaDoorRRdA
namespace Go.Proofs.YtfpoopllkmnagaaDoor
set_option linter.unusedVariables false
set_option maxRecDepth 4000
set_option linter.unusedSimpArgs false
open Go.RowKit

attribute [local go_sem ↓] ldS32 ldS49 ldS28 ldS30 ldS83 stS32 stS49 stS28 stS30 eqP_eq nqP_eq eqM_eq nqM_eq nqV_eq nqT_eq slS_eq


set_option maxHeartbeats 8000000 in
theorem rr_tcn_bad (b o n c : Nat) (M : Bp) (l : List Int) (w : World) (h : Src w (.slice (some ⟨b, o, none⟩) n c) l) (hb : ∀ x ∈ l, 0 ≤ x ∧ x ≤ 255) (h4 : 4 ≤ l.length) (h35 : ¬ 35 ≤ l.length) (hM : rcand l = M) (ho : okB M = false) :
    Calls Tryd.prog 13 #[.slice (some ⟨b, o, none⟩) n c] w fun r w' => ∃ m e, r = .returned (.tuple #[.agg (Bp.cs m), .int .i64 e]) ∧ RdOut l m e ∧ Below w.heap.size w w' := by
  obtain ⟨hn, hc, hm⟩ := src_short h
  have hbl : b < w.heap.size := by
    obtain ⟨b', o', e, hb', _⟩ := src_some h (by omega)
    cases e
    exact hb'
  have hz : PvAt (w.alloc (.cells #[.int .i64 0, .bool false, .bool false, .bool false, .bool false, .bool false, .bool false, .int .i64 0, .int .u64 0, .int .u32 0, .int .u64 0, .int .u16 0, .int .u8 0, .int .u8 0, .int .u8 0, .int .u8 0] 32)) w.heap.size zeroP := alloc_at w _
  have hB : Below w.heap.size w (w.alloc (.cells #[.int .i64 0, .bool false, .bool false, .bool false, .bool false, .bool false, .bool false, .int .i64 0, .int .u64 0, .int .u32 0, .int .u64 0, .int .u16 0, .int .u8 0, .int .u8 0, .int .u8 0, .int .u8 0] 32)) := (Below.refl _ _).alloc (Nat.le_refl _) _
  obtain ⟨W0, hW0⟩ : ∃ W, w.alloc (.cells #[.int .i64 0, .bool false, .bool false, .bool false, .bool false, .bool false, .bool false, .int .i64 0, .int .u64 0, .int .u32 0, .int .u64 0, .int .u16 0, .int .u8 0, .int .u8 0, .int .u8 0, .int .u8 0] 32) = W := ⟨_, rfl⟩
  rw [hW0] at hz hB
  have hn4 : ¬ (n : Int) < 4 := by omega
  have hn35 : ¬ (35 : Int) ≤ (n : Int) := by omega
  obtain ⟨W1, st1, r1, b1, z1⟩ := row_new rt32 W0 #[.int .i64 0, .bool false, .bool false, .bool false, .bool false, .bool false, .bool false, .int .i64 0, .int .u64 0, .int .u32 0, .int .u64 0, .int .u16 0, .int .u8 0, .int .u8 0, .int .u8 0, .int .u8 0] #[.int .i64 2, .bool false, .bool false, .bool false, .bool false, .bool false, .bool false, .int .i64 0, .int .u64 0, .int .u32 0, .int .u64 0, .int .u16 0, .int .u8 0, .int .u8 0, .int .u8 0, .int .u8 0] rfl rfl (kP 2).one
  have r1' : PvAt W1 W0.heap.size (kP 2) := r1
  have hlt0 := hz.lt
  have q1 : RQ w W1 W0.heap.size (kP 2) := ⟨hz.below b1, r1', below_over hB b1, hlt0⟩
  have HB : Hid ((∀ x ∈ l, 0 ≤ x ∧ x ≤ 255) ∧ 4 ≤ l.length ∧ n = l.length ∧ b < w.heap.size ∧ b < W0.heap.size) := ⟨hb, h4, hn, hbl, by omega⟩
  have EW : Hid (Src w (.slice (some ⟨b, o, none⟩) n c) l) := h
  have Q1 : Hid (RQ w W1 W0.heap.size (kP 2)) := q1
  have EM : Hid (rcand l = M) := hM
  have EV : Hid M.wf := by show M.wf; rw [← hM]; exact rw_wf hb
  have EO : Hid (okB M = false) := ho
  have e2 : M = kP 2 := by
    rw [← hM]
    unfold rcand
    rw [if_neg h35]
  have QM : Hid (RQ w W1 W0.heap.size M) := by rw [e2]; exact q1
  have lM := QM.out.pv.ld
  clear h hb h4 h35 hM ho hn hc hm r1 r1' b1 z1 hlt0 q1 hz hB hbl e2 Q1
  go_enter Tryd.func13, Tryd.ntmps13
  go_wp2_with fail
  refine (bref_any M _ EV.out).mono ?_
  rintro _ W5 ⟨s5, rfl, o5, b5⟩
  have Z5 : Hid (RQ w W5 W0.heap.size M) := QM.out.later b5
  have HC : Hid (chkP M = 50) := by show _ = _; unfold chkP; rw [EO.out]; rfl
  rw [HC.out]
  have x1 := o5.src.string
  have x2 := (EW.out.below Z5.out.below).string
  clear o5 b5 QM lM
  clear x1 x2
  have st := Z5.out.z.stk 0
  have HF : Hid (PvAt (W5.setRow w.heap.size zeroP.cs) w.heap.size zeroP ∧ Below w.heap.size w (W5.setRow w.heap.size zeroP.cs)) := ⟨Z5.out.z.set, below_setRow Z5.out.below (Nat.le_refl _) _⟩
  go_wp2
  refine bodyPost_ret (results_row2 rt32 Tryd.results13 _ _ _ _ _ rfl rfl HF.out.1 rfl) rfl ?_
  exact ⟨zeroP, 50, rfl, rr_no HB.out.2.1 EM.out (fun h _ => by rw [EO.out] at h; cases h), HF.out.2⟩

set_option maxHeartbeats 8000000 in
theorem rr_tcn_ne (b o n c : Nat) (M : Bp) (l : List Int) (w : World) (h : Src w (.slice (some ⟨b, o, none⟩) n c) l) (hb : ∀ x ∈ l, 0 ≤ x ∧ x ≤ 255) (h4 : 4 ≤ l.length) (h35 : ¬ 35 ≤ l.length) (hM : rcand l = M) (ho : okB M = true) (hq : beqL (mbytes M) l = false) :
    Calls Tryd.prog 13 #[.slice (some ⟨b, o, none⟩) n c] w fun r w' => ∃ m e, r = .returned (.tuple #[.agg (Bp.cs m), .int .i64 e]) ∧ RdOut l m e ∧ Below w.heap.size w w' := by
  obtain ⟨hn, hc, hm⟩ := src_short h
  have hbl : b < w.heap.size := by
    obtain ⟨b', o', e, hb', _⟩ := src_some h (by omega)
    cases e
    exact hb'
  have hz : PvAt (w.alloc (.cells #[.int .i64 0, .bool false, .bool false, .bool false, .bool false, .bool false, .bool false, .int .i64 0, .int .u64 0, .int .u32 0, .int .u64 0, .int .u16 0, .int .u8 0, .int .u8 0, .int .u8 0, .int .u8 0] 32)) w.heap.size zeroP := alloc_at w _
  have hB : Below w.heap.size w (w.alloc (.cells #[.int .i64 0, .bool false, .bool false, .bool false, .bool false, .bool false, .bool false, .int .i64 0, .int .u64 0, .int .u32 0, .int .u64 0, .int .u16 0, .int .u8 0, .int .u8 0, .int .u8 0, .int .u8 0] 32)) := (Below.refl _ _).alloc (Nat.le_refl _) _
  obtain ⟨W0, hW0⟩ : ∃ W, w.alloc (.cells #[.int .i64 0, .bool false, .bool false, .bool false, .bool false, .bool false, .bool false, .int .i64 0, .int .u64 0, .int .u32 0, .int .u64 0, .int .u16 0, .int .u8 0, .int .u8 0, .int .u8 0, .int .u8 0] 32) = W := ⟨_, rfl⟩
  rw [hW0] at hz hB
  have hn4 : ¬ (n : Int) < 4 := by omega
  have hn35 : ¬ (35 : Int) ≤ (n : Int) := by omega
  obtain ⟨W1, st1, r1, b1, z1⟩ := row_new rt32 W0 #[.int .i64 0, .bool false, .bool false, .bool false, .bool false, .bool false, .bool false, .int .i64 0, .int .u64 0, .int .u32 0, .int .u64 0, .int .u16 0, .int .u8 0, .int .u8 0, .int .u8 0, .int .u8 0] #[.int .i64 2, .bool false, .bool false, .bool false, .bool false, .bool false, .bool false, .int .i64 0, .int .u64 0, .int .u32 0, .int .u64 0, .int .u16 0, .int .u8 0, .int .u8 0, .int .u8 0, .int .u8 0] rfl rfl (kP 2).one
  have r1' : PvAt W1 W0.heap.size (kP 2) := r1
  have hlt0 := hz.lt
  have q1 : RQ w W1 W0.heap.size (kP 2) := ⟨hz.below b1, r1', below_over hB b1, hlt0⟩
  have HB : Hid ((∀ x ∈ l, 0 ≤ x ∧ x ≤ 255) ∧ 4 ≤ l.length ∧ n = l.length ∧ b < w.heap.size ∧ b < W0.heap.size) := ⟨hb, h4, hn, hbl, by omega⟩
  have EW : Hid (Src w (.slice (some ⟨b, o, none⟩) n c) l) := h
  have Q1 : Hid (RQ w W1 W0.heap.size (kP 2)) := q1
  have EM : Hid (rcand l = M) := hM
  have EV : Hid M.wf := by show M.wf; rw [← hM]; exact rw_wf hb
  have EO : Hid (okB M = true) := ho
  have EQ : Hid (beqL (mbytes M) l = false) := hq
  have e2 : M = kP 2 := by
    rw [← hM]
    unfold rcand
    rw [if_neg h35]
  have QM : Hid (RQ w W1 W0.heap.size M) := by rw [e2]; exact q1
  have lM := QM.out.pv.ld
  clear h hb h4 h35 hM ho hn hc hm r1 r1' b1 z1 hlt0 q1 hz hB hbl e2 Q1 hq
  go_enter Tryd.func13, Tryd.ntmps13
  go_wp2_with fail
  refine (bref_any M _ EV.out).mono ?_
  rintro _ W5 ⟨s5, rfl, o5, b5⟩
  have Z5 : Hid (RQ w W5 W0.heap.size M) := QM.out.later b5
  have HC : Hid (chkP M = 0) := by show _ = _; unfold chkP; rw [EO.out]; rfl
  rw [HC.out]
  have x1 := o5.src.string
  have x2 := (EW.out.below Z5.out.below).string
  clear o5 b5 QM lM
  have e6 : mbO M = mbytes M := by
    unfold mbO
    rw [EO.out]
    rfl
  rw [e6] at x1
  have hq : ((bs (mbytes M)).toList == (bs l).toList) = false := EQ.out
  clear e6
  have st := Z5.out.z.stk 0
  have HF : Hid (PvAt (W5.setRow w.heap.size zeroP.cs) w.heap.size zeroP ∧ Below w.heap.size w (W5.setRow w.heap.size zeroP.cs)) := ⟨Z5.out.z.set, below_setRow Z5.out.below (Nat.le_refl _) _⟩
  go_wp2
  refine bodyPost_ret (results_row2 rt32 Tryd.results13 _ _ _ _ _ rfl rfl HF.out.1 rfl) rfl ?_
  exact ⟨zeroP, 50, rfl, rr_no HB.out.2.1 EM.out (fun _ h => by have := EQ.out; rw [h, beqL_self] at this; cases this), HF.out.2⟩

set_option maxHeartbeats 8000000 in
theorem rr_tcn_ok (b o n c : Nat) (M : Bp) (l : List Int) (w : World) (h : Src w (.slice (some ⟨b, o, none⟩) n c) l) (hb : ∀ x ∈ l, 0 ≤ x ∧ x ≤ 255) (h4 : 4 ≤ l.length) (h35 : ¬ 35 ≤ l.length) (hM : rcand l = M) (ho : okB M = true) (hq : beqL (mbytes M) l = true) :
    Calls Tryd.prog 13 #[.slice (some ⟨b, o, none⟩) n c] w fun r w' => ∃ m e, r = .returned (.tuple #[.agg (Bp.cs m), .int .i64 e]) ∧ RdOut l m e ∧ Below w.heap.size w w' := by
  obtain ⟨hn, hc, hm⟩ := src_short h
  have hbl : b < w.heap.size := by
    obtain ⟨b', o', e, hb', _⟩ := src_some h (by omega)
    cases e
    exact hb'
  have hz : PvAt (w.alloc (.cells #[.int .i64 0, .bool false, .bool false, .bool false, .bool false, .bool false, .bool false, .int .i64 0, .int .u64 0, .int .u32 0, .int .u64 0, .int .u16 0, .int .u8 0, .int .u8 0, .int .u8 0, .int .u8 0] 32)) w.heap.size zeroP := alloc_at w _
  have hB : Below w.heap.size w (w.alloc (.cells #[.int .i64 0, .bool false, .bool false, .bool false, .bool false, .bool false, .bool false, .int .i64 0, .int .u64 0, .int .u32 0, .int .u64 0, .int .u16 0, .int .u8 0, .int .u8 0, .int .u8 0, .int .u8 0] 32)) := (Below.refl _ _).alloc (Nat.le_refl _) _
  obtain ⟨W0, hW0⟩ : ∃ W, w.alloc (.cells #[.int .i64 0, .bool false, .bool false, .bool false, .bool false, .bool false, .bool false, .int .i64 0, .int .u64 0, .int .u32 0, .int .u64 0, .int .u16 0, .int .u8 0, .int .u8 0, .int .u8 0, .int .u8 0] 32) = W := ⟨_, rfl⟩
  rw [hW0] at hz hB
  have hn4 : ¬ (n : Int) < 4 := by omega
  have hn35 : ¬ (35 : Int) ≤ (n : Int) := by omega
  obtain ⟨W1, st1, r1, b1, z1⟩ := row_new rt32 W0 #[.int .i64 0, .bool false, .bool false, .bool false, .bool false, .bool false, .bool false, .int .i64 0, .int .u64 0, .int .u32 0, .int .u64 0, .int .u16 0, .int .u8 0, .int .u8 0, .int .u8 0, .int .u8 0] #[.int .i64 2, .bool false, .bool false, .bool false, .bool false, .bool false, .bool false, .int .i64 0, .int .u64 0, .int .u32 0, .int .u64 0, .int .u16 0, .int .u8 0, .int .u8 0, .int .u8 0, .int .u8 0] rfl rfl (kP 2).one
  have r1' : PvAt W1 W0.heap.size (kP 2) := r1
  have hlt0 := hz.lt
  have q1 : RQ w W1 W0.heap.size (kP 2) := ⟨hz.below b1, r1', below_over hB b1, hlt0⟩
  have HB : Hid ((∀ x ∈ l, 0 ≤ x ∧ x ≤ 255) ∧ 4 ≤ l.length ∧ n = l.length ∧ b < w.heap.size ∧ b < W0.heap.size) := ⟨hb, h4, hn, hbl, by omega⟩
  have EW : Hid (Src w (.slice (some ⟨b, o, none⟩) n c) l) := h
  have Q1 : Hid (RQ w W1 W0.heap.size (kP 2)) := q1
  have EM : Hid (rcand l = M) := hM
  have EV : Hid M.wf := by show M.wf; rw [← hM]; exact rw_wf hb
  have EO : Hid (okB M = true) := ho
  have EQ : Hid (beqL (mbytes M) l = true) := hq
  have e2 : M = kP 2 := by
    rw [← hM]
    unfold rcand
    rw [if_neg h35]
  have QM : Hid (RQ w W1 W0.heap.size M) := by rw [e2]; exact q1
  have lM := QM.out.pv.ld
  clear h hb h4 h35 hM ho hn hc hm r1 r1' b1 z1 hlt0 q1 hz hB hbl e2 Q1 hq
  go_enter Tryd.func13, Tryd.ntmps13
  go_wp2_with fail
  refine (bref_any M _ EV.out).mono ?_
  rintro _ W5 ⟨s5, rfl, o5, b5⟩
  have Z5 : Hid (RQ w W5 W0.heap.size M) := QM.out.later b5
  have HC : Hid (chkP M = 0) := by show _ = _; unfold chkP; rw [EO.out]; rfl
  rw [HC.out]
  have x1 := o5.src.string
  have x2 := (EW.out.below Z5.out.below).string
  clear o5 b5 QM lM
  have e6 : mbO M = mbytes M := by
    unfold mbO
    rw [EO.out]
    rfl
  rw [e6] at x1
  have hq : ((bs (mbytes M)).toList == (bs l).toList) = true := EQ.out
  clear e6
  have st := Z5.out.z.st (n := M)
  have l5 := Z5.out.pv.ld
  have HF : Hid (PvAt (W5.setRow w.heap.size M.cs) w.heap.size M ∧ Below w.heap.size w (W5.setRow w.heap.size M.cs)) := ⟨Z5.out.z.set, below_setRow Z5.out.below (Nat.le_refl _) _⟩
  go_wp2
  refine bodyPost_ret (results_row2 rt32 Tryd.results13 _ _ _ _ _ rfl rfl HF.out.1 rfl) rfl ?_
  exact ⟨M, 0, rfl, rd_yes HB.out.2.1 EV.out EO.out ((beqL_iff (mbytes_ok EV.out) HB.out.1).1 EQ.out), HF.out.2⟩
end Go.Proofs.YtfpoopllkmnagaaDoor
