/-
  The walk of what bytes tell, of a kind's length.
-/
import Derived.Test.YtfpoopllkmnagaaDoorReadA
namespace Go.Proofs.YtfpoopllkmnagaaDoor
set_option linter.unusedVariables false
set_option maxRecDepth 4000
set_option linter.unusedSimpArgs false
open Go.RowKit

attribute [local go_sem ↓] ldS32 ldS49 ldS28 ldS30 ldS83 stS32 stS49 stS28 stS30 eqP_eq nqP_eq eqM_eq nqM_eq nqV_eq nqT_eq mkS_eq slS_eq


set_option maxHeartbeats 4000000 in
theorem read_rst_bad (b o c : Nat) (M : Bp) (l : List Int) (w : World) (hR : Rl w) (h : Src w (.slice (some ⟨b, o, none⟩) 36 c) l) (hb : ∀ x ∈ l, 0 ≤ x ∧ x ≤ 255) (hK : headK (nu (sub l 0 4)) = 3) (hM : icand l = M) (ho : okB M = false) :
    Calls Tryd.prog 12 #[.slice (some ⟨b, o, none⟩) 36 c] w fun r w' => ∃ m e, r = .returned (.tuple #[.agg (Bp.cs m), .int .i64 e]) ∧ RdOut l m e ∧ Below w.heap.size w w' := by
  obtain ⟨hn, _, _⟩ := src_short h
  have h4 : 4 ≤ l.length := by omega
  have hz : PvAt (w.alloc (.cells #[.int .i64 0, .bool false, .bool false, .bool false, .bool false, .bool false, .bool false, .int .i64 0, .int .u64 0, .int .u32 0, .int .u64 0, .int .u16 0, .int .u8 0, .int .u8 0, .int .u8 0, .int .u8 0] 32)) w.heap.size zeroP := alloc_at w _
  have hB : Below w.heap.size w (w.alloc (.cells #[.int .i64 0, .bool false, .bool false, .bool false, .bool false, .bool false, .bool false, .int .i64 0, .int .u64 0, .int .u32 0, .int .u64 0, .int .u16 0, .int .u8 0, .int .u8 0, .int .u8 0, .int .u8 0] 32)) := (Below.refl _ _).alloc (Nat.le_refl _) _
  obtain ⟨W0, hW0⟩ : ∃ W, w.alloc (.cells #[.int .i64 0, .bool false, .bool false, .bool false, .bool false, .bool false, .bool false, .int .i64 0, .int .u64 0, .int .u32 0, .int .u64 0, .int .u16 0, .int .u8 0, .int .u8 0, .int .u8 0, .int .u8 0] 32) = W := ⟨_, rfl⟩
  rw [hW0] at hz hB
  have hs0 : W0.heap.size = w.heap.size + 1 := by rw [← hW0]; simp
  have HS : Hid (W0.heap.size = w.heap.size + 1) := hs0
  have hn4 : ¬ ((36 : Nat) : Int) < 4 := by omega
  have R0 : Rl W0 := hR.below hB hR.lt
  have S0 : Hid (Src W0 (.slice (some ⟨b, o, none⟩) 36 c) l) := by
    show Src _ _ _
    rw [← hW0]
    exact h.below ((Below.refl _ _).alloc (Nat.le_refl _) _)
  have HB : Hid ((∀ x ∈ l, 0 ≤ x ∧ x ≤ 255) ∧ 4 ≤ l.length ∧ 36 = l.length) := ⟨hb, h4, hn⟩
  have HZ : Hid (PvAt W0 w.heap.size zeroP ∧ Below w.heap.size w W0 ∧ Rl W0) := ⟨hz, hB, R0⟩
  have HK : Hid (headK (nu (sub l 0 4)) = 3) := hK
  have EW : Hid (Src w (.slice (some ⟨b, o, none⟩) 36 c) l) := h
  have EM : Hid (icand l = M) := hM
  have EO : Hid (okB M = false) := ho
  clear hM ho
  clear h hn h4 hz hB hs0 hb hR R0 hK
  go_enter Tryd.func12, Tryd.ntmps12
  go_wp2_with fail
  try rw [hW0]
  clear hW0
  refine (taker_any b o 36 c l W0 S0.out (by have := HB.out.2.1; omega)).mono ?_
  rintro _ W1 ⟨rfl, p1, b1⟩
  obtain ⟨X, hX⟩ : ∃ X, W0.heap.size = X := ⟨_, rfl⟩
  rw [hX] at p1 HS ⊢
  have P1 : Hid (TSt W1 b o 36 c X (X + 1) l 0) := p1
  have Z1 : Hid (PvAt W1 w.heap.size zeroP ∧ Below w.heap.size w W1 ∧ Rl W1) := ⟨HZ.out.1.below b1, below_over HZ.out.2.1 b1, HZ.out.2.2.below b1 HZ.out.2.2.lt⟩
  clear p1 b1 hX HZ S0
  go_wp2_with fail
  refine (take_any 4 b o 36 c X (X + 1) 0 l W1 P1.out HB.out.1 (by omega) (by have := HB.out.2.1; omega)).mono ?_
  rintro _ W2 ⟨rfl, p2, c2⟩
  have P2 : Hid (TSt W2 b o 36 c X (X + 1) l 4) := p2
  have Z2 : Hid (PvAt W2 w.heap.size zeroP ∧ Below w.heap.size w W2 ∧ Rl W2) := ⟨c2.pv Z1.out.1 (by have := HS.out; omega), Z1.out.2.1.trans (c2.below Z1.out.2.1.size (fun i _ e => by have := HS.out; omega)), c2.rl Z1.out.2.2 (by omega)⟩
  clear p2 c2 Z1 P1
  go_wp2_with fail
  refine (kindOf_any (nu (sub l 0 4)) _).mono ?_
  rintro _ Y ⟨rfl, hY⟩
  rw [hY, HK.out]
  clear hY Y
  obtain ⟨W3, st3, r3, b3, z3⟩ := row_new rt32 W2 #[.int .i64 0, .bool false, .bool false, .bool false, .bool false, .bool false, .bool false, .int .i64 0, .int .u64 0, .int .u32 0, .int .u64 0, .int .u16 0, .int .u8 0, .int .u8 0, .int .u8 0, .int .u8 0] #[.int .i64 3, .bool false, .bool false, .bool false, .bool false, .bool false, .bool false, .int .i64 0, .int .u64 0, .int .u32 0, .int .u64 0, .int .u16 0, .int .u8 0, .int .u8 0, .int .u8 0, .int .u8 0] rfl rfl (kP 3).one
  have r3' : PvAt W3 W2.heap.size (kP 3) := r3
  have Z3 : Hid (RSt w W3 W2.heap.size (kP 3)) := ⟨Z2.out.1.below b3, r3', Z2.out.2.2.below b3 Z2.out.2.2.lt, below_over Z2.out.2.1 b3, Z2.out.1.lt⟩
  have P3 : Hid (TSt W3 b o 36 c X (X + 1) l 4) := P2.out.below b3
  have M3 : Hid (b < W2.heap.size ∧ X < W2.heap.size ∧ X + 1 < W2.heap.size) := ⟨P2.out.lt, lt_of_block P2.out.box, lt_of_block P2.out.at_⟩
  have k3 : W3.cell? ⟨W2.heap.size, 0, none⟩ = some (.int .i64 3) := r3'.c0
  clear r3 r3' b3 z3 Z2 P2
  go_wp2_with fail
  refine (length_any 3 _).mono ?_
  rintro _ Y ⟨rfl, hY⟩
  rw [hY]
  clear hY Y st3
  rw [show ((lenK 3 : Nat) : Int) = 36 from rfl]
  obtain ⟨mB, hmB⟩ : ∃ x, W2.heap.size = x := ⟨_, rfl⟩
  rw [hmB] at k3 Z3 M3 ⊢
  clear hmB
  go_wp2_with fail
  refine (takeBody_any (kP 3) b o 36 c X (X + 1) mB l W3 P3.out Z3.out.pv Z3.out.rl (by have := Z3.out.lt; omega) (by omega) (by have := M3.out; omega) (by have := M3.out; omega) (by have := M3.out; omega) HB.out.1 (by have := HB.out.2.2; omega)).mono ?_
  rintro _ W4 ⟨rfl, p4, c4⟩
  have e4 : M = cand (kP 3).k l := by
    rw [← EM.out]
    unfold icand
    rw [HK.out, if_neg (by decide)]
    rfl
  rw [← e4] at p4
  have Z4 : Hid (RSt w W4 mB M) := ⟨c4.pv Z3.out.z (by have := HS.out; have := Z3.out.lt; omega), p4, c4.rl Z3.out.rl (by have := Z3.out.lt; omega), Z3.out.below.trans (c4.below Z3.out.below.size (fun i _ e => by have := HS.out; have := Z3.out.lt; omega)), Z3.out.lt⟩
  have l4 := Z4.out.pv.ld
  clear e4 p4 c4 Z3 P3 M3 k3
  go_wp2_with fail
  have EV : Hid M.wf := by show M.wf; rw [← EM.out]; exact icand_wf HB.out.1
  refine (bytes_any M _ Z4.out.rl EV.out).mono ?_
  rintro _ W5 ⟨s5, rfl, o5, b5⟩
  have Z5 : Hid (RSt w W5 mB M) := Z4.out.later b5
  have HC : Hid (chkP M = 50) := by show _ = _; unfold chkP; rw [EO.out]; rfl
  rw [HC.out]
  have O5 : Hid (Src W5 s5 (mbO M)) := o5.src
  clear o5 b5 Z4 l4
  have st := Z5.out.z.stk 0
  have HF : Hid (PvAt (W5.setRow w.heap.size zeroP.cs) w.heap.size zeroP ∧ Below w.heap.size w (W5.setRow w.heap.size zeroP.cs)) := ⟨Z5.out.z.set, below_setRow Z5.out.below (Nat.le_refl _) _⟩
  go_wp2
  refine bodyPost_ret (results_row2 rt32 Tryd.results12 _ _ _ _ _ rfl rfl HF.out.1 rfl) rfl ?_
  exact ⟨zeroP, 50, rfl, rd_no HB.out.2.1 EM.out (fun h _ => by rw [EO.out] at h; cases h), HF.out.2⟩

set_option maxHeartbeats 4000000 in
theorem read_rst_ne (b o c : Nat) (M : Bp) (l : List Int) (w : World) (hR : Rl w) (h : Src w (.slice (some ⟨b, o, none⟩) 36 c) l) (hb : ∀ x ∈ l, 0 ≤ x ∧ x ≤ 255) (hK : headK (nu (sub l 0 4)) = 3) (hM : icand l = M) (ho : okB M = true) (hq : beqL (mbytes M) l = false) :
    Calls Tryd.prog 12 #[.slice (some ⟨b, o, none⟩) 36 c] w fun r w' => ∃ m e, r = .returned (.tuple #[.agg (Bp.cs m), .int .i64 e]) ∧ RdOut l m e ∧ Below w.heap.size w w' := by
  obtain ⟨hn, _, _⟩ := src_short h
  have h4 : 4 ≤ l.length := by omega
  have hz : PvAt (w.alloc (.cells #[.int .i64 0, .bool false, .bool false, .bool false, .bool false, .bool false, .bool false, .int .i64 0, .int .u64 0, .int .u32 0, .int .u64 0, .int .u16 0, .int .u8 0, .int .u8 0, .int .u8 0, .int .u8 0] 32)) w.heap.size zeroP := alloc_at w _
  have hB : Below w.heap.size w (w.alloc (.cells #[.int .i64 0, .bool false, .bool false, .bool false, .bool false, .bool false, .bool false, .int .i64 0, .int .u64 0, .int .u32 0, .int .u64 0, .int .u16 0, .int .u8 0, .int .u8 0, .int .u8 0, .int .u8 0] 32)) := (Below.refl _ _).alloc (Nat.le_refl _) _
  obtain ⟨W0, hW0⟩ : ∃ W, w.alloc (.cells #[.int .i64 0, .bool false, .bool false, .bool false, .bool false, .bool false, .bool false, .int .i64 0, .int .u64 0, .int .u32 0, .int .u64 0, .int .u16 0, .int .u8 0, .int .u8 0, .int .u8 0, .int .u8 0] 32) = W := ⟨_, rfl⟩
  rw [hW0] at hz hB
  have hs0 : W0.heap.size = w.heap.size + 1 := by rw [← hW0]; simp
  have HS : Hid (W0.heap.size = w.heap.size + 1) := hs0
  have hn4 : ¬ ((36 : Nat) : Int) < 4 := by omega
  have R0 : Rl W0 := hR.below hB hR.lt
  have S0 : Hid (Src W0 (.slice (some ⟨b, o, none⟩) 36 c) l) := by
    show Src _ _ _
    rw [← hW0]
    exact h.below ((Below.refl _ _).alloc (Nat.le_refl _) _)
  have HB : Hid ((∀ x ∈ l, 0 ≤ x ∧ x ≤ 255) ∧ 4 ≤ l.length ∧ 36 = l.length) := ⟨hb, h4, hn⟩
  have HZ : Hid (PvAt W0 w.heap.size zeroP ∧ Below w.heap.size w W0 ∧ Rl W0) := ⟨hz, hB, R0⟩
  have HK : Hid (headK (nu (sub l 0 4)) = 3) := hK
  have EW : Hid (Src w (.slice (some ⟨b, o, none⟩) 36 c) l) := h
  have EM : Hid (icand l = M) := hM
  have EO : Hid (okB M = true) := ho
  have EQ : Hid (beqL (mbytes M) l = false) := hq
  clear hM ho hq
  clear h hn h4 hz hB hs0 hb hR R0 hK
  go_enter Tryd.func12, Tryd.ntmps12
  go_wp2_with fail
  try rw [hW0]
  clear hW0
  refine (taker_any b o 36 c l W0 S0.out (by have := HB.out.2.1; omega)).mono ?_
  rintro _ W1 ⟨rfl, p1, b1⟩
  obtain ⟨X, hX⟩ : ∃ X, W0.heap.size = X := ⟨_, rfl⟩
  rw [hX] at p1 HS ⊢
  have P1 : Hid (TSt W1 b o 36 c X (X + 1) l 0) := p1
  have Z1 : Hid (PvAt W1 w.heap.size zeroP ∧ Below w.heap.size w W1 ∧ Rl W1) := ⟨HZ.out.1.below b1, below_over HZ.out.2.1 b1, HZ.out.2.2.below b1 HZ.out.2.2.lt⟩
  clear p1 b1 hX HZ S0
  go_wp2_with fail
  refine (take_any 4 b o 36 c X (X + 1) 0 l W1 P1.out HB.out.1 (by omega) (by have := HB.out.2.1; omega)).mono ?_
  rintro _ W2 ⟨rfl, p2, c2⟩
  have P2 : Hid (TSt W2 b o 36 c X (X + 1) l 4) := p2
  have Z2 : Hid (PvAt W2 w.heap.size zeroP ∧ Below w.heap.size w W2 ∧ Rl W2) := ⟨c2.pv Z1.out.1 (by have := HS.out; omega), Z1.out.2.1.trans (c2.below Z1.out.2.1.size (fun i _ e => by have := HS.out; omega)), c2.rl Z1.out.2.2 (by omega)⟩
  clear p2 c2 Z1 P1
  go_wp2_with fail
  refine (kindOf_any (nu (sub l 0 4)) _).mono ?_
  rintro _ Y ⟨rfl, hY⟩
  rw [hY, HK.out]
  clear hY Y
  obtain ⟨W3, st3, r3, b3, z3⟩ := row_new rt32 W2 #[.int .i64 0, .bool false, .bool false, .bool false, .bool false, .bool false, .bool false, .int .i64 0, .int .u64 0, .int .u32 0, .int .u64 0, .int .u16 0, .int .u8 0, .int .u8 0, .int .u8 0, .int .u8 0] #[.int .i64 3, .bool false, .bool false, .bool false, .bool false, .bool false, .bool false, .int .i64 0, .int .u64 0, .int .u32 0, .int .u64 0, .int .u16 0, .int .u8 0, .int .u8 0, .int .u8 0, .int .u8 0] rfl rfl (kP 3).one
  have r3' : PvAt W3 W2.heap.size (kP 3) := r3
  have Z3 : Hid (RSt w W3 W2.heap.size (kP 3)) := ⟨Z2.out.1.below b3, r3', Z2.out.2.2.below b3 Z2.out.2.2.lt, below_over Z2.out.2.1 b3, Z2.out.1.lt⟩
  have P3 : Hid (TSt W3 b o 36 c X (X + 1) l 4) := P2.out.below b3
  have M3 : Hid (b < W2.heap.size ∧ X < W2.heap.size ∧ X + 1 < W2.heap.size) := ⟨P2.out.lt, lt_of_block P2.out.box, lt_of_block P2.out.at_⟩
  have k3 : W3.cell? ⟨W2.heap.size, 0, none⟩ = some (.int .i64 3) := r3'.c0
  clear r3 r3' b3 z3 Z2 P2
  go_wp2_with fail
  refine (length_any 3 _).mono ?_
  rintro _ Y ⟨rfl, hY⟩
  rw [hY]
  clear hY Y st3
  rw [show ((lenK 3 : Nat) : Int) = 36 from rfl]
  obtain ⟨mB, hmB⟩ : ∃ x, W2.heap.size = x := ⟨_, rfl⟩
  rw [hmB] at k3 Z3 M3 ⊢
  clear hmB
  go_wp2_with fail
  refine (takeBody_any (kP 3) b o 36 c X (X + 1) mB l W3 P3.out Z3.out.pv Z3.out.rl (by have := Z3.out.lt; omega) (by omega) (by have := M3.out; omega) (by have := M3.out; omega) (by have := M3.out; omega) HB.out.1 (by have := HB.out.2.2; omega)).mono ?_
  rintro _ W4 ⟨rfl, p4, c4⟩
  have e4 : M = cand (kP 3).k l := by
    rw [← EM.out]
    unfold icand
    rw [HK.out, if_neg (by decide)]
    rfl
  rw [← e4] at p4
  have Z4 : Hid (RSt w W4 mB M) := ⟨c4.pv Z3.out.z (by have := HS.out; have := Z3.out.lt; omega), p4, c4.rl Z3.out.rl (by have := Z3.out.lt; omega), Z3.out.below.trans (c4.below Z3.out.below.size (fun i _ e => by have := HS.out; have := Z3.out.lt; omega)), Z3.out.lt⟩
  have l4 := Z4.out.pv.ld
  clear e4 p4 c4 Z3 P3 M3 k3
  go_wp2_with fail
  have EV : Hid M.wf := by show M.wf; rw [← EM.out]; exact icand_wf HB.out.1
  refine (bytes_any M _ Z4.out.rl EV.out).mono ?_
  rintro _ W5 ⟨s5, rfl, o5, b5⟩
  have Z5 : Hid (RSt w W5 mB M) := Z4.out.later b5
  have HC : Hid (chkP M = 0) := by show _ = _; unfold chkP; rw [EO.out]; rfl
  rw [HC.out]
  have O5 : Hid (Src W5 s5 (mbO M)) := o5.src
  clear o5 b5 Z4 l4
  go_wp2_with fail
  refine (equal_any _ _ _ l W5 O5.out (EW.out.below Z5.out.below)).mono ?_
  rintro _ Y ⟨rfl, hY⟩
  rw [hY]
  clear hY Y
  have e6 : beqL (mbO M) l = false := by
    unfold mbO
    rw [EO.out]
    exact EQ.out
  rw [e6]
  clear e6
  have st := Z5.out.z.stk 0
  have HF : Hid (PvAt (W5.setRow w.heap.size zeroP.cs) w.heap.size zeroP ∧ Below w.heap.size w (W5.setRow w.heap.size zeroP.cs)) := ⟨Z5.out.z.set, below_setRow Z5.out.below (Nat.le_refl _) _⟩
  go_wp2
  refine bodyPost_ret (results_row2 rt32 Tryd.results12 _ _ _ _ _ rfl rfl HF.out.1 rfl) rfl ?_
  exact ⟨zeroP, 50, rfl, rd_no HB.out.2.1 EM.out (fun _ h => by have := EQ.out; rw [h, beqL_self] at this; cases this), HF.out.2⟩

set_option maxHeartbeats 4000000 in
theorem read_rst_ok (b o c : Nat) (M : Bp) (l : List Int) (w : World) (hR : Rl w) (h : Src w (.slice (some ⟨b, o, none⟩) 36 c) l) (hb : ∀ x ∈ l, 0 ≤ x ∧ x ≤ 255) (hK : headK (nu (sub l 0 4)) = 3) (hM : icand l = M) (ho : okB M = true) (hq : beqL (mbytes M) l = true) :
    Calls Tryd.prog 12 #[.slice (some ⟨b, o, none⟩) 36 c] w fun r w' => ∃ m e, r = .returned (.tuple #[.agg (Bp.cs m), .int .i64 e]) ∧ RdOut l m e ∧ Below w.heap.size w w' := by
  obtain ⟨hn, _, _⟩ := src_short h
  have h4 : 4 ≤ l.length := by omega
  have hz : PvAt (w.alloc (.cells #[.int .i64 0, .bool false, .bool false, .bool false, .bool false, .bool false, .bool false, .int .i64 0, .int .u64 0, .int .u32 0, .int .u64 0, .int .u16 0, .int .u8 0, .int .u8 0, .int .u8 0, .int .u8 0] 32)) w.heap.size zeroP := alloc_at w _
  have hB : Below w.heap.size w (w.alloc (.cells #[.int .i64 0, .bool false, .bool false, .bool false, .bool false, .bool false, .bool false, .int .i64 0, .int .u64 0, .int .u32 0, .int .u64 0, .int .u16 0, .int .u8 0, .int .u8 0, .int .u8 0, .int .u8 0] 32)) := (Below.refl _ _).alloc (Nat.le_refl _) _
  obtain ⟨W0, hW0⟩ : ∃ W, w.alloc (.cells #[.int .i64 0, .bool false, .bool false, .bool false, .bool false, .bool false, .bool false, .int .i64 0, .int .u64 0, .int .u32 0, .int .u64 0, .int .u16 0, .int .u8 0, .int .u8 0, .int .u8 0, .int .u8 0] 32) = W := ⟨_, rfl⟩
  rw [hW0] at hz hB
  have hs0 : W0.heap.size = w.heap.size + 1 := by rw [← hW0]; simp
  have HS : Hid (W0.heap.size = w.heap.size + 1) := hs0
  have hn4 : ¬ ((36 : Nat) : Int) < 4 := by omega
  have R0 : Rl W0 := hR.below hB hR.lt
  have S0 : Hid (Src W0 (.slice (some ⟨b, o, none⟩) 36 c) l) := by
    show Src _ _ _
    rw [← hW0]
    exact h.below ((Below.refl _ _).alloc (Nat.le_refl _) _)
  have HB : Hid ((∀ x ∈ l, 0 ≤ x ∧ x ≤ 255) ∧ 4 ≤ l.length ∧ 36 = l.length) := ⟨hb, h4, hn⟩
  have HZ : Hid (PvAt W0 w.heap.size zeroP ∧ Below w.heap.size w W0 ∧ Rl W0) := ⟨hz, hB, R0⟩
  have HK : Hid (headK (nu (sub l 0 4)) = 3) := hK
  have EW : Hid (Src w (.slice (some ⟨b, o, none⟩) 36 c) l) := h
  have EM : Hid (icand l = M) := hM
  have EO : Hid (okB M = true) := ho
  have EQ : Hid (beqL (mbytes M) l = true) := hq
  clear hM ho hq
  clear h hn h4 hz hB hs0 hb hR R0 hK
  go_enter Tryd.func12, Tryd.ntmps12
  go_wp2_with fail
  try rw [hW0]
  clear hW0
  refine (taker_any b o 36 c l W0 S0.out (by have := HB.out.2.1; omega)).mono ?_
  rintro _ W1 ⟨rfl, p1, b1⟩
  obtain ⟨X, hX⟩ : ∃ X, W0.heap.size = X := ⟨_, rfl⟩
  rw [hX] at p1 HS ⊢
  have P1 : Hid (TSt W1 b o 36 c X (X + 1) l 0) := p1
  have Z1 : Hid (PvAt W1 w.heap.size zeroP ∧ Below w.heap.size w W1 ∧ Rl W1) := ⟨HZ.out.1.below b1, below_over HZ.out.2.1 b1, HZ.out.2.2.below b1 HZ.out.2.2.lt⟩
  clear p1 b1 hX HZ S0
  go_wp2_with fail
  refine (take_any 4 b o 36 c X (X + 1) 0 l W1 P1.out HB.out.1 (by omega) (by have := HB.out.2.1; omega)).mono ?_
  rintro _ W2 ⟨rfl, p2, c2⟩
  have P2 : Hid (TSt W2 b o 36 c X (X + 1) l 4) := p2
  have Z2 : Hid (PvAt W2 w.heap.size zeroP ∧ Below w.heap.size w W2 ∧ Rl W2) := ⟨c2.pv Z1.out.1 (by have := HS.out; omega), Z1.out.2.1.trans (c2.below Z1.out.2.1.size (fun i _ e => by have := HS.out; omega)), c2.rl Z1.out.2.2 (by omega)⟩
  clear p2 c2 Z1 P1
  go_wp2_with fail
  refine (kindOf_any (nu (sub l 0 4)) _).mono ?_
  rintro _ Y ⟨rfl, hY⟩
  rw [hY, HK.out]
  clear hY Y
  obtain ⟨W3, st3, r3, b3, z3⟩ := row_new rt32 W2 #[.int .i64 0, .bool false, .bool false, .bool false, .bool false, .bool false, .bool false, .int .i64 0, .int .u64 0, .int .u32 0, .int .u64 0, .int .u16 0, .int .u8 0, .int .u8 0, .int .u8 0, .int .u8 0] #[.int .i64 3, .bool false, .bool false, .bool false, .bool false, .bool false, .bool false, .int .i64 0, .int .u64 0, .int .u32 0, .int .u64 0, .int .u16 0, .int .u8 0, .int .u8 0, .int .u8 0, .int .u8 0] rfl rfl (kP 3).one
  have r3' : PvAt W3 W2.heap.size (kP 3) := r3
  have Z3 : Hid (RSt w W3 W2.heap.size (kP 3)) := ⟨Z2.out.1.below b3, r3', Z2.out.2.2.below b3 Z2.out.2.2.lt, below_over Z2.out.2.1 b3, Z2.out.1.lt⟩
  have P3 : Hid (TSt W3 b o 36 c X (X + 1) l 4) := P2.out.below b3
  have M3 : Hid (b < W2.heap.size ∧ X < W2.heap.size ∧ X + 1 < W2.heap.size) := ⟨P2.out.lt, lt_of_block P2.out.box, lt_of_block P2.out.at_⟩
  have k3 : W3.cell? ⟨W2.heap.size, 0, none⟩ = some (.int .i64 3) := r3'.c0
  clear r3 r3' b3 z3 Z2 P2
  go_wp2_with fail
  refine (length_any 3 _).mono ?_
  rintro _ Y ⟨rfl, hY⟩
  rw [hY]
  clear hY Y st3
  rw [show ((lenK 3 : Nat) : Int) = 36 from rfl]
  obtain ⟨mB, hmB⟩ : ∃ x, W2.heap.size = x := ⟨_, rfl⟩
  rw [hmB] at k3 Z3 M3 ⊢
  clear hmB
  go_wp2_with fail
  refine (takeBody_any (kP 3) b o 36 c X (X + 1) mB l W3 P3.out Z3.out.pv Z3.out.rl (by have := Z3.out.lt; omega) (by omega) (by have := M3.out; omega) (by have := M3.out; omega) (by have := M3.out; omega) HB.out.1 (by have := HB.out.2.2; omega)).mono ?_
  rintro _ W4 ⟨rfl, p4, c4⟩
  have e4 : M = cand (kP 3).k l := by
    rw [← EM.out]
    unfold icand
    rw [HK.out, if_neg (by decide)]
    rfl
  rw [← e4] at p4
  have Z4 : Hid (RSt w W4 mB M) := ⟨c4.pv Z3.out.z (by have := HS.out; have := Z3.out.lt; omega), p4, c4.rl Z3.out.rl (by have := Z3.out.lt; omega), Z3.out.below.trans (c4.below Z3.out.below.size (fun i _ e => by have := HS.out; have := Z3.out.lt; omega)), Z3.out.lt⟩
  have l4 := Z4.out.pv.ld
  clear e4 p4 c4 Z3 P3 M3 k3
  go_wp2_with fail
  have EV : Hid M.wf := by show M.wf; rw [← EM.out]; exact icand_wf HB.out.1
  refine (bytes_any M _ Z4.out.rl EV.out).mono ?_
  rintro _ W5 ⟨s5, rfl, o5, b5⟩
  have Z5 : Hid (RSt w W5 mB M) := Z4.out.later b5
  have HC : Hid (chkP M = 0) := by show _ = _; unfold chkP; rw [EO.out]; rfl
  rw [HC.out]
  have O5 : Hid (Src W5 s5 (mbO M)) := o5.src
  clear o5 b5 Z4 l4
  go_wp2_with fail
  refine (equal_any _ _ _ l W5 O5.out (EW.out.below Z5.out.below)).mono ?_
  rintro _ Y ⟨rfl, hY⟩
  rw [hY]
  clear hY Y
  have e6 : beqL (mbO M) l = true := by
    unfold mbO
    rw [EO.out]
    exact EQ.out
  rw [e6]
  clear e6
  have st := Z5.out.z.st (n := M)
  have l5 := Z5.out.pv.ld
  have HF : Hid (PvAt (W5.setRow w.heap.size M.cs) w.heap.size M ∧ Below w.heap.size w (W5.setRow w.heap.size M.cs)) := ⟨Z5.out.z.set, below_setRow Z5.out.below (Nat.le_refl _) _⟩
  go_wp2
  refine bodyPost_ret (results_row2 rt32 Tryd.results12 _ _ _ _ _ rfl rfl HF.out.1 rfl) rfl ?_
  exact ⟨M, 0, rfl, rd_yes HB.out.2.1 EV.out EO.out ((beqL_iff (mbytes_ok EV.out) HB.out.1).1 EQ.out), HF.out.2⟩
end Go.Proofs.YtfpoopllkmnagaaDoor
