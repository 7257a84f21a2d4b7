/-
  The walk of what bytes tell: too few, or of another length.
-/
import Derived.Test.YtfpoopllkmnagaaDoorTake
import Derived.Test.YtfpoopllkmnagaaDoorBytesm
namespace Go.Proofs.YtfpoopllkmnagaaDoor
set_option linter.unusedVariables false
set_option maxRecDepth 4000
set_option linter.unusedSimpArgs false
open Go.RowKit

attribute [local go_sem ↓] ldS32 ldS49 ldS28 ldS30 ldS83 stS32 stS49 stS28 stS30 eqP_eq nqP_eq eqM_eq nqM_eq nqV_eq nqT_eq mkS_eq slS_eq


theorem rd_no {l : List Int} {M : Bp} (h4 : 4 ≤ l.length) (hM : icand l = M) (h : okB M = true → mbytes M = l → False) : RdOut l zeroP 50 :=
  .inr (.inr ⟨h4, fun n hn => by
    have e := (icand_eq hn).1
    rw [hM] at e
    subst e
    exact h hn.ok hn.eq, rfl, rfl⟩)
theorem rd_len {l : List Int} (h4 : 4 ≤ l.length) (h : l.length ≠ lenK (headK (nu (sub l 0 4)))) : RdOut l zeroP 50 :=
  .inr (.inr ⟨h4, fun n hn => by
    have e := icand_eq hn
    rw [e.2.1] at h
    exact h e.2.2, rfl, rfl⟩)
theorem rd_yes {l : List Int} {M : Bp} (h4 : 4 ≤ l.length) (hw : M.wf) (ho : okB M = true) (h : mbytes M = l) : RdOut l M 0 := .inr (.inl ⟨h4, ⟨hw, ho, h⟩, rfl⟩)
theorem rd_short {l : List Int} (h : l.length < 4) : RdOut l zeroP 6 := .inl ⟨h, rfl, rfl⟩

/-- In the midst of reading: the answer's variable, the message's. -/
structure RSt (w W : World) (mB : Nat) (m : Bp) : Prop where
  z : PvAt W w.heap.size zeroP
  pv : PvAt W mB m
  rl : Rl W
  below : Below w.heap.size w W
  lt : w.heap.size < mB
theorem RSt.later {w W W' : World} {mB : Nat} {m : Bp} (h : RSt w W mB m) (k : Below W.heap.size W W') : RSt w W' mB m := ⟨h.z.below k, h.pv.below k, h.rl.below k h.rl.lt, below_over h.below k, h.lt⟩

theorem read_short (a : Option Addr) (n c : Nat) (l : List Int) (w : World) (h : Src w (.slice a n c) l) (h4 : l.length < 4) :
    Calls Tryd.prog 12 #[.slice a n c] w fun r w' => ∃ m e, r = .returned (.tuple #[.agg (Bp.cs m), .int .i64 e]) ∧ RdOut l m e ∧ Below w.heap.size w w' := by
  obtain ⟨hn, _, _⟩ := src_short h
  have hn4 : (n : Int) < 4 := by omega
  have H4 : Hid (l.length < 4) := h4
  have hz : PvAt (w.alloc (.cells #[.int .i64 0, .bool false, .bool false, .bool false, .bool false, .bool false, .bool false, .int .i64 0, .int .u64 0, .int .u32 0, .int .u64 0, .int .u16 0, .int .u8 0, .int .u8 0, .int .u8 0, .int .u8 0] 32)) w.heap.size zeroP := alloc_at w _
  have hB : Below w.heap.size w (w.alloc (.cells #[.int .i64 0, .bool false, .bool false, .bool false, .bool false, .bool false, .bool false, .int .i64 0, .int .u64 0, .int .u32 0, .int .u64 0, .int .u16 0, .int .u8 0, .int .u8 0, .int .u8 0, .int .u8 0] 32)) := (Below.refl _ _).alloc (Nat.le_refl _) _
  obtain ⟨W0, hW0⟩ : ∃ W, w.alloc (.cells #[.int .i64 0, .bool false, .bool false, .bool false, .bool false, .bool false, .bool false, .int .i64 0, .int .u64 0, .int .u32 0, .int .u64 0, .int .u16 0, .int .u8 0, .int .u8 0, .int .u8 0, .int .u8 0] 32) = W := ⟨_, rfl⟩
  rw [hW0] at hz hB
  have hs0 : W0.heap.size = w.heap.size + 1 := by rw [← hW0]; simp
  have HS : Hid (W0.heap.size = w.heap.size + 1) := hs0
  have st := hz.stk 0
  have HZ : Hid (PvAt (W0.setRow w.heap.size zeroP.cs) w.heap.size zeroP ∧ Below w.heap.size w (W0.setRow w.heap.size zeroP.cs)) := ⟨hz.set, below_setRow hB (Nat.le_refl _) _⟩
  clear h hn h4 hz hB hs0 HS
  go_enter Tryd.func12, Tryd.ntmps12
  go_wp2_with fail
  try rw [hW0]
  go_wp2
  refine bodyPost_ret (results_row2 rt32 Tryd.results12 _ _ _ _ _ rfl rfl HZ.out.1 rfl) rfl ?_
  exact ⟨zeroP, 6, rfl, rd_short H4.out, HZ.out.2⟩

set_option maxHeartbeats 4000000 in
theorem read_len (b o n c : Nat) (K : Int) (l : List Int) (w : World) (hR : Rl w) (h : Src w (.slice (some ⟨b, o, none⟩) n c) l) (hb : ∀ x ∈ l, 0 ≤ x ∧ x ≤ 255) (h4 : 4 ≤ l.length) (hK : headK (nu (sub l 0 4)) = K) (hL : n ≠ lenK K) :
    Calls Tryd.prog 12 #[.slice (some ⟨b, o, none⟩) n c] w fun r w' => ∃ m e, r = .returned (.tuple #[.agg (Bp.cs m), .int .i64 e]) ∧ RdOut l m e ∧ Below w.heap.size w w' := by
  obtain ⟨hn, _, _⟩ := src_short h
  have hz : PvAt (w.alloc (.cells #[.int .i64 0, .bool false, .bool false, .bool false, .bool false, .bool false, .bool false, .int .i64 0, .int .u64 0, .int .u32 0, .int .u64 0, .int .u16 0, .int .u8 0, .int .u8 0, .int .u8 0, .int .u8 0] 32)) w.heap.size zeroP := alloc_at w _
  have hB : Below w.heap.size w (w.alloc (.cells #[.int .i64 0, .bool false, .bool false, .bool false, .bool false, .bool false, .bool false, .int .i64 0, .int .u64 0, .int .u32 0, .int .u64 0, .int .u16 0, .int .u8 0, .int .u8 0, .int .u8 0, .int .u8 0] 32)) := (Below.refl _ _).alloc (Nat.le_refl _) _
  obtain ⟨W0, hW0⟩ : ∃ W, w.alloc (.cells #[.int .i64 0, .bool false, .bool false, .bool false, .bool false, .bool false, .bool false, .int .i64 0, .int .u64 0, .int .u32 0, .int .u64 0, .int .u16 0, .int .u8 0, .int .u8 0, .int .u8 0, .int .u8 0] 32) = W := ⟨_, rfl⟩
  rw [hW0] at hz hB
  have hs0 : W0.heap.size = w.heap.size + 1 := by rw [← hW0]; simp
  have HS : Hid (W0.heap.size = w.heap.size + 1) := hs0
  have hn4 : ¬ ((n : Nat) : Int) < 4 := by omega
  have R0 : Rl W0 := hR.below hB hR.lt
  have S0 : Hid (Src W0 (.slice (some ⟨b, o, none⟩) n c) l) := by
    show Src _ _ _
    rw [← hW0]
    exact h.below ((Below.refl _ _).alloc (Nat.le_refl _) _)
  have HB : Hid ((∀ x ∈ l, 0 ≤ x ∧ x ≤ 255) ∧ 4 ≤ l.length ∧ n = l.length) := ⟨hb, h4, hn⟩
  have HZ : Hid (PvAt W0 w.heap.size zeroP ∧ Below w.heap.size w W0 ∧ Rl W0) := ⟨hz, hB, R0⟩
  have HK : Hid (headK (nu (sub l 0 4)) = K) := hK
  have EW : Hid (Src w (.slice (some ⟨b, o, none⟩) n c) l) := h
  have hLi : ¬ (n : Int) = ((lenK K : Nat) : Int) := by omega
  have HL : Hid (n ≠ lenK K) := hL
  clear hL
  clear h hn h4 hz hB hs0 hb hR R0 hK
  go_enter Tryd.func12, Tryd.ntmps12
  go_wp2_with fail
  try rw [hW0]
  clear hW0
  refine (taker_any b o n c l W0 S0.out (by have := HB.out.2.1; omega)).mono ?_
  rintro _ W1 ⟨rfl, p1, b1⟩
  obtain ⟨X, hX⟩ : ∃ X, W0.heap.size = X := ⟨_, rfl⟩
  rw [hX] at p1 HS ⊢
  have P1 : Hid (TSt W1 b o n c X (X + 1) l 0) := p1
  have Z1 : Hid (PvAt W1 w.heap.size zeroP ∧ Below w.heap.size w W1 ∧ Rl W1) := ⟨HZ.out.1.below b1, below_over HZ.out.2.1 b1, HZ.out.2.2.below b1 HZ.out.2.2.lt⟩
  clear p1 b1 hX HZ S0
  go_wp2_with fail
  refine (take_any 4 b o n c X (X + 1) 0 l W1 P1.out HB.out.1 (by omega) (by have := HB.out.2.1; omega)).mono ?_
  rintro _ W2 ⟨rfl, p2, c2⟩
  have P2 : Hid (TSt W2 b o n c X (X + 1) l 4) := p2
  have Z2 : Hid (PvAt W2 w.heap.size zeroP ∧ Below w.heap.size w W2 ∧ Rl W2) := ⟨c2.pv Z1.out.1 (by have := HS.out; omega), Z1.out.2.1.trans (c2.below Z1.out.2.1.size (fun i _ e => by have := HS.out; omega)), c2.rl Z1.out.2.2 (by omega)⟩
  clear p2 c2 Z1 P1
  go_wp2_with fail
  refine (kindOf_any (nu (sub l 0 4)) _).mono ?_
  rintro _ Y ⟨rfl, hY⟩
  rw [hY, HK.out]
  clear hY Y
  obtain ⟨W3, st3, r3, b3, z3⟩ := row_new rt32 W2 #[.int .i64 0, .bool false, .bool false, .bool false, .bool false, .bool false, .bool false, .int .i64 0, .int .u64 0, .int .u32 0, .int .u64 0, .int .u16 0, .int .u8 0, .int .u8 0, .int .u8 0, .int .u8 0] #[.int .i64 K, .bool false, .bool false, .bool false, .bool false, .bool false, .bool false, .int .i64 0, .int .u64 0, .int .u32 0, .int .u64 0, .int .u16 0, .int .u8 0, .int .u8 0, .int .u8 0, .int .u8 0] rfl rfl (kP K).one
  have r3' : PvAt W3 W2.heap.size (kP K) := r3
  have Z3 : Hid (RSt w W3 W2.heap.size (kP K)) := ⟨Z2.out.1.below b3, r3', Z2.out.2.2.below b3 Z2.out.2.2.lt, below_over Z2.out.2.1 b3, Z2.out.1.lt⟩
  have P3 : Hid (TSt W3 b o n c X (X + 1) l 4) := P2.out.below b3
  have M3 : Hid (b < W2.heap.size ∧ X < W2.heap.size ∧ X + 1 < W2.heap.size) := ⟨P2.out.lt, lt_of_block P2.out.box, lt_of_block P2.out.at_⟩
  have k3 : W3.cell? ⟨W2.heap.size, 0, none⟩ = some (.int .i64 K) := r3'.c0
  clear r3 r3' b3 z3 Z2 P2
  go_wp2_with fail
  refine (length_any K _).mono ?_
  rintro _ Y ⟨rfl, hY⟩
  rw [hY]
  clear hY Y st3
  have st := Z3.out.z.stk 0
  have HF : Hid (PvAt (W3.setRow w.heap.size zeroP.cs) w.heap.size zeroP ∧ Below w.heap.size w (W3.setRow w.heap.size zeroP.cs)) := ⟨Z3.out.z.set, below_setRow Z3.out.below (Nat.le_refl _) _⟩
  go_wp2
  refine bodyPost_ret (results_row2 rt32 Tryd.results12 _ _ _ _ _ rfl rfl HF.out.1 rfl) rfl ?_
  exact ⟨zeroP, 50, rfl, rd_len HB.out.2.1 (by rw [HK.out, ← HB.out.2.2]; exact HL.out), HF.out.2⟩
end Go.Proofs.YtfpoopllkmnagaaDoor
