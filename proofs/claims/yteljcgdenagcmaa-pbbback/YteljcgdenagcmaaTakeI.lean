/-
  The walk of taking a service's tag, for all bytes.
-/
import Derived.Test.YteljcgdenagcmaaWhole
namespace Go.Proofs.Yteljcgdenagcmaa
set_option linter.unusedVariables false
set_option maxRecDepth 4000
set_option linter.unusedSimpArgs false
open Go.RowKit

attribute [local go_sem ↓] ldS27_eq stS27_eq slS_eq

set_option maxHeartbeats 400000 in
theorem takei_short (a : Option Addr) (n c : Nat) (l : List Int) (w : World) (h : Src w (.slice a n c) l) (hs : l.length < 16) :
    Calls Try.prog 61 #[.slice a n c] w fun r w' => TiOut w l r w' := by
  obtain ⟨hn, hc, hm⟩ := src_short h
  clear h
  have hn2 : n < 16 := by omega
  have hn3 : (n : Int) < 16 := by omega
  have hE : Hid (tiE l = 6) := by unfold tiE; rw [if_pos hs]; rfl
  clear hn hs
  have hst := store27 (alloc_at w (.cells #[.int .i64 0, .bool false, .bool false, .int .i64 0, .int .u8 0, .int .u8 0, .int .u8 0, .int .u8 0, .int .u8 0, .int .u8 0, .int .u8 0, .int .u8 0, .int .u8 0, .int .u8 0, .int .u8 0, .int .u8 0] 27)) (cs := #[.int .i64 0, .bool false, .bool false, .int .i64 0, .int .u8 0, .int .u8 0, .int .u8 0, .int .u8 0, .int .u8 0, .int .u8 0, .int .u8 0, .int .u8 0, .int .u8 0, .int .u8 0, .int .u8 0, .int .u8 0]) rfl rfl (by simp [Value.oneCell'])
  have T2 := setRow_heap (w.alloc (.cells #[.int .i64 0, .bool false, .bool false, .int .i64 0, .int .u8 0, .int .u8 0, .int .u8 0, .int .u8 0, .int .u8 0, .int .u8 0, .int .u8 0, .int .u8 0, .int .u8 0, .int .u8 0, .int .u8 0, .int .u8 0] 27)) w.heap.size _ #[.int .i64 0, .bool false, .bool false, .int .i64 0, .int .u8 0, .int .u8 0, .int .u8 0, .int .u8 0, .int .u8 0, .int .u8 0, .int .u8 0, .int .u8 0, .int .u8 0, .int .u8 0, .int .u8 0, .int .u8 0] 27 (0, 0) (alloc_at w (.cells #[.int .i64 0, .bool false, .bool false, .int .i64 0, .int .u8 0, .int .u8 0, .int .u8 0, .int .u8 0, .int .u8 0, .int .u8 0, .int .u8 0, .int .u8 0, .int .u8 0, .int .u8 0, .int .u8 0, .int .u8 0] 27))
  go_enter Try.func61, Try.ntmps61
  go_wp2
  refine bodyPost_ret (results27 Try.results61 _ _ _ _ _ _ rfl rfl rfl T2 rfl) rfl ?_
  exact ti_out_err 6 hE.out (by decide) (below_setRow (by go_grown) (Nat.le_refl _) _)

set_option maxHeartbeats 800000 in
theorem takei_long (b o n c N : Nat) (l : List Int) (w : World) (h : Src w (.slice (some ⟨b, o, none⟩) n c) l) (h2 : 16 ≤ l.length) (hl : l.length ≤ 2000) (hrow : ∀ j, j < 4 → w.cell? ⟨b, o + j, none⟩ = some (.int .u8 (byN 4 N j)))
    (hE : ¬ rN 4 N 5 3 = 0 → tiE l = 20) (hi : itagOk (rN 4 N 0 3 : Nat) (rN 4 N 8 24 : Nat) = true)
    (hY : rN 4 N 5 3 = 0 → tiE l = 0 ∧ l.getD 0 0 / 32 = (rN 4 N 0 3 : Nat) ∧ (l.getD 0 0 / 16 % 2 == 1) = (((rN 4 N 3 1 : Nat) : Int) == 1) ∧ (l.getD 0 0 / 8 % 2 == 1) = (((rN 4 N 4 1 : Nat) : Int) == 1) ∧ l.getD 1 0 * 65536 + l.getD 2 0 * 256 + l.getD 3 0 = (rN 4 N 8 24 : Nat)) :
    Calls Try.prog 61 #[.slice (some ⟨b, o, none⟩) n c] w fun r w' => TiOut w l r w' := by
  obtain ⟨hn, hc, hm⟩ := src_short h
  have hbw : b < w.heap.size := (by obtain ⟨b', o', e, h5, _⟩ := src_some h (by omega); cases e; exact h5)
  have hn2 : 4 ≤ n := by omega
  have hn16 : 16 ≤ n := by omega
  have hn4 : n ≤ 2000 := by omega
  have hn3 : ¬ (n : Int) < 16 := by omega
  have st : Hid (∀ W, Below w.heap.size w W → RdSt w ((W.alloc (.cells #[.slice (some ⟨b, o, none⟩) n c] 28)).alloc (.cells #[.int .i64 0] 3)) b o n c W.heap.size (W.heap.size + 1) 4 N 0) := fun W hW => RdSt.start w W b o n c 4 N hW hbw hrow
  have hH : Hid (Src w (.slice (some ⟨b, o, none⟩) n c) l) := h
  have hlD : (l.drop 16).length ≤ 2000 := by simp; omega
  have n1 : b ≠ w.heap.size + 1 := by omega
  have hE' : Hid (¬ rN 4 N 5 3 = 0 → tiE l = 20) := hE
  have hY' : Hid (rN 4 N 5 3 = 0 → tiE l = 0 ∧ l.getD 0 0 / 32 = (rN 4 N 0 3 : Nat) ∧ (l.getD 0 0 / 16 % 2 == 1) = (((rN 4 N 3 1 : Nat) : Int) == 1) ∧ (l.getD 0 0 / 8 % 2 == 1) = (((rN 4 N 4 1 : Nat) : Int) == 1) ∧ l.getD 1 0 * 65536 + l.getD 2 0 * 256 + l.getD 3 0 = (rN 4 N 8 24 : Nat)) := hY
  have hll : Hid (16 ≤ l.length ∧ n = l.length) := ⟨h2, hn⟩
  clear h hn hrow h2 hl hE hY
  go_enter Try.func61, Try.ntmps61
  go_wp2_with fail
  refine (readers_any _ _ _ _).mono ?_
  rintro _ _ ⟨rfl, rfl⟩
  have st0 := st.out ((w.alloc (.cells #[.int .i64 0, .bool false, .bool false, .int .i64 0, .int .u8 0, .int .u8 0, .int .u8 0, .int .u8 0, .int .u8 0, .int .u8 0, .int .u8 0, .int .u8 0, .int .u8 0, .int .u8 0, .int .u8 0, .int .u8 0] 27)).alloc (.cells #[.int .i64 0, .bool false, .bool false, .int .i64 0, .int .u8 0, .int .u8 0, .int .u8 0, .int .u8 0, .int .u8 0, .int .u8 0, .int .u8 0, .int .u8 0, .int .u8 0, .int .u8 0, .int .u8 0, .int .u8 0] 27)) (by go_grown)
  simp only [World.size_alloc] at st0
  have S0 : Hid (RdSt w _ b o n c (w.heap.size + 1 + 1) (w.heap.size + 1 + 1 + 1) 4 N 0) := st0
  clear st0 st
  have A0 : Hid (((((w.alloc (.cells #[.int .i64 0, .bool false, .bool false, .int .i64 0, .int .u8 0, .int .u8 0, .int .u8 0, .int .u8 0, .int .u8 0, .int .u8 0, .int .u8 0, .int .u8 0, .int .u8 0, .int .u8 0, .int .u8 0, .int .u8 0] 27)).alloc (.cells #[.int .i64 0, .bool false, .bool false, .int .i64 0, .int .u8 0, .int .u8 0, .int .u8 0, .int .u8 0, .int .u8 0, .int .u8 0, .int .u8 0, .int .u8 0, .int .u8 0, .int .u8 0, .int .u8 0, .int .u8 0] 27)).alloc (.cells #[.slice (some ⟨b, o, none⟩) n c] 28)).alloc (.cells #[.int .i64 0] 3)).heap[w.heap.size]? = some (.cells #[.int .i64 0, .bool false, .bool false, .int .i64 0, .int .u8 0, .int .u8 0, .int .u8 0, .int .u8 0, .int .u8 0, .int .u8 0, .int .u8 0, .int .u8 0, .int .u8 0, .int .u8 0, .int .u8 0, .int .u8 0] 27 (0, 0))) := by
    show (_ : World).heap[w.heap.size]? = _
    rw [Below.heap_alloc _ _ _ (by simp; omega), Below.heap_alloc _ _ _ (by simp; omega), Below.heap_alloc _ _ _ (by simp)]
    exact alloc_at w _
  have C0 : Hid (((((w.alloc (.cells #[.int .i64 0, .bool false, .bool false, .int .i64 0, .int .u8 0, .int .u8 0, .int .u8 0, .int .u8 0, .int .u8 0, .int .u8 0, .int .u8 0, .int .u8 0, .int .u8 0, .int .u8 0, .int .u8 0, .int .u8 0] 27)).alloc (.cells #[.int .i64 0, .bool false, .bool false, .int .i64 0, .int .u8 0, .int .u8 0, .int .u8 0, .int .u8 0, .int .u8 0, .int .u8 0, .int .u8 0, .int .u8 0, .int .u8 0, .int .u8 0, .int .u8 0, .int .u8 0] 27)).alloc (.cells #[.slice (some ⟨b, o, none⟩) n c] 28)).alloc (.cells #[.int .i64 0] 3)).heap[w.heap.size + 1]? = some (.cells #[.int .i64 0, .bool false, .bool false, .int .i64 0, .int .u8 0, .int .u8 0, .int .u8 0, .int .u8 0, .int .u8 0, .int .u8 0, .int .u8 0, .int .u8 0, .int .u8 0, .int .u8 0, .int .u8 0, .int .u8 0] 27 (0, 0))) := by
    show (_ : World).heap[w.heap.size + 1]? = _
    rw [Below.heap_alloc _ _ _ (by simp), Below.heap_alloc _ _ _ (by simp)]
    have := alloc_at (w.alloc (.cells #[.int .i64 0, .bool false, .bool false, .int .i64 0, .int .u8 0, .int .u8 0, .int .u8 0, .int .u8 0, .int .u8 0, .int .u8 0, .int .u8 0, .int .u8 0, .int .u8 0, .int .u8 0, .int .u8 0, .int .u8 0] 27)) (.cells #[.int .i64 0, .bool false, .bool false, .int .i64 0, .int .u8 0, .int .u8 0, .int .u8 0, .int .u8 0, .int .u8 0, .int .u8 0, .int .u8 0, .int .u8 0, .int .u8 0, .int .u8 0, .int .u8 0, .int .u8 0] 27)
    simpa using this
  go_wp2_with fail
  refine Calls.on_rd (B2 := w.heap.size) (B5 := w.heap.size + 1) S0.out (S0.out.read 3 hn2 hn4 (by omega) (by omega) (by omega)) A0.out C0.out (by omega) (by omega) ?_
  intro W1 s1 a1 d1
  have x1 := cell_at d1 0 _ rfl
  have f1 := frozen3 d1 0
  have S1 : Hid (RdSt w (W1.setCell ⟨w.heap.size + 1, 0, none⟩ (.int .i64 (rN 4 N 0 3 : Nat))) b o n c (w.heap.size + 1 + 1) (w.heap.size + 1 + 1 + 1) 4 N 3) := s1.set _ _ _ n1 (by omega) (by omega) (by omega)
  have A1 : Hid ((W1.setCell ⟨w.heap.size + 1, 0, none⟩ (.int .i64 (rN 4 N 0 3 : Nat))).heap[w.heap.size]? = some (.cells #[.int .i64 0, .bool false, .bool false, .int .i64 0, .int .u8 0, .int .u8 0, .int .u8 0, .int .u8 0, .int .u8 0, .int .u8 0, .int .u8 0, .int .u8 0, .int .u8 0, .int .u8 0, .int .u8 0, .int .u8 0] 27 (0, 0))) := (heap_setCell_other _ _ _ _ (by simp)).trans a1
  have C1 : Hid ((W1.setCell ⟨w.heap.size + 1, 0, none⟩ (.int .i64 (rN 4 N 0 3 : Nat))).heap[w.heap.size + 1]? = some (.cells #[.int .i64 (rN 4 N 0 3 : Nat), .bool false, .bool false, .int .i64 0, .int .u8 0, .int .u8 0, .int .u8 0, .int .u8 0, .int .u8 0, .int .u8 0, .int .u8 0, .int .u8 0, .int .u8 0, .int .u8 0, .int .u8 0, .int .u8 0] 27 (0, 0))) := (heap_setCell_same _ _ _ _ _ _ d1).trans rfl
  clear s1 a1 d1 S0 A0 C0
  go_wp2_with fail
  refine Calls.on_rd (B2 := w.heap.size) (B5 := w.heap.size + 1) S1.out (S1.out.read 1 hn2 hn4 (by omega) (by omega) (by omega)) A1.out C1.out (by omega) (by omega) ?_
  intro W2 s2 a2 d2
  have x2 := cell_at d2 1 _ rfl
  have f2 := frozen3 d2 1
  have S2 : Hid (RdSt w (W2.setCell ⟨w.heap.size + 1, 1, none⟩ (.bool (((rN 4 N 3 1 : Nat) : Int) == 1))) b o n c (w.heap.size + 1 + 1) (w.heap.size + 1 + 1 + 1) 4 N 4) := s2.set _ _ _ n1 (by omega) (by omega) (by omega)
  have A2 : Hid ((W2.setCell ⟨w.heap.size + 1, 1, none⟩ (.bool (((rN 4 N 3 1 : Nat) : Int) == 1))).heap[w.heap.size]? = some (.cells #[.int .i64 0, .bool false, .bool false, .int .i64 0, .int .u8 0, .int .u8 0, .int .u8 0, .int .u8 0, .int .u8 0, .int .u8 0, .int .u8 0, .int .u8 0, .int .u8 0, .int .u8 0, .int .u8 0, .int .u8 0] 27 (0, 0))) := (heap_setCell_other _ _ _ _ (by simp)).trans a2
  have C2 : Hid ((W2.setCell ⟨w.heap.size + 1, 1, none⟩ (.bool (((rN 4 N 3 1 : Nat) : Int) == 1))).heap[w.heap.size + 1]? = some (.cells #[.int .i64 (rN 4 N 0 3 : Nat), .bool (((rN 4 N 3 1 : Nat) : Int) == 1), .bool false, .int .i64 0, .int .u8 0, .int .u8 0, .int .u8 0, .int .u8 0, .int .u8 0, .int .u8 0, .int .u8 0, .int .u8 0, .int .u8 0, .int .u8 0, .int .u8 0, .int .u8 0] 27 (0, 0))) := (heap_setCell_same _ _ _ _ _ _ d2).trans rfl
  clear s2 a2 d2 S1 A1 C1
  go_wp2_with fail
  refine Calls.on_rd (B2 := w.heap.size) (B5 := w.heap.size + 1) S2.out (S2.out.read 1 hn2 hn4 (by omega) (by omega) (by omega)) A2.out C2.out (by omega) (by omega) ?_
  intro W3 s3 a3 d3
  have x3 := cell_at d3 2 _ rfl
  have f3 := frozen3 d3 2
  have S3 : Hid (RdSt w (W3.setCell ⟨w.heap.size + 1, 2, none⟩ (.bool (((rN 4 N 4 1 : Nat) : Int) == 1))) b o n c (w.heap.size + 1 + 1) (w.heap.size + 1 + 1 + 1) 4 N 5) := s3.set _ _ _ n1 (by omega) (by omega) (by omega)
  have A3 : Hid ((W3.setCell ⟨w.heap.size + 1, 2, none⟩ (.bool (((rN 4 N 4 1 : Nat) : Int) == 1))).heap[w.heap.size]? = some (.cells #[.int .i64 0, .bool false, .bool false, .int .i64 0, .int .u8 0, .int .u8 0, .int .u8 0, .int .u8 0, .int .u8 0, .int .u8 0, .int .u8 0, .int .u8 0, .int .u8 0, .int .u8 0, .int .u8 0, .int .u8 0] 27 (0, 0))) := (heap_setCell_other _ _ _ _ (by simp)).trans a3
  have C3 : Hid ((W3.setCell ⟨w.heap.size + 1, 2, none⟩ (.bool (((rN 4 N 4 1 : Nat) : Int) == 1))).heap[w.heap.size + 1]? = some (.cells #[.int .i64 (rN 4 N 0 3 : Nat), .bool (((rN 4 N 3 1 : Nat) : Int) == 1), .bool (((rN 4 N 4 1 : Nat) : Int) == 1), .int .i64 0, .int .u8 0, .int .u8 0, .int .u8 0, .int .u8 0, .int .u8 0, .int .u8 0, .int .u8 0, .int .u8 0, .int .u8 0, .int .u8 0, .int .u8 0, .int .u8 0] 27 (0, 0))) := (heap_setCell_same _ _ _ _ _ _ d3).trans rfl
  clear s3 a3 d3 S2 A2 C2
  go_wp2_with fail
  refine Calls.on_rd (B2 := w.heap.size) (B5 := w.heap.size + 1) S3.out (S3.out.read 3 hn2 hn4 (by omega) (by omega) (by omega)) A3.out C3.out (by omega) (by omega) ?_
  intro W4 s4 a4 d4
  have S4 : Hid (RdSt w W4 b o n c (w.heap.size + 1 + 1) (w.heap.size + 1 + 1 + 1) 4 N 8) := s4
  have A4 : Hid (W4.heap[w.heap.size]? = some (.cells #[.int .i64 0, .bool false, .bool false, .int .i64 0, .int .u8 0, .int .u8 0, .int .u8 0, .int .u8 0, .int .u8 0, .int .u8 0, .int .u8 0, .int .u8 0, .int .u8 0, .int .u8 0, .int .u8 0, .int .u8 0] 27 (0, 0))) := a4
  have C4 : Hid (W4.heap[w.heap.size + 1]? = some (.cells #[.int .i64 (rN 4 N 0 3 : Nat), .bool (((rN 4 N 3 1 : Nat) : Int) == 1), .bool (((rN 4 N 4 1 : Nat) : Int) == 1), .int .i64 0, .int .u8 0, .int .u8 0, .int .u8 0, .int .u8 0, .int .u8 0, .int .u8 0, .int .u8 0, .int .u8 0, .int .u8 0, .int .u8 0, .int .u8 0, .int .u8 0] 27 (0, 0))) := d4
  clear s4 a4 d4 S3 A3 C3
  go_wp2_with fail
  refine Calls.on_rd (B2 := w.heap.size) (B5 := w.heap.size + 1) S4.out (S4.out.read 24 hn2 hn4 (by omega) (by omega) (by omega)) A4.out C4.out (by omega) (by omega) ?_
  intro W5 s5 a5 d5
  have x5 := cell_at d5 3 _ rfl
  have f5 := frozen3 d5 3
  have S5 : Hid (RdSt w (W5.setCell ⟨w.heap.size + 1, 3, none⟩ (.int .i64 (rN 4 N 8 24 : Nat))) b o n c (w.heap.size + 1 + 1) (w.heap.size + 1 + 1 + 1) 4 N 32) := s5.set _ _ _ n1 (by omega) (by omega) (by omega)
  have A5 : Hid ((W5.setCell ⟨w.heap.size + 1, 3, none⟩ (.int .i64 (rN 4 N 8 24 : Nat))).heap[w.heap.size]? = some (.cells #[.int .i64 0, .bool false, .bool false, .int .i64 0, .int .u8 0, .int .u8 0, .int .u8 0, .int .u8 0, .int .u8 0, .int .u8 0, .int .u8 0, .int .u8 0, .int .u8 0, .int .u8 0, .int .u8 0, .int .u8 0] 27 (0, 0))) := (heap_setCell_other _ _ _ _ (by simp)).trans a5
  have C5 : Hid ((W5.setCell ⟨w.heap.size + 1, 3, none⟩ (.int .i64 (rN 4 N 8 24 : Nat))).heap[w.heap.size + 1]? = some (.cells #[.int .i64 (rN 4 N 0 3 : Nat), .bool (((rN 4 N 3 1 : Nat) : Int) == 1), .bool (((rN 4 N 4 1 : Nat) : Int) == 1), .int .i64 (rN 4 N 8 24 : Nat), .int .u8 0, .int .u8 0, .int .u8 0, .int .u8 0, .int .u8 0, .int .u8 0, .int .u8 0, .int .u8 0, .int .u8 0, .int .u8 0, .int .u8 0, .int .u8 0] 27 (0, 0))) := (heap_setCell_same _ _ _ _ _ _ d5).trans rfl
  clear s5 a5 d5 S4 A4 C4
  have By : Hid (Below w.heap.size w (W5.setCell ⟨w.heap.size + 1, 3, none⟩ (.int .i64 (rN 4 N 8 24 : Nat)))) := S5.out.below
  clear S5 x1 f1 x2 f2 x3 f3
  by_cases hsp : rN 4 N 5 3 = 0
  · have hl6 := loadrow27 C5.out rfl
    have hi' : Hid (itagOk (rN 4 N 0 3 : Nat) (rN 4 N 8 24 : Nat) = true) := hi
    clear hi
    go_wp2_with fail
    refine Calls.on_later (checki_yes _ _ _ _ _ _ _ _ _ _ _ _ _ _ _ _  _ hi'.out) ?_
    intro y
    have By7 : Hid (Below w.heap.size w y.val) := below_over By.out y.below
    have A7 := (y.below.block _ (lt_of_block A5.out)).trans A5.out
    have C7 := (y.below.block _ (lt_of_block C5.out)).trans C5.out
    obtain ⟨W7, hW7⟩ : ∃ W7, y.val = W7 := ⟨_, rfl⟩
    rw [hW7] at By7 A7 C7 ⊢
    clear hW7 y hl6 By A5 C5
    obtain ⟨b', o', eb, _, hsr⟩ := src_some (hH.out.below By7.out) (by have := hll.out; omega)
    cases eb
    have hs2 : ∀ W, (slS (.slice (some ⟨b, o, none⟩) n c) (some (.int .i64 4)) (some (.int .i64 16)) none).run Try.prog W = .ok (.slice (some ⟨b, o + 4, none⟩) 12 (c - 4)) W := fun W => slS_mid b o n c hn16 hc hm W
    have hs3 : ∀ W, (slS (.slice (some ⟨b, o + 4, none⟩) 12 (c - 4)) (some (.int .i64 6)) none none).run Try.prog W = .ok (.slice (some ⟨b, o + 4 + 6, none⟩) 6 (c - 4 - 6)) W := fun W => slS_mid2 b o n c hn16 hc hm W
    have hs4 : ∀ W, (slS (.slice (some ⟨b, o, none⟩) n c) (some (.int .i64 16)) none none).run Try.prog W = .ok (dropV b o n c 16) W := fun W => slS_drop b o n c 16 hn16 hc hm W
    have hll2 : 16 ≤ l.length := hll.out.1
    obtain ⟨W8, hW8, e8, C8, A8, B8⟩ := copy_six (w := w) (W := W7) (t := w.heap.size + 1) (t' := w.heap.size) (off := 4) (b := b) (so := o + 4) (sl := 12) (sc := c - 4) (pre := [.int .i64 (rN 4 N 0 3 : Nat), .bool (((rN 4 N 3 1 : Nat) : Int) == 1), .bool (((rN 4 N 4 1 : Nat) : Int) == 1), .int .i64 (rN 4 N 8 24 : Nat)]) (mid := [.int .u8 0, .int .u8 0, .int .u8 0, .int .u8 0, .int .u8 0, .int .u8 0]) (post := [.int .u8 0, .int .u8 0, .int .u8 0, .int .u8 0, .int .u8 0, .int .u8 0]) (news := [.int .u8 (gt l 4), .int .u8 (gt l 5), .int .u8 (gt l 6), .int .u8 (gt l 7), .int .u8 (gt l 8), .int .u8 (gt l 9)]) C7 A7 (by simp) (by simp) rfl rfl rfl (by omega)
      (src_six hsr 4 (by omega)) By7.out (by simp [Value.oneCell'])
    obtain ⟨W9, hW9, e9, C9, A9, B9⟩ := copy_six (w := w) (W := W8.drew) (t := w.heap.size + 1) (t' := w.heap.size) (off := 10) (b := b) (so := o + 4 + 6) (sl := 6) (sc := c - 4 - 6) (pre := [.int .i64 (rN 4 N 0 3 : Nat), .bool (((rN 4 N 3 1 : Nat) : Int) == 1), .bool (((rN 4 N 4 1 : Nat) : Int) == 1), .int .i64 (rN 4 N 8 24 : Nat), .int .u8 (gt l 4), .int .u8 (gt l 5), .int .u8 (gt l 6), .int .u8 (gt l 7), .int .u8 (gt l 8), .int .u8 (gt l 9)]) (mid := [.int .u8 0, .int .u8 0, .int .u8 0, .int .u8 0, .int .u8 0, .int .u8 0]) (post := []) (news := [.int .u8 (gt l 10), .int .u8 (gt l 11), .int .u8 (gt l 12), .int .u8 (gt l 13), .int .u8 (gt l 14), .int .u8 (gt l 15)]) C8 A8 (by simp) (by simp) rfl rfl rfl (by omega)
      (src_six (fun j hj => (e8 _ _ n1).trans (hsr j hj)) 10 (by omega)) B8.drew (by simp [Value.oneCell'])
    have l9 := loadrow27 (w := W9.drew) C9 rfl
    have hD : Hid (Src W9.drew (dropV b o n c 16) (l.drop 16)) := (src_dropV (hH.out.below B9) 16 hn16).below (Below.refl _ _).drew
    have lt2 := lt_of_block A9
    have lt5 := lt_of_block C9
    have C9' : Hid (W9.heap[w.heap.size + 1]? = some (.cells #[.int .i64 (rN 4 N 0 3 : Nat), .bool (((rN 4 N 3 1 : Nat) : Int) == 1), .bool (((rN 4 N 4 1 : Nat) : Int) == 1), .int .i64 (rN 4 N 8 24 : Nat), .int .u8 (gt l 4), .int .u8 (gt l 5), .int .u8 (gt l 6), .int .u8 (gt l 7), .int .u8 (gt l 8), .int .u8 (gt l 9), .int .u8 (gt l 10), .int .u8 (gt l 11), .int .u8 (gt l 12), .int .u8 (gt l 13), .int .u8 (gt l 14), .int .u8 (gt l 15)] 27 (0, 0))) := C9
    have A9' : Hid (W9.heap[w.heap.size]? = some (.cells #[.int .i64 0, .bool false, .bool false, .int .i64 0, .int .u8 0, .int .u8 0, .int .u8 0, .int .u8 0, .int .u8 0, .int .u8 0, .int .u8 0, .int .u8 0, .int .u8 0, .int .u8 0, .int .u8 0, .int .u8 0] 27 (0, 0))) := A9
    have B9' : Hid (Below w.heap.size w W9) := B9
    clear C7 A7 C8 A8 B8 C9 A9 B9 e8 e9 hsr By7 hll2 x5 f5
    go_wp2
    go_region
    go_wp2
    go_region_with ((first | (go_at_call 36; refine (clone_v _ (l.drop 16) _ hD.out hlD).mono ?_; rintro _ w10 ⟨s10, rfl, ho10, hb10⟩; have A10 := (hb10.block _ lt2).trans A9'.out; have C10 := (hb10.block _ lt5).trans C9'.out; have l10 := loadrow27 C10 rfl; have st10 := store27 A10 (cs := #[.int .i64 (rN 4 N 0 3 : Nat), .bool (((rN 4 N 3 1 : Nat) : Int) == 1), .bool (((rN 4 N 4 1 : Nat) : Int) == 1), .int .i64 (rN 4 N 8 24 : Nat), .int .u8 (gt l 4), .int .u8 (gt l 5), .int .u8 (gt l 6), .int .u8 (gt l 7), .int .u8 (gt l 8), .int .u8 (gt l 9), .int .u8 (gt l 10), .int .u8 (gt l 11), .int .u8 (gt l 12), .int .u8 (gt l 13), .int .u8 (gt l 14), .int .u8 (gt l 15)]) rfl rfl (by simp [Value.oneCell']))))
    all_goals
      have T2 := setRow_heap _ w.heap.size _ #[.int .i64 (rN 4 N 0 3 : Nat), .bool (((rN 4 N 3 1 : Nat) : Int) == 1), .bool (((rN 4 N 4 1 : Nat) : Int) == 1), .int .i64 (rN 4 N 8 24 : Nat), .int .u8 (gt l 4), .int .u8 (gt l 5), .int .u8 (gt l 6), .int .u8 (gt l 7), .int .u8 (gt l 8), .int .u8 (gt l 9), .int .u8 (gt l 10), .int .u8 (gt l 11), .int .u8 (gt l 12), .int .u8 (gt l 13), .int .u8 (gt l 14), .int .u8 (gt l 15)] 27 (0, 0) A10
      have HO : Hid (Own w10 W9.heap.size s10 (l.drop 16)) := ho10
      have HB : Hid (Below w.heap.size w w10) := B9'.out.trans ((Below.refl _ _).drew.trans (hb10.mono (Nat.le_of_lt lt2)))
      clear ho10 hb10 A10 C10 l10 st10 hs2 hs3 hs4
      go_wp2
      refine bodyPost_ret (results27 Try.results61 _ _ _ _ s10 (.int .i64 0) rfl rfl rfl T2 rfl) rfl ?_
      obtain ⟨y1, y2, y3, y4, y5⟩ := hY'.out hsp
      refine ⟨s10, ?_, ?_, below_setRow HB.out (Nat.le_refl _) _⟩
      · unfold tiP tiD tiU tiI tiX
        simp only [y1, ↓reduceIte, y2, y3, y4, y5, gt]
      · have e : tiR l = l.drop 16 := by unfold tiR; rw [if_pos y1]
        rw [e]
        refine Own.base (Own.of_block HO.out fun k hk => setRow_other _ _ _ _ ?_) (Nat.le_of_lt lt2)
        have := (HO.out.block k hk).1
        omega
  · have hspi : ¬ ((rN 4 N 5 3 : Nat) : Int) = 0 := by omega
    have hst := store27 A5.out (cs := #[.int .i64 0, .bool false, .bool false, .int .i64 0, .int .u8 0, .int .u8 0, .int .u8 0, .int .u8 0, .int .u8 0, .int .u8 0, .int .u8 0, .int .u8 0, .int .u8 0, .int .u8 0, .int .u8 0, .int .u8 0]) rfl rfl (by simp [Value.oneCell'])
    have T2 := setRow_heap _ w.heap.size _ #[.int .i64 0, .bool false, .bool false, .int .i64 0, .int .u8 0, .int .u8 0, .int .u8 0, .int .u8 0, .int .u8 0, .int .u8 0, .int .u8 0, .int .u8 0, .int .u8 0, .int .u8 0, .int .u8 0, .int .u8 0] 27 (0, 0) A5.out
    go_wp2
    refine bodyPost_ret (results27 Try.results61 _ _ _ _ _ _ rfl rfl rfl T2 rfl) rfl ?_
    exact ti_out_err 20 (hE'.out hsp) (by decide) (below_setRow By.out (Nat.le_refl _) _)

theorem four_bytes {l : List Int} (h2 : 16 ≤ l.length) (hb : ∀ x ∈ l, 0 ≤ x ∧ x ≤ 255) :
    ∃ N A B C E : Nat, l.getD 0 0 = (A : Int) ∧ l.getD 1 0 = (B : Int) ∧ l.getD 2 0 = (C : Int) ∧ l.getD 3 0 = (E : Int) ∧ A < 256 ∧ B < 256 ∧ C < 256 ∧ E < 256 ∧ N = ((A * 256 + B) * 256 + C) * 256 + E ∧ (∀ j, j < 4 → byN 4 N j = l.getD j 0) := by
  match l, h2 with
  | x :: y :: z :: u :: r, _ =>
    have hx := hb x (by simp)
    have hy := hb y (by simp)
    have hz := hb z (by simp)
    have hu := hb u (by simp)
    obtain ⟨X, rfl⟩ := Int.eq_ofNat_of_zero_le hx.1
    obtain ⟨Y, rfl⟩ := Int.eq_ofNat_of_zero_le hy.1
    obtain ⟨Z, rfl⟩ := Int.eq_ofNat_of_zero_le hz.1
    obtain ⟨U, rfl⟩ := Int.eq_ofNat_of_zero_le hu.1
    refine ⟨_, X, Y, Z, U, rfl, rfl, rfl, rfl, by omega, by omega, by omega, by omega, rfl, ?_⟩
    intro j hj
    have hj' : j = 0 ∨ j = 1 ∨ j = 2 ∨ j = 3 := by omega
    rcases hj' with rfl | rfl | rfl | rfl
    all_goals (unfold byN; simp; omega)

theorem takei_any (a : Option Addr) (n c : Nat) (l : List Int) (w : World) (h : Src w (.slice a n c) l) (hl : l.length ≤ 2000) (hb : ∀ x ∈ l, 0 ≤ x ∧ x ≤ 255) :
    Calls Try.prog 61 #[.slice a n c] w fun r w' => TiOut w l r w' := by
  by_cases h2 : l.length < 16
  · exact takei_short a n c l w h h2
  · obtain ⟨b, o, rfl, _, hj⟩ := src_some h (by omega)
    obtain ⟨N, A, B, C, E, eA, eB, eC, eE, lA, lB, lC, lE, hN, hby⟩ := four_bytes (by omega) hb
    have e1 : rN 4 N 0 3 = A / 32 := by subst hN; unfold rN; simp; omega
    have e2 : rN 4 N 3 1 = A / 16 % 2 := by subst hN; unfold rN; simp; omega
    have e3 : rN 4 N 4 1 = A / 8 % 2 := by subst hN; unfold rN; simp; omega
    have e4 : rN 4 N 5 3 = A % 8 := by subst hN; unfold rN; simp; omega
    have e5 : rN 4 N 8 24 = B * 65536 + C * 256 + E := by subst hN; unfold rN; simp; omega
    refine takei_long b o n c N l w h (by omega) hl (fun j hj2 => by rw [hj j (by omega), hby j hj2]) ?_ ?_ ?_
    · intro hk
      rw [e4] at hk
      unfold tiE
      rw [if_neg h2, eA, if_neg (by omega)]
    · rw [e1, e5]
      exact itagOk_iff.2 (by omega)
    · intro hk
      rw [e4] at hk
      rw [e1, e2, e3, e5, eA, eB, eC, eE]
      refine ⟨?_, by omega, ?_, ?_, by omega⟩
      · unfold tiE
        rw [if_neg h2, eA, if_pos (by omega)]
      · simp
      · simp
end Go.Proofs.Yteljcgdenagcmaa
