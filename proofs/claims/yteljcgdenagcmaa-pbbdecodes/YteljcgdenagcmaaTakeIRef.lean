/-
  The walk of taking a service's tag by definition, for all bytes.
-/
import Derived.Test.YteljcgdenagcmaaTakeI
import Derived.Test.YteljcgdenagcmaaTakeRef
import Derived.Deep.RegionLaw
namespace Go.Proofs.Yteljcgdenagcmaa
set_option linter.unusedVariables false
set_option maxRecDepth 4000
set_option linter.unusedSimpArgs false
open Go.RowKit

attribute [local go_sem ↓] ldS27_eq stS27_eq slS_eq

set_option maxHeartbeats 400000 in
theorem takeiref_short (a : Option Addr) (n c : Nat) (l : List Int) (w : World) (h : Src w (.slice a n c) l) (hs : l.length < 16) :
    Calls Try.prog 43 #[.slice a n c] w fun r w' => TiOut w l r w' := by
  obtain ⟨hn, hc, hm⟩ := src_short h
  clear h
  have hn2 : n < 16 := by omega
  have hn3 : (n : Int) < 16 := by omega
  have hE : Hid (tiE l = 6) := by unfold tiE; rw [if_pos hs]; rfl
  clear hn hs
  have hst := store27 (alloc_at w (.cells #[.int .i64 0, .bool false, .bool false, .int .i64 0, .int .u8 0, .int .u8 0, .int .u8 0, .int .u8 0, .int .u8 0, .int .u8 0, .int .u8 0, .int .u8 0, .int .u8 0, .int .u8 0, .int .u8 0, .int .u8 0] 27)) (cs := #[.int .i64 0, .bool false, .bool false, .int .i64 0, .int .u8 0, .int .u8 0, .int .u8 0, .int .u8 0, .int .u8 0, .int .u8 0, .int .u8 0, .int .u8 0, .int .u8 0, .int .u8 0, .int .u8 0, .int .u8 0]) rfl rfl (by simp [Value.oneCell'])
  have T2 := setRow_heap (w.alloc (.cells #[.int .i64 0, .bool false, .bool false, .int .i64 0, .int .u8 0, .int .u8 0, .int .u8 0, .int .u8 0, .int .u8 0, .int .u8 0, .int .u8 0, .int .u8 0, .int .u8 0, .int .u8 0, .int .u8 0, .int .u8 0] 27)) w.heap.size _ #[.int .i64 0, .bool false, .bool false, .int .i64 0, .int .u8 0, .int .u8 0, .int .u8 0, .int .u8 0, .int .u8 0, .int .u8 0, .int .u8 0, .int .u8 0, .int .u8 0, .int .u8 0, .int .u8 0, .int .u8 0] 27 (0, 0) (alloc_at w (.cells #[.int .i64 0, .bool false, .bool false, .int .i64 0, .int .u8 0, .int .u8 0, .int .u8 0, .int .u8 0, .int .u8 0, .int .u8 0, .int .u8 0, .int .u8 0, .int .u8 0, .int .u8 0, .int .u8 0, .int .u8 0] 27))
  go_enter Try.func43, Try.ntmps43
  go_wp2
  refine bodyPost_ret (results27 Try.results43 _ _ _ _ _ _ rfl rfl rfl T2 rfl) rfl ?_
  exact ti_out_err 6 hE.out (by decide) (below_setRow (by go_grown) (Nat.le_refl _) _)

set_option maxHeartbeats 400000 in
theorem takeiref_bad (b o n c : Nat) (l : List Int) (w : World) (hn16 : 16 ≤ n) (hn4 : n ≤ 2000) (x0 : Int) (hx0 : 0 ≤ x0 ∧ x0 ≤ 255) (hr0 : w.cell? ⟨b, o, none⟩ = some (.int .u8 x0)) (hx : ¬ x0 % 8 = 0) (hE : tiE l = 20) :
    Calls Try.prog 43 #[.slice (some ⟨b, o, none⟩) n c] w fun r w' => TiOut w l r w' := by
  have hn3 : ¬ (n : Int) < 16 := by omega
  have i0 : (0 : Int) < (n : Int) := by omega
  have hbw : b < w.heap.size := World.block_lt_of_cell? _ _ hr0
  have hE' : Hid (tiE l = 20) := hE
  clear hE
  have hst := store27 (alloc_at w (.cells #[.int .i64 0, .bool false, .bool false, .int .i64 0, .int .u8 0, .int .u8 0, .int .u8 0, .int .u8 0, .int .u8 0, .int .u8 0, .int .u8 0, .int .u8 0, .int .u8 0, .int .u8 0, .int .u8 0, .int .u8 0] 27)) (cs := #[.int .i64 0, .bool false, .bool false, .int .i64 0, .int .u8 0, .int .u8 0, .int .u8 0, .int .u8 0, .int .u8 0, .int .u8 0, .int .u8 0, .int .u8 0, .int .u8 0, .int .u8 0, .int .u8 0, .int .u8 0]) rfl rfl (by simp [Value.oneCell'])
  have T2 := setRow_heap (w.alloc (.cells #[.int .i64 0, .bool false, .bool false, .int .i64 0, .int .u8 0, .int .u8 0, .int .u8 0, .int .u8 0, .int .u8 0, .int .u8 0, .int .u8 0, .int .u8 0, .int .u8 0, .int .u8 0, .int .u8 0, .int .u8 0] 27)) w.heap.size _ #[.int .i64 0, .bool false, .bool false, .int .i64 0, .int .u8 0, .int .u8 0, .int .u8 0, .int .u8 0, .int .u8 0, .int .u8 0, .int .u8 0, .int .u8 0, .int .u8 0, .int .u8 0, .int .u8 0, .int .u8 0] 27 (0, 0) (alloc_at w (.cells #[.int .i64 0, .bool false, .bool false, .int .i64 0, .int .u8 0, .int .u8 0, .int .u8 0, .int .u8 0, .int .u8 0, .int .u8 0, .int .u8 0, .int .u8 0, .int .u8 0, .int .u8 0, .int .u8 0, .int .u8 0] 27))
  go_enter Try.func43, Try.ntmps43
  go_wp2
  refine bodyPost_ret (results27 Try.results43 _ _ _ _ _ _ rfl rfl rfl T2 rfl) rfl ?_
  exact ti_out_err 20 hE'.out (by decide) (below_setRow (by go_grown) (Nat.le_refl _) _)

/-- The cells of the service's tag at the head of l. -/
def TiCells (l : List Int) (cs : Array Value) : Prop := tiE l = 0 ∧ cs = #[.int .i64 (tiP l), .bool (tiD l), .bool (tiU l), .int .i64 (tiI l), .int .u8 (tiX l 4), .int .u8 (tiX l 5), .int .u8 (tiX l 6), .int .u8 (tiX l 7), .int .u8 (tiX l 8), .int .u8 (tiX l 9), .int .u8 (tiX l 10), .int .u8 (tiX l 11), .int .u8 (tiX l 12), .int .u8 (tiX l 13), .int .u8 (tiX l 14), .int .u8 (tiX l 15)]

set_option maxHeartbeats 2000000 in
theorem takeiref_long (b o n c : Nat) (l : List Int) (w : World) (h : Src w (.slice (some ⟨b, o, none⟩) n c) l) (hl16 : 16 ≤ l.length) (hl : l.length ≤ 2000) (x0 x1 x2 x3 : Int) (hx0 : 0 ≤ x0 ∧ x0 ≤ 255) (hx1 : 0 ≤ x1 ∧ x1 ≤ 255) (hx2 : 0 ≤ x2 ∧ x2 ≤ 255) (hx3 : 0 ≤ x3 ∧ x3 ≤ 255)
    (hr0 : w.cell? ⟨b, o, none⟩ = some (.int .u8 x0)) (hr1 : w.cell? ⟨b, o + 1, none⟩ = some (.int .u8 x1)) (hr2 : w.cell? ⟨b, o + 2, none⟩ = some (.int .u8 x2)) (hr3 : w.cell? ⟨b, o + 3, none⟩ = some (.int .u8 x3)) (hx : x0 % 8 = 0)
    (hO : TiCells l #[.int .i64 (x0 / 32), .bool (x0 / 16 % 2 == 1), .bool (x0 / 8 % 2 == 1), .int .i64 (x1 * 65536 + x2 * 256 + x3), .int .u8 (gt l 4), .int .u8 (gt l 5), .int .u8 (gt l 6), .int .u8 (gt l 7), .int .u8 (gt l 8), .int .u8 (gt l 9), .int .u8 (gt l 10), .int .u8 (gt l 11), .int .u8 (gt l 12), .int .u8 (gt l 13), .int .u8 (gt l 14), .int .u8 (gt l 15)]) :
    Calls Try.prog 43 #[.slice (some ⟨b, o, none⟩) n c] w fun r w' => TiOut w l r w' := by
  obtain ⟨hn, hc, hm⟩ := src_short h
  have hn16 : 16 ≤ n := by omega
  have hn4 : n ≤ 2000 := by omega
  have hn3 : ¬ (n : Int) < 16 := by omega
  have i0 : (0 : Int) < (n : Int) := by omega
  have i1 : (1 : Int) < (n : Int) := by omega
  have i2 : (2 : Int) < (n : Int) := by omega
  have i3 : (3 : Int) < (n : Int) := by omega
  have hbw : b < w.heap.size := World.block_lt_of_cell? _ _ hr0
  have n1 : b ≠ w.heap.size + 1 := by omega
  have hH : Hid (Src w (.slice (some ⟨b, o, none⟩) n c) l) := h
  have hO' : Hid (TiCells l #[.int .i64 (x0 / 32), .bool (x0 / 16 % 2 == 1), .bool (x0 / 8 % 2 == 1), .int .i64 (x1 * 65536 + x2 * 256 + x3), .int .u8 (gt l 4), .int .u8 (gt l 5), .int .u8 (gt l 6), .int .u8 (gt l 7), .int .u8 (gt l 8), .int .u8 (gt l 9), .int .u8 (gt l 10), .int .u8 (gt l 11), .int .u8 (gt l 12), .int .u8 (gt l 13), .int .u8 (gt l 14), .int .u8 (gt l 15)]) := hO
  have hL : Hid (16 ≤ l.length ∧ l.length ≤ 2000) := ⟨hl16, hl⟩
  clear h hn hO hl16 hl
  have a5 : ((w.alloc (.cells #[.int .i64 0, .bool false, .bool false, .int .i64 0, .int .u8 0, .int .u8 0, .int .u8 0, .int .u8 0, .int .u8 0, .int .u8 0, .int .u8 0, .int .u8 0, .int .u8 0, .int .u8 0, .int .u8 0, .int .u8 0] 27)).alloc (.cells #[.int .i64 0, .bool false, .bool false, .int .i64 0, .int .u8 0, .int .u8 0, .int .u8 0, .int .u8 0, .int .u8 0, .int .u8 0, .int .u8 0, .int .u8 0, .int .u8 0, .int .u8 0, .int .u8 0, .int .u8 0] 27)).heap[w.heap.size + 1]? = some (.cells #[.int .i64 0, .bool false, .bool false, .int .i64 0, .int .u8 0, .int .u8 0, .int .u8 0, .int .u8 0, .int .u8 0, .int .u8 0, .int .u8 0, .int .u8 0, .int .u8 0, .int .u8 0, .int .u8 0, .int .u8 0] 27 (0, 0)) := by
    have := alloc_at (w.alloc (.cells #[.int .i64 0, .bool false, .bool false, .int .i64 0, .int .u8 0, .int .u8 0, .int .u8 0, .int .u8 0, .int .u8 0, .int .u8 0, .int .u8 0, .int .u8 0, .int .u8 0, .int .u8 0, .int .u8 0, .int .u8 0] 27)) (.cells #[.int .i64 0, .bool false, .bool false, .int .i64 0, .int .u8 0, .int .u8 0, .int .u8 0, .int .u8 0, .int .u8 0, .int .u8 0, .int .u8 0, .int .u8 0, .int .u8 0, .int .u8 0, .int .u8 0, .int .u8 0] 27)
    simpa using this
  have hst : ∀ (p : Int) (d u : Bool) (i : Int), (stS27 (.pointer (some ⟨w.heap.size + 1, 0, none⟩)) (.agg #[.int .i64 p, .bool d, .bool u, .int .i64 i, .int .u8 0, .int .u8 0, .int .u8 0, .int .u8 0, .int .u8 0, .int .u8 0, .int .u8 0, .int .u8 0, .int .u8 0, .int .u8 0, .int .u8 0, .int .u8 0])).run Try.prog ((w.alloc (.cells #[.int .i64 0, .bool false, .bool false, .int .i64 0, .int .u8 0, .int .u8 0, .int .u8 0, .int .u8 0, .int .u8 0, .int .u8 0, .int .u8 0, .int .u8 0, .int .u8 0, .int .u8 0, .int .u8 0, .int .u8 0] 27)).alloc (.cells #[.int .i64 0, .bool false, .bool false, .int .i64 0, .int .u8 0, .int .u8 0, .int .u8 0, .int .u8 0, .int .u8 0, .int .u8 0, .int .u8 0, .int .u8 0, .int .u8 0, .int .u8 0, .int .u8 0, .int .u8 0] 27)).drew = .ok () (((w.alloc (.cells #[.int .i64 0, .bool false, .bool false, .int .i64 0, .int .u8 0, .int .u8 0, .int .u8 0, .int .u8 0, .int .u8 0, .int .u8 0, .int .u8 0, .int .u8 0, .int .u8 0, .int .u8 0, .int .u8 0, .int .u8 0] 27)).alloc (.cells #[.int .i64 0, .bool false, .bool false, .int .i64 0, .int .u8 0, .int .u8 0, .int .u8 0, .int .u8 0, .int .u8 0, .int .u8 0, .int .u8 0, .int .u8 0, .int .u8 0, .int .u8 0, .int .u8 0, .int .u8 0] 27)).drew.setRow (w.heap.size + 1) #[.int .i64 p, .bool d, .bool u, .int .i64 i, .int .u8 0, .int .u8 0, .int .u8 0, .int .u8 0, .int .u8 0, .int .u8 0, .int .u8 0, .int .u8 0, .int .u8 0, .int .u8 0, .int .u8 0, .int .u8 0]) :=
    fun p d u i => store27 (w := ((w.alloc (.cells #[.int .i64 0, .bool false, .bool false, .int .i64 0, .int .u8 0, .int .u8 0, .int .u8 0, .int .u8 0, .int .u8 0, .int .u8 0, .int .u8 0, .int .u8 0, .int .u8 0, .int .u8 0, .int .u8 0, .int .u8 0] 27)).alloc (.cells #[.int .i64 0, .bool false, .bool false, .int .i64 0, .int .u8 0, .int .u8 0, .int .u8 0, .int .u8 0, .int .u8 0, .int .u8 0, .int .u8 0, .int .u8 0, .int .u8 0, .int .u8 0, .int .u8 0, .int .u8 0] 27)).drew) a5 rfl rfl (by simp [Value.oneCell'])
  have hkk : ∀ (cs : Array Value) (k : Nat), (((w.alloc (.cells #[.int .i64 0, .bool false, .bool false, .int .i64 0, .int .u8 0, .int .u8 0, .int .u8 0, .int .u8 0, .int .u8 0, .int .u8 0, .int .u8 0, .int .u8 0, .int .u8 0, .int .u8 0, .int .u8 0, .int .u8 0] 27)).alloc (.cells #[.int .i64 0, .bool false, .bool false, .int .i64 0, .int .u8 0, .int .u8 0, .int .u8 0, .int .u8 0, .int .u8 0, .int .u8 0, .int .u8 0, .int .u8 0, .int .u8 0, .int .u8 0, .int .u8 0, .int .u8 0] 27)).drew.setRow (w.heap.size + 1) cs).cell? ⟨b, k, none⟩ = w.cell? ⟨b, k, none⟩ := fun cs k => (cell_setRow_other _ _ _ _ n1).trans (by
    show ((w.alloc (.cells #[.int .i64 0, .bool false, .bool false, .int .i64 0, .int .u8 0, .int .u8 0, .int .u8 0, .int .u8 0, .int .u8 0, .int .u8 0, .int .u8 0, .int .u8 0, .int .u8 0, .int .u8 0, .int .u8 0, .int .u8 0] 27)).alloc (.cells #[.int .i64 0, .bool false, .bool false, .int .i64 0, .int .u8 0, .int .u8 0, .int .u8 0, .int .u8 0, .int .u8 0, .int .u8 0, .int .u8 0, .int .u8 0, .int .u8 0, .int .u8 0, .int .u8 0, .int .u8 0] 27)).cell? ⟨b, k, none⟩ = _
    rw [World.cell?_alloc_lt _ _ _ (by simp; omega), World.cell?_alloc_lt _ _ _ (by simp; omega)])
  have j0 : 0 < n := by omega
  have j1 : 1 < n := by omega
  have j2 : 2 < n := by omega
  have j3 : 3 < n := by omega
  have hnn : ¬ n = 0 := by omega
  go_enter Try.func43, Try.ntmps43
  go_wp2
  go_region_held3 (fun w' => w'.cell? ⟨b, o, none⟩ = some (.int .u8 x0) ∧ w'.cell? ⟨b, o + 1, none⟩ = some (.int .u8 x1) ∧ w'.cell? ⟨b, o + 2, none⟩ = some (.int .u8 x2) ∧ w'.cell? ⟨b, o + 3, none⟩ = some (.int .u8 x3)) (go_keep) (fail)
  rename_i hS
  clear hS hst hkk
  have q0 : IntKind.i64.wrap (IntKind.u8.wrap (x0.tdiv 32)) = x0 / 32 := by
    rw [Int.tdiv_eq_ediv_of_nonneg hx0.1, IntKind.wrap_u8', IntWalk.i64_in _ (by omega)]; omega
  have q1 : (IntKind.u8.wrap (x0.tdiv 16)).tmod 2 = x0 / 16 % 2 := by
    rw [Int.tdiv_eq_ediv_of_nonneg hx0.1, IntKind.wrap_u8', Int.tmod_eq_emod_of_nonneg (by omega)]; omega
  have q2 : (IntKind.u8.wrap (x0.tdiv 8)).tmod 2 = x0 / 8 % 2 := by
    rw [Int.tdiv_eq_ediv_of_nonneg hx0.1, IntKind.wrap_u8', Int.tmod_eq_emod_of_nonneg (by omega)]; omega
  have q3 : IntKind.i64.wrap (IntKind.i64.wrap (IntKind.i64.wrap (IntKind.i64.wrap x1 * 65536) + IntKind.i64.wrap (IntKind.i64.wrap x2 * 256)) + IntKind.i64.wrap x3) = x1 * 65536 + x2 * 256 + x3 := by
    rw [IntWalk.i64_in x1 (by omega), IntWalk.i64_in x2 (by omega), IntWalk.i64_in x3 (by omega), IntWalk.i64_in (x1 * 65536) (by omega), IntWalk.i64_in (x2 * 256) (by omega), IntWalk.i64_in (x1 * 65536 + x2 * 256) (by omega), IntWalk.i64_in _ (by omega)]
  simp only [q0, q1, q2, q3]
  clear q0 q1 q2 q3
  obtain ⟨W5, hW5⟩ : ∃ W5, ((w.alloc (.cells #[.int .i64 0, .bool false, .bool false, .int .i64 0, .int .u8 0, .int .u8 0, .int .u8 0, .int .u8 0, .int .u8 0, .int .u8 0, .int .u8 0, .int .u8 0, .int .u8 0, .int .u8 0, .int .u8 0, .int .u8 0] 27)).alloc (.cells #[.int .i64 0, .bool false, .bool false, .int .i64 0, .int .u8 0, .int .u8 0, .int .u8 0, .int .u8 0, .int .u8 0, .int .u8 0, .int .u8 0, .int .u8 0, .int .u8 0, .int .u8 0, .int .u8 0, .int .u8 0] 27)).drew.setRow (w.heap.size + 1) #[.int .i64 (x0 / 32), .bool (x0 / 16 % 2 == 1), .bool (x0 / 8 % 2 == 1), .int .i64 (x1 * 65536 + x2 * 256 + x3), .int .u8 0, .int .u8 0, .int .u8 0, .int .u8 0, .int .u8 0, .int .u8 0, .int .u8 0, .int .u8 0, .int .u8 0, .int .u8 0, .int .u8 0, .int .u8 0] = W5 := ⟨_, rfl⟩
  have C5 := setRow_heap ((w.alloc (.cells #[.int .i64 0, .bool false, .bool false, .int .i64 0, .int .u8 0, .int .u8 0, .int .u8 0, .int .u8 0, .int .u8 0, .int .u8 0, .int .u8 0, .int .u8 0, .int .u8 0, .int .u8 0, .int .u8 0, .int .u8 0] 27)).alloc (.cells #[.int .i64 0, .bool false, .bool false, .int .i64 0, .int .u8 0, .int .u8 0, .int .u8 0, .int .u8 0, .int .u8 0, .int .u8 0, .int .u8 0, .int .u8 0, .int .u8 0, .int .u8 0, .int .u8 0, .int .u8 0] 27)).drew (w.heap.size + 1) _ #[.int .i64 (x0 / 32), .bool (x0 / 16 % 2 == 1), .bool (x0 / 8 % 2 == 1), .int .i64 (x1 * 65536 + x2 * 256 + x3), .int .u8 0, .int .u8 0, .int .u8 0, .int .u8 0, .int .u8 0, .int .u8 0, .int .u8 0, .int .u8 0, .int .u8 0, .int .u8 0, .int .u8 0, .int .u8 0] 27 (0, 0) a5
  have A5 : (((w.alloc (.cells #[.int .i64 0, .bool false, .bool false, .int .i64 0, .int .u8 0, .int .u8 0, .int .u8 0, .int .u8 0, .int .u8 0, .int .u8 0, .int .u8 0, .int .u8 0, .int .u8 0, .int .u8 0, .int .u8 0, .int .u8 0] 27)).alloc (.cells #[.int .i64 0, .bool false, .bool false, .int .i64 0, .int .u8 0, .int .u8 0, .int .u8 0, .int .u8 0, .int .u8 0, .int .u8 0, .int .u8 0, .int .u8 0, .int .u8 0, .int .u8 0, .int .u8 0, .int .u8 0] 27)).drew.setRow (w.heap.size + 1) #[.int .i64 (x0 / 32), .bool (x0 / 16 % 2 == 1), .bool (x0 / 8 % 2 == 1), .int .i64 (x1 * 65536 + x2 * 256 + x3), .int .u8 0, .int .u8 0, .int .u8 0, .int .u8 0, .int .u8 0, .int .u8 0, .int .u8 0, .int .u8 0, .int .u8 0, .int .u8 0, .int .u8 0, .int .u8 0]).heap[w.heap.size]? = some (.cells #[.int .i64 0, .bool false, .bool false, .int .i64 0, .int .u8 0, .int .u8 0, .int .u8 0, .int .u8 0, .int .u8 0, .int .u8 0, .int .u8 0, .int .u8 0, .int .u8 0, .int .u8 0, .int .u8 0, .int .u8 0] 27 (0, 0)) := (setRow_other _ _ _ _ (by simp)).trans (by
    show ((w.alloc (.cells #[.int .i64 0, .bool false, .bool false, .int .i64 0, .int .u8 0, .int .u8 0, .int .u8 0, .int .u8 0, .int .u8 0, .int .u8 0, .int .u8 0, .int .u8 0, .int .u8 0, .int .u8 0, .int .u8 0, .int .u8 0] 27)).alloc (.cells #[.int .i64 0, .bool false, .bool false, .int .i64 0, .int .u8 0, .int .u8 0, .int .u8 0, .int .u8 0, .int .u8 0, .int .u8 0, .int .u8 0, .int .u8 0, .int .u8 0, .int .u8 0, .int .u8 0, .int .u8 0] 27)).heap[w.heap.size]? = _
    rw [Below.heap_alloc _ _ _ (by simp)]
    exact alloc_at w _)
  have B5 : Below w.heap.size w (((w.alloc (.cells #[.int .i64 0, .bool false, .bool false, .int .i64 0, .int .u8 0, .int .u8 0, .int .u8 0, .int .u8 0, .int .u8 0, .int .u8 0, .int .u8 0, .int .u8 0, .int .u8 0, .int .u8 0, .int .u8 0, .int .u8 0] 27)).alloc (.cells #[.int .i64 0, .bool false, .bool false, .int .i64 0, .int .u8 0, .int .u8 0, .int .u8 0, .int .u8 0, .int .u8 0, .int .u8 0, .int .u8 0, .int .u8 0, .int .u8 0, .int .u8 0, .int .u8 0, .int .u8 0] 27)).drew.setRow (w.heap.size + 1) #[.int .i64 (x0 / 32), .bool (x0 / 16 % 2 == 1), .bool (x0 / 8 % 2 == 1), .int .i64 (x1 * 65536 + x2 * 256 + x3), .int .u8 0, .int .u8 0, .int .u8 0, .int .u8 0, .int .u8 0, .int .u8 0, .int .u8 0, .int .u8 0, .int .u8 0, .int .u8 0, .int .u8 0, .int .u8 0]) := below_setRow (((Below.refl _ _).alloc (Nat.le_refl _) _).alloc (by simp) _).drew (by omega) _
  rw [hW5] at C5 A5 B5 ⊢
  obtain ⟨b', o', eb, _, hsr⟩ := src_some (hH.out.below B5) (by have := hL.out; omega)
  cases eb
  have sc4 : W5.cell? ⟨b, o + 4, none⟩ = some (.int .u8 (gt l 4)) := hsr 4 (by have := hL.out; omega)
  have sc5 : W5.cell? ⟨b, o + 5, none⟩ = some (.int .u8 (gt l 5)) := hsr 5 (by have := hL.out; omega)
  have sc6 : W5.cell? ⟨b, o + 6, none⟩ = some (.int .u8 (gt l 6)) := hsr 6 (by have := hL.out; omega)
  have sc7 : W5.cell? ⟨b, o + 7, none⟩ = some (.int .u8 (gt l 7)) := hsr 7 (by have := hL.out; omega)
  have sc8 : W5.cell? ⟨b, o + 8, none⟩ = some (.int .u8 (gt l 8)) := hsr 8 (by have := hL.out; omega)
  have sc9 : W5.cell? ⟨b, o + 9, none⟩ = some (.int .u8 (gt l 9)) := hsr 9 (by have := hL.out; omega)
  have sc10 : W5.cell? ⟨b, o + 10, none⟩ = some (.int .u8 (gt l 10)) := hsr 10 (by have := hL.out; omega)
  have sc11 : W5.cell? ⟨b, o + 11, none⟩ = some (.int .u8 (gt l 11)) := hsr 11 (by have := hL.out; omega)
  have sc12 : W5.cell? ⟨b, o + 12, none⟩ = some (.int .u8 (gt l 12)) := hsr 12 (by have := hL.out; omega)
  have sc13 : W5.cell? ⟨b, o + 13, none⟩ = some (.int .u8 (gt l 13)) := hsr 13 (by have := hL.out; omega)
  have sc14 : W5.cell? ⟨b, o + 14, none⟩ = some (.int .u8 (gt l 14)) := hsr 14 (by have := hL.out; omega)
  have sc15 : W5.cell? ⟨b, o + 15, none⟩ = some (.int .u8 (gt l 15)) := hsr 15 (by have := hL.out; omega)
  have tc4 := cell_at C5 4 (.int .u8 0) rfl
  have tc5 := cell_at C5 5 (.int .u8 0) rfl
  have tc6 := cell_at C5 6 (.int .u8 0) rfl
  have tc7 := cell_at C5 7 (.int .u8 0) rfl
  have tc8 := cell_at C5 8 (.int .u8 0) rfl
  have tc9 := cell_at C5 9 (.int .u8 0) rfl
  have tc10 := cell_at C5 10 (.int .u8 0) rfl
  have tc11 := cell_at C5 11 (.int .u8 0) rfl
  have tc12 := cell_at C5 12 (.int .u8 0) rfl
  have tc13 := cell_at C5 13 (.int .u8 0) rfl
  have tc14 := cell_at C5 14 (.int .u8 0) rfl
  have tc15 := cell_at C5 15 (.int .u8 0) rfl
  have f5 := frozen3 C5
  have C5' : Hid (W5.heap[w.heap.size + 1]? = some (.cells #[.int .i64 (x0 / 32), .bool (x0 / 16 % 2 == 1), .bool (x0 / 8 % 2 == 1), .int .i64 (x1 * 65536 + x2 * 256 + x3), .int .u8 0, .int .u8 0, .int .u8 0, .int .u8 0, .int .u8 0, .int .u8 0, .int .u8 0, .int .u8 0, .int .u8 0, .int .u8 0, .int .u8 0, .int .u8 0] 27 (0, 0))) := C5
  have A5' : Hid (W5.heap[w.heap.size]? = some (.cells #[.int .i64 0, .bool false, .bool false, .int .i64 0, .int .u8 0, .int .u8 0, .int .u8 0, .int .u8 0, .int .u8 0, .int .u8 0, .int .u8 0, .int .u8 0, .int .u8 0, .int .u8 0, .int .u8 0, .int .u8 0] 27 (0, 0))) := A5
  have B5' : Hid (Below w.heap.size w W5) := B5
  have ix4 : (4 : Int) < (n : Int) := by omega
  have ix5 : (5 : Int) < (n : Int) := by omega
  have ix6 : (6 : Int) < (n : Int) := by omega
  have ix7 : (7 : Int) < (n : Int) := by omega
  have ix8 : (8 : Int) < (n : Int) := by omega
  have ix9 : (9 : Int) < (n : Int) := by omega
  have ix10 : (10 : Int) < (n : Int) := by omega
  have ix11 : (11 : Int) < (n : Int) := by omega
  have ix12 : (12 : Int) < (n : Int) := by omega
  have ix13 : (13 : Int) < (n : Int) := by omega
  have ix14 : (14 : Int) < (n : Int) := by omega
  have ix15 : (15 : Int) < (n : Int) := by omega
  clear C5 A5 B5 hsr hW5 a5 hr0 hr1 hr2 hr3 i0 i1 i2 i3 j0 j1 j2 j3
  go_wp2
  go_rounds 7
  obtain ⟨W6, hW6⟩ : ∃ W6, ((((((((((((W5.setCell ⟨w.heap.size + 1, 4, none⟩ (.int .u8 (gt l 4))).setCell ⟨w.heap.size + 1, 10, none⟩ (.int .u8 (gt l 10))).setCell ⟨w.heap.size + 1, 5, none⟩ (.int .u8 (gt l 5))).setCell ⟨w.heap.size + 1, 11, none⟩ (.int .u8 (gt l 11))).setCell ⟨w.heap.size + 1, 6, none⟩ (.int .u8 (gt l 6))).setCell ⟨w.heap.size + 1, 12, none⟩ (.int .u8 (gt l 12))).setCell ⟨w.heap.size + 1, 7, none⟩ (.int .u8 (gt l 7))).setCell ⟨w.heap.size + 1, 13, none⟩ (.int .u8 (gt l 13))).setCell ⟨w.heap.size + 1, 8, none⟩ (.int .u8 (gt l 8))).setCell ⟨w.heap.size + 1, 14, none⟩ (.int .u8 (gt l 14))).setCell ⟨w.heap.size + 1, 9, none⟩ (.int .u8 (gt l 9))).setCell ⟨w.heap.size + 1, 15, none⟩ (.int .u8 (gt l 15))) = W6 := ⟨_, rfl⟩
  have D0 := C5'.out
  have D1 : (W5.setCell ⟨w.heap.size + 1, 4, none⟩ (.int .u8 (gt l 4))).heap[w.heap.size + 1]? = some (.cells #[.int .i64 (x0 / 32), .bool (x0 / 16 % 2 == 1), .bool (x0 / 8 % 2 == 1), .int .i64 (x1 * 65536 + x2 * 256 + x3), .int .u8 (gt l 4), .int .u8 0, .int .u8 0, .int .u8 0, .int .u8 0, .int .u8 0, .int .u8 0, .int .u8 0, .int .u8 0, .int .u8 0, .int .u8 0, .int .u8 0] 27 (0, 0)) := (heap_setCell_same _ _ _ _ _ _ D0).trans rfl
  clear D0
  have D2 : ((W5.setCell ⟨w.heap.size + 1, 4, none⟩ (.int .u8 (gt l 4))).setCell ⟨w.heap.size + 1, 10, none⟩ (.int .u8 (gt l 10))).heap[w.heap.size + 1]? = some (.cells #[.int .i64 (x0 / 32), .bool (x0 / 16 % 2 == 1), .bool (x0 / 8 % 2 == 1), .int .i64 (x1 * 65536 + x2 * 256 + x3), .int .u8 (gt l 4), .int .u8 0, .int .u8 0, .int .u8 0, .int .u8 0, .int .u8 0, .int .u8 (gt l 10), .int .u8 0, .int .u8 0, .int .u8 0, .int .u8 0, .int .u8 0] 27 (0, 0)) := (heap_setCell_same _ _ _ _ _ _ D1).trans rfl
  clear D1
  have D3 : (((W5.setCell ⟨w.heap.size + 1, 4, none⟩ (.int .u8 (gt l 4))).setCell ⟨w.heap.size + 1, 10, none⟩ (.int .u8 (gt l 10))).setCell ⟨w.heap.size + 1, 5, none⟩ (.int .u8 (gt l 5))).heap[w.heap.size + 1]? = some (.cells #[.int .i64 (x0 / 32), .bool (x0 / 16 % 2 == 1), .bool (x0 / 8 % 2 == 1), .int .i64 (x1 * 65536 + x2 * 256 + x3), .int .u8 (gt l 4), .int .u8 (gt l 5), .int .u8 0, .int .u8 0, .int .u8 0, .int .u8 0, .int .u8 (gt l 10), .int .u8 0, .int .u8 0, .int .u8 0, .int .u8 0, .int .u8 0] 27 (0, 0)) := (heap_setCell_same _ _ _ _ _ _ D2).trans rfl
  clear D2
  have D4 : ((((W5.setCell ⟨w.heap.size + 1, 4, none⟩ (.int .u8 (gt l 4))).setCell ⟨w.heap.size + 1, 10, none⟩ (.int .u8 (gt l 10))).setCell ⟨w.heap.size + 1, 5, none⟩ (.int .u8 (gt l 5))).setCell ⟨w.heap.size + 1, 11, none⟩ (.int .u8 (gt l 11))).heap[w.heap.size + 1]? = some (.cells #[.int .i64 (x0 / 32), .bool (x0 / 16 % 2 == 1), .bool (x0 / 8 % 2 == 1), .int .i64 (x1 * 65536 + x2 * 256 + x3), .int .u8 (gt l 4), .int .u8 (gt l 5), .int .u8 0, .int .u8 0, .int .u8 0, .int .u8 0, .int .u8 (gt l 10), .int .u8 (gt l 11), .int .u8 0, .int .u8 0, .int .u8 0, .int .u8 0] 27 (0, 0)) := (heap_setCell_same _ _ _ _ _ _ D3).trans rfl
  clear D3
  have D5 : (((((W5.setCell ⟨w.heap.size + 1, 4, none⟩ (.int .u8 (gt l 4))).setCell ⟨w.heap.size + 1, 10, none⟩ (.int .u8 (gt l 10))).setCell ⟨w.heap.size + 1, 5, none⟩ (.int .u8 (gt l 5))).setCell ⟨w.heap.size + 1, 11, none⟩ (.int .u8 (gt l 11))).setCell ⟨w.heap.size + 1, 6, none⟩ (.int .u8 (gt l 6))).heap[w.heap.size + 1]? = some (.cells #[.int .i64 (x0 / 32), .bool (x0 / 16 % 2 == 1), .bool (x0 / 8 % 2 == 1), .int .i64 (x1 * 65536 + x2 * 256 + x3), .int .u8 (gt l 4), .int .u8 (gt l 5), .int .u8 (gt l 6), .int .u8 0, .int .u8 0, .int .u8 0, .int .u8 (gt l 10), .int .u8 (gt l 11), .int .u8 0, .int .u8 0, .int .u8 0, .int .u8 0] 27 (0, 0)) := (heap_setCell_same _ _ _ _ _ _ D4).trans rfl
  clear D4
  have D6 : ((((((W5.setCell ⟨w.heap.size + 1, 4, none⟩ (.int .u8 (gt l 4))).setCell ⟨w.heap.size + 1, 10, none⟩ (.int .u8 (gt l 10))).setCell ⟨w.heap.size + 1, 5, none⟩ (.int .u8 (gt l 5))).setCell ⟨w.heap.size + 1, 11, none⟩ (.int .u8 (gt l 11))).setCell ⟨w.heap.size + 1, 6, none⟩ (.int .u8 (gt l 6))).setCell ⟨w.heap.size + 1, 12, none⟩ (.int .u8 (gt l 12))).heap[w.heap.size + 1]? = some (.cells #[.int .i64 (x0 / 32), .bool (x0 / 16 % 2 == 1), .bool (x0 / 8 % 2 == 1), .int .i64 (x1 * 65536 + x2 * 256 + x3), .int .u8 (gt l 4), .int .u8 (gt l 5), .int .u8 (gt l 6), .int .u8 0, .int .u8 0, .int .u8 0, .int .u8 (gt l 10), .int .u8 (gt l 11), .int .u8 (gt l 12), .int .u8 0, .int .u8 0, .int .u8 0] 27 (0, 0)) := (heap_setCell_same _ _ _ _ _ _ D5).trans rfl
  clear D5
  have D7 : (((((((W5.setCell ⟨w.heap.size + 1, 4, none⟩ (.int .u8 (gt l 4))).setCell ⟨w.heap.size + 1, 10, none⟩ (.int .u8 (gt l 10))).setCell ⟨w.heap.size + 1, 5, none⟩ (.int .u8 (gt l 5))).setCell ⟨w.heap.size + 1, 11, none⟩ (.int .u8 (gt l 11))).setCell ⟨w.heap.size + 1, 6, none⟩ (.int .u8 (gt l 6))).setCell ⟨w.heap.size + 1, 12, none⟩ (.int .u8 (gt l 12))).setCell ⟨w.heap.size + 1, 7, none⟩ (.int .u8 (gt l 7))).heap[w.heap.size + 1]? = some (.cells #[.int .i64 (x0 / 32), .bool (x0 / 16 % 2 == 1), .bool (x0 / 8 % 2 == 1), .int .i64 (x1 * 65536 + x2 * 256 + x3), .int .u8 (gt l 4), .int .u8 (gt l 5), .int .u8 (gt l 6), .int .u8 (gt l 7), .int .u8 0, .int .u8 0, .int .u8 (gt l 10), .int .u8 (gt l 11), .int .u8 (gt l 12), .int .u8 0, .int .u8 0, .int .u8 0] 27 (0, 0)) := (heap_setCell_same _ _ _ _ _ _ D6).trans rfl
  clear D6
  have D8 : ((((((((W5.setCell ⟨w.heap.size + 1, 4, none⟩ (.int .u8 (gt l 4))).setCell ⟨w.heap.size + 1, 10, none⟩ (.int .u8 (gt l 10))).setCell ⟨w.heap.size + 1, 5, none⟩ (.int .u8 (gt l 5))).setCell ⟨w.heap.size + 1, 11, none⟩ (.int .u8 (gt l 11))).setCell ⟨w.heap.size + 1, 6, none⟩ (.int .u8 (gt l 6))).setCell ⟨w.heap.size + 1, 12, none⟩ (.int .u8 (gt l 12))).setCell ⟨w.heap.size + 1, 7, none⟩ (.int .u8 (gt l 7))).setCell ⟨w.heap.size + 1, 13, none⟩ (.int .u8 (gt l 13))).heap[w.heap.size + 1]? = some (.cells #[.int .i64 (x0 / 32), .bool (x0 / 16 % 2 == 1), .bool (x0 / 8 % 2 == 1), .int .i64 (x1 * 65536 + x2 * 256 + x3), .int .u8 (gt l 4), .int .u8 (gt l 5), .int .u8 (gt l 6), .int .u8 (gt l 7), .int .u8 0, .int .u8 0, .int .u8 (gt l 10), .int .u8 (gt l 11), .int .u8 (gt l 12), .int .u8 (gt l 13), .int .u8 0, .int .u8 0] 27 (0, 0)) := (heap_setCell_same _ _ _ _ _ _ D7).trans rfl
  clear D7
  have D9 : (((((((((W5.setCell ⟨w.heap.size + 1, 4, none⟩ (.int .u8 (gt l 4))).setCell ⟨w.heap.size + 1, 10, none⟩ (.int .u8 (gt l 10))).setCell ⟨w.heap.size + 1, 5, none⟩ (.int .u8 (gt l 5))).setCell ⟨w.heap.size + 1, 11, none⟩ (.int .u8 (gt l 11))).setCell ⟨w.heap.size + 1, 6, none⟩ (.int .u8 (gt l 6))).setCell ⟨w.heap.size + 1, 12, none⟩ (.int .u8 (gt l 12))).setCell ⟨w.heap.size + 1, 7, none⟩ (.int .u8 (gt l 7))).setCell ⟨w.heap.size + 1, 13, none⟩ (.int .u8 (gt l 13))).setCell ⟨w.heap.size + 1, 8, none⟩ (.int .u8 (gt l 8))).heap[w.heap.size + 1]? = some (.cells #[.int .i64 (x0 / 32), .bool (x0 / 16 % 2 == 1), .bool (x0 / 8 % 2 == 1), .int .i64 (x1 * 65536 + x2 * 256 + x3), .int .u8 (gt l 4), .int .u8 (gt l 5), .int .u8 (gt l 6), .int .u8 (gt l 7), .int .u8 (gt l 8), .int .u8 0, .int .u8 (gt l 10), .int .u8 (gt l 11), .int .u8 (gt l 12), .int .u8 (gt l 13), .int .u8 0, .int .u8 0] 27 (0, 0)) := (heap_setCell_same _ _ _ _ _ _ D8).trans rfl
  clear D8
  have D10 : ((((((((((W5.setCell ⟨w.heap.size + 1, 4, none⟩ (.int .u8 (gt l 4))).setCell ⟨w.heap.size + 1, 10, none⟩ (.int .u8 (gt l 10))).setCell ⟨w.heap.size + 1, 5, none⟩ (.int .u8 (gt l 5))).setCell ⟨w.heap.size + 1, 11, none⟩ (.int .u8 (gt l 11))).setCell ⟨w.heap.size + 1, 6, none⟩ (.int .u8 (gt l 6))).setCell ⟨w.heap.size + 1, 12, none⟩ (.int .u8 (gt l 12))).setCell ⟨w.heap.size + 1, 7, none⟩ (.int .u8 (gt l 7))).setCell ⟨w.heap.size + 1, 13, none⟩ (.int .u8 (gt l 13))).setCell ⟨w.heap.size + 1, 8, none⟩ (.int .u8 (gt l 8))).setCell ⟨w.heap.size + 1, 14, none⟩ (.int .u8 (gt l 14))).heap[w.heap.size + 1]? = some (.cells #[.int .i64 (x0 / 32), .bool (x0 / 16 % 2 == 1), .bool (x0 / 8 % 2 == 1), .int .i64 (x1 * 65536 + x2 * 256 + x3), .int .u8 (gt l 4), .int .u8 (gt l 5), .int .u8 (gt l 6), .int .u8 (gt l 7), .int .u8 (gt l 8), .int .u8 0, .int .u8 (gt l 10), .int .u8 (gt l 11), .int .u8 (gt l 12), .int .u8 (gt l 13), .int .u8 (gt l 14), .int .u8 0] 27 (0, 0)) := (heap_setCell_same _ _ _ _ _ _ D9).trans rfl
  clear D9
  have D11 : (((((((((((W5.setCell ⟨w.heap.size + 1, 4, none⟩ (.int .u8 (gt l 4))).setCell ⟨w.heap.size + 1, 10, none⟩ (.int .u8 (gt l 10))).setCell ⟨w.heap.size + 1, 5, none⟩ (.int .u8 (gt l 5))).setCell ⟨w.heap.size + 1, 11, none⟩ (.int .u8 (gt l 11))).setCell ⟨w.heap.size + 1, 6, none⟩ (.int .u8 (gt l 6))).setCell ⟨w.heap.size + 1, 12, none⟩ (.int .u8 (gt l 12))).setCell ⟨w.heap.size + 1, 7, none⟩ (.int .u8 (gt l 7))).setCell ⟨w.heap.size + 1, 13, none⟩ (.int .u8 (gt l 13))).setCell ⟨w.heap.size + 1, 8, none⟩ (.int .u8 (gt l 8))).setCell ⟨w.heap.size + 1, 14, none⟩ (.int .u8 (gt l 14))).setCell ⟨w.heap.size + 1, 9, none⟩ (.int .u8 (gt l 9))).heap[w.heap.size + 1]? = some (.cells #[.int .i64 (x0 / 32), .bool (x0 / 16 % 2 == 1), .bool (x0 / 8 % 2 == 1), .int .i64 (x1 * 65536 + x2 * 256 + x3), .int .u8 (gt l 4), .int .u8 (gt l 5), .int .u8 (gt l 6), .int .u8 (gt l 7), .int .u8 (gt l 8), .int .u8 (gt l 9), .int .u8 (gt l 10), .int .u8 (gt l 11), .int .u8 (gt l 12), .int .u8 (gt l 13), .int .u8 (gt l 14), .int .u8 0] 27 (0, 0)) := (heap_setCell_same _ _ _ _ _ _ D10).trans rfl
  clear D10
  have D12 : ((((((((((((W5.setCell ⟨w.heap.size + 1, 4, none⟩ (.int .u8 (gt l 4))).setCell ⟨w.heap.size + 1, 10, none⟩ (.int .u8 (gt l 10))).setCell ⟨w.heap.size + 1, 5, none⟩ (.int .u8 (gt l 5))).setCell ⟨w.heap.size + 1, 11, none⟩ (.int .u8 (gt l 11))).setCell ⟨w.heap.size + 1, 6, none⟩ (.int .u8 (gt l 6))).setCell ⟨w.heap.size + 1, 12, none⟩ (.int .u8 (gt l 12))).setCell ⟨w.heap.size + 1, 7, none⟩ (.int .u8 (gt l 7))).setCell ⟨w.heap.size + 1, 13, none⟩ (.int .u8 (gt l 13))).setCell ⟨w.heap.size + 1, 8, none⟩ (.int .u8 (gt l 8))).setCell ⟨w.heap.size + 1, 14, none⟩ (.int .u8 (gt l 14))).setCell ⟨w.heap.size + 1, 9, none⟩ (.int .u8 (gt l 9))).setCell ⟨w.heap.size + 1, 15, none⟩ (.int .u8 (gt l 15))).heap[w.heap.size + 1]? = some (.cells #[.int .i64 (x0 / 32), .bool (x0 / 16 % 2 == 1), .bool (x0 / 8 % 2 == 1), .int .i64 (x1 * 65536 + x2 * 256 + x3), .int .u8 (gt l 4), .int .u8 (gt l 5), .int .u8 (gt l 6), .int .u8 (gt l 7), .int .u8 (gt l 8), .int .u8 (gt l 9), .int .u8 (gt l 10), .int .u8 (gt l 11), .int .u8 (gt l 12), .int .u8 (gt l 13), .int .u8 (gt l 14), .int .u8 (gt l 15)] 27 (0, 0)) := (heap_setCell_same _ _ _ _ _ _ D11).trans rfl
  clear D11
  have C6 := D12
  clear D12
  have A6 : ((((((((((((W5.setCell ⟨w.heap.size + 1, 4, none⟩ (.int .u8 (gt l 4))).setCell ⟨w.heap.size + 1, 10, none⟩ (.int .u8 (gt l 10))).setCell ⟨w.heap.size + 1, 5, none⟩ (.int .u8 (gt l 5))).setCell ⟨w.heap.size + 1, 11, none⟩ (.int .u8 (gt l 11))).setCell ⟨w.heap.size + 1, 6, none⟩ (.int .u8 (gt l 6))).setCell ⟨w.heap.size + 1, 12, none⟩ (.int .u8 (gt l 12))).setCell ⟨w.heap.size + 1, 7, none⟩ (.int .u8 (gt l 7))).setCell ⟨w.heap.size + 1, 13, none⟩ (.int .u8 (gt l 13))).setCell ⟨w.heap.size + 1, 8, none⟩ (.int .u8 (gt l 8))).setCell ⟨w.heap.size + 1, 14, none⟩ (.int .u8 (gt l 14))).setCell ⟨w.heap.size + 1, 9, none⟩ (.int .u8 (gt l 9))).setCell ⟨w.heap.size + 1, 15, none⟩ (.int .u8 (gt l 15))).heap[w.heap.size]? = some (.cells #[.int .i64 0, .bool false, .bool false, .int .i64 0, .int .u8 0, .int .u8 0, .int .u8 0, .int .u8 0, .int .u8 0, .int .u8 0, .int .u8 0, .int .u8 0, .int .u8 0, .int .u8 0, .int .u8 0, .int .u8 0] 27 (0, 0)) := by
    rw [heap_setCell_other _ _ _ _ (by simp), heap_setCell_other _ _ _ _ (by simp), heap_setCell_other _ _ _ _ (by simp), heap_setCell_other _ _ _ _ (by simp), heap_setCell_other _ _ _ _ (by simp), heap_setCell_other _ _ _ _ (by simp), heap_setCell_other _ _ _ _ (by simp), heap_setCell_other _ _ _ _ (by simp), heap_setCell_other _ _ _ _ (by simp), heap_setCell_other _ _ _ _ (by simp), heap_setCell_other _ _ _ _ (by simp), heap_setCell_other _ _ _ _ (by simp)]
    exact A5'.out
  have B6 : Below w.heap.size w ((((((((((((W5.setCell ⟨w.heap.size + 1, 4, none⟩ (.int .u8 (gt l 4))).setCell ⟨w.heap.size + 1, 10, none⟩ (.int .u8 (gt l 10))).setCell ⟨w.heap.size + 1, 5, none⟩ (.int .u8 (gt l 5))).setCell ⟨w.heap.size + 1, 11, none⟩ (.int .u8 (gt l 11))).setCell ⟨w.heap.size + 1, 6, none⟩ (.int .u8 (gt l 6))).setCell ⟨w.heap.size + 1, 12, none⟩ (.int .u8 (gt l 12))).setCell ⟨w.heap.size + 1, 7, none⟩ (.int .u8 (gt l 7))).setCell ⟨w.heap.size + 1, 13, none⟩ (.int .u8 (gt l 13))).setCell ⟨w.heap.size + 1, 8, none⟩ (.int .u8 (gt l 8))).setCell ⟨w.heap.size + 1, 14, none⟩ (.int .u8 (gt l 14))).setCell ⟨w.heap.size + 1, 9, none⟩ (.int .u8 (gt l 9))).setCell ⟨w.heap.size + 1, 15, none⟩ (.int .u8 (gt l 15))) := (Below.setCell (Below.setCell (Below.setCell (Below.setCell (Below.setCell (Below.setCell (Below.setCell (Below.setCell (Below.setCell (Below.setCell (Below.setCell (Below.setCell B5'.out (p := ⟨w.heap.size + 1, 4, none⟩) (by simp) _) (p := ⟨w.heap.size + 1, 10, none⟩) (by simp) _) (p := ⟨w.heap.size + 1, 5, none⟩) (by simp) _) (p := ⟨w.heap.size + 1, 11, none⟩) (by simp) _) (p := ⟨w.heap.size + 1, 6, none⟩) (by simp) _) (p := ⟨w.heap.size + 1, 12, none⟩) (by simp) _) (p := ⟨w.heap.size + 1, 7, none⟩) (by simp) _) (p := ⟨w.heap.size + 1, 13, none⟩) (by simp) _) (p := ⟨w.heap.size + 1, 8, none⟩) (by simp) _) (p := ⟨w.heap.size + 1, 14, none⟩) (by simp) _) (p := ⟨w.heap.size + 1, 9, none⟩) (by simp) _) (p := ⟨w.heap.size + 1, 15, none⟩) (by simp) _)
  rw [hW6] at C6 A6 B6 ⊢
  clear hW6 sc4 tc4 ix4 sc5 tc5 ix5 sc6 tc6 ix6 sc7 tc7 ix7 sc8 tc8 ix8 sc9 tc9 ix9 sc10 tc10 ix10 sc11 tc11 ix11 sc12 tc12 ix12 sc13 tc13 ix13 sc14 tc14 ix14 sc15 tc15 ix15 f5 C5' A5' B5'
  have l6 := loadrow27 (w := W6.drew) C6 rfl
  have lt2 := lt_of_block A6
  have lt5 := lt_of_block C6
  have hA : Hid (Below W6.heap.size W6 (W6.alloc (.cells #[] 5)).drew) := ((Below.refl _ _).alloc (Nat.le_refl _) _).drew
  have l7 := loadrow27 ((hA.out.block _ lt5).trans C6) rfl
  have hD : Hid (∀ W, Below W6.heap.size W6 W → Src W (dropV b o n c 16) (l.drop 16)) := fun W hW => (src_dropV (hH.out.below B6) 16 hn16).below hW
  have hsl : ∀ W, (slS (.slice (some ⟨b, o, none⟩) n c) (some (.int .i64 16)) none none).run Try.prog W = .ok (dropV b o n c 16) W := fun W => slS_drop b o n c 16 hn16 hc hm W
  have hO : Hid (Own (W6.alloc (.cells #[] 5)).drew W6.heap.size (.slice (some ⟨W6.heap.size, 0, none⟩) 0 0) []) := own_empty W6 _ (Nat.le_refl _)
  have hB0 := hA.out.size
  have hlD' : ([] : List Int).length + (l.drop 16).length ≤ 100000 := by have := hL.out; simp; omega
  have C6' : Hid (W6.heap[w.heap.size + 1]? = some (.cells #[.int .i64 (x0 / 32), .bool (x0 / 16 % 2 == 1), .bool (x0 / 8 % 2 == 1), .int .i64 (x1 * 65536 + x2 * 256 + x3), .int .u8 (gt l 4), .int .u8 (gt l 5), .int .u8 (gt l 6), .int .u8 (gt l 7), .int .u8 (gt l 8), .int .u8 (gt l 9), .int .u8 (gt l 10), .int .u8 (gt l 11), .int .u8 (gt l 12), .int .u8 (gt l 13), .int .u8 (gt l 14), .int .u8 (gt l 15)] 27 (0, 0))) := C6
  have A6' : Hid (W6.heap[w.heap.size]? = some (.cells #[.int .i64 0, .bool false, .bool false, .int .i64 0, .int .u8 0, .int .u8 0, .int .u8 0, .int .u8 0, .int .u8 0, .int .u8 0, .int .u8 0, .int .u8 0, .int .u8 0, .int .u8 0, .int .u8 0, .int .u8 0] 27 (0, 0))) := A6
  have B6' : Hid (Below w.heap.size w W6) := B6
  clear C6 A6 B6
  go_region_law ((refine step_app (by rfl) _ _ (by rfl) (by rfl) (by rfl) hO.out (hD.out _ hA.out) hlD' hB0 ?_; intro s10 w10 ho10 hg10 hat10; have hb10 := hA.out.trans ((grown_below hO.out hg10 hB0).mono (Nat.le_refl _)); have A10 := (hb10.block _ lt2).trans A6'.out; have C10 := (hb10.block _ lt5).trans C6'.out; have l10 := loadrow27 C10 rfl; have st10 := store27 A10 (cs := #[.int .i64 (x0 / 32), .bool (x0 / 16 % 2 == 1), .bool (x0 / 8 % 2 == 1), .int .i64 (x1 * 65536 + x2 * 256 + x3), .int .u8 (gt l 4), .int .u8 (gt l 5), .int .u8 (gt l 6), .int .u8 (gt l 7), .int .u8 (gt l 8), .int .u8 (gt l 9), .int .u8 (gt l 10), .int .u8 (gt l 11), .int .u8 (gt l 12), .int .u8 (gt l 13), .int .u8 (gt l 14), .int .u8 (gt l 15)]) rfl rfl (by simp [Value.oneCell'])))
  all_goals
    have T2 := setRow_heap _ w.heap.size _ #[.int .i64 (x0 / 32), .bool (x0 / 16 % 2 == 1), .bool (x0 / 8 % 2 == 1), .int .i64 (x1 * 65536 + x2 * 256 + x3), .int .u8 (gt l 4), .int .u8 (gt l 5), .int .u8 (gt l 6), .int .u8 (gt l 7), .int .u8 (gt l 8), .int .u8 (gt l 9), .int .u8 (gt l 10), .int .u8 (gt l 11), .int .u8 (gt l 12), .int .u8 (gt l 13), .int .u8 (gt l 14), .int .u8 (gt l 15)] 27 (0, 0) A10
    have HO : Hid (Own w10 W6.heap.size s10 (l.drop 16)) := ho10
    have HB : Hid (Below w.heap.size w w10) := B6'.out.trans (hb10.mono (Nat.le_of_lt lt2))
    clear ho10 hb10 hg10 hat10 A10 C10 l10 st10 hsl l6 l7
    go_wp2
    refine bodyPost_ret (results27 Try.results43 _ _ _ _ s10 (.int .i64 0) rfl rfl rfl T2 rfl) rfl ?_
    obtain ⟨y1, y2⟩ := hO'.out
    refine ⟨s10, by rw [y2, y1], ?_, below_setRow HB.out (Nat.le_refl _) _⟩
    have e : tiR l = l.drop 16 := by unfold tiR; rw [if_pos y1]
    rw [e]
    refine Own.base (Own.of_block HO.out fun k hk => setRow_other _ _ _ _ ?_) (Nat.le_of_lt lt2)
    have := (HO.out.block k hk).1
    omega

theorem takeiref_any (a : Option Addr) (n c : Nat) (l : List Int) (w : World) (h : Src w (.slice a n c) l) (hl : l.length ≤ 2000) (hb : ∀ x ∈ l, 0 ≤ x ∧ x ≤ 255) :
    Calls Try.prog 43 #[.slice a n c] w fun r w' => TiOut w l r w' := by
  by_cases h2 : l.length < 16
  · exact takeiref_short a n c l w h h2
  · obtain ⟨b, o, rfl, _, hj⟩ := src_some h (by omega)
    obtain ⟨hn, hc, hm⟩ := src_short h
    have hx : ∀ j, j < l.length → 0 ≤ l.getD j 0 ∧ l.getD j 0 ≤ 255 := fun j hj => by
      have : l.getD j 0 = l[j] := by simp [hj]
      rw [this]
      exact hb _ (List.getElem_mem hj)
    by_cases h8 : l.getD 0 0 % 8 = 0
    · have h0 : tiE l = 0 := by unfold tiE; rw [if_neg h2, if_pos h8]
      refine takeiref_long b o n c l w h (by omega) hl _ _ _ _ (hx 0 (by omega)) (hx 1 (by omega)) (hx 2 (by omega)) (hx 3 (by omega)) (hj 0 (by omega)) (hj 1 (by omega)) (hj 2 (by omega)) (hj 3 (by omega)) h8 ⟨h0, ?_⟩
      unfold tiP tiD tiU tiI tiX
      simp only [h0, ↓reduceIte, gt]
    · refine takeiref_bad b o n c l w (by omega) (by omega) _ (hx 0 (by omega)) (hj 0 (by omega)) h8 ?_
      unfold tiE
      rw [if_neg h2, if_neg h8]
end Go.Proofs.Yteljcgdenagcmaa
