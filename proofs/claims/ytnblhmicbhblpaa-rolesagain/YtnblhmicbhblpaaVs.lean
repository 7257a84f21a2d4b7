/-
  Own, Add, Compare, Older, and the definition's: their walks, for every input.
-/
import Derived.Test.YtnblhmicbhblpaaRk
import Derived.Test.YtnblhmicbhblpaaVRef
namespace Go.Proofs.Ytnblhmicbhblpaa
set_option linter.unusedVariables false
set_option maxRecDepth 4000
set_option linter.unusedSimpArgs false
open Go.RowKit

theorem compare_row (a b : Vc) (w : World) : Calls Try.prog 24 #[.agg a.cs, .agg b.cs] w fun e w' => e = .returned (.int .i64 (cmpV (v4 a) (v4 b))) ∧ Below w.heap.size w w' := by
  rw [← v4_cs a, ← v4_cs b]
  exact compare_any _ _ w (v4_wf a) (v4_wf b)
theorem betref_row (a b : Vc) (w : World) : Calls Try.prog 19 #[.agg a.cs, .agg b.cs] w fun e w' => e = .returned (.bool (bet a b)) ∧ Below w.heap.size w w' := by
  rw [← v4_cs a, ← v4_cs b]
  exact betref_any _ _ w
set_option maxHeartbeats 400000 in
theorem own_any (h : Hd) (w : World) :
    Calls Try.prog 21 #[.int .u64 (h.nm 0)] w fun e w' => e = .returned (.agg (ownV h).cs) ∧ Below w.heap.size w w' := by
  show Calls Try.prog 21 _ w fun e w' => e = .returned (.agg #[.int .u64 (h.nm 0), .int .u32 0, .int .u64 (h.nm 0), .int .u16 0]) ∧ _
  generalize h.nm 0 = n
  go_enter Try.func21, Try.ntmps21
  go_wp2
  go_returns
  exact ⟨rfl, by go_grown⟩
set_option maxHeartbeats 400000 in
theorem rown_any (h : Hd) (w : World) :
    Calls Try.prog 18 #[.int .u64 (h.nm 0)] w fun e w' => e = .returned (.agg (ownV h).cs) ∧ Below w.heap.size w w' := by
  show Calls Try.prog 18 _ w fun e w' => e = .returned (.agg #[.int .u64 (h.nm 0), .int .u32 0, .int .u64 (h.nm 0), .int .u16 0]) ∧ _
  generalize h.nm 0 = n
  go_enter Try.func18, Try.ntmps18
  go_wp2
  go_returns
  exact ⟨rfl, by go_grown⟩
set_option maxHeartbeats 400000 in
theorem radd_any (p : Pt) (w : World) :
    Calls Try.prog 34 #[.agg (pri p).cs, .int .u32 (p.nm 1)] w fun e w' => e = .returned (.agg (addV p).cs) ∧ Below w.heap.size w w' := by
  have hc := p.u32 (j := 37) rfl
  have hk := p.u32 (j := 1) rfl
  have hr := p.u64 (j := 36) rfl
  have hb := p.u64 (j := 38) rfl
  have hp := p.u16 (j := 39) rfl
  rw [pri_cs]
  show Calls Try.prog 34 _ w fun e w' => e = .returned (.agg #[.int .u64 (p.nm 36), .int .u32 ((p.nm 37 + p.nm 1) % 4294967296), .int .u64 (p.nm 38), .int .u16 (p.nm 39)]) ∧ _
  generalize p.nm 36 = r at *
  generalize p.nm 37 = c at *
  generalize p.nm 38 = b at *
  generalize p.nm 39 = q at *
  generalize p.nm 1 = k at *
  go_enter Try.func34, Try.ntmps34
  go_wp2
  go_returns
  exact ⟨rfl, by go_grown⟩
set_option maxHeartbeats 400000 in
theorem add_any (p : Pt) (w : World) :
    Calls Try.prog 23 #[.agg (pri p).cs, .int .u32 (p.nm 1)] w fun e w' => e = .returned (.agg (addV p).cs) ∧ Below w.heap.size w w' := by
  have hc := p.u32 (j := 37) rfl
  have hk := p.u32 (j := 1) rfl
  have hr := p.u64 (j := 36) rfl
  have hb := p.u64 (j := 38) rfl
  have hp := p.u16 (j := 39) rfl
  rw [pri_cs]
  show Calls Try.prog 23 _ w fun e w' => e = .returned (.agg #[.int .u64 (p.nm 36), .int .u32 ((p.nm 37 + p.nm 1) % 4294967296), .int .u64 (p.nm 38), .int .u16 (p.nm 39)]) ∧ _
  generalize p.nm 36 = r at *
  generalize p.nm 37 = c at *
  generalize p.nm 38 = b at *
  generalize p.nm 39 = q at *
  generalize p.nm 1 = k at *
  go_enter Try.func23, Try.ntmps23
  go_wp2
  go_returns
  exact ⟨rfl, by go_grown⟩
theorem tm_cs (t : Tm) : t.cs = #[.int .u8 (t.nm 0), .int .u8 (t.nm 1), .int .u8 (t.nm 2), .int .u8 (t.nm 3)] := by
  show t.cl.toArray = _
  rw [tm_cl]
set_option maxHeartbeats 1000000 in
theorem older_any (t : Tm) (w : World) :
    Calls Try.prog 25 #[.agg t.cs] w fun r w' => r = .returned (.agg (oldT t).cs) ∧ Below w.heap.size w w' := by
  have ha := t.u8 (j := 0) rfl
  rw [tm_cs]
  show Calls Try.prog 25 _ w fun e w' => e = .returned (.agg #[.int .u8 (oldN (t.nm 0)), .int .u8 (t.nm 1), .int .u8 (t.nm 2), .int .u8 (t.nm 3)]) ∧ _
  generalize t.nm 0 = a at *
  generalize t.nm 1 = x at *
  generalize t.nm 2 = h at *
  generalize t.nm 3 = d at *
  unfold oldN
  by_cases hlt : a < 255
  · have hw : 0 ≤ a + 1 ∧ a + 1 ≤ 255 := by omega
    rw [if_pos hlt]
    go_enter Try.func25, Try.ntmps25
    go_wp2
    go_returns
    exact ⟨rfl, by go_grown⟩
  · obtain rfl : a = 255 := by omega
    rw [if_neg hlt]
    go_enter Try.func25, Try.ntmps25
    go_wp2
    go_returns
    exact ⟨rfl, by go_grown⟩
set_option maxHeartbeats 1000000 in
theorem rolder_any (t : Tm) (w : World) :
    Calls Try.prog 29 #[.agg t.cs] w fun r w' => r = .returned (.agg (oldT t).cs) ∧ Below w.heap.size w w' := by
  have ha := t.u8 (j := 0) rfl
  rw [tm_cs]
  show Calls Try.prog 29 _ w fun e w' => e = .returned (.agg #[.int .u8 (oldN (t.nm 0)), .int .u8 (t.nm 1), .int .u8 (t.nm 2), .int .u8 (t.nm 3)]) ∧ _
  generalize t.nm 0 = a at *
  generalize t.nm 1 = x at *
  generalize t.nm 2 = h at *
  generalize t.nm 3 = d at *
  unfold oldN
  by_cases hlt : a < 255
  · have hw : 0 ≤ a + 1 ∧ a + 1 ≤ 255 := by omega
    rw [if_pos hlt]
    go_enter Try.func29, Try.ntmps29
    go_wp2
    go_returns
    exact ⟨rfl, by go_grown⟩
  · obtain rfl : a = 255 := by omega
    rw [if_neg hlt]
    go_enter Try.func29, Try.ntmps29
    go_wp2
    go_returns
    exact ⟨rfl, by go_grown⟩
end Go.Proofs.Ytnblhmicbhblpaa
