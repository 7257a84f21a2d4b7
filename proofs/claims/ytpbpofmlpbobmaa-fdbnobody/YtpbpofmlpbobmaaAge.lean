/-
  The walks of Age, Flush, Drop and of what they hand to remove, for every database and every number.
-/
import Derived.Test.YtpbpofmlpbobmaaRem
import Derived.Shelf.Abstract
namespace Go.Proofs.Ytpbpofmlpbobmaa
set_option linter.unusedVariables false
set_option maxRecDepth 4000
set_option linter.unusedSimpArgs false
open Go.RowKit Go.Shelf

theorem beq_dec (a b : Int) : (a == b) = decide (a = b) := by by_cases h : a = b <;> simp [h]
def ageSh (age tick : Int) (x : En) : Bool := !x.st && decide (x.seen + age ≤ tick)
def flushSh (port : Int) (x : En) : Bool := !x.st && decide (x.port = port)
def dropSh (vid : Int) (x : En) : Bool := decide (x.k.vid = vid)
attribute [local go_sem ↓] ldK stK ldM stM ldP stP
set_option maxHeartbeats 1000000 in
theorem drop1_any (x : En) (vid : Int) (t : Nat) (w : World) (h : w.cell? ⟨t, 0, none⟩ = some (.int .i64 vid)) :
    Calls Try.prog 42 #[.agg x.k.cs, .agg x.pc, .pointer (some ⟨t, 0, none⟩)] w fun r w' => r = .returned (.bool (dropSh vid x)) ∧ Below w.heap.size w w' := by
  obtain ⟨W, hW, r1, r2, bW⟩ := two_kp w x
  have ht : t < w.heap.size := World.block_lt_of_cell? w _ h
  have c0 := r1.cell 0 (.int .i64 x.k.vid) rfl
  have ct := (bW.cell (p := ⟨t, 0, none⟩) ht).trans h
  have B : Hid (Below w.heap.size w W) := bW
  clear r1 r2 bW h
  go_enter Try.func42, Try.ntmps42
  go_wp2
  go_ret
  refine ⟨ret_bool ?_, B.out⟩
  exact beq_dec _ _
set_option maxHeartbeats 1000000 in
theorem flush1_any (x : En) (port : Int) (t : Nat) (w : World) (h : w.cell? ⟨t, 0, none⟩ = some (.int .i64 port)) :
    Calls Try.prog 41 #[.agg x.k.cs, .agg x.pc, .pointer (some ⟨t, 0, none⟩)] w fun r w' => r = .returned (.bool (flushSh port x)) ∧ Below w.heap.size w w' := by
  obtain ⟨W, hW, r1, r2, bW⟩ := two_kp w x
  have ht : t < w.heap.size := World.block_lt_of_cell? w _ h
  have c0 := r2.cell 0 (.int .i64 x.port) rfl
  have c1 := r2.cell 1 (.bool x.st) rfl
  have ct := (bW.cell (p := ⟨t, 0, none⟩) ht).trans h
  have B : Hid (Below w.heap.size w W) := bW
  clear r1 r2 bW h
  cases hs : x.st
  all_goals
    rw [hs] at c1
    go_enter Try.func41, Try.ntmps41
    go_wp2
    go_ret
    refine ⟨ret_bool ?_, B.out⟩
    simp [flushSh, hs, beq_dec]
set_option maxHeartbeats 1000000 in
theorem age1_any (x : En) (age tick : Int) (p s t : Nat) (w : World) (hx : x.wf) (ha : 1 ≤ age ∧ age ≤ 1048576) (h1 : w.cell? ⟨s, 0, none⟩ = some (.pointer (some ⟨p, 0, none⟩))) (h2 : w.cell? ⟨t, 0, none⟩ = some (.int .i64 tick)) (h3 : w.cell? ⟨p, 2, none⟩ = some (.int .i64 age)) :
    Calls Try.prog 40 #[.agg x.k.cs, .agg x.pc, .pointer (some ⟨s, 0, none⟩), .pointer (some ⟨t, 0, none⟩)] w fun r w' => r = .returned (.bool (ageSh age tick x)) ∧ Below w.heap.size w w' := by
  obtain ⟨W, hW, r1, r2, bW⟩ := two_kp w x
  have hs : s < w.heap.size := World.block_lt_of_cell? w _ h1
  have ht : t < w.heap.size := World.block_lt_of_cell? w _ h2
  have hp : p < w.heap.size := World.block_lt_of_cell? w _ h3
  have c1 := fun q : Later W => (r2.below q.below).cell 1 (.bool x.st) rfl
  have c2 := fun q : Later W => (r2.below q.below).cell 2 (.int .i64 x.seen) rfl
  have d1 := fun q : Later W => ((below_over bW q.below).cell (p := ⟨s, 0, none⟩) hs).trans h1
  have d2 := fun q : Later W => ((below_over bW q.below).cell (p := ⟨t, 0, none⟩) ht).trans h2
  have d3 := fun q : Later W => ((below_over bW q.below).cell (p := ⟨p, 2, none⟩) hp).trans h3
  have B : Hid (Below w.heap.size w W) := bW
  have hse := hx.seen
  have hw : IntKind.i64.wrap (x.seen + age) = x.seen + age := IntWalk.i64_in _ (by omega)
  clear r1 r2 bW h1 h2 h3 hs ht hp
  cases hst : x.st
  all_goals
    simp only [hst] at c1
    go_enter Try.func40, Try.ntmps40
    go_wp2_with fail
    refine wp_region_later (by kernel_rfl) (by kernel_rfl) ?_
    repeat (go_big_quiet_step (first | exact rfl))
    refine wpQuiet_nil ?_
    intro _ hw'
    obtain ⟨q, rfl⟩ := hw'
    go_wp2
    go_ret
    refine ⟨ret_bool ?_, below_later B.out q⟩
    simp [ageSh, hst]
/-- What is left, and how many are gone. -/
def remS (l : List En) (sh : En → Bool) : List En × Int := (l.filter (fun x => !sh x), (l.length : Int) - ((l.filter (fun x => !sh x)).length : Int))
set_option maxHeartbeats 1000000 in
theorem drop_any (p b : Nat) (c : Cf) (l : List En) (vid : Int) (w : World) (h : Db w p b c l) :
    Calls Try.prog 23 #[.pointer (some ⟨p, 0, none⟩), .int .i64 vid] w fun r w' => r = .returned (.int .i64 (remS l (dropSh vid)).2) ∧ Db w' p b c (remS l (dropSh vid)).1 ∧ w.grownBy w' (some b) := by
  obtain ⟨W, hW⟩ : ∃ W, w.alloc (.cells #[.int .i64 vid] 3) = W := ⟨_, rfl⟩
  have bW : Below w.heap.size w W := by rw [← hW]; exact (Below.refl _ _).alloc (Nat.le_refl _) _
  have ct : W.cell? ⟨w.heap.size, 0, none⟩ = some (.int .i64 vid) := by rw [← hW]; exact cell_new _ _ _
  have hb := h.lt.2
  have R := remove_any 42 #[.pointer (some ⟨w.heap.size, 0, none⟩)] (enters_of Try.func42 (by kernel_rfl) rfl) (dropSh vid) p b c l W (h.below bW) (fun x hx W' g => drop1_any x vid w.heap.size W' (g.cell ct (by simp; omega)))
  have HR : Hid (Below w.heap.size w W ∧ _) := ⟨bW, R⟩
  clear R bW ct hb h
  go_enter Try.func23, Try.ntmps23
  go_wp2_with fail
  refine (HR.out.2).mono ?_
  rintro _ W2 ⟨rfl, d2, g2⟩
  have G : Hid (Db W2 p b c (remS l (dropSh vid)).1 ∧ w.grownBy W2 (some b)) := ⟨d2, (grown_of_below HR.out.1 _).andThen g2 (fun j e => .inr e)⟩
  clear d2 g2 HR hW
  go_wp2
  go_ret
  exact ⟨rfl, G.out.1, G.out.2⟩
set_option maxHeartbeats 1000000 in
theorem flush_any (p b : Nat) (c : Cf) (l : List En) (port : Int) (w : World) (h : Db w p b c l) :
    Calls Try.prog 21 #[.pointer (some ⟨p, 0, none⟩), .int .i64 port] w fun r w' => r = .returned (.int .i64 (remS l (flushSh port)).2) ∧ Db w' p b c (remS l (flushSh port)).1 ∧ w.grownBy w' (some b) := by
  obtain ⟨W, hW⟩ : ∃ W, w.alloc (.cells #[.int .i64 port] 3) = W := ⟨_, rfl⟩
  have bW : Below w.heap.size w W := by rw [← hW]; exact (Below.refl _ _).alloc (Nat.le_refl _) _
  have ct : W.cell? ⟨w.heap.size, 0, none⟩ = some (.int .i64 port) := by rw [← hW]; exact cell_new _ _ _
  have hb := h.lt.2
  have R := remove_any 41 #[.pointer (some ⟨w.heap.size, 0, none⟩)] (enters_of Try.func41 (by kernel_rfl) rfl) (flushSh port) p b c l W (h.below bW) (fun x hx W' g => flush1_any x port w.heap.size W' (g.cell ct (by simp; omega)))
  have HR : Hid (Below w.heap.size w W ∧ _) := ⟨bW, R⟩
  clear R bW ct hb h
  go_enter Try.func21, Try.ntmps21
  go_wp2_with fail
  refine (HR.out.2).mono ?_
  rintro _ W2 ⟨rfl, d2, g2⟩
  have G : Hid (Db W2 p b c (remS l (flushSh port)).1 ∧ w.grownBy W2 (some b)) := ⟨d2, (grown_of_below HR.out.1 _).andThen g2 (fun j e => .inr e)⟩
  clear d2 g2 HR hW
  go_wp2
  go_ret
  exact ⟨rfl, G.out.1, G.out.2⟩
set_option maxHeartbeats 1000000 in
theorem age_any (p b : Nat) (c : Cf) (l : List En) (tick : Int) (w : World) (h : Db w p b c l) :
    Calls Try.prog 19 #[.pointer (some ⟨p, 0, none⟩), .int .i64 tick] w fun r w' => r = .returned (.int .i64 (remS l (ageSh c.age tick)).2) ∧ Db w' p b c (remS l (ageSh c.age tick)).1 ∧ w.grownBy w' (some b) := by
  obtain ⟨W, hW⟩ : ∃ W, (w.alloc (.cells #[.pointer (some ⟨p, 0, none⟩)] 23)).alloc (.cells #[.int .i64 tick] 3) = W := ⟨_, rfl⟩
  have bW : Below w.heap.size w W := by rw [← hW]; exact ((Below.refl _ _).alloc (Nat.le_refl _) _).alloc (by simp) _
  have ct : W.cell? ⟨w.heap.size + 1, 0, none⟩ = some (.int .i64 tick) := by
    rw [← hW]
    simp
  have cs : W.cell? ⟨w.heap.size, 0, none⟩ = some (.pointer (some ⟨p, 0, none⟩)) := by
    rw [← hW]
    exact (((Below.refl _ (w.alloc (.cells #[.pointer (some ⟨p, 0, none⟩)] 23))).alloc (Nat.le_refl _) (.cells #[.int .i64 tick] 3)).cell (p := ⟨w.heap.size, 0, none⟩) (by simp)).trans (cell_new _ _ _)
  have hb := h.lt.2
  have hne := h.ne
  have R := remove_any 40 #[.pointer (some ⟨w.heap.size, 0, none⟩), .pointer (some ⟨w.heap.size + 1, 0, none⟩)] (enters_of Try.func40 (by kernel_rfl) rfl) (ageSh c.age tick) p b c l W (h.below bW)
    (fun x hx W' g => age1_any x c.age tick p w.heap.size (w.heap.size + 1) W' (h.map.2.1 x hx) h.wf.age (g.cell cs (by simp; omega)) (g.cell ct (by simp; omega)) (g.cell (h.below bW).c2 (by simp; exact hne)))
  have HR : Hid (Below w.heap.size w W ∧ _) := ⟨bW, R⟩
  clear R bW ct hb h hne
  go_enter Try.func19, Try.ntmps19
  go_wp2_with fail
  refine (HR.out.2).mono ?_
  rintro _ W2 ⟨rfl, d2, g2⟩
  have G : Hid (Db W2 p b c (remS l (ageSh c.age tick)).1 ∧ w.grownBy W2 (some b)) := ⟨d2, (grown_of_below HR.out.1 _).andThen g2 (fun j e => .inr e)⟩
  clear d2 g2 HR hW cs
  go_wp2
  go_ret
  exact ⟨rfl, G.out.1, G.out.2⟩
end Go.Proofs.Ytpbpofmlpbobmaa
