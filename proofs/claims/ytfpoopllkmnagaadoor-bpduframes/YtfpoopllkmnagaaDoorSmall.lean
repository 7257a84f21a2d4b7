/-
  The walks of the small functions: flags, roles, kinds, lengths: each for every input.
-/
import Derived.Test.YtfpoopllkmnagaaDoorClos
namespace Go.Proofs.YtfpoopllkmnagaaDoor
set_option linter.unusedVariables false
set_option maxRecDepth 4000
set_option linter.unusedSimpArgs false
open Go.RowKit

attribute [local go_sem ↓] ldS32 ldS49 ldS28 ldS30 ldS83 stS32 stS49 stS28 stS30

/-- A flag's number. -/
def bitI (b : Bool) (n : Int) : Int := if b then n else 0
theorem bitI_nat (b : Bool) (n : Nat) : bitI b (n : Int) = (bitB b n : Nat) := by cases b <;> rfl

theorem flag_any (b : Bool) (n : Int) (w : World) :
    Calls Tryd.prog 49 #[.bool b, .int .u64 n] w fun r w' => r = .returned (.int .u64 (bitI b n)) ∧ w' = w := by
  cases b
  all_goals
    go_enter Tryd.func49, Tryd.ntmps49
    go_wp2
    go_ret
    exact ⟨rfl, rfl⟩

theorem flag_ref (b : Bool) (n : Int) (w : World) :
    Calls Tryd.prog 24 #[.bool b, .int .i64 n] w fun r w' => r = .returned (.int .i64 (bitI b n)) ∧ w' = w := by
  cases b
  all_goals
    go_enter Tryd.func24, Tryd.ntmps24
    go_wp2
    go_ret
    exact ⟨rfl, rfl⟩

theorem role_ref (r0 : Int) (w : World) :
    Calls Tryd.prog 25 #[.int .i64 r0] w fun r w' => r = .returned (.int .i64 (roN r0 : Nat)) ∧ w' = w := by
  go_enter Tryd.func25, Tryd.ntmps25
  go_wp2
  all_goals
    go_ret
    refine ⟨ret_int ?_, rfl⟩
    simp_all [roN]

theorem roleOf_ref (n : Nat) (w : World) (h : n < 4) :
    Calls Tryd.prog 33 #[.int .i64 (n : Nat)] w fun r w' => r = .returned (.int .i64 (roOf n)) ∧ w' = w := by
  have h4 : n = 0 ∨ n = 1 ∨ n = 2 ∨ n = 3 := by omega
  rcases h4 with rfl | rfl | rfl | rfl
  all_goals
    clear h
    go_enter Tryd.func33, Tryd.ntmps33
    go_wp2
    go_ret
    exact ⟨rfl, rfl⟩

theorem bit_nat (f n : Nat) (w : World) (hf : f < 256) (hn : 0 < n) (hn' : n < 256) :
    Calls Tryd.prog 32 #[.int .u8 (f : Nat), .int .i64 (n : Nat)] w fun r w' => r = .returned (.bool (flB f n)) ∧ w' = w := by
  have h1 : (n : Int) ≠ 0 := by omega
  have h2 : (f : Int).tdiv (n : Int) = ((f / n : Nat) : Int) := by rw [Int.tdiv_eq_ediv_of_nonneg (by omega)]; simp
  have h3 : f / n ≤ f := Nat.div_le_self _ _
  go_enter Tryd.func32, Tryd.ntmps32
  go_wp2
  go_ret
  refine ⟨ret_bool ?_, rfl⟩
  have h4 : (f : Int) / (n : Int) = ((f / n : Nat) : Int) := by simp
  obtain ⟨q, hq⟩ : ∃ q, f / n = q := ⟨_, rfl⟩
  rw [hq] at h3 h4
  unfold flB
  rw [h4, hq, IntWalk.wrap64_in _ (by omega), Int.tmod_eq_emod_of_nonneg (by omega)]
  rw [Bool.eq_iff_iff]
  simp only [beq_iff_eq]
  omega

theorem bit_ref (f : Nat) (z : Int) (n : Nat) (hz : z = (n : Int)) (w : World) (hf : f < 256) (hn : 0 < n) (hn' : n < 256) :
    Calls Tryd.prog 32 #[.int .u8 (f : Nat), .int .i64 z] w fun r w' => r = .returned (.bool (flB f n)) ∧ w' = w := by
  subst hz
  exact bit_nat f n w hf hn hn'

theorem length_any (k : Int) (w : World) :
    Calls Tryd.prog 20 #[.int .i64 k] w fun r w' => r = .returned (.int .i64 (lenK k : Nat)) ∧ w' = w := by
  by_cases h3 : k = 3
  · subst h3
    go_enter Tryd.func20, Tryd.ntmps20
    go_wp2
    go_ret
    exact ⟨rfl, rfl⟩
  by_cases h1 : k = 1
  · subst h1
    go_enter Tryd.func20, Tryd.ntmps20
    go_wp2
    go_ret
    exact ⟨rfl, rfl⟩
  by_cases h2 : k = 2
  · subst h2
    go_enter Tryd.func20, Tryd.ntmps20
    go_wp2
    go_ret
    exact ⟨rfl, rfl⟩
  have hl : lenK k = 0 := by simp [lenK, h1, h2, h3]
  rw [hl]
  clear hl
  go_enter Tryd.func20, Tryd.ntmps20
  go_wp2
  go_ret
  exact ⟨rfl, rfl⟩

theorem kindOf_any (n : Nat) (w : World) :
    Calls Tryd.prog 29 #[.int .u64 (n : Nat)] w fun r w' => r = .returned (.int .i64 (headK n)) ∧ w' = w := by
  by_cases h3 : n = 128
  · subst h3
    go_enter Tryd.func29, Tryd.ntmps29
    go_wp2
    go_ret
    exact ⟨rfl, rfl⟩
  by_cases h1 : n = 0
  · subst h1
    go_enter Tryd.func29, Tryd.ntmps29
    go_wp2
    go_ret
    exact ⟨rfl, rfl⟩
  by_cases h2 : n = 514
  · subst h2
    go_enter Tryd.func29, Tryd.ntmps29
    go_wp2
    go_ret
    exact ⟨rfl, rfl⟩
  have hl : headK n = 0 := by simp [headK, h1, h2, h3]
  rw [hl]
  clear hl
  have p1 : ¬ (n : Int) = 128 := by omega
  have p2 : ¬ (n : Int) = 0 := by omega
  have p3 : ¬ (n : Int) = 514 := by omega
  go_enter Tryd.func29, Tryd.ntmps29
  go_wp2
  go_ret
  exact ⟨rfl, rfl⟩

theorem equal_any (x y : Value) (l m : List Int) (w : World) (hx : Src w x l) (hy : Src w y m) :
    Calls Tryd.prog 31 #[x, y] w fun r w' => r = .returned (.bool (beqL l m)) ∧ w' = w := by
  have q1 := hx.string
  have q2 := hy.string
  clear hx hy
  go_enter Tryd.func31, Tryd.ntmps31
  go_wp2
  go_ret
  exact ⟨rfl, rfl⟩

theorem group_any (w : World) :
    Calls Tryd.prog 38 #[] w fun r w' => ∃ s, r = .returned s ∧ Own w' w.heap.size s [1, 128, 194, 0, 0, 0] ∧ Below w.heap.size w w' := by
  go_enter Tryd.func38, Tryd.ntmps38
  go_wp2
  go_ret
  exact ⟨_, rfl, own_new w [1, 128, 194, 0, 0, 0] _ _ _ rfl rfl (Nat.le_refl _) (by simp), (Below.refl _ _).alloc (Nat.le_refl _) _⟩

theorem idxR0 (w : World) : (Instr.index 83 (.agg rolesC) (.int .i64 0)).run Tryd.prog w = .ok (.int .i64 0) w := by kernel_rfl
theorem idxR1 (w : World) : (Instr.index 83 (.agg rolesC) (.int .i64 1)).run Tryd.prog w = .ok (.int .i64 1) w := by kernel_rfl
theorem idxR2 (w : World) : (Instr.index 83 (.agg rolesC) (.int .i64 2)).run Tryd.prog w = .ok (.int .i64 3) w := by kernel_rfl
theorem idxR3 (w : World) : (Instr.index 83 (.agg rolesC) (.int .i64 3)).run Tryd.prog w = .ok (.int .i64 4) w := by kernel_rfl

set_option maxHeartbeats 400000 in
theorem roleNumber_any (r0 : Int) (w : World) (h : Rl w) :
    Calls Tryd.prog 27 #[.int .i64 r0] w fun r w' => r = .returned (.tuple #[.int .u64 (roN r0 : Nat), .bool (roOk r0)]) ∧ w' = w := by
  have hl := h.ld
  have i0 := idxR0
  have i1 := idxR1
  have i2 := idxR2
  have i3 := idxR3
  clear h
  by_cases h0 : r0 = 0
  · subst h0
    go_enter Tryd.func27, Tryd.ntmps27
    go_wp2
    go_rounds 5
    go_ret2
    exact ⟨rfl, rfl⟩
  by_cases h1 : r0 = 1
  · subst h1
    go_enter Tryd.func27, Tryd.ntmps27
    go_wp2
    go_rounds 5
    go_ret2
    exact ⟨rfl, rfl⟩
  by_cases h2 : r0 = 3
  · subst h2
    go_enter Tryd.func27, Tryd.ntmps27
    go_wp2
    go_rounds 5
    go_ret2
    exact ⟨rfl, rfl⟩
  by_cases h3 : r0 = 4
  · subst h3
    go_enter Tryd.func27, Tryd.ntmps27
    go_wp2
    go_rounds 5
    go_ret2
    exact ⟨rfl, rfl⟩
  have e1 : roN r0 = 0 := by simp [roN, h1, h2, h3]
  have e2 : roOk r0 = false := by simp [roOk, h0, h1, h2, h3]
  rw [e1, e2]
  have q0 : (0 : Int) ≠ r0 := fun e => h0 e.symm
  have q1 : (1 : Int) ≠ r0 := fun e => h1 e.symm
  have q2 : (3 : Int) ≠ r0 := fun e => h2 e.symm
  have q3 : (4 : Int) ≠ r0 := fun e => h3 e.symm
  clear e1 e2
  go_enter Tryd.func27, Tryd.ntmps27
  go_wp2
  go_rounds 5
  go_ret2
  exact ⟨rfl, rfl⟩
end Go.Proofs.YtfpoopllkmnagaaDoor
