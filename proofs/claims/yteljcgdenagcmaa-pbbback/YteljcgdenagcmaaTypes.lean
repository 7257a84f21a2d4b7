/-
  The walks of a frame's type, and of whether bytes begin with a tag's type, by definition: for every frame.
-/
import Derived.Test.YteljcgdenagcmaaNumber
namespace Go.Proofs.Yteljcgdenagcmaa
set_option linter.unusedVariables false
set_option linter.unusedSimpArgs false
open Go.RowKit

attribute [local go_sem ↓] slS_eq ldS23 ldS25 ldS38 stS38

theorem kind_m (m : M6) (w : World) (h : m.ok) : Calls Try.prog 52 #[m.v] w fun r w' => r = .returned (.int .i64 m.kd) ∧ Below w.heap.size w w' :=
  kind_any m.a m.b m.c m.d m.e m.f w (h m.a (by simp [M6.l]))
theorem kind_r (m : M6) (w : World) (h : m.ok) : Calls Try.prog 31 #[m.v] w fun r w' => r = .returned (.int .i64 m.kd) ∧ Below w.heap.size w w' :=
  kind_ref m.a m.b m.c m.d m.e m.f w (h m.a (by simp [M6.l]))
theorem check_f (f : Fr) (w : World) : Calls Try.prog 45 #[f.tag] w fun r w' => r = .returned (.int .i64 (chk (tagOk f.p f.v))) ∧ Below w.heap.size w w' := check_any f.p f.v f.e w
theorem check_r (f : Fr) (w : World) : Calls Try.prog 55 #[f.tag] w fun r w' => r = .returned (.int .i64 (chk (tagOk f.p f.v))) ∧ Below w.heap.size w w' := check_ref f.p f.v f.e w

set_option maxHeartbeats 400000 in
theorem type_any (f : Fr) (x : Value) (l : List Int) (w : World) (h : Src w x l) (hb : ∀ x ∈ l, 0 ≤ x ∧ x ≤ 255) :
    Calls Try.prog 71 #[.agg (fcs f x)] w fun r w' => r = .returned (.int .i64 (tyN l)) ∧ Below w.heap.size w w' := by
  have hB : Below w.heap.size w (w.alloc (.cells (fcs f x) 38)) := (Below.refl _ _).alloc (Nat.le_refl _) _
  have c16 := (FrAt.new w f x).c16
  have H : Hid (Src (w.alloc (.cells (fcs f x) 38)) x l ∧ ∀ x ∈ l, 0 ≤ x ∧ x ≤ 255) := ⟨h.below hB, hb⟩
  have HB : Hid (Below w.heap.size w (w.alloc (.cells (fcs f x) 38))) := hB
  clear h hb hB
  go_enter Try.func71, Try.ntmps71
  go_wp2_with fail
  refine Calls.on_later (number_any _ l _ H.out.1 H.out.2) ?_
  intro y
  go_wp2
  go_ret
  exact ⟨rfl, below_later HB.out y⟩

theorem tyN_val {l : List Int} {x y : Int} (h2 : ¬ l.length < 2) (h0 : l.getD 0 0 = x) (h1 : l.getD 1 0 = y) : tyN l = x * 256 + y := by
  unfold tyN tkN
  rw [if_neg h2, h0, h1]

/-- Do bytes begin with the type of a tag? -/
theorem tagged_eq {l : List Int} {x y : Int} (h2 : ¬ l.length < 2) (h0 : l.getD 0 0 = x) (h1 : l.getD 1 0 = y) (g0 : 0 ≤ x ∧ x ≤ 255) (g1 : 0 ≤ y ∧ y ≤ 255) : (tyN l == 34984) = ((x == 136) && (y == 168)) := by
  rw [tyN_val h2 h0 h1, Bool.eq_iff_iff]
  simp only [beq_iff_eq, Bool.and_eq_true]
  omega

set_option maxHeartbeats 400000 in
theorem tagged_any (x : Value) (l : List Int) (w : World) (h : Src w x l) (hb : ∀ x ∈ l, 0 ≤ x ∧ x ≤ 255) :
    Calls Try.prog 56 #[x] w fun r w' => r = .returned (.bool (tyN l == 34984)) ∧ Below w.heap.size w w' := by
  obtain ⟨a, n, c, rfl⟩ := src_form h
  obtain ⟨hn, hc, hm⟩ := src_short h
  by_cases h2 : l.length < 2
  · have h3 : ¬ (2 : Int) ≤ (n : Int) := by omega
    have e0 : (tyN l == 34984) = false := by unfold tyN; rw [if_pos h2]; rfl
    have e : Hid ((tyN l == 34984) = false) := e0
    clear h hn h2 hb e0
    go_enter Try.func56, Try.ntmps56
    go_wp2
    go_ret
    exact ⟨ret_bool e.out.symm, Below.refl _ _⟩
  · have h3 : (2 : Int) ≤ (n : Int) := by omega
    have i0 : (0 : Int) < (n : Int) := by omega
    have i1 : (1 : Int) < (n : Int) := by omega
    obtain ⟨b, o, rfl, hlt, hj⟩ := src_some h (by omega)
    obtain ⟨x0, hx0⟩ : ∃ x0, l.getD 0 0 = x0 := ⟨_, rfl⟩
    obtain ⟨x1, hx1⟩ : ∃ x1, l.getD 1 0 = x1 := ⟨_, rfl⟩
    have q0 : w.cell? ⟨b, o, none⟩ = some (.int .u8 x0) := by rw [← hx0]; exact hj 0 (by omega)
    have q1 : w.cell? ⟨b, o + 1, none⟩ = some (.int .u8 x1) := by rw [← hx1]; exact hj 1 (by omega)
    have g0 : 0 ≤ x0 ∧ x0 ≤ 255 := by rw [← hx0, List.getD_eq_getElem?_getD, List.getElem?_eq_getElem (by omega)]; exact hb _ (List.getElem_mem _)
    have g1 : 0 ≤ x1 ∧ x1 ≤ 255 := by rw [← hx1, List.getD_eq_getElem?_getD, List.getElem?_eq_getElem (by omega)]; exact hb _ (List.getElem_mem _)
    have e : Hid ((tyN l == 34984) = ((x0 == 136) && (x1 == 168))) := tagged_eq h2 hx0 hx1 g0 g1
    clear h hn h2 hb hj hx0 hx1 hlt g0 g1
    cases hq : (x0 == 136)
    all_goals
      go_enter Try.func56, Try.ntmps56
      go_wp2
      go_ret
      refine ⟨ret_bool ?_, Below.refl _ _⟩
      rw [e.out, hq]
      simp
end Go.Proofs.Yteljcgdenagcmaa
