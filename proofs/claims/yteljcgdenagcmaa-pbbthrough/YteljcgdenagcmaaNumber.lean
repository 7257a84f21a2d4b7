/-
  The walks of what cuts bytes, of the number that they begin with, and of what tells whether they are too few: for all bytes.
-/
import Derived.Test.YteljcgdenagcmaaFrame
namespace Go.Proofs.Yteljcgdenagcmaa
set_option linter.unusedVariables false
set_option linter.unusedSimpArgs false
open Go.RowKit

theorem slS_front (b o n c k : Nat) (hk : k ≤ n) (hc : n ≤ c) (hm : c ≤ maxLen) (w : World) : (slS (.slice (some ⟨b, o, none⟩) n c) none (some (.int .i64 (k : Nat))) (some (.int .i64 (k : Nat)))).run Try.prog w = .ok (.slice (some ⟨b, o, none⟩) k k) w := by
  unfold slS maxLen at *
  have h1 : (k : Int) ≤ (n : Int) := by omega
  have h2 : (n : Int) ≤ (c : Int) := by omega
  have h3 : (k : Int) ≤ (c : Int) := by omega
  go_simp

attribute [local go_sem ↓] slS_eq

set_option maxHeartbeats 400000 in
theorem cutk_any (a : Option Addr) (n c k : Nat) (l : List Int) (w : World) (h : Src w (.slice a n c) l) (hk : k ≤ l.length) (hk0 : 0 < k) :
    Calls Try.prog 75 #[.slice a n c, .int .i64 (k : Nat)] w fun r w' => ∃ x y, r = .returned (.tuple #[x, y]) ∧ Src w x (l.take k) ∧ Src w y (l.drop k) ∧ Below w.heap.size w w' := by
  obtain ⟨b, o, rfl, _, hj⟩ := src_some h (by omega)
  obtain ⟨hn, hc, hm⟩ := src_short h
  have hs1 : ∀ W, (slS (.slice (some ⟨b, o, none⟩) n c) none (some (.int .i64 (k : Nat))) (some (.int .i64 (k : Nat)))).run Try.prog W = .ok (.slice (some ⟨b, o, none⟩) k k) W := fun W => slS_front b o n c k (by omega) hc hm W
  have hs2 : ∀ W, (slS (.slice (some ⟨b, o, none⟩) n c) (some (.int .i64 (k : Nat))) none none).run Try.prog W = .ok (dropV b o n c k) W := fun W => slS_drop b o n c k (by omega) hc hm W
  have H1 : Hid (Src w (.slice (some ⟨b, o, none⟩) k k) (l.take k)) := (h.take k (by omega) (by simp)).cap (by simp) (Nat.le_refl _) (by omega)
  have H2 : Hid (Src w (dropV b o n c k) (l.drop k)) := src_dropV h k (by omega)
  clear h hj hn hc hm hk hk0
  go_enter Try.func75, Try.ntmps75
  go_wp2
  go_quiet (fail)
  go_wp2
  go_ret2
  exact ⟨_, _, rfl, H1.out, H2.out, below_dn (Below.refl _ _) _⟩

theorem tyN_take {l : List Int} (h : ¬ l.length < 2) : tyN (l.take 2) = tyN l := by
  have h1 : (l.take 2).length = 2 := by simp; omega
  unfold tyN
  rw [if_neg (by omega), if_neg h]
  match l, h with
  | x :: y :: r, _ => rfl
  | [x], h => simp at h
  | [], h => simp at h

set_option maxHeartbeats 400000 in
theorem number_any (x : Value) (l : List Int) (w : World) (h : Src w x l) (hb : ∀ x ∈ l, 0 ≤ x ∧ x ≤ 255) :
    Calls Try.prog 74 #[x] w fun r w' => r = .returned (.int .i64 (tyN l)) ∧ Below w.heap.size w w' := by
  obtain ⟨a, n, c, rfl⟩ := src_form h
  obtain ⟨hn, hc, hm⟩ := src_short h
  by_cases h2 : l.length < 2
  · have h3 : (n : Int) < 2 := by omega
    have e : Hid (tyN l = 0) := by unfold tyN; rw [if_pos h2]; rfl
    clear h hn h2 hb
    go_enter Try.func74, Try.ntmps74
    go_wp2
    go_ret
    exact ⟨ret_int e.out.symm, by go_grown⟩
  · have h3 : ¬ (n : Int) < 2 := by omega
    have H : Hid (Src w (.slice a n c) l ∧ 2 ≤ l.length ∧ ∀ x ∈ l, 0 ≤ x ∧ x ≤ 255) := ⟨h, by omega, hb⟩
    have e : Hid (tyN (l.take 2) = tyN l) := tyN_take h2
    clear h hn h2 hb
    go_enter Try.func74, Try.ntmps74
    go_wp2_with fail
    refine (cutk_any a n c 2 l _ H.out.1 H.out.2.1 (by omega)).mono ?_
    rintro _ w1 ⟨x1, y1, rfl, s1, s2, hb1⟩
    obtain ⟨a1, n1, c1, rfl⟩ := src_form s1
    have S1 : Hid (Src w1 (.slice a1 n1 c1) (l.take 2)) := s1.below hb1
    have B1 : Hid (Below w.heap.size w w1) := hb1
    clear s1 s2 hb1
    go_wp2_with fail
    refine (ttype_any a1 n1 c1 (l.take 2) _ S1.out (by simp; omega) (fun x hx => H.out.2.2 x (List.mem_of_mem_take hx))).mono ?_
    rintro _ w2 ⟨s3, rfl, ho3, hb3⟩
    have B2 : Hid (Below w.heap.size w w2) := below_over B1.out hb3
    clear ho3 hb3
    go_wp2
    go_ret
    exact ⟨ret_int e.out, B2.out⟩

/-- Are bytes too few? -/
def shortB (l : List Int) : Bool := decide (l.length < 14) || (tyN (l.drop 12) == 34984 && decide (l.length < 18))

end Go.Proofs.Yteljcgdenagcmaa
