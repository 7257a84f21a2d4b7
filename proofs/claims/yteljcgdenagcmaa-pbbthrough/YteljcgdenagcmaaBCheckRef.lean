/-
  The walk of which frames of the backbone may be, by definition: for every one.
-/
import Derived.Test.YteljcgdenagcmaaBInside
namespace Go.Proofs.Yteljcgdenagcmaa
set_option linter.unusedVariables false
set_option maxRecDepth 4000
set_option linter.unusedSimpArgs false
open Go.RowKit

attribute [local go_sem ↓] slS_eq ldS23 ldS25 ldI27 ldS30 ldS38 stS38 stS30 nqS_eq eqS_eq

set_option maxHeartbeats 2000000 in
theorem bcheckref_any (f : Bf) (z : Value) (l : List Int) (w : World) (h : Src w z l) (hb : ∀ x ∈ l, 0 ≤ x ∧ x ≤ 255) (hf : f.ok) :
    Calls Try.prog 13 #[.agg (bcs f z)] w fun r w' => r = .returned (.int .i64 (chkB f l)) ∧ Below w.heap.size w w' := by
  obtain ⟨a, n, c, rfl⟩ := src_form h
  obtain ⟨hn, hc, hm⟩ := src_short h
  have hB : Below w.heap.size w (w.alloc (.cells (bcs f (.slice a n c)) 30)) := (Below.refl _ _).alloc (Nat.le_refl _) _
  have hF := BfAt.new w f (.slice a n c)
  have c31 := hF.c31
  have ls := hF.lds
  obtain ⟨yl, yd, _, yb, yi, y18, _⟩ := hF.laters
  have HB : Hid (Below w.heap.size w (w.alloc (.cells (bcs f (.slice a n c)) 30))) := hB
  obtain ⟨q, hq⟩ : ∃ q, tagOk f.p f.v = q := ⟨_, rfl⟩
  obtain ⟨k, hk⟩ : ∃ k, itagOk f.q f.i = k := ⟨_, rfl⟩
  obtain ⟨m1, hm1⟩ : ∃ k, f.s.kd = k := ⟨_, rfl⟩
  obtain ⟨m2, hm2⟩ : ∃ k, f.d.kd = k := ⟨_, rfl⟩
  obtain ⟨E, hE⟩ : ∃ E, chkF f.inn l = E := ⟨_, rfl⟩
  obtain ⟨i, hi⟩ : ∃ i, f.i = i := ⟨_, rfl⟩
  have HE : Hid (chkB f l = if (1502 : Int) < (n : Int) then 2 else if (m1 != 1) || ((m2 == 6) || (!q || (!k || ((i == 0) || (E != 0))))) then 40 else 0) := by
    show chkB f l = _
    unfold chkB badB
    have e1 : ((1502 : Int) < (n : Int)) ↔ 1502 < l.length := by omega
    simp only [e1, hm1, hm2, hq, hk, hE]
    rw [hi]
  have Q1 : Hid (∀ W, Calls Try.prog 31 #[f.s.v] W fun r w' => r = .returned (.int .i64 m1) ∧ Below W.heap.size W w') := fun W => by rw [← hm1]; exact kind_r f.s W hf.2.1
  have Q2 : Hid (∀ W, Calls Try.prog 31 #[f.d.v] W fun r w' => r = .returned (.int .i64 m2) ∧ Below W.heap.size W w') := fun W => by rw [← hm2]; exact kind_r f.d W hf.1
  have Q3 : Hid (∀ W, Calls Try.prog 32 #[f.tag] W fun r w' => r = .returned (.bool q) ∧ Below W.heap.size W w') := fun W => by rw [← hq]; exact isB_f f W
  have Q4 : Hid (∀ W, Calls Try.prog 33 #[f.itag] W fun r w' => r = .returned (.bool k) ∧ Below W.heap.size W w') := fun W => by rw [← hk]; exact isBi_f f W
  have Q5 : Hid (n ≤ 1502 → ∀ W, Below w.heap.size w W → Calls Try.prog 16 #[.agg (bcs f (.slice a n c))] W fun r w' => ∃ s, r = .returned (.agg (fcs f.inn s)) ∧ Src w' s l ∧ Below W.heap.size W w') := fun hn2 W hW => (insideref_any f a n c l W (h.below hW) (by omega)).mono fun r w' ⟨s, hr, ho, hb⟩ => ⟨s, hr, ho.src, hb⟩
  have Q6 : Hid (∀ W s, Src W s l → Calls Try.prog 34 #[.agg (fcs f.inn s)] W fun r w' => r = .returned (.int .i64 E) ∧ Below W.heap.size W w') := fun W s hs => by rw [← hE]; exact checkref_any f.inn s l W hs hb (Bf.inn_ok hf)
  rw [hi] at y18
  clear h hb hf hF hB hm1 hm2 hq hk hE hi hn
  by_cases hL : (1502 : Int) < (n : Int)
  · clear Q1 Q2 Q3 Q4 Q5 Q6 yl yd yb yi y18 ls
    go_enter Try.func13, Try.ntmps13
    go_wp2
    go_ret
    refine ⟨ret_int ?_, HB.out⟩
    rw [HE.out]
    simp [*]
  cases g1 : (m1 != 1)
  rotate_left
  · clear Q2 Q3 Q4 Q5 Q6 yl yd yb yi y18
    go_enter Try.func13, Try.ntmps13
    go_wp2_with fail
    refine Calls.on_later (Q1.out _) ?_
    intro z1
    go_wp2
    go_ret
    refine ⟨ret_int ?_, below_later HB.out _⟩
    rw [HE.out]
    simp [*]
  cases g2 : (m2 == 6)
  rotate_left
  · clear Q3 Q4 Q5 Q6 yl yb yi y18
    go_enter Try.func13, Try.ntmps13
    go_wp2_with fail
    refine Calls.on_later (Q1.out _) ?_
    intro z1
    go_wp2_with fail
    refine Calls.on_later2 (Q2.out _) ?_
    intro z2
    go_wp2
    go_ret
    refine ⟨ret_int ?_, below_later HB.out _⟩
    rw [HE.out]
    simp [*]
  cases q
  · clear Q4 Q5 Q6 yl yi y18
    go_enter Try.func13, Try.ntmps13
    go_wp2_with fail
    refine Calls.on_later (Q1.out _) ?_
    intro z1
    go_wp2_with fail
    refine Calls.on_later2 (Q2.out _) ?_
    intro z2
    go_wp2_with fail
    refine Calls.on_later2 (Q3.out _) ?_
    intro z3
    go_wp2
    go_ret
    refine ⟨ret_int ?_, below_later HB.out _⟩
    rw [HE.out]
    simp [*]
  cases k
  · clear Q5 Q6 yl y18
    go_enter Try.func13, Try.ntmps13
    go_wp2_with fail
    refine Calls.on_later (Q1.out _) ?_
    intro z1
    go_wp2_with fail
    refine Calls.on_later2 (Q2.out _) ?_
    intro z2
    go_wp2_with fail
    refine Calls.on_later2 (Q3.out _) ?_
    intro z3
    go_wp2_with fail
    refine Calls.on_later2 (Q4.out _) ?_
    intro z4
    go_wp2
    go_ret
    refine ⟨ret_int ?_, below_later HB.out _⟩
    rw [HE.out]
    simp [*]
  cases g5 : (i == 0)
  rotate_left
  · clear Q5 Q6 yl
    go_enter Try.func13, Try.ntmps13
    go_wp2_with fail
    refine Calls.on_later (Q1.out _) ?_
    intro z1
    go_wp2_with fail
    refine Calls.on_later2 (Q2.out _) ?_
    intro z2
    go_wp2_with fail
    refine Calls.on_later2 (Q3.out _) ?_
    intro z3
    go_wp2_with fail
    refine Calls.on_later2 (Q4.out _) ?_
    intro z4
    go_wp2
    go_ret
    refine ⟨ret_int ?_, below_later HB.out _⟩
    rw [HE.out]
    simp [*]
  cases g6 : (E != 0)
  all_goals
    go_enter Try.func13, Try.ntmps13
    go_wp2_with fail
    refine Calls.on_later (Q1.out _) ?_
    intro z1
    go_wp2_with fail
    refine Calls.on_later2 (Q2.out _) ?_
    intro z2
    go_wp2_with fail
    refine Calls.on_later2 (Q3.out _) ?_
    intro z3
    go_wp2_with fail
    refine Calls.on_later2 (Q4.out _) ?_
    intro z4
    go_wp2_with fail
    have hL2 : n ≤ 1502 := by omega
    refine (Q5.out hL2 _ (below_later HB.out z4)).mono ?_
    rintro _ W5 ⟨s5, rfl, h5, b5⟩
    have B5 : Hid (Below w.heap.size w W5) := below_over (below_later HB.out z4) b5
    have S5 : Hid (Src W5 s5 l) := h5
    clear h5 b5
    go_wp2_with fail
    refine (Q6.out W5 s5 S5.out).mono ?_
    rintro _ W6 ⟨rfl, b6⟩
    have B6 : Hid (Below w.heap.size w W6) := below_over B5.out b6
    clear b6
    go_wp2
    go_ret
    refine ⟨ret_int ?_, B6.out⟩
    rw [HE.out]
    simp [*]
end Go.Proofs.Yteljcgdenagcmaa
