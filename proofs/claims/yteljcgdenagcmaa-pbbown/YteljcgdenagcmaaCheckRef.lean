/-
  The walk of which frames may be, by definition: for every frame.
-/
import Derived.Test.YteljcgdenagcmaaTypes
namespace Go.Proofs.Yteljcgdenagcmaa
set_option linter.unusedVariables false
set_option maxRecDepth 4000
set_option linter.unusedSimpArgs false
open Go.RowKit

/-- Is a tag all zero? -/
def fz (f : Fr) : Bool := decide (f.p = 0 ∧ f.e = false ∧ f.v = 0)
/-- Is a frame wrong, however long it is? -/
def badF (f : Fr) (l : List Int) : Bool := (f.s.kd != 1) || ((f.d.kd == 6) || (decide (l.length < 2) || (if f.t then !tagOk f.p f.v else !fz f || tyN l == 34984)))
/-- The error of a frame. -/
def chkF (f : Fr) (l : List Int) : Int := if 1502 < l.length then 2 else if badF f l then 30 else 0

/-- Tags held against each other. -/
def nqS (x y : Value) : Sem Value := binOp .neq 25 x y
theorem nqS_eq (x y : Value) : binOp .neq 25 x y = nqS x y := rfl
def eqS (x y : Value) : Sem Value := binOp .eql 25 x y
theorem eqS_eq (x y : Value) : binOp .eql 25 x y = eqS x y := rfl
theorem nqS_zero (f : Fr) (w : World) : (nqS f.tag (.agg #[.int .i64 0, .bool false, .int .i64 0])).run Try.prog w = .ok (.bool (!fz f)) w := by
  unfold nqS Fr.tag fz
  obtain ⟨d, s, t, p, e, v⟩ := f
  go_simp
  by_cases h1 : p = 0 <;> by_cases h3 : v = 0 <;> cases e <;> simp [h1, h3]
theorem eqS_tag (f g : Fr) (w : World) : (eqS f.tag g.tag).run Try.prog w = .ok (.bool (decide (f.p = g.p ∧ f.e = g.e ∧ f.v = g.v))) w := by
  unfold eqS Fr.tag
  obtain ⟨d, s, t, p, e, v⟩ := f
  obtain ⟨d', s', t', p', e', v'⟩ := g
  go_simp
  by_cases h1 : p = p' <;> by_cases h3 : v = v' <;> cases e <;> cases e' <;> simp [h1, h3]

/-- Addresses held against each other. -/
def eqM (x y : Value) : Sem Value := binOp .eql 23 x y
theorem eqM_eq (x y : Value) : binOp .eql 23 x y = eqM x y := rfl
def M6.same (m n : M6) : Bool := eq6 m.a m.b m.c m.d m.e m.f n.a n.b n.c n.d n.e n.f
theorem eqM_mac (m n : M6) (w : World) : (eqM m.v n.v).run Try.prog w = .ok (.bool (m.same n)) w := by
  unfold eqM M6.v M6.same
  go_simp
theorem guard_tag (op : BinOp) (x y : Operand) (f : Fr) (cs : Array Value) (w : World) : (eqGuard op 25 x y f.tag (.agg cs)).run Try.prog w = .ok () w := by
  unfold Fr.tag
  exact run_eqGuard_agg w op 25 x y _ _ Try.eqGuardType25
theorem guard_tags (op : BinOp) (x y : Operand) (f g : Fr) (w : World) : (eqGuard op 25 x y f.tag g.tag).run Try.prog w = .ok () w := guard_tag op x y f _ w
theorem guard_mac (op : BinOp) (x y : Operand) (m n : M6) (w : World) : (eqGuard op 23 x y m.v n.v).run Try.prog w = .ok () w := by
  unfold M6.v
  exact run_eqGuard_agg w op 23 x y _ _ Try.eqGuardType23

attribute [local go_sem ↓] slS_eq ldS23 ldS25 ldS38 stS38 nqS_eq eqS_eq

/-- What is read of a frame's variable in every later world. -/
theorem FrAt.laters {W : World} {b : Nat} {f : Fr} {x : Value} (h : FrAt W b f x) :
    (∀ y : Later W, (ldS 23 (.pointer (some ⟨b, 0, none⟩))).run Try.prog y.val = .ok f.d.v y.val) ∧ (∀ y : Later W, (ldS 23 (.pointer (some ⟨b, 6, none⟩))).run Try.prog y.val = .ok f.s.v y.val) ∧
    (∀ y : Later W, (ldS 25 (.pointer (some ⟨b, 13, none⟩))).run Try.prog y.val = .ok f.tag y.val) ∧ (∀ y : Later W, (ldS 38 (.pointer (some ⟨b, 0, none⟩))).run Try.prog y.val = .ok (.agg (fcs f x)) y.val) ∧
    (∀ y : Later W, y.val.cell? ⟨b, 12, none⟩ = some (.bool f.t)) ∧ (∀ y : Later W, y.val.cell? ⟨b, 16, none⟩ = some x) :=
  ⟨fun y => (h.below y.below).ldd, fun y => (h.below y.below).lds, fun y => (h.below y.below).ldt, fun y => (h.below y.below).ld, fun y => (h.below y.below).c12, fun y => (h.below y.below).c16⟩

set_option maxHeartbeats 1000000 in
theorem checkref_any (f : Fr) (x : Value) (l : List Int) (w : World) (h : Src w x l) (hb : ∀ x ∈ l, 0 ≤ x ∧ x ≤ 255) (hf : f.ok) :
    Calls Try.prog 34 #[.agg (fcs f x)] w fun r w' => r = .returned (.int .i64 (chkF f l)) ∧ Below w.heap.size w w' := by
  have hB : Below w.heap.size w (w.alloc (.cells (fcs f x) 38)) := (Below.refl _ _).alloc (Nat.le_refl _) _
  have hF := FrAt.new w f x
  obtain ⟨a, n, c, rfl⟩ := src_form h
  obtain ⟨hn, hc, hm⟩ := src_short h
  have c16 := hF.c16
  have ls := hF.lds
  obtain ⟨yd, _, yt, _, y12, y16⟩ := hF.laters
  have H : Hid (Src (w.alloc (.cells (fcs f (.slice a n c)) 38)) (.slice a n c) l ∧ ∀ x ∈ l, 0 ≤ x ∧ x ≤ 255) := ⟨h.below hB, hb⟩
  have HF : Hid f.ok := hf
  have HB : Hid (Below w.heap.size w (w.alloc (.cells (fcs f (.slice a n c)) 38))) := hB
  have HE : Hid (chkF f l = if (1502 : Int) < (n : Int) then 2 else if (f.s.kd != 1) || ((f.d.kd == 6) || (decide ((n : Int) < 2) || (if f.t then !tagOk f.p f.v else !fz f || tyN l == 34984))) then 30 else 0) := by
    show chkF f l = _
    unfold chkF badF
    rw [hn]
    have e1 : ((1502 : Int) < ((l.length : Nat) : Int)) ↔ 1502 < l.length := by omega
    have e2 : (((l.length : Nat) : Int) < 2) ↔ l.length < 2 := by omega
    simp only [e1, e2]
  have nz := nqS_zero f
  have gd := guard_tag .neq
  clear h hb hB hf hn hF
  obtain ⟨k1, hk1⟩ : ∃ k, f.s.kd = k := ⟨_, rfl⟩
  obtain ⟨k2, hk2⟩ : ∃ k, f.d.kd = k := ⟨_, rfl⟩
  obtain ⟨N, hN⟩ : ∃ N, (tyN l == 34984) = N := ⟨_, rfl⟩
  obtain ⟨t, ht⟩ : ∃ t, f.t = t := ⟨_, rfl⟩
  obtain ⟨z, hz⟩ : ∃ z, fz f = z := ⟨_, rfl⟩
  obtain ⟨q, hq⟩ : ∃ q, tagOk f.p f.v = q := ⟨_, rfl⟩
  rw [hk1, hk2, hN, ht, hz, hq] at HE
  rw [ht] at y12
  have nz' : ∀ W, (nqS f.tag (.agg #[.int .i64 0, .bool false, .int .i64 0])).run Try.prog W = .ok (.bool (!z)) W := fun W => by rw [← hz]; exact nz W
  clear nz hz
  have P1 : ∀ W, Calls Try.prog 31 #[f.s.v] W fun r w' => r = .returned (.int .i64 k1) ∧ Below W.heap.size W w' := fun W => by rw [← hk1]; exact kind_r f.s W HF.out.2
  have P2 : ∀ W, Calls Try.prog 31 #[f.d.v] W fun r w' => r = .returned (.int .i64 k2) ∧ Below W.heap.size W w' := fun W => by rw [← hk2]; exact kind_r f.d W HF.out.1
  have P3 : ∀ W, Calls Try.prog 55 #[f.tag] W fun r w' => r = .returned (.int .i64 (chk q)) ∧ Below W.heap.size W w' := fun W => by rw [← hq]; exact check_r f W
  have P4 : ∀ y : Later (w.alloc (.cells (fcs f (.slice a n c)) 38)), Calls Try.prog 56 #[.slice a n c] y.val fun r w' => r = .returned (.bool N) ∧ Below y.val.heap.size y.val w' := fun y => by rw [← hN]; exact tagged_any _ l _ (H.out.1.below y.below) H.out.2
  have Q1 : Hid (∀ W, Calls Try.prog 31 #[f.s.v] W fun r w' => r = .returned (.int .i64 k1) ∧ Below W.heap.size W w') := P1
  have Q2 : Hid (∀ W, Calls Try.prog 31 #[f.d.v] W fun r w' => r = .returned (.int .i64 k2) ∧ Below W.heap.size W w') := P2
  have Q3 : Hid (∀ W, Calls Try.prog 55 #[f.tag] W fun r w' => r = .returned (.int .i64 (chk q)) ∧ Below W.heap.size W w') := P3
  have Q4 : Hid (∀ y : Later (w.alloc (.cells (fcs f (.slice a n c)) 38)), Calls Try.prog 56 #[.slice a n c] y.val fun r w' => r = .returned (.bool N) ∧ Below y.val.heap.size y.val w') := P4
  clear P1 P2 P3 P4 hk1 hk2 hN ht hq H HF
  by_cases hL : (1502 : Int) < (n : Int)
  · clear Q1 Q2 Q3 Q4 yd yt y12 y16 ls nz'
    go_enter Try.func34, Try.ntmps34
    go_wp2
    go_ret
    refine ⟨ret_int ?_, HB.out⟩
    rw [HE.out]
    simp [*]
  cases g1 : (k1 != 1)
  rotate_left
  · clear Q2 Q3 Q4 yd yt y12 y16 nz'
    go_enter Try.func34, Try.ntmps34
    go_wp2_with fail
    refine Calls.on_later (Q1.out _) ?_
    intro yQ1
    go_wp2
    go_ret
    refine ⟨ret_int ?_, below_later HB.out _⟩
    rw [HE.out]
    have o1 : ¬ (1502 : Int) < (n : Int) := by omega
    first | (simp [*, chk]; done) | (have o2 : ¬ (n : Int) < 2 := (by omega); simp [*, chk])
  cases g2 : (k2 == 6)
  rotate_left
  · clear Q3 Q4 yt y12 y16 nz'
    go_enter Try.func34, Try.ntmps34
    go_wp2_with fail
    refine Calls.on_later (Q1.out _) ?_
    intro yQ1
    go_wp2_with fail
    refine Calls.on_later2 (Q2.out _) ?_
    intro yQ2
    go_wp2
    go_ret
    refine ⟨ret_int ?_, below_later HB.out _⟩
    rw [HE.out]
    have o1 : ¬ (1502 : Int) < (n : Int) := by omega
    first | (simp [*, chk]; done) | (have o2 : ¬ (n : Int) < 2 := (by omega); simp [*, chk])
  by_cases hS : (n : Int) < 2
  · clear Q3 Q4 yt y12 nz'
    go_enter Try.func34, Try.ntmps34
    go_wp2_with fail
    refine Calls.on_later (Q1.out _) ?_
    intro yQ1
    go_wp2_with fail
    refine Calls.on_later2 (Q2.out _) ?_
    intro yQ2
    go_wp2
    go_ret
    refine ⟨ret_int ?_, below_later HB.out _⟩
    rw [HE.out]
    have o1 : ¬ (1502 : Int) < (n : Int) := by omega
    first | (simp [*, chk]; done) | (have o2 : ¬ (n : Int) < 2 := (by omega); simp [*, chk])
  cases t
  · cases z
    · clear Q3 Q4
      go_enter Try.func34, Try.ntmps34
      go_wp2_with fail
      refine Calls.on_later (Q1.out _) ?_
      intro yQ1
      go_wp2_with fail
      refine Calls.on_later2 (Q2.out _) ?_
      intro yQ2
      go_wp2
      go_ret
      refine ⟨ret_int ?_, below_later HB.out _⟩
      rw [HE.out]
      have o1 : ¬ (1502 : Int) < (n : Int) := by omega
      first | (simp [*, chk]; done) | (have o2 : ¬ (n : Int) < 2 := (by omega); simp [*, chk])
    · cases N
      all_goals
        clear Q3
        go_enter Try.func34, Try.ntmps34
        go_wp2_with fail
        refine Calls.on_later (Q1.out _) ?_
        intro yQ1
        go_wp2_with fail
        refine Calls.on_later2 (Q2.out _) ?_
        intro yQ2
        go_wp2_with fail
        refine Calls.on_later2 (Q4.out _) ?_
        intro yQ4
        go_wp2
        go_ret
        refine ⟨ret_int ?_, below_later HB.out _⟩
        rw [HE.out]
        have o1 : ¬ (1502 : Int) < (n : Int) := by omega
        first | (simp [*, chk]; done) | (have o2 : ¬ (n : Int) < 2 := (by omega); simp [*, chk])
  · cases q
    all_goals
      clear Q4 nz'
      go_enter Try.func34, Try.ntmps34
      go_wp2_with fail
      refine Calls.on_later (Q1.out _) ?_
      intro yQ1
      go_wp2_with fail
      refine Calls.on_later2 (Q2.out _) ?_
      intro yQ2
      go_wp2_with fail
      refine Calls.on_later2 (Q3.out _) ?_
      intro yQ3
      go_wp2
      go_ret
      refine ⟨ret_int ?_, below_later HB.out _⟩
      rw [HE.out]
      have o1 : ¬ (1502 : Int) < (n : Int) := by omega
      first | (simp [*, chk]; done) | (have o2 : ¬ (n : Int) < 2 := (by omega); simp [*, chk])
end Go.Proofs.Yteljcgdenagcmaa
