/-
  Reasons, addresses, services' groups: walks of code and definition, each for every input. The walk of which frames may be, by definition: for every frame. The walk of what is wrong with a frame: for every frame.
-/
import Derived.Test.YtgjagedngdhdaaaJ06Put
import Derived.Test.YtgjagedngdhdaaaJ13XFrame
import Derived.Test.YtgjagedngdhdaaaJ01Sq
namespace Go.Proofs.Ytgjagedngdhdaaa

section
set_option linter.unusedVariables false
set_option maxRecDepth 4000
set_option linter.unusedSimpArgs false
open Go.RowKit

/-! ### sealed -/
theorem ldFr (x : Value) : Instr.loadAt 34 x = ldS 34 x := rfl
theorem stFr (x y : Value) : Instr.storeAt 34 x y = stS 34 x y := rfl
theorem ldBf (x : Value) : Instr.loadAt 49 x = ldS 49 x := rfl
theorem stBf (x y : Value) : Instr.storeAt 49 x y = stS 49 x y := rfl
theorem ldMc (x : Value) : Instr.loadAt 23 x = ldS 23 x := rfl
theorem stMc (x y : Value) : Instr.storeAt 23 x y = stS 23 x y := rfl
theorem rtMc : RowTy 23 6 := ⟨S4.info_MAC, _, Try.underlying23, rfl⟩
/-- An address's cells. -/
def mc (m : S4.M6) : Array Value := #[.int .u8 m.a, .int .u8 m.b, .int .u8 m.c, .int .u8 m.d, .int .u8 m.e, .int .u8 m.f]
theorem mc_v (m : S4.M6) : (.agg (mc m) : Value) = m.v := rfl
theorem mc_one (m : S4.M6) : ∀ v ∈ (mc m).toList, v.oneCell' = true := one_of rfl
def McAt (W : World) (b : Nat) (m : S4.M6) : Prop := RvAt W b 23 (mc m)
theorem McAt.below {W W' : World} {b : Nat} {m : S4.M6} (h : McAt W b m) (hb : Below W.heap.size W W') : McAt W' b m := RvAt.below h hb
theorem McAt.ld {W : World} {b : Nat} {m : S4.M6} (h : McAt W b m) : (ldS 23 (.pointer (some ⟨b, 0, none⟩))).run Try.prog W = .ok (.agg (mc m)) W := RvAt.ld rtMc h rfl
theorem McAt.new (W : World) (m : S4.M6) : ∃ V, W.alloc (.cells (mc m) 23) = V ∧ McAt V W.heap.size m ∧ Below W.heap.size W V ∧ V.heap.size = W.heap.size + 1 := ⟨_, rfl, RvAt.new W _ _, (Below.refl _ _).alloc (Nat.le_refl _) _, by simp⟩
def zM : S4.M6 := ⟨0, 0, 0, 0, 0, 0⟩
theorem McAt.zero (W : World) : ∃ V, W.alloc (.cells #[.int .u8 0, .int .u8 0, .int .u8 0, .int .u8 0, .int .u8 0, .int .u8 0] 23) = V ∧ McAt V W.heap.size zM ∧ Below W.heap.size W V ∧ V.heap.size = W.heap.size + 1 := McAt.new W zM
theorem McAt.st {W : World} {b : Nat} {m : S4.M6} (h : McAt W b m) (n : S4.M6) : ∃ V, (stS 23 (.pointer (some ⟨b, 0, none⟩)) (.agg (mc n))).run Try.prog W = .ok () V ∧ McAt V b n ∧ W.grownBy V (some b) := ⟨_, RvAt.st rtMc h rfl rfl (mc_one n), RvAt.set h, grown_row _ _ _⟩
theorem McAt.put (W : World) (n : S4.M6) : ∃ V, (stS 23 (.pointer (some ⟨W.heap.size, 0, none⟩)) (.agg (mc n))).run Try.prog (W.alloc (.cells #[.int .u8 0, .int .u8 0, .int .u8 0, .int .u8 0, .int .u8 0, .int .u8 0] 23)) = .ok () V ∧ McAt V W.heap.size n ∧ Below W.heap.size W V := by
  obtain ⟨V, h1, h2, h3, _⟩ := row_new rtMc W (mc zM) (mc n) rfl rfl (mc_one n)
  exact ⟨V, h1, h2, h3⟩
theorem mz_agg : (.agg #[.int .u8 0, .int .u8 0, .int .u8 0, .int .u8 0, .int .u8 0, .int .u8 0] : Value) = .agg (mc zM) := rfl
def oM (x : O6) : S4.M6 := ⟨x.a, x.b, x.c, x.d, x.e, x.f⟩
theorem oM_cs (x : O6) : x.cs = mc (oM x) := rfl
theorem oM_ok {x : O6} (h : x.wf) : (oM x).ok := by
  obtain ⟨h1, h2, h3, h4, h5, h6⟩ := h
  intro z hz
  simp only [S4.M6.l, oM, List.mem_cons, List.not_mem_nil, or_false] at hz
  rcases hz with rfl | rfl | rfl | rfl | rfl | rfl
  all_goals assumption

/-! ### reasons -/
def whyE (e : Int) : Int := if e = 0 then 0 else if e = 2 then 6 else 5
theorem why_zero {e : Int} : whyE e = 0 ↔ e = 0 := by
  unfold whyE
  split
  · simp [*]
  · split <;> simp [*]
set_option maxHeartbeats 1000000 in
theorem reason_any (e : Int) (w : World) : Calls Try.prog 33 #[.int .i64 e] w fun r w' => r = .returned (.int .i64 (whyE e)) ∧ Below w.heap.size w w' := by
  by_cases h0 : e = 0
  · subst h0
    go_enter Try.func33, Try.ntmps33
    go_wp2
    go_ret
    exact ⟨rfl, Below.refl _ _⟩
  · by_cases h2 : e = 2
    · subst h2
      go_enter Try.func33, Try.ntmps33
      go_wp2
      go_ret
      exact ⟨rfl, Below.refl _ _⟩
    · have q0 : (e == 0) = false := by simp [h0]
      have q2 : (e == 2) = false := by simp [h2]
      have E : Hid (whyE e = 5) := by unfold whyE; rw [if_neg h0, if_neg h2]; exact rfl
      clear h0 h2
      go_enter Try.func33, Try.ntmps33
      go_wp2
      go_ret
      exact ⟨by rw [E.out]; exact rfl, Below.refl _ _⟩
set_option maxHeartbeats 1000000 in
theorem rreason_any (e : Int) (w : World) : Calls Try.prog 34 #[.int .i64 e] w fun r w' => r = .returned (.int .i64 (whyE e)) ∧ Below w.heap.size w w' := by
  by_cases h0 : e = 0
  · subst h0
    go_enter Try.func34, Try.ntmps34
    go_wp2
    go_ret
    exact ⟨rfl, Below.refl _ _⟩
  · by_cases h2 : e = 2
    · subst h2
      go_enter Try.func34, Try.ntmps34
      go_wp2
      go_ret
      exact ⟨rfl, Below.refl _ _⟩
    · have q0 : (e == 0) = false := by simp [h0]
      have q2 : (e == 2) = false := by simp [h2]
      have E : Hid (whyE e = 5) := by unfold whyE; rw [if_neg h0, if_neg h2]; exact rfl
      clear h0 h2
      go_enter Try.func34, Try.ntmps34
      go_wp2
      go_ret
      exact ⟨by rw [E.out]; exact rfl, Below.refl _ _⟩

/-! ### one station's -/
attribute [local go_sem ↓] ldMc stMc
set_option maxHeartbeats 1000000 in
theorem sing_any (m : S4.M6) (w : World) (h : m.ok) : Calls Try.prog 42 #[.agg (mc m)] w fun r w' => r = .returned (.bool (m.kd == 1)) ∧ Below w.heap.size w w' := by
  obtain ⟨V, hV, m0, bV, zV⟩ := McAt.new w m
  have l0 := m0.ld
  have H : Hid (Below w.heap.size w V ∧ m.ok) := ⟨bV, h⟩
  obtain ⟨K, hK⟩ : ∃ z, m.kd = z := ⟨_, rfl⟩
  have C : Hid (Calls Try.prog 70 #[.agg (mc m)] V fun r w' => r = .returned (.int .i64 K) ∧ Below V.heap.size V w') := by rw [← hK]; exact S4.kind_m m V h
  rw [hK]
  clear bV zV m0 h hK
  go_enter Try.func42, Try.ntmps42
  go_wp2_with fail
  refine C.out.mono ?_
  rintro _ X ⟨rfl, hX⟩
  have B : Hid (Below w.heap.size w X) := below_over H.out.1 hX
  clear hX
  go_wp2
  go_ret
  exact ⟨rfl, B.out⟩

/-! ### groups -/
def grM (s : Int) : S4.M6 := if 1 ≤ s ∧ s ≤ 16777215 then ⟨1, 30, 131, s / 65536, s / 256 % 256, s % 256⟩ else zM
def grE (s : Int) : Int := if 1 ≤ s ∧ s ≤ 16777215 then 0 else 1
theorem grM_ok (s : Int) : (grM s).ok := by
  unfold grM
  split
  · intro z hz
    simp only [S4.M6.l, List.mem_cons, List.not_mem_nil, or_false] at hz
    rcases hz with rfl | rfl | rfl | rfl | rfl | rfl <;> omega
  · intro z hz
    simp only [S4.M6.l, zM, List.mem_cons, List.not_mem_nil, or_false] at hz
    rcases hz with rfl | rfl | rfl | rfl | rfl | rfl <;> omega
theorem ret_agg6 {a b c d e f a' b' c' d' e' f' : Int} (ha : a = a') (hb : b = b') (hc : c = c') (hd : d = d') (he : e = e') (hf : f = f') :
    Ending.returned (.agg #[.int .u8 a, .int .u8 b, .int .u8 c, .int .u8 d, .int .u8 e, .int .u8 f]) = .returned (.agg #[.int .u8 a', .int .u8 b', .int .u8 c', .int .u8 d', .int .u8 e', .int .u8 f']) := by
  rw [ha, hb, hc, hd, he, hf]
theorem grM_yes {n : Int} (h : 1 ≤ n ∧ n ≤ 16777215) : grM n = ⟨1, 30, 131, n / 65536, n / 256 % 256, n % 256⟩ := if_pos h
end

section
namespace S4
set_option linter.unusedVariables false
set_option maxRecDepth 4000
set_option linter.unusedSimpArgs false
open Go.RowKit

/-- Is a tag all zero? -/
def fz (f : Fr) : Bool := decide (f.p = 0 ∧ f.e = false ∧ f.v = 0)
/-- Is a frame wrong, however long it is? -/
def badF (f : Fr) (l : List Int) : Bool := (f.s.kd != 1) || ((f.d.kd == 6) || (decide (l.length < 2) || (if f.t then !tagOk f.p f.v else !fz f || tyN l == 34984)))
/-- The error of a frame. -/
def chkF (f : Fr) (l : List Int) : Int := if 1502 < l.length then 2 else if badF f l then 30 else 0

/-- Tags held against each other. -/
def nqS (x y : Value) : Sem Value := binOp .neq 32 x y
theorem nqS_eq (x y : Value) : binOp .neq 32 x y = nqS x y := rfl
def eqS (x y : Value) : Sem Value := binOp .eql 32 x y
theorem eqS_eq (x y : Value) : binOp .eql 32 x y = eqS x y := rfl
theorem nqS_zero (f : Fr) (w : World) : (nqS f.tag (.agg #[.int .i64 0, .bool false, .int .i64 0])).run Try.prog w = .ok (.bool (!fz f)) w := by
  unfold nqS Fr.tag fz
  obtain ⟨d, s, t, p, e, v⟩ := f
  go_simp
  by_cases h1 : p = 0 <;> by_cases h3 : v = 0 <;> cases e <;> simp [h1, h3]
theorem eqS_tag (f g : Fr) (w : World) : (eqS f.tag g.tag).run Try.prog w = .ok (.bool (decide (f.p = g.p ∧ f.e = g.e ∧ f.v = g.v))) w := by
  unfold eqS Fr.tag
  obtain ⟨d, s, t, p, e, v⟩ := f
  obtain ⟨d', s', t', p', e', v'⟩ := g
  go_simp
  by_cases h1 : p = p' <;> by_cases h3 : v = v' <;> cases e <;> cases e' <;> simp [h1, h3]

/-- Addresses held against each other. -/
def eqM (x y : Value) : Sem Value := binOp .eql 23 x y
theorem eqM_eq (x y : Value) : binOp .eql 23 x y = eqM x y := rfl
def M6.same (m n : M6) : Bool := eq6 m.a m.b m.c m.d m.e m.f n.a n.b n.c n.d n.e n.f
theorem eqM_mac (m n : M6) (w : World) : (eqM m.v n.v).run Try.prog w = .ok (.bool (m.same n)) w := by
  unfold eqM M6.v M6.same
  go_simp
theorem guard_tag (op : BinOp) (x y : Operand) (f : Fr) (cs : Array Value) (w : World) : (eqGuard op 32 x y f.tag (.agg cs)).run Try.prog w = .ok () w := by
  unfold Fr.tag
  exact run_eqGuard_agg w op 32 x y _ _ Try.eqGuardType32
theorem guard_tags (op : BinOp) (x y : Operand) (f g : Fr) (w : World) : (eqGuard op 32 x y f.tag g.tag).run Try.prog w = .ok () w := guard_tag op x y f _ w
theorem guard_mac (op : BinOp) (x y : Operand) (m n : M6) (w : World) : (eqGuard op 23 x y m.v n.v).run Try.prog w = .ok () w := by
  unfold M6.v
  exact run_eqGuard_agg w op 23 x y _ _ Try.eqGuardType23

attribute [local go_sem ↓] slS_eq ldS_MAC ldS_Tag ldS_Frame stS_Frame nqS_eq eqS_eq

/-- What is read of a frame's variable in every later world. -/
theorem FrAt.laters {W : World} {b : Nat} {f : Fr} {x : Value} (h : FrAt W b f x) :
    (∀ y : Later W, (ldS 23 (.pointer (some ⟨b, 0, none⟩))).run Try.prog y.val = .ok f.d.v y.val) ∧ (∀ y : Later W, (ldS 23 (.pointer (some ⟨b, 6, none⟩))).run Try.prog y.val = .ok f.s.v y.val) ∧
    (∀ y : Later W, (ldS 32 (.pointer (some ⟨b, 13, none⟩))).run Try.prog y.val = .ok f.tag y.val) ∧ (∀ y : Later W, (ldS 34 (.pointer (some ⟨b, 0, none⟩))).run Try.prog y.val = .ok (.agg (fcs f x)) y.val) ∧
    (∀ y : Later W, y.val.cell? ⟨b, 12, none⟩ = some (.bool f.t)) ∧ (∀ y : Later W, y.val.cell? ⟨b, 16, none⟩ = some x) :=
  ⟨fun y => (h.below y.below).ldd, fun y => (h.below y.below).lds, fun y => (h.below y.below).ldt, fun y => (h.below y.below).ld, fun y => (h.below y.below).c12, fun y => (h.below y.below).c16⟩

set_option maxHeartbeats 1000000 in
theorem checkref_any (f : Fr) (x : Value) (l : List Int) (w : World) (h : Src w x l) (hb : ∀ x ∈ l, 0 ≤ x ∧ x ≤ 255) (hf : f.ok) :
    Calls Try.prog 30 #[.agg (fcs f x)] w fun r w' => r = .returned (.int .i64 (chkF f l)) ∧ Below w.heap.size w w' := by
  have hB : Below w.heap.size w (w.alloc (.cells (fcs f x) 34)) := (Below.refl _ _).alloc (Nat.le_refl _) _
  have hF := FrAt.new w f x
  obtain ⟨a, n, c, rfl⟩ := src_form h
  obtain ⟨hn, hc, hm⟩ := src_short h
  have c16 := hF.c16
  have ls := hF.lds
  obtain ⟨yd, _, yt, _, y12, y16⟩ := hF.laters
  have H : Hid (Src (w.alloc (.cells (fcs f (.slice a n c)) 34)) (.slice a n c) l ∧ ∀ x ∈ l, 0 ≤ x ∧ x ≤ 255) := ⟨h.below hB, hb⟩
  have HF : Hid f.ok := hf
  have HB : Hid (Below w.heap.size w (w.alloc (.cells (fcs f (.slice a n c)) 34))) := hB
  have HE : Hid (chkF f l = if (1502 : Int) < (n : Int) then 2 else if (f.s.kd != 1) || ((f.d.kd == 6) || (decide ((n : Int) < 2) || (if f.t then !tagOk f.p f.v else !fz f || tyN l == 34984))) then 30 else 0) := by
    show chkF f l = _
    unfold chkF badF
    rw [hn]
    have e1 : ((1502 : Int) < ((l.length : Nat) : Int)) ↔ 1502 < l.length := by omega
    have e2 : (((l.length : Nat) : Int) < 2) ↔ l.length < 2 := by omega
    simp only [e1, e2]
  have nz := nqS_zero f
  have gd := guard_tag .neq
  clear h hb hB hf hn hF
  obtain ⟨k1, hk1⟩ : ∃ k, f.s.kd = k := ⟨_, rfl⟩
  obtain ⟨k2, hk2⟩ : ∃ k, f.d.kd = k := ⟨_, rfl⟩
  obtain ⟨N, hN⟩ : ∃ N, (tyN l == 34984) = N := ⟨_, rfl⟩
  obtain ⟨t, ht⟩ : ∃ t, f.t = t := ⟨_, rfl⟩
  obtain ⟨z, hz⟩ : ∃ z, fz f = z := ⟨_, rfl⟩
  obtain ⟨q, hq⟩ : ∃ q, tagOk f.p f.v = q := ⟨_, rfl⟩
  rw [hk1, hk2, hN, ht, hz, hq] at HE
  rw [ht] at y12
  have nz' : ∀ W, (nqS f.tag (.agg #[.int .i64 0, .bool false, .int .i64 0])).run Try.prog W = .ok (.bool (!z)) W := fun W => by rw [← hz]; exact nz W
  clear nz hz
  have P1 : ∀ W, Calls Try.prog 45 #[f.s.v] W fun r w' => r = .returned (.int .i64 k1) ∧ Below W.heap.size W w' := fun W => by rw [← hk1]; exact kind_r f.s W HF.out.2
  have P2 : ∀ W, Calls Try.prog 45 #[f.d.v] W fun r w' => r = .returned (.int .i64 k2) ∧ Below W.heap.size W w' := fun W => by rw [← hk2]; exact kind_r f.d W HF.out.1
  have P3 : ∀ W, Calls Try.prog 61 #[f.tag] W fun r w' => r = .returned (.int .i64 (chk q)) ∧ Below W.heap.size W w' := fun W => by rw [← hq]; exact check_r f W
  have P4 : ∀ y : Later (w.alloc (.cells (fcs f (.slice a n c)) 34)), Calls Try.prog 59 #[.slice a n c] y.val fun r w' => r = .returned (.bool N) ∧ Below y.val.heap.size y.val w' := fun y => by rw [← hN]; exact tagged_any _ l _ (H.out.1.below y.below) H.out.2
  have Q1 : Hid (∀ W, Calls Try.prog 45 #[f.s.v] W fun r w' => r = .returned (.int .i64 k1) ∧ Below W.heap.size W w') := P1
  have Q2 : Hid (∀ W, Calls Try.prog 45 #[f.d.v] W fun r w' => r = .returned (.int .i64 k2) ∧ Below W.heap.size W w') := P2
  have Q3 : Hid (∀ W, Calls Try.prog 61 #[f.tag] W fun r w' => r = .returned (.int .i64 (chk q)) ∧ Below W.heap.size W w') := P3
  have Q4 : Hid (∀ y : Later (w.alloc (.cells (fcs f (.slice a n c)) 34)), Calls Try.prog 59 #[.slice a n c] y.val fun r w' => r = .returned (.bool N) ∧ Below y.val.heap.size y.val w') := P4
  clear P1 P2 P3 P4 hk1 hk2 hN ht hq H HF
  by_cases hL : (1502 : Int) < (n : Int)
  · clear Q1 Q2 Q3 Q4 yd yt y12 y16 ls nz'
    go_enter Try.func30, Try.ntmps30
    go_wp2
    go_ret
    refine ⟨ret_int ?_, HB.out⟩
    rw [HE.out]
    simp [*]
  cases g1 : (k1 != 1)
  rotate_left
  · clear Q2 Q3 Q4 yd yt y12 y16 nz'
    go_enter Try.func30, Try.ntmps30
    go_wp2_with fail
    refine Calls.on_later (Q1.out _) ?_
    intro yQ1
    go_wp2
    go_ret
    refine ⟨ret_int ?_, below_later HB.out _⟩
    rw [HE.out]
    have o1 : ¬ (1502 : Int) < (n : Int) := by omega
    first | (simp [*, chk]; done) | (have o2 : ¬ (n : Int) < 2 := (by omega); simp [*, chk])
  cases g2 : (k2 == 6)
  rotate_left
  · clear Q3 Q4 yt y12 y16 nz'
    go_enter Try.func30, Try.ntmps30
    go_wp2_with fail
    refine Calls.on_later (Q1.out _) ?_
    intro yQ1
    go_wp2_with fail
    refine Calls.on_later2 (Q2.out _) ?_
    intro yQ2
    go_wp2
    go_ret
    refine ⟨ret_int ?_, below_later HB.out _⟩
    rw [HE.out]
    have o1 : ¬ (1502 : Int) < (n : Int) := by omega
    first | (simp [*, chk]; done) | (have o2 : ¬ (n : Int) < 2 := (by omega); simp [*, chk])
  by_cases hS : (n : Int) < 2
  · clear Q3 Q4 yt y12 nz'
    go_enter Try.func30, Try.ntmps30
    go_wp2_with fail
    refine Calls.on_later (Q1.out _) ?_
    intro yQ1
    go_wp2_with fail
    refine Calls.on_later2 (Q2.out _) ?_
    intro yQ2
    go_wp2
    go_ret
    refine ⟨ret_int ?_, below_later HB.out _⟩
    rw [HE.out]
    have o1 : ¬ (1502 : Int) < (n : Int) := by omega
    first | (simp [*, chk]; done) | (have o2 : ¬ (n : Int) < 2 := (by omega); simp [*, chk])
  cases t
  · cases z
    · clear Q3 Q4
      go_enter Try.func30, Try.ntmps30
      go_wp2_with fail
      refine Calls.on_later (Q1.out _) ?_
      intro yQ1
      go_wp2_with fail
      refine Calls.on_later2 (Q2.out _) ?_
      intro yQ2
      go_wp2
      go_ret
      refine ⟨ret_int ?_, below_later HB.out _⟩
      rw [HE.out]
      have o1 : ¬ (1502 : Int) < (n : Int) := by omega
      first | (simp [*, chk]; done) | (have o2 : ¬ (n : Int) < 2 := (by omega); simp [*, chk])
    · cases N
      all_goals
        clear Q3
        go_enter Try.func30, Try.ntmps30
        go_wp2_with fail
        refine Calls.on_later (Q1.out _) ?_
        intro yQ1
        go_wp2_with fail
        refine Calls.on_later2 (Q2.out _) ?_
        intro yQ2
        go_wp2_with fail
        refine Calls.on_later2 (Q4.out _) ?_
        intro yQ4
        go_wp2
        go_ret
        refine ⟨ret_int ?_, below_later HB.out _⟩
        rw [HE.out]
        have o1 : ¬ (1502 : Int) < (n : Int) := by omega
        first | (simp [*, chk]; done) | (have o2 : ¬ (n : Int) < 2 := (by omega); simp [*, chk])
  · cases q
    all_goals
      clear Q4 nz'
      go_enter Try.func30, Try.ntmps30
      go_wp2_with fail
      refine Calls.on_later (Q1.out _) ?_
      intro yQ1
      go_wp2_with fail
      refine Calls.on_later2 (Q2.out _) ?_
      intro yQ2
      go_wp2_with fail
      refine Calls.on_later2 (Q3.out _) ?_
      intro yQ3
      go_wp2
      go_ret
      refine ⟨ret_int ?_, below_later HB.out _⟩
      rw [HE.out]
      have o1 : ¬ (1502 : Int) < (n : Int) := by omega
      first | (simp [*, chk]; done) | (have o2 : ¬ (n : Int) < 2 := (by omega); simp [*, chk])
end S4
end

section
namespace S4
set_option linter.unusedVariables false
set_option maxRecDepth 4000
set_option linter.unusedSimpArgs false
open Go.RowKit

attribute [local go_sem ↓] slS_eq ldS_MAC ldS_Tag ldS_Frame stS_Frame nqS_eq eqS_eq

/-- What is read of a frame's variable. -/
def Reads (W : World) (b : Nat) (f : Fr) (x : Value) : Prop :=
  (ldS 23 (.pointer (some ⟨b, 0, none⟩))).run Try.prog W = .ok f.d.v W ∧ (ldS 23 (.pointer (some ⟨b, 6, none⟩))).run Try.prog W = .ok f.s.v W ∧
  (ldS 32 (.pointer (some ⟨b, 13, none⟩))).run Try.prog W = .ok f.tag W ∧ (ldS 34 (.pointer (some ⟨b, 0, none⟩))).run Try.prog W = .ok (.agg (fcs f x)) W ∧
  W.cell? ⟨b, 12, none⟩ = some (.bool f.t) ∧ W.cell? ⟨b, 16, none⟩ = some x
theorem FrAt.reads {W : World} {b : Nat} {f : Fr} {x : Value} (h : FrAt W b f x) : Reads W b f x := ⟨h.ldd, h.lds, h.ldt, h.ld, h.c12, h.c16⟩

/-- A contract, met where a frame's variable stands. -/
theorem Calls.on_fr {P : Program} {F : FuncId} {args : Array Value} {W0 W : World} {v : Value} {K : Ending → World → Prop} {b : Nat} {f : Fr} {x : Value}
    (h : Calls P F args W fun e w' => e = .returned v ∧ Below W.heap.size W w') (hF : Hid (FrAt W b f x)) (hB : Hid (Below W0.heap.size W0 W)) (k : ∀ W', Hid (FrAt W' b f x) → Hid (Below W0.heap.size W0 W') → Reads W' b f x → K (.returned v) W') : Calls P F args W K :=
  h.mono fun _ w' ⟨he, hb⟩ => by subst he; exact k w' (hF.out.below hb) (below_over hB.out hb) (hF.out.below hb).reads

set_option maxHeartbeats 400000 in
theorem faults_long (f : Fr) (a : Option Addr) (n c : Nat) (w : World) (hc : n ≤ c) (hm : c ≤ maxLen) :
    Calls Try.prog 67 #[.agg (fcs f (.slice a n c)), .int .i64 2] w fun r w' => ∃ g, r = .returned (.slice (some ⟨g, 0, none⟩) 1 1) ∧ w'.cell? ⟨g, 0, none⟩ = some (.bool (decide ((1502 : Int) < (n : Int)))) ∧ Below w.heap.size w w' := by
  have c16 := (FrAt.new w f (.slice a n c)).c16
  go_enter Try.func67, Try.ntmps67
  go_wp2
  go_ret
  refine ⟨_, rfl, ?_, by go_grown⟩
  simp

set_option maxHeartbeats 2000000 in
theorem faults_all (f : Fr) (a : Option Addr) (n c : Nat) (l : List Int) (w : World) (h : Src w (.slice a n c) l) (hb : ∀ x ∈ l, 0 ≤ x ∧ x ≤ 255) (hf : f.ok) :
    Calls Try.prog 67 #[.agg (fcs f (.slice a n c)), .int .i64 30] w fun r w' => ∃ g, r = .returned (.slice (some ⟨g, 0, none⟩) 6 6) ∧ w'.cell? ⟨g, 0, none⟩ = some (.bool (f.s.kd != 1)) ∧ w'.cell? ⟨g, 1, none⟩ = some (.bool (f.d.kd == 6)) ∧
      w'.cell? ⟨g, 2, none⟩ = some (.bool (if f.t then !tagOk f.p f.v else false)) ∧ w'.cell? ⟨g, 3, none⟩ = some (.bool (if f.t then false else !fz f)) ∧ w'.cell? ⟨g, 4, none⟩ = some (.bool (decide ((n : Int) < 2))) ∧ w'.cell? ⟨g, 5, none⟩ = some (.bool (if f.t then false else tyN l == 34984)) ∧ Below w.heap.size w w' := by
  have hB : Below w.heap.size w (w.alloc (.cells (fcs f (.slice a n c)) 34)) := (Below.refl _ _).alloc (Nat.le_refl _) _
  obtain ⟨hn, hc, hm⟩ := src_short h
  have H : Hid (Src w (.slice a n c) l ∧ ∀ x ∈ l, 0 ≤ x ∧ x ≤ 255) := ⟨h, hb⟩
  have hF := FrAt.new w f (.slice a n c)
  obtain ⟨yd, ys, yt, yl, y12, y16⟩ := hF.laters
  have nz := nqS_zero f
  have gd := guard_tag .neq
  obtain ⟨t, ht⟩ : ∃ t, f.t = t := ⟨_, rfl⟩
  obtain ⟨z, hz⟩ : ∃ z, fz f = z := ⟨_, rfl⟩
  obtain ⟨q, hq⟩ : ∃ q, tagOk f.p f.v = q := ⟨_, rfl⟩
  obtain ⟨m1, hm1⟩ : ∃ k, f.s.kd = k := ⟨_, rfl⟩
  obtain ⟨m2, hm2⟩ : ∃ k, f.d.kd = k := ⟨_, rfl⟩
  obtain ⟨N, hN⟩ : ∃ N, tyN l = N := ⟨_, rfl⟩
  have Q1 : Hid (∀ W, Calls Try.prog 70 #[f.s.v] W fun r w' => r = .returned (.int .i64 m1) ∧ Below W.heap.size W w') := fun W => by rw [← hm1]; exact kind_m f.s W hf.2
  have Q2 : Hid (∀ W, Calls Try.prog 70 #[f.d.v] W fun r w' => r = .returned (.int .i64 m2) ∧ Below W.heap.size W w') := fun W => by rw [← hm2]; exact kind_m f.d W hf.1
  have Q3 : Hid (∀ W, Calls Try.prog 81 #[f.tag] W fun r w' => r = .returned (.int .i64 (chk q)) ∧ Below W.heap.size W w') := fun W => by rw [← hq]; exact check_f f W
  have Q4 : Hid (∀ y : Later (w.alloc (.cells (fcs f (.slice a n c)) 34)), Calls Try.prog 92 #[.agg (fcs f (.slice a n c))] y.val fun r w' => r = .returned (.int .i64 N) ∧ Below y.val.heap.size y.val w') := fun y => by rw [← hN]; exact type_any f _ l _ ((H.out.1.below hB).below y.below) H.out.2
  have HB : Hid (Below w.heap.size w (w.alloc (.cells (fcs f (.slice a n c)) 34))) := hB
  rw [ht] at y12
  rw [hz] at nz
  rw [hm1, hm2, ht, hz, hq, hN]
  clear h hb hf hn hF hB H hm1 hm2 hN hz hq ht
  cases t
  all_goals
    go_enter Try.func67, Try.ntmps67
    go_wp2
    refine wp_region_later_tail 37 (by kernel_rfl) (by kernel_rfl) ?_
    simp only [List.take_succ_cons, List.take_zero]
    repeat (go_big_quiet_step (first | exact rfl | (go_at_call 70; with_reducible exact Calls.later_of (Q1.out _)) | (go_at_call 70; with_reducible exact Calls.later_of (Q2.out _)) | (go_at_call 81; with_reducible exact Calls.later_of (Q3.out _)) | (go_at_call 92; with_reducible exact Calls.later_of (Q4.out _))))
    refine wpQuiet_nil ?_
    intro x
    simp only [List.drop_succ_cons, List.drop_zero]
    go_wp2
    go_ret
    refine ⟨_, rfl, ?_, ?_, ?_, ?_, ?_, ?_, (below_later HB.out x).alloc (below_later HB.out x).size _⟩
    all_goals first | (simp [chk]; done) | (cases q <;> simp [chk])
end S4
end

end Go.Proofs.Ytgjagedngdhdaaa
