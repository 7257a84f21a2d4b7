/-
  Vectors in memory, held against each other: the walks of parts, Compare, Better, each for every input. And what follows from it here.
-/
import Derived.Test.YtlchejbggnbccaaGreatBbb
import Derived.Test.YtlchejbggnbccaaGreatBba
import Derived.Laws.BitsAllLaws
namespace Go.Proofs.YtlchejbggnbccaaGreat
set_option linter.unusedVariables false
set_option linter.unusedSimpArgs false
set_option maxRecDepth 4000
section
namespace S11
open Go.RowKit

structure V4 where
  r : Int
  c : Int
  b : Int
  p : Int
def V4.cs (v : V4) : Array Value := #[.int .u64 v.r, .int .u32 v.c, .int .u64 v.b, .int .u16 v.p]
structure V4.wf (v : V4) : Prop where
  r : 0 ≤ v.r ∧ v.r ≤ 18446744073709551615
  c : 0 ≤ v.c ∧ v.c ≤ 4294967295
  b : 0 ≤ v.b ∧ v.b ≤ 18446744073709551615
  p : 0 ≤ v.p ∧ v.p ≤ 65535
theorem V4.size (v : V4) : v.cs.size = 4 := rfl
theorem infoV : (Tryz.prog.info? 36).map (·.size) = some 4 := by kernel_rfl
theorem rtV : RowTy 36 4 := ⟨infoV, _, Tryz.underlying36, rfl⟩
theorem infoQ : (Tryz.prog.info? 211).map (·.size) = some 4 := by kernel_rfl
theorem rtQ : RowTy 211 4 := ⟨infoQ, _, Tryz.underlying211, rfl⟩
theorem ldV (x : Value) : Instr.loadAt 36 x = ldS 36 x := rfl
theorem stV (x y : Value) : Instr.storeAt 36 x y = stS 36 x y := rfl
theorem stQ (x y : Value) : Instr.storeAt 211 x y = stS 211 x y := rfl
def VvAt (W : World) (b : Nat) (v : V4) : Prop := RvAt W b 36 v.cs
theorem VvAt.below {W W' : World} {b : Nat} {v : V4} (h : VvAt W b v) (hb : Below W.heap.size W W') : VvAt W' b v := RvAt.below h hb
theorem VvAt.ld {W : World} {b : Nat} {v : V4} (h : VvAt W b v) : (ldS 36 (.pointer (some ⟨b, 0, none⟩))).run Tryz.prog W = .ok (.agg v.cs) W := RvAt.ld rtV h v.size
theorem VvAt.c2 {W : World} {b : Nat} {v : V4} (h : VvAt W b v) : W.cell? ⟨b, 2, none⟩ = some (.int .u64 v.b) := RvAt.cell h 2 _ rfl
theorem VvAt.c3 {W : World} {b : Nat} {v : V4} (h : VvAt W b v) : W.cell? ⟨b, 3, none⟩ = some (.int .u16 v.p) := RvAt.cell h 3 _ rfl
theorem VvAt.new (W : World) (v : V4) : VvAt (W.alloc (.cells v.cs 36)) W.heap.size v := alloc_at W _
theorem two_new (w : World) (a b : V4) : ∃ W, (w.alloc (.cells a.cs 36)).alloc (.cells b.cs 36) = W ∧ VvAt W w.heap.size a ∧ VvAt W (w.heap.size + 1) b ∧ Below w.heap.size w W :=
  ⟨_, rfl, (VvAt.new w a).below ((Below.refl _ _).alloc (Nat.le_refl _) _), by have := VvAt.new (w.alloc (.cells a.cs 36)) b; simpa using this, ((Below.refl _ _).alloc (Nat.le_refl _) _).alloc (by simp) _⟩
def cmpV (a b : V4) : Int :=
  if a.r < b.r then -1 else if b.r < a.r then 1 else if a.c < b.c then -1 else if b.c < a.c then 1 else if a.b < b.b then -1 else if b.b < a.b then 1 else if a.p < b.p then -1 else if b.p < a.p then 1 else 0
def betV (a b : V4) : Bool := decide (cmpV a b < 0)
set_option maxHeartbeats 400000 in
theorem parts_any (v : V4) (w : World) (h : v.wf) :
    Calls Tryz.prog 255 #[.agg v.cs] w fun e w' => e = .returned (.agg #[.int .u64 v.r, .int .u64 v.c, .int .u64 v.b, .int .u64 v.p]) ∧ Below w.heap.size w w' := by
  obtain ⟨r, c, b, p⟩ := v
  obtain ⟨hr, hc, hb, hp⟩ := h
  simp only at hr hc hb hp
  show Calls Tryz.prog 255 #[.agg #[.int .u64 r, .int .u32 c, .int .u64 b, .int .u16 p]] w _
  go_enter Tryz.func255, Tryz.ntmps255
  go_wp2
  go_returns
  exact ⟨rfl, by go_grown⟩
@[go_sem] theorem ix0 (x y z t : Int) (w : World) : (Instr.index 211 (.agg #[.int .u64 x, .int .u64 y, .int .u64 z, .int .u64 t]) (.int .i64 0)).run Tryz.prog w = .ok (.int .u64 x) w := by kernel_rfl
@[go_sem] theorem ix1 (x y z t : Int) (w : World) : (Instr.index 211 (.agg #[.int .u64 x, .int .u64 y, .int .u64 z, .int .u64 t]) (.int .i64 1)).run Tryz.prog w = .ok (.int .u64 y) w := by kernel_rfl
@[go_sem] theorem ix2 (x y z t : Int) (w : World) : (Instr.index 211 (.agg #[.int .u64 x, .int .u64 y, .int .u64 z, .int .u64 t]) (.int .i64 2)).run Tryz.prog w = .ok (.int .u64 z) w := by kernel_rfl
@[go_sem] theorem ix3 (x y z t : Int) (w : World) : (Instr.index 211 (.agg #[.int .u64 x, .int .u64 y, .int .u64 z, .int .u64 t]) (.int .i64 3)).run Tryz.prog w = .ok (.int .u64 t) w := by kernel_rfl
attribute [local go_sem ↓] ldV stV stQ
set_option maxHeartbeats 1000000 in
theorem compare_any (a b : V4) (w : World) (ha : a.wf) (hb : b.wf) :
    Calls Tryz.prog 225 #[.agg a.cs, .agg b.cs] w fun e w' => e = .returned (.int .i64 (cmpV a b)) ∧ Below w.heap.size w w' := by
  obtain ⟨W, hW, va, vb, bW⟩ := two_new w a b
  have H : Hid (VvAt W w.heap.size a ∧ VvAt W (w.heap.size + 1) b ∧ Below w.heap.size w W ∧ a.wf ∧ b.wf) := ⟨va, vb, bW, ha, hb⟩
  have lb := vb.ld
  clear va vb bW ha hb
  go_enter Tryz.func225, Tryz.ntmps225
  go_wp2_with fail
  go_step3
  go_wp2_with fail
  refine (parts_any b _ H.out.2.2.2.2).mono ?_
  rintro _ W1 ⟨rfl, b1⟩
  obtain ⟨W2, st2, r2, b2, z2⟩ := row_new rtQ W1 #[.int .u64 0, .int .u64 0, .int .u64 0, .int .u64 0] #[.int .u64 b.r, .int .u64 b.c, .int .u64 b.b, .int .u64 b.p] rfl rfl (by simp [Value.oneCell'])
  have b12 := below_over b1 b2
  have H2 : Hid (RvAt W2 W1.heap.size 211 #[.int .u64 b.r, .int .u64 b.c, .int .u64 b.b, .int .u64 b.p] ∧ Below w.heap.size w W2 ∧ a.wf) := ⟨r2, below_over H.out.2.2.1 b12, H.out.2.2.2.1⟩
  have la := (H.out.1.below b12).ld
  clear r2 b1 b2 z2 b12 H lb
  go_wp2_with fail
  go_step3
  go_wp2_with fail
  refine (parts_any a _ H2.out.2.2).mono ?_
  rintro _ W3 ⟨rfl, b3⟩
  have r3 := H2.out.1.below b3
  have c0 := r3.cell 0 (.int .u64 b.r) rfl
  have c1 := r3.cell 1 (.int .u64 b.c) rfl
  have c2 := r3.cell 2 (.int .u64 b.b) rfl
  have c3 := r3.cell 3 (.int .u64 b.p) rfl
  have H3 : Hid (Below w.heap.size w W3) := below_over H2.out.2.1 b3
  clear r3 b3 st2 la H2 hW
  go_wp2_with fail
  go_rounds 5
  all_goals
    try rw [Exit.noGoto_ret]
    go_ret
    refine ⟨ret_int ?_, H3.out⟩
    unfold cmpV
    (repeat' split) <;> omega
set_option maxHeartbeats 400000 in
theorem better_any (a b : V4) (w : World) (ha : a.wf) (hb : b.wf) :
    Calls Tryz.prog 256 #[.agg a.cs, .agg b.cs] w fun e w' => e = .returned (.bool (betV a b)) ∧ Below w.heap.size w w' := by
  obtain ⟨W, hW, va, vb, bW⟩ := two_new w a b
  have H : Hid (a.wf ∧ b.wf ∧ Below w.heap.size w W) := ⟨ha, hb, bW⟩
  have la := va.ld
  have lb := vb.ld
  clear va vb bW ha hb
  go_enter Tryz.func256, Tryz.ntmps256
  go_wp2_with fail
  refine (compare_any a b _ H.out.1 H.out.2.1).mono ?_
  rintro _ W1 ⟨rfl, b1⟩
  have H1 : Hid (Below w.heap.size w W1) := below_over H.out.2.2 b1
  clear b1 H la lb hW
  go_wp2
  go_ret
  exact ⟨rfl, H1.out⟩
end S11
end
section
namespace S11
open Go.RowKit

def eq6 (a b c d e f a' b' c' d' e' f' : Int) : Bool := decide (a = a' ∧ b = b' ∧ c = c' ∧ d = d' ∧ e = e' ∧ f = f')
@[go_sem] theorem eqMac (a b c d e f a' b' c' d' e' f' : Int) (w : World) :
    (Op.equalIn 10000 102 (.agg #[.int .u8 a, .int .u8 b, .int .u8 c, .int .u8 d, .int .u8 e, .int .u8 f]) (.agg #[.int .u8 a', .int .u8 b', .int .u8 c', .int .u8 d', .int .u8 e', .int .u8 f'])).run Tryz.prog w = .ok (eq6 a b c d e f a' b' c' d' e' f') w := by
  have u5 := Tryz.underlying5
  have a5 := Tryz.isAgg5
  have z5 := Tryz.sizeOf5
  rw [show (10000 : Nat) = 9999 + 1 from rfl, Op.equalIn]
  simp only [Sem.run_bind, run_underlying Tryz.underlying102, Result.andThen_ok]
  simp only [Std.Legacy.Range.forIn_eq_forIn_range', Std.Legacy.Range.size, Nat.sub_zero, Nat.add_sub_cancel, Nat.div_one, List.range'_succ, List.range'_zero, List.forIn_cons, List.forIn_nil]
  go_simp
  unfold eq6
  by_cases h1 : a = a' <;> simp [h1]
  by_cases h2 : b = b' <;> simp [h2]
  by_cases h3 : c = c' <;> simp [h3]
  by_cases h4 : d = d' <;> simp [h4]
  by_cases h5 : e = e' <;> simp [h5]
  by_cases h6 : f = f' <;> simp [h6]
theorem and_num (p : Int) (hp : 0 ≤ p ∧ p ≤ 65535) : bits .and .u16 p 4095 = p % 4096 := by
  obtain ⟨n, rfl⟩ := Int.eq_ofNat_of_zero_le hp.1
  have h := u16_and_nat n 4095 (by omega) (by omega)
  have e : n &&& 4095 = n % 4096 := Nat.and_two_pow_sub_one_eq_mod n 12
  rw [e] at h
  rw [show (4095 : Int) = ((4095 : Nat) : Int) from rfl, h]
  omega
set_option maxHeartbeats 400000 in
theorem number_any (p : Int) (w : World) (hp : 0 ≤ p ∧ p ≤ 65535) :
    Calls Tryz.prog 311 #[.int .u16 p] w fun e w' => e = .returned (.int .u16 (p % 4096)) ∧ Below w.heap.size w w' := by
  go_enter Tryz.func311, Tryz.ntmps311
  go_wp2
  go_ret
  exact ⟨ret_int (and_num p hp), by go_grown⟩
set_option maxHeartbeats 400000 in
theorem address_any (n : Int) (w : World) (hn : 0 ≤ n ∧ n ≤ 18446744073709551615) :
    Calls Tryz.prog 47 #[.int .u64 n] w fun r w' => r = .returned (.agg #[.int .u8 (n / 1099511627776 % 256), .int .u8 (n / 4294967296 % 256), .int .u8 (n / 16777216 % 256), .int .u8 (n / 65536 % 256), .int .u8 (n / 256 % 256), .int .u8 (n % 256)]) ∧ Below w.heap.size w w' := by
  go_enter Tryz.func47, Tryz.ntmps47
  go_wp2
  go_rounds 7
  go_returns
  exact ⟨rfl, by go_grown⟩
end S11
end
section
namespace S11
open Go.RowKit

def sameA (n m : Int) : Bool := decide (n % 281474976710656 = m % 281474976710656)
def sameN (p q : Int) : Bool := decide (p % 4096 = q % 4096)
def supV (a b : V4) : Bool := betV a b || (sameA a.b b.b && sameN a.p b.p)
theorem eq6_ad (n m : Int) : eq6 (n / 1099511627776 % 256) (n / 4294967296 % 256) (n / 16777216 % 256) (n / 65536 % 256) (n / 256 % 256) (n % 256) (m / 1099511627776 % 256) (m / 4294967296 % 256) (m / 16777216 % 256) (m / 65536 % 256) (m / 256 % 256) (m % 256) = sameA n m := by
  unfold eq6 sameA
  apply decide_eq_decide.mpr
  constructor <;> intro h <;> omega
attribute [local go_sem ↓] ldV stV
set_option maxHeartbeats 2000000 in
theorem superior_any (a b : V4) (w : World) (ha : a.wf) (hb : b.wf) :
    Calls Tryz.prog 296 #[.agg a.cs, .agg b.cs] w fun e w' => e = .returned (.bool (supV a b)) ∧ Below w.heap.size w w' := by
  obtain ⟨W, hW, va, vb, bW⟩ := two_new w a b
  have H : Hid (Below w.heap.size w W) := bW
  have la := fun q : Later W => (va.below q.below).ld
  have lb := fun q : Later W => (vb.below q.below).ld
  have a2 := fun q : Later W => (va.below q.below).c2
  have b2 := fun q : Later W => (vb.below q.below).c2
  have a3 := fun q : Later W => (va.below q.below).c3
  have b3 := fun q : Later W => (vb.below q.below).c3
  have P1 : Hid (∀ q : Later W, _) := fun q : Later W => better_any a b q.val ha hb
  have P2 : Hid (∀ q : Later W, _) := fun q : Later W => address_any a.b q.val ha.b
  have P3 : Hid (∀ q : Later W, _) := fun q : Later W => address_any b.b q.val hb.b
  have P4 : Hid (∀ q : Later W, _) := fun q : Later W => number_any a.p q.val ha.p
  have P5 : Hid (∀ q : Later W, _) := fun q : Later W => number_any b.p q.val hb.p
  have he := eq6_ad a.b b.b
  clear va vb bW ha hb
  cases h1 : betV a b <;> cases h2 : sameA a.b b.b
  all_goals
    rw [h1] at P1
    rw [h2] at he
    go_enter Tryz.func296, Tryz.ntmps296
    go_wp2_with fail
    refine wp_region_later (by kernel_rfl) (by kernel_rfl) ?_
    repeat (go_big_quiet_step (first
      | exact rfl
      | (go_at_call 256; with_reducible exact Calls.later_of (P1.out _))
      | (go_at_call 47; with_reducible exact Calls.later_of (P2.out _))
      | (go_at_call 47; with_reducible exact Calls.later_of (P3.out _))
      | (go_at_call 311; with_reducible exact Calls.later_of (P4.out _))
      | (go_at_call 311; with_reducible exact Calls.later_of (P5.out _))))
    refine wpQuiet_nil ?_
    intro _ hw'
    obtain ⟨x, rfl⟩ := hw'
    go_wp2
    go_ret
    refine ⟨ret_bool ?_, below_later H.out x⟩
    simp [supV, sameN, h1, h2]
    try rfl
end S11
end
section
namespace S11
open Go.RowKit
def v4 (v : Vc) : V4 := ⟨v.nm 0, v.nm 1, v.nm 2, v.nm 3⟩
theorem v4_cs (v : Vc) : (v4 v).cs = v.cs := by
  have h0 := v.num (j := 0) (k := .u64) rfl
  have h1 := v.num (j := 1) (k := .u32) rfl
  have h2 := v.num (j := 2) (k := .u64) rfl
  have h3 := v.num (j := 3) (k := .u16) rfl
  have hl := v.len
  rw [lenV] at hl
  have e : v.cl = [.int .u64 (v.nm 0), .int .u32 (v.nm 1), .int .u64 (v.nm 2), .int .u16 (v.nm 3)] := by
    refine List.ext_getElem? fun j => ?_
    match j with
    | 0 => rw [h0]; rfl
    | 1 => rw [h1]; rfl
    | 2 => rw [h2]; rfl
    | 3 => rw [h3]; rfl
    | j + 4 => rw [List.getElem?_eq_none (by omega)]; rfl
  show _ = v.cl.toArray
  rw [e]
  rfl
theorem v4_wf (v : Vc) : (v4 v).wf := ⟨v.u64 rfl, v.u32 rfl, v.u64 rfl, v.u16 rfl⟩
def bet (a b : Vc) : Bool := betV (v4 a) (v4 b)
def sup (a b : Vc) : Bool := supV (v4 a) (v4 b)
theorem better_row (a b : Vc) (w : World) : Calls Tryz.prog 256 #[.agg a.cs, .agg b.cs] w fun e w' => e = .returned (.bool (bet a b)) ∧ Below w.heap.size w w' := by
  rw [← v4_cs a, ← v4_cs b]
  exact better_any _ _ w (v4_wf a) (v4_wf b)
theorem superior_row (a b : Vc) (w : World) : Calls Tryz.prog 296 #[.agg a.cs, .agg b.cs] w fun e w' => e = .returned (.bool (sup a b)) ∧ Below w.heap.size w w' := by
  rw [← v4_cs a, ← v4_cs b]
  exact superior_any _ _ w (v4_wf a) (v4_wf b)
end S11
end
section
namespace S11
open Go.RowKit

def gotP (p : Pt) (m : Mg) (j : Nat) (h : kdP[j]? = some none) : Pt := ((p.setB j h true).put 48 m kq48 kl48).setB 14 kb14 true
def takeP (p : Pt) (m : Mg) : Pt :=
  if p.bt 2 = true then (if m.nm 0 = 3 then gotP p m 15 kb15 else if m.nm 0 = 1 ∨ m.nm 0 = 2 then gotP p m 16 kb16 else p) else p
def propB (p : Pt) : Bool := decide (p.nm 48 = 3) && (decide (p.nm 55 = 4) && p.bt 51)
def propP (p : Pt) : Pt := if propB p = true then p.setB 12 kb12 true else p
def agrB (p : Pt) : Bool := decide (p.nm 48 = 3) && p.bt 54
def agrP (p : Pt) : Pt := if agrB p = true then (p.setB 4 kb4 true).setB 13 kb13 false else p.setB 4 kb4 false
def dispB (p : Pt) : Bool := decide (p.nm 48 = 3) && p.bt 52
def dispP (p : Pt) : Pt := if dispB p = true then (p.setB 5 kb5 true).setB 4 kb4 false else p
def tcP (p : Pt) : Pt := p.setB 17 kb17 (p.bt 17 || p.bt 49)
def ackP (p : Pt) : Pt := p.setB 18 kb18 (p.bt 18 || p.bt 50)
def flagP (p : Pt) : Pt := if p.nm 48 = 2 then p.setB 19 kb19 true else if p.nm 48 = 1 then tcP (ackP p) else if p.nm 48 = 3 then tcP p else p
def prioP (p : Pt) : Pt := p.put 36 (mV p) kq36 kl36
def timQ (p : Pt) : Pt := p.put 44 (mT p) kq44 kl44
def timP (p : Pt) : Pt := if p.nm 62 = 0 then (timQ p).setU 46 1 else timQ p
def whiN (p : Pt) : Int := if p.nm 44 + 1 ≤ p.nm 45 then (if 3 * p.nm 46 ≤ 255 then 3 * p.nm 46 else 255) else 0
def whiP (p : Pt) : Pt := p.setU 69 (whiN p)
theorem bt_of {ks ks' : List (Option IntKind)} {r : Row ks} {q : Row ks'} {i j : Nat} (h : r.cl[i]? = q.cl[j]?) : r.bt i = q.bt j := by unfold Row.bt; rw [h]
theorem nm_of {ks ks' : List (Option IntKind)} {r : Row ks} {q : Row ks'} {i j : Nat} (h : r.cl[i]? = q.cl[j]?) : r.nm i = q.nm j := by unfold Row.nm; rw [h]
theorem setB_bt {ks : List (Option IntKind)} (r : Row ks) {i j : Nat} (h : ks[j]? = some none) (b : Bool) (hn : i ≠ j) : (r.setB j h b).bt i = r.bt i := bt_of (by rw [r.setB_get, if_neg hn])
theorem setB_at {ks : List (Option IntKind)} (r : Row ks) {j : Nat} (h : ks[j]? = some none) (b : Bool) : (r.setB j h b).bt j = b := r.bset _ (List.getElem?_eq_some_iff.1 h).1
theorem put_in {ks ks' : List (Option IntKind)} (r : Row ks) (o : Nat) (s : Row ks') (h : (ks.drop o).take ks'.length = ks') (hl : o + ks'.length ≤ ks.length) {i : Nat} (hi : i < ks'.length) : (r.put o s h hl).nm (o + i) = s.nm i := nm_of (by rw [r.put_get, if_pos (by omega), Nat.add_sub_cancel_left])
theorem timQ_46 (p : Pt) : (timQ p).nm 46 = p.nm 62 := by
  have := put_in p 44 (mT p) kq44 kl44 (i := 2) (by decide)
  rw [show timQ p = p.put 44 (mT p) kq44 kl44 from rfl, this]
  exact p.nm_sub 60 4 2 (by decide)
def Chg (F : Nat) (f : Pt → Pt) : Prop := ∀ (W : World) (b : Nat) (p : Pt), RvAt W b 74 p.cs →
  Calls Tryz.prog F #[.pointer (some ⟨b, 0, none⟩)] W fun r W' => r = .returned (.tuple #[]) ∧ RvAt W' b 74 (f p).cs ∧ W.grownBy W' (some b)
attribute [local go_sem ↓] ldP stP ldM stM ldTm stTm ldV stV stB stU
set_option maxHeartbeats 1000000 in
theorem chg_prop : Chg 303 propP := by
  intro W b p hp
  have c48 := hp.num (j := 48) (k := .i64) rfl
  have c55 := hp.num (j := 55) (k := .i64) rfl
  have c51 := hp.bit (j := 51) rfl
  obtain ⟨V, s, hV, gV⟩ := hp.setB kb12 true
  by_cases h1 : p.nm 48 = 3
  · by_cases h2 : p.nm 55 = 4
    · cases h3 : p.bt 51
      · have F : Hid (RvAt W b 74 (propP p).cs) := by
          show RvAt W b _ (propP p).cs
          rw [show propP p = p by simp [propP, propB, h3]]
          exact hp
        rw [h1] at c48; rw [h2] at c55; rw [h3] at c51
        clear hp hV gV s h1 h2 h3
        go_enter Tryz.func303, Tryz.ntmps303
        go_wp2
        go_end0
        exact ⟨rfl, F.out, World.grownBy.refl _ _⟩
      · have F : Hid (RvAt V b 74 (propP p).cs ∧ W.grownBy V (some b)) := by
          show RvAt V b _ (propP p).cs ∧ _
          rw [show propP p = p.setB 12 kb12 true by simp [propP, propB, h1, h2, h3]]
          exact ⟨hV, gV⟩
        rw [h1] at c48; rw [h2] at c55; rw [h3] at c51
        clear hp hV gV h1 h2 h3
        go_enter Tryz.func303, Tryz.ntmps303
        go_wp2
        go_end0
        exact ⟨rfl, F.out⟩
    · have F : Hid (RvAt W b 74 (propP p).cs) := by
        show RvAt W b _ (propP p).cs
        rw [show propP p = p by simp [propP, propB, h2]]
        exact hp
      rw [h1] at c48
      clear hp hV gV s h1
      go_enter Tryz.func303, Tryz.ntmps303
      go_wp2
      go_end0
      exact ⟨rfl, F.out, World.grownBy.refl _ _⟩
  · have F : Hid (RvAt W b 74 (propP p).cs) := by
      show RvAt W b _ (propP p).cs
      rw [show propP p = p by simp [propP, propB, h1]]
      exact hp
    clear hp hV gV s
    go_enter Tryz.func303, Tryz.ntmps303
    go_wp2
    go_end0
    exact ⟨rfl, F.out, World.grownBy.refl _ _⟩
set_option maxHeartbeats 1000000 in
theorem chg_agr : Chg 305 agrP := by
  intro W b p hp
  have c48 := hp.num (j := 48) (k := .i64) rfl
  have c54 := hp.bit (j := 54) rfl
  by_cases h1 : p.nm 48 = 3
  · rw [h1] at c48
    cases h2 : p.bt 54
    · rw [h2] at c54
      obtain ⟨V, s, hV, gV⟩ := hp.setB kb4 false
      have d4 := hV.bit (j := 4) rfl
      rw [setB_at] at d4
      have F : Hid (RvAt V b 74 (agrP p).cs ∧ W.grownBy V (some b)) := by
        show RvAt V b _ (agrP p).cs ∧ _
        rw [show agrP p = p.setB 4 kb4 false by simp [agrP, agrB, h2]]
        exact ⟨hV, gV⟩
      clear hp hV gV h1 h2
      go_enter Tryz.func305, Tryz.ntmps305
      go_wp2
      go_end0
      exact ⟨rfl, F.out⟩
    · rw [h2] at c54
      obtain ⟨V, s, hV, gV⟩ := hp.setB kb4 true
      have d4 := hV.bit (j := 4) rfl
      rw [setB_at] at d4
      obtain ⟨U, s2, hU, gU⟩ := hV.setB kb13 false
      have F : Hid (RvAt U b 74 (agrP p).cs ∧ W.grownBy U (some b)) := by
        show RvAt U b _ (agrP p).cs ∧ _
        rw [show agrP p = (p.setB 4 kb4 true).setB 13 kb13 false by simp [agrP, agrB, h1, h2]]
        exact ⟨hU, grown_self gV gU⟩
      clear hp hV gV hU gU h1 h2
      go_enter Tryz.func305, Tryz.ntmps305
      go_wp2
      go_end0
      exact ⟨rfl, F.out⟩
  · obtain ⟨V, s, hV, gV⟩ := hp.setB kb4 false
    have d4 := hV.bit (j := 4) rfl
    rw [setB_at] at d4
    have F : Hid (RvAt V b 74 (agrP p).cs ∧ W.grownBy V (some b)) := by
      show RvAt V b _ (agrP p).cs ∧ _
      rw [show agrP p = p.setB 4 kb4 false by simp [agrP, agrB, h1]]
      exact ⟨hV, gV⟩
    clear hp hV gV
    go_enter Tryz.func305, Tryz.ntmps305
    go_wp2
    go_end0
    exact ⟨rfl, F.out⟩
set_option maxHeartbeats 1000000 in
theorem chg_disp : Chg 307 dispP := by
  intro W b p hp
  have c48 := hp.num (j := 48) (k := .i64) rfl
  have c52 := hp.bit (j := 52) rfl
  by_cases h1 : p.nm 48 = 3
  · rw [h1] at c48
    cases h2 : p.bt 52
    · rw [h2] at c52
      have F : Hid (RvAt W b 74 (dispP p).cs ∧ W.grownBy W (some b)) := by
        show RvAt W b _ (dispP p).cs ∧ _
        rw [show dispP p = p by simp [dispP, dispB, h2]]
        exact ⟨hp, World.grownBy.refl _ _⟩
      clear hp h1 h2
      go_enter Tryz.func307, Tryz.ntmps307
      go_wp2
      go_end0
      exact ⟨rfl, F.out⟩
    · rw [h2] at c52
      obtain ⟨V, s, hV, gV⟩ := hp.setB kb5 true
      obtain ⟨U, s2, hU, gU⟩ := hV.setB kb4 false
      have F : Hid (RvAt U b 74 (dispP p).cs ∧ W.grownBy U (some b)) := by
        show RvAt U b _ (dispP p).cs ∧ _
        rw [show dispP p = (p.setB 5 kb5 true).setB 4 kb4 false by simp [dispP, dispB, h1, h2]]
        exact ⟨hU, grown_self gV gU⟩
      clear hp hV gV hU gU h1 h2
      go_enter Tryz.func307, Tryz.ntmps307
      go_wp2
      go_end0
      exact ⟨rfl, F.out⟩
  · skip
    have F : Hid (RvAt W b 74 (dispP p).cs ∧ W.grownBy W (some b)) := by
      show RvAt W b _ (dispP p).cs ∧ _
      rw [show dispP p = p by simp [dispP, dispB, h1]]
      exact ⟨hp, World.grownBy.refl _ _⟩
    clear hp
    go_enter Tryz.func307, Tryz.ntmps307
    go_wp2
    go_end0
    exact ⟨rfl, F.out⟩
set_option maxHeartbeats 2000000 in
theorem chg_flag : Chg 304 flagP := by
  intro W b p hp
  have c48 := hp.num (j := 48) (k := .i64) rfl
  have c49 := hp.bit (j := 49) rfl
  have c50 := hp.bit (j := 50) rfl
  have c17 := hp.bit (j := 17) rfl
  have c18 := hp.bit (j := 18) rfl
  by_cases h1 : p.nm 48 = 2
  · rw [h1] at c48
    obtain ⟨V, s, hV, gV⟩ := hp.setB kb19 true
    have F : Hid (RvAt V b 74 (flagP p).cs ∧ W.grownBy V (some b)) := by
      show RvAt V b _ (flagP p).cs ∧ _
      rw [show flagP p = p.setB 19 kb19 true by simp [flagP, h1]]
      exact ⟨hV, gV⟩
    clear hp hV gV h1 c49 c50 c17 c18
    go_enter Tryz.func304, Tryz.ntmps304
    go_wp2
    go_end0
    exact ⟨rfl, F.out⟩
  · by_cases h2 : p.nm 48 = 1
    · rw [h2] at c48
      obtain ⟨x, hx⟩ : ∃ x, (p.bt 18 || p.bt 50) = x := ⟨_, rfl⟩
      obtain ⟨y, hy⟩ : ∃ y, (p.bt 17 || p.bt 49) = y := ⟨_, rfl⟩
      obtain ⟨V, s, hV, gV⟩ := hp.setB kb18 x
      have d17 := hV.bit (j := 17) rfl
      have d49 := hV.bit (j := 49) rfl
      rw [setB_bt p kb18 x (i := 17) (by decide)] at d17
      rw [setB_bt p kb18 x (i := 49) (by decide)] at d49
      obtain ⟨U, s2, hU, gU⟩ := hV.setB kb17 y
      have F : Hid (RvAt U b 74 (flagP p).cs ∧ W.grownBy U (some b)) := by
        show RvAt U b _ (flagP p).cs ∧ _
        rw [show flagP p = (p.setB 18 kb18 x).setB 17 kb17 y by rw [flagP, if_neg h1, if_pos h2, tcP, ackP, setB_bt p kb18 _ (i := 17) (by decide), setB_bt p kb18 _ (i := 49) (by decide), hx, hy]]
        exact ⟨hU, grown_self gV gU⟩
      clear hp hV gV hU gU h1 h2
      cases k18 : p.bt 18 <;> cases k17 : p.bt 17
      all_goals
        rw [k18] at hx c18
        rw [k17] at hy c17 d17
        simp only [Bool.false_or, Bool.true_or] at hx hy
        subst hx hy
        clear k17 k18
        go_enter Tryz.func304, Tryz.ntmps304
        go_wp2
        go_end0
        exact ⟨rfl, F.out⟩
    · by_cases h3 : p.nm 48 = 3
      · rw [h3] at c48
        obtain ⟨y, hy⟩ : ∃ y, (p.bt 17 || p.bt 49) = y := ⟨_, rfl⟩
        obtain ⟨U, s2, hU, gU⟩ := hp.setB kb17 y
        have F : Hid (RvAt U b 74 (flagP p).cs ∧ W.grownBy U (some b)) := by
          show RvAt U b _ (flagP p).cs ∧ _
          rw [show flagP p = p.setB 17 kb17 y by rw [flagP, if_neg h1, if_neg h2, if_pos h3, tcP, hy]]
          exact ⟨hU, gU⟩
        clear hp hU gU h1 h2 h3
        cases k17 : p.bt 17
        all_goals
          rw [k17] at hy c17
          simp only [Bool.false_or, Bool.true_or] at hy
          subst hy
          clear k17
          go_enter Tryz.func304, Tryz.ntmps304
          go_wp2
          go_end0
          exact ⟨rfl, F.out⟩
      · skip
        have F : Hid (RvAt W b 74 (flagP p).cs ∧ W.grownBy W (some b)) := by
          show RvAt W b _ (flagP p).cs ∧ _
          rw [show flagP p = p by rw [flagP, if_neg h1, if_neg h2, if_neg h3]]
          exact ⟨hp, World.grownBy.refl _ _⟩
        clear hp c49 c50 c17 c18
        go_enter Tryz.func304, Tryz.ntmps304
        go_wp2
        go_end0
        exact ⟨rfl, F.out⟩
set_option maxHeartbeats 1000000 in
theorem chg_prio : Chg 312 prioP := by
  intro W b p hp
  have lv := hp.pmV
  obtain ⟨V, s, hV, gV⟩ := hp.putV (mV p)
  have F : Hid (RvAt V b 74 (prioP p).cs ∧ W.grownBy V (some b)) := ⟨hV, gV⟩
  clear hp hV gV
  go_enter Tryz.func312, Tryz.ntmps312
  go_wp2
  go_end0
  exact ⟨rfl, F.out⟩
set_option maxHeartbeats 1000000 in
theorem chg_tim : Chg 313 timP := by
  intro W b p hp
  have lt := hp.pmT
  obtain ⟨V, s, hV0, gV⟩ := hp.putT (mT p)
  have hV : RvAt V b 74 (timQ p).cs := hV0
  have d46 := hV.num (j := 46) (k := .u8) rfl
  rw [timQ_46] at d46
  clear hV0
  by_cases h1 : p.nm 62 = 0
  · rw [h1] at d46
    obtain ⟨U, s2, hU, gU⟩ := hV.setU (j := 46) rfl (n := 1) (by omega)
    have F : Hid (RvAt U b 74 (timP p).cs ∧ W.grownBy U (some b)) := by
      show RvAt U b _ (timP p).cs ∧ _
      rw [show timP p = (timQ p).setU 46 1 by rw [timP, if_pos h1]]
      exact ⟨hU, grown_self gV gU⟩
    clear hp hV gV hU gU h1
    go_enter Tryz.func313, Tryz.ntmps313
    go_wp2
    go_end0
    exact ⟨rfl, F.out⟩
  · skip
    have F : Hid (RvAt V b 74 (timP p).cs ∧ W.grownBy V (some b)) := by
      show RvAt V b _ (timP p).cs ∧ _
      rw [show timP p = timQ p by rw [timP, if_neg h1]]
      exact ⟨hV, gV⟩
    clear hp hV gV
    go_enter Tryz.func313, Tryz.ntmps313
    go_wp2
    go_end0
    exact ⟨rfl, F.out⟩
end S11
end
section
namespace S11
open Go.RowKit

theorem ku69 : kdP[69]? = some (some .u8) := rfl
theorem setU_nm {ks : List (Option IntKind)} (r : Row ks) {i j : Nat} {n : Int} (h : ks[j]? = some (some .u8)) (hn : 0 ≤ n ∧ n ≤ 255) (hi : i ≠ j) : (r.setU j n).nm i = r.nm i := nm_of (by rw [r.setU_get h (wf8 hn), if_neg hi])
theorem setU_two (p : Pt) {n : Int} (hn : 0 ≤ n ∧ n ≤ 255) : (p.setU 69 0).setU 69 n = p.setU 69 n := by
  refine Row.same fun i _ => ?_
  rw [Row.setU_get _ ku69 (wf8 hn), Row.setU_get _ ku69 (wf8 hn), Row.setU_get _ ku69 (wf8 (by omega))]
  split <;> rfl
attribute [local go_sem ↓] ldP stP ldM stM ldTm stTm ldV stV stB stU
set_option maxHeartbeats 2000000 in
theorem chg_whi : Chg 306 whiP := by
  intro W b p hp
  have u44 := p.u8 (j := 44) rfl
  have u45 := p.u8 (j := 45) rfl
  have u46 := p.u8 (j := 46) rfl
  obtain ⟨V, s, hV, gV⟩ := hp.setU ku69 (n := 0) (by omega)
  have d44 := fun q : Later V => (hV.below q.below).num (j := 44) (k := .u8) rfl
  have d45 := fun q : Later V => (hV.below q.below).num (j := 45) (k := .u8) rfl
  simp only [setU_nm p ku69 (n := 0) (by omega) (i := 44) (by decide), setU_nm p ku69 (n := 0) (by omega) (i := 45) (by decide)] at d44 d45
  have G : Hid (RvAt V b 74 (p.setU 69 0).cs ∧ W.grownBy V (some b)) := ⟨hV, gV⟩
  obtain ⟨A, hA⟩ : ∃ A, p.nm 44 = A := ⟨_, rfl⟩
  obtain ⟨M, hM⟩ : ∃ M, p.nm 45 = M := ⟨_, rfl⟩
  obtain ⟨H, hH⟩ : ∃ H, p.nm 46 = H := ⟨_, rfl⟩
  have E : Hid (whiN p = if A + 1 ≤ M then (if 3 * H ≤ 255 then 3 * H else 255) else 0) := show whiN p = _ by rw [whiN, hA, hM, hH]
  simp only [hA, hM] at d44 d45
  rw [hA] at u44; rw [hM] at u45; rw [hH] at u46
  have K : Hid (p.nm 46 = H) := hH
  clear hp hV gV hA hM hH
  go_enter Tryz.func306, Tryz.ntmps306
  go_wp2_with fail
  refine wp_region_later (by kernel_rfl) (by kernel_rfl) ?_
  repeat (go_big_quiet_step (first | exact rfl))
  refine wpQuiet_nil ?_
  intro _ hw'
  obtain ⟨x, rfl⟩ := hw'
  have hx := G.out.1.below x.below
  have gx : W.grownBy x.val (some b) := grown_self G.out.2 (grown_of_below x.below _)
  by_cases h1 : A + 1 ≤ M
  · have e46 := hx.num (j := 46) (k := .u8) rfl
    rw [setU_nm p ku69 (n := 0) (by omega) (i := 46) (by decide), K.out] at e46
    by_cases h2 : 3 * H ≤ 255
    · obtain ⟨U, s2, hU, gU⟩ := hx.setU ku69 (n := 3 * H) (by omega)
      have F : Hid (RvAt U b 74 (whiP p).cs ∧ W.grownBy U (some b)) := by
        show RvAt U b _ (whiP p).cs ∧ _
        rw [whiP, E.out, if_pos h1, if_pos h2, ← setU_two p (by omega)]
        exact ⟨hU, grown_self gx gU⟩
      clear hx gx hU gU d44 d45 s
      go_wp2
      go_end0
      exact ⟨rfl, F.out⟩
    · obtain ⟨U, s2, hU, gU⟩ := hx.setU ku69 (n := 255) (by omega)
      have F : Hid (RvAt U b 74 (whiP p).cs ∧ W.grownBy U (some b)) := by
        show RvAt U b _ (whiP p).cs ∧ _
        rw [whiP, E.out, if_pos h1, if_neg h2, ← setU_two p (by omega)]
        exact ⟨hU, grown_self gx gU⟩
      clear hx gx hU gU d44 d45 s
      go_wp2
      go_end0
      exact ⟨rfl, F.out⟩
  · have F : Hid (RvAt x.val b 74 (whiP p).cs ∧ W.grownBy x.val (some b)) := by
      show RvAt x.val b _ (whiP p).cs ∧ _
      rw [whiP, E.out, if_neg h1]
      exact ⟨hx, gx⟩
    clear hx gx d44 d45 s
    go_wp2
    go_end0
    exact ⟨rfl, F.out⟩
set_option maxHeartbeats 2000000 in
theorem chg_take (W : World) (b d : Nat) (p : Pt) (m : Mg) (hp : RvAt W b 74 p.cs) (hm : RvAt W d 46 m.cs) :
    Calls Tryz.prog 90 #[.pointer (some ⟨b, 0, none⟩), .pointer (some ⟨d, 0, none⟩)] W fun r W' => r = .returned (.tuple #[]) ∧ RvAt W' b 74 (takeP p m).cs ∧ W.grownBy W' (some b) := by
  have hne := hp.apart hm (by decide)
  have c2 := hp.bit (j := 2) rfl
  have m0 := hm.num (j := 0) (k := .i64) rfl
  cases h0 : p.bt 2
  · have F : Hid (RvAt W b 74 (takeP p m).cs ∧ W.grownBy W (some b)) := by
      show RvAt W b _ (takeP p m).cs ∧ _
      rw [show takeP p m = p by simp [takeP, h0]]
      exact ⟨hp, World.grownBy.refl _ _⟩
    rw [h0] at c2
    clear hp hm hne h0
    go_enter Tryz.func90, Tryz.ntmps90
    go_wp2
    go_returns
    exact ⟨rfl, F.out⟩
  · rw [h0] at c2
    by_cases h3 : m.nm 0 = 3
    · rw [h3] at m0
      obtain ⟨V, s, hV, gV⟩ := hp.setB kb15 true
      have mV := hm.keptBut gV (by simpa using hne.symm)
      have lm := mV.mld
      obtain ⟨U, s2, hU, gU⟩ := hV.putM m
      obtain ⟨Z, s3, hZ, gZ⟩ := hU.setB kb14 true
      have F : Hid (RvAt Z b 74 (takeP p m).cs ∧ W.grownBy Z (some b)) := by
        show RvAt Z b _ (takeP p m).cs ∧ _
        rw [show takeP p m = gotP p m 15 kb15 by simp [takeP, h0, h3]]
        exact ⟨hZ, grown_self (grown_self gV gU) gZ⟩
      clear hp hm hne h0 h3 hV gV mV hU gU hZ gZ
      go_enter Tryz.func90, Tryz.ntmps90
      go_wp2
      go_end0
      exact ⟨rfl, F.out⟩
    · by_cases h12 : m.nm 0 = 1 ∨ m.nm 0 = 2
      · obtain ⟨V, s, hV, gV⟩ := hp.setB kb16 true
        have mV := hm.keptBut gV (by simpa using hne.symm)
        have lm := mV.mld
        obtain ⟨U, s2, hU, gU⟩ := hV.putM m
        obtain ⟨Z, s3, hZ, gZ⟩ := hU.setB kb14 true
        have F : Hid (RvAt Z b 74 (takeP p m).cs ∧ W.grownBy Z (some b)) := by
          show RvAt Z b _ (takeP p m).cs ∧ _
          rw [show takeP p m = gotP p m 16 kb16 by simp [takeP, h0, h3, h12]]
          exact ⟨hZ, grown_self (grown_self gV gU) gZ⟩
        clear hp hm hne h0 hV gV mV hU gU hZ gZ h3
        rcases h12 with h | h
        all_goals
          rw [h] at m0
          clear h
          go_enter Tryz.func90, Tryz.ntmps90
          go_wp2
          go_end0
          exact ⟨rfl, F.out⟩
      · have F : Hid (RvAt W b 74 (takeP p m).cs ∧ W.grownBy W (some b)) := by
          show RvAt W b _ (takeP p m).cs ∧ _
          rw [show takeP p m = p by simp [takeP, h3, h12]]
          exact ⟨hp, World.grownBy.refl _ _⟩
        have h1 : ¬ m.nm 0 = 1 := fun e => h12 (.inl e)
        have h2 : ¬ m.nm 0 = 2 := fun e => h12 (.inr e)
        clear hp hm hne h0 h12
        go_enter Tryz.func90, Tryz.ntmps90
        go_wp2
        go_returns
        exact ⟨rfl, F.out⟩
attribute [local go_sem ↓] alP alM
attribute [local go_sem] alP_run alM_run
set_option maxHeartbeats 2000000 in
theorem changed_any (F : Nat) (f : Pt → Pt) (hF : Chg F f) (hc : ∀ (x : Value) (V : World), (callFunc F #[x]).run Tryz.prog V = .ok (.enter F #[x]) V) (p : Pt) (w : World) :
    Calls Tryz.prog 89 #[.agg p.cs, .func (.func F) #[] #[]] w fun r w' => r = .returned (.agg (f p).cs) ∧ Below w.heap.size w w' := by
  obtain ⟨W, hW, r0, r1, bW, zW⟩ := two_p w p
  have H : Hid (RvAt W w.heap.size 74 p.cs ∧ RvAt W (w.heap.size + 1) 74 zeroP.cs ∧ Below w.heap.size w W ∧ W.heap.size = w.heap.size + 2) := ⟨r0, r1, bW, zW⟩
  clear r0 r1 bW zW
  go_enter Tryz.func89, Tryz.ntmps89
  go_wp2_with fail
  refine (hF W w.heap.size p H.out.1).mono ?_
  rintro _ V ⟨rfl, hV, gV⟩
  have lV := hV.pld
  obtain ⟨U, sU, hU, gU⟩ := (H.out.2.1.keptBut gV (by simp)).pst (q := f p)
  have G : Hid (RvAt U (w.heap.size + 1) 74 (f p).cs ∧ Below w.heap.size w U) := ⟨hU, gro (gro H.out.2.2.1 gV (Nat.le_refl _) (by have := H.out.2.2.2; omega)) gU (by omega) (by have := H.out.2.2.2; have := gV.size; omega)⟩
  clear hV gV hU gU hW
  go_wp2_with (with_reducible exact ret_port Tryz.results89 (by with_unfolding_all rfl) (by with_unfolding_all rfl) G.out.1 ⟨rfl, G.out.2⟩)
end S11
end
section
namespace S11
open Go.RowKit

def desM (m : Mg) : Bool := decide (m.nm 0 = 1) || (decide (m.nm 0 = 3) && decide (m.nm 7 = 4))
def othM (m : Mg) : Bool := decide (m.nm 0 = 3) && (decide (m.nm 7 = 3) || (decide (m.nm 7 = 1) || decide (m.nm 7 = 2)))
def samP (p : Pt) : Bool := (mV p).eq (pri p) && (mT p).eq (priT p)
def ofDes (p : Pt) : Int := if samP p = true then 2 else if sup (mV p) (pri p) = true then 1 else 3
def infP (p : Pt) : Int := if desM (msg p) = true then ofDes p else if othM (msg p) = true then (if bet (mV p) (pri p) = true then 0 else 4) else 0
def bosP (p : Pt) (is : Int) : Bool := if p.nm 29 = is then (if is = 3 then !bet (pri p) (mV p) else if is = 2 then !bet (pri p) (dsg p) else false) else false
attribute [local go_sem ↓] ldP stP ldM stM ldTm stTm ldV stV stB stU eqgTm eqlTm eqgV eqlV
set_option maxHeartbeats 1000000 in
theorem desig_any (m : Mg) (w : World) :
    Calls Tryz.prog 281 #[.agg m.cs] w fun r w' => r = .returned (.bool (desM m)) ∧ Below w.heap.size w w' := by
  obtain ⟨W, hW, r0, bW, zW⟩ := new_m w m
  have m0 := r0.num (j := 0) (k := .i64) rfl
  have m7 := r0.num (j := 7) (k := .i64) rfl
  have H : Hid (Below w.heap.size w W) := bW
  obtain ⟨K, hK⟩ : ∃ K, m.nm 0 = K := ⟨_, rfl⟩
  obtain ⟨R, hR⟩ : ∃ R, m.nm 7 = R := ⟨_, rfl⟩
  have E : Hid (desM m = (decide (K = 1) || (decide (K = 3) && decide (R = 4)))) := show desM m = _ by rw [desM, hK, hR]
  rw [hK] at m0; rw [hR] at m7
  clear r0 bW zW hK hR
  by_cases h3 : K = 3
  · subst h3
    by_cases h4 : R = 4
    · subst h4
      go_enter Tryz.func281, Tryz.ntmps281
      go_wp2
      go_ret
      exact ⟨ret_bool (by rw [E.out]; rfl), H.out⟩
    · go_enter Tryz.func281, Tryz.ntmps281
      go_wp2
      go_ret
      exact ⟨ret_bool (by rw [E.out]; simp [h4]), H.out⟩
  · by_cases h1 : K = 1
    · subst h1
      go_enter Tryz.func281, Tryz.ntmps281
      go_wp2
      go_ret
      exact ⟨ret_bool (by rw [E.out]; rfl), H.out⟩
    · go_enter Tryz.func281, Tryz.ntmps281
      go_wp2
      go_ret
      exact ⟨ret_bool (by rw [E.out]; simp [h1, h3]), H.out⟩
set_option maxHeartbeats 1000000 in
theorem oth_any (m : Mg) (w : World) :
    Calls Tryz.prog 283 #[.agg m.cs] w fun r w' => r = .returned (.bool (othM m)) ∧ Below w.heap.size w w' := by
  obtain ⟨W, hW, r0, bW, zW⟩ := new_m w m
  have m0 := r0.num (j := 0) (k := .i64) rfl
  have m7 := r0.num (j := 7) (k := .i64) rfl
  have H : Hid (Below w.heap.size w W) := bW
  obtain ⟨K, hK⟩ : ∃ K, m.nm 0 = K := ⟨_, rfl⟩
  obtain ⟨R, hR⟩ : ∃ R, m.nm 7 = R := ⟨_, rfl⟩
  have E : Hid (othM m = (decide (K = 3) && (decide (R = 3) || (decide (R = 1) || decide (R = 2))))) := show othM m = _ by rw [othM, hK, hR]
  rw [hK] at m0; rw [hR] at m7
  clear r0 bW zW hK hR
  by_cases h3 : K = 3
  · subst h3
    by_cases r3 : R = 3
    · subst r3
      go_enter Tryz.func283, Tryz.ntmps283
      go_wp2
      go_ret
      exact ⟨ret_bool (by rw [E.out]; rfl), H.out⟩
    · by_cases r1 : R = 1
      · subst r1
        go_enter Tryz.func283, Tryz.ntmps283
        go_wp2
        go_ret
        exact ⟨ret_bool (by rw [E.out]; rfl), H.out⟩
      · by_cases r2 : R = 2
        · subst r2
          go_enter Tryz.func283, Tryz.ntmps283
          go_wp2
          go_ret
          exact ⟨ret_bool (by rw [E.out]; rfl), H.out⟩
        · go_enter Tryz.func283, Tryz.ntmps283
          go_wp2
          go_ret
          exact ⟨ret_bool (by rw [E.out]; simp [r1, r2, r3]), H.out⟩
  · go_enter Tryz.func283, Tryz.ntmps283
    go_wp2
    go_ret
    exact ⟨ret_bool (by rw [E.out]; simp [h3]), H.out⟩
set_option maxHeartbeats 2000000 in
theorem ofDes_any (p : Pt) (w : World) :
    Calls Tryz.prog 282 #[.agg p.cs] w fun r w' => r = .returned (.int .i64 (ofDes p)) ∧ Below w.heap.size w w' := by
  obtain ⟨W, hW, r0, bW, zW⟩ := new_p w p
  have H : Hid (Below w.heap.size w W) := bW
  have lv := r0.pmV
  have lp := r0.ppri
  have lt := r0.pmT
  have lq := r0.ppriT
  have E : Hid (ofDes p = if ((mV p).eq (pri p) && (mT p).eq (priT p)) = true then 2 else if sup (mV p) (pri p) = true then 1 else 3) := show ofDes p = _ from rfl
  have P1 : Hid (∀ V : World, _) := fun V => superior_row (mV p) (pri p) V
  clear r0 bW zW
  cases h1 : (mV p).eq (pri p)
  · cases h3 : sup (mV p) (pri p)
    all_goals
      rw [h3] at P1
      rw [h1, h3] at E
      go_enter Tryz.func282, Tryz.ntmps282
      go_wp2_with fail
      refine (P1.out _).mono ?_
      rintro _ V ⟨rfl, bV⟩
      have H1 : Hid (Below w.heap.size w V) := below_over H.out bV
      clear bV
      go_wp2
      go_ret
      exact ⟨ret_int (by rw [E.out]; rfl), H1.out⟩
  · cases h2 : (mT p).eq (priT p)
    · cases h3 : sup (mV p) (pri p)
      all_goals
        rw [h3] at P1
        rw [h1, h2, h3] at E
        go_enter Tryz.func282, Tryz.ntmps282
        go_wp2_with fail
        refine (P1.out _).mono ?_
        rintro _ V ⟨rfl, bV⟩
        have H1 : Hid (Below w.heap.size w V) := below_over H.out bV
        clear bV
        go_wp2
        go_ret
        exact ⟨ret_int (by rw [E.out]; rfl), H1.out⟩
    · rw [h1, h2] at E
      go_enter Tryz.func282, Tryz.ntmps282
      go_wp2
      go_ret
      exact ⟨ret_int (by rw [E.out]; rfl), H.out⟩
set_option maxHeartbeats 2000000 in
theorem inf_any (p : Pt) (w : World) :
    Calls Tryz.prog 259 #[.agg p.cs] w fun r w' => r = .returned (.int .i64 (infP p)) ∧ Below w.heap.size w w' := by
  obtain ⟨W, hW, r0, bW, zW⟩ := new_p w p
  have H : Hid (Below w.heap.size w W ∧ RvAt W w.heap.size 74 p.cs) := ⟨bW, r0⟩
  have lm := r0.pmsg
  have E : Hid (infP p = if desM (msg p) = true then ofDes p else if othM (msg p) = true then (if bet (mV p) (pri p) = true then 0 else 4) else 0) := show infP p = _ from rfl
  have P1 : Hid (∀ V : World, _) := fun V => desig_any (msg p) V
  have P2 : Hid (∀ V : World, _) := fun V => oth_any (msg p) V
  have P3 : Hid (∀ V : World, _) := fun V => better_row (mV p) (pri p) V
  have P4 : Hid (∀ V : World, _) := fun V => ofDes_any p V
  clear r0 bW zW
  cases h1 : desM (msg p)
  · rw [h1] at P1 E
    go_enter Tryz.func259, Tryz.ntmps259
    go_wp2_with fail
    refine (P1.out _).mono ?_
    rintro _ V ⟨rfl, bV⟩
    have hV := H.out.2.below bV
    have H1 : Hid (Below w.heap.size w V ∧ RvAt V w.heap.size 74 p.cs) := ⟨below_over H.out.1 bV, hV⟩
    have lm1 := hV.pmsg
    clear bV hV lm hW
    cases h2 : othM (msg p)
    · rw [h2] at P2 E
      go_wp2_with fail
      refine (P2.out _).mono ?_
      rintro _ U ⟨rfl, bU⟩
      have H2 : Hid (Below w.heap.size w U) := below_over H1.out.1 bU
      clear bU
      go_wp2
      go_ret
      exact ⟨ret_int (by rw [E.out]; rfl), H2.out⟩
    · rw [h2] at P2 E
      go_wp2_with fail
      refine (P2.out _).mono ?_
      rintro _ U ⟨rfl, bU⟩
      have hU := H1.out.2.below bU
      have H2 : Hid (Below w.heap.size w U) := below_over H1.out.1 bU
      have lv := hU.pmV
      have lp := hU.ppri
      clear bU hU lm1
      cases h3 : bet (mV p) (pri p)
      all_goals
        rw [h3] at P3 E
        go_wp2_with fail
        refine (P3.out _).mono ?_
        rintro _ Z ⟨rfl, bZ⟩
        have H3 : Hid (Below w.heap.size w Z) := below_over H2.out bZ
        clear bZ
        go_wp2
        go_ret
        exact ⟨ret_int (by rw [E.out]; rfl), H3.out⟩
  · rw [h1] at P1 E
    go_enter Tryz.func259, Tryz.ntmps259
    go_wp2_with fail
    refine (P1.out _).mono ?_
    rintro _ V ⟨rfl, bV⟩
    have hV := H.out.2.below bV
    have H1 : Hid (Below w.heap.size w V) := below_over H.out.1 bV
    have lp1 := hV.pld
    clear bV hV lm hW
    go_wp2_with fail
    refine (P4.out _).mono ?_
    rintro _ U ⟨rfl, bU⟩
    have H2 : Hid (Below w.heap.size w U) := below_over H1.out bU
    clear bU
    go_wp2
    go_ret
    exact ⟨ret_int (by rw [E.out]; rfl), H2.out⟩
set_option maxHeartbeats 2000000 in
theorem bos_any (p : Pt) (is : Int) (w : World) :
    Calls Tryz.prog 258 #[.agg p.cs, .int .i64 is] w fun r w' => r = .returned (.bool (bosP p is)) ∧ Below w.heap.size w w' := by
  obtain ⟨W, hW, r0, bW, zW⟩ := new_p w p
  have H : Hid (Below w.heap.size w W) := bW
  have c29 := r0.num (j := 29) (k := .i64) rfl
  have lv := r0.pmV
  have lp := r0.ppri
  have ld := r0.pdsg
  have P1 : Hid (∀ V : World, _) := fun V => better_row (pri p) (mV p) V
  have P2 : Hid (∀ V : World, _) := fun V => better_row (pri p) (dsg p) V
  obtain ⟨K, hK⟩ : ∃ K, p.nm 29 = K := ⟨_, rfl⟩
  have E : Hid (bosP p is = if K = is then (if is = 3 then !bet (pri p) (mV p) else if is = 2 then !bet (pri p) (dsg p) else false) else false) := show bosP p is = _ by rw [bosP, hK]
  rw [hK] at c29
  clear r0 bW zW hK
  by_cases h0 : K = is
  · subst h0
    by_cases h3 : K = 3
    · subst h3
      go_enter Tryz.func258, Tryz.ntmps258
      go_wp2_with fail
      refine (P1.out _).mono ?_
      rintro _ V ⟨rfl, bV⟩
      have H1 : Hid (Below w.heap.size w V) := below_over H.out bV
      clear bV
      go_wp2
      go_ret
      exact ⟨ret_bool (by rw [E.out]; rfl), H1.out⟩
    · by_cases h2 : K = 2
      · subst h2
        go_enter Tryz.func258, Tryz.ntmps258
        go_wp2_with fail
        refine (P2.out _).mono ?_
        rintro _ V ⟨rfl, bV⟩
        have H1 : Hid (Below w.heap.size w V) := below_over H.out bV
        clear bV
        go_wp2
        go_ret
        exact ⟨ret_bool (by rw [E.out]; rfl), H1.out⟩
      · go_enter Tryz.func258, Tryz.ntmps258
        go_wp2
        go_ret
        exact ⟨ret_bool (by rw [E.out]; simp [h2, h3]), H.out⟩
  · go_enter Tryz.func258, Tryz.ntmps258
    go_wp2
    go_ret
    exact ⟨ret_bool (by rw [E.out]; simp [h0]), H.out⟩
end S11
end
section
namespace S11
open Go.RowKit

attribute [local go_sem ↓] ldP stP ldM stM ldTm stTm ldV stV stB stU
attribute [local go_sem ↓] alP alM
attribute [local go_sem] alP_run alM_run
set_option maxHeartbeats 2000000 in
theorem changed_take (p : Pt) (m : Mg) (d : Nat) (w : World) (hm : RvAt w d 46 m.cs) :
    Calls Tryz.prog 89 #[.agg p.cs, .func (.func 90) #[] #[.pointer (some ⟨d, 0, none⟩)]] w fun r w' => r = .returned (.agg (takeP p m).cs) ∧ Below w.heap.size w w' := by
  obtain ⟨W, hW, r0, r1, bW, zW⟩ := two_p w p
  have H : Hid (RvAt W w.heap.size 74 p.cs ∧ RvAt W (w.heap.size + 1) 74 zeroP.cs ∧ Below w.heap.size w W ∧ W.heap.size = w.heap.size + 2 ∧ RvAt W d 46 m.cs) := ⟨r0, r1, bW, zW, hm.below bW⟩
  clear r0 r1 bW zW hm
  go_enter Tryz.func89, Tryz.ntmps89
  go_wp2_with fail
  refine (chg_take W w.heap.size d p m H.out.1 H.out.2.2.2.2).mono ?_
  rintro _ V ⟨rfl, hV, gV⟩
  have lV := hV.pld
  obtain ⟨U, sU, hU, gU⟩ := (H.out.2.1.keptBut gV (by simp)).pst (q := takeP p m)
  have G : Hid (RvAt U (w.heap.size + 1) 74 (takeP p m).cs ∧ Below w.heap.size w U) := ⟨hU, gro (gro H.out.2.2.1 gV (Nat.le_refl _) (by have := H.out.2.2.2.1; omega)) gU (by omega) (by have := H.out.2.2.2.1; have := gV.size; omega)⟩
  clear hV gV hU gU hW
  go_wp2_with (with_reducible exact ret_port Tryz.results89 (by with_unfolding_all rfl) (by with_unfolding_all rfl) G.out.1 ⟨rfl, G.out.2⟩)
set_option maxHeartbeats 2000000 in
theorem take_any (p : Pt) (m : Mg) (w : World) :
    Calls Tryz.prog 69 #[.agg p.cs, .agg m.cs] w fun r w' => r = .returned (.agg (takeP p m).cs) ∧ Below w.heap.size w w' := by
  obtain ⟨W, hW, r0, rm, r1, bW, zW⟩ := three_p w p m
  have H : Hid (RvAt W (w.heap.size + 1) 46 m.cs ∧ RvAt W (w.heap.size + 1 + 1) 74 zeroP.cs ∧ Below w.heap.size w W ∧ W.heap.size = w.heap.size + 3) := ⟨rm, r1, bW, zW⟩
  have l0 := r0.pld
  clear r0 rm r1 bW zW
  go_enter Tryz.func69, Tryz.ntmps69
  go_wp2_with fail
  refine (changed_take p m (w.heap.size + 1) W H.out.1).mono ?_
  rintro _ V ⟨rfl, bV⟩
  obtain ⟨U, sU, hU, gU⟩ := (H.out.2.1.below bV).pst (q := takeP p m)
  have G : Hid (RvAt U (w.heap.size + 1 + 1) 74 (takeP p m).cs ∧ Below w.heap.size w U) := ⟨hU, gro (below_over H.out.2.2.1 bV) gU (by omega) (by have := H.out.2.2.2; have := bV.size; omega)⟩
  clear bV hU gU hW l0
  go_wp2_with (with_reducible exact ret_port Tryz.results69 (by with_unfolding_all rfl) (by with_unfolding_all rfl) G.out.1 ⟨rfl, G.out.2⟩)
theorem ent_prop (x : Value) (V : World) : (callFunc 303 #[x]).run Tryz.prog V = .ok (.enter 303 #[x]) V := by go_simp
set_option maxHeartbeats 2000000 in
theorem prop_any (p : Pt) (w : World) :
    Calls Tryz.prog 285 #[.agg p.cs] w fun r w' => r = .returned (.agg (propP p).cs) ∧ Below w.heap.size w w' := by
  obtain ⟨W, hW, r0, r1, bW, zW⟩ := two_p w p
  have H : Hid (RvAt W (w.heap.size + 1) 74 zeroP.cs ∧ Below w.heap.size w W ∧ W.heap.size = w.heap.size + 2) := ⟨r1, bW, zW⟩
  have l0 := r0.pld
  clear r0 r1 bW zW
  go_enter Tryz.func285, Tryz.ntmps285
  go_wp2_with fail
  refine (changed_any _ _ chg_prop ent_prop p W).mono ?_
  rintro _ V ⟨rfl, bV⟩
  obtain ⟨U, sU, hU, gU⟩ := (H.out.1.below bV).pst (q := propP p)
  have G : Hid (RvAt U (w.heap.size + 1) 74 (propP p).cs ∧ Below w.heap.size w U) := ⟨hU, gro (below_over H.out.2.1 bV) gU (by omega) (by have := H.out.2.2; have := bV.size; omega)⟩
  clear bV hU gU hW l0
  go_wp2_with (with_reducible exact ret_port Tryz.results285 (by with_unfolding_all rfl) (by with_unfolding_all rfl) G.out.1 ⟨rfl, G.out.2⟩)
theorem ent_agr (x : Value) (V : World) : (callFunc 305 #[x]).run Tryz.prog V = .ok (.enter 305 #[x]) V := by go_simp
set_option maxHeartbeats 2000000 in
theorem agr_any (p : Pt) (w : World) :
    Calls Tryz.prog 287 #[.agg p.cs] w fun r w' => r = .returned (.agg (agrP p).cs) ∧ Below w.heap.size w w' := by
  obtain ⟨W, hW, r0, r1, bW, zW⟩ := two_p w p
  have H : Hid (RvAt W (w.heap.size + 1) 74 zeroP.cs ∧ Below w.heap.size w W ∧ W.heap.size = w.heap.size + 2) := ⟨r1, bW, zW⟩
  have l0 := r0.pld
  clear r0 r1 bW zW
  go_enter Tryz.func287, Tryz.ntmps287
  go_wp2_with fail
  refine (changed_any _ _ chg_agr ent_agr p W).mono ?_
  rintro _ V ⟨rfl, bV⟩
  obtain ⟨U, sU, hU, gU⟩ := (H.out.1.below bV).pst (q := agrP p)
  have G : Hid (RvAt U (w.heap.size + 1) 74 (agrP p).cs ∧ Below w.heap.size w U) := ⟨hU, gro (below_over H.out.2.1 bV) gU (by omega) (by have := H.out.2.2; have := bV.size; omega)⟩
  clear bV hU gU hW l0
  go_wp2_with (with_reducible exact ret_port Tryz.results287 (by with_unfolding_all rfl) (by with_unfolding_all rfl) G.out.1 ⟨rfl, G.out.2⟩)
theorem ent_disp (x : Value) (V : World) : (callFunc 307 #[x]).run Tryz.prog V = .ok (.enter 307 #[x]) V := by go_simp
set_option maxHeartbeats 2000000 in
theorem disp_any (p : Pt) (w : World) :
    Calls Tryz.prog 289 #[.agg p.cs] w fun r w' => r = .returned (.agg (dispP p).cs) ∧ Below w.heap.size w w' := by
  obtain ⟨W, hW, r0, r1, bW, zW⟩ := two_p w p
  have H : Hid (RvAt W (w.heap.size + 1) 74 zeroP.cs ∧ Below w.heap.size w W ∧ W.heap.size = w.heap.size + 2) := ⟨r1, bW, zW⟩
  have l0 := r0.pld
  clear r0 r1 bW zW
  go_enter Tryz.func289, Tryz.ntmps289
  go_wp2_with fail
  refine (changed_any _ _ chg_disp ent_disp p W).mono ?_
  rintro _ V ⟨rfl, bV⟩
  obtain ⟨U, sU, hU, gU⟩ := (H.out.1.below bV).pst (q := dispP p)
  have G : Hid (RvAt U (w.heap.size + 1) 74 (dispP p).cs ∧ Below w.heap.size w U) := ⟨hU, gro (below_over H.out.2.1 bV) gU (by omega) (by have := H.out.2.2; have := bV.size; omega)⟩
  clear bV hU gU hW l0
  go_wp2_with (with_reducible exact ret_port Tryz.results289 (by with_unfolding_all rfl) (by with_unfolding_all rfl) G.out.1 ⟨rfl, G.out.2⟩)
theorem ent_flag (x : Value) (V : World) : (callFunc 304 #[x]).run Tryz.prog V = .ok (.enter 304 #[x]) V := by go_simp
set_option maxHeartbeats 2000000 in
theorem flag_any (p : Pt) (w : World) :
    Calls Tryz.prog 286 #[.agg p.cs] w fun r w' => r = .returned (.agg (flagP p).cs) ∧ Below w.heap.size w w' := by
  obtain ⟨W, hW, r0, r1, bW, zW⟩ := two_p w p
  have H : Hid (RvAt W (w.heap.size + 1) 74 zeroP.cs ∧ Below w.heap.size w W ∧ W.heap.size = w.heap.size + 2) := ⟨r1, bW, zW⟩
  have l0 := r0.pld
  clear r0 r1 bW zW
  go_enter Tryz.func286, Tryz.ntmps286
  go_wp2_with fail
  refine (changed_any _ _ chg_flag ent_flag p W).mono ?_
  rintro _ V ⟨rfl, bV⟩
  obtain ⟨U, sU, hU, gU⟩ := (H.out.1.below bV).pst (q := flagP p)
  have G : Hid (RvAt U (w.heap.size + 1) 74 (flagP p).cs ∧ Below w.heap.size w U) := ⟨hU, gro (below_over H.out.2.1 bV) gU (by omega) (by have := H.out.2.2; have := bV.size; omega)⟩
  clear bV hU gU hW l0
  go_wp2_with (with_reducible exact ret_port Tryz.results286 (by with_unfolding_all rfl) (by with_unfolding_all rfl) G.out.1 ⟨rfl, G.out.2⟩)
theorem ent_prio (x : Value) (V : World) : (callFunc 312 #[x]).run Tryz.prog V = .ok (.enter 312 #[x]) V := by go_simp
set_option maxHeartbeats 2000000 in
theorem prio_any (p : Pt) (w : World) :
    Calls Tryz.prog 300 #[.agg p.cs] w fun r w' => r = .returned (.agg (prioP p).cs) ∧ Below w.heap.size w w' := by
  obtain ⟨W, hW, r0, r1, bW, zW⟩ := two_p w p
  have H : Hid (RvAt W (w.heap.size + 1) 74 zeroP.cs ∧ Below w.heap.size w W ∧ W.heap.size = w.heap.size + 2) := ⟨r1, bW, zW⟩
  have l0 := r0.pld
  clear r0 r1 bW zW
  go_enter Tryz.func300, Tryz.ntmps300
  go_wp2_with fail
  refine (changed_any _ _ chg_prio ent_prio p W).mono ?_
  rintro _ V ⟨rfl, bV⟩
  obtain ⟨U, sU, hU, gU⟩ := (H.out.1.below bV).pst (q := prioP p)
  have G : Hid (RvAt U (w.heap.size + 1) 74 (prioP p).cs ∧ Below w.heap.size w U) := ⟨hU, gro (below_over H.out.2.1 bV) gU (by omega) (by have := H.out.2.2; have := bV.size; omega)⟩
  clear bV hU gU hW l0
  go_wp2_with (with_reducible exact ret_port Tryz.results300 (by with_unfolding_all rfl) (by with_unfolding_all rfl) G.out.1 ⟨rfl, G.out.2⟩)
theorem ent_tim (x : Value) (V : World) : (callFunc 313 #[x]).run Tryz.prog V = .ok (.enter 313 #[x]) V := by go_simp
set_option maxHeartbeats 2000000 in
theorem tim_any (p : Pt) (w : World) :
    Calls Tryz.prog 301 #[.agg p.cs] w fun r w' => r = .returned (.agg (timP p).cs) ∧ Below w.heap.size w w' := by
  obtain ⟨W, hW, r0, r1, bW, zW⟩ := two_p w p
  have H : Hid (RvAt W (w.heap.size + 1) 74 zeroP.cs ∧ Below w.heap.size w W ∧ W.heap.size = w.heap.size + 2) := ⟨r1, bW, zW⟩
  have l0 := r0.pld
  clear r0 r1 bW zW
  go_enter Tryz.func301, Tryz.ntmps301
  go_wp2_with fail
  refine (changed_any _ _ chg_tim ent_tim p W).mono ?_
  rintro _ V ⟨rfl, bV⟩
  obtain ⟨U, sU, hU, gU⟩ := (H.out.1.below bV).pst (q := timP p)
  have G : Hid (RvAt U (w.heap.size + 1) 74 (timP p).cs ∧ Below w.heap.size w U) := ⟨hU, gro (below_over H.out.2.1 bV) gU (by omega) (by have := H.out.2.2; have := bV.size; omega)⟩
  clear bV hU gU hW l0
  go_wp2_with (with_reducible exact ret_port Tryz.results301 (by with_unfolding_all rfl) (by with_unfolding_all rfl) G.out.1 ⟨rfl, G.out.2⟩)
theorem ent_whi (x : Value) (V : World) : (callFunc 306 #[x]).run Tryz.prog V = .ok (.enter 306 #[x]) V := by go_simp
set_option maxHeartbeats 2000000 in
theorem whi_any (p : Pt) (w : World) :
    Calls Tryz.prog 288 #[.agg p.cs] w fun r w' => r = .returned (.agg (whiP p).cs) ∧ Below w.heap.size w w' := by
  obtain ⟨W, hW, r0, r1, bW, zW⟩ := two_p w p
  have H : Hid (RvAt W (w.heap.size + 1) 74 zeroP.cs ∧ Below w.heap.size w W ∧ W.heap.size = w.heap.size + 2) := ⟨r1, bW, zW⟩
  have l0 := r0.pld
  clear r0 r1 bW zW
  go_enter Tryz.func288, Tryz.ntmps288
  go_wp2_with fail
  refine (changed_any _ _ chg_whi ent_whi p W).mono ?_
  rintro _ V ⟨rfl, bV⟩
  obtain ⟨U, sU, hU, gU⟩ := (H.out.1.below bV).pst (q := whiP p)
  have G : Hid (RvAt U (w.heap.size + 1) 74 (whiP p).cs ∧ Below w.heap.size w U) := ⟨hU, gro (below_over H.out.2.1 bV) gU (by omega) (by have := H.out.2.2; have := bV.size; omega)⟩
  clear bV hU gU hW l0
  go_wp2_with (with_reducible exact ret_port Tryz.results288 (by with_unfolding_all rfl) (by with_unfolding_all rfl) G.out.1 ⟨rfl, G.out.2⟩)
end S11
end
section
namespace S11
open Go.RowKit

theorem wi0 : (Lit.int .i64 0).wf = true := by decide
theorem wi1 : (Lit.int .i64 1).wf = true := by decide
theorem wi2 : (Lit.int .i64 2).wf = true := by decide
theorem wi3 : (Lit.int .i64 3).wf = true := by decide
def rslP (p : Pt) : Pt := (p.setB 21 kb21 true).setB 22 kb22 false
def disQ (p : Pt) : Pt := (((((((p.setB 14 kb14 false).setB 13 kb13 false).setB 12 kb12 false).setB 3 kb3 false).setB 4 kb4 false).setU 69 0).setN 29 kn29 0 wi0).setN 72 kn72 1 wi1
def disP (p : Pt) : Pt := rslP (disQ p)
def agdQ (p : Pt) : Pt := (p.setN 29 kn29 1 wi1).setN 72 kn72 2 wi2
def agdP (p : Pt) : Pt := rslP (agdQ p)
def updA (p : Pt) : Pt := p.setB 4 kb4 (p.bt 4 && bosP p 2)
def synP (p : Pt) : Pt := p.setB 25 kb25 (p.bt 25 && p.bt 4)
def clrP (p : Pt) : Pt := (p.setB 13 kb13 false).setB 12 kb12 false
def dsgT (p : Pt) : Tm := ⟨(p.cl.drop 40).take 4, (p.sub 40 4).ok⟩
def ownP (p : Pt) : Pt := (p.put 36 (dsg p) kq36 kl36).put 44 (dsgT p) kq44 kl44
def updB (p : Pt) : Pt := ownP (clrP (synP (updA p)))
def curP (p : Pt) : Pt := (((p.setB 28 kb28 false).setB 11 kb11 true).setN 29 kn29 2 wi2).setN 72 kn72 3 wi3
def updP (p : Pt) : Pt := curP (updB p)
def d1P (p : Pt) : Pt := (p.setB 4 kb4 false).setB 13 kb13 false
def d2P (p : Pt) : Pt := p.setB 3 kb3 (p.bt 3 && bosP p 3)
def d4P (p : Pt) : Pt := rslP (p.setN 29 kn29 3 wi3)
def othP (p : Pt) : Pt := if p.nm 48 = 2 then flagP p else p
def supP (p : Pt) : Pt := d4P (whiP (timP (prioP (synP (agrP (d2P (flagP (propP (d1P p)))))))))
def recQ (p : Pt) : Pt := if infP p = 1 then supP p else if infP p = 2 then whiP (agrP (flagP (propP p))) else if infP p = 3 then dispP p else if infP p = 4 then flagP (agrP p) else othP p
def recP (p : Pt) : Pt := (recQ p).setB 14 kb14 false
def fdsO (p : Pt) : Option Pt := if p.bt 2 = true then some (agdP p) else if p.bt 14 = true then some (disP p) else none
def fagO (p : Pt) : Option Pt := if p.bt 22 = true ∧ p.bt 28 = true then some (updP p) else none
def fcuO (p : Pt) : Option Pt := if p.bt 14 = true ∧ p.bt 28 = false then some (recP p) else if p.bt 22 = true ∧ p.bt 28 = true then some (updP p) else if p.nm 29 = 3 ∧ p.nm 69 = 0 ∧ p.bt 28 = false ∧ p.bt 14 = false then some (agdP p) else none
def stepO (p : Pt) : Option Pt := if p.bt 2 = false ∧ p.nm 29 ≠ 0 then some (disP p) else if p.nm 72 = 1 then fdsO p else if p.nm 72 = 2 then fagO p else if p.nm 72 = 3 then fcuO p else some (disP p)
def tellO (p : Pt) (o : Option Pt) : Pt := o.getD p
theorem stI (x y : Value) : Instr.storeAt 71 x y = stS 71 x y := rfl
theorem stW (x y : Value) : Instr.storeAt 72 x y = stS 72 x y := rfl
theorem infoI : (Tryz.prog.info? 71).map (·.size) = some 1 := by kernel_rfl
theorem infoS : (Tryz.prog.info? 72).map (·.size) = some 1 := by kernel_rfl
theorem _root_.Go.Proofs.YtlchejbggnbccaaGreat.RvAt.pdsT {W : World} {b : Nat} {p : Pt} (hb : RvAt W b 74 p.cs) : (ldS 24 (.pointer (some ⟨b, 40, none⟩))).run Tryz.prog W = .ok (.agg (dsgT p).cs) W := hb.part rfl rfl Tryz.underlying24 rfl infoTm
structure PS (w W : World) (b d : Nat) (q : Pt) : Prop where
  var : RvAt W b 74 q.cs
  out : RvAt W d 74 zeroP.cs
  bel : Below w.heap.size w W
  hb : w.heap.size ≤ b
  hd : w.heap.size ≤ d
  ne : d ≠ b
theorem PS.start (w : World) (p : Pt) : ∃ W, (w.alloc (.cells p.cs 74)).alloc (.cells zeroP.cs 74) = W ∧ PS w W w.heap.size (w.heap.size + 1) p := by
  obtain ⟨W, hW, r0, r1, bW, zW⟩ := two_p w p
  exact ⟨W, hW, r0, r1, bW, Nat.le_refl _, by omega, by omega⟩
theorem PS.go {w W V : World} {b d : Nat} {q r : Pt} (s : PS w W b d q) (h : RvAt V b 74 r.cs) (g : W.grownBy V (some b)) : PS w V b d r :=
  ⟨h, s.out.keptBut g (by have := s.ne; simpa using this), gro s.bel g s.hb s.bel.size, s.hb, s.hd, s.ne⟩
theorem PS.below {w W V : World} {b d : Nat} {q : Pt} (s : PS w W b d q) (k : Below W.heap.size W V) : PS w V b d q := ⟨s.var.below k, s.out.below k, below_over s.bel k, s.hb, s.hd, s.ne⟩
theorem PS.setB {w W : World} {b d j : Nat} {q : Pt} (s : PS w W b d q) (h : kdP[j]? = some none) (x : Bool) : ∃ V, (stS 4 (.pointer (some ⟨b, j, none⟩)) (.bool x)).run Tryz.prog W = .ok () V ∧ PS w V b d (q.setB j h x) := by
  obtain ⟨V, e, h1, g⟩ := s.var.setB h x
  exact ⟨V, e, s.go h1 g⟩
theorem PS.setU {w W : World} {b d j : Nat} {q : Pt} (s : PS w W b d q) (h : kdP[j]? = some (some .u8)) {n : Int} (hn : 0 ≤ n ∧ n ≤ 255) : ∃ V, (stS 5 (.pointer (some ⟨b, j, none⟩)) (.int .u8 n)).run Tryz.prog W = .ok () V ∧ PS w V b d (q.setU j n) := by
  obtain ⟨V, e, h1, g⟩ := s.var.setU h hn
  exact ⟨V, e, s.go h1 g⟩
theorem PS.setN {w W : World} {b d j : Nat} {q : Pt} (s : PS w W b d q) {t : TypeId} (ht : (Tryz.prog.info? t).map (·.size) = some 1) (h : kdP[j]? = some (some .i64)) {n : Int} (hn : (Lit.int .i64 n).wf = true) : ∃ V, (stS t (.pointer (some ⟨b, j, none⟩)) (.int .i64 n)).run Tryz.prog W = .ok () V ∧ PS w V b d (q.setN j h n hn) := by
  obtain ⟨V, e, h1, g⟩ := s.var.rset (v := .int .i64 n) ht (List.getElem?_eq_some_iff.1 h).1 rfl (fit_num h hn)
  exact ⟨V, e, s.go h1 g⟩
theorem PS.putV {w W : World} {b d : Nat} {q : Pt} (s : PS w W b d q) (v : Vc) : ∃ V, (stS 36 (.pointer (some ⟨b, 36, none⟩)) (.agg v.cs)).run Tryz.prog W = .ok () V ∧ PS w V b d (q.put 36 v kq36 kl36) := by
  obtain ⟨V, e, h1, g⟩ := s.var.putV v
  exact ⟨V, e, s.go h1 g⟩
theorem PS.putT {w W : World} {b d : Nat} {q : Pt} (s : PS w W b d q) (v : Tm) : ∃ V, (stS 24 (.pointer (some ⟨b, 44, none⟩)) (.agg v.cs)).run Tryz.prog W = .ok () V ∧ PS w V b d (q.put 44 v kq44 kl44) := by
  obtain ⟨V, e, h1, g⟩ := s.var.putT v
  exact ⟨V, e, s.go h1 g⟩
theorem PS.tell {w W : World} {b d : Nat} {q : Pt} (s : PS w W b d q) (r : Pt) : ∃ U, (stS 74 (.pointer (some ⟨d, 0, none⟩)) (.agg r.cs)).run Tryz.prog W = .ok () U ∧ RvAt U d 74 r.cs ∧ Below w.heap.size w U := by
  obtain ⟨U, e, h1, g⟩ := s.out.pst (q := r)
  exact ⟨U, e, h1, gro s.bel g s.hd s.bel.size⟩
theorem PS.ld {w W : World} {b d : Nat} {q : Pt} (s : PS w W b d q) : (ldS 74 (.pointer (some ⟨b, 0, none⟩))).run Tryz.prog W = .ok (.agg q.cs) W := s.var.pld
theorem results_pb {fn : Func} {k t : Nat} (hr : fn.results = #[.cell k 74, .tmp t]) (tmps : Array Value) (w : World) (b : Nat) (p : Pt) (h2 : tmps.getD k undef = .pointer (some ⟨b, 0, none⟩)) (h : RvAt w b 74 p.cs) :
    (results fn tmps).run Tryz.prog w = .ok (.tuple #[.agg p.cs, tmps.getD t undef]) w := by
  have hl := h.lv rtP (by rw [Row.csize, lenP])
  have h2' : tmps[k]?.getD undef = .pointer (some ⟨b, 0, none⟩) := by simpa using h2
  simp [results, hr, asAddr, hl, h2']
theorem ret_pb {fn : Func} {k t : Nat} (hr : fn.results = #[.cell k 74, .tmp t]) {R : Ending → World → Prop} {a : Act} {w : World} {b : Nat} {p : Pt} {x : Bool} (hd : a.defers = []) (h2 : a.tmps.getD k undef = .pointer (some ⟨b, 0, none⟩)) (h3 : a.tmps.getD t undef = .bool x) (h : RvAt w b 74 p.cs) (hR : R (.returned (.tuple #[.agg p.cs, .bool x])) w) : bodyPost Tryz.prog fn R .ret a w :=
  bodyPost_ret (results_pb hr _ _ _ _ h2 h) hd (by rw [h3]; exact hR)
theorem setB_eq {ks : List (Option IntKind)} (r : Row ks) {j : Nat} (h : ks[j]? = some none) {x y : Bool} (e : x = y) : r.setB j h x = r.setB j h y := by rw [e]
end S11
end
end Go.Proofs.YtlchejbggnbccaaGreat
