/-
  Vectors in memory, held against each other: the walks of parts, Compare, Better, each for every input. And what follows from it here.
-/
import Derived.Test.YtlchejbggnbccaaGreatBbb
import Derived.Test.YtlchejbggnbccaaGreatBba
import Derived.Laws.BitsAllLaws
namespace Go.Proofs.YtlchejbggnbccaaGreat
set_option linter.unusedVariables false
set_option linter.unusedSimpArgs false
set_option maxRecDepth 4000
section
namespace S12
open Go.RowKit

structure V4 where
  r : Int
  c : Int
  b : Int
  p : Int
def V4.cs (v : V4) : Array Value := #[.int .u64 v.r, .int .u32 v.c, .int .u64 v.b, .int .u16 v.p]
structure V4.wf (v : V4) : Prop where
  r : 0 ≤ v.r ∧ v.r ≤ 18446744073709551615
  c : 0 ≤ v.c ∧ v.c ≤ 4294967295
  b : 0 ≤ v.b ∧ v.b ≤ 18446744073709551615
  p : 0 ≤ v.p ∧ v.p ≤ 65535
theorem V4.size (v : V4) : v.cs.size = 4 := rfl
theorem infoV : (Tryz.prog.info? 36).map (·.size) = some 4 := by kernel_rfl
theorem rtV : RowTy 36 4 := ⟨infoV, _, Tryz.underlying36, rfl⟩
theorem infoQ : (Tryz.prog.info? 211).map (·.size) = some 4 := by kernel_rfl
theorem rtQ : RowTy 211 4 := ⟨infoQ, _, Tryz.underlying211, rfl⟩
theorem ldV (x : Value) : Instr.loadAt 36 x = ldS 36 x := rfl
theorem stV (x y : Value) : Instr.storeAt 36 x y = stS 36 x y := rfl
theorem stQ (x y : Value) : Instr.storeAt 211 x y = stS 211 x y := rfl
def VvAt (W : World) (b : Nat) (v : V4) : Prop := RvAt W b 36 v.cs
theorem VvAt.below {W W' : World} {b : Nat} {v : V4} (h : VvAt W b v) (hb : Below W.heap.size W W') : VvAt W' b v := RvAt.below h hb
theorem VvAt.ld {W : World} {b : Nat} {v : V4} (h : VvAt W b v) : (ldS 36 (.pointer (some ⟨b, 0, none⟩))).run Tryz.prog W = .ok (.agg v.cs) W := RvAt.ld rtV h v.size
theorem VvAt.new (W : World) (v : V4) : VvAt (W.alloc (.cells v.cs 36)) W.heap.size v := alloc_at W _
theorem two_new (w : World) (a b : V4) : ∃ W, (w.alloc (.cells a.cs 36)).alloc (.cells b.cs 36) = W ∧ VvAt W w.heap.size a ∧ VvAt W (w.heap.size + 1) b ∧ Below w.heap.size w W :=
  ⟨_, rfl, (VvAt.new w a).below ((Below.refl _ _).alloc (Nat.le_refl _) _), by have := VvAt.new (w.alloc (.cells a.cs 36)) b; simpa using this, ((Below.refl _ _).alloc (Nat.le_refl _) _).alloc (by simp) _⟩
def cmpV (a b : V4) : Int :=
  if a.r < b.r then -1 else if b.r < a.r then 1 else if a.c < b.c then -1 else if b.c < a.c then 1 else if a.b < b.b then -1 else if b.b < a.b then 1 else if a.p < b.p then -1 else if b.p < a.p then 1 else 0
def betV (a b : V4) : Bool := decide (cmpV a b < 0)
set_option maxHeartbeats 400000 in
theorem parts_any (v : V4) (w : World) (h : v.wf) :
    Calls Tryz.prog 255 #[.agg v.cs] w fun e w' => e = .returned (.agg #[.int .u64 v.r, .int .u64 v.c, .int .u64 v.b, .int .u64 v.p]) ∧ Below w.heap.size w w' := by
  obtain ⟨r, c, b, p⟩ := v
  obtain ⟨hr, hc, hb, hp⟩ := h
  simp only at hr hc hb hp
  show Calls Tryz.prog 255 #[.agg #[.int .u64 r, .int .u32 c, .int .u64 b, .int .u16 p]] w _
  go_enter Tryz.func255, Tryz.ntmps255
  go_wp2
  go_returns
  exact ⟨rfl, by go_grown⟩
@[go_sem] theorem ix0 (x y z t : Int) (w : World) : (Instr.index 211 (.agg #[.int .u64 x, .int .u64 y, .int .u64 z, .int .u64 t]) (.int .i64 0)).run Tryz.prog w = .ok (.int .u64 x) w := by kernel_rfl
@[go_sem] theorem ix1 (x y z t : Int) (w : World) : (Instr.index 211 (.agg #[.int .u64 x, .int .u64 y, .int .u64 z, .int .u64 t]) (.int .i64 1)).run Tryz.prog w = .ok (.int .u64 y) w := by kernel_rfl
@[go_sem] theorem ix2 (x y z t : Int) (w : World) : (Instr.index 211 (.agg #[.int .u64 x, .int .u64 y, .int .u64 z, .int .u64 t]) (.int .i64 2)).run Tryz.prog w = .ok (.int .u64 z) w := by kernel_rfl
@[go_sem] theorem ix3 (x y z t : Int) (w : World) : (Instr.index 211 (.agg #[.int .u64 x, .int .u64 y, .int .u64 z, .int .u64 t]) (.int .i64 3)).run Tryz.prog w = .ok (.int .u64 t) w := by kernel_rfl
attribute [local go_sem ↓] ldV stV stQ
set_option maxHeartbeats 1000000 in
theorem compare_any (a b : V4) (w : World) (ha : a.wf) (hb : b.wf) :
    Calls Tryz.prog 225 #[.agg a.cs, .agg b.cs] w fun e w' => e = .returned (.int .i64 (cmpV a b)) ∧ Below w.heap.size w w' := by
  obtain ⟨W, hW, va, vb, bW⟩ := two_new w a b
  have H : Hid (VvAt W w.heap.size a ∧ VvAt W (w.heap.size + 1) b ∧ Below w.heap.size w W ∧ a.wf ∧ b.wf) := ⟨va, vb, bW, ha, hb⟩
  have lb := vb.ld
  clear va vb bW ha hb
  go_enter Tryz.func225, Tryz.ntmps225
  go_wp2_with fail
  go_step3
  go_wp2_with fail
  refine (parts_any b _ H.out.2.2.2.2).mono ?_
  rintro _ W1 ⟨rfl, b1⟩
  obtain ⟨W2, st2, r2, b2, z2⟩ := row_new rtQ W1 #[.int .u64 0, .int .u64 0, .int .u64 0, .int .u64 0] #[.int .u64 b.r, .int .u64 b.c, .int .u64 b.b, .int .u64 b.p] rfl rfl (by simp [Value.oneCell'])
  have b12 := below_over b1 b2
  have H2 : Hid (RvAt W2 W1.heap.size 211 #[.int .u64 b.r, .int .u64 b.c, .int .u64 b.b, .int .u64 b.p] ∧ Below w.heap.size w W2 ∧ a.wf) := ⟨r2, below_over H.out.2.2.1 b12, H.out.2.2.2.1⟩
  have la := (H.out.1.below b12).ld
  clear r2 b1 b2 z2 b12 H lb
  go_wp2_with fail
  go_step3
  go_wp2_with fail
  refine (parts_any a _ H2.out.2.2).mono ?_
  rintro _ W3 ⟨rfl, b3⟩
  have r3 := H2.out.1.below b3
  have c0 := r3.cell 0 (.int .u64 b.r) rfl
  have c1 := r3.cell 1 (.int .u64 b.c) rfl
  have c2 := r3.cell 2 (.int .u64 b.b) rfl
  have c3 := r3.cell 3 (.int .u64 b.p) rfl
  have H3 : Hid (Below w.heap.size w W3) := below_over H2.out.2.1 b3
  clear r3 b3 st2 la H2 hW
  go_wp2_with fail
  go_rounds 5
  all_goals
    try rw [Exit.noGoto_ret]
    go_ret
    refine ⟨ret_int ?_, H3.out⟩
    unfold cmpV
    (repeat' split) <;> omega
set_option maxHeartbeats 400000 in
theorem better_any (a b : V4) (w : World) (ha : a.wf) (hb : b.wf) :
    Calls Tryz.prog 256 #[.agg a.cs, .agg b.cs] w fun e w' => e = .returned (.bool (betV a b)) ∧ Below w.heap.size w w' := by
  obtain ⟨W, hW, va, vb, bW⟩ := two_new w a b
  have H : Hid (a.wf ∧ b.wf ∧ Below w.heap.size w W) := ⟨ha, hb, bW⟩
  have la := va.ld
  have lb := vb.ld
  clear va vb bW ha hb
  go_enter Tryz.func256, Tryz.ntmps256
  go_wp2_with fail
  refine (compare_any a b _ H.out.1 H.out.2.1).mono ?_
  rintro _ W1 ⟨rfl, b1⟩
  have H1 : Hid (Below w.heap.size w W1) := below_over H.out.2.2 b1
  clear b1 H la lb hW
  go_wp2
  go_ret
  exact ⟨rfl, H1.out⟩
end S12
end
section
namespace S12
open Go.RowKit

def eq6 (a b c d e f a' b' c' d' e' f' : Int) : Bool := decide (a = a' ∧ b = b' ∧ c = c' ∧ d = d' ∧ e = e' ∧ f = f')
@[go_sem] theorem eqMac (a b c d e f a' b' c' d' e' f' : Int) (w : World) :
    (Op.equalIn 10000 102 (.agg #[.int .u8 a, .int .u8 b, .int .u8 c, .int .u8 d, .int .u8 e, .int .u8 f]) (.agg #[.int .u8 a', .int .u8 b', .int .u8 c', .int .u8 d', .int .u8 e', .int .u8 f'])).run Tryz.prog w = .ok (eq6 a b c d e f a' b' c' d' e' f') w := by
  have u5 := Tryz.underlying5
  have a5 := Tryz.isAgg5
  have z5 := Tryz.sizeOf5
  rw [show (10000 : Nat) = 9999 + 1 from rfl, Op.equalIn]
  simp only [Sem.run_bind, run_underlying Tryz.underlying102, Result.andThen_ok]
  simp only [Std.Legacy.Range.forIn_eq_forIn_range', Std.Legacy.Range.size, Nat.sub_zero, Nat.add_sub_cancel, Nat.div_one, List.range'_succ, List.range'_zero, List.forIn_cons, List.forIn_nil]
  go_simp
  unfold eq6
  by_cases h1 : a = a' <;> simp [h1]
  by_cases h2 : b = b' <;> simp [h2]
  by_cases h3 : c = c' <;> simp [h3]
  by_cases h4 : d = d' <;> simp [h4]
  by_cases h5 : e = e' <;> simp [h5]
  by_cases h6 : f = f' <;> simp [h6]
set_option maxHeartbeats 400000 in
theorem address_any (n : Int) (w : World) (hn : 0 ≤ n ∧ n ≤ 18446744073709551615) :
    Calls Tryz.prog 47 #[.int .u64 n] w fun r w' => r = .returned (.agg #[.int .u8 (n / 1099511627776 % 256), .int .u8 (n / 4294967296 % 256), .int .u8 (n / 16777216 % 256), .int .u8 (n / 65536 % 256), .int .u8 (n / 256 % 256), .int .u8 (n % 256)]) ∧ Below w.heap.size w w' := by
  go_enter Tryz.func47, Tryz.ntmps47
  go_wp2
  go_rounds 7
  go_returns
  exact ⟨rfl, by go_grown⟩
end S12
end
section
namespace S12
open Go.RowKit

def sameA (n m : Int) : Bool := decide (n % 281474976710656 = m % 281474976710656)
theorem eq6_ad (n m : Int) : eq6 (n / 1099511627776 % 256) (n / 4294967296 % 256) (n / 16777216 % 256) (n / 65536 % 256) (n / 256 % 256) (n % 256) (m / 1099511627776 % 256) (m / 4294967296 % 256) (m / 16777216 % 256) (m / 65536 % 256) (m / 256 % 256) (m % 256) = sameA n m := by
  unfold eq6 sameA
  apply decide_eq_decide.mpr
  constructor <;> intro h <;> omega
attribute [local go_sem ↓] ldV stV
end S12
end
section
namespace S12
open Go.RowKit
def v4 (v : Vc) : V4 := ⟨v.nm 0, v.nm 1, v.nm 2, v.nm 3⟩
theorem v4_cs (v : Vc) : (v4 v).cs = v.cs := by
  have h0 := v.num (j := 0) (k := .u64) rfl
  have h1 := v.num (j := 1) (k := .u32) rfl
  have h2 := v.num (j := 2) (k := .u64) rfl
  have h3 := v.num (j := 3) (k := .u16) rfl
  have hl := v.len
  rw [lenV] at hl
  have e : v.cl = [.int .u64 (v.nm 0), .int .u32 (v.nm 1), .int .u64 (v.nm 2), .int .u16 (v.nm 3)] := by
    refine List.ext_getElem? fun j => ?_
    match j with
    | 0 => rw [h0]; rfl
    | 1 => rw [h1]; rfl
    | 2 => rw [h2]; rfl
    | 3 => rw [h3]; rfl
    | j + 4 => rw [List.getElem?_eq_none (by omega)]; rfl
  show _ = v.cl.toArray
  rw [e]
  rfl
theorem v4_wf (v : Vc) : (v4 v).wf := ⟨v.u64 rfl, v.u32 rfl, v.u64 rfl, v.u16 rfl⟩
def bet (a b : Vc) : Bool := betV (v4 a) (v4 b)
theorem better_row (a b : Vc) (w : World) : Calls Tryz.prog 256 #[.agg a.cs, .agg b.cs] w fun e w' => e = .returned (.bool (bet a b)) ∧ Below w.heap.size w w' := by
  rw [← v4_cs a, ← v4_cs b]
  exact better_any _ _ w (v4_wf a) (v4_wf b)
end S12
end
section
namespace S12
open Go.RowKit

def gtP (l : List Pt) (i : Nat) : Pt := l.getD i zeroP
theorem gtP_at {l : List Pt} {i : Nat} (h : i < l.length) : l[i]? = some (gtP l i) := by
  simp [gtP, List.getD_eq_getElem?_getD, List.getElem?_eq_getElem h]
theorem one_t (w : World) (h : Hd) (x : Value) : ∃ W, w.alloc (.cells (trc h x) 39) = W ∧ RvAt W w.heap.size 39 (trc h x) ∧ Below w.heap.size w W ∧ W.heap.size = w.heap.size + 1 :=
  ⟨_, rfl, RvAt.new w _ _, (Below.refl _ _).alloc (Nat.le_refl _) _, by simp⟩
theorem bt_of {ks ks' : List (Option IntKind)} {r : Row ks} {q : Row ks'} {i j : Nat} (h : r.cl[i]? = q.cl[j]?) : r.bt i = q.bt j := by unfold Row.bt; rw [h]
theorem nm_of {ks ks' : List (Option IntKind)} {r : Row ks} {q : Row ks'} {i j : Nat} (h : r.cl[i]? = q.cl[j]?) : r.nm i = q.nm j := by unfold Row.nm; rw [h]
theorem wi0 : (Lit.int .i64 0).wf = true := by decide
def dsgT (p : Pt) : Tm := ⟨(p.cl.drop 40).take 4, (p.sub 40 4).ok⟩
theorem _root_.Go.Proofs.YtlchejbggnbccaaGreat.RvAt.pdsT12 {W : World} {b : Nat} {p : Pt} (hb : RvAt W b 74 p.cs) : (ldS 24 (.pointer (some ⟨b, 40, none⟩))).run Tryz.prog W = .ok (.agg (dsgT p).cs) W := hb.part rfl rfl Tryz.underlying24 rfl infoTm
theorem wi4 : (Lit.int .i64 4).wf = true := by decide
theorem kn31 : kdP[31]? = some (some .i64) := rfl
theorem kq32 : (kdP.drop 32).take kdV.length = kdV := rfl
theorem kl32 : 32 + kdV.length ≤ kdP.length := by decide
theorem kq40 : (kdP.drop 40).take kdT.length = kdT := rfl
theorem kl40 : 40 + kdT.length ≤ kdP.length := by decide
theorem vc_cl (v : Vc) : v.cl = [.int .u64 (v.nm 0), .int .u32 (v.nm 1), .int .u64 (v.nm 2), .int .u16 (v.nm 3)] := by
  have h := congrArg Array.toList (v4_cs v)
  simpa [V4.cs, v4, Row.cs] using h.symm
theorem tm_cl (v : Tm) : v.cl = [.int .u8 (v.nm 0), .int .u8 (v.nm 1), .int .u8 (v.nm 2), .int .u8 (v.nm 3)] := by
  have h0 := v.num (j := 0) (k := .u8) rfl
  have h1 := v.num (j := 1) (k := .u8) rfl
  have h2 := v.num (j := 2) (k := .u8) rfl
  have h3 := v.num (j := 3) (k := .u8) rfl
  have hl := v.len
  rw [lenT] at hl
  refine List.ext_getElem? fun j => ?_
  match j with
  | 0 => rw [h0]; rfl
  | 1 => rw [h1]; rfl
  | 2 => rw [h2]; rfl
  | 3 => rw [h3]; rfl
  | j + 4 => rw [List.getElem?_eq_none (by omega)]; rfl
theorem fits4 {k0 k1 k2 k3 : Option IntKind} {x0 x1 x2 x3 : Value} (h0 : Fit k0 x0) (h1 : Fit k1 x1) (h2 : Fit k2 x2) (h3 : Fit k3 x3) : Fits [k0, k1, k2, k3] [x0, x1, x2, x3] := by
  refine ⟨rfl, fun j k v hk hv => ?_⟩
  match j, hk, hv with
  | 0, hk, hv => cases hk; cases hv; exact h0
  | 1, hk, hv => cases hk; cases hv; exact h1
  | 2, hk, hv => cases hk; cases hv; exact h2
  | 3, hk, hv => cases hk; cases hv; exact h3
  | j + 4, hk, hv => simp at hk
theorem _root_.Go.Proofs.YtlchejbggnbccaaGreat.Row.fit {ks : List (Option IntKind)} (r : Row ks) {j : Nat} {k : IntKind} (h : ks[j]? = some (some k)) : Fit (some k) (.int k (r.nm j)) := ⟨_, rfl, r.nwf h⟩
theorem fit32 (n : Int) : Fit (some .u32) (.int .u32 (n % 4294967296)) := ⟨_, rfl, by simp [Lit.wf, IntKind.min, IntKind.max, IntKind.signed, IntKind.bits]; omega⟩
def ownV (h : Hd) : Vc := ⟨[.int .u64 (h.nm 0), .int .u32 0, .int .u64 (h.nm 0), .int .u16 0], fits4 (h.fit (j := 0) rfl) ⟨0, rfl, by decide⟩ (h.fit (j := 0) rfl) ⟨0, rfl, by decide⟩⟩
def addV (p : Pt) : Vc := ⟨[.int .u64 (p.nm 36), .int .u32 ((p.nm 37 + p.nm 1) % 4294967296), .int .u64 (p.nm 38), .int .u16 (p.nm 39)], fits4 (p.fit (j := 36) rfl) (fit32 _) (p.fit (j := 38) rfl) (p.fit (j := 39) rfl)⟩
def desV (h : Hd) (v : Vc) (p : Pt) : Vc := ⟨[.int .u64 (v.nm 0), .int .u32 (v.nm 1), .int .u64 (h.nm 0), .int .u16 (p.nm 0)], fits4 (v.fit (j := 0) rfl) (v.fit (j := 1) rfl) (h.fit (j := 0) rfl) (p.fit (j := 0) rfl)⟩
def oldN (a : Int) : Int := if a < 255 then a + 1 else 255
theorem oldN_fit {a : Int} (h : 0 ≤ a ∧ a ≤ 255) : Fit (some .u8) (.int .u8 (oldN a)) := ⟨_, rfl, wf8 (by unfold oldN; split <;> omega)⟩
def oldT (t : Tm) : Tm := ⟨[.int .u8 (oldN (t.nm 0)), .int .u8 (t.nm 1), .int .u8 (t.nm 2), .int .u8 (t.nm 3)], fits4 (oldN_fit (t.u8 rfl)) (t.fit (j := 1) rfl) (t.fit (j := 2) rfl) (t.fit (j := 3) rfl)⟩
def desT (h : Hd) (t : Tm) : Tm := ⟨[.int .u8 (t.nm 0), .int .u8 (t.nm 1), .int .u8 (h.nm 3), .int .u8 (t.nm 3)], fits4 (t.fit (j := 0) rfl) (t.fit (j := 1) rfl) (h.fit (j := 3) rfl) (t.fit (j := 3) rfl)⟩
theorem pri_nm (p : Pt) (j : Nat) (hj : j < 4) : (pri p).nm j = p.nm (36 + j) := p.nm_sub 36 4 j hj
theorem pri_cs (p : Pt) : (pri p).cs = #[.int .u64 (p.nm 36), .int .u32 (p.nm 37), .int .u64 (p.nm 38), .int .u16 (p.nm 39)] := by
  show (pri p).cl.toArray = _
  rw [vc_cl, pri_nm p 0 (by omega), pri_nm p 1 (by omega), pri_nm p 2 (by omega), pri_nm p 3 (by omega)]
end S12
end
section
namespace S12
open Go.RowKit

theorem compare_row (a b : Vc) (w : World) : Calls Tryz.prog 225 #[.agg a.cs, .agg b.cs] w fun e w' => e = .returned (.int .i64 (cmpV (v4 a) (v4 b))) ∧ Below w.heap.size w w' := by
  rw [← v4_cs a, ← v4_cs b]
  exact compare_any _ _ w (v4_wf a) (v4_wf b)
set_option maxHeartbeats 400000 in
theorem own_any (h : Hd) (w : World) :
    Calls Tryz.prog 222 #[.int .u64 (h.nm 0)] w fun e w' => e = .returned (.agg (ownV h).cs) ∧ Below w.heap.size w w' := by
  show Calls Tryz.prog 222 _ w fun e w' => e = .returned (.agg #[.int .u64 (h.nm 0), .int .u32 0, .int .u64 (h.nm 0), .int .u16 0]) ∧ _
  generalize h.nm 0 = n
  go_enter Tryz.func222, Tryz.ntmps222
  go_wp2
  go_returns
  exact ⟨rfl, by go_grown⟩
set_option maxHeartbeats 400000 in
theorem add_any (p : Pt) (w : World) :
    Calls Tryz.prog 224 #[.agg (pri p).cs, .int .u32 (p.nm 1)] w fun e w' => e = .returned (.agg (addV p).cs) ∧ Below w.heap.size w w' := by
  have hc := p.u32 (j := 37) rfl
  have hk := p.u32 (j := 1) rfl
  have hr := p.u64 (j := 36) rfl
  have hb := p.u64 (j := 38) rfl
  have hp := p.u16 (j := 39) rfl
  rw [pri_cs]
  show Calls Tryz.prog 224 _ w fun e w' => e = .returned (.agg #[.int .u64 (p.nm 36), .int .u32 ((p.nm 37 + p.nm 1) % 4294967296), .int .u64 (p.nm 38), .int .u16 (p.nm 39)]) ∧ _
  generalize p.nm 36 = r at *
  generalize p.nm 37 = c at *
  generalize p.nm 38 = b at *
  generalize p.nm 39 = q at *
  generalize p.nm 1 = k at *
  go_enter Tryz.func224, Tryz.ntmps224
  go_wp2
  go_returns
  exact ⟨rfl, by go_grown⟩
theorem tm_cs (t : Tm) : t.cs = #[.int .u8 (t.nm 0), .int .u8 (t.nm 1), .int .u8 (t.nm 2), .int .u8 (t.nm 3)] := by
  show t.cl.toArray = _
  rw [tm_cl]
set_option maxHeartbeats 1000000 in
theorem older_any (t : Tm) (w : World) :
    Calls Tryz.prog 184 #[.agg t.cs] w fun r w' => r = .returned (.agg (oldT t).cs) ∧ Below w.heap.size w w' := by
  have ha := t.u8 (j := 0) rfl
  rw [tm_cs]
  show Calls Tryz.prog 184 _ w fun e w' => e = .returned (.agg #[.int .u8 (oldN (t.nm 0)), .int .u8 (t.nm 1), .int .u8 (t.nm 2), .int .u8 (t.nm 3)]) ∧ _
  generalize t.nm 0 = a at *
  generalize t.nm 1 = x at *
  generalize t.nm 2 = h at *
  generalize t.nm 3 = d at *
  unfold oldN
  by_cases hlt : a < 255
  · have hw : 0 ≤ a + 1 ∧ a + 1 ≤ 255 := by omega
    rw [if_pos hlt]
    go_enter Tryz.func184, Tryz.ntmps184
    go_wp2
    go_returns
    exact ⟨rfl, by go_grown⟩
  · obtain rfl : a = 255 := by omega
    rw [if_neg hlt]
    go_enter Tryz.func184, Tryz.ntmps184
    go_wp2
    go_returns
    exact ⟨rfl, by go_grown⟩
end S12
end
section
namespace S12
open Go.RowKit

theorem two_tp (w : World) (h : Hd) (x : Value) (p : Pt) : ∃ W, (w.alloc (.cells (trc h x) 39)).alloc (.cells p.cs 74) = W ∧ RvAt W w.heap.size 39 (trc h x) ∧ RvAt W (w.heap.size + 1) 74 p.cs ∧ Below w.heap.size w W ∧ W.heap.size = w.heap.size + 2 := by
  obtain ⟨A, hA, rA, bA, zA⟩ := one_t w h x
  obtain ⟨D, hD, rD, bD, zD⟩ := new_p A p
  rw [zA] at rD
  exact ⟨D, by rw [hA, hD], rA.below bD, rD, below_over bA bD, by omega⟩
def owB (h : Hd) (p : Pt) : Bool := sameA (p.nm 38) (h.nm 0)
def ldB (h : Hd) (p : Pt) : Bool := decide (p.nm 29 = 3) && !(owB h p)
attribute [local go_sem ↓] ldP stP ldT stT
set_option maxHeartbeats 1000000 in
theorem ownw_any (h : Hd) (x : Value) (p : Pt) (w : World) :
    Calls Tryz.prog 254 #[.agg (trc h x), .agg p.cs] w fun r w' => r = .returned (.bool (owB h p)) ∧ Below w.heap.size w w' := by
  obtain ⟨W, hW, r0, r1, bW, zW⟩ := two_tp w h x p
  have c0 := fun q : Later W => (r0.below q.below).tnum (j := 0) (k := .u64) rfl
  have c38 := fun q : Later W => (r1.below q.below).num (j := 38) (k := .u64) rfl
  have P1 : Hid (∀ q : Later W, _) := fun q : Later W => address_any (p.nm 38) q.val (p.u64 rfl)
  have P2 : Hid (∀ q : Later W, _) := fun q : Later W => address_any (h.nm 0) q.val (h.u64 rfl)
  have he := eq6_ad (p.nm 38) (h.nm 0)
  have H : Hid (Below w.heap.size w W) := bW
  clear r0 r1 bW zW
  unfold owB
  go_enter Tryz.func254, Tryz.ntmps254
  go_wp2_with fail
  refine wp_region_later (by kernel_rfl) (by kernel_rfl) ?_
  repeat (go_big_quiet_step (first
    | exact rfl
    | (go_at_call 47; with_reducible exact Calls.later_of (P1.out _))
    | (go_at_call 47; with_reducible exact Calls.later_of (P2.out _))))
  refine wpQuiet_nil ?_
  intro _ hw'
  obtain ⟨z, rfl⟩ := hw'
  go_wp2
  go_ret
  exact ⟨rfl, below_later H.out z⟩
set_option maxHeartbeats 1000000 in
theorem leads_any (h : Hd) (x : Value) (p : Pt) (w : World) :
    Calls Tryz.prog 223 #[.agg (trc h x), .agg p.cs] w fun r w' => r = .returned (.bool (ldB h p)) ∧ Below w.heap.size w w' := by
  obtain ⟨W, hW, r0, r1, bW, zW⟩ := two_tp w h x p
  have l0 := r0.tld
  have l1 := r1.pld
  have c29 := r1.num (j := 29) (k := .i64) rfl
  have H : Hid (Below w.heap.size w W) := bW
  clear r0 r1 bW zW
  unfold ldB
  by_cases h1 : p.nm 29 = 3
  · rw [h1] at c29 ⊢
    go_enter Tryz.func223, Tryz.ntmps223
    go_wp2_with fail
    refine (ownw_any h x p W).mono ?_
    rintro _ W1 ⟨rfl, b1⟩
    have H1 : Hid (Below w.heap.size w W1) := below_over H.out b1
    clear b1 H l0 l1 hW c29 h1
    obtain ⟨B, hB⟩ : ∃ B, owB h p = B := ⟨_, rfl⟩
    rw [hB]
    have HB : Hid (owB h p = B) := hB
    clear hB
    go_wp2
    go_ret
    exact ⟨by simp [HB.out], H1.out⟩
  · have hb : (p.nm 29 == 3) = false := by simpa using h1
    go_enter Tryz.func223, Tryz.ntmps223
    go_wp2
    go_ret
    exact ⟨by simp [h1], H.out⟩
def zvC : Array Value := #[.int .u64 0, .int .u32 0, .int .u64 0, .int .u16 0]
def zeroVc : Vc := zeroR kdV
theorem zeroVc_is : zeroVc.cs = zvC := by kernel_rfl
theorem _root_.Go.Proofs.YtlchejbggnbccaaGreat.RvAt.vst {W : World} {b : Nat} {u v : Vc} (hb : RvAt W b 36 u.cs) : ∃ W', (stS 36 (.pointer (some ⟨b, 0, none⟩)) (.agg v.cs)).run Tryz.prog W = .ok () W' ∧ RvAt W' b 36 v.cs ∧ W.grownBy W' (some b) :=
  ⟨_, hb.st rtV (by rw [Row.csize, lenV]) (by rw [Row.csize, lenV]) v.one', hb.set, grown_row _ _ _⟩
theorem _root_.Go.Proofs.YtlchejbggnbccaaGreat.RvAt.vld {W : World} {b : Nat} {v : Vc} (hb : RvAt W b 36 v.cs) : (ldS 36 (.pointer (some ⟨b, 0, none⟩))).run Tryz.prog W = .ok (.agg v.cs) W := hb.ld rtV (by rw [Row.csize, lenV])
theorem new_v (W : World) (v : Vc) : ∃ W', (stS 36 (.pointer (some ⟨W.heap.size, 0, none⟩)) (.agg v.cs)).run Tryz.prog (W.alloc (.cells #[.int .u64 0, .int .u32 0, .int .u64 0, .int .u16 0] 36)) = .ok () W' ∧ RvAt W' W.heap.size 36 v.cs ∧ Below W.heap.size W W' ∧ W'.heap.size = W.heap.size + 1 :=
  row_new rtV W _ v.cs rfl (by rw [Row.csize, lenV]) v.one'
theorem new_pv (W : World) (p : Pt) : ∃ W', (stS 74 (.pointer (some ⟨W.heap.size, 0, none⟩)) (.agg p.cs)).run Tryz.prog (W.alloc (.cells zeroP.cs 74)) = .ok () W' ∧ RvAt W' W.heap.size 74 p.cs ∧ Below W.heap.size W W' ∧ W'.heap.size = W.heap.size + 1 :=
  row_new rtP W _ p.cs (by rw [Row.csize, lenP]) (by rw [Row.csize, lenP]) p.one'
theorem results_vi {fn : Func} {k t : Nat} (hr : fn.results = #[.cell k 36, .tmp t]) (tmps : Array Value) (w : World) (b : Nat) (p : Vc) (h2 : tmps.getD k undef = .pointer (some ⟨b, 0, none⟩)) (h : RvAt w b 36 p.cs) :
    (results fn tmps).run Tryz.prog w = .ok (.tuple #[.agg p.cs, tmps.getD t undef]) w := by
  have hl := h.lv rtV (by rw [Row.csize, lenV])
  have h2' : tmps[k]?.getD undef = .pointer (some ⟨b, 0, none⟩) := by simpa using h2
  simp [results, hr, asAddr, hl, h2']
theorem ret_vi {fn : Func} {k t : Nat} (hr : fn.results = #[.cell k 36, .tmp t]) {R : Ending → World → Prop} {a : Act} {w : World} {b : Nat} {p : Vc} {x : Value} (hd : a.defers = []) (h2 : a.tmps.getD k undef = .pointer (some ⟨b, 0, none⟩)) (h3 : a.tmps.getD t undef = x) (h : RvAt w b 36 p.cs) (hR : R (.returned (.tuple #[.agg p.cs, x])) w) : bodyPost Tryz.prog fn R .ret a w :=
  bodyPost_ret (results_vi hr _ _ _ _ h2 h) hd (by rw [h3]; exact hR)
theorem two_tv (w : World) (h : Hd) (x : Value) : ∃ W, (w.alloc (.cells (trc h x) 39)).alloc (.cells #[.int .u64 0, .int .u32 0, .int .u64 0, .int .u16 0] 36) = W ∧ RvAt W w.heap.size 39 (trc h x) ∧ RvAt W (w.heap.size + 1) 36 zeroVc.cs ∧ Below w.heap.size w W ∧ W.heap.size = w.heap.size + 2 := by
  obtain ⟨A, hA, rA, bA, zA⟩ := one_t w h x
  rw [hA]
  have bB : Below A.heap.size A (A.alloc (.cells zeroVc.cs 36)) := (Below.refl _ _).alloc (Nat.le_refl _) _
  have rB : RvAt (A.alloc (.cells zeroVc.cs 36)) A.heap.size 36 zeroVc.cs := RvAt.new A _ _
  rw [zA] at rB
  refine ⟨_, rfl, ?_⟩
  rw [show (#[.int .u64 0, .int .u32 0, .int .u64 0, .int .u16 0] : Array Value) = zeroVc.cs from zeroVc_is.symm]
  exact ⟨rA.below bB, rB, below_over bA bB, by simp [zA]⟩
def bdS (t : TypeId) (ps : Array (Nat × Value)) : Sem Value := Instr.build t ps
theorem bdV (ps : Array (Nat × Value)) : Instr.build 36 ps = bdS 36 ps := rfl
theorem bdv (w : World) : (bdS 36 #[]).run Tryz.prog w = .ok (.agg zeroVc.cs) w := by kernel_rfl
attribute [local go_sem ↓] ldV stV alP bdV
attribute [local go_sem] alP_run bdv
end S12
end
section
namespace S12
open Go.RowKit

def cmp (a b : Vc) : Int := cmpV (v4 a) (v4 b)
theorem cmp_in (a b : Vc) : cmp a b = -1 ∨ cmp a b = 0 ∨ cmp a b = 1 := by
  unfold cmp cmpV
  (repeat' split) <;> omega
def tkB (l : List Pt) (p : Pt) (u v : Vc) (k : Int) : Bool := decide (cmp u v = -1) || (decide (cmp u v = 0) && (decide (0 ≤ k) && decide (p.nm 0 < (gtP l k.toNat).nm 0)))
theorem tk_less {l : List Pt} {p : Pt} {u v : Vc} {k : Int} (h : cmp u v = -1) : (true && tkB l p u v k) = true := by simp [tkB, h]
theorem tk_more {l : List Pt} {p : Pt} {u v : Vc} {k : Int} (h : cmp u v = 1) : (true && tkB l p u v k) = false := by simp [tkB, h]
theorem tk_own {l : List Pt} {p : Pt} {u v : Vc} (h : cmp u v = 0) : (true && tkB l p u v (-1)) = false := by simp [tkB, h]
theorem tk_yes {l : List Pt} {p : Pt} {u v : Vc} {k : Nat} (h : cmp u v = 0) (hl : p.nm 0 < (gtP l k).nm 0) : (true && tkB l p u v (k : Int)) = true := by simp [tkB, h, hl]
theorem tk_no {l : List Pt} {p : Pt} {u v : Vc} {k : Nat} (h : cmp u v = 0) (hl : ¬ p.nm 0 < (gtP l k).nm 0) : (true && tkB l p u v (k : Int)) = false := by simp [tkB, h]; omega
def rtS (h : Hd) (l : List Pt) (i : Nat) (s : Vc × Int) : Vc × Int := if (ldB h (gtP l i) && tkB l (gtP l i) (addV (gtP l i)) s.1 s.2) = true then (addV (gtP l i), (i : Int)) else s
def rtF (h : Hd) (l : List Pt) : Nat → Vc × Int
  | 0 => (ownV h, -1)
  | i + 1 => rtS h l i (rtF h l i)
def rooV (h : Hd) (l : List Pt) : Vc := (rtF h l l.length).1
def rooK (h : Hd) (l : List Pt) : Int := (rtF h l l.length).2
theorem rtF_range (h : Hd) (l : List Pt) : ∀ i, -1 ≤ (rtF h l i).2 ∧ (rtF h l i).2 < i
  | 0 => by simp [rtF]
  | i + 1 => by
    have := rtF_range h l i
    unfold rtF rtS
    split
    · simp only; omega
    · omega
theorem rtF_no {h : Hd} {l : List Pt} {i : Nat} {v : Vc} {k : Int} (e : rtF h l i = (v, k)) (hb : (ldB h (gtP l i) && tkB l (gtP l i) (addV (gtP l i)) v k) = false) : rtF h l (i + 1) = (v, k) := by
  show rtS h l i (rtF h l i) = _
  rw [e]
  unfold rtS
  rw [if_neg (by rw [hb]; decide)]
theorem rtF_yes {h : Hd} {l : List Pt} {i : Nat} {v : Vc} {k : Int} (e : rtF h l i = (v, k)) (hb : (ldB h (gtP l i) && tkB l (gtP l i) (addV (gtP l i)) v k) = true) : rtF h l (i + 1) = (addV (gtP l i), (i : Int)) := by
  show rtS h l i (rtF h l i) = _
  rw [e]
  unfold rtS
  rw [if_pos hb]
structure RS (w W : World) (b d e : Nat) (h : Hd) (a : Option Addr) (n c : Nat) (l : List Pt) (v : Vc) : Prop where
  var : RvAt W b 39 (trc h (.slice a n c))
  out : RvAt W d 36 zeroVc.cs
  root : RvAt W e 36 v.cs
  sl : SlAt W a n c l
  bel : Below w.heap.size w W
  hb : w.heap.size ≤ b
  hd : w.heap.size ≤ d
  he : w.heap.size ≤ e
  be : b ≠ e
  de : d ≠ e
theorem RS.below {w W V : World} {b d e n c : Nat} {h : Hd} {a : Option Addr} {l : List Pt} {v : Vc} (s : RS w W b d e h a n c l v) (k : Below W.heap.size W V) : RS w V b d e h a n c l v :=
  ⟨s.var.below k, s.out.below k, s.root.below k, s.sl.below k, below_over s.bel k, s.hb, s.hd, s.he, s.be, s.de⟩
theorem RS.st {w W : World} {b d e n c : Nat} {h : Hd} {a : Option Addr} {l : List Pt} {v : Vc} (s : RS w W b d e h a n c l v) (u : Vc) : ∃ V, (stS 36 (.pointer (some ⟨e, 0, none⟩)) (.agg u.cs)).run Tryz.prog W = .ok () V ∧ RS w V b d e h a n c l u := by
  obtain ⟨V, sV, rV, gV⟩ := s.root.vst (v := u)
  exact ⟨V, sV, s.var.keptBut gV (by simpa using s.be), s.out.keptBut gV (by simpa using s.de), rV, s.sl.keptZ s.root (by rw [Row.csize, lenV]; omega) gV, gro s.bel gV s.he s.bel.size, s.hb, s.hd, s.he, s.be, s.de⟩
theorem RS.tell {w W : World} {b d e n c : Nat} {h : Hd} {a : Option Addr} {l : List Pt} {v : Vc} (s : RS w W b d e h a n c l v) : ∃ V, (stS 36 (.pointer (some ⟨d, 0, none⟩)) (.agg v.cs)).run Tryz.prog W = .ok () V ∧ RvAt V d 36 v.cs ∧ Below w.heap.size w V := by
  obtain ⟨V, sV, rV, gV⟩ := s.out.vst (v := v)
  exact ⟨V, sV, rV, gro s.bel gV s.hd s.bel.size⟩
end S12
end
section
namespace S12
open Go.RowKit

theorem _root_.Go.Proofs.YtlchejbggnbccaaGreat.PAt.rput {W : World} {g c i o q : Nat} {tv : TypeId} {ks' : List (Option IntKind)} {l : List Pt} {p : Pt} (h : PAt W g c l) (hp : l[i]? = some p) (s : Row ks') (hk : (kdP.drop o).take ks'.length = ks') (hl : o + ks'.length ≤ kdP.length) (hi : (Tryz.prog.info? tv).map (·.size) = some ks'.length) (hq : q = i * 77 + o) :
    ∃ W', (stS tv (.pointer (some ⟨g, q, none⟩)) (.agg s.cs)).run Tryz.prog W = .ok () W' ∧ PAt W' g c (l.set i (p.put o s hk hl)) ∧ W.grownBy W' (some g) := by
  obtain ⟨cur, hb, h1, h2, h3, h4⟩ := h
  subst hq
  have hil : i < l.length := (List.getElem?_eq_some_iff.1 hp).1
  have hss : s.cs.size = ks'.length := s.csize
  have hsl : s.cl.length = ks'.length := s.len
  have hl' := hl
  rw [lenP] at hl'
  have hs := store_cells (ty := tv) (o := i * 77 + o) (cs := s.cs) hb (by rw [hss]; exact hi) (by omega) s.one'
  refine ⟨_, hs, ⟨_, hb.set, by rw [List.length_set]; exact h1, h2, by simp [hss, h3]; omega, ?_⟩, ⟨rfl, rfl, rfl, by simp, fun k hk hne => setRow_other W g k _ (fun e => hne (by rw [e]))⟩⟩
  have e : (l.set i (p.put o s hk hl)).length = l.length := List.length_set ..
  refine flat_is (by simp [hss, h3]; omega) fun t ht => ?_
  rw [e] at ht
  show ((cur.toList.take (i * 77 + o) ++ s.cs.toList ++ cur.toList.drop (i * 77 + o + s.cs.size)))[t]? = _
  rw [hss, List.getElem?_set]
  have hcl : cur.toList.length = c * 77 := by rw [Array.length_toList, h3]
  have e1 : (cur.toList.take (i * 77 + o)).length = i * 77 + o := by rw [List.length_take]; omega
  have e2 : s.cs.toList = s.cl := by simp [Row.cs]
  rw [e2]
  by_cases hti : i = t / 77
  · rw [if_pos hti, if_pos hil]
    show _ = (p.put o s hk hl).cl[t % 77]?
    rw [p.put_get]
    by_cases h0 : t < i * 77 + o
    · rw [List.append_assoc, List.getElem?_append_left (by rw [e1]; exact h0), List.getElem?_take, if_pos h0, if_neg (by omega), take_at h4 ht, ← hti, hp]
      rfl
    · by_cases h5 : t < i * 77 + o + ks'.length
      · rw [List.getElem?_append_left (by rw [List.length_append, e1, hsl]; omega), List.getElem?_append_right (by rw [e1]; omega), e1, if_pos (by omega)]
        rw [show t - (i * 77 + o) = t % 77 - o by omega]
      · rw [List.getElem?_append_right (by rw [List.length_append, e1, hsl]; omega), List.length_append, e1, hsl, List.getElem?_drop, if_neg (by omega)]
        rw [show i * 77 + o + ks'.length + (t - (i * 77 + o + ks'.length)) = t by omega, take_at h4 ht, ← hti, hp]
        rfl
  · rw [if_neg hti, ← take_at h4 ht]
    by_cases h0 : t < i * 77 + o
    · rw [List.append_assoc, List.getElem?_append_left (by rw [e1]; exact h0), List.getElem?_take, if_pos h0]
    · rw [List.getElem?_append_right (by rw [List.length_append, e1, hsl]; omega), List.length_append, e1, hsl, List.getElem?_drop]
      rw [show i * 77 + o + ks'.length + (t - (i * 77 + o + ks'.length)) = t by omega]
theorem _root_.Go.Proofs.YtlchejbggnbccaaGreat.SlAt.part {W : World} {b o n c j m : Nat} {l : List Pt} {t : TypeId} {ks' : List (Option IntKind)} {q : Row ks'} (h : SlAt W (some ⟨b, o, none⟩) n c l) {i : Nat} {x : Pt} (hx : l[i]? = some x) (e : q.cl = (x.cl.drop j).take m) (hn : ks'.length = m) (hj : j + m ≤ 77) {d : TypeDesc} (hu : Tryz.prog.underlying t = some d) (hr : d.isRow = true) (hi : (Tryz.prog.info? t).map (·.size) = some m) :
    (ldS t (.pointer (some ⟨b, o + i * 77 + j, none⟩))).run Tryz.prog W = .ok (.agg q.cs) W :=
  run_loadAt_mid W b (o + i * 77 + j) t q.cs.toList _ (fun k v hv => by
    have hq := Row.idx hv
    have hk : k < m := by rw [← hn, ← q.len]; exact (List.getElem?_eq_some_iff.1 hq).1
    have := h.cell hx (sub_get (r := x) (q := q) e hq) (by omega)
    rw [← Nat.add_assoc] at this
    exact this) hu hr (by rw [Array.length_toList, Row.csize, hn]; exact hi)
def blk (a : Option Addr) : Option Nat := a.map (·.block)
structure PA (W : World) (a : Option Addr) (n c : Nat) (l : List Pt) : Prop where
  len : l.length = n
  nil : a = none → n = 0 ∧ c = 0
  pat : ∀ x, a = some x → ∃ g, x = ⟨g, 0, none⟩ ∧ PAt W g c l
theorem PA.sl {W : World} {a : Option Addr} {n c : Nat} {l : List Pt} (h : PA W a n c l) : SlAt W a n c l := by
  cases a with
  | none =>
    obtain ⟨rfl, rfl⟩ := h.nil rfl
    have : l = [] := List.eq_nil_of_length_eq_zero h.len
    subst this
    exact SlAt.none' W
  | some x =>
    obtain ⟨g, rfl, hp⟩ := h.pat x rfl
    have := hp.sl
    rw [h.len] at this
    exact this
theorem PA.lt {W : World} {a : Option Addr} {n c : Nat} {l : List Pt} (h : PA W a n c l) : ∀ g, blk a = some g → g < W.heap.size := by
  intro g hg
  cases a with
  | none => cases hg
  | some x =>
    obtain ⟨g', rfl, hp⟩ := h.pat x rfl
    cases hg
    exact hp.lt
theorem PA.of {W : World} {B : Nat} {v : Value} {l : List Pt} (h : Own W B v l) : ∃ a c, v = .slice a l.length c ∧ PA W a l.length c l ∧ ∀ g, blk a = some g → B ≤ g := by
  rcases h.pat with ⟨rfl, rfl⟩ | ⟨g, c, rfl, hB, hp⟩
  · exact ⟨none, 0, rfl, ⟨rfl, fun _ => ⟨rfl, rfl⟩, fun x e => by cases e⟩, fun g e => by cases e⟩
  · exact ⟨some ⟨g, 0, none⟩, c, rfl, ⟨rfl, (fun e => by cases e), fun x e => by cases e; exact ⟨g, rfl, hp⟩⟩, fun g e => by cases e; exact hB⟩
theorem PA.kept {W V : World} {a : Option Addr} {n c : Nat} {l : List Pt} {row : Option Nat} (h : PA W a n c l) (g : W.grownBy V row) (hne : ∀ b, blk a = some b → some b ≠ row) : PA V a n c l :=
  ⟨h.len, h.nil, fun x e => by
    obtain ⟨b, rfl, hp⟩ := h.pat x e
    exact ⟨b, rfl, hp.keptBut g (hne b (by rw [e]; rfl))⟩⟩
theorem PA.below {W V : World} {a : Option Addr} {n c : Nat} {l : List Pt} (h : PA W a n c l) (k : Below W.heap.size W V) : PA V a n c l :=
  h.kept (grown_of_below k none) (fun b _ => by simp)
/-! ### lists changed one after another -/
def mapI (f : Nat → Pt → Pt) (l : List Pt) (i : Nat) : List Pt := (l.take i).mapIdx f ++ l.drop i
theorem mapI_len (f : Nat → Pt → Pt) (l : List Pt) (i : Nat) : (mapI f l i).length = l.length := by
  simp [mapI]; omega
theorem mapI_at {f : Nat → Pt → Pt} {l : List Pt} {i : Nat} (h : i < l.length) : (mapI f l i)[i]? = some (gtP l i) := by
  rw [← gtP_at h]
  unfold mapI
  rw [List.getElem?_append_right (by simp; omega), List.length_mapIdx, List.length_take, Nat.min_eq_left (by omega), Nat.sub_self, List.getElem?_drop]
  rfl
theorem mapI_next {f : Nat → Pt → Pt} {l : List Pt} {i : Nat} (h : i < l.length) : (mapI f l i).set i (f i (gtP l i)) = mapI f l (i + 1) := by
  unfold mapI
  have e : ((l.take i).mapIdx f).length = i := by simp; omega
  have hg : gtP l i = l[i] := by
    have := gtP_at h
    rw [List.getElem?_eq_getElem h] at this
    exact (Option.some.inj this).symm
  have e3 : (l.take i).length = i := by simp; omega
  rw [List.set_append_right _ _ (by omega), e, Nat.sub_self, List.drop_eq_getElem_cons h, List.set_cons_zero, List.take_add_one, List.getElem?_eq_getElem h, hg]
  simp only [Option.toList_some, List.mapIdx_append, List.mapIdx_cons, List.mapIdx_nil, e3, Nat.zero_add, List.append_assoc]
  rfl
theorem mapI_all (f : Nat → Pt → Pt) (l : List Pt) : mapI f l l.length = l.mapIdx f := by simp [mapI]
theorem mapI_zero (f : Nat → Pt → Pt) (l : List Pt) : mapI f l 0 = l := by simp [mapI]
/-! ### a tree's head -/
theorem trc_put {ks' : List (Option IntKind)} (h : Hd) (x : Value) (o : Nat) (s : Row ks') (hk : (kdH.drop o).take ks'.length = ks') (hl : o + ks'.length ≤ kdH.length) :
    ((trc h x).toList.take o ++ s.cs.toList ++ (trc h x).toList.drop (o + s.cs.size)).toArray = trc (h.put o s hk hl) x := by
  have h1 := h.len
  have e2 : s.cs.toList = s.cl := by simp [Row.cs]
  rw [lenH] at h1 hl
  unfold trc Row.put
  rw [e2, s.csize]
  simp only
  rw [List.take_append_of_le_length (by omega), List.drop_append_of_le_length (by omega)]
  simp
theorem _root_.Go.Proofs.YtlchejbggnbccaaGreat.RvAt.tput {W : World} {b o : Nat} {tv : TypeId} {ks' : List (Option IntKind)} {h : Hd} {x : Value} (hb : RvAt W b 39 (trc h x)) (s : Row ks') (hk : (kdH.drop o).take ks'.length = ks') (hl : o + ks'.length ≤ kdH.length) (hi : (Tryz.prog.info? tv).map (·.size) = some ks'.length) :
    ∃ W', (stS tv (.pointer (some ⟨b, o, none⟩)) (.agg s.cs)).run Tryz.prog W = .ok () W' ∧ RvAt W' b 39 (trc (h.put o s hk hl) x) ∧ W.grownBy W' (some b) := by
  have hl' := hl
  rw [lenH] at hl'
  have hs := store_cells (ty := tv) (o := o) (cs := s.cs) hb (by rw [Row.csize]; exact hi) (by rw [Row.csize, trc_size]; omega) s.one'
  rw [trc_put h x o s hk hl] at hs
  exact ⟨_, hs, hb.set, grown_row _ _ _⟩
theorem trc_set1 (h : Hd) (x : Value) {j : Nat} {v : Value} (hf : ∀ k, kdH[j]? = some k → Fit k v) (hj : j < 16) : ((trc h x).toList.set j v).toArray = trc (h.set j v hf) x := by
  have h1 := h.len
  rw [lenH] at h1
  unfold trc Row.set
  simp only
  rw [List.set_append_left _ _ (by omega)]
theorem _root_.Go.Proofs.YtlchejbggnbccaaGreat.RvAt.tset1 {W : World} {b j : Nat} {tv : TypeId} {v : Value} {h : Hd} {x : Value} (hb : RvAt W b 39 (trc h x)) (hi : (Tryz.prog.info? tv).map (·.size) = some 1) (hj : j < 16) (hv : v.oneCell' = true) (hf : ∀ k, kdH[j]? = some k → Fit k v) :
    ∃ W', (stS tv (.pointer (some ⟨b, j, none⟩)) v).run Tryz.prog W = .ok () W' ∧ RvAt W' b 39 (trc (h.set j v hf) x) ∧ W.grownBy W' (some b) := by
  have hs := hb.st1 hi (k := j) (by rw [trc_size]; omega) hv
  rw [trc_set1 h x hf hj] at hs
  exact ⟨_, hs, hb.set, grown_row _ _ _⟩
theorem hq8 : (kdH.drop 8).take kdV.length = kdV := rfl
theorem hl8 : 8 + kdV.length ≤ kdH.length := by decide
theorem hq12 : (kdH.drop 12).take kdT.length = kdT := rfl
theorem hl12 : 12 + kdT.length ≤ kdH.length := by decide
theorem kh7 : kdH[7]? = some (some .u16) := rfl
theorem kh6 : kdH[6]? = some none := rfl
theorem inf16 : (Tryz.prog.info? 33).map (·.size) = some 1 := by kernel_rfl
theorem st16 (x y : Value) : Instr.storeAt 33 x y = stS 33 x y := rfl
def _root_.Go.Proofs.YtlchejbggnbccaaGreat.Row.setH {ks : List (Option IntKind)} (r : Row ks) (j : Nat) (n : Int) : Row ks :=
  if h : ks[j]? = some (some .u16) ∧ (Lit.int .u16 n).wf = true then r.set j (.int .u16 n) (fit_num h.1 h.2) else r
theorem _root_.Go.Proofs.YtlchejbggnbccaaGreat.Row.setH_is {ks : List (Option IntKind)} (r : Row ks) {j : Nat} {n : Int} (h : ks[j]? = some (some .u16)) (hw : (Lit.int .u16 n).wf = true) : r.setH j n = r.set j (.int .u16 n) (fit_num h hw) := by
  unfold Row.setH
  rw [dif_pos ⟨h, hw⟩]
theorem _root_.Go.Proofs.YtlchejbggnbccaaGreat.Row.setH_get {ks : List (Option IntKind)} (r : Row ks) {j : Nat} {n : Int} (h : ks[j]? = some (some .u16)) (hw : (Lit.int .u16 n).wf = true) (i : Nat) : (r.setH j n).cl[i]? = if i = j then some (.int .u16 n) else r.cl[i]? := by
  rw [r.setH_is h hw]
  exact r.set_get _ (List.getElem?_eq_some_iff.1 h).1 i
theorem _root_.Go.Proofs.YtlchejbggnbccaaGreat.RvAt.tsetH {W : World} {b : Nat} {h : Hd} {x : Value} (hb : RvAt W b 39 (trc h x)) {n : Int} (hw : (Lit.int .u16 n).wf = true) :
    ∃ W', (stS 33 (.pointer (some ⟨b, 7, none⟩)) (.int .u16 n)).run Tryz.prog W = .ok () W' ∧ RvAt W' b 39 (trc (h.setH 7 n) x) ∧ W.grownBy W' (some b) := by
  rw [h.setH_is kh7 hw]
  exact hb.tset1 inf16 (by omega) rfl _
theorem _root_.Go.Proofs.YtlchejbggnbccaaGreat.RvAt.tsetB {W : World} {b : Nat} {h : Hd} {x : Value} (hb : RvAt W b 39 (trc h x)) (y : Bool) :
    ∃ W', (stS 4 (.pointer (some ⟨b, 6, none⟩)) (.bool y)).run Tryz.prog W = .ok () W' ∧ RvAt W' b 39 (trc (h.setB 6 kh6 y) x) ∧ W.grownBy W' (some b) := hb.tset1 info2.1 (by omega) rfl _
end S12
end
section
namespace S12
open Go.RowKit

def telP (h : Hd) (p : Pt) : Pt := (p.put 32 (desV h (rOf h) p) kq32 kl32).put 40 (desT h (uOf h)) kq40 kl40
def outB (p : Pt) : Bool := !((pri p).eq (dsg p)) || !((priT p).eq (dsgT p))
def heaN (h : Hd) (r : Bool) (p : Pt) : Int := if r = true then 3 else if bet (dsg p) (pri p) = true then 4 else if owB h p = true then 2 else 1
theorem heaN_wf (h : Hd) (r : Bool) (p : Pt) : (Lit.int .i64 (heaN h r p)).wf = true := by
  unfold heaN
  (repeat' split) <;> decide
def wanN (h : Hd) (r : Bool) (p : Pt) : Int := if p.nm 29 = 1 then 4 else if p.nm 29 = 2 then 4 else if p.nm 29 = 3 then heaN h r p else 0
theorem wanN_wf (h : Hd) (r : Bool) (p : Pt) : (Lit.int .i64 (wanN h r p)).wf = true := by
  unfold wanN
  (repeat' split) <;> first | exact heaN_wf h r p | decide
def updB (h : Hd) (r : Bool) (p : Pt) : Bool := if p.nm 29 = 1 then true else if p.nm 29 = 2 then p.bt 28 || outB p else if p.nm 29 = 3 then decide (heaN h r p = 4) else p.bt 28
def asgP (h : Hd) (r : Bool) (p : Pt) : Pt := (((p.setB 21 kb21 false).setB 22 kb22 true).setN 31 kn31 (wanN h r p) (wanN_wf h r p)).setB 28 kb28 (updB h r p)
def selP (h : Hd) (r : Bool) (p : Pt) : Pt := asgP h r (telP h p)
def isK (k : Int) (i : Nat) : Bool := decide ((i : Int) = k)
def ridN (h : Hd) (l : List Pt) : Int := if rooK h l = -1 then 0 else (gtP l (rooK h l).toNat).nm 0
def rtmT (h : Hd) (l : List Pt) : Tm := if rooK h l = -1 then tOfH h else oldT (priT (gtP l (rooK h l).toNat))
def hdS (h : Hd) (l : List Pt) : Hd := ((h.put 8 (rooV h l) hq8 hl8).setH 7 (ridN h l)).put 12 (rtmT h l) hq12 hl12
def selL (h : Hd) (l : List Pt) : List Pt := l.mapIdx fun i p => selP (hdS h l) (isK (rooK h l) i) p
/-! ### cells -/
theorem part_of {p q : Pt} {o n : Nat} (hh : ∀ j, j < n → p.cl[o + j]? = q.cl[o + j]?) : (p.cl.drop o).take n = (q.cl.drop o).take n := by
  refine List.ext_getElem? fun j => ?_
  rw [List.getElem?_take, List.getElem?_take]
  split
  · rename_i hj
    rw [List.getElem?_drop, List.getElem?_drop, hh j hj]
  · rfl
theorem pri_of {p q : Pt} (hh : ∀ j, j < 4 → p.cl[36 + j]? = q.cl[36 + j]?) : pri p = pri q := Row.ext' (part_of hh)
theorem dsg_of {p q : Pt} (hh : ∀ j, j < 4 → p.cl[32 + j]? = q.cl[32 + j]?) : dsg p = dsg q := Row.ext' (part_of hh)
theorem priT_of {p q : Pt} (hh : ∀ j, j < 4 → p.cl[44 + j]? = q.cl[44 + j]?) : priT p = priT q := Row.ext' (part_of hh)
theorem dsgT_of {p q : Pt} (hh : ∀ j, j < 4 → p.cl[40 + j]? = q.cl[40 + j]?) : dsgT p = dsgT q := Row.ext' (part_of hh)
theorem outB_of {p q : Pt} (hh : ∀ j, 32 ≤ j → j < 48 → p.cl[j]? = q.cl[j]?) : outB p = outB q := by
  unfold outB
  rw [pri_of (p := p) (q := q) (fun j hj => hh _ (by omega) (by omega)), dsg_of (p := p) (q := q) (fun j hj => hh _ (by omega) (by omega)), priT_of (p := p) (q := q) (fun j hj => hh _ (by omega) (by omega)), dsgT_of (p := p) (q := q) (fun j hj => hh _ (by omega) (by omega))]
theorem heaN_of {h : Hd} {r : Bool} {p q : Pt} (hh : ∀ j, 32 ≤ j → j < 48 → p.cl[j]? = q.cl[j]?) : heaN h r p = heaN h r q := by
  unfold heaN owB
  rw [pri_of (p := p) (q := q) (fun j hj => hh _ (by omega) (by omega)), dsg_of (p := p) (q := q) (fun j hj => hh _ (by omega) (by omega)), nm_of (hh 38 (by omega) (by omega))]
end S12
end
section
namespace S12
open Go.RowKit

/-! ### a step -/
def anyR (l : List Pt) : Bool := l.any fun p => p.bt 21
def stpB (h : Hd) (l : List Pt) : Bool := !(h.bt 6) || anyR l
def stpH (h : Hd) (l : List Pt) : Hd := if stpB h l = true then hdS (h.setB 6 kh6 true) l else h
def stpL (h : Hd) (l : List Pt) : List Pt := if stpB h l = true then selL (h.setB 6 kh6 true) l else l
/-! ### one root, the best -/
end S12
end
section
namespace S12
open Go.RowKit

attribute [local go_sem ↓] ldP stP ldT stT ldV stV ldTm stTm eqgV neqV eqgTm neqTm alP
attribute [local go_sem] alP_run
set_option maxHeartbeats 1000000 in
theorem outd_any (p : Pt) (w : World) :
    Calls Tryz.prog 226 #[.agg p.cs] w fun r w' => r = .returned (.bool (outB p)) ∧ Below w.heap.size w w' := by
  obtain ⟨W, hW, r0, bW, zW⟩ := new_p w p
  have c1 := r0.ppri
  have c2 := r0.pdsg
  have c3 := r0.ppriT
  have c4 := r0.pdsT12
  have H : Hid (Below w.heap.size w W) := bW
  clear r0 bW zW
  unfold outB
  cases h1 : (pri p).eq (dsg p)
  · go_enter Tryz.func226, Tryz.ntmps226
    go_wp2
    go_ret
    exact ⟨rfl, H.out⟩
  · go_enter Tryz.func226, Tryz.ntmps226
    go_wp2
    go_ret
    exact ⟨rfl, H.out⟩
set_option maxHeartbeats 2000000 in
theorem heard_any (h : Hd) (a : Option Addr) (n c i : Nat) (k : Int) (l : List Pt) (w : World) (hs : SlAt w a n c l) (hn : n ≤ 1000) (hi : i < n) :
    Calls Tryz.prog 227 #[.agg (trc h (.slice a n c)), .int .i64 (i : Int), .int .i64 k] w fun r w' => r = .returned (.int .i64 (heaN h (isK k i) (gtP l i))) ∧ Below w.heap.size w w' := by
  obtain ⟨W, hW, r0, bW, zW⟩ := one_t w h (.slice a n c)
  have hin0 : (0 : Int) ≤ (i : Int) := by omega
  have hin1 : (i : Int) < (n : Int) := by omega
  obtain ⟨b, o, rfl⟩ := hs.some' (by omega)
  have c16 := r0.t16
  have hl := gtP_at (l := l) (i := i) (by rw [hs.len]; exact hi)
  have lp := (hs.below bW).ld hl
  obtain ⟨p, hp⟩ : ∃ p, gtP l i = p := ⟨_, rfl⟩
  rw [hp] at lp ⊢
  obtain ⟨V, sV, rV, bV, zV⟩ := new_pv W p
  have c32 := rV.pdsg
  have c36 := rV.ppri
  have H : Hid (RvAt V w.heap.size 39 (trc h (.slice (some ⟨b, o, none⟩) n c)) ∧ Below w.heap.size w V ∧ RvAt V W.heap.size 74 p.cs) := ⟨r0.below bV, below_over bW bV, rV⟩
  clear hs r0 bW zW rV bV zV hl hp hi
  by_cases h1 : (i : Int) = k
  · subst h1
    have e : heaN h (isK (i : Int) i) p = 3 := by simp [heaN, isK]
    rw [e]
    go_enter Tryz.func227, Tryz.ntmps227
    go_wp2
    go_ret
    exact ⟨rfl, H.out.2.1⟩
  · have hb : ((i : Int) == k) = false := by simpa using h1
    cases h2 : bet (dsg p) (pri p)
    · cases h3 : owB h p
      · have e : heaN h (isK k i) p = 1 := by simp [heaN, isK, h1, h2, h3]
        rw [e]
        have P1 : Hid (∀ V : World, _) := fun V => better_row (dsg p) (pri p) V
        have P2 : Hid (∀ V : World, _) := fun V => ownw_any h (.slice (some ⟨b, o, none⟩) n c) p V
        rw [h2] at P1
        rw [h3] at P2
        clear h2 h3 e
        go_enter Tryz.func227, Tryz.ntmps227
        go_wp2_with fail
        refine (P1.out V).mono ?_
        rintro _ V1 ⟨rfl, b1⟩
        have H1 : Hid (Below w.heap.size w V1) := below_over H.out.2.1 b1
        have l0 := (H.out.1.below b1).tld
        have l1 := (H.out.2.2.below b1).pld
        clear b1 H c32 c36 sV lp
        go_wp2_with fail
        refine (P2.out V1).mono ?_
        rintro _ V2 ⟨rfl, b2⟩
        have H2 : Hid (Below w.heap.size w V2) := below_over H1.out b2
        clear b2 H1 l0 l1
        go_wp2
        go_ret
        exact ⟨rfl, H2.out⟩
      · have e : heaN h (isK k i) p = 2 := by simp [heaN, isK, h1, h2, h3]
        rw [e]
        have P1 : Hid (∀ V : World, _) := fun V => better_row (dsg p) (pri p) V
        have P2 : Hid (∀ V : World, _) := fun V => ownw_any h (.slice (some ⟨b, o, none⟩) n c) p V
        rw [h2] at P1
        rw [h3] at P2
        clear h2 h3 e
        go_enter Tryz.func227, Tryz.ntmps227
        go_wp2_with fail
        refine (P1.out V).mono ?_
        rintro _ V1 ⟨rfl, b1⟩
        have H1 : Hid (Below w.heap.size w V1) := below_over H.out.2.1 b1
        have l0 := (H.out.1.below b1).tld
        have l1 := (H.out.2.2.below b1).pld
        clear b1 H c32 c36 sV lp
        go_wp2_with fail
        refine (P2.out V1).mono ?_
        rintro _ V2 ⟨rfl, b2⟩
        have H2 : Hid (Below w.heap.size w V2) := below_over H1.out b2
        clear b2 H1 l0 l1
        go_wp2
        go_ret
        exact ⟨rfl, H2.out⟩
    · have e : heaN h (isK k i) p = 4 := by simp [heaN, isK, h1, h2]
      rw [e]
      have P1 : Hid (∀ V : World, _) := fun V => better_row (dsg p) (pri p) V
      rw [h2] at P1
      clear h2 e
      go_enter Tryz.func227, Tryz.ntmps227
      go_wp2_with fail
      refine (P1.out V).mono ?_
      rintro _ V1 ⟨rfl, b1⟩
      have H1 : Hid (Below w.heap.size w V1) := below_over H.out.2.1 b1
      clear b1 H c32 c36 sV lp
      go_wp2
      go_ret
      exact ⟨rfl, H1.out⟩
end S12
end
section
namespace S12
open Go.RowKit

structure TS (w W : World) (b : Nat) (h : Hd) (a : Option Addr) (n c : Nat) (l : List Pt) : Prop where
  var : RvAt W b 39 (trc h (.slice a n c))
  ps : PA W a n c l
  gr : w.grownBy W (blk a)
  hb : w.heap.size ≤ b
  hg : ∀ g, blk a = some g → g < w.heap.size
theorem TS.below {w W V : World} {b n c : Nat} {h : Hd} {a : Option Addr} {l : List Pt} (s : TS w W b h a n c l) (k : Below W.heap.size W V) : TS w V b h a n c l :=
  ⟨s.var.below k, s.ps.below k, grown_self s.gr (grown_of_below k _), s.hb, s.hg⟩
theorem TS.go {w W V : World} {b n c g : Nat} {h : Hd} {a : Option Addr} {l l' : List Pt} (s : TS w W b h a n c l) (ha : a = some ⟨g, 0, none⟩) (hp : PAt V g c l') (hl : l'.length = l.length) (k : W.grownBy V (some g)) : TS w V b h a n c l' := by
  subst ha
  have := s.hg g rfl
  exact ⟨s.var.keptBut k (by have := s.hb; simp; omega), ⟨hl.trans s.ps.len, (fun e => by cases e), fun x e => by cases e; exact ⟨g, rfl, hp⟩⟩, grown_self s.gr k, s.hb, s.hg⟩
theorem TS.kept {w W V : World} {b n c t : Nat} {ty : TypeId} {cs : Array Value} {h : Hd} {a : Option Addr} {l : List Pt} (s : TS w W b h a n c l) (r : RvAt W t ty cs) (ht : w.heap.size ≤ t) {g : Nat} (ha : a = some ⟨g, 0, none⟩) (k : W.grownBy V (some g)) : RvAt V t ty cs := by
  subst ha
  have := s.hg g rfl
  exact r.keptBut k (by simp; omega)
theorem bd_des (h : Hd) (p : Pt) (w : World) : (bdS 36 #[(0, .int .u64 (h.nm 8)), (1, .int .u32 (h.nm 9)), (2, .int .u64 (h.nm 0)), (3, .int .u16 (p.nm 0))]).run Tryz.prog w = .ok (.agg (desV h (rOf h) p).cs) w := by
  have e0 : (rOf h).nm 0 = h.nm 8 := h.nm_sub 8 4 0 (by omega)
  have e1 : (rOf h).nm 1 = h.nm 9 := h.nm_sub 8 4 1 (by omega)
  show _ = Result.ok (Value.agg #[.int .u64 ((rOf h).nm 0), .int .u32 ((rOf h).nm 1), .int .u64 (h.nm 0), .int .u16 (p.nm 0)]) w
  rw [e0, e1]
  kernel_rfl
theorem new_tm (W : World) (t : Tm) : ∃ W', (stS 24 (.pointer (some ⟨W.heap.size, 0, none⟩)) (.agg t.cs)).run Tryz.prog (W.alloc (.cells #[.int .u8 0, .int .u8 0, .int .u8 0, .int .u8 0] 24)) = .ok () W' ∧ RvAt W' W.heap.size 24 t.cs ∧ Below W.heap.size W W' ∧ W'.heap.size = W.heap.size + 1 :=
  row_new rtTm W _ t.cs rfl (by rw [Row.csize, lenT]) t.one'
theorem _root_.Go.Proofs.YtlchejbggnbccaaGreat.RvAt.tmld {W : World} {b : Nat} {v : Tm} (hb : RvAt W b 24 v.cs) : (ldS 24 (.pointer (some ⟨b, 0, none⟩))).run Tryz.prog W = .ok (.agg v.cs) W := hb.ld rtTm (by rw [Row.csize, lenT])
theorem kt2 : kdT[2]? = some (some .u8) := rfl
theorem desT_is (h : Hd) (t : Tm) : t.setU 2 (h.nm 3) = desT h t := by
  have hw := wf8 (h.u8 (j := 3) rfl)
  apply Row.ext'
  have e : (t.setU 2 (h.nm 3)).cl = t.cl.set 2 (.int .u8 (h.nm 3)) := by rw [t.setU_is kt2 hw]; rfl
  rw [e, tm_cl]
  rfl
attribute [local go_sem ↓] ldP stP ldT stT ldV stV ldTm stTm stU bdV
set_option maxHeartbeats 8000000 in
theorem tell_any (h : Hd) (a : Option Addr) (n c : Nat) (l : List Pt) (w : World) (hs : PA w a n c l) (hn : n ≤ 1000) :
    Calls Tryz.prog 185 #[.agg (trc h (.slice a n c))] w fun r w' => r = .returned (.tuple #[]) ∧ PA w' a n c (l.map (telP h)) ∧ w.grownBy w' (blk a) := by
  obtain ⟨W, hW, r0, bW, zW⟩ := one_t w h (.slice a n c)
  have S0 : Hid (TS w W w.heap.size h a n c l) := ⟨r0, hs.below bW, grown_of_below bW _, Nat.le_refl _, hs.lt⟩
  have cU := r0.tU
  obtain ⟨W1, s1, r1, b1, z1⟩ := new_tm W (uOf h)
  have S1 := S0.out.below b1
  have c3 := S1.var.tnum (j := 3) (k := .u8) rfl
  obtain ⟨W2, s2, r2, g2⟩ := r1.setU kt2 (h.u8 (j := 3) rfl)
  rw [desT_is] at r2
  have hlt : ∀ g, blk a = some g → g < w.heap.size := hs.lt
  have zz : W.heap.size = w.heap.size + 1 := zW
  have S2 : Hid (TS w W2 w.heap.size h a n c l ∧ RvAt W2 W.heap.size 24 (desT h (uOf h)).cs ∧ l.length = n ∧ w.heap.size ≤ W.heap.size) := by
    have e := hlt
    have hbel := below_of_grown (B := W.heap.size) g2 (by omega) (fun j e => by cases e; exact Nat.le_refl _)
    have hbel2 : Below W.heap.size W1 W2 := hbel
    have kk : ∀ i, i < W.heap.size → W2.heap[i]? = W1.heap[i]? := fun i hi => hbel2.block i hi
    refine ⟨⟨S1.var.keptBut g2 (by simp; omega), S1.ps.kept g2 (fun b hb => by have := hlt b hb; simp; omega), ?_, S1.hb, S1.hg⟩, r2, hs.len, by omega⟩
    exact ⟨g2.os.trans S1.gr.os, g2.tape.trans S1.gr.tape, g2.output.trans S1.gr.output, Nat.le_trans S1.gr.size g2.size, fun i hi hne => (g2.block i (Nat.lt_of_lt_of_le hi S1.gr.size) (by simp; omega)).trans (S1.gr.block i hi hne)⟩
  have c16 := S2.out.1.var.t16
  obtain ⟨tb, htb⟩ : ∃ z, W.heap.size = z := ⟨_, rfl⟩
  rw [htb] at s1 s2 S2
  clear hs r0 bW zW r1 b1 z1 S1 r2 g2 hlt zz S0
  go_enter Tryz.func185, Tryz.ntmps185
  go_wp2_with fail
  go_loopw [14] (fun v14 wr => ∃ i : Nat, i ≤ n ∧ v14 = .int .i64 i ∧ TS w wr w.heap.size h a n c (mapI (fun _ => telP h) l i) ∧ RvAt wr tb 24 (desT h (uOf h)).cs) (fun v14 _ => n - (intOf v14).toNat)
  case atStart => exact ⟨0, by omega, rfl, by rw [mapI_zero]; exact S2.out.1, S2.out.2.1⟩
  case round =>
    obtain ⟨i, hi, rfl, hS, hT⟩ := hrel
    have hin0 : (0 : Int) ≤ (i : Int) := by omega
    by_cases hit : i < n
    · have hin1 : (i : Int) < (n : Int) := by omega
      have hil : i < l.length := by rw [S2.out.2.2.1]; exact hit
      cases a with
      | none => have := (hS.ps.nil rfl).1; omega
      | some x =>
      obtain ⟨g, rfl, hP⟩ := hS.ps.pat x rfl
      have hat := mapI_at (f := fun _ => telP h) hil
      obtain ⟨V1, e1, P1, g1⟩ := hP.rput hat (desV h (rOf h) (gtP l i)) kq32 kl32 (tv := 36) infoV rfl
      have S1 := hS.go rfl P1 (by rw [List.length_set]) g1
      have T1 := hS.kept hT S2.out.2.2.2 rfl g1
      have hat2 : ((mapI (fun _ => telP h) l i).set i ((gtP l i).put 32 (desV h (rOf h) (gtP l i)) kq32 kl32))[i]? = some ((gtP l i).put 32 (desV h (rOf h) (gtP l i)) kq32 kl32) := by
        rw [List.getElem?_set, if_pos rfl, if_pos (by rw [mapI_len]; exact hil)]
      obtain ⟨V2, e2, P2, g2⟩ := P1.rput hat2 (desT h (uOf h)) kq40 kl40 (tv := 24) infoTm rfl
      have S2' := S1.go rfl P2 (by rw [List.length_set]) g2
      have T2 := S1.kept T1 S2.out.2.2.2 rfl g2
      have hfin : ((mapI (fun _ => telP h) l i).set i ((gtP l i).put 32 (desV h (rOf h) (gtP l i)) kq32 kl32)).set i (((gtP l i).put 32 (desV h (rOf h) (gtP l i)) kq32 kl32).put 40 (desT h (uOf h)) kq40 kl40) = mapI (fun _ => telP h) l (i + 1) := by
        rw [List.set_set]
        exact mapI_next (f := fun _ => telP h) hil
      rw [hfin] at S2'
      have J : Hid (TS w V2 w.heap.size h (some ⟨g, 0, none⟩) n c (mapI (fun _ => telP h) l (i + 1)) ∧ RvAt V2 tb 24 (desT h (uOf h)).cs) := ⟨S2', T2⟩
      have f16 := hS.var.t16
      have q16 := fun z : Later wr => (hS.var.below z.below).t16
      have q8 := fun z : Later wr => (hS.var.below z.below).tnum (j := 8) (k := .u64) rfl
      have q9 := fun z : Later wr => (hS.var.below z.below).tnum (j := 9) (k := .u32) rfl
      have q0 := fun z : Later wr => (hS.var.below z.below).tnum (j := 0) (k := .u64) rfl
      have p0 := fun z : Later wr => (hP.below z.below).num hat (j := 0) (k := .u16) (q := i * 77) rfl rfl
      have P0 : Hid (TS w wr w.heap.size h (some ⟨g, 0, none⟩) n c (mapI (fun _ => telP h) l i) ∧ PAt wr g c (mapI (fun _ => telP h) l i) ∧ RvAt wr tb 24 (desT h (uOf h)).cs) := ⟨hS, hP, hT⟩
      have bb := bd_des h (gtP l i)
      clear hS hT hP S1 P1 g1 P2 g2 S2' T2 hfin T1 c16 cU c3 e1 e2 hat2
      go_wp2_with fail
      refine wp_region_later_tail 16 (by kernel_rfl) (by kernel_rfl) ?_
      simp only [List.take_succ_cons, List.take_zero]
      repeat (go_big_quiet_step (first | exact rfl))
      refine wpQuiet_nil ?_
      intro z
      simp only [List.drop_succ_cons, List.drop_zero]
      clear q16 q8 q9 q0 p0 bb J
      have hS := P0.out.1.below z.below
      have hP := P0.out.2.1.below z.below
      have hT := P0.out.2.2.below z.below
      obtain ⟨V1, e1, P1, g1⟩ := hP.rput hat (desV h (rOf h) (gtP l i)) kq32 kl32 (tv := 36) infoV rfl
      have S1 := hS.go rfl P1 (by rw [List.length_set]) g1
      have T1 := hS.kept hT S2.out.2.2.2 rfl g1
      have hat2 : ((mapI (fun _ => telP h) l i).set i ((gtP l i).put 32 (desV h (rOf h) (gtP l i)) kq32 kl32))[i]? = some ((gtP l i).put 32 (desV h (rOf h) (gtP l i)) kq32 kl32) := by
        rw [List.getElem?_set, if_pos rfl, if_pos (by rw [mapI_len]; exact hil)]
      obtain ⟨V2, e2, P2, g2⟩ := P1.rput hat2 (desT h (uOf h)) kq40 kl40 (tv := 24) infoTm rfl
      have S2' := S1.go rfl P2 (by rw [List.length_set]) g2
      have T2 := S1.kept T1 S2.out.2.2.2 rfl g2
      have hfin : ((mapI (fun _ => telP h) l i).set i ((gtP l i).put 32 (desV h (rOf h) (gtP l i)) kq32 kl32)).set i (((gtP l i).put 32 (desV h (rOf h) (gtP l i)) kq32 kl32).put 40 (desT h (uOf h)) kq40 kl40) = mapI (fun _ => telP h) l (i + 1) := by
        rw [List.set_set]
        exact mapI_next (f := fun _ => telP h) hil
      rw [hfin] at S2'
      have J : Hid (TS w V2 w.heap.size h (some ⟨g, 0, none⟩) n c (mapI (fun _ => telP h) l (i + 1)) ∧ RvAt V2 tb 24 (desT h (uOf h)).cs) := ⟨S2', T2⟩
      have lt1 := T1.tmld
      clear hS hP hT P1 g1 S1 T1 hat2 P2 g2 S2' T2 hfin P0 hat
      go_wp2
      go_roundw
      case rel => exact ⟨i + 1, by omega, by go_num, J.out.1, J.out.2⟩
      case measure => simp [intOf]; omega
    · have hin : i = n := by omega
      subst hin
      have hin1 : ¬ (i : Int) < (i : Int) := by omega
      have e : mapI (fun _ => telP h) l i = l.map (telP h) := by
        have := mapI_all (fun _ => telP h) l
        rw [S2.out.2.2.1] at this
        rw [this]
        refine List.ext_getElem? fun j => ?_
        rw [List.getElem?_mapIdx, List.getElem?_map]
      rw [e] at hS
      have F : Hid (PA wr a i c (l.map (telP h)) ∧ w.grownBy wr (blk a)) := ⟨hS.ps, hS.gr⟩
      clear hS hT e c16 cU c3
      go_wp2
      go_returns
      exact ⟨rfl, F.out.1, F.out.2⟩
end S12
end
end Go.Proofs.YtlchejbggnbccaaGreat
