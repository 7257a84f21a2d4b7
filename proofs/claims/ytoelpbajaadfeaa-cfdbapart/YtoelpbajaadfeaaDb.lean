/-
  A filtering database in memory; the walks of within, made, mayBe, compare, elder, Len, New, each for every input.
-/
import Derived.Test.YtoelpbajaadfeaaMp
import Derived.Test.YtoelpbajaadfeaaKind
import Derived.Test.YtoelpbajaadfeaaTail
namespace Go.Proofs.Ytoelpbajaadfeaa
set_option linter.unusedVariables false
set_option maxRecDepth 4000
set_option linter.unusedSimpArgs false
open Go.RowKit

theorem infoK : (Try.prog.info? 74).map (·.size) = some 7 := by kernel_rfl
theorem rtK : RowTy 74 7 := ⟨infoK, _, Try.underlying74, rfl⟩
theorem infoP : (Try.prog.info? 76).map (·.size) = some 7 := by kernel_rfl
theorem rtP : RowTy 76 7 := ⟨infoP, _, Try.underlying76, rfl⟩
theorem infoM : (Try.prog.info? 38).map (·.size) = some 6 := by kernel_rfl
theorem rtM : RowTy 38 6 := ⟨infoM, _, Try.underlying38, rfl⟩
theorem ldK (x : Value) : Instr.loadAt 74 x = ldS 74 x := rfl
theorem stK (x y : Value) : Instr.storeAt 74 x y = stS 74 x y := rfl
theorem ldP (x : Value) : Instr.loadAt 76 x = ldS 76 x := rfl
theorem stP (x y : Value) : Instr.storeAt 76 x y = stS 76 x y := rfl
theorem Ky.size (k : Ky) : k.cs.size = 7 := rfl
theorem Ky.one (k : Ky) : ∀ x ∈ k.cs.toList, x.oneCell' = true := by
  intro x hx
  simp only [Ky.cs, List.mem_cons, List.not_mem_nil, or_false] at hx
  rcases hx with rfl | rfl | rfl | rfl | rfl | rfl | rfl <;> rfl
theorem En.psize (x : En) : x.pc.size = 7 := rfl
theorem plOf_size (x : Option En) : (plOf x).size = 7 := by cases x <;> rfl
theorem plOf_one (x : Option En) : ∀ v ∈ (plOf x).toList, v.oneCell' = true := by
  intro v hv
  cases x <;> simp [plOf, En.pc] at hv <;> rcases hv with rfl | rfl | rfl | rfl | rfl | rfl | rfl <;> rfl
theorem En.pone (x : En) : ∀ v ∈ x.pc.toList, v.oneCell' = true := plOf_one (some x)
/-- The address's cells. -/
def Ky.mc (k : Ky) : Array Value := #[.int .u8 k.a, .int .u8 k.b, .int .u8 k.c, .int .u8 k.d, .int .u8 k.e, .int .u8 k.f]
theorem ldM (x : Value) : Instr.loadAt 38 x = ldS 38 x := rfl
theorem stM (x y : Value) : Instr.storeAt 38 x y = stS 38 x y := rfl
/-- The address in a key's variable. -/
theorem RvAt.mac {W : World} {b : Nat} {k : Ky} (h : RvAt W b 74 k.cs) : (ldS 38 (.pointer (some ⟨b, 1, none⟩))).run Try.prog W = .ok (.agg k.mc) W :=
  run_loadAt_mid W b 1 38 k.mc.toList _ (fun j x hx => h.cell _ _ (by
    match j, hx with
    | 0, hx => cases hx; rfl
    | 1, hx => cases hx; rfl
    | 2, hx => cases hx; rfl
    | 3, hx => cases hx; rfl
    | 4, hx => cases hx; rfl
    | 5, hx => cases hx; rfl
    | j + 6, hx => simp [Ky.mc] at hx)) Try.underlying38 rfl infoM
theorem Ky.msize (k : Ky) : k.mc.size = 6 := rfl
theorem Ky.mone (k : Ky) : ∀ x ∈ k.mc.toList, x.oneCell' = true := by
  intro x hx
  simp only [Ky.mc, List.mem_cons, List.not_mem_nil, or_false] at hx
  rcases hx with rfl | rfl | rfl | rfl | rfl | rfl <;> rfl
theorem Ad.size (x : Ad) : x.cs.size = 6 := rfl
theorem Ad.one (x : Ad) : ∀ v ∈ x.cs.toList, v.oneCell' = true := by
  intro v hx
  simp only [Ad.cs, List.mem_cons, List.not_mem_nil, or_false] at hx
  rcases hx with rfl | rfl | rfl | rfl | rfl | rfl <;> rfl
/-- A key's address. -/
def Ky.ad (k : Ky) : Ad := ⟨k.a, k.b, k.c, k.d, k.e, k.f⟩
theorem Ky.ad_cs (k : Ky) : k.ad.cs = k.mc := rfl
theorem Ky.wf.ad {k : Ky} (h : k.wf) : k.ad.wf := ⟨h.a, h.b, h.c, h.d, h.e, h.f⟩
theorem kyOf_ad (k : Ky) : kyOf k.vid k.ad = k := rfl
/-- The address in a place's variable. -/
theorem RvAt.pmac {W : World} {b : Nat} {x : En} (h : RvAt W b 76 x.pc) : (ldS 38 (.pointer (some ⟨b, 0, none⟩))).run Try.prog W = .ok (.agg x.bm.cs) W :=
  run_loadAt_mid W b 0 38 x.bm.cs.toList _ (fun j v hx => h.cell _ _ (by
    match j, hx with
    | 0, hx => cases hx; rfl
    | 1, hx => cases hx; rfl
    | 2, hx => cases hx; rfl
    | 3, hx => cases hx; rfl
    | 4, hx => cases hx; rfl
    | 5, hx => cases hx; rfl
    | j + 6, hx => simp [Ad.cs] at hx)) Try.underlying38 rfl infoM
/-- Are two addresses one? -/
def beqA (x y : Ad) : Bool := eq6 x.a x.b x.c x.d x.e x.f y.a y.b y.c y.d y.e y.f
theorem beqA_eq (x y : Ad) : beqA x y = @decide (x = y) (Ad.dec x y) := by
  obtain ⟨a, b, c, d, e, f⟩ := x
  obtain ⟨a', b', c', d', e', f'⟩ := y
  simp [beqA, eq6]
/-- What a database was made with. -/
structure Cf where
  room : Int
  age : Int
structure Cf.wf (c : Cf) : Prop where
  room : 1 ≤ c.room ∧ c.room ≤ 256
  age : 1 ≤ c.age ∧ c.age ≤ 1048576
def Cf.cs (c : Cf) (b : Nat) : Array Value := #[.int .i64 c.room, .int .i64 c.age, .map (some b)]
/-- Block p is a database, its entries l in block b. -/
structure Db (W : World) (p b : Nat) (c : Cf) (l : List En) : Prop where
  row : RvAt W p 60 (c.cs b)
  map : MapIs W b l
  ne : p ≠ b
  wf : c.wf
  len : (l.length : Int) ≤ c.room
theorem Db.kept {W W' : World} {p b : Nat} {c : Cf} {l : List En} {row : Option Nat} (h : Db W p b c l) (hg : W.grownBy W' row) (h1 : some p ≠ row) (h2 : some b ≠ row) : Db W' p b c l :=
  ⟨(hg.block p h.row.lt h1).trans h.row, h.map.kept hg h2, h.ne, h.wf, h.len⟩
theorem Db.below {W W' : World} {p b : Nat} {c : Cf} {l : List En} (h : Db W p b c l) (hb : Below W.heap.size W W') : Db W' p b c l := h.kept (grown_of_below hb none) (by simp) (by simp)
theorem Db.lt {W : World} {p b : Nat} {c : Cf} {l : List En} (h : Db W p b c l) : p < W.heap.size ∧ b < W.heap.size := ⟨h.row.lt, h.map.lt⟩
theorem Db.c1 {W : World} {p b : Nat} {c : Cf} {l : List En} (h : Db W p b c l) : W.cell? ⟨p, 0, none⟩ = some (.int .i64 c.room) := h.row.cell 0 _ rfl
theorem Db.c2 {W : World} {p b : Nat} {c : Cf} {l : List En} (h : Db W p b c l) : W.cell? ⟨p, 1, none⟩ = some (.int .i64 c.age) := h.row.cell 1 _ rfl
theorem Db.c3 {W : World} {p b : Nat} {c : Cf} {l : List En} (h : Db W p b c l) : W.cell? ⟨p, 2, none⟩ = some (.map (some b)) := h.row.cell 2 _ rfl
/-- .. with other entries. -/
theorem Db.turn {W W' : World} {p b : Nat} {c : Cf} {l l' : List En} (h : Db W p b c l) (hg : W.grownBy W' (some b)) (hm : MapIs W' b l') (hl : (l'.length : Int) ≤ c.room) : Db W' p b c l' :=
  ⟨(hg.block p h.row.lt (fun e => h.ne (by simpa using e))).trans h.row, hm, h.ne, h.wf, hl⟩
@[go_sem] theorem neq_map (p : Option Nat) (w : World) : (binOp .neq 58 (.map p) (.map none)).run Try.prog w = .ok (.bool p.isSome) w := by
  cases p <;> kernel_rfl
@[go_sem] theorem fld0 (a b c d e f t : Int) (w : World) : (Instr.field 76 (.agg #[.int .u8 a, .int .u8 b, .int .u8 c, .int .u8 d, .int .u8 e, .int .u8 f, .int .i64 t]) 0).run Try.prog w = .ok (.agg #[.int .u8 a, .int .u8 b, .int .u8 c, .int .u8 d, .int .u8 e, .int .u8 f]) w := by kernel_rfl
@[go_sem] theorem fld1 (a b c d e f t : Int) (w : World) : (Instr.field 76 (.agg #[.int .u8 a, .int .u8 b, .int .u8 c, .int .u8 d, .int .u8 e, .int .u8 f, .int .i64 t]) 1).run Try.prog w = .ok (.int .i64 t) w := by kernel_rfl
/-- Within two bounds? -/
def inn (n a b : Int) : Bool := decide (a ≤ n ∧ n ≤ b)
set_option maxHeartbeats 400000 in
theorem within_any (n a b : Int) (w : World) : Calls Try.prog 24 #[.int .i64 n, .int .i64 a, .int .i64 b] w fun r w' => r = .returned (.bool (inn n a b)) ∧ w' = w := by
  go_enter Try.func24, Try.ntmps24
  go_wp2
  all_goals
    go_ret
    refine ⟨ret_bool ?_, rfl⟩
    simp_all [inn]
    try omega
set_option maxHeartbeats 400000 in
theorem made_any (p : Nat) (b : Option Nat) (w : World) (h : w.cell? ⟨p, 2, none⟩ = some (.map b)) : Calls Try.prog 31 #[.pointer (some ⟨p, 0, none⟩)] w fun r w' => r = .returned (.bool b.isSome) ∧ w' = w := by
  go_enter Try.func31, Try.ntmps31
  go_wp2
  go_ret
  exact ⟨rfl, rfl⟩
set_option maxHeartbeats 400000 in
theorem made_nil (w : World) : Calls Try.prog 31 #[.pointer none] w fun r w' => r = .returned (.bool false) ∧ w' = w := by
  go_enter Try.func31, Try.ntmps31
  go_wp2
  go_ret
  exact ⟨rfl, rfl⟩
/-- Are two keys one? -/
def beqK (k q : Ky) : Bool := decide (k.vid = q.vid) && eq6 k.a k.b k.c k.d k.e k.f q.a q.b q.c q.d q.e q.f
theorem beqK_rk {k q : Ky} (h : k.wf) (g : q.wf) : beqK k q = decide (k.rk = q.rk) := by
  by_cases e : k.rk = q.rk
  · have := Ky.inj h g e
    subst this
    simp [beqK, eq6_self]
  · rw [decide_eq_false e]
    cases hb : beqK k q with
    | false => rfl
    | true =>
      simp only [beqK, Bool.and_eq_true, decide_eq_true_eq, eq6_iff] at hb
      obtain ⟨h1, h2, h3, h4, h5, h6, h7⟩ := hb
      exact absurd (by simp only [Ky.rk, Ky.num, h1, h2, h3, h4, h5, h6, h7]) e
theorem eqlK (k q : Ky) (w : World) : (binOp .eql 74 (.agg k.cs) (.agg q.cs)).run Try.prog w = .ok (.bool (beqK k q)) w := by
  have u3 := Try.underlying3
  have a3 := Try.isAgg3
  have z3 := Try.sizeOf3
  have u4 := Try.underlying38
  have a4 := Try.isAgg38
  have z4 := Try.sizeOf38
  have hS : Try.prog.underlying 74 = some (.struct (Try.prog.fieldsOf 74)) := by kernel_rfl
  have hp : Try.prog.stoodInHeld 74 = false := by kernel_rfl
  have hm' : ∀ (a b c d e f a' b' c' d' e' f' : Int) (w : World), (Op.equalIn 9999 38 (.agg #[.int .u8 a, .int .u8 b, .int .u8 c, .int .u8 d, .int .u8 e, .int .u8 f]) (.agg #[.int .u8 a', .int .u8 b', .int .u8 c', .int .u8 d', .int .u8 e', .int .u8 f'])).run Try.prog w = .ok (eq6 a b c d e f a' b' c' d' e' f') w := eqMac9 9997
  simp only [Ky.cs]
  rw [run_eql_struct, show (10000 : Nat) = 9999 + 1 from rfl, run_equalIn_agg w 9999 74 _ _ hS hp]
  simp only [Program.fieldsOf, Try.underlying74]
  go_simp
  by_cases h1 : k.vid = q.vid <;> simp [h1, beqK]
  cases eq6 k.a k.b k.c k.d k.e k.f q.a q.b q.c q.d q.e q.f <;> rfl
end Go.Proofs.Ytoelpbajaadfeaa
