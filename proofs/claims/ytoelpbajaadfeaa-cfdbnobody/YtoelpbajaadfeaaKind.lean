/-
  The walks of an address's class, of its number and back, each for every input.
-/
import Derived.Test.YtoelpbajaadfeaaRv
import Derived.Laws.BitsAllLaws
namespace Go.Proofs.Ytoelpbajaadfeaa
set_option linter.unusedVariables false
set_option maxRecDepth 4000
set_option linter.unusedSimpArgs false
open Go.RowKit

/-- Are two addresses one? -/
def eq6 (a b c d e f a' b' c' d' e' f' : Int) : Bool := decide (a = a' ∧ b = b' ∧ c = c' ∧ d = d' ∧ e = e' ∧ f = f')
theorem eq6_iff {a b c d e f a' b' c' d' e' f' : Int} : eq6 a b c d e f a' b' c' d' e' f' = true ↔ (a = a' ∧ b = b' ∧ c = c' ∧ d = d' ∧ e = e' ∧ f = f') := by simp [eq6]
theorem eq6_self (a b c d e f : Int) : eq6 a b c d e f a b c d e f = true := by simp [eq6]
theorem eqMac9 (n : Nat) (a b c d e f a' b' c' d' e' f' : Int) (w : World) :
    (Op.equalIn (n + 1 + 1) 38 (.agg #[.int .u8 a, .int .u8 b, .int .u8 c, .int .u8 d, .int .u8 e, .int .u8 f]) (.agg #[.int .u8 a', .int .u8 b', .int .u8 c', .int .u8 d', .int .u8 e', .int .u8 f'])).run Try.prog w = .ok (eq6 a b c d e f a' b' c' d' e' f') w := by
  have u5 := Try.underlying5
  have a5 := Try.isAgg5
  have z5 := Try.sizeOf5
  rw [Op.equalIn]
  simp only [Sem.run_bind, run_underlying Try.underlying38, Result.andThen_ok]
  simp only [Std.Legacy.Range.forIn_eq_forIn_range', Std.Legacy.Range.size, Nat.sub_zero, Nat.add_sub_cancel, Nat.div_one, List.range'_succ, List.range'_zero, List.forIn_cons, List.forIn_nil]
  go_simp
  unfold eq6
  by_cases h1 : a = a' <;> simp [h1]
  by_cases h2 : b = b' <;> simp [h2]
  by_cases h3 : c = c' <;> simp [h3]
  by_cases h4 : d = d' <;> simp [h4]
  by_cases h5 : e = e' <;> simp [h5]
  by_cases h6 : f = f' <;> simp [h6]
@[go_sem] theorem eqMac (a b c d e f a' b' c' d' e' f' : Int) (w : World) :
    (Op.equalIn 10000 38 (.agg #[.int .u8 a, .int .u8 b, .int .u8 c, .int .u8 d, .int .u8 e, .int .u8 f]) (.agg #[.int .u8 a', .int .u8 b', .int .u8 c', .int .u8 d', .int .u8 e', .int .u8 f'])).run Try.prog w = .ok (eq6 a b c d e f a' b' c' d' e' f') w := eqMac9 9998 a b c d e f a' b' c' d' e' f' w
def isSvc (a b c : Int) : Bool := decide (a = 1 ∧ b = 30 ∧ c = 131)
def isRes (a b c d e f : Int) : Bool := decide (a = 1 ∧ b = 128 ∧ c = 194 ∧ d = 0 ∧ e = 0 ∧ f < 16)
def isMany (a : Int) : Bool := a % 2 == 1
set_option maxHeartbeats 400000 in
theorem many_any (a b c d e f : Int) (w : World) (ha : 0 ≤ a ∧ a ≤ 255) :
    Calls Try.prog 58 #[.agg #[.int .u8 a, .int .u8 b, .int .u8 c, .int .u8 d, .int .u8 e, .int .u8 f]] w fun r w' => r = .returned (.bool (isMany a)) ∧ Below w.heap.size w w' := by
  go_enter Try.func58, Try.ntmps58
  go_wp2
  go_ret
  exact ⟨rfl, by go_grown⟩
set_option maxHeartbeats 400000 in
theorem service_any (a b c d e f : Int) (w : World) :
    Calls Try.prog 57 #[.agg #[.int .u8 a, .int .u8 b, .int .u8 c, .int .u8 d, .int .u8 e, .int .u8 f]] w fun r w' => r = .returned (.bool (isSvc a b c)) ∧ Below w.heap.size w w' := by
  go_enter Try.func57, Try.ntmps57
  go_wp2
  go_ret
  refine ⟨ret_bool ?_, by go_grown⟩
  simp [eq6, isSvc]
set_option maxHeartbeats 400000 in
theorem reserved_any (a b c d e f : Int) (w : World) :
    Calls Try.prog 56 #[.agg #[.int .u8 a, .int .u8 b, .int .u8 c, .int .u8 d, .int .u8 e, .int .u8 f]] w fun r w' => r = .returned (.bool (isRes a b c d e f)) ∧ Below w.heap.size w w' := by
  by_cases h : f < 16
  · go_enter Try.func56, Try.ntmps56
    go_wp2
    go_ret
    refine ⟨ret_bool ?_, by go_grown⟩
    simp [eq6, isRes, h]
  · go_enter Try.func56, Try.ntmps56
    go_wp2
    go_ret
    refine ⟨ret_bool ?_, by go_grown⟩
    simp [isRes, h]
set_option maxHeartbeats 800000 in
theorem same_any (a b c d e f x : Int) (w : World) :
    Calls Try.prog 54 #[.agg #[.int .u8 a, .int .u8 b, .int .u8 c, .int .u8 d, .int .u8 e, .int .u8 f], .int .u8 x] w fun r w' => r = .returned (.bool (eq6 a b c d e f x x x x x x)) ∧ Below w.heap.size w w' := by
  go_enter Try.func54, Try.ntmps54
  go_wp2
  go_rounds 7
  all_goals
    go_ret
    refine ⟨ret_bool ?_, by go_grown⟩
    simp_all [eq6]
/-- An address's class. -/
def kindOf (a b c d e f : Int) : Int :=
  if eq6 a b c d e f 0 0 0 0 0 0 then 6 else if eq6 a b c d e f 255 255 255 255 255 255 then 3 else if isRes a b c d e f then 4 else if isSvc a b c then 5 else if isMany a then 2 else 1
set_option maxHeartbeats 800000 in
theorem kind_any (a b c d e f : Int) (w : World) (ha : 0 ≤ a ∧ a ≤ 255) :
    Calls Try.prog 47 #[.agg #[.int .u8 a, .int .u8 b, .int .u8 c, .int .u8 d, .int .u8 e, .int .u8 f]] w fun r w' => r = .returned (.int .i64 (kindOf a b c d e f)) ∧ Below w.heap.size w w' := by
  have hx := @Later.cell
  go_enter Try.func47, Try.ntmps47
  go_wp2_with (first
    | (go_at_call 56; refine Calls.on_later (reserved_any _ _ _ _ _ _ _) ?_; intro x)
    | (go_at_call 57; refine Calls.on_later2 (service_any _ _ _ _ _ _ _) ?_; intro x)
    | (go_at_call 58; refine Calls.on_later2 (many_any _ _ _ _ _ _ _ ha) ?_; intro x))
  all_goals
    go_ret
    refine ⟨ret_int ?_, by first | (with_reducible refine below_later ?_ _; go_grown) | go_grown⟩
    simp_all [kindOf]
set_option maxHeartbeats 800000 in
theorem kind_ref (a b c d e f : Int) (w : World) (ha : 0 ≤ a ∧ a ≤ 255) :
    Calls Try.prog 43 #[.agg #[.int .u8 a, .int .u8 b, .int .u8 c, .int .u8 d, .int .u8 e, .int .u8 f]] w fun r w' => r = .returned (.int .i64 (kindOf a b c d e f)) ∧ Below w.heap.size w w' := by
  have hx := @Later.cell
  go_enter Try.func43, Try.ntmps43
  go_wp2_with (first
    | (go_at_call 54; refine Calls.on_later2 (same_any _ _ _ _ _ _ _ _) ?_; intro x)
    | (go_at_call 54; refine Calls.on_later (same_any _ _ _ _ _ _ _ _) ?_; intro x))
  all_goals
    go_ret
    refine ⟨ret_int ?_, by first | (with_reducible refine below_later ?_ _; go_grown) | go_grown⟩
    first | (simp_all [kindOf, isRes, isSvc, isMany]; done) | (simp_all [kindOf, isRes, isSvc, isMany]; omega)
/-- Six bytes as a number, the highest first. -/
def num (a b c d e f : Int) : Int := ((((a * 256 + b) * 256 + c) * 256 + d) * 256 + e) * 256 + f
/-- A number shifted by a byte, or a byte: their sum. -/
theorem or_byte (x y : Int) (hx : 0 ≤ x) (hx' : x < 72057594037927936) (hy : 0 ≤ y ∧ y ≤ 255) : bits .or .u64 (IntKind.u64.wrap (x * 256)) y = x * 256 + y := by
  obtain ⟨m, rfl⟩ := Int.eq_ofNat_of_zero_le hx
  obtain ⟨n, rfl⟩ := Int.eq_ofNat_of_zero_le hy.1
  have e : IntKind.u64.wrap ((m : Int) * 256) = ((m * 256 : Nat) : Int) := by
    rw [IntWalk.u64_in _ ⟨by omega, by omega⟩]; omega
  rw [e, u64_or_nat _ _ (by omega) (by omega)]
  have := Nat.shiftLeft_add_eq_or_of_lt (a := m) (b := n) (i := 8) (by omega)
  rw [Nat.shiftLeft_eq] at this
  have h2 : m * 256 ||| n = m * 256 + n := this.symm
  rw [h2]; omega
theorem or_zero (y : Int) (hy : 0 ≤ y ∧ y ≤ 255) : bits .or .u64 0 y = y := by
  obtain ⟨n, rfl⟩ := Int.eq_ofNat_of_zero_le hy.1
  have := u64_or_nat 0 n (by omega) (by omega)
  simpa using this
/-- As it was in all that was there, no draw taken back. -/
def Bd (W W' : World) : Prop := Below W.heap.size W W' ∧ W.drawn ≤ W'.drawn
theorem Bd.refl (W : World) : Bd W W := ⟨Below.refl _ _, Nat.le_refl _⟩
theorem Bd.trans {a b c : World} (h : Bd a b) (k : Bd b c) : Bd a c := ⟨below_over h.1 k.1, Nat.le_trans h.2 k.2⟩
theorem Bd.alloc {a b : World} (h : Bd a b) (o : Obj) : Bd a (b.alloc o) := ⟨h.1.alloc h.1.size o, h.2⟩
/-- A world that is so. -/
structure LaterG (W : World) where
  val : World
  bd : Bd W val
theorem LaterG.cell {W : World} (x : LaterG W) (b o : Nat) (h : b < W.heap.size) : x.val.cell? ⟨b, o, none⟩ = W.cell? ⟨b, o, none⟩ := x.bd.1.cell (p := ⟨b, o, none⟩) h
theorem wp_region_laterG {P : Program} {id : Nat} {Q : Exit → Act → World → Prop} {a : Act} {w : World} {l : List Oper} (hm : P.follows .mixedOrders = true) (hB : Region.lexB .any l.toArray = true)
    (h : wpQuiet P l.toArray (fun w' => ∃ x : LaterG w, w' = x.val) (fun a' => ∀ w', (∃ x : LaterG w, w' = x.val) → Q .normal a' w') l a) : (Code.region id l.toArray true).wp P Q a w :=
  wp_region_quiet (C := fun w' => ∃ x : LaterG w, w' = x.val) hm hB ⟨LaterG.mk _ ⟨(Below.refl _ w).drew, Nat.le_succ _⟩, rfl⟩ (by simpa using h)
theorem Calls.laterG_of {P : Program} {f : FuncId} {args : Array Value} {W : World} {x : LaterG W} {v : Value}
    (h : Calls P f args x.val fun e w' => e = .returned v ∧ Bd x.val w') : Calls P f args x.val fun e w'' => e = .returned v ∧ ∃ y : LaterG W, w'' = y.val :=
  h.mono fun _ w' ⟨he, hb⟩ => ⟨he, LaterG.mk w' (x.bd.trans hb), rfl⟩
set_option maxHeartbeats 400000 in
theorem number_any (a b c d e f : Int) (w : World) (ha : 0 ≤ a ∧ a ≤ 255) (hb : 0 ≤ b ∧ b ≤ 255) (hc : 0 ≤ c ∧ c ≤ 255) (hd : 0 ≤ d ∧ d ≤ 255) (he : 0 ≤ e ∧ e ≤ 255) (hf : 0 ≤ f ∧ f ≤ 255) :
    Calls Try.prog 69 #[.agg #[.int .u8 a, .int .u8 b, .int .u8 c, .int .u8 d, .int .u8 e, .int .u8 f]] w fun r w' => r = .returned (.int .u64 (num a b c d e f)) ∧ Bd w w' := by
  go_enter Try.func69, Try.ntmps69
  go_wp2
  go_rounds 7
  go_ret
  refine ⟨ret_int ?_, by go_grown, Nat.le_refl _⟩
  rw [or_zero a ha, or_byte a b (by omega) (by omega) hb, or_byte _ c (by omega) (by omega) hc, or_byte _ d (by omega) (by omega) hd, or_byte _ e (by omega) (by omega) he, or_byte _ f (by omega) (by omega) hf]
  rfl
set_option maxHeartbeats 400000 in
theorem number_ref (a b c d e f : Int) (w : World) (ha : 0 ≤ a ∧ a ≤ 255) (hb : 0 ≤ b ∧ b ≤ 255) (hc : 0 ≤ c ∧ c ≤ 255) (hd : 0 ≤ d ∧ d ≤ 255) (he : 0 ≤ e ∧ e ≤ 255) (hf : 0 ≤ f ∧ f ≤ 255) :
    Calls Try.prog 70 #[.agg #[.int .u8 a, .int .u8 b, .int .u8 c, .int .u8 d, .int .u8 e, .int .u8 f]] w fun r w' => r = .returned (.int .u64 (num a b c d e f)) ∧ Below w.heap.size w w' := by
  go_enter Try.func70, Try.ntmps70
  go_wp2
  go_rounds 7
  go_ret
  exact ⟨rfl, by go_grown⟩
set_option maxHeartbeats 400000 in
theorem less_any (a b c d e f a' b' c' d' e' f' : Int) (w : World) (ha : 0 ≤ a ∧ a ≤ 255) (hb : 0 ≤ b ∧ b ≤ 255) (hc : 0 ≤ c ∧ c ≤ 255) (hd : 0 ≤ d ∧ d ≤ 255) (he : 0 ≤ e ∧ e ≤ 255) (hf : 0 ≤ f ∧ f ≤ 255)
    (ha' : 0 ≤ a' ∧ a' ≤ 255) (hb' : 0 ≤ b' ∧ b' ≤ 255) (hc' : 0 ≤ c' ∧ c' ≤ 255) (hd' : 0 ≤ d' ∧ d' ≤ 255) (he' : 0 ≤ e' ∧ e' ≤ 255) (hf' : 0 ≤ f' ∧ f' ≤ 255) :
    Calls Try.prog 51 #[.agg #[.int .u8 a, .int .u8 b, .int .u8 c, .int .u8 d, .int .u8 e, .int .u8 f], .agg #[.int .u8 a', .int .u8 b', .int .u8 c', .int .u8 d', .int .u8 e', .int .u8 f']] w fun r w' => r = .returned (.bool (decide (num a b c d e f < num a' b' c' d' e' f'))) ∧ Bd w w' := by
  have hx := @LaterG.cell
  go_enter Try.func51, Try.ntmps51
  go_wp2
  refine wp_region_laterG (by kernel_rfl) (by kernel_rfl) ?_
  repeat (go_big_quiet_step (first | exact rfl | (go_at_call 69; exact Calls.laterG_of (number_any _ _ _ _ _ _ _ ha hb hc hd he hf)) | (go_at_call 69; exact Calls.laterG_of (number_any _ _ _ _ _ _ _ ha' hb' hc' hd' he' hf'))))
  refine wpQuiet_nil ?_
  intro _ hw'
  obtain ⟨x, rfl⟩ := hw'
  go_wp2
  go_ret
  exact ⟨rfl, Bd.trans (((Bd.refl w).alloc _).alloc _) x.bd⟩
end Go.Proofs.Ytoelpbajaadfeaa
