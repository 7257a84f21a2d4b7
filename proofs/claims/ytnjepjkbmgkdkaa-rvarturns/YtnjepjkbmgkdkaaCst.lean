/-
  What a bridge's settings are held against: addresses, times, costs: the walks of Address, both CheckT, within, wrongCost and the library's ContainsFunc.
-/
import Derived.Test.YtnjepjkbmgkdkaaCopy
import Derived.Test.YtnjepjkbmgkdkaaTail
namespace Go.Proofs.Ytnjepjkbmgkdkaa
set_option linter.unusedVariables false
set_option maxRecDepth 4000
set_option linter.unusedSimpArgs false
open Go.RowKit

/-- Are two addresses one? -/
def eq6 (a b c d e f a' b' c' d' e' f' : Int) : Bool := decide (a = a' ∧ b = b' ∧ c = c' ∧ d = d' ∧ e = e' ∧ f = f')
theorem eq6_iff {a b c d e f a' b' c' d' e' f' : Int} : eq6 a b c d e f a' b' c' d' e' f' = true ↔ (a = a' ∧ b = b' ∧ c = c' ∧ d = d' ∧ e = e' ∧ f = f') := by simp [eq6]
theorem eq6_self (a b c d e f : Int) : eq6 a b c d e f a b c d e f = true := by simp [eq6]
@[go_sem] theorem eqMac (a b c d e f a' b' c' d' e' f' : Int) (w : World) :
    (Op.equalIn 10000 60 (.agg #[.int .u8 a, .int .u8 b, .int .u8 c, .int .u8 d, .int .u8 e, .int .u8 f]) (.agg #[.int .u8 a', .int .u8 b', .int .u8 c', .int .u8 d', .int .u8 e', .int .u8 f'])).run Try.prog w = .ok (eq6 a b c d e f a' b' c' d' e' f') w := by
  have u5 := Try.underlying5
  have a5 := Try.isAgg5
  have z5 := Try.sizeOf5
  rw [show (10000 : Nat) = 9999 + 1 from rfl, Op.equalIn]
  simp only [Sem.run_bind, run_underlying Try.underlying60, Result.andThen_ok]
  simp only [Std.Legacy.Range.forIn_eq_forIn_range', Std.Legacy.Range.size, Nat.sub_zero, Nat.add_sub_cancel, Nat.div_one, List.range'_succ, List.range'_zero, List.forIn_cons, List.forIn_nil]
  go_simp
  unfold eq6
  by_cases h1 : a = a' <;> simp [h1]
  by_cases h2 : b = b' <;> simp [h2]
  by_cases h3 : c = c' <;> simp [h3]
  by_cases h4 : d = d' <;> simp [h4]
  by_cases h5 : e = e' <;> simp [h5]
  by_cases h6 : f = f' <;> simp [h6]
set_option maxHeartbeats 400000 in
theorem address_any (n : Int) (w : World) (hn : 0 ≤ n ∧ n ≤ 18446744073709551615) :
    Calls Try.prog 30 #[.int .u64 n] w fun r w' => r = .returned (.agg #[.int .u8 (n / 1099511627776 % 256), .int .u8 (n / 4294967296 % 256), .int .u8 (n / 16777216 % 256), .int .u8 (n / 65536 % 256), .int .u8 (n / 256 % 256), .int .u8 (n % 256)]) ∧ Below w.heap.size w w' := by
  go_enter Try.func30, Try.ntmps30
  go_wp2
  go_rounds 7
  go_returns
  exact ⟨rfl, by go_grown⟩
set_option maxHeartbeats 400000 in
theorem vwithin_any (n l m : Int) (w : World) :
    Calls Try.prog 47 #[.int .i64 n, .int .i64 l, .int .i64 m] w fun r w' => r = .returned (.bool (decide (l ≤ n ∧ n ≤ m))) ∧ Below w.heap.size w w' := by
  by_cases h : l ≤ n
  all_goals
    go_enter Try.func47, Try.ntmps47
    go_wp2
    go_ret
    refine ⟨ret_bool ?_, by go_grown⟩
    first | (simp [h]; done) | (simp [h]; omega)
/-- May a bridge's times be? -/
def chkT (x h d : Int) : Int := if 6 ≤ x ∧ x ≤ 40 ∧ 1 ≤ h ∧ h ≤ 2 ∧ 4 ≤ d ∧ d ≤ 30 ∧ x ≤ 2 * (d - 1) ∧ 2 * (h + 1) ≤ x then 0 else 60
theorem within_is {n l m : Int} {b : Bool} (h : decide (l ≤ n ∧ n ≤ m) = b) (w : World) :
    Calls Try.prog 47 #[.int .i64 n, .int .i64 l, .int .i64 m] w fun r w' => r = .returned (.bool b) ∧ Below w.heap.size w w' := by
  have := vwithin_any n l m w
  rwa [h] at this
set_option maxHeartbeats 2000000 in
theorem check_any (a x h d : Int) (w : World) (hx : 0 ≤ x ∧ x ≤ 255) (hh : 0 ≤ h ∧ h ≤ 255) (hd : 0 ≤ d ∧ d ≤ 255) :
    Calls Try.prog 31 #[.agg #[.int .u8 a, .int .u8 x, .int .u8 h, .int .u8 d]] w fun r w' => r = .returned (.int .i64 (chkT x h d)) ∧ Below w.heap.size w w' := by
  have q := @Later.cell
  cases p1 : decide (6 ≤ x ∧ x ≤ 40) <;> cases p2 : decide (1 ≤ h ∧ h ≤ 2) <;> cases p3 : decide (4 ≤ d ∧ d ≤ 30)
  all_goals
    have P1 : Hid (∀ w : World, _) := within_is p1
    have P2 : Hid (∀ w : World, _) := within_is p2
    have P3 : Hid (∀ w : World, _) := within_is p3
    simp only [decide_eq_true_eq, decide_eq_false_iff_not] at p1 p2 p3
    go_enter Try.func31, Try.ntmps31
    go_wp2_with fail
    refine wp_region_later (by kernel_rfl) (by kernel_rfl) ?_
    repeat (go_big_quiet_step (first | exact rfl))
    refine wpQuiet_nil ?_
    intro _ hw'
    obtain ⟨y, rfl⟩ := hw'
    go_wp2_with (first
      | (go_at_call 47; with_reducible refine Calls.on_later2 (P1.out _) ?_; intro y1)
      | (go_at_call 47; with_reducible refine Calls.on_later2 (P2.out _) ?_; intro y1)
      | (go_at_call 47; with_reducible refine Calls.on_later2 (P3.out _) ?_; intro y1))
    all_goals
      go_ret
      refine ⟨ret_int ?_, below_later (by go_grown) _⟩
      unfold chkT
      split <;> omega
set_option maxHeartbeats 2000000 in
theorem chkref_any (a x h d : Int) (w : World) (hx : 0 ≤ x ∧ x ≤ 255) (hh : 0 ≤ h ∧ h ≤ 255) (hd : 0 ≤ d ∧ d ≤ 255) :
    Calls Try.prog 46 #[.agg #[.int .u8 a, .int .u8 x, .int .u8 h, .int .u8 d]] w fun r w' => r = .returned (.int .i64 (chkT x h d)) ∧ Below w.heap.size w w' := by
  have q := @Later.cell
  go_enter Try.func46, Try.ntmps46
  go_wp2_with fail
  refine wp_region_later (by kernel_rfl) (by kernel_rfl) ?_
  repeat (go_big_quiet_step (first | exact rfl))
  refine wpQuiet_nil ?_
  intro _ hw'
  obtain ⟨y, rfl⟩ := hw'
  go_wp2_with fail
  all_goals
    go_ret
    refine ⟨ret_int ?_, below_later (by go_grown) _⟩
    unfold chkT
    split <;> first | omega | (simp at *; omega)
/-! ### costs -/
/-- Is a cost wrong? -/
def badC (x : Int) : Bool := decide (x < 1) || decide (200000000 < x)
theorem wrong_any (x : Int) (w : World) : Calls Try.prog 34 #[.int .u32 x] w fun r w' => r = .returned (.bool (badC x)) ∧ Below w.heap.size w w' := by
  go_enter Try.func34, Try.ntmps34
  by_cases h1 : x < 1
  · go_wp2
    go_ret
    exact ⟨by unfold badC; simp [h1], Below.refl _ _⟩
  · by_cases h2 : 200000000 < x
    · go_wp2
      go_ret
      exact ⟨by unfold badC; simp [h2], Below.refl _ _⟩
    · go_wp2
      go_ret
      refine ⟨?_, Below.refl _ _⟩
      have : badC x = false := by unfold badC; simp; omega
      rw [this]
      simp
      try omega
/-- The slice leads to these costs. -/
structure CsAt (W : World) (a : Option Addr) (n c : Nat) (l : List Int) : Prop where
  len : l.length = n
  cap : n ≤ c
  max : c ≤ maxLen
  some' : 0 < n → ∃ b o, a = some ⟨b, o, none⟩
  bnd : ∀ x ∈ l, (Lit.int .u32 x).wf = true
  cells : ∀ b o, a = some ⟨b, o, none⟩ → ∀ j v, l[j]? = some v → W.cell? ⟨b, o + j, none⟩ = some (.int .u32 v)
theorem CsAt.below {W W' : World} {a : Option Addr} {n c : Nat} {l : List Int} (h : CsAt W a n c l) (hb : Below W.heap.size W W') : CsAt W' a n c l :=
  ⟨h.len, h.cap, h.max, h.some', h.bnd, fun b o e j v hv => by
    have := h.cells b o e j v hv
    exact (hb.cell (World.block_lt_of_cell? W _ this)).trans this⟩
theorem CsAt.cut {W : World} {a : Option Addr} {n c : Nat} {l : List Int} (h : CsAt W a n c l) {m : Nat} (hm : m ≤ n) : CsAt W a m c (l.take m) :=
  ⟨by rw [List.length_take, h.len]; omega, by have := h.cap; omega, h.max, fun h0 => h.some' (by omega), fun x hx => h.bnd x (List.mem_of_mem_take hx), fun b o e j v hv => by
    rw [List.getElem?_take] at hv
    split at hv
    · exact h.cells b o e j v hv
    · cases hv⟩
theorem find_pre {l : List Int} {i : Nat} (hi : i < l.length) (h : ∀ j x, j < i → l[j]? = some x → badC x = false) (e : badC l[i] = true) : l.any badC = true := by
  rw [List.any_eq_true]
  exact ⟨l[i], List.getElem_mem _, e⟩
theorem find_no {l : List Int} (h : ∀ j x, j < l.length → l[j]? = some x → badC x = false) : l.any badC = false := by
  rw [List.any_eq_false]
  intro x hx
  obtain ⟨j, hj, e⟩ := List.mem_iff_getElem.1 hx
  have := h j x hj (by rw [List.getElem?_eq_getElem hj, e])
  simp [this]
set_option maxHeartbeats 4000000 in
theorem index_any (a : Option Addr) (n c : Nat) (l : List Int) (w : World) (hs : CsAt w a n c l) (hn : n ≤ 1000) :
    Calls Try.prog 48 #[.slice a n c, .func (.func 34) #[] #[]] w fun r w' => (∃ j : Int, r = .returned (.int .i64 j) ∧ (decide (0 ≤ j) = l.any badC)) ∧ Below w.heap.size w w' := by
  have H : Hid (CsAt w a n c l ∧ n ≤ 1000 ∧ l.length = n) := ⟨hs, hn, hs.len⟩
  have hnn : (n : Int) ≤ 1000 := by omega
  clear hs hn
  go_enter Try.func48, Try.ntmps48
  go_wp2_with fail
  go_loopw [8] (fun v8 wr => ∃ i : Nat, i ≤ n ∧ v8 = .int .i64 i ∧ (∀ j x, j < i → l[j]? = some x → badC x = false) ∧ Below w.heap.size w wr) (fun v8 _ => n - (intOf v8).toNat)
  case atStart => exact ⟨0, by omega, rfl, fun j x hj => by omega, Below.refl _ _⟩
  case round =>
    obtain ⟨i, hi, rfl, ht, hB⟩ := hrel
    have J : Hid ((∀ j x, j < i → l[j]? = some x → badC x = false) ∧ Below w.heap.size w wr) := ⟨ht, hB⟩
    have hin0 : (0 : Int) ≤ (i : Int) := by omega
    by_cases hit : i < n
    · have hin1 : (i : Int) < (n : Int) := by omega
      have hl : i < l.length := by rw [H.out.2.2]; exact hit
      obtain ⟨b, o, rfl⟩ := H.out.1.some' (by omega)
      have cx := (H.out.1.below hB).cells b o rfl i l[i] (List.getElem?_eq_getElem hl)
      have E : Hid (i < l.length ∧ l[i]? = some l[i]) := ⟨hl, List.getElem?_eq_getElem hl⟩
      obtain ⟨x, hx⟩ : ∃ x, l[i] = x := ⟨_, rfl⟩
      rw [hx] at cx E
      have HX : Hid (∀ h : i < l.length, l[i] = x) := fun _ => hx
      clear ht hB hl hx
      go_wp2_with fail
      refine (wrong_any x wr).mono ?_
      rintro _ V ⟨rfl, bV⟩
      cases hb : badC x
      · have N : Hid (∀ j x, j < i + 1 → l[j]? = some x → badC x = false) := fun j y hj hy => by
          by_cases hji : j = i
          · subst hji
            rw [E.out.2] at hy
            cases hy
            exact hb
          · exact J.out.1 j y (by omega) hy
        clear cx hb
        go_wp2
        go_roundw
        case rel => exact ⟨i + 1, by omega, by go_num, N.out, below_over J.out.2 bV⟩
        case measure => simp [intOf]; omega
      · have N : Hid (l.any badC = true) := find_pre E.out.1 J.out.1 (by rw [HX.out E.out.1]; exact hb)
        clear cx hb
        go_wp2
        go_ret
        exact ⟨⟨(i : Int), rfl, by rw [N.out]; simp⟩, below_over J.out.2 bV⟩
    · have hin : i = n := by omega
      subst hin
      have hin1 : ¬ (i : Int) < (i : Int) := by omega
      clear ht hB
      go_wp2
      go_ret
      exact ⟨⟨-1, rfl, by rw [find_no (fun j x hj => J.out.1 j x (by rw [← H.out.2.2]; exact hj))]; rfl⟩, J.out.2⟩
theorem contains_any (a : Option Addr) (n c : Nat) (l : List Int) (w : World) (hs : CsAt w a n c l) (hn : n ≤ 1000) :
    Calls Try.prog 33 #[.slice a n c, .func (.func 34) #[] #[]] w fun r w' => r = .returned (.bool (l.any badC)) ∧ Below w.heap.size w w' := by
  go_enter Try.func33, Try.ntmps33
  go_wp2_with fail
  refine (index_any a n c l w hs hn).mono ?_
  rintro _ V ⟨⟨j, rfl, hj⟩, bV⟩
  have F : Hid (decide (0 ≤ j) = l.any badC) := hj
  clear hj hs hn
  go_wp2
  go_ret
  exact ⟨by rw [← F.out]; rfl, bV⟩
end Go.Proofs.Ytnjepjkbmgkdkaa
