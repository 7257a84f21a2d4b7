/-
  The walk of a number's bytes by definition.
-/
import Derived.Test.YtfpoopllkmnagaaDoorSmall
import Derived.Test.YtfpoopllkmnagaaDoorEqs
namespace Go.Proofs.YtfpoopllkmnagaaDoor
set_option linter.unusedVariables false
set_option maxRecDepth 4000
set_option linter.unusedSimpArgs false
open Go.RowKit

attribute [local go_sem ↓] ldS32 ldS49 ldS28 ldS30 ldS83 stS32 stS49 stS28 stS30 eqP_eq nqP_eq eqM_eq nqM_eq nqV_eq nqT_eq slS_eq


/-- The walk of a number's bytes by definition. -/
theorem byte_of (v : Nat) : IntKind.u8.wrap ((v : Int).tmod 256) = ((v % 256 : Nat) : Int) := by
  rw [Int.tmod_eq_emod_of_nonneg (by omega), IntKind.wrap_u8']
  omega

set_option maxHeartbeats 1000000 in
theorem put_ref (v s : Nat) (w : World) (hs : s ≤ 8) (hv : v < 18446744073709551616) :
    Calls Tryd.prog 26 #[.int .u64 (v : Nat), .int .i64 (s : Nat)] w fun r w' => ∃ x, r = .returned x ∧ Own w' w.heap.size x (be s v) ∧ Below w.heap.size w w' := by
  go_enter Tryd.func26, Tryd.ntmps26
  go_wp2
  go_loopw [0, 5, 6] (fun v0 v5 v6 wr => ∃ (i : Nat) (a : Option Addr) (n c : Nat), i ≤ s ∧ v0 = .int .u64 ((v / 2 ^ (8 * i) : Nat) : Int) ∧ v5 = .slice a n c ∧ v6 = .int .i64 (i : Nat) ∧ Own wr w.heap.size (.slice a n c) (be i v) ∧ Below w.heap.size w wr) (fun _ _ v6 _ => s - (intOf v6).toNat)
  case atStart => exact ⟨0, none, 0, 0, by omega, by simp, rfl, rfl, own_nil _ _, Below.refl _ _⟩
  case round =>
    obtain ⟨i, a, n, c, hi, rfl, rfl, rfl, ho, hb⟩ := hrel
    by_cases hlt : i < s
    · have p1 : (i : Int) < (s : Int) := by omega
      obtain ⟨N, hN⟩ : ∃ N, v / 2 ^ (8 * i) = N := ⟨_, rfl⟩
      have hNv : N < 18446744073709551616 := by rw [← hN]; exact Nat.lt_of_le_of_lt (Nat.div_le_self _ _) hv
      have EN : Hid (v / 2 ^ (8 * i) = N) := hN
      rw [hN]
      have HO : Hid (Own wr w.heap.size (.slice a n c) (be i v) ∧ Below w.heap.size w wr) := ⟨ho, hb⟩
      have HI : Hid (i < s ∧ s ≤ 8) := ⟨hlt, hs⟩
      clear ho hb hN
      go_wp2_with (at_builtin; (refine wpList_app rfl _ _ rfl (by rfl) (by rfl) (own_new wr [((N % 256 : Nat) : Int)] wr.heap.size w.heap.size _ (by simp) rfl HO.out.2.size (by simp)) (HO.out.1.src.below ((Below.refl _ _).alloc (Nat.le_refl _) _)) (by have := HI.out; simp [be_len]; omega) (by have := HO.out.2.size; simp; omega) ?_))
      intro v' w' o' g' _
      obtain ⟨a', n', c', rfl⟩ := src_form o'.src
      have HO' : Hid (Own w' w.heap.size (.slice a' n' c') (be (i + 1) v) ∧ Below w.heap.size w w') := by
        refine ⟨?_, ?_⟩
        · rw [be_cons, EN.out]
          simpa using o'
        · have h1 : Below w.heap.size w (wr.alloc (.cells #[.int .u8 ((N : Int) % 256)] 5)) := HO.out.2.alloc HO.out.2.size _
          refine h1.trans ((Below.refl w.heap.size _).grown g' h1.size fun k hk => ?_)
          cases hk
          exact HO.out.2.size
      have EN' : Hid (v / 2 ^ (8 * (i + 1)) = N / 256) := by
        show _ = _
        rw [show 8 * (i + 1) = 8 * i + 8 by omega, Nat.pow_add, ← Nat.div_div_eq_div_mul, EN.out]
      clear o' g'
      go_wp2
      go_roundw
      case rel =>
        refine ⟨i + 1, a', n', c', by omega, ?_, rfl, by congr 1, HO'.out.1, HO'.out.2⟩
        rw [EN'.out]
        congr 1
      case measure => simp [intOf]; omega
    · have : i = s := by omega
      subst this
      have HO : Hid (Own wr w.heap.size (.slice a n c) (be i v) ∧ Below w.heap.size w wr) := ⟨ho, hb⟩
      clear ho hb
      go_wp2
      go_ret
      exact ⟨_, rfl, HO.out.1, HO.out.2⟩

set_option maxHeartbeats 1000000 in
theorem get_ref (a : Option Addr) (n c : Nat) (l : List Int) (w : World) (h : Src w (.slice a n c) l) (hb : ∀ x ∈ l, 0 ≤ x ∧ x ≤ 255) (h0 : 0 < l.length) (hl : l.length ≤ 8) :
    Calls Tryd.prog 34 #[.slice a n c] w fun r w' => r = .returned (.int .u64 (nu l : Nat)) ∧ w' = w := by
  obtain ⟨hn, hc, hm⟩ := src_short h
  obtain ⟨b, o, rfl, hbl, hj⟩ := src_some h h0
  have HB : Hid (∀ x ∈ l, 0 ≤ x ∧ x ≤ 255) := hb
  have HN : Hid (n = l.length) := hn
  have hn8 : n ≤ 8 := by omega
  clear h hb hn
  unfold maxLen at hm
  go_enter Tryd.func34, Tryd.ntmps34
  go_wp2
  go_loopw [3, 4] (fun v3 v4 wr => ∃ i : Nat, i ≤ n ∧ v3 = .int .u64 (nu (sub l 0 i) : Nat) ∧ v4 = .int .i64 (i : Nat) ∧ wr = w) (fun _ v4 _ => n - (intOf v4).toNat)
  case atStart => exact ⟨0, by omega, rfl, rfl, rfl⟩
  case round =>
    obtain ⟨i, hi, rfl, rfl, hw⟩ := hrel
    subst hw
    by_cases hlt : i < n
    · have p1 : (i : Int) < (n : Int) := by omega
      have hx := hj i (by have := HN.out; omega)
      have hy := HB.out (l.getD i 0) (by rw [List.getD_eq_getElem?_getD, List.getElem?_eq_getElem (by have := HN.out; omega)]; exact List.getElem_mem _)
      have hN := nu_ok (sub_ok HB.out 0 i) 7 (Nat.le_trans (sub_le _ _ _) (by omega))
      have hsx : Hid (nu (sub l 0 (i + 1)) = nu (sub l 0 i) * 256 + (l.getD i 0).toNat) := by
        show _ = _
        have := sub_succ (l := l) (k := 0) (i := i) (by have := HN.out; omega)
        rw [Nat.zero_add] at this
        rw [this, nu_snoc]
      obtain ⟨y, hyy⟩ : ∃ y, l.getD i 0 = y := ⟨_, rfl⟩
      obtain ⟨N, hNN⟩ : ∃ N, nu (sub l 0 i) = N := ⟨_, rfl⟩
      rw [hyy] at hx hy hsx
      rw [hNN] at hN hsx ⊢
      clear hj hyy hNN
      go_wp2
      go_roundw
      case rel =>
        refine ⟨i + 1, by omega, ?_, by congr 1, by first | trivial | rfl⟩
        rw [hsx.out]
        congr 1
        omega
      case measure => simp [intOf]; omega
    · have : i = n := by omega
      subst this
      have HE : Hid (nu (sub l 0 i) = nu l) := by
        show _ = _
        unfold sub
        rw [List.drop_zero, List.take_of_length_le (by have := HN.out; omega)]
      clear hj
      go_wp2
      go_ret
      exact ⟨ret_int (by rw [HE.out]), by first | trivial | rfl⟩
end Go.Proofs.YtfpoopllkmnagaaDoor
