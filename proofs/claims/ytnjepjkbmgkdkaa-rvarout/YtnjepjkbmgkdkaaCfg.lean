/-
  Which settings may be: Check and the definition's IsConf: their walks, for all settings.
-/
import Derived.Test.YtnjepjkbmgkdkaaCst
import Derived.Test.YtnjepjkbmgkdkaaTrees
namespace Go.Proofs.Ytnjepjkbmgkdkaa
set_option linter.unusedVariables false
set_option maxRecDepth 4000
set_option linter.unusedSimpArgs false
open Go.RowKit

/-- Settings' cells. -/
def cfc (c : Cf) (x : Value) : Array Value := (c.cl ++ [x]).toArray
theorem cfc_size (c : Cf) (x : Value) : (cfc c x).size = 7 := by simp [cfc, c.len, lenC]
theorem cfc_get {c : Cf} {x v : Value} {j : Nat} (hv : c.cl[j]? = some v) : (cfc c x)[j]? = some v := by
  have := (List.getElem?_eq_some_iff.1 hv).1
  simp only [cfc, List.getElem?_toArray]
  rw [List.getElem?_append_left this]
  exact hv
theorem cfc_6 (c : Cf) (x : Value) : (cfc c x)[6]? = some x := by
  have := c.len
  rw [lenC] at this
  simp only [cfc, List.getElem?_toArray]
  rw [List.getElem?_append_right (by omega), this]
  rfl
theorem cfc_set (c : Cf) (x y : Value) : ((cfc c x).toList.set 6 y).toArray = cfc c y := by
  have := c.len
  rw [lenC] at this
  simp only [cfc]
  rw [List.set_append_right _ _ (by omega), this]
  rfl
theorem cfc_one {c : Cf} {x : Value} (hx : x.oneCell' = true) : ∀ v ∈ (cfc c x).toList, v.oneCell' = true := by
  intro v hv
  simp only [cfc, List.mem_append, List.mem_singleton] at hv
  rcases hv with hv | rfl
  · exact c.one v hv
  · exact hx
theorem RvAt.cld {W : World} {b : Nat} {c : Cf} {x : Value} (hb : RvAt W b 27 (cfc c x)) : (ldS 27 (.pointer (some ⟨b, 0, none⟩))).run Try.prog W = .ok (.agg (cfc c x)) W := hb.ld rtC (cfc_size c x)
theorem RvAt.c6 {W : World} {b : Nat} {c : Cf} {x : Value} (hb : RvAt W b 27 (cfc c x)) : W.cell? ⟨b, 6, none⟩ = some x := hb.cell 6 _ (cfc_6 c x)
theorem RvAt.cnum {W : World} {b j : Nat} {k : IntKind} {c : Cf} {x : Value} (hb : RvAt W b 27 (cfc c x)) (hk : kdC[j]? = some (some k)) : W.cell? ⟨b, j, none⟩ = some (.int k (c.nm j)) := hb.cell j _ (cfc_get (c.num hk))
theorem RvAt.cT {W : World} {b : Nat} {c : Cf} {x : Value} (hb : RvAt W b 27 (cfc c x)) : (ldS 24 (.pointer (some ⟨b, 1, none⟩))).run Try.prog W = .ok (.agg #[.int .u8 (c.nm 1), .int .u8 (c.nm 2), .int .u8 (c.nm 3), .int .u8 (c.nm 4)]) W :=
  run_loadAt_mid W b 1 24 [.int .u8 (c.nm 1), .int .u8 (c.nm 2), .int .u8 (c.nm 3), .int .u8 (c.nm 4)] _ (fun j v hv => by
    match j, hv with
    | 0, hx => cases hx; exact hb.cnum rfl
    | 1, hx => cases hx; exact hb.cnum rfl
    | 2, hx => cases hx; exact hb.cnum rfl
    | 3, hx => cases hx; exact hb.cnum rfl
    | j + 4, hx => simp at hx) Try.underlying24 rfl infoTm
theorem one_c (w : World) (c : Cf) (x : Value) : ∃ W, w.alloc (.cells (cfc c x) 27) = W ∧ RvAt W w.heap.size 27 (cfc c x) ∧ Below w.heap.size w W ∧ W.heap.size = w.heap.size + 1 :=
  ⟨_, rfl, RvAt.new w _ _, (Below.refl _ _).alloc (Nat.le_refl _) _, by simp⟩
theorem Row.u64 {ks : List (Option IntKind)} (r : Row ks) {j : Nat} (h : ks[j]? = some (some .u64)) : 0 ≤ r.nm j ∧ r.nm j ≤ 18446744073709551615 := by
  have := r.nwf h
  simp [Lit.wf, IntKind.min, IntKind.max, IntKind.signed, IntKind.bits] at this
  omega
theorem Row.u8' {ks : List (Option IntKind)} (r : Row ks) {j : Nat} (h : ks[j]? = some (some .u8)) : 0 ≤ r.nm j ∧ r.nm j ≤ 255 := by
  have := r.nwf h
  simp [Lit.wf, IntKind.min, IntKind.max, IntKind.signed, IntKind.bits] at this
  omega
/-- May these settings be? -/
abbrev Okc (i t0 t1 t2 t3 u : Int) (l : List Int) : Prop := i % 281474976710656 ≠ 0 ∧ chkT t1 t2 t3 = 0 ∧ t0 = 0 ∧ 1 ≤ u ∧ u ≤ 10 ∧ 1 ≤ l.length ∧ l.length ≤ 8 ∧ l.any badC = false
def okC (c : Cf) (l : List Int) : Bool := decide (Okc (c.nm 0) (c.nm 1) (c.nm 2) (c.nm 3) (c.nm 4) (c.nm 5) l)
/-- The error's number. -/
def erC (b : Bool) : Int := match b with | true => 0 | false => 90
theorem chk01 (x h d : Int) : chkT x h d = 0 ∨ chkT x h d = 60 := by
  unfold chkT
  split
  · exact Or.inl rfl
  · exact Or.inr rfl
theorem ad0 (n : Int) (hn : 0 ≤ n ∧ n ≤ 18446744073709551615) : eq6 (n / 1099511627776 % 256) (n / 4294967296 % 256) (n / 16777216 % 256) (n / 65536 % 256) (n / 256 % 256) (n % 256) 0 0 0 0 0 0 = decide (n % 281474976710656 = 0) := by
  unfold eq6
  rw [decide_eq_decide]
  constructor
  · rintro ⟨h1, h2, h3, h4, h5, h6⟩
    omega
  · intro h
    refine ⟨?_, ?_, ?_, ?_, ?_, ?_⟩ <;> omega
attribute [local go_sem ↓] ldT stT ldC stC ldTm
set_option maxHeartbeats 4000000 in
theorem checkc_any (c : Cf) (a : Option Addr) (n k : Nat) (l : List Int) (w : World) (hs : CsAt w a n k l) (hn : n ≤ 1000) :
    Calls Try.prog 10 #[.agg (cfc c (.slice a n k))] w fun r w' => r = .returned (.int .i64 (erC (okC c l))) ∧ Below w.heap.size w w' := by
  obtain ⟨W, hW, r0, bW, zW⟩ := one_c w c (.slice a n k)
  have H : Hid (CsAt W a n k l ∧ n ≤ 1000 ∧ l.length = n ∧ RvAt W w.heap.size 27 (cfc c (.slice a n k)) ∧ Below w.heap.size w W) := ⟨hs.below bW, hn, hs.len, r0, bW⟩
  have B : Hid ((0 ≤ c.nm 0 ∧ c.nm 0 ≤ 18446744073709551615) ∧ (0 ≤ c.nm 2 ∧ c.nm 2 ≤ 255) ∧ (0 ≤ c.nm 3 ∧ c.nm 3 ≤ 255) ∧ (0 ≤ c.nm 4 ∧ c.nm 4 ≤ 255) ∧ (0 ≤ c.nm 5 ∧ c.nm 5 ≤ 255)) := ⟨c.u64 rfl, c.u8' rfl, c.u8' rfl, c.u8' rfl, c.u8' rfl⟩
  have c0 := r0.cnum (j := 0) rfl
  have hnn : (n : Int) ≤ 1000 := by omega
  have E : Hid (okC c l = decide (Okc (c.nm 0) (c.nm 1) (c.nm 2) (c.nm 3) (c.nm 4) (c.nm 5) l)) := rfl
  clear hs hn r0 bW zW
  go_enter Try.func10, Try.ntmps10
  go_wp2_with fail
  refine (address_any (c.nm 0) W B.out.1).mono ?_
  rintro _ W1 ⟨rfl, b1⟩
  have e0 := ad0 (c.nm 0) B.out.1
  clear c0
  have ct := (H.out.2.2.2.1.below b1).cT
  have B1 : Hid (Below W.heap.size W W1) := b1
  clear b1
  by_cases k0 : c.nm 0 % 281474976710656 = 0
  · have e1 : decide (c.nm 0 % 281474976710656 = 0) = true := by simp [k0]
    rw [e1] at e0
    have N : Hid (okC c l = false) := by rw [E.out, decide_eq_false_iff_not]; exact fun h => h.1 k0
    clear ct
    go_wp2
    go_ret
    exact ⟨by rw [N.out]; rfl, below_over H.out.2.2.2.2 B1.out⟩
  have e1 : decide (c.nm 0 % 281474976710656 = 0) = false := by simp [k0]
  rw [e1] at e0
  go_wp2_with fail
  refine (check_any (c.nm 1) (c.nm 2) (c.nm 3) (c.nm 4) W1 B.out.2.1 B.out.2.2.1 B.out.2.2.2.1).mono ?_
  rintro _ W2 ⟨rfl, b2⟩
  have B2 : Hid (Below W.heap.size W W2) := below_over B1.out b2
  have cA := (H.out.2.2.2.1.below B2.out).cnum (j := 1) rfl
  have cH := (H.out.2.2.2.1.below B2.out).cnum (j := 5) rfl
  clear b2 ct e0 e1
  rcases chk01 (c.nm 2) (c.nm 3) (c.nm 4) with k1 | k1
  rotate_left
  · rw [k1]
    have N : Hid (okC c l = false) := by rw [E.out, decide_eq_false_iff_not]; exact fun h => by have := h.2.1; omega
    clear cA cH
    go_wp2
    go_ret
    exact ⟨by rw [N.out]; rfl, below_over H.out.2.2.2.2 B2.out⟩
  rw [k1]
  have K1 : Hid (chkT (c.nm 2) (c.nm 3) (c.nm 4) = 0) := k1
  clear k1
  by_cases k2 : c.nm 1 = 0
  rotate_left
  · have N : Hid (okC c l = false) := by rw [E.out, decide_eq_false_iff_not]; exact fun h => k2 h.2.2.1
    have k2b : (c.nm 1 == 0) = false := by simpa using k2
    have k2n : (c.nm 1 != 0) = true := by simpa using k2
    clear cH
    go_wp2
    go_ret
    exact ⟨by rw [N.out]; rfl, below_over H.out.2.2.2.2 B2.out⟩
  rw [k2] at cA
  have hb5 := B.out.2.2.2.2
  have hw5 : IntKind.i64.wrap (c.nm 5) = c.nm 5 := IntWalk.i64_in _ (by omega)
  go_wp2_with fail
  refine (within_any (c.nm 5) 1 10 W2).mono ?_
  rintro _ W3 ⟨rfl, b3⟩
  have B3 : Hid (Below W.heap.size W W3) := below_over B2.out b3
  have c6 := (H.out.2.2.2.1.below B3.out).c6
  clear b3 cA cH
  by_cases k3 : 1 ≤ c.nm 5 ∧ c.nm 5 ≤ 10
  rotate_left
  · have eb : (decide (1 ≤ c.nm 5) && decide (c.nm 5 ≤ 10)) = false := by simp; omega
    rw [eb]
    have N : Hid (okC c l = false) := by rw [E.out, decide_eq_false_iff_not]; exact fun h => k3 ⟨h.2.2.2.1, h.2.2.2.2.1⟩
    clear eb c6
    go_wp2
    go_ret
    exact ⟨by rw [N.out]; rfl, below_over H.out.2.2.2.2 B3.out⟩
  have eb : (decide (1 ≤ c.nm 5) && decide (c.nm 5 ≤ 10)) = true := by simp; omega
  rw [eb]
  clear eb
  go_wp2_with fail
  refine (within_any n 1 8 W3).mono ?_
  rintro _ W4 ⟨rfl, b4⟩
  have B4 : Hid (Below W.heap.size W W4) := below_over B3.out b4
  clear b4 c6
  have c6 := (H.out.2.2.2.1.below B4.out).c6
  by_cases k4 : 1 ≤ n ∧ n ≤ 8
  rotate_left
  · have eb : (decide ((1 : Int) ≤ n) && decide ((n : Int) ≤ 8)) = false := by simp; omega
    rw [eb]
    have N : Hid (okC c l = false) := by rw [E.out, decide_eq_false_iff_not]; exact fun h => k4 (by have := h.2.2.2.2.2.1; have := h.2.2.2.2.2.2.1; have := H.out.2.2.1; omega)
    clear eb c6
    go_wp2
    go_ret
    exact ⟨by rw [N.out]; rfl, below_over H.out.2.2.2.2 B4.out⟩
  have eb : (decide ((1 : Int) ≤ n) && decide ((n : Int) ≤ 8)) = true := by simp; omega
  rw [eb]
  clear eb
  go_wp2_with fail
  refine (contains_any a n k l W4 (H.out.1.below B4.out) H.out.2.1).mono ?_
  rintro _ W5 ⟨rfl, b5⟩
  have B5 : Hid (Below W.heap.size W W5) := below_over B4.out b5
  clear b5 c6
  cases k5 : l.any badC
  · have N : Hid (okC c l = true) := by rw [E.out, decide_eq_true_iff]; exact ⟨k0, K1.out, k2, k3.1, k3.2, by have := H.out.2.2.1; omega, by have := H.out.2.2.1; omega, k5⟩
    go_wp2
    go_ret
    exact ⟨by rw [N.out]; rfl, below_over H.out.2.2.2.2 B5.out⟩
  · have N : Hid (okC c l = false) := by rw [E.out, decide_eq_false_iff_not]; exact fun h => by have := h.2.2.2.2.2.2.2; rw [k5] at this; cases this
    go_wp2
    go_ret
    exact ⟨by rw [N.out]; rfl, below_over H.out.2.2.2.2 B5.out⟩
end Go.Proofs.Ytnjepjkbmgkdkaa
