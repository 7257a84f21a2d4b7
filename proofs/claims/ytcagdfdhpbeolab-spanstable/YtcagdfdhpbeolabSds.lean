/-
  What an edge by itself may be, both its sides: the walks of within, sides, wrong, Check's closure, and of the look through all edges, each for every input.
-/
import Derived.Test.YtcagdfdhpbeolabKnd
namespace Go.Proofs.Ytcagdfdhpbeolab
set_option linter.unusedVariables false
set_option maxRecDepth 4000
set_option linter.unusedSimpArgs false
open Go.RowKit

set_option maxHeartbeats 400000 in
theorem within_any (n l m : Int) (w : World) :
    Calls Try.prog 20 #[.int .i64 n, .int .i64 l, .int .i64 m] w fun r w' => r = .returned (.bool (decide (l ≤ n ∧ n ≤ m))) ∧ Below w.heap.size w w' := by
  by_cases h : l ≤ n
  all_goals
    go_enter Try.func20, Try.ntmps20
    go_wp2
    go_ret
    refine ⟨ret_bool ?_, by go_grown⟩
    first | (simp [h]; done) | (simp [h]; omega)
set_option maxHeartbeats 1000000 in
theorem sides_any (x : Eg) (w : World) :
    Calls Try.prog 15 #[.agg x.cs] w fun r w' => r = .returned (.agg (both x)) ∧ Below w.heap.size w w' := by
  obtain ⟨a, pa, b, pb, ca, cb⟩ := x
  show Calls Try.prog 15 #[.agg #[.int .i64 a, .int .i64 pa, .int .i64 b, .int .i64 pb, .int .u32 ca, .int .u32 cb]] w fun r w' => r = .returned (.agg #[.int .i64 a, .int .i64 pa, .int .i64 b, .int .i64 pb, .int .u32 ca, .int .u32 cb, .int .i64 b, .int .i64 pb, .int .i64 a, .int .i64 pa, .int .u32 cb, .int .u32 ca]) ∧ _
  go_enter Try.func15, Try.ntmps15
  go_wp2
  go_returns
  exact ⟨rfl, by go_grown⟩
attribute [local go_sem ↓] ldE stE
/-- May a side not be, among that many bridges? -/
def badE (n : Int) (x : Eg) : Bool := !decide (0 ≤ x.a ∧ x.a ≤ n - 1) || !decide (0 ≤ x.pa ∧ x.pa ≤ 7) || decide (x.ca < 1) || decide (x.ca > 200000000)
def wrongE (n : Int) (x : Eg) : Bool := badE n x || badE n x.turn || decide (x.a = x.b)
theorem within_is {n l m : Int} {b : Bool} (h : decide (l ≤ n ∧ n ≤ m) = b) (w : World) :
    Calls Try.prog 20 #[.int .i64 n, .int .i64 l, .int .i64 m] w fun r w' => r = .returned (.bool b) ∧ Below w.heap.size w w' := by
  have := within_any n l m w
  rwa [h] at this
/-- An edge's variable. -/
def EvAt (W : World) (b : Nat) (x : Eg) : Prop := RvAt W b 56 x.cs
theorem EvAt.below {W W' : World} {b : Nat} {x : Eg} (h : EvAt W b x) (hb : Below W.heap.size W W') : EvAt W' b x := RvAt.below h hb
theorem EvAt.lt {W : World} {b : Nat} {x : Eg} (h : EvAt W b x) : b < W.heap.size := RvAt.lt h
theorem EvAt.ld {W : World} {b : Nat} {x : Eg} (h : EvAt W b x) : (ldS 56 (.pointer (some ⟨b, 0, none⟩))).run Try.prog W = .ok (.agg x.cs) W := RvAt.ld rtE h rfl
theorem EvAt.c0 {W : World} {b : Nat} {x : Eg} (h : EvAt W b x) : W.cell? ⟨b, 0, none⟩ = some (.int .i64 x.a) := RvAt.cell h 0 _ rfl
theorem EvAt.c1 {W : World} {b : Nat} {x : Eg} (h : EvAt W b x) : W.cell? ⟨b, 1, none⟩ = some (.int .i64 x.pa) := RvAt.cell h 1 _ rfl
theorem EvAt.c2 {W : World} {b : Nat} {x : Eg} (h : EvAt W b x) : W.cell? ⟨b, 2, none⟩ = some (.int .i64 x.b) := RvAt.cell h 2 _ rfl
theorem EvAt.c3 {W : World} {b : Nat} {x : Eg} (h : EvAt W b x) : W.cell? ⟨b, 3, none⟩ = some (.int .i64 x.pb) := RvAt.cell h 3 _ rfl
theorem EvAt.c4 {W : World} {b : Nat} {x : Eg} (h : EvAt W b x) : W.cell? ⟨b, 4, none⟩ = some (.int .u32 x.ca) := RvAt.cell h 4 _ rfl
theorem EvAt.c5 {W : World} {b : Nat} {x : Eg} (h : EvAt W b x) : W.cell? ⟨b, 5, none⟩ = some (.int .u32 x.cb) := RvAt.cell h 5 _ rfl
theorem EvAt.new (W : World) (x : Eg) : ∃ V, W.alloc (.cells x.cs 56) = V ∧ EvAt V W.heap.size x ∧ Below W.heap.size W V ∧ V.heap.size = W.heap.size + 1 := ⟨_, rfl, RvAt.new W _ _, (Below.refl _ _).alloc (Nat.le_refl _) _, by simp⟩
def zE : Array Value := #[.int .i64 0, .int .i64 0, .int .i64 0, .int .i64 0, .int .u32 0, .int .u32 0]
theorem EvAt.put (W : World) (x : Eg) : ∃ V, (stS 56 (.pointer (some ⟨W.heap.size, 0, none⟩)) (.agg x.cs)).run Try.prog (W.alloc (.cells #[.int .i64 0, .int .i64 0, .int .i64 0, .int .i64 0, .int .u32 0, .int .u32 0] 56)) = .ok () V ∧ EvAt V W.heap.size x ∧ Below W.heap.size W V := by
  obtain ⟨V, h1, h2, h3, _⟩ := row_new rtE W #[.int .i64 0, .int .i64 0, .int .i64 0, .int .i64 0, .int .u32 0, .int .u32 0] x.cs rfl rfl (one_of rfl)
  exact ⟨V, h1, h2, h3⟩
set_option maxHeartbeats 2000000 in
theorem wrong_any (x : Eg) (n : Int) (w : World) (hn : 0 ≤ n ∧ n ≤ 100) :
    Calls Try.prog 24 #[.agg x.cs, .int .i64 n] w fun r w' => r = .returned (.bool (wrongE n x)) ∧ Below w.heap.size w w' := by
  obtain ⟨W, hW, r0, bW, zW⟩ := EvAt.new w x
  have l0 := r0.ld
  have H : Hid (EvAt W w.heap.size x ∧ Below w.heap.size w W) := ⟨r0, bW⟩
  have hn1 : -9223372036854775808 ≤ n - 1 ∧ n - 1 ≤ 9223372036854775807 := by omega
  clear r0 bW zW
  go_enter Try.func24, Try.ntmps24
  go_wp2_with fail
  refine (sides_any x W).mono ?_
  rintro _ W1 ⟨rfl, b1⟩
  have H1 : Hid (EvAt W1 w.heap.size x ∧ Below w.heap.size w W1) := ⟨H.out.1.below b1, below_over H.out.2 b1⟩
  clear l0 b1 H hW
  go_wp2_with fail
  go_loopw [9] (fun v9 wr => ∃ j : Nat, j ≤ 2 ∧ v9 = .int .i64 j ∧ (∀ i, i < j → badE n (sdE x i) = false) ∧ EvAt wr w.heap.size x ∧ Below w.heap.size w wr) (fun v9 _ => 2 - (intOf v9).toNat)
  case atStart => exact ⟨0, by omega, rfl, fun i hi => by omega, H1.out.1, H1.out.2⟩
  case round =>
    obtain ⟨j, hj, rfl, hlow, hE, hB⟩ := hrel
    have J : Hid ((∀ i, i < j → badE n (sdE x i) = false) ∧ EvAt wr w.heap.size x ∧ Below w.heap.size w wr) := ⟨hlow, hE, hB⟩
    have hj0 : (0 : Int) ≤ (j : Int) := by omega
    by_cases hj2 : j < 2
    · have hj1 : (j : Int) < 2 := by omega
      have ix := ixB x j hj2
      obtain ⟨y, hy⟩ : ∃ y, sdE x j = y := ⟨_, rfl⟩
      rw [hy] at ix
      obtain ⟨V, sV, eV, bV⟩ := EvAt.put wr y
      have R : Hid (EvAt V wr.heap.size y ∧ EvAt V w.heap.size x ∧ Below w.heap.size w V) := ⟨eV, hE.below bV, below_over hB bV⟩
      have HY : Hid (sdE x j = y) := hy
      have NX : badE n y = false → ∀ i, i < j + 1 → badE n (sdE x i) = false := fun e i hi => by
        by_cases hij : i = j
        · rw [hij, hy]; exact e
        · exact hlow i (by omega)
      have YS : Hid (badE n y = true → wrongE n x = true) := fun e => by
        unfold wrongE
        match j, hj2, hy with
        | 0, _, hy => rw [show x = y from hy, e]; rfl
        | 1, _, hy => rw [show x.turn = y from hy, e]; simp
      clear hlow hE hB eV bV hy
      cases p1 : decide (0 ≤ y.a ∧ y.a ≤ n - 1)
      · have P1 : Hid (∀ w : World, _) := within_is p1
        have E : Hid (wrongE n x = true) := YS.out (by unfold badE; rw [p1]; rfl)
        clear NX YS
        have c0 := R.out.1.c0
        go_wp2_with fail
        refine (P1.out _).mono ?_
        rintro _ V1 ⟨rfl, b1⟩
        go_wp2
        go_ret
        exact ⟨by rw [E.out]; rfl, below_over R.out.2.2 b1⟩
      · have P1 : Hid (∀ w : World, _) := within_is p1
        have c0 := R.out.1.c0
        cases p2 : decide (0 ≤ y.pa ∧ y.pa ≤ 7)
        · have P2 : Hid (∀ w : World, _) := within_is p2
          have E : Hid (wrongE n x = true) := YS.out (by unfold badE; rw [p1, p2]; rfl)
          clear NX YS
          go_wp2_with fail
          refine (P1.out _).mono ?_
          rintro _ V1 ⟨rfl, b1⟩
          have c1 := (R.out.1.below b1).c1
          have B1 : Hid (Below V.heap.size V V1) := b1
          clear b1
          go_wp2_with fail
          refine (P2.out _).mono ?_
          rintro _ V2 ⟨rfl, b2⟩
          go_wp2
          go_ret
          exact ⟨by rw [E.out]; rfl, below_over R.out.2.2 (below_over B1.out b2)⟩
        · have P2 : Hid (∀ w : World, _) := within_is p2
          have EB : Hid (badE n y = (decide (y.ca < 1) || decide (y.ca > 200000000))) := by unfold badE; rw [p1, p2]; rfl
          by_cases h3 : y.ca < 1
          · have E : Hid (wrongE n x = true) := YS.out (by rw [EB.out]; simp [h3])
            clear NX YS
            go_wp2_with fail
            refine (P1.out _).mono ?_
            rintro _ V1 ⟨rfl, b1⟩
            have c1 := (R.out.1.below b1).c1
            have B1 : Hid (Below V.heap.size V V1) := b1
            clear b1
            go_wp2_with fail
            refine (P2.out _).mono ?_
            rintro _ V2 ⟨rfl, b2⟩
            have B2 : Hid (Below V.heap.size V V2) := below_over B1.out b2
            have c4 := (R.out.1.below B2.out).c4
            clear b2
            go_wp2
            go_ret
            exact ⟨by rw [E.out]; rfl, below_over R.out.2.2 B2.out⟩
          · by_cases h4 : y.ca > 200000000
            · have E : Hid (wrongE n x = true) := YS.out (by rw [EB.out]; simp [h4])
              clear NX YS
              go_wp2_with fail
              refine (P1.out _).mono ?_
              rintro _ V1 ⟨rfl, b1⟩
              have c1 := (R.out.1.below b1).c1
              have B1 : Hid (Below V.heap.size V V1) := b1
              clear b1
              go_wp2_with fail
              refine (P2.out _).mono ?_
              rintro _ V2 ⟨rfl, b2⟩
              have B2 : Hid (Below V.heap.size V V2) := below_over B1.out b2
              have c4 := (R.out.1.below B2.out).c4
              clear b2
              go_wp2
              go_ret
              exact ⟨by rw [E.out]; rfl, below_over R.out.2.2 B2.out⟩
            · have NX2 : Hid (∀ i, i < j + 1 → badE n (sdE x i) = false) := NX (by rw [EB.out]; simp [h3, h4])
              clear NX YS
              go_wp2_with fail
              refine (P1.out _).mono ?_
              rintro _ V1 ⟨rfl, b1⟩
              have c1 := (R.out.1.below b1).c1
              have B1 : Hid (Below V.heap.size V V1) := b1
              clear b1
              go_wp2_with fail
              refine (P2.out _).mono ?_
              rintro _ V2 ⟨rfl, b2⟩
              have B2 : Hid (Below V.heap.size V V2) := below_over B1.out b2
              have c4 := (R.out.1.below B2.out).c4
              clear b2
              go_wp2
              go_roundw
              case rel => exact ⟨j + 1, by omega, by go_num, NX2.out, R.out.2.1.below B2.out, below_over R.out.2.2 B2.out⟩
              case measure => simp [intOf]; omega
    · have hjj : j = 2 := by omega
      subst hjj
      have c0 := hE.c0
      have c2 := hE.c2
      have E : Hid (wrongE n x = decide (x.a = x.b)) := by
        have h0 := hlow 0 (by omega)
        have h1 := hlow 1 (by omega)
        have h0' : badE n x = false := h0
        have h1' : badE n x.turn = false := h1
        unfold wrongE
        rw [h0', h1']
        rfl
      clear hlow hE hB
      go_wp2
      go_ret
      exact ⟨by rw [E.out]; rfl, J.out.2.2⟩
end Go.Proofs.Ytcagdfdhpbeolab
