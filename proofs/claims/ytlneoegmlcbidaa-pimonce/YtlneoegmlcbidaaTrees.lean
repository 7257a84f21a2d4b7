/-
  SyncAll, ReRootAll and Up, and the definition's: their walks, for every tree.
-/
import Derived.Test.YtlneoegmlcbidaaEach
namespace Go.Proofs.Ytlneoegmlcbidaa
set_option linter.unusedVariables false
set_option maxRecDepth 4000
set_option linter.unusedSimpArgs false
open Go.RowKit

attribute [local go_sem ↓] ldP stP ldT stT apE st32 st4
theorem one_t (w : World) (h : Hd) (x : Value) : ∃ W, w.alloc (.cells (trc h x) 31) = W ∧ RvAt W w.heap.size 31 (trc h x) ∧ Below w.heap.size w W ∧ W.heap.size = w.heap.size + 1 :=
  ⟨_, rfl, RvAt.new w _ _, (Below.refl _ _).alloc (Nat.le_refl _) _, by simp⟩
theorem has_any (h : Hd) (a : Option Addr) (n c : Nat) (i : Int) (w : World) (hn : n ≤ 1000) :
    Calls Try.prog 14 #[.agg (trc h (.slice a n c)), .int .i64 i] w fun r w' => r = .returned (.bool (decide (0 ≤ i) && decide (i < n))) ∧ Below w.heap.size w w' := by
  obtain ⟨W, hW, r0, bW, zW⟩ := one_t w h (.slice a n c)
  have c16 := r0.t16
  have F : Hid (Below w.heap.size w W) := bW
  clear r0 bW zW
  go_enter Try.func14, Try.ntmps14
  by_cases h1 : 0 ≤ i
  · by_cases h2 : i < (n : Int)
    · go_wp2
      go_ret
      exact ⟨by simp [h1, h2], F.out⟩
    · go_wp2
      go_ret
      exact ⟨by simp [h1, h2], F.out⟩
  · go_wp2
    go_ret
    exact ⟨by simp; omega, F.out⟩
/-- The ports, where one of them is up, or not. -/
def upL (l : List Pt) (i : Int) (b : Bool) : List Pt := if 0 ≤ i ∧ i < l.length then l.set i.toNat (upP b (gtP l i.toNat)) else l
set_option maxHeartbeats 4000000 in
theorem rup_any (h : Hd) (a : Option Addr) (n c : Nat) (l : List Pt) (i : Int) (b : Bool) (w : World) (hs : SlAt w a n c l) (hn : n ≤ 1000) :
    Calls Try.prog 17 #[.agg (trc h (.slice a n c)), .int .i64 i, .bool b] w fun r w' => ∃ v, r = .returned (.agg (trc h v)) ∧ Own w' w.heap.size v (upL l i b) ∧ Below w.heap.size w w' := by
  obtain ⟨W, hW, r0, r1, bW, zW⟩ := two_t w h (.slice a n c)
  have l0 := r0.tld
  have H : Hid (SlAt W a n c l ∧ n ≤ 1000 ∧ l.length = n ∧ RvAt W w.heap.size 31 (trc h (.slice a n c)) ∧ RvAt W (w.heap.size + 1) 31 (trc zeroH (.slice none 0 0)) ∧ Below w.heap.size w W ∧ W.heap.size = w.heap.size + 2) := ⟨hs.below bW, hn, hs.len, r0, r1, bW, zW⟩
  clear hs hn r0 r1 bW zW
  go_enter Try.func17, Try.ntmps17
  go_wp2_with fail
  refine (rcopy_any h a n c l W H.out.1 H.out.2.1).mono ?_
  rintro _ W2 ⟨v, rfl, o2, b2⟩
  obtain ⟨W3, s3, r3, g3⟩ := (H.out.2.2.2.1.below b2).tst (g := h) (y := v) o2.one
  have z2 := H.out.2.2.2.2.2.2
  have o3 := o2.keptBut g3 (o2.apart (by omega))
  have q3 := (H.out.2.2.2.2.1.below b2).keptBut g3 (by simp)
  have b3 : Below w.heap.size w W3 := gro (below_over H.out.2.2.2.2.2.1 b2) g3 (Nat.le_refl _) (by have := b2.size; omega)
  clear b2 g3 l0
  have q3' := q3
  obtain ⟨av, cv, hv, sv, _⟩ := o3.form
  obtain ⟨X, hX⟩ : ∃ X, X = l.length := ⟨_, rfl⟩
  rw [← hX] at hv
  have hx0 : X ≤ 1000 := by have := H.out.2.1; have := H.out.2.2.1; omega
  have c16 := r3.t16
  rw [hv] at c16
  have l3 := r3.tld
  rw [hv] at l3
  have G : Hid (RvAt W3 w.heap.size 31 (trc h v) ∧ RvAt W3 (w.heap.size + 1) 31 (trc zeroH (.slice none 0 0)) ∧ Below w.heap.size w W3 ∧ Own W3 (w.heap.size + 2) v l ∧ X = l.length ∧ v = .slice av X cv) := ⟨r3, q3, b3, o3.base (by omega), hX, hv⟩
  have hw1 : IntKind.i64.wrap ((X : Int) - 1) = (X : Int) - 1 := IntWalk.i64_in _ (by omega)
  clear r3 q3 q3' b3 o2 o3 z2 sv hX hv
  go_wp2_with fail
  refine (has_any h av X cv i W3 hx0).mono ?_
  rintro _ W4 ⟨rfl, b4⟩
  by_cases hi : 0 ≤ i ∧ i < (X : Int)
  · have eb : (decide (0 ≤ i) && decide (i < (X : Int))) = true := by simp; omega
    rw [eb]
    clear l3 c16
    have o4 := G.out.2.2.2.1.below b4
    have r4 := G.out.1.below b4
    have q4 := G.out.2.1.below b4
    have b4' := below_over G.out.2.2.1 b4
    obtain ⟨k, hk⟩ : ∃ k : Nat, i = (k : Int) := ⟨i.toNat, by omega⟩
    subst hk
    have hkX : k < X := by omega
    have hin0 : (0 : Int) ≤ (k : Int) := by omega
    have hin1 : (k : Int) < (X : Int) := by omega
    have hXl := G.out.2.2.2.2.1
    rcases o4.pat with ⟨hv, hl⟩ | ⟨g, cc, hv, hg, hp⟩
    · rw [hl] at hXl; simp at hXl; omega
    · have c16 := r4.t16
      rw [hv, ← hXl] at c16
      obtain ⟨V, sV, pV, gV⟩ := hp.st1 (q := k * 77 + 2) (j := 2) (v := .bool b) (gtP_at (i := k) (by omega)) info1.1 (by omega) rfl (fit_bit rfl) rfl
      have r5 := r4.keptBut gV (by simp; omega)
      have q5 := q4.keptBut gV (by simp; omega)
      have l5 := r5.tld
      obtain ⟨W6, s6, r6, g6⟩ := q5.tst (g := h) (y := v) (by rw [hv]; rfl)
      have p6 := pV.keptBut g6 (by simp; omega)
      have b6 : Below w.heap.size w W6 := gro (gro b4' gV (by omega) b4'.size) g6 (by omega) (by have := b4'.size; have := gV.size; omega)
      have eu : l.set k ((gtP l k).set 2 (.bool b) (fit_bit rfl)) = upL l (k : Int) b := by
        unfold upL
        rw [if_pos ⟨hin0, by omega⟩]
        rfl
      have ov : Own W6 w.heap.size v (upL l (k : Int) b) := by
        have := p6.own (B := w.heap.size) (by omega)
        rw [eu, ← eu, List.length_set, eu, ← hv] at this
        exact this
      have F : Hid (RvAt W6 (w.heap.size + 1) 31 (trc h v) ∧ Own W6 w.heap.size v (upL l (k : Int) b) ∧ Below w.heap.size w W6) := ⟨r6, ov, b6⟩
      clear hp pV gV r5 q5 r6 g6 p6 b6 eu ov r4 q4 o4 b4' hg b4 eb hv hXl
      go_wp2
      refine bodyPost_ret (results_row rtT Try.results17 _ _ _ _ rfl F.out.1 (trc_size _ _)) rfl ?_
      exact ⟨v, rfl, F.out.2.1, F.out.2.2⟩
  · have eb : (decide (0 ≤ i) && decide (i < (X : Int))) = false := by simp; omega
    rw [eb]
    clear l3 c16
    have o4 := G.out.2.2.2.1.below b4
    have r4 := G.out.1.below b4
    have q4 := G.out.2.1.below b4
    have b4' := below_over G.out.2.2.1 b4
    have l5 := r4.tld
    obtain ⟨W6, s6, r6, g6⟩ := q4.tst (g := h) (y := v) o4.one
    have o6 := o4.keptBut g6 (o4.apart (by omega))
    have eu : upL l i b = l := by
      unfold upL
      rw [if_neg (by have := G.out.2.2.2.2.1; omega)]
    have F : Hid (RvAt W6 (w.heap.size + 1) 31 (trc h v) ∧ Own W6 w.heap.size v (upL l i b) ∧ Below w.heap.size w W6) := ⟨r6, by rw [eu]; exact o6.base (by omega), gro b4' g6 (by omega) b4'.size⟩
    clear o4 r4 q4 b4' r6 g6 o6 eu b4 eb hi
    go_wp2
    refine bodyPost_ret (results_row rtT Try.results17 _ _ _ _ rfl F.out.1 (trc_size _ _)) rfl ?_
    exact ⟨v, rfl, F.out.2.1, F.out.2.2⟩
end Go.Proofs.Ytlneoegmlcbidaa
