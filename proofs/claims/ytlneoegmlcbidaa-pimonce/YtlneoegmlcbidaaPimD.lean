/-
  Trees one of whose ports is another: the walks of there, the library's Clone, replaced and the definition's With, each for every tree.
-/
import Derived.Test.YtlneoegmlcbidaaTrees
import Derived.Test.YtlneoegmlcbidaaPim
namespace Go.Proofs.Ytlneoegmlcbidaa
set_option linter.unusedVariables false
set_option maxRecDepth 4000
set_option linter.unusedSimpArgs false
open Go.RowKit

attribute [local go_sem ↓] ldP stP ldT stT apE st32
theorem there_any (h : Hd) (a : Option Addr) (n c : Nat) (i : Int) (w : World) (hn : n ≤ 1000) :
    Calls Try.prog 18 #[.agg (trc h (.slice a n c)), .int .i64 i] w fun r w' => r = .returned (.bool (decide (0 ≤ i) && decide (i < n))) ∧ Below w.heap.size w w' := by
  obtain ⟨W, hW, r0, bW, zW⟩ := one_t w h (.slice a n c)
  have c16 := r0.t16
  have F : Hid (Below w.heap.size w W) := bW
  clear r0 bW zW
  go_enter Try.func18, Try.ntmps18
  by_cases h1 : 0 ≤ i
  · by_cases h2 : i < (n : Int)
    · go_wp2
      go_ret
      exact ⟨by simp [h1, h2], F.out⟩
    · go_wp2
      go_ret
      exact ⟨by simp [h1, h2], F.out⟩
  · go_wp2
    go_ret
    exact ⟨by simp; omega, F.out⟩
theorem nil_yes (w : World) : (binOp .eql 29 (.slice none 0 0) (.slice none 0 0)).run Try.prog w = .ok (.bool true) w := by kernel_rfl
theorem nil_no (x : Addr) (n c : Nat) (w : World) : (binOp .eql 29 (.slice (some x) n c) (.slice none 0 0)).run Try.prog w = .ok (.bool false) w := by kernel_rfl
attribute [local go_sem] nil_yes nil_no
set_option maxHeartbeats 2000000 in
theorem clone_any (a : Option Addr) (n c : Nat) (l : List Pt) (w : World) (hs : SlAt w a n c l) (hn : n ≤ 1000) :
    Calls Try.prog 32 #[.slice a n c] w fun r w' => ∃ v, r = .returned v ∧ Own w' w.heap.size v l ∧ Below w.heap.size w w' := by
  cases a with
  | none =>
    obtain ⟨rfl, rfl⟩ := hs.nil rfl
    have hl : l = [] := List.eq_nil_of_length_eq_zero hs.len
    subst hl
    go_enter Try.func32, Try.ntmps32
    go_wp2
    go_ret
    exact ⟨_, rfl, Own.nil _ _, Below.refl _ _⟩
  | some x =>
    obtain ⟨W1, hW1⟩ : ∃ W1, w.alloc (.cells #[] 47) = W1 := ⟨_, rfl⟩
    have b1 : Below w.heap.size w W1 := by rw [← hW1]; exact (Below.refl _ _).alloc (Nat.le_refl _) _
    have o1 : Own W1 w.heap.size (.slice (some ⟨w.heap.size, 0, none⟩) 0 0) [] := by rw [← hW1]; exact zero_new w _ (Nat.le_refl _)
    obtain ⟨v, W2, ap, o2, g2⟩ := o1.app (hs.below b1) (by have := hs.len; simp; omega) b1.size 29
    rw [List.nil_append] at o2
    have b2 : Below w.heap.size w W2 := b1.trans (below_of_grown g2 b1.size (fun j e => by cases e; exact Nat.le_refl _))
    have F : Hid (Own W2 w.heap.size v l ∧ Below w.heap.size w W2) := ⟨o2, b2⟩
    clear hs b1 o1 o2 g2 b2 hn
    go_enter Try.func32, Try.ntmps32
    go_wp2
    go_ret
    exact ⟨v, rfl, F.out.1, F.out.2⟩
/-- A tree and a port handed in, and room for a tree. -/
theorem three_t (w : World) (h : Hd) (x : Value) (p : Pt) : ∃ W, ((w.alloc (.cells (trc h x) 31)).alloc (.cells p.cs 47)).alloc (.cells #[.int .u64 0, .int .u8 0, .int .u8 0, .int .u8 0, .int .u8 0, .int .u8 0, .bool false, .int .u16 0, .int .u64 0, .int .u32 0, .int .u64 0, .int .u16 0, .int .u8 0, .int .u8 0, .int .u8 0, .int .u8 0, .slice none 0 0] 31) = W ∧ RvAt W w.heap.size 31 (trc h x) ∧ RvAt W (w.heap.size + 1) 47 p.cs ∧ RvAt W (w.heap.size + 1 + 1) 31 (trc zeroH (.slice none 0 0)) ∧ Below w.heap.size w W ∧ W.heap.size = w.heap.size + 3 := by
  obtain ⟨A, hA, rA, bA, zA⟩ := one_t w h x
  obtain ⟨D, hD, rD, bD, zD⟩ := new_p A p
  have hC : RvAt (D.alloc (.cells zeroT 31)) D.heap.size 31 zeroT := RvAt.new D _ _
  have bC : Below D.heap.size D (D.alloc (.cells zeroT 31)) := (Below.refl _ _).alloc (Nat.le_refl _) _
  rw [zeroT_is, zD, zA] at hC
  rw [zA] at rD
  rw [hA, hD]
  rw [zeroT_is] at bC
  refine ⟨_, rfl, ?_⟩
  change RvAt (D.alloc (.cells zeroT 31)) _ _ _ ∧ RvAt (D.alloc (.cells zeroT 31)) _ _ _ ∧ RvAt (D.alloc (.cells zeroT 31)) _ _ _ ∧ Below _ _ (D.alloc (.cells zeroT 31)) ∧ (D.alloc (.cells zeroT 31)).heap.size = _
  rw [zeroT_is]
  exact ⟨(rA.below bD).below bC, rD.below bC, hC, below_over (below_over bA bD) bC, by simp; omega⟩
set_option maxHeartbeats 4000000 in
theorem repl_any (h : Hd) (a : Option Addr) (n c : Nat) (l : List Pt) (k : Nat) (p : Pt) (w : World) (hs : SlAt w a n c l) (hn : n ≤ 1000) (hk : k < n) :
    Calls Try.prog 20 #[.agg (trc h (.slice a n c)), .int .i64 (k : Int), .agg p.cs] w fun r w' => ∃ g c', r = .returned (.agg (trc h (.slice (some ⟨g, 0, none⟩) n c'))) ∧ w.heap.size ≤ g ∧ SlAt w' (some ⟨g, 0, none⟩) n c' (l.set k p) ∧ Below w.heap.size w w' := by
  obtain ⟨W, hW, r0, rp, r1, bW, zW⟩ := three_t w h (.slice a n c) p
  have c16 := r0.t16
  have H : Hid (SlAt W a n c l ∧ n ≤ 1000 ∧ l.length = n ∧ RvAt W w.heap.size 31 (trc h (.slice a n c)) ∧ RvAt W (w.heap.size + 1 + 1) 31 (trc zeroH (.slice none 0 0)) ∧ Below w.heap.size w W ∧ W.heap.size = w.heap.size + 3 ∧ RvAt W (w.heap.size + 1) 47 p.cs) := ⟨hs.below bW, hn, hs.len, r0, r1, bW, zW, rp⟩
  clear hs hn r0 r1 bW zW rp
  go_enter Try.func20, Try.ntmps20
  go_wp2_with fail
  refine (clone_any a n c l W H.out.1 H.out.2.1).mono ?_
  rintro _ W2 ⟨v, rfl, o2, b2⟩
  have z2 := H.out.2.2.2.2.2.2.1
  have hl := H.out.2.2.1
  obtain ⟨W3, s3, r3, g3⟩ := (H.out.2.2.2.1.below b2).tset o2.one
  have o3 := o2.keptBut g3 (o2.apart (by omega))
  have q3 := (H.out.2.2.2.2.1.below b2).keptBut g3 (by simp only [ne_eq, Option.some.injEq]; omega)
  have p3 := (H.out.2.2.2.2.2.2.2.below b2).keptBut g3 (by simp only [ne_eq, Option.some.injEq]; omega)
  have b3 : Below w.heap.size w W3 := gro (below_over H.out.2.2.2.2.2.1 b2) g3 (Nat.le_refl _) (by have := b2.size; omega)
  have lp := p3.pld
  have hin0 : (0 : Int) ≤ (k : Int) := by omega
  have hin1 : (k : Int) < (n : Int) := by omega
  clear b2 g3 o2 c16 hW
  rcases o3.pat with ⟨hv, hle⟩ | ⟨g, cc, hv, hg, hp⟩
  · rw [hle] at hl; simp at hl; omega
  · rw [hl] at hv
    subst hv
    have c16 := r3.t16
    obtain ⟨V, sV, pV, gV⟩ := hp.stp (i := k) (p := p) (by omega) rfl
    have r5 := r3.keptBut gV (by simp; omega)
    have q5 := q3.keptBut gV (by simp; omega)
    have l5 := r5.tld
    obtain ⟨W6, s6, r6, g6⟩ := q5.tst (g := h) (y := .slice (some ⟨g, 0, none⟩) n cc) rfl
    have p6 := pV.keptBut g6 (by simp; omega)
    have b6 : Below w.heap.size w W6 := gro (gro b3 gV (by omega) b3.size) g6 (by omega) (by have := b3.size; have := gV.size; omega)
    have s6' := p6.sl
    rw [List.length_set, hl] at s6'
    have F : Hid (RvAt W6 (w.heap.size + 1 + 1) 31 (trc h (.slice (some ⟨g, 0, none⟩) n cc)) ∧ w.heap.size ≤ g ∧ SlAt W6 (some ⟨g, 0, none⟩) n cc (l.set k p) ∧ Below w.heap.size w W6) := ⟨r6, by omega, s6', b6⟩
    clear hp pV gV r5 q5 r6 g6 p6 b6 s6' hg r3 q3 p3 b3 o3 hl z2 hk
    go_wp2
    refine bodyPost_ret (results_row rtT Try.results20 _ _ _ _ rfl F.out.1 (trc_size _ _)) rfl ?_
    exact ⟨g, cc, rfl, F.out.2⟩
set_option maxHeartbeats 4000000 in
theorem with_any (h : Hd) (a : Option Addr) (n c : Nat) (l : List Pt) (k : Nat) (p : Pt) (w : World) (hs : SlAt w a n c l) (hn : n ≤ 1000) (hk : k < n) :
    Calls Try.prog 15 #[.agg (trc h (.slice a n c)), .int .i64 (k : Int), .agg p.cs] w fun r w' => ∃ g c', r = .returned (.agg (trc h (.slice (some ⟨g, 0, none⟩) n c'))) ∧ w.heap.size ≤ g ∧ SlAt w' (some ⟨g, 0, none⟩) n c' (l.set k p) ∧ Below w.heap.size w w' := by
  obtain ⟨W, hW, r0, rp, r1, bW, zW⟩ := three_t w h (.slice a n c) p
  have l0 := r0.tld
  have H : Hid (SlAt W a n c l ∧ n ≤ 1000 ∧ l.length = n ∧ RvAt W w.heap.size 31 (trc h (.slice a n c)) ∧ RvAt W (w.heap.size + 1 + 1) 31 (trc zeroH (.slice none 0 0)) ∧ Below w.heap.size w W ∧ W.heap.size = w.heap.size + 3 ∧ RvAt W (w.heap.size + 1) 47 p.cs) := ⟨hs.below bW, hn, hs.len, r0, r1, bW, zW, rp⟩
  clear hs hn r0 r1 bW zW rp
  go_enter Try.func15, Try.ntmps15
  go_wp2_with fail
  refine (rcopy_any h a n c l W H.out.1 H.out.2.1).mono ?_
  rintro _ W2 ⟨v, rfl, o2, b2⟩
  have z2 := H.out.2.2.2.2.2.2.1
  have hl := H.out.2.2.1
  obtain ⟨W3, s3, r3, g3⟩ := (H.out.2.2.2.1.below b2).tst (g := h) (y := v) o2.one
  have o3 := o2.keptBut g3 (o2.apart (by omega))
  have q3 := (H.out.2.2.2.2.1.below b2).keptBut g3 (by simp only [ne_eq, Option.some.injEq]; omega)
  have p3 := (H.out.2.2.2.2.2.2.2.below b2).keptBut g3 (by simp only [ne_eq, Option.some.injEq]; omega)
  have b3 : Below w.heap.size w W3 := gro (below_over H.out.2.2.2.2.2.1 b2) g3 (Nat.le_refl _) (by have := b2.size; omega)
  have lp := p3.pld
  have hin0 : (0 : Int) ≤ (k : Int) := by omega
  have hin1 : (k : Int) < (n : Int) := by omega
  clear b2 g3 o2 l0 hW
  rcases o3.pat with ⟨hv, hle⟩ | ⟨g, cc, hv, hg, hp⟩
  · rw [hle] at hl; simp at hl; omega
  · rw [hl] at hv
    subst hv
    have c16 := r3.t16
    obtain ⟨V, sV, pV, gV⟩ := hp.stp (i := k) (p := p) (by omega) rfl
    have r5 := r3.keptBut gV (by simp; omega)
    have q5 := q3.keptBut gV (by simp; omega)
    have l5 := r5.tld
    obtain ⟨W6, s6, r6, g6⟩ := q5.tst (g := h) (y := .slice (some ⟨g, 0, none⟩) n cc) rfl
    have p6 := pV.keptBut g6 (by simp; omega)
    have b6 : Below w.heap.size w W6 := gro (gro b3 gV (by omega) b3.size) g6 (by omega) (by have := b3.size; have := gV.size; omega)
    have s6' := p6.sl
    rw [List.length_set, hl] at s6'
    have F : Hid (RvAt W6 (w.heap.size + 1 + 1) 31 (trc h (.slice (some ⟨g, 0, none⟩) n cc)) ∧ w.heap.size ≤ g ∧ SlAt W6 (some ⟨g, 0, none⟩) n cc (l.set k p) ∧ Below w.heap.size w W6) := ⟨r6, by omega, s6', b6⟩
    clear hp pV gV r5 q5 r6 g6 p6 b6 s6' hg r3 q3 p3 b3 o3 hl z2 hk
    go_wp2
    refine bodyPost_ret (results_row rtT Try.results15 _ _ _ _ rfl F.out.1 (trc_size _ _)) rfl ?_
    exact ⟨g, cc, rfl, F.out.2⟩
end Go.Proofs.Ytlneoegmlcbidaa
