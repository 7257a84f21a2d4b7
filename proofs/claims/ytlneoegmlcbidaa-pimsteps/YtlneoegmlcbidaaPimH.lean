/-
  A tree one of whose ports heard a message, the code's and the definition's: the walks, each for every tree and message.
-/
import Derived.Test.YtlneoegmlcbidaaPimE
namespace Go.Proofs.Ytlneoegmlcbidaa
set_option linter.unusedVariables false
set_option maxRecDepth 4000
set_option linter.unusedSimpArgs false
open Go.RowKit

/-- A tree and a message handed in, and room for a tree. -/
theorem three_tm (w : World) (h : Hd) (x : Value) (m : Mg) : ∃ W, ((w.alloc (.cells (trc h x) 31)).alloc (.cells m.cs 35)).alloc (.cells #[.int .u64 0, .int .u8 0, .int .u8 0, .int .u8 0, .int .u8 0, .int .u8 0, .bool false, .int .u16 0, .int .u64 0, .int .u32 0, .int .u64 0, .int .u16 0, .int .u8 0, .int .u8 0, .int .u8 0, .int .u8 0, .slice none 0 0] 31) = W ∧ RvAt W w.heap.size 31 (trc h x) ∧ RvAt W (w.heap.size + 1) 35 m.cs ∧ RvAt W (w.heap.size + 1 + 1) 31 (trc zeroH (.slice none 0 0)) ∧ Below w.heap.size w W ∧ W.heap.size = w.heap.size + 3 := by
  obtain ⟨A, hA, rA, bA, zA⟩ := one_t w h x
  obtain ⟨D, hD, rD, bD, zD⟩ := new_m A m
  have hC : RvAt (D.alloc (.cells zeroT 31)) D.heap.size 31 zeroT := RvAt.new D _ _
  have bC : Below D.heap.size D (D.alloc (.cells zeroT 31)) := (Below.refl _ _).alloc (Nat.le_refl _) _
  rw [zeroT_is, zD, zA] at hC
  rw [zA] at rD
  rw [hA, hD]
  rw [zeroT_is] at bC
  refine ⟨_, rfl, ?_⟩
  change RvAt (D.alloc (.cells zeroT 31)) _ _ _ ∧ RvAt (D.alloc (.cells zeroT 31)) _ _ _ ∧ RvAt (D.alloc (.cells zeroT 31)) _ _ _ ∧ Below _ _ (D.alloc (.cells zeroT 31)) ∧ (D.alloc (.cells zeroT 31)).heap.size = _
  rw [zeroT_is]
  exact ⟨(rA.below bD).below bC, rD.below bC, hC, below_over (below_over bA bD) bC, by simp; omega⟩
attribute [local go_sem ↓] ldP stP ldT stT ldM stM
set_option maxHeartbeats 4000000 in
theorem phear_any (h : Hd) (a : Option Addr) (n c : Nat) (l : List Pt) (i : Int) (m : Mg) (w : World) (hs : SlAt w a n c l) (hn : n ≤ 1000) :
    Calls Try.prog 11 #[.agg (trc h (.slice a n c)), .int .i64 i, .agg m.cs] w fun r w' => ∃ a' c', r = .returned (.agg (trc h (.slice a' n c'))) ∧ SlAt w' a' n c' (hearL l i m) ∧ Below w.heap.size w w' := by
  obtain ⟨W, hW, r0, rm, r1, bW, zW⟩ := three_tm w h (.slice a n c) m
  have l0 := r0.tld
  have H : Hid (SlAt W a n c l ∧ n ≤ 1000 ∧ l.length = n ∧ TS w W w.heap.size (w.heap.size + 1 + 1) h (.slice a n c) ∧ RvAt W (w.heap.size + 1) 35 m.cs) := ⟨hs.below bW, hn, hs.len, ⟨r0, r1, bW, by omega⟩, rm⟩
  have LT : Hid (∀ x, a = some x → 0 < n → x.block < w.heap.size) := fun x hx h0 => by
    obtain ⟨b, o, e, hc⟩ := hs.cells x hx h0
    subst e
    have hl := hs.len
    have := hc 0 _ (List.getElem?_eq_getElem (by rw [flat_len]; omega))
    exact World.block_lt_of_cell? w _ this
  clear hs r0 r1 bW zW rm
  go_enter Try.func11, Try.ntmps11
  go_wp2_with fail
  refine (there_any h a n c i W hn).mono ?_
  rintro _ W1 ⟨rfl, b1⟩
  have H1 : Hid (SlAt W1 a n c l ∧ TS w W1 w.heap.size (w.heap.size + 1 + 1) h (.slice a n c) ∧ RvAt W1 (w.heap.size + 1) 35 m.cs) := ⟨H.out.1.below b1, H.out.2.2.2.1.below b1, H.out.2.2.2.2.below b1⟩
  clear b1 l0 hW
  by_cases hi : 0 ≤ i ∧ i < (n : Int)
  · have eb : (decide (0 ≤ i) && decide (i < (n : Int))) = true := by simp; omega
    rw [eb]
    clear eb
    obtain ⟨k, hk⟩ : ∃ k : Nat, i = (k : Int) := ⟨i.toNat, by omega⟩
    subst hk
    have hkn : k < n := by omega
    have hkl : k < l.length := by rw [H.out.2.2.1]; exact hkn
    have hin0 : (0 : Int) ≤ (k : Int) := by omega
    have hin1 : (k : Int) < (n : Int) := by omega
    obtain ⟨b, o, rfl⟩ := H1.out.1.some' (by omega)
    have lt := fun q : Later W1 => (H1.out.2.1.var.below q.below).tld
    have c16 := fun q : Later W1 => (H1.out.2.1.var.below q.below).t16
    have lp := fun q : Later W1 => (H1.out.1.below q.below).ld (gtP_at hkl)
    have lm := fun q : Later W1 => (H1.out.2.2.below q.below).mld
    have EL : Hid (hearL l (k : Int) m = l.set k (takeP (gtP l k) m)) := show hearL l (k : Int) m = _ by unfold hearL; rw [if_pos ⟨hin0, by omega⟩]; rfl
    obtain ⟨p, hp⟩ : ∃ p, gtP l k = p := ⟨_, rfl⟩
    simp only [hp] at lp
    rw [hp] at EL
    clear hp hkl hi
    have P : Hid (∀ q : Later W1, _) := fun q : Later W1 => take_any p m q.val
    obtain ⟨t, ht⟩ : ∃ t, takeP p m = t := ⟨_, rfl⟩
    rw [ht] at EL P
    clear ht
    go_wp2_with fail
    refine wp_region_later_tail 9 (by kernel_rfl) (by kernel_rfl) ?_
    simp only [List.take_succ_cons, List.take_zero]
    repeat (go_big_quiet_step (first
      | exact rfl
      | (go_at_call 22; with_reducible exact Calls.later_of (P.out _))))
    refine wpQuiet_nil ?_
    intro u
    simp only [List.drop_succ_cons, List.drop_zero]
    clear lt c16 lp lm P
    go_wp2_with fail
    refine (repl_any h (some ⟨b, o, none⟩) n c l k t u.val (H1.out.1.below u.below) hn hkn).mono ?_
    rintro _ W4 ⟨g', c', rfl, hg', s4, b4⟩
    have T4 := H1.out.2.1.below u.below
    obtain ⟨U, sU, h1, h2, g⟩ := (T4.below b4).tell (y := .slice (some ⟨g', 0, none⟩) n c') rfl
    have hdl := T4.out.lt
    have G : Hid (RvAt U (w.heap.size + 1 + 1) 31 (trc h (.slice (some ⟨g', 0, none⟩) n c')) ∧ SlAt U (some ⟨g', 0, none⟩) n c' (l.set k t) ∧ Below w.heap.size w U) := ⟨h1, s4.keptBut g (fun x hx e => by cases hx; simp only [Option.some.injEq] at e; omega), h2⟩
    clear h1 h2 g s4 b4 hdl hg' T4
    go_wp2
    refine bodyPost_ret (results_row rtT Try.results11 _ _ _ _ rfl G.out.1 (trc_size _ _)) rfl ?_
    refine ⟨some ⟨g', 0, none⟩, c', rfl, ?_, G.out.2.2⟩
    rw [EL.out]
    exact G.out.2.1
  · have eb : (decide (0 ≤ i) && decide (i < (n : Int))) = false := by simp; omega
    rw [eb]
    clear eb
    have EL : Hid (hearL l i m = l) := show hearL l i m = _ by unfold hearL; rw [if_neg (by have := H.out.2.2.1; omega)]
    have l1 := H1.out.2.1.var.tld
    obtain ⟨U, sU, h1, h2, g⟩ := H1.out.2.1.tell (y := .slice a n c) rfl
    have sl : SlAt U a n c l := by
      have hs := H1.out.1
      by_cases h0 : 0 < n
      · exact hs.keptBut g (fun x hx e => by have := LT.out x hx h0; simp only [Option.some.injEq] at e; omega)
      · have hl := hs.len
        have hle : l = [] := List.eq_nil_of_length_eq_zero (by omega)
        subst hle
        exact ⟨hs.len, hs.cap, hs.max, hs.nil, fun x _ h1 => absurd h1 h0⟩
    have G : Hid (RvAt U (w.heap.size + 1 + 1) 31 (trc h (.slice a n c)) ∧ SlAt U a n c l ∧ Below w.heap.size w U) := ⟨h1, sl, h2⟩
    clear h1 h2 g H1 hi sl
    go_wp2
    refine bodyPost_ret (results_row rtT Try.results11 _ _ _ _ rfl G.out.1 (trc_size _ _)) rfl ?_
    refine ⟨a, c, rfl, ?_, G.out.2.2⟩
    rw [EL.out]
    exact G.out.2.1
set_option maxHeartbeats 4000000 in
theorem rhear_any (h : Hd) (a : Option Addr) (n c : Nat) (l : List Pt) (i : Int) (m : Mg) (w : World) (hs : SlAt w a n c l) (hn : n ≤ 1000) :
    Calls Try.prog 12 #[.agg (trc h (.slice a n c)), .int .i64 i, .agg m.cs] w fun r w' => ∃ a' c', r = .returned (.agg (trc h (.slice a' n c'))) ∧ SlAt w' a' n c' (hearL l i m) ∧ Below w.heap.size w w' := by
  obtain ⟨W, hW, r0, rm, r1, bW, zW⟩ := three_tm w h (.slice a n c) m
  have l0 := r0.tld
  have H : Hid (SlAt W a n c l ∧ n ≤ 1000 ∧ l.length = n ∧ TS w W w.heap.size (w.heap.size + 1 + 1) h (.slice a n c) ∧ RvAt W (w.heap.size + 1) 35 m.cs) := ⟨hs.below bW, hn, hs.len, ⟨r0, r1, bW, by omega⟩, rm⟩
  have LT : Hid (∀ x, a = some x → 0 < n → x.block < w.heap.size) := fun x hx h0 => by
    obtain ⟨b, o, e, hc⟩ := hs.cells x hx h0
    subst e
    have hl := hs.len
    have := hc 0 _ (List.getElem?_eq_getElem (by rw [flat_len]; omega))
    exact World.block_lt_of_cell? w _ this
  clear hs r0 r1 bW zW rm
  go_enter Try.func12, Try.ntmps12
  go_wp2_with fail
  refine (has_any h a n c i W hn).mono ?_
  rintro _ W1 ⟨rfl, b1⟩
  have H1 : Hid (SlAt W1 a n c l ∧ TS w W1 w.heap.size (w.heap.size + 1 + 1) h (.slice a n c) ∧ RvAt W1 (w.heap.size + 1) 35 m.cs) := ⟨H.out.1.below b1, H.out.2.2.2.1.below b1, H.out.2.2.2.2.below b1⟩
  clear b1 l0 hW
  by_cases hi : 0 ≤ i ∧ i < (n : Int)
  · have eb : (decide (0 ≤ i) && decide (i < (n : Int))) = true := by simp; omega
    rw [eb]
    clear eb
    obtain ⟨k, hk⟩ : ∃ k : Nat, i = (k : Int) := ⟨i.toNat, by omega⟩
    subst hk
    have hkn : k < n := by omega
    have hkl : k < l.length := by rw [H.out.2.2.1]; exact hkn
    have hin0 : (0 : Int) ≤ (k : Int) := by omega
    have hin1 : (k : Int) < (n : Int) := by omega
    obtain ⟨b, o, rfl⟩ := H1.out.1.some' (by omega)
    have lt := fun q : Later W1 => (H1.out.2.1.var.below q.below).tld
    have c16 := fun q : Later W1 => (H1.out.2.1.var.below q.below).t16
    have lp := fun q : Later W1 => (H1.out.1.below q.below).ld (gtP_at hkl)
    have lm := fun q : Later W1 => (H1.out.2.2.below q.below).mld
    have EL : Hid (hearL l (k : Int) m = l.set k (takeP (gtP l k) m)) := show hearL l (k : Int) m = _ by unfold hearL; rw [if_pos ⟨hin0, by omega⟩]; rfl
    obtain ⟨p, hp⟩ : ∃ p, gtP l k = p := ⟨_, rfl⟩
    simp only [hp] at lp
    rw [hp] at EL
    clear hp hkl hi
    have P : Hid (∀ q : Later W1, _) := fun q : Later W1 => rtake_any p m q.val
    obtain ⟨t, ht⟩ : ∃ t, takeP p m = t := ⟨_, rfl⟩
    rw [ht] at EL P
    clear ht
    go_wp2_with fail
    refine wp_region_later_tail 9 (by kernel_rfl) (by kernel_rfl) ?_
    simp only [List.take_succ_cons, List.take_zero]
    repeat (go_big_quiet_step (first
      | exact rfl
      | (go_at_call 23; with_reducible exact Calls.later_of (P.out _))))
    refine wpQuiet_nil ?_
    intro u
    simp only [List.drop_succ_cons, List.drop_zero]
    clear lt c16 lp lm P
    go_wp2_with fail
    refine (with_any h (some ⟨b, o, none⟩) n c l k t u.val (H1.out.1.below u.below) hn hkn).mono ?_
    rintro _ W4 ⟨g', c', rfl, hg', s4, b4⟩
    have T4 := H1.out.2.1.below u.below
    obtain ⟨U, sU, h1, h2, g⟩ := (T4.below b4).tell (y := .slice (some ⟨g', 0, none⟩) n c') rfl
    have hdl := T4.out.lt
    have G : Hid (RvAt U (w.heap.size + 1 + 1) 31 (trc h (.slice (some ⟨g', 0, none⟩) n c')) ∧ SlAt U (some ⟨g', 0, none⟩) n c' (l.set k t) ∧ Below w.heap.size w U) := ⟨h1, s4.keptBut g (fun x hx e => by cases hx; simp only [Option.some.injEq] at e; omega), h2⟩
    clear h1 h2 g s4 b4 hdl hg' T4
    go_wp2
    refine bodyPost_ret (results_row rtT Try.results12 _ _ _ _ rfl G.out.1 (trc_size _ _)) rfl ?_
    refine ⟨some ⟨g', 0, none⟩, c', rfl, ?_, G.out.2.2⟩
    rw [EL.out]
    exact G.out.2.1
  · have eb : (decide (0 ≤ i) && decide (i < (n : Int))) = false := by simp; omega
    rw [eb]
    clear eb
    have EL : Hid (hearL l i m = l) := show hearL l i m = _ by unfold hearL; rw [if_neg (by have := H.out.2.2.1; omega)]
    have l1 := H1.out.2.1.var.tld
    obtain ⟨U, sU, h1, h2, g⟩ := H1.out.2.1.tell (y := .slice a n c) rfl
    have sl : SlAt U a n c l := by
      have hs := H1.out.1
      by_cases h0 : 0 < n
      · exact hs.keptBut g (fun x hx e => by have := LT.out x hx h0; simp only [Option.some.injEq] at e; omega)
      · have hl := hs.len
        have hle : l = [] := List.eq_nil_of_length_eq_zero (by omega)
        subst hle
        exact ⟨hs.len, hs.cap, hs.max, hs.nil, fun x _ h1 => absurd h1 h0⟩
    have G : Hid (RvAt U (w.heap.size + 1 + 1) 31 (trc h (.slice a n c)) ∧ SlAt U a n c l ∧ Below w.heap.size w U) := ⟨h1, sl, h2⟩
    clear h1 h2 g H1 hi sl
    go_wp2
    refine bodyPost_ret (results_row rtT Try.results12 _ _ _ _ rfl G.out.1 (trc_size _ _)) rfl ?_
    refine ⟨a, c, rfl, ?_, G.out.2.2⟩
    rw [EL.out]
    exact G.out.2.1
end Go.Proofs.Ytlneoegmlcbidaa
