/-
  Steps and messages of trees, the code's and the definition's: the walks, each for every tree. And what follows from it here.
-/
import Derived.Test.YtlchejbggnbccaaGreatBbb
import Derived.Test.YtlchejbggnbccaaGreatB11b
import Derived.Test.YtlchejbggnbccaaGreatB11a
import Derived.Test.YtlchejbggnbccaaGreatBba
import Derived.Deep.RegionHeld3
namespace Go.Proofs.YtlchejbggnbccaaGreat
set_option linter.unusedVariables false
set_option linter.unusedSimpArgs false
set_option maxRecDepth 4000
section
namespace S11
open Go.RowKit

def stepL (l : List Pt) (i : Int) : List Pt := if 0 ≤ i ∧ i < l.length then l.set i.toNat (tellO (gtP l i.toNat) (stepO (gtP l i.toNat))) else l
def stepB (l : List Pt) (i : Int) : Bool := if 0 ≤ i ∧ i < l.length then (stepO (gtP l i.toNat)).isSome else false
def hearL (l : List Pt) (i : Int) (m : Mg) : List Pt := if 0 ≤ i ∧ i < l.length then l.set i.toNat (takeP (gtP l i.toNat) m) else l
theorem set_self {l : List Pt} {k : Nat} (h : k < l.length) : l.set k (gtP l k) = l := by
  have : gtP l k = l[k] := by
    have := gtP_at h
    rw [List.getElem?_eq_getElem h] at this
    exact (Option.some.inj this).symm
  rw [this, List.set_getElem_self]
theorem var_p (W : World) (p : Pt) : ∃ W', (stS 74 (.pointer (some ⟨W.heap.size, 0, none⟩)) (.agg p.cs)).run Tryz.prog (W.alloc (.cells zeroP.cs 74)) = .ok () W' ∧ RvAt W' W.heap.size 74 p.cs ∧ Below W.heap.size W W' ∧ W'.heap.size = W.heap.size + 1 :=
  row_new rtP W zeroP.cs p.cs (by rw [Row.csize, lenP]) (by rw [Row.csize, lenP]) p.one'
structure TS (w W : World) (b d : Nat) (h : Hd) (x : Value) : Prop where
  var : RvAt W b 39 (trc h x)
  out : RvAt W d 39 (trc zeroH (.slice none 0 0))
  bel : Below w.heap.size w W
  hd : w.heap.size ≤ d
theorem TS.below {w W V : World} {b d : Nat} {h : Hd} {x : Value} (s : TS w W b d h x) (k : Below W.heap.size W V) : TS w V b d h x := ⟨s.var.below k, s.out.below k, below_over s.bel k, s.hd⟩
theorem TS.tell {w W : World} {b d : Nat} {h : Hd} {x : Value} (s : TS w W b d h x) {y : Value} (hy : y.oneCell' = true) : ∃ U, (stS 39 (.pointer (some ⟨d, 0, none⟩)) (.agg (trc h y))).run Tryz.prog W = .ok () U ∧ RvAt U d 39 (trc h y) ∧ Below w.heap.size w U ∧ W.grownBy U (some d) := by
  obtain ⟨U, e, h1, g⟩ := s.out.tst (g := h) (y := y) hy
  exact ⟨U, e, h1, gro s.bel g s.hd s.bel.size, g⟩
attribute [local go_sem ↓] ldP stP ldT stT ldM stM
attribute [local go_sem ↓] alP alM
attribute [local go_sem] alP_run alM_run
set_option maxHeartbeats 4000000 in
theorem pstep_any (h : Hd) (a : Option Addr) (n c : Nat) (l : List Pt) (i : Int) (w : World) (hs : SlAt w a n c l) (hn : n ≤ 1000) :
    Calls Tryz.prog 131 #[.agg (trc h (.slice a n c)), .int .i64 i] w fun r w' => ∃ a' c', r = .returned (.tuple #[.agg (trc h (.slice a' n c')), .bool (stepB l i)]) ∧ SlAt w' a' n c' (stepL l i) ∧ Below w.heap.size w w' ∧ Fro w a a' := by
  obtain ⟨W, hW, r0, r1, bW, zW⟩ := two_t w h (.slice a n c)
  have l0 := r0.tld
  have H : Hid (SlAt W a n c l ∧ n ≤ 1000 ∧ l.length = n ∧ TS w W w.heap.size (w.heap.size + 1) h (.slice a n c) ∧ W.heap.size = w.heap.size + 2) := ⟨hs.below bW, hn, hs.len, ⟨r0, r1, bW, by omega⟩, zW⟩
  have LT : Hid (∀ x, a = some x → 0 < n → x.block < w.heap.size) := fun x hx h0 => by
    obtain ⟨b, o, e, hc⟩ := hs.cells x hx h0
    subst e
    have hl := hs.len
    have := hc 0 _ (List.getElem?_eq_getElem (by rw [flat_len]; omega))
    exact World.block_lt_of_cell? w _ this
  clear hs r0 r1 bW zW
  go_enter Tryz.func131, Tryz.ntmps131
  go_wp2_with fail
  refine (there_any h a n c i W hn).mono ?_
  rintro _ W1 ⟨rfl, b1⟩
  have H1 : Hid (SlAt W1 a n c l ∧ TS w W1 w.heap.size (w.heap.size + 1) h (.slice a n c)) := ⟨H.out.1.below b1, H.out.2.2.2.1.below b1⟩
  clear b1 l0 hW
  have keep : Hid (∀ {V U : World}, SlAt V a n c l → V.grownBy U (some (w.heap.size + 1)) → SlAt U a n c l) := fun hs g => by
    by_cases h0 : 0 < n
    · exact hs.keptBut g (fun x hx e => by have := LT.out x hx h0; simp only [Option.some.injEq] at e; omega)
    · have hl := hs.len
      have hle : l = [] := List.eq_nil_of_length_eq_zero (by omega)
      subst hle
      exact ⟨⟨hs.len, hs.cap, hs.max, hs.nil, fun x _ h1 => absurd h1 h0⟩, fun x _ h1 => absurd h1 h0⟩
  by_cases hi : 0 ≤ i ∧ i < (n : Int)
  · have eb : (decide (0 ≤ i) && decide (i < (n : Int))) = true := by simp; omega
    rw [eb]
    clear eb
    obtain ⟨k, hk⟩ : ∃ k : Nat, i = (k : Int) := ⟨i.toNat, by omega⟩
    subst hk
    have hkn : k < n := by omega
    have hkl : k < l.length := by rw [H.out.2.2.1]; exact hkn
    have hin0 : (0 : Int) ≤ (k : Int) := by omega
    have hin1 : (k : Int) < (n : Int) := by omega
    obtain ⟨b, o, rfl⟩ := H1.out.1.some' (by omega)
    have c16 := H1.out.2.var.t16
    have lp := H1.out.1.ld (gtP_at hkl)
    have EL : Hid (stepL l (k : Int) = l.set k (tellO (gtP l k) (stepO (gtP l k))) ∧ stepB l (k : Int) = (stepO (gtP l k)).isSome ∧ l.set k (gtP l k) = l) := ⟨by unfold stepL; rw [if_pos ⟨hin0, by omega⟩]; rfl, by unfold stepB; rw [if_pos ⟨hin0, by omega⟩]; rfl, set_self hkl⟩
    obtain ⟨p, hp⟩ : ∃ p, gtP l k = p := ⟨_, rfl⟩
    rw [hp] at lp EL
    clear hp hkl hi
    go_wp2_with fail
    refine (step_any p W1).mono ?_
    rintro _ W2 ⟨rfl, b2⟩
    obtain ⟨W3, s3, r3, b3, z3⟩ := var_p W2 (tellO p (stepO p))
    have H3 : Hid (SlAt W3 (some ⟨b, o, none⟩) n c l ∧ TS w W3 w.heap.size (w.heap.size + 1) h (.slice (some ⟨b, o, none⟩) n c) ∧ RvAt W3 W2.heap.size 74 (tellO p (stepO p)).cs) := ⟨(H1.out.1.below b2).below b3, (H1.out.2.below b2).below b3, r3⟩
    have l3 := H3.out.2.1.var.tld
    have lq := r3.pld
    obtain ⟨z, hz⟩ : ∃ z, W2.heap.size = z := ⟨_, rfl⟩
    rw [hz] at s3 lq
    clear b2 r3 b3 z3 H1 c16 lp
    obtain ⟨x, hx⟩ : ∃ x, stepO p = x := ⟨_, rfl⟩
    rw [hx] at EL s3 lq H3 ⊢
    clear hx
    cases x with
    | none =>
      obtain ⟨U, sU, h1, h2, g⟩ := H3.out.2.1.tell (y := .slice (some ⟨b, o, none⟩) n c) rfl
      have G : Hid (RvAt U (w.heap.size + 1) 39 (trc h (.slice (some ⟨b, o, none⟩) n c)) ∧ SlAt U (some ⟨b, o, none⟩) n c l ∧ Below w.heap.size w U) := ⟨h1, keep.out H3.out.1 g, h2⟩
      clear h1 h2 g H3
      simp only [Option.isSome_none]
      go_wp2
      refine bodyPost_ret (results_rowtmp rtT Tryz.results131 _ _ _ _ rfl G.out.1 (trc_size _ _)) rfl ?_
      refine ⟨some ⟨b, o, none⟩, c, ?_, ?_, G.out.2.2, Or.inl rfl⟩
      · rw [EL.out.2.1]; rfl
      · rw [EL.out.1]
        show SlAt U _ _ _ (l.set k p)
        rw [EL.out.2.2]
        exact G.out.2.1
    | some q =>
      simp only [Option.isSome_some]
      go_wp2_with fail
      refine (repl_any h (some ⟨b, o, none⟩) n c l k (tellO p (some q)) W3 H3.out.1 hn hkn).mono ?_
      rintro _ W4 ⟨g', c', rfl, hg', s4, b4⟩
      obtain ⟨U, sU, h1, h2, g⟩ := (H3.out.2.1.below b4).tell (y := .slice (some ⟨g', 0, none⟩) n c') rfl
      have hdl := (H3.out.2.1).out.lt
      have G : Hid (RvAt U (w.heap.size + 1) 39 (trc h (.slice (some ⟨g', 0, none⟩) n c')) ∧ SlAt U (some ⟨g', 0, none⟩) n c' (l.set k (tellO p (some q))) ∧ Below w.heap.size w U) := ⟨h1, s4.keptBut g (fun x hx e => by cases hx; simp only [Option.some.injEq] at e; omega), h2⟩
      have FR : Hid (w.heap.size ≤ g') := Nat.le_trans H3.out.2.1.bel.size hg'
      clear h1 h2 g H3 s4 b4 l3 lq s3 hdl hg'
      go_wp2
      refine bodyPost_ret (results_rowtmp rtT Tryz.results131 _ _ _ _ rfl G.out.1 (trc_size _ _)) rfl ?_
      refine ⟨some ⟨g', 0, none⟩, c', ?_, ?_, G.out.2.2, Or.inr (Nw.of FR.out)⟩
      · rw [EL.out.2.1]; rfl
      · rw [EL.out.1]
        exact G.out.2.1
  · have eb : (decide (0 ≤ i) && decide (i < (n : Int))) = false := by simp; omega
    rw [eb]
    clear eb
    have EL : Hid (stepL l i = l ∧ stepB l i = false) := ⟨by unfold stepL; rw [if_neg (by have := H.out.2.2.1; omega)], by unfold stepB; rw [if_neg (by have := H.out.2.2.1; omega)]⟩
    have l1 := H1.out.2.var.tld
    obtain ⟨U, sU, h1, h2, g⟩ := H1.out.2.tell (y := .slice a n c) rfl
    have G : Hid (RvAt U (w.heap.size + 1) 39 (trc h (.slice a n c)) ∧ SlAt U a n c l ∧ Below w.heap.size w U) := ⟨h1, keep.out H1.out.1 g, h2⟩
    clear h1 h2 g H1 hi
    go_wp2
    refine bodyPost_ret (results_rowtmp rtT Tryz.results131 _ _ _ _ rfl G.out.1 (trc_size _ _)) rfl ?_
    refine ⟨a, c, ?_, ?_, G.out.2.2, Or.inl rfl⟩
    · rw [EL.out.2]; rfl
    · rw [EL.out.1]; exact G.out.2.1
end S11
end
section
namespace S11
open Go.RowKit

theorem three_tm (w : World) (h : Hd) (x : Value) (m : Mg) : ∃ W, ((w.alloc (.cells (trc h x) 39)).alloc (.cells m.cs 46)).alloc (.cells #[.int .u64 0, .int .u8 0, .int .u8 0, .int .u8 0, .int .u8 0, .int .u8 0, .bool false, .int .u16 0, .int .u64 0, .int .u32 0, .int .u64 0, .int .u16 0, .int .u8 0, .int .u8 0, .int .u8 0, .int .u8 0, .slice none 0 0] 39) = W ∧ RvAt W w.heap.size 39 (trc h x) ∧ RvAt W (w.heap.size + 1) 46 m.cs ∧ RvAt W (w.heap.size + 1 + 1) 39 (trc zeroH (.slice none 0 0)) ∧ Below w.heap.size w W ∧ W.heap.size = w.heap.size + 3 := by
  obtain ⟨A, hA, rA, bA, zA⟩ := one_t w h x
  obtain ⟨D, hD, rD, bD, zD⟩ := new_m A m
  have hC : RvAt (D.alloc (.cells zeroT 39)) D.heap.size 39 zeroT := RvAt.new D _ _
  have bC : Below D.heap.size D (D.alloc (.cells zeroT 39)) := (Below.refl _ _).alloc (Nat.le_refl _) _
  rw [zeroT_is, zD, zA] at hC
  rw [zA] at rD
  rw [hA, hD]
  rw [zeroT_is] at bC
  refine ⟨_, rfl, ?_⟩
  change RvAt (D.alloc (.cells zeroT 39)) _ _ _ ∧ RvAt (D.alloc (.cells zeroT 39)) _ _ _ ∧ RvAt (D.alloc (.cells zeroT 39)) _ _ _ ∧ Below _ _ (D.alloc (.cells zeroT 39)) ∧ (D.alloc (.cells zeroT 39)).heap.size = _
  rw [zeroT_is]
  exact ⟨(rA.below bD).below bC, rD.below bC, hC, below_over (below_over bA bD) bC, by simp; omega⟩
attribute [local go_sem ↓] ldP stP ldT stT ldM stM
set_option maxHeartbeats 4000000 in
theorem phear_any (h : Hd) (a : Option Addr) (n c : Nat) (l : List Pt) (i : Int) (m : Mg) (w : World) (hs : SlAt w a n c l) (hn : n ≤ 1000) :
    Calls Tryz.prog 44 #[.agg (trc h (.slice a n c)), .int .i64 i, .agg m.cs] w fun r w' => ∃ a' c', r = .returned (.agg (trc h (.slice a' n c'))) ∧ SlAt w' a' n c' (hearL l i m) ∧ Below w.heap.size w w' := by
  obtain ⟨W, hW, r0, rm, r1, bW, zW⟩ := three_tm w h (.slice a n c) m
  have l0 := r0.tld
  have H : Hid (SlAt W a n c l ∧ n ≤ 1000 ∧ l.length = n ∧ TS w W w.heap.size (w.heap.size + 1 + 1) h (.slice a n c) ∧ RvAt W (w.heap.size + 1) 46 m.cs) := ⟨hs.below bW, hn, hs.len, ⟨r0, r1, bW, by omega⟩, rm⟩
  have LT : Hid (∀ x, a = some x → 0 < n → x.block < w.heap.size) := fun x hx h0 => by
    obtain ⟨b, o, e, hc⟩ := hs.cells x hx h0
    subst e
    have hl := hs.len
    have := hc 0 _ (List.getElem?_eq_getElem (by rw [flat_len]; omega))
    exact World.block_lt_of_cell? w _ this
  clear hs r0 r1 bW zW rm
  go_enter Tryz.func44, Tryz.ntmps44
  go_wp2_with fail
  refine (there_any h a n c i W hn).mono ?_
  rintro _ W1 ⟨rfl, b1⟩
  have H1 : Hid (SlAt W1 a n c l ∧ TS w W1 w.heap.size (w.heap.size + 1 + 1) h (.slice a n c) ∧ RvAt W1 (w.heap.size + 1) 46 m.cs) := ⟨H.out.1.below b1, H.out.2.2.2.1.below b1, H.out.2.2.2.2.below b1⟩
  clear b1 l0 hW
  by_cases hi : 0 ≤ i ∧ i < (n : Int)
  · have eb : (decide (0 ≤ i) && decide (i < (n : Int))) = true := by simp; omega
    rw [eb]
    clear eb
    obtain ⟨k, hk⟩ : ∃ k : Nat, i = (k : Int) := ⟨i.toNat, by omega⟩
    subst hk
    have hkn : k < n := by omega
    have hkl : k < l.length := by rw [H.out.2.2.1]; exact hkn
    have hin0 : (0 : Int) ≤ (k : Int) := by omega
    have hin1 : (k : Int) < (n : Int) := by omega
    obtain ⟨b, o, rfl⟩ := H1.out.1.some' (by omega)
    have lt := fun q : Later W1 => (H1.out.2.1.var.below q.below).tld
    have c16 := fun q : Later W1 => (H1.out.2.1.var.below q.below).t16
    have lp := fun q : Later W1 => (H1.out.1.below q.below).ld (gtP_at hkl)
    have lm := fun q : Later W1 => (H1.out.2.2.below q.below).mld
    have EL : Hid (hearL l (k : Int) m = l.set k (takeP (gtP l k) m)) := show hearL l (k : Int) m = _ by unfold hearL; rw [if_pos ⟨hin0, by omega⟩]; rfl
    obtain ⟨p, hp⟩ : ∃ p, gtP l k = p := ⟨_, rfl⟩
    simp only [hp] at lp
    rw [hp] at EL
    clear hp hkl hi
    have P : Hid (∀ q : Later W1, _) := fun q : Later W1 => take_any p m q.val
    obtain ⟨t, ht⟩ : ∃ t, takeP p m = t := ⟨_, rfl⟩
    rw [ht] at EL P
    clear ht
    go_wp2_with fail
    refine wp_region_later_tail 9 (by kernel_rfl) (by kernel_rfl) ?_
    simp only [List.take_succ_cons, List.take_zero]
    repeat (go_big_quiet_step (first
      | exact rfl
      | (go_at_call 69; with_reducible exact Calls.later_of (P.out _))))
    refine wpQuiet_nil ?_
    intro u
    simp only [List.drop_succ_cons, List.drop_zero]
    clear lt c16 lp lm P
    go_wp2_with fail
    refine (repl_any h (some ⟨b, o, none⟩) n c l k t u.val (H1.out.1.below u.below) hn hkn).mono ?_
    rintro _ W4 ⟨g', c', rfl, hg', s4, b4⟩
    have T4 := H1.out.2.1.below u.below
    obtain ⟨U, sU, h1, h2, g⟩ := (T4.below b4).tell (y := .slice (some ⟨g', 0, none⟩) n c') rfl
    have hdl := T4.out.lt
    have G : Hid (RvAt U (w.heap.size + 1 + 1) 39 (trc h (.slice (some ⟨g', 0, none⟩) n c')) ∧ SlAt U (some ⟨g', 0, none⟩) n c' (l.set k t) ∧ Below w.heap.size w U) := ⟨h1, s4.keptBut g (fun x hx e => by cases hx; simp only [Option.some.injEq] at e; omega), h2⟩
    clear h1 h2 g s4 b4 hdl hg' T4
    go_wp2
    refine bodyPost_ret (results_row rtT Tryz.results44 _ _ _ _ rfl G.out.1 (trc_size _ _)) rfl ?_
    refine ⟨some ⟨g', 0, none⟩, c', rfl, ?_, G.out.2.2⟩
    rw [EL.out]
    exact G.out.2.1
  · have eb : (decide (0 ≤ i) && decide (i < (n : Int))) = false := by simp; omega
    rw [eb]
    clear eb
    have EL : Hid (hearL l i m = l) := show hearL l i m = _ by unfold hearL; rw [if_neg (by have := H.out.2.2.1; omega)]
    have l1 := H1.out.2.1.var.tld
    obtain ⟨U, sU, h1, h2, g⟩ := H1.out.2.1.tell (y := .slice a n c) rfl
    have sl : SlAt U a n c l := by
      have hs := H1.out.1
      by_cases h0 : 0 < n
      · exact hs.keptBut g (fun x hx e => by have := LT.out x hx h0; simp only [Option.some.injEq] at e; omega)
      · have hl := hs.len
        have hle : l = [] := List.eq_nil_of_length_eq_zero (by omega)
        subst hle
        exact ⟨⟨hs.len, hs.cap, hs.max, hs.nil, fun x _ h1 => absurd h1 h0⟩, fun x _ h1 => absurd h1 h0⟩
    have G : Hid (RvAt U (w.heap.size + 1 + 1) 39 (trc h (.slice a n c)) ∧ SlAt U a n c l ∧ Below w.heap.size w U) := ⟨h1, sl, h2⟩
    clear h1 h2 g H1 hi sl
    go_wp2
    refine bodyPost_ret (results_row rtT Tryz.results44 _ _ _ _ rfl G.out.1 (trc_size _ _)) rfl ?_
    refine ⟨a, c, rfl, ?_, G.out.2.2⟩
    rw [EL.out]
    exact G.out.2.1
end S11
end
end Go.Proofs.YtlchejbggnbccaaGreat
