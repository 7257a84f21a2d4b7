/-
  The definition: the walks of has, with, most, NewWhile, Prop, quiet and learns, each for every tree.
-/
import Derived.Test.YtfjigbmhheekbaaDee
namespace Go.Proofs.Ytfjigbmhheekbaa
set_option linter.unusedVariables false
set_option maxRecDepth 4000
set_option linter.unusedSimpArgs false
open Go.RowKit

attribute [local go_sem ↓] ldP stP stB stU stW ldT stT st32 alP apE bs32
attribute [local go_sem] alP_run
/-- A tree's variable, the result's, and a port's. -/
structure TV (w W : World) (t d z : Nat) (h : Hd) (a : Option Addr) (n c : Nat) (l : List Pt) (p : Pt) : Prop where
  tre : TS w W t d h (.slice a n c)
  sl : SlAt W a n c l
  pv : RvAt W z 36 p.cs
  hz : w.heap.size ≤ z
  ht : w.heap.size ≤ t
  hd : t ≠ d
  ne : ∀ x, a = some x → x.block ≠ z
theorem TV.below {w W V : World} {t d z n c : Nat} {a : Option Addr} {h : Hd} {l : List Pt} {p : Pt} (s : TV w W t d z h a n c l p) (e : Below W.heap.size W V) : TV w V t d z h a n c l p := ⟨s.tre.below e, s.sl.below e, s.pv.below e, s.hz, s.ht, s.hd, s.ne⟩
theorem TV.go {w W V : World} {t d z n c : Nat} {a : Option Addr} {h : Hd} {l : List Pt} {p q : Pt} (s : TV w W t d z h a n c l p) (r : RvAt V z 36 q.cs) (e : W.grownBy V (some z)) : TV w V t d z h a n c l q :=
  have n1 : t ≠ z := s.tre.var.apart s.pv (by decide)
  have n2 : d ≠ z := s.tre.out.apart s.pv (by decide)
  ⟨⟨s.tre.var.keptBut e (by simpa using n1), s.tre.out.keptBut e (by simpa using n2), gro s.tre.bel e s.hz s.tre.bel.size, s.tre.hd⟩, s.sl.keptBut e (fun x hx e' => s.ne x hx (by simpa using e')), r, s.hz, s.ht, s.hd, s.ne⟩
theorem TV.setB {w W : World} {t d z n c j : Nat} {a : Option Addr} {h : Hd} {l : List Pt} {p : Pt} (s : TV w W t d z h a n c l p) (hk : kdP[j]? = some none) (x : Bool) : ∃ V, (stS 4 (.pointer (some ⟨z, j, none⟩)) (.bool x)).run Try.prog W = .ok () V ∧ TV w V t d z h a n c l (p.setB j hk x) := by
  obtain ⟨V, e, h1, g⟩ := s.pv.setB hk x
  exact ⟨V, e, s.go h1 g⟩
theorem TV.setU {w W : World} {t d z n c j : Nat} {a : Option Addr} {h : Hd} {l : List Pt} {p : Pt} (s : TV w W t d z h a n c l p) (hk : kdP[j]? = some (some .u8)) {x : Int} (hx : 0 ≤ x ∧ x ≤ 255) : ∃ V, (stS 5 (.pointer (some ⟨z, j, none⟩)) (.int .u8 x)).run Try.prog W = .ok () V ∧ TV w V t d z h a n c l (p.setU j x) := by
  obtain ⟨V, e, h1, g⟩ := s.pv.setU hk hx
  exact ⟨V, e, s.go h1 g⟩
theorem TV.setN {w W : World} {t d z n c j : Nat} {a : Option Addr} {h : Hd} {l : List Pt} {p : Pt} (s : TV w W t d z h a n c l p) (hk : kdP[j]? = some (some .i64)) {x : Int} (hx : (Lit.int .i64 x).wf = true) : ∃ V, (stS 34 (.pointer (some ⟨z, j, none⟩)) (.int .i64 x)).run Try.prog W = .ok () V ∧ TV w V t d z h a n c l (p.setN j hk x hx) := by
  obtain ⟨V, e, h1, g⟩ := s.pv.rset (v := .int .i64 x) infoS (List.getElem?_eq_some_iff.1 hk).1 rfl (fit_num hk hx)
  exact ⟨V, e, s.go h1 g⟩
theorem TV.st {w W : World} {t d z n c : Nat} {a : Option Addr} {h : Hd} {l : List Pt} {p : Pt} (s : TV w W t d z h a n c l p) (q : Pt) : ∃ V, (stS 36 (.pointer (some ⟨z, 0, none⟩)) (.agg q.cs)).run Try.prog W = .ok () V ∧ TV w V t d z h a n c l q := by
  obtain ⟨V, e, h1, g⟩ := s.pv.pst (q := q)
  exact ⟨V, e, s.go h1 g⟩
/-- The ports that a call tells: those that it was handed, or new ones. -/
def Fr (w : World) (a a' : Option Addr) : Prop := a' = a ∨ ∀ x, a' = some x → w.heap.size ≤ x.block
/-- The tree's variable is another tree. -/
theorem TV.tree {w W X : World} {t d z n c c' : Nat} {a a' : Option Addr} {h : Hd} {l L : List Pt} {p : Pt} (s : TV w W t d z h a n c l p) (b : Below W.heap.size W X) (hs : SlAt X a' n c' L) (f : Fr W a a') : ∃ V, (stS 43 (.pointer (some ⟨t, 0, none⟩)) (.agg (trc h (.slice a' n c')))).run Try.prog X = .ok () V ∧ TV w V t d z h a' n c' L p := by
  have k := s.below b
  have n1 : t ≠ z := s.tre.var.apart s.pv (by decide)
  obtain ⟨V, e, rV, gV⟩ := k.tre.var.tst (g := h) (y := .slice a' n c') rfl
  refine ⟨V, e, ⟨rV, k.tre.out.keptBut gV (by have := s.hd; simp; exact fun e => this e.symm), gro k.tre.bel gV s.ht k.tre.bel.size, s.tre.hd⟩, hs.keptT k.tre.var gV, k.pv.keptBut gV (by simp; exact fun e => n1 e.symm), s.hz, s.ht, s.hd, fun x hx e' => ?_⟩
  rcases f with f | f
  · rw [f] at hx
    exact s.ne x hx e'
  · have h1 := f x hx
    have h2 := s.pv.lt
    omega
abbrev TRsF (w : World) (h : Hd) (a : Option Addr) (n : Nat) (L : List Pt) (r : Ending) (w' : World) : Prop := ∃ a' c', r = .returned (.agg (trc h (.slice a' n c'))) ∧ SlAt w' a' n c' L ∧ Fr w a a' ∧ Below w.heap.size w w'
theorem has_any (h : Hd) (a : Option Addr) (n c : Nat) (i : Int) (w : World) :
    Calls Try.prog 23 #[.agg (trc h (.slice a n c)), .int .i64 i] w fun r w' => r = .returned (.bool (decide (0 ≤ i) && decide (i < n))) ∧ Below w.heap.size w w' := by
  obtain ⟨W, hW, r0, bW, zW⟩ := one_t w h (.slice a n c)
  have c16 := r0.t16
  have F : Hid (Below w.heap.size w W) := bW
  clear r0 bW zW
  go_enter Try.func23, Try.ntmps23
  by_cases h1 : 0 ≤ i
  · by_cases h2 : i < (n : Int)
    · go_wp2
      go_ret
      exact ⟨by simp [h1, h2], F.out⟩
    · go_wp2
      go_ret
      exact ⟨by simp [h1, h2], F.out⟩
  · go_wp2
    go_ret
    exact ⟨by simp; omega, F.out⟩
theorem has_in {h : Hd} {a : Option Addr} {n c k : Nat} {w : World} (hk : k < n) :
    Calls Try.prog 23 #[.agg (trc h (.slice a n c)), .int .i64 (k : Int)] w fun r w' => r = .returned (.bool true) ∧ Below w.heap.size w w' :=
  (has_any h a n c k w).mono fun r w' ⟨hr, hb⟩ => ⟨by rw [hr]; simp; omega, hb⟩
theorem has_out {h : Hd} {a : Option Addr} {n c : Nat} {i : Int} {w : World} (hk : ¬ (0 ≤ i ∧ i < n)) :
    Calls Try.prog 23 #[.agg (trc h (.slice a n c)), .int .i64 i] w fun r w' => r = .returned (.bool false) ∧ Below w.heap.size w w' :=
  (has_any h a n c i w).mono fun r w' ⟨hr, hb⟩ => ⟨by rw [hr]; simp; omega, hb⟩
theorem most_any (a b : Int) (ha : 0 ≤ a ∧ a ≤ 255) (hb : 0 ≤ b ∧ b ≤ 255) (w : World) : Calls Try.prog 27 #[.int .i64 (a + b)] w fun r w' => r = .returned (.int .u8 (sumN a b)) ∧ Below w.heap.size w w' := by
  by_cases h : 255 < a + b
  · have e : sumN a b = 255 := by unfold sumN; rw [if_pos h]
    rw [e]
    have h' : ¬ a + b ≤ 255 := by omega
    clear e
    go_enter Try.func27, Try.ntmps27
    go_wp2
    go_ret
    exact ⟨rfl, Below.refl _ _⟩
  · have e : sumN a b = a + b := by unfold sumN; rw [if_neg h]
    rw [e]
    have h' : a + b ≤ 255 := by omega
    clear e
    go_enter Try.func27, Try.ntmps27
    go_wp2
    go_ret
    exact ⟨rfl, Below.refl _ _⟩
set_option maxHeartbeats 4000000 in
theorem with_any (h : Hd) (a : Option Addr) (n c : Nat) (l : List Pt) (k : Nat) (p : Pt) (w : World) (hs : SlAt w a n c l) (hn : n ≤ 1000) (hk : k < n) :
    Calls Try.prog 28 #[.agg (trc h (.slice a n c)), .int .i64 (k : Int), .agg p.cs] w fun r w' => TRsF w h a n (l.set k p) r w' := by
  obtain ⟨W, hW, r0, rp, r1, bW, zW⟩ := three_t w h (.slice a n c) p
  have hl := hs.len
  obtain ⟨v, W2, ap, o2, g2⟩ := (Own.nil W (w.heap.size + 3)).app (hs.below bW) (by have := hs.len; simp; omega) (by omega) 41
  have b2 : Below W.heap.size W W2 := below_of_grown g2 (Nat.le_refl _) (fun j e => by cases e)
  rw [List.nil_append] at o2
  have c16 := r0.t16
  have lp := (rp.below b2).pld
  have hin0 : (0 : Int) ≤ (k : Int) := by omega
  have hin1 : (k : Int) < (n : Int) := by omega
  rcases o2.pat with ⟨hv, hle⟩ | ⟨g, cc, hv, hg, hp⟩
  · rw [hle] at hl; simp at hl; omega
  · rw [hl] at hv
    subst hv
    obtain ⟨V, sV, pV, gV⟩ := hp.stp (i := k) (p := p) (by omega) rfl
    have q0 := (r0.below b2).keptBut gV (by simp; omega)
    have q1 := (r1.below b2).keptBut gV (by simp; omega)
    obtain ⟨W3, s3, r3, g3⟩ := q0.tset (y := .slice (some ⟨g, 0, none⟩) n cc) rfl
    have q3 := q1.keptBut g3 (by simp only [ne_eq, Option.some.injEq]; omega)
    have p3 := pV.keptBut g3 (by simp; omega)
    have l3 := r3.tld
    obtain ⟨W4, s4, r4, g4⟩ := q3.tst (g := h) (y := .slice (some ⟨g, 0, none⟩) n cc) rfl
    have p4 := p3.keptBut g4 (by simp; omega)
    have b0 : Below w.heap.size w V := gro (below_over bW b2) gV (by omega) (below_over bW b2).size
    have b3 : Below w.heap.size w W3 := gro b0 g3 (Nat.le_refl _) b0.size
    have b4 : Below w.heap.size w W4 := gro b3 g4 (by omega) b3.size
    have s6' := p4.sl
    rw [List.length_set, hl] at s6'
    have F : Hid (RvAt W4 (w.heap.size + 1 + 1) 43 (trc h (.slice (some ⟨g, 0, none⟩) n cc)) ∧ SlAt W4 (some ⟨g, 0, none⟩) n cc (l.set k p) ∧ Fr w a (some ⟨g, 0, none⟩) ∧ Below w.heap.size w W4) := ⟨r4, s6', Or.inr (fun x e => by cases e; show w.heap.size ≤ g; omega), b4⟩
    clear hs hn hk r0 rp r1 bW zW o2 g2 b2 hp pV gV q0 q1 r3 g3 q3 p3 r4 g4 p4 b0 b3 b4 s6' hg hl
    go_enter Try.func28, Try.ntmps28
    go_wp2
    refine bodyPost_ret (results_row rtT Try.results28 _ _ _ _ rfl F.out.1 (trc_size _ _)) rfl ?_
    exact ⟨some ⟨g, 0, none⟩, cc, rfl, F.out.2⟩
set_option maxHeartbeats 2000000 in
theorem rnew_out (h : Hd) (a : Option Addr) (n c : Nat) (l : List Pt) (i : Int) (w : World) (hs : SlAt w a n c l) (hi : ¬ (0 ≤ i ∧ i < n)) :
    Calls Try.prog 17 #[.agg (trc h (.slice a n c)), .int .i64 i] w fun r w' => TRsF w h a n l r w' := by
  obtain ⟨W, hW, r0, r1, bW, zW⟩ := two_t w h (.slice a n c)
  have l0 := r0.tld
  have H : Hid (TS w W w.heap.size (w.heap.size + 1) h (.slice a n c) ∧ SlAt W a n c l) := ⟨⟨r0, r1, bW, by omega⟩, hs.below bW⟩
  have T : Hid _ := has_out (h := h) (a := a) (c := c) (w := W) hi
  clear hs r0 r1 bW zW hi
  go_enter Try.func17, Try.ntmps17
  go_wp2_with fail
  refine Calls.mono T.out ?_
  rintro _ V ⟨rfl, bV⟩
  have lV := (H.out.1.below bV).var.tld
  obtain ⟨U, sU, h1, h2, gU⟩ := (H.out.1.below bV).tell (y := .slice a n c) rfl
  have G : Hid (RvAt U (w.heap.size + 1) 43 (trc h (.slice a n c)) ∧ SlAt U a n c l ∧ Fr w a a ∧ Below w.heap.size w U) := ⟨h1, (H.out.2.below bV).keptT (H.out.1.below bV).out gU, Or.inl rfl, h2⟩
  clear h1 h2 gU bV l0 T
  go_wp2
  refine bodyPost_ret (results_row rtT Try.results17 _ _ _ _ rfl G.out.1 (trc_size _ _)) rfl ?_
  exact ⟨a, c, rfl, G.out.2⟩
set_option maxHeartbeats 2000000 in
theorem rprop_out (h : Hd) (a : Option Addr) (n c : Nat) (l : List Pt) (i : Int) (w : World) (hs : SlAt w a n c l) (hi : ¬ (0 ≤ i ∧ i < n)) :
    Calls Try.prog 15 #[.agg (trc h (.slice a n c)), .int .i64 i] w fun r w' => TRsF w h a n l r w' := by
  obtain ⟨W, hW, r0, r1, bW, zW⟩ := two_t w h (.slice a n c)
  have l0 := r0.tld
  have H : Hid (TS w W w.heap.size (w.heap.size + 1) h (.slice a n c) ∧ SlAt W a n c l) := ⟨⟨r0, r1, bW, by omega⟩, hs.below bW⟩
  have T : Hid _ := has_out (h := h) (a := a) (c := c) (w := W) hi
  clear hs r0 r1 bW zW hi
  go_enter Try.func15, Try.ntmps15
  go_wp2_with fail
  refine Calls.mono T.out ?_
  rintro _ V ⟨rfl, bV⟩
  have lV := (H.out.1.below bV).var.tld
  obtain ⟨U, sU, h1, h2, gU⟩ := (H.out.1.below bV).tell (y := .slice a n c) rfl
  have G : Hid (RvAt U (w.heap.size + 1) 43 (trc h (.slice a n c)) ∧ SlAt U a n c l ∧ Fr w a a ∧ Below w.heap.size w U) := ⟨h1, (H.out.2.below bV).keptT (H.out.1.below bV).out gU, Or.inl rfl, h2⟩
  clear h1 h2 gU bV l0 T
  go_wp2
  refine bodyPost_ret (results_row rtT Try.results15 _ _ _ _ rfl G.out.1 (trc_size _ _)) rfl ?_
  exact ⟨a, c, rfl, G.out.2⟩
set_option maxHeartbeats 4000000 in
theorem rnew_in (h : Hd) (a : Option Addr) (n c : Nat) (l : List Pt) (k : Nat) (w : World) (hs : SlAt w a n c l) (hn : n ≤ 1000) (hk : k < n) :
    Calls Try.prog 17 #[.agg (trc h (.slice a n c)), .int .i64 (k : Int)] w fun r w' => TRsF w h a n (l.set k (nwP h (gtP l k))) r w' := by
  obtain ⟨g, o, rfl⟩ := hs.some' (by omega)
  have HL : Hid (l.length = n ∧ n ≤ 1000 ∧ k < n ∧ k < l.length) := ⟨hs.len, hn, hk, by rw [hs.len]; exact hk⟩
  have hin0 : (0 : Int) ≤ (k : Int) := by omega
  have hin1 : (k : Int) < (n : Int) := by omega
  obtain ⟨W, hW, r0, r1, bW, zW⟩ := two_t w h (.slice (some ⟨g, o, none⟩) n c)
  have l0 := r0.tld
  have GL : Hid (g < w.heap.size) := hs.low (by omega)
  have H : Hid (TS w W w.heap.size (w.heap.size + 1) h (.slice (some ⟨g, o, none⟩) n c) ∧ SlAt W (some ⟨g, o, none⟩) n c l) := ⟨⟨r0, r1, bW, by omega⟩, hs.below bW⟩
  have T : Hid _ := has_in (h := h) (a := some ⟨g, o, none⟩) (c := c) (w := W) hk
  obtain ⟨LL, hLL⟩ : ∃ z, l.set k (nwP h (gtP l k)) = z := ⟨_, rfl⟩
  rw [hLL]
  have EL : Hid (l.set k (nwP h (gtP l k)) = LL) := hLL
  obtain ⟨p, hp⟩ : ∃ p, gtP l k = p := ⟨_, rfl⟩
  have HP : Hid (gtP l k = p) := hp
  clear hs hn hk r0 r1 bW zW hLL hp
  by_cases h0 : p.nm 71 = 0
  · have H0 : Hid (p.nm 71 = 0) := h0
    clear h0
    cases h23 : p.bt 23
    · have E : Hid (l.set k (p.setU 71 (sumN (h.nm 13) (h.nm 15))) = LL) := by
        rw [← EL.out, HP.out]
        unfold nwP
        rw [if_pos H0.out, if_neg (by rw [h23]; decide)]
        exact rfl
      have H23 : Hid (p.bt 23 = false) := h23
      clear h23 EL
      go_enter Try.func17, Try.ntmps17
      go_wp2_with fail
      refine Calls.mono T.out ?_
      rintro _ V ⟨rfl, bV⟩
      have K : Hid (TS w V w.heap.size (w.heap.size + 1) h (.slice (some ⟨g, o, none⟩) n c) ∧ SlAt V (some ⟨g, o, none⟩) n c l) := ⟨H.out.1.below bV, H.out.2.below bV⟩
      have c16 := K.out.1.var.t16
      have c71 := K.out.2.cell (gtP_at HL.out.2.2.2) ((gtP l k).num (j := 71) (k := .u8) rfl) (by omega)
      rw [HP.out, H0.out] at c71
      clear bV l0 hW H T
      have lp := K.out.2.ld (gtP_at HL.out.2.2.2)
      rw [HP.out] at lp
      obtain ⟨W0, s0, r0', b0, z0⟩ := var_p V p
      have ltz : w.heap.size ≤ V.heap.size := K.out.1.bel.size
      obtain ⟨Z, hZ⟩ : ∃ Z, V.heap.size = Z := ⟨_, rfl⟩
      rw [hZ] at s0 r0' ltz
      have T0 : Hid (TV w W0 w.heap.size (w.heap.size + 1) Z h (some ⟨g, o, none⟩) n c l p) := ⟨K.out.1.below b0, K.out.2.below b0, r0', ltz, Nat.le_refl _, by omega, fun x e => by cases e; have := GL.out; show g ≠ Z; omega⟩
      clear b0 z0 r0' ltz
      have c23 := T0.out.pv.pbit (j := 23) rfl
      rw [H23.out] at c23
      have c13 := T0.out.tre.var.tnum (j := 13) (k := .u8) rfl
      have c15 := T0.out.tre.var.tnum (j := 15) (k := .u8) rfl
      have u13 := h.u8 hu13
      have u15 := h.u8 hu15
      go_wp2_with fail
      refine (most_any _ _ u13 u15 W0).mono ?_
      rintro _ X ⟨rfl, bX⟩
      obtain ⟨V1, e1, T1⟩ := (T0.out.below bX).setU ku71 (sumB h)
      have S1 : Hid _ := T1
      have lt1 := T1.tre.var.tld
      have lp1 := T1.pv.pld
      clear T1 bX c13 c15 u13 u15 c23 T0
      go_wp2_with fail
      refine (with_any h (some ⟨g, o, none⟩) n c l k _ V1 S1.out.sl HL.out.2.1 HL.out.2.2.1).mono ?_
      rintro _ Y ⟨a2, c2, rfl, s2, f2, b2⟩
      rw [E.out] at s2
      have F2 : Fr w (some ⟨g, o, none⟩) a2 := f2.imp id (fun q x hx => Nat.le_trans S1.out.tre.bel.size (q x hx))
      obtain ⟨U, sU, h1, h2, gU⟩ := (S1.out.tre.below b2).tell (y := .slice a2 n c2) rfl
      have G : Hid (RvAt U (w.heap.size + 1) 43 (trc h (.slice a2 n c2)) ∧ SlAt U a2 n c2 (LL) ∧ Fr w (some ⟨g, o, none⟩) a2 ∧ Below w.heap.size w U) := ⟨h1, s2.keptT (S1.out.tre.below b2).out gU, F2, h2⟩
      clear h1 h2 gU
      go_wp2
      refine bodyPost_ret (results_row rtT Try.results17 _ _ _ _ rfl G.out.1 (trc_size _ _)) rfl ?_
      exact ⟨a2, c2, rfl, G.out.2⟩
    · have E : Hid (l.set k ((p.setU 71 (sumN (h.nm 14) 1)).setB 11 kb11 true) = LL) := by
        rw [← EL.out, HP.out]
        unfold nwP
        rw [if_pos H0.out, if_pos h23]
        exact rfl
      have H23 : Hid (p.bt 23 = true) := h23
      clear h23 EL
      go_enter Try.func17, Try.ntmps17
      go_wp2_with fail
      refine Calls.mono T.out ?_
      rintro _ V ⟨rfl, bV⟩
      have K : Hid (TS w V w.heap.size (w.heap.size + 1) h (.slice (some ⟨g, o, none⟩) n c) ∧ SlAt V (some ⟨g, o, none⟩) n c l) := ⟨H.out.1.below bV, H.out.2.below bV⟩
      have c16 := K.out.1.var.t16
      have c71 := K.out.2.cell (gtP_at HL.out.2.2.2) ((gtP l k).num (j := 71) (k := .u8) rfl) (by omega)
      rw [HP.out, H0.out] at c71
      clear bV l0 hW H T
      have lp := K.out.2.ld (gtP_at HL.out.2.2.2)
      rw [HP.out] at lp
      obtain ⟨W0, s0, r0', b0, z0⟩ := var_p V p
      have ltz : w.heap.size ≤ V.heap.size := K.out.1.bel.size
      obtain ⟨Z, hZ⟩ : ∃ Z, V.heap.size = Z := ⟨_, rfl⟩
      rw [hZ] at s0 r0' ltz
      have T0 : Hid (TV w W0 w.heap.size (w.heap.size + 1) Z h (some ⟨g, o, none⟩) n c l p) := ⟨K.out.1.below b0, K.out.2.below b0, r0', ltz, Nat.le_refl _, by omega, fun x e => by cases e; have := GL.out; show g ≠ Z; omega⟩
      clear b0 z0 r0' ltz
      have c23 := T0.out.pv.pbit (j := 23) rfl
      rw [H23.out] at c23
      have c14 := T0.out.tre.var.tnum (j := 14) (k := .u8) rfl
      have u14 := h.u8 hu14
      go_wp2_with fail
      refine (most_any _ 1 u14 (by decide) W0).mono ?_
      rintro _ X ⟨rfl, bX⟩
      obtain ⟨V1, e1, T1⟩ := (T0.out.below bX).setU ku71 (sumA h)
      obtain ⟨V2, e2, T2⟩ := T1.setB kb11 true
      have S1 : Hid _ := T2
      have lt1 := T2.tre.var.tld
      have lp1 := T2.pv.pld
      clear T1 T2 bX c14 u14 c23 T0
      go_wp2_with fail
      refine (with_any h (some ⟨g, o, none⟩) n c l k _ V2 S1.out.sl HL.out.2.1 HL.out.2.2.1).mono ?_
      rintro _ Y ⟨a2, c2, rfl, s2, f2, b2⟩
      rw [E.out] at s2
      have F2 : Fr w (some ⟨g, o, none⟩) a2 := f2.imp id (fun q x hx => Nat.le_trans S1.out.tre.bel.size (q x hx))
      obtain ⟨U, sU, h1, h2, gU⟩ := (S1.out.tre.below b2).tell (y := .slice a2 n c2) rfl
      have G : Hid (RvAt U (w.heap.size + 1) 43 (trc h (.slice a2 n c2)) ∧ SlAt U a2 n c2 (LL) ∧ Fr w (some ⟨g, o, none⟩) a2 ∧ Below w.heap.size w U) := ⟨h1, s2.keptT (S1.out.tre.below b2).out gU, F2, h2⟩
      clear h1 h2 gU
      go_wp2
      refine bodyPost_ret (results_row rtT Try.results17 _ _ _ _ rfl G.out.1 (trc_size _ _)) rfl ?_
      exact ⟨a2, c2, rfl, G.out.2⟩
  · have E : Hid (l = LL) := by
      rw [← EL.out]
      unfold nwP
      rw [HP.out, if_neg h0, ← HP.out, set_self HL.out.2.2.2]
      exact rfl
    have x0 : (p.nm 71 == 0) = false := beq_eq_false_iff_ne.2 h0
    clear h0 EL
    go_enter Try.func17, Try.ntmps17
    go_wp2_with fail
    refine Calls.mono T.out ?_
    rintro _ V ⟨rfl, bV⟩
    have K : Hid (TS w V w.heap.size (w.heap.size + 1) h (.slice (some ⟨g, o, none⟩) n c) ∧ SlAt V (some ⟨g, o, none⟩) n c l) := ⟨H.out.1.below bV, H.out.2.below bV⟩
    have c16 := K.out.1.var.t16
    have lV := K.out.1.var.tld
    have c71 := K.out.2.cell (gtP_at HL.out.2.2.2) ((gtP l k).num (j := 71) (k := .u8) rfl) (by omega)
    rw [HP.out] at c71
    have s2 := K.out.2
    rw [E.out] at s2
    clear bV l0 hW H T
    obtain ⟨U, sU, h1, h2, gU⟩ := (K.out.1).tell (y := .slice (some ⟨g, o, none⟩) n c) rfl
    have G : Hid (RvAt U (w.heap.size + 1) 43 (trc h (.slice (some ⟨g, o, none⟩) n c)) ∧ SlAt U (some ⟨g, o, none⟩) n c (LL) ∧ Fr w (some ⟨g, o, none⟩) (some ⟨g, o, none⟩) ∧ Below w.heap.size w U) := ⟨h1, s2.keptT (K.out.1).out gU, Or.inl rfl, h2⟩
    clear h1 h2 gU
    go_wp2
    refine bodyPost_ret (results_row rtT Try.results17 _ _ _ _ rfl G.out.1 (trc_size _ _)) rfl ?_
    exact ⟨some ⟨g, o, none⟩, c, rfl, G.out.2⟩
end Go.Proofs.Ytfjigbmhheekbaa
