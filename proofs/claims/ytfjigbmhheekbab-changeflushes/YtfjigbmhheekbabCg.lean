/-
  A port that is changed through a pointer, by closures; the tree that comes of it: the walks of changed, sum, NewWhile and of the six deeds.
-/
import Derived.Test.YtfjigbmhheekbabPur
namespace Go.Proofs.Ytfjigbmhheekbab
set_option linter.unusedVariables false
set_option maxRecDepth 4000
set_option linter.unusedSimpArgs false
open Go.RowKit

/-- A port of a block of ports, handed on by a pointer: what it has become since w. -/
structure PQ (w W : World) (g c i q : Nat) (l : List Pt) (p : Pt) : Prop where
  pat : PAt W g c (l.set i p)
  gr : w.grownBy W (some g)
  hi : i < l.length
  hq : q = i * 77
theorem PQ.start {W : World} {g c i q : Nat} {l : List Pt} {p : Pt} (h : PAt W g c l) (hp : l[i]? = some p) (hq : q = i * 77) : PQ W W g c i q l p := by
  have hi : i < l.length := (List.getElem?_eq_some_iff.1 hp).1
  refine ⟨?_, World.grownBy.refl _ _, hi, hq⟩
  have e : gtP l i = p := by
    have := gtP_at hi
    rw [hp] at this
    exact (Option.some.inj this).symm
  rw [← e, set_self hi]
  exact h
theorem PQ.at' {w W : World} {g c i q : Nat} {l : List Pt} {p : Pt} (s : PQ w W g c i q l p) : (l.set i p)[i]? = some p := by
  rw [List.getElem?_set, if_pos rfl, if_pos s.hi]
theorem PQ.go {w W V : World} {g c i q : Nat} {l : List Pt} {p r : Pt} (s : PQ w W g c i q l p) (hp : PAt V g c ((l.set i p).set i r)) (e : W.grownBy V (some g)) : PQ w V g c i q l r :=
  ⟨by rw [List.set_set] at hp; exact hp, grown_self s.gr e, s.hi, s.hq⟩
theorem PQ.below {w W V : World} {g c i q : Nat} {l : List Pt} {p : Pt} (s : PQ w W g c i q l p) (e : Below W.heap.size W V) : PQ w V g c i q l p := ⟨s.pat.below e, grown_self s.gr (grown_of_below e _), s.hi, s.hq⟩
theorem PQ.setB {w W : World} {g c i q j : Nat} {l : List Pt} {p : Pt} (s : PQ w W g c i q l p) (hk : kdP[j]? = some none) (x : Bool) : ∃ V, (stS 4 (.pointer (some ⟨g, q + j, none⟩)) (.bool x)).run Try.prog W = .ok () V ∧ PQ w V g c i q l (p.setB j hk x) := by
  obtain ⟨V, e, h1, g1⟩ := s.pat.st1 (q := q + j) (v := .bool x) s.at' info2.1 (by rw [← lenP]; exact (List.getElem?_eq_some_iff.1 hk).1) rfl (fit_bit hk) (by rw [s.hq])
  exact ⟨V, e, s.go h1 g1⟩
theorem PQ.setU {w W : World} {g c i q j : Nat} {l : List Pt} {p : Pt} (s : PQ w W g c i q l p) (hk : kdP[j]? = some (some .u8)) {x : Int} (hx : 0 ≤ x ∧ x ≤ 255) : ∃ V, (stS 5 (.pointer (some ⟨g, q + j, none⟩)) (.int .u8 x)).run Try.prog W = .ok () V ∧ PQ w V g c i q l (p.setU j x) := by
  obtain ⟨V, e, h1, g1⟩ := s.pat.st1 (q := q + j) (v := .int .u8 x) s.at' info2.2 (by rw [← lenP]; exact (List.getElem?_eq_some_iff.1 hk).1) rfl (fit_num hk (wf8 hx)) (by rw [s.hq])
  rw [p.setU_is hk (wf8 hx)]
  exact ⟨V, e, s.go h1 g1⟩
theorem PQ.setN {w W : World} {g c i q j : Nat} {l : List Pt} {p : Pt} (s : PQ w W g c i q l p) {t : TypeId} (ht : (Try.prog.info? t).map (·.size) = some 1) (hk : kdP[j]? = some (some .i64)) {x : Int} (hx : (Lit.int .i64 x).wf = true) : ∃ V, (stS t (.pointer (some ⟨g, q + j, none⟩)) (.int .i64 x)).run Try.prog W = .ok () V ∧ PQ w V g c i q l (p.setN j hk x hx) := by
  obtain ⟨V, e, h1, g1⟩ := s.pat.st1 (q := q + j) (v := .int .i64 x) s.at' ht (by rw [← lenP]; exact (List.getElem?_eq_some_iff.1 hk).1) rfl (fit_num hk hx) (by rw [s.hq])
  exact ⟨V, e, s.go h1 g1⟩
theorem PQ.num {w W : World} {g c i q j : Nat} {l : List Pt} {p : Pt} {k : IntKind} (s : PQ w W g c i q l p) (hk : kdP[j]? = some (some k)) : W.cell? ⟨g, q + j, none⟩ = some (.int k (p.nm j)) := s.pat.num s.at' hk (by rw [s.hq])
theorem PQ.bit {w W : World} {g c i q j : Nat} {l : List Pt} {p : Pt} (s : PQ w W g c i q l p) (hk : kdP[j]? = some none) : W.cell? ⟨g, q + j, none⟩ = some (.bool (p.bt j)) := s.pat.bit s.at' hk (by rw [s.hq])
/-- What 'changed' asks of a change. -/
def Chg (F : Nat) (f : Pt → Pt) : Prop := ∀ (W : World) (g c i q : Nat) (l : List Pt) (p : Pt), PAt W g c l → l[i]? = some p → q = i * 77 →
  Calls Try.prog F #[.pointer (some ⟨g, q, none⟩)] W fun r W' => r = .returned (.tuple #[]) ∧ PAt W' g c (l.set i (f p)) ∧ W.grownBy W' (some g)
attribute [local go_sem ↓] ldP stP stB stU stW ldT stT st32
set_option maxHeartbeats 1000000 in
theorem chg_quiet : Chg 20 quiP := by
  intro W g c i q l p hp hi hq
  have s0 := PQ.start hp hi hq
  obtain ⟨V1, e1, s1⟩ := s0.setB kb6 true
  obtain ⟨V2, e2, s2⟩ := s1.setB kb26 false
  obtain ⟨V3, e3, s3⟩ := s2.setU ku71 u0
  obtain ⟨V4, e4, s4⟩ := s3.setN infoS kn74 wi1
  have F : Hid (PAt V4 g c (l.set i (quiP p)) ∧ W.grownBy V4 (some g)) := ⟨s4.pat, s4.gr⟩
  clear hp hi hq s0 s1 s2 s3 s4
  go_enter Try.func20, Try.ntmps20
  go_wp2
  go_end0
  exact ⟨rfl, F.out.1, F.out.2⟩
set_option maxHeartbeats 1000000 in
theorem chg_learns : Chg 21 lrnP := by
  intro W g c i q l p hp hi hq
  have s0 := PQ.start hp hi hq
  obtain ⟨V1, e1, s1⟩ := s0.setB kb17 false
  obtain ⟨V2, e2, s2⟩ := s1.setB kb19 false
  obtain ⟨V3, e3, s3⟩ := s2.setB kb18 false
  obtain ⟨V4, e4, s4⟩ := s3.setB kb27 false
  obtain ⟨V5, e5, s5⟩ := s4.setN infoS kn74 wi2
  have F : Hid (PAt V5 g c (l.set i (lrnP p)) ∧ W.grownBy V5 (some g)) := ⟨s5.pat, s5.gr⟩
  clear hp hi hq s0 s1 s2 s3 s4 s5
  go_enter Try.func21, Try.ntmps21
  go_wp2
  go_end0
  exact ⟨rfl, F.out.1, F.out.2⟩
set_option maxHeartbeats 1000000 in
theorem chg_detected : Chg 24 actP := by
  intro W g c i q l p hp hi hq
  have s0 := PQ.start hp hi hq
  obtain ⟨V1, e1, s1⟩ := s0.setB kb11 true
  obtain ⟨V2, e2, s2⟩ := s1.setN infoS kn74 wi3
  have F : Hid (PAt V2 g c (l.set i (actP p)) ∧ W.grownBy V2 (some g)) := ⟨s2.pat, s2.gr⟩
  clear hp hi hq s0 s1 s2
  go_enter Try.func24, Try.ntmps24
  go_wp2
  go_end0
  exact ⟨rfl, F.out.1, F.out.2⟩
set_option maxHeartbeats 1000000 in
theorem chg_propagating : Chg 26 flsP := by
  intro W g c i q l p hp hi hq
  have s0 := PQ.start hp hi hq
  obtain ⟨V1, e1, s1⟩ := s0.setB kb6 true
  obtain ⟨V2, e2, s2⟩ := s1.setB kb27 false
  have F : Hid (PAt V2 g c (l.set i (flsP p)) ∧ W.grownBy V2 (some g)) := ⟨s2.pat, s2.gr⟩
  clear hp hi hq s0 s1 s2
  go_enter Try.func26, Try.ntmps26
  go_wp2
  go_end0
  exact ⟨rfl, F.out.1, F.out.2⟩
set_option maxHeartbeats 1000000 in
theorem chg_acknowledged : Chg 27 ackP := by
  intro W g c i q l p hp hi hq
  have s0 := PQ.start hp hi hq
  obtain ⟨V1, e1, s1⟩ := s0.setU ku71 u0
  obtain ⟨V2, e2, s2⟩ := s1.setB kb18 false
  have F : Hid (PAt V2 g c (l.set i (ackP p)) ∧ W.grownBy V2 (some g)) := ⟨s2.pat, s2.gr⟩
  clear hp hi hq s0 s1 s2
  go_enter Try.func27, Try.ntmps27
  go_wp2
  go_end0
  exact ⟨rfl, F.out.1, F.out.2⟩
set_option maxHeartbeats 1000000 in
theorem chg_notified : Chg 25 heaP := by
  intro W g c i q l p hp hi hq
  have s0 := PQ.start hp hi hq
  obtain ⟨V1, e1, s1⟩ := s0.setB kb19 false
  obtain ⟨V2, e2, s2⟩ := s1.setB kb17 false
  have c26 := s2.bit (j := 26) rfl
  have c30 := s2.num (j := 30) (k := .i64) rfl
  rw [setB_bt _ _ _ (by decide), setB_bt _ _ _ (by decide)] at c26
  rw [setB_nm _ _ _ (by decide), setB_nm _ _ _ (by decide)] at c30
  obtain ⟨A, hA⟩ : ∃ z, p.bt 26 = z := ⟨_, rfl⟩
  obtain ⟨B, hB⟩ : ∃ z, (p.nm 30 == 4) = z := ⟨_, rfl⟩
  obtain ⟨V3, e3, s3⟩ := s2.setB kb26 (A || B)
  have F : Hid (PAt V3 g c (l.set i (heaP p)) ∧ W.grownBy V3 (some g)) := by
    unfold heaP
    rw [hA, hB]
    exact ⟨s3.pat, s3.gr⟩
  rw [hA] at c26
  clear hp hi hq s0 s1 s2 s3
  cases A
  · cases B
    · simp only [Bool.or_self] at e3
      clear hA
      go_enter Try.func25, Try.ntmps25
      go_wp2
      go_end0
      exact ⟨rfl, F.out.1, F.out.2⟩
    · have h4 : p.nm 30 = 4 := by simpa using hB
      rw [h4] at c30
      simp only [Bool.false_or] at e3
      clear hA hB h4
      go_enter Try.func25, Try.ntmps25
      go_wp2
      go_end0
      exact ⟨rfl, F.out.1, F.out.2⟩
  · simp only [Bool.true_or] at e3
    clear hA hB
    go_enter Try.func25, Try.ntmps25
    go_wp2
    go_end0
    exact ⟨rfl, F.out.1, F.out.2⟩
theorem sum_any (a b : Int) (ha : 0 ≤ a ∧ a ≤ 255) (hb : 0 ≤ b ∧ b ≤ 255) (w : World) : Calls Try.prog 30 #[.int .u8 a, .int .u8 b] w fun r w' => r = .returned (.int .u8 (sumN a b)) ∧ Below w.heap.size w w' := by
  by_cases h : 255 < a + b
  · have e : sumN a b = 255 := by unfold sumN; rw [if_pos h]
    rw [e]
    have h' : ¬ a + b ≤ 255 := by omega
    clear e
    go_enter Try.func30, Try.ntmps30
    go_wp2
    go_ret
    exact ⟨rfl, Below.refl _ _⟩
  · have e : sumN a b = a + b := by unfold sumN; rw [if_neg h]
    rw [e]
    have h' : a + b ≤ 255 := by omega
    clear e
    go_enter Try.func30, Try.ntmps30
    go_wp2
    go_ret
    exact ⟨rfl, Below.refl _ _⟩
set_option maxHeartbeats 1000000 in
theorem chg_new (W : World) (g c i q tb : Nat) (l : List Pt) (p : Pt) (h : Hd) (x : Value) (hp : PAt W g c l) (hi : l[i]? = some p) (hq : q = i * 77) (ht : RvAt W tb 31 (trc h x)) :
    Calls Try.prog 29 #[.pointer (some ⟨g, q, none⟩), .pointer (some ⟨tb, 0, none⟩)] W fun r W' => r = .returned (.tuple #[]) ∧ PAt W' g c (l.set i (nwP h p)) ∧ W.grownBy W' (some g) := by
  have s0 := PQ.start hp hi hq
  have c71 := s0.num (j := 71) (k := .u8) rfl
  have c23 := s0.bit (j := 23) rfl
  have c13 := ht.tnum (j := 13) (k := .u8) rfl
  have c14 := ht.tnum (j := 14) (k := .u8) rfl
  have c15 := ht.tnum (j := 15) (k := .u8) rfl
  have H : Hid (PQ W W g c i q l p) := s0
  obtain ⟨N, hN⟩ : ∃ z, nwP h p = z := ⟨_, rfl⟩
  rw [hN]
  have EN : Hid (nwP h p = N) := hN
  clear hp hi hq ht s0 hN
  by_cases h0 : p.nm 71 = 0
  · have E0 : Hid (p.nm 71 = 0) := h0
    rw [h0] at c71
    cases h1 : p.bt 23
    · have E : Hid (N = p.setU 71 (sumN (h.nm 13) (h.nm 15))) := by
        rw [← EN.out]
        unfold nwP
        rw [if_pos E0.out, if_neg (by rw [h1]; decide)]
        exact rfl
      rw [h1] at c23
      clear h0 h1 EN E0
      go_enter Try.func29, Try.ntmps29
      go_wp2_with fail
      refine (sum_any _ _ (h.u8 hu13) (h.u8 hu15) W).mono ?_
      rintro _ V ⟨rfl, bV⟩
      obtain ⟨V1, e1, s1⟩ := (H.out.below bV).setU ku71 (sumB h)
      have F : Hid (PAt V1 g c (l.set i N) ∧ W.grownBy V1 (some g)) := by
        rw [E.out]
        exact ⟨s1.pat, s1.gr⟩
      clear s1 bV E
      go_wp2
      go_end0
      exact ⟨rfl, F.out.1, F.out.2⟩
    · have E : Hid (N = (p.setU 71 (sumN (h.nm 14) 1)).setB 11 kb11 true) := by
        rw [← EN.out]
        unfold nwP
        rw [if_pos E0.out, if_pos h1]
        exact rfl
      rw [h1] at c23
      clear h0 h1 EN E0
      go_enter Try.func29, Try.ntmps29
      go_wp2_with fail
      refine (sum_any _ _ (h.u8 hu14) (by decide) W).mono ?_
      rintro _ V ⟨rfl, bV⟩
      obtain ⟨V1, e1, s1⟩ := (H.out.below bV).setU ku71 (sumA h)
      obtain ⟨V2, e2, s2⟩ := s1.setB kb11 true
      have F : Hid (PAt V2 g c (l.set i N) ∧ W.grownBy V2 (some g)) := by
        rw [E.out]
        exact ⟨s2.pat, s2.gr⟩
      clear s1 s2 bV E
      go_wp2
      go_end0
      exact ⟨rfl, F.out.1, F.out.2⟩
  · have E : Hid (N = p) := by
      rw [← EN.out]
      unfold nwP
      rw [if_neg h0]
      exact rfl
    have x0 : (p.nm 71 == 0) = false := beq_eq_false_iff_ne.2 h0
    have F : Hid (PAt W g c (l.set i N) ∧ W.grownBy W (some g)) := by
      rw [E.out]
      exact ⟨H.out.pat, H.out.gr⟩
    clear EN E H
    go_enter Try.func29, Try.ntmps29
    go_wp2
    go_end0
    exact ⟨rfl, F.out.1, F.out.2⟩
/-- A tree and whether it was changed. -/
abbrev TBs (w : World) (h : Hd) (n : Nat) (l : List Pt) (O : Option (List Pt)) (r : Ending) (w' : World) : Prop := ∃ a' c', r = .returned (.tuple #[.agg (trc h (.slice a' n c')), .bool O.isSome]) ∧ SlAt w' a' n c' (O.getD l) ∧ Below w.heap.size w w'
/-- A tree that is told: its ports. -/
abbrev TRes (w : World) (h : Hd) (n : Nat) (L : List Pt) (r : Ending) (w' : World) : Prop := ∃ a' c', r = .returned (.agg (trc h (.slice a' n c'))) ∧ SlAt w' a' n c' L ∧ Below w.heap.size w w'
set_option maxHeartbeats 4000000 in
theorem changed_any (F : Nat) (f : Pt → Pt) (hF : Chg F f) (hc : ∀ (x : Value) (V : World), (callFunc F #[x]).run Try.prog V = .ok (.enter F #[x]) V) (h : Hd) (a : Option Addr) (n c : Nat) (l : List Pt) (k : Nat) (w : World) (hs : SlAt w a n c l) (hn : n ≤ 1000) (hk : k < n) :
    Calls Try.prog 19 #[.agg (trc h (.slice a n c)), .int .i64 (k : Int), .func (.func F) #[] #[]] w fun r w' => TRes w h n (l.set k (f (gtP l k))) r w' := by
  obtain ⟨W, hW, r0, r1, bW, zW⟩ := two_t w h (.slice a n c)
  have c16 := r0.t16
  have H : Hid (SlAt W a n c l ∧ n ≤ 1000 ∧ l.length = n ∧ RvAt W w.heap.size 31 (trc h (.slice a n c)) ∧ RvAt W (w.heap.size + 1) 31 (trc zeroH (.slice none 0 0)) ∧ Below w.heap.size w W ∧ W.heap.size = w.heap.size + 2) := ⟨hs.below bW, hn, hs.len, r0, r1, bW, zW⟩
  clear hs hn r0 r1 bW zW
  go_enter Try.func19, Try.ntmps19
  go_wp2_with fail
  refine (clone_any a n c l W H.out.1 H.out.2.1).mono ?_
  rintro _ W2 ⟨v, rfl, o2, b2⟩
  have z2 := H.out.2.2.2.2.2.2
  have hl := H.out.2.2.1
  obtain ⟨W3, s3, r3, g3⟩ := (H.out.2.2.2.1.below b2).tset o2.one
  have o3 := o2.keptBut g3 (o2.apart (by omega))
  have q3 := (H.out.2.2.2.2.1.below b2).keptBut g3 (by simp only [ne_eq, Option.some.injEq]; omega)
  have b3 : Below w.heap.size w W3 := gro (below_over H.out.2.2.2.2.2.1 b2) g3 (Nat.le_refl _) (by have := b2.size; omega)
  have hin0 : (0 : Int) ≤ (k : Int) := by omega
  have hin1 : (k : Int) < (n : Int) := by omega
  clear b2 g3 o2 c16 hW
  rcases o3.pat with ⟨hv, hle⟩ | ⟨g, cc, hv, hg, hp⟩
  · rw [hle] at hl; simp at hl; omega
  · rw [hl] at hv
    subst hv
    have c16 := r3.t16
    have K : Hid (RvAt W3 w.heap.size 31 (trc h (.slice (some ⟨g, 0, none⟩) n cc)) ∧ RvAt W3 (w.heap.size + 1) 31 (trc zeroH (.slice none 0 0)) ∧ Below w.heap.size w W3 ∧ w.heap.size + 2 ≤ g ∧ l.length = n) := ⟨r3, q3, b3, by omega, hl⟩
    have C : Hid _ := (hF W3 g cc k (k * 77) l (gtP l k) hp (gtP_at (by rw [hl]; exact hk)) rfl)
    clear hp hg r3 q3 b3 o3 hl z2 hk
    go_wp2_with fail
    refine Calls.mono C.out ?_
    rintro _ V ⟨rfl, pV, gV⟩
    have hg := K.out.2.2.2.1
    have r5 := K.out.1.keptBut gV (by simp; omega)
    have q5 := K.out.2.1.keptBut gV (by simp; omega)
    have l5 := r5.tld
    obtain ⟨W6, s6, r6, g6⟩ := q5.tst (g := h) (y := .slice (some ⟨g, 0, none⟩) n cc) rfl
    have p6 := pV.keptBut g6 (by simp; omega)
    have b6 : Below w.heap.size w W6 := gro (gro K.out.2.2.1 gV (by omega) K.out.2.2.1.size) g6 (by omega) (by have := K.out.2.2.1.size; have := gV.size; omega)
    have s6' := p6.sl
    rw [List.length_set, K.out.2.2.2.2] at s6'
    have F : Hid (RvAt W6 (w.heap.size + 1) 31 (trc h (.slice (some ⟨g, 0, none⟩) n cc)) ∧ SlAt W6 (some ⟨g, 0, none⟩) n cc (l.set k (f (gtP l k))) ∧ Below w.heap.size w W6) := ⟨r6, s6', b6⟩
    clear pV gV r5 q5 r6 g6 p6 b6 s6' hg C K
    go_wp2
    refine bodyPost_ret (results_row rtT Try.results19 _ _ _ _ rfl F.out.1 (trc_size _ _)) rfl ?_
    exact ⟨some ⟨g, 0, none⟩, cc, rfl, F.out.2⟩
set_option maxHeartbeats 4000000 in
theorem changed_new (tb : Nat) (hc : ∀ (x y : Value) (V : World), (callFunc 29 #[x, y]).run Try.prog V = .ok (.enter 29 #[x, y]) V) (h : Hd) (a : Option Addr) (n c : Nat) (l : List Pt) (k : Nat) (w : World) (hs : SlAt w a n c l) (hn : n ≤ 1000) (hk : k < n) (x : Value) (ht : RvAt w tb 31 (trc h x)) :
    Calls Try.prog 19 #[.agg (trc h (.slice a n c)), .int .i64 (k : Int), .func (.func 29) #[] #[.pointer (some ⟨tb, 0, none⟩)]] w fun r w' => TRes w h n (l.set k (nwP h (gtP l k))) r w' := by
  obtain ⟨W, hW, r0, r1, bW, zW⟩ := two_t w h (.slice a n c)
  have c16 := r0.t16
  have H : Hid (SlAt W a n c l ∧ n ≤ 1000 ∧ l.length = n ∧ RvAt W w.heap.size 31 (trc h (.slice a n c)) ∧ RvAt W (w.heap.size + 1) 31 (trc zeroH (.slice none 0 0)) ∧ Below w.heap.size w W ∧ W.heap.size = w.heap.size + 2) := ⟨hs.below bW, hn, hs.len, r0, r1, bW, zW⟩
  clear hs hn r0 r1 bW zW
  go_enter Try.func19, Try.ntmps19
  go_wp2_with fail
  refine (clone_any a n c l W H.out.1 H.out.2.1).mono ?_
  rintro _ W2 ⟨v, rfl, o2, b2⟩
  have z2 := H.out.2.2.2.2.2.2
  have hl := H.out.2.2.1
  obtain ⟨W3, s3, r3, g3⟩ := (H.out.2.2.2.1.below b2).tset o2.one
  have o3 := o2.keptBut g3 (o2.apart (by omega))
  have q3 := (H.out.2.2.2.2.1.below b2).keptBut g3 (by simp only [ne_eq, Option.some.injEq]; omega)
  have b3 : Below w.heap.size w W3 := gro (below_over H.out.2.2.2.2.2.1 b2) g3 (Nat.le_refl _) (by have := b2.size; omega)
  have T3 : RvAt W3 tb 31 (trc h x) := ((ht.below H.out.2.2.2.2.2.1).below b2).keptBut g3 (by have := ht.lt; simp; omega)
  have hin0 : (0 : Int) ≤ (k : Int) := by omega
  have hin1 : (k : Int) < (n : Int) := by omega
  clear b2 g3 o2 c16 hW
  rcases o3.pat with ⟨hv, hle⟩ | ⟨g, cc, hv, hg, hp⟩
  · rw [hle] at hl; simp at hl; omega
  · rw [hl] at hv
    subst hv
    have c16 := r3.t16
    have K : Hid (RvAt W3 w.heap.size 31 (trc h (.slice (some ⟨g, 0, none⟩) n cc)) ∧ RvAt W3 (w.heap.size + 1) 31 (trc zeroH (.slice none 0 0)) ∧ Below w.heap.size w W3 ∧ w.heap.size + 2 ≤ g ∧ l.length = n) := ⟨r3, q3, b3, by omega, hl⟩
    have C : Hid _ := (chg_new W3 g cc k (k * 77) tb l (gtP l k) h x hp (gtP_at (by rw [hl]; exact hk)) rfl T3)
    clear hp hg r3 q3 b3 o3 hl z2 hk
    go_wp2_with fail
    refine Calls.mono C.out ?_
    rintro _ V ⟨rfl, pV, gV⟩
    have hg := K.out.2.2.2.1
    have r5 := K.out.1.keptBut gV (by simp; omega)
    have q5 := K.out.2.1.keptBut gV (by simp; omega)
    have l5 := r5.tld
    obtain ⟨W6, s6, r6, g6⟩ := q5.tst (g := h) (y := .slice (some ⟨g, 0, none⟩) n cc) rfl
    have p6 := pV.keptBut g6 (by simp; omega)
    have b6 : Below w.heap.size w W6 := gro (gro K.out.2.2.1 gV (by omega) K.out.2.2.1.size) g6 (by omega) (by have := K.out.2.2.1.size; have := gV.size; omega)
    have s6' := p6.sl
    rw [List.length_set, K.out.2.2.2.2] at s6'
    have F : Hid (RvAt W6 (w.heap.size + 1) 31 (trc h (.slice (some ⟨g, 0, none⟩) n cc)) ∧ SlAt W6 (some ⟨g, 0, none⟩) n cc (l.set k (nwP h (gtP l k))) ∧ Below w.heap.size w W6) := ⟨r6, s6', b6⟩
    clear pV gV r5 q5 r6 g6 p6 b6 s6' hg C K
    go_wp2
    refine bodyPost_ret (results_row rtT Try.results19 _ _ _ _ rfl F.out.1 (trc_size _ _)) rfl ?_
    exact ⟨some ⟨g, 0, none⟩, cc, rfl, F.out.2⟩
end Go.Proofs.Ytfjigbmhheekbab
