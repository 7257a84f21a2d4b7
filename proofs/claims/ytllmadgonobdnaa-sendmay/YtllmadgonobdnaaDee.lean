/-
  Ports changed through a pointer, by functions and closures; a tree one of whose ports is so changed: the walks of the seven functions and of put.
-/
import Derived.Test.YtllmadgonobdnaaPur
namespace Go.Proofs.Ytllmadgonobdnaa
set_option linter.unusedVariables false
set_option maxRecDepth 4000
set_option linter.unusedSimpArgs false
open Go.RowKit

/-- A port of a block of ports, handed on by a pointer: what it has become since w. -/
structure PQ (w W : World) (g c i q : Nat) (l : List Pt) (p : Pt) : Prop where
  pat : PAt W g c (l.set i p)
  gr : w.grownBy W (some g)
  hi : i < l.length
  hq : q = i * 77
theorem PQ.start {W : World} {g c i q : Nat} {l : List Pt} {p : Pt} (h : PAt W g c l) (hp : l[i]? = some p) (hq : q = i * 77) : PQ W W g c i q l p := by
  have hi : i < l.length := (List.getElem?_eq_some_iff.1 hp).1
  refine ⟨?_, World.grownBy.refl _ _, hi, hq⟩
  have e : gtP l i = p := by
    have := gtP_at hi
    rw [hp] at this
    exact (Option.some.inj this).symm
  rw [← e, set_self hi]
  exact h
theorem PQ.at' {w W : World} {g c i q : Nat} {l : List Pt} {p : Pt} (s : PQ w W g c i q l p) : (l.set i p)[i]? = some p := by
  rw [List.getElem?_set, if_pos rfl, if_pos s.hi]
theorem PQ.go {w W V : World} {g c i q : Nat} {l : List Pt} {p r : Pt} (s : PQ w W g c i q l p) (hp : PAt V g c ((l.set i p).set i r)) (e : W.grownBy V (some g)) : PQ w V g c i q l r :=
  ⟨by rw [List.set_set] at hp; exact hp, grown_self s.gr e, s.hi, s.hq⟩
theorem PQ.below {w W V : World} {g c i q : Nat} {l : List Pt} {p : Pt} (s : PQ w W g c i q l p) (e : Below W.heap.size W V) : PQ w V g c i q l p := ⟨s.pat.below e, grown_self s.gr (grown_of_below e _), s.hi, s.hq⟩
theorem PQ.setB {w W : World} {g c i q j : Nat} {l : List Pt} {p : Pt} (s : PQ w W g c i q l p) (hk : kdP[j]? = some none) (x : Bool) : ∃ V, (stS 4 (.pointer (some ⟨g, q + j, none⟩)) (.bool x)).run Try.prog W = .ok () V ∧ PQ w V g c i q l (p.setB j hk x) := by
  obtain ⟨V, e, h1, g1⟩ := s.pat.st1 (q := q + j) (v := .bool x) s.at' info2.1 (by rw [← lenP]; exact (List.getElem?_eq_some_iff.1 hk).1) rfl (fit_bit hk) (by rw [s.hq])
  exact ⟨V, e, s.go h1 g1⟩
theorem PQ.setU {w W : World} {g c i q j : Nat} {l : List Pt} {p : Pt} (s : PQ w W g c i q l p) (hk : kdP[j]? = some (some .u8)) {x : Int} (hx : 0 ≤ x ∧ x ≤ 255) : ∃ V, (stS 5 (.pointer (some ⟨g, q + j, none⟩)) (.int .u8 x)).run Try.prog W = .ok () V ∧ PQ w V g c i q l (p.setU j x) := by
  obtain ⟨V, e, h1, g1⟩ := s.pat.st1 (q := q + j) (v := .int .u8 x) s.at' info2.2 (by rw [← lenP]; exact (List.getElem?_eq_some_iff.1 hk).1) rfl (fit_num hk (wf8 hx)) (by rw [s.hq])
  rw [p.setU_is hk (wf8 hx)]
  exact ⟨V, e, s.go h1 g1⟩
theorem PQ.setN {w W : World} {g c i q j : Nat} {l : List Pt} {p : Pt} (s : PQ w W g c i q l p) {t : TypeId} (ht : (Try.prog.info? t).map (·.size) = some 1) (hk : kdP[j]? = some (some .i64)) {x : Int} (hx : (Lit.int .i64 x).wf = true) : ∃ V, (stS t (.pointer (some ⟨g, q + j, none⟩)) (.int .i64 x)).run Try.prog W = .ok () V ∧ PQ w V g c i q l (p.setN j hk x hx) := by
  obtain ⟨V, e, h1, g1⟩ := s.pat.st1 (q := q + j) (v := .int .i64 x) s.at' ht (by rw [← lenP]; exact (List.getElem?_eq_some_iff.1 hk).1) rfl (fit_num hk hx) (by rw [s.hq])
  exact ⟨V, e, s.go h1 g1⟩
theorem PQ.num {w W : World} {g c i q j : Nat} {l : List Pt} {p : Pt} {k : IntKind} (s : PQ w W g c i q l p) (hk : kdP[j]? = some (some k)) : W.cell? ⟨g, q + j, none⟩ = some (.int k (p.nm j)) := s.pat.num s.at' hk (by rw [s.hq])
theorem PQ.bit {w W : World} {g c i q j : Nat} {l : List Pt} {p : Pt} (s : PQ w W g c i q l p) (hk : kdP[j]? = some none) : W.cell? ⟨g, q + j, none⟩ = some (.bool (p.bt j)) := s.pat.bit s.at' hk (by rw [s.hq])
/-- What 'changed' asks of a change. -/
def Chg (F : Nat) (f : Pt → Pt) : Prop := ∀ (W : World) (g c i q : Nat) (l : List Pt) (p : Pt), PAt W g c l → l[i]? = some p → q = i * 77 →
  Calls Try.prog F #[.pointer (some ⟨g, q, none⟩)] W fun r W' => r = .returned (.tuple #[]) ∧ PAt W' g c (l.set i (f p)) ∧ W.grownBy W' (some g)
attribute [local go_sem ↓] ldP stP stB stU stW ldT stT st32
set_option maxHeartbeats 1000000 in
theorem chg_begin : Chg 24 begP := by
  intro W g c i q l p hp hi hq
  have s0 := PQ.start hp hi hq
  obtain ⟨V1, e1, s1⟩ := s0.setB kb11 true
  obtain ⟨V2, e2, s2⟩ := s1.setU ku64 u0
  obtain ⟨V3, e3, s3⟩ := s2.setN infoS kn75 wi1
  have F : Hid (PAt V3 g c (l.set i (begP p)) ∧ W.grownBy V3 (some g)) := ⟨s3.pat, s3.gr⟩
  clear hp hi hq s0 s1 s2 s3
  go_enter Try.func24, Try.ntmps24
  go_wp2
  go_end0
  exact ⟨rfl, F.out.1, F.out.2⟩
set_option maxHeartbeats 1000000 in
theorem chg_check : Chg 41 chkP := by
  intro W g c i q l p hp hi hq
  have s0 := PQ.start hp hi hq
  obtain ⟨V1, e1, s1⟩ := s0.setB kb23 true
  obtain ⟨V2, e2, s2⟩ := s1.setU ku67 u3
  obtain ⟨V3, e3, s3⟩ := s2.setN infoS kn76 wi1
  have F : Hid (PAt V3 g c (l.set i (chkP p)) ∧ W.grownBy V3 (some g)) := ⟨s3.pat, s3.gr⟩
  clear hp hi hq s0 s1 s2 s3
  go_enter Try.func41, Try.ntmps41
  go_wp2
  go_end0
  exact ⟨rfl, F.out.1, F.out.2⟩
set_option maxHeartbeats 1000000 in
theorem chg_sense : Chg 42 senP := by
  intro W g c i q l p hp hi hq
  have s0 := PQ.start hp hi hq
  obtain ⟨V1, e1, s1⟩ := s0.setB kb15 false
  obtain ⟨V2, e2, s2⟩ := s1.setB kb16 false
  obtain ⟨V3, e3, s3⟩ := s2.setN infoS kn76 wi3
  have F : Hid (PAt V3 g c (l.set i (senP p)) ∧ W.grownBy V3 (some g)) := ⟨s3.pat, s3.gr⟩
  clear hp hi hq s0 s1 s2 s3
  go_enter Try.func42, Try.ntmps42
  go_wp2
  go_end0
  exact ⟨rfl, F.out.1, F.out.2⟩
set_option maxHeartbeats 1000000 in
theorem chg_fall : Chg 43 falP := by
  intro W g c i q l p hp hi hq
  have s0 := PQ.start hp hi hq
  obtain ⟨V1, e1, s1⟩ := s0.setB kb23 false
  obtain ⟨V2, e2, s2⟩ := s1.setU ku67 u3
  obtain ⟨V3, e3, s3⟩ := s2.setN infoS kn76 wi2
  have F : Hid (PAt V3 g c (l.set i (falP p)) ∧ W.grownBy V3 (some g)) := ⟨s3.pat, s3.gr⟩
  clear hp hi hq s0 s1 s2 s3
  go_enter Try.func43, Try.ntmps43
  go_wp2
  go_end0
  exact ⟨rfl, F.out.1, F.out.2⟩
set_option maxHeartbeats 1000000 in
theorem chg_wait : Chg 25 waiP := by
  intro W g c i q l p hp hi hq
  have s0 := PQ.start hp hi hq
  have c42 := s0.num (j := 42) (k := .u8) rfl
  obtain ⟨V, e, s⟩ := s0.setU ku66 (wai_in p)
  have F : Hid (PAt V g c (l.set i (waiP p)) ∧ W.grownBy V (some g)) := ⟨s.pat, s.gr⟩
  have hu := p.u8 (j := 42) rfl
  clear hp hi hq s0 s
  by_cases h0 : p.nm 42 = 0
  · have e0 : waiN p = 1 := by unfold waiN; rw [if_pos h0]
    rw [e0] at e
    rw [h0] at c42
    clear hu e0 h0
    go_enter Try.func25, Try.ntmps25
    go_wp2
    go_end0
    exact ⟨rfl, F.out.1, F.out.2⟩
  · have e0 : waiN p = p.nm 42 := by unfold waiN; rw [if_neg h0]
    rw [e0] at e
    obtain ⟨N, hN⟩ : ∃ z, p.nm 42 = z := ⟨_, rfl⟩
    rw [hN] at e c42 hu h0
    have hm : ¬ N < 1 := by omega
    have hm2 : (if N < 1 then 1 else N) = N := if_neg hm
    have hm3 : 1 ≤ N := by omega
    clear hN e0 h0
    go_enter Try.func25, Try.ntmps25
    go_wp2
    go_end0
    exact ⟨rfl, F.out.1, F.out.2⟩
set_option maxHeartbeats 2000000 in
theorem chg_remind : Chg 26 remP := by
  intro W g c i q l p hp hi hq
  have s0 := PQ.start hp hi hq
  have c11 := s0.bit (j := 11) rfl
  have c30 := s0.num (j := 30) (k := .i64) rfl
  have c71 := s0.num (j := 71) (k := .u8) rfl
  obtain ⟨V, e, s⟩ := s0.setB kb11 (remB p)
  have F : Hid (PAt V g c (l.set i (remP p)) ∧ W.grownBy V (some g)) := ⟨s.pat, s.gr⟩
  clear hp hi hq s0 s
  obtain ⟨b11, h11⟩ : ∃ z, p.bt 11 = z := ⟨_, rfl⟩
  obtain ⟨N, hN⟩ : ∃ z, p.nm 30 = z := ⟨_, rfl⟩
  obtain ⟨M, hM⟩ : ∃ z, p.nm 71 = z := ⟨_, rfl⟩
  have H11 : Hid (p.bt 11 = b11) := h11
  have H30 : Hid (p.nm 30 = N) := hN
  have H71 : Hid (p.nm 71 = M) := hM
  rw [h11] at c11
  rw [hN] at c30
  rw [hM] at c71
  clear h11 hN hM
  cases b11
  · by_cases h4 : N = 4
    · subst h4
      have eb : remB p = true := by unfold remB; rw [H11.out, H30.out]; rfl
      rw [eb] at e
      clear eb H11 H30 H71
      go_enter Try.func26, Try.ntmps26
      go_wp2
      go_end0
      exact ⟨rfl, F.out.1, F.out.2⟩
    · have x4 : (N == 4) = false := beq_eq_false_iff_ne.2 h4
      by_cases h3 : N = 3
      · subst h3
        by_cases h0 : M = 0
        · subst h0
          clear h4
          have eb : remB p = false := by unfold remB; rw [H11.out, H30.out, H71.out]; rfl
          rw [eb] at e
          clear eb H11 H30 H71
          go_enter Try.func26, Try.ntmps26
          go_wp2
          go_end0
          exact ⟨rfl, F.out.1, F.out.2⟩
        · have y0 : (M != 0) = true := by simp [h0]
          have x0 : (M == 0) = false := beq_eq_false_iff_ne.2 h0
          clear h4
          have eb : remB p = true := by unfold remB; rw [H11.out, H30.out, H71.out, x0]; rfl
          rw [eb] at e
          clear eb h0 H11 H30 H71
          go_enter Try.func26, Try.ntmps26
          go_wp2
          go_end0
          exact ⟨rfl, F.out.1, F.out.2⟩
      · have x3 : (N == 3) = false := beq_eq_false_iff_ne.2 h3
        have eb : remB p = false := by unfold remB; rw [H11.out, H30.out, H71.out, x4, x3]; rfl
        rw [eb] at e
        clear eb h4 h3 H11 H30 H71
        go_enter Try.func26, Try.ntmps26
        go_wp2
        go_end0
        exact ⟨rfl, F.out.1, F.out.2⟩
  · have eb : remB p = true := by unfold remB; rw [H11.out]; rfl
    rw [eb] at e
    clear eb H11 H30 H71
    go_enter Try.func26, Try.ntmps26
    go_wp2
    go_end0
    exact ⟨rfl, F.out.1, F.out.2⟩
set_option maxHeartbeats 2000000 in
theorem chg_sent (W : World) (g c i q mb : Nat) (l : List Pt) (p : Pt) (m : Mg) (hp : PAt W g c l) (hi : l[i]? = some p) (hq : q = i * 77) (hm : RvAt W mb 43 m.cs) (hne : mb ≠ g) (hk : m.nm 0 = kinN p) (h64 : p.nm 64 < 255) :
    Calls Try.prog 29 #[.pointer (some ⟨g, q, none⟩), .pointer (some ⟨mb, 0, none⟩)] W fun r W' => r = .returned (.tuple #[]) ∧ PAt W' g c (l.set i (sntP p)) ∧ W.grownBy W' (some g) := by
  have s0 := PQ.start hp hi hq
  have hu := p.u8 (j := 64) rfl
  obtain ⟨V1, e1, s1⟩ := s0.setB kb11 false
  have c64 := s1.num (j := 64) (k := .u8) rfl
  rw [setB_nm _ _ _ (by decide)] at c64
  obtain ⟨V2, e2, s2⟩ := s1.setU ku64 (x := p.nm 64 + 1) ⟨by omega, by omega⟩
  have c26 := s2.bit (j := 26) rfl
  rw [setU_bt _ (by decide), setB_bt _ _ _ (by decide)] at c26
  have cm := ((hm.keptBut (s2.gr) (by simpa using hne))).num (j := 0) (k := .i64) rfl
  rw [hk] at cm
  obtain ⟨V3, e3, s3⟩ := s2.setB kb26 (ackB p)
  have F : Hid (PAt V3 g c (l.set i (sntP p)) ∧ W.grownBy V3 (some g)) := ⟨s3.pat, s3.gr⟩
  have hw : IntKind.u8.wrap (p.nm 64 + 1) = p.nm 64 + 1 := IntWalk.u8_in _ (by omega)
  obtain ⟨T, hT⟩ : ∃ z, p.nm 64 = z := ⟨_, rfl⟩
  obtain ⟨b26, h26⟩ : ∃ z, p.bt 26 = z := ⟨_, rfl⟩
  obtain ⟨K, hK⟩ : ∃ z, kinN p = z := ⟨_, rfl⟩
  rw [hT] at c64 e2 hw
  rw [h26] at c26
  rw [hK] at cm
  have H26 : Hid (p.bt 26 = b26) := h26
  have HK : Hid (kinN p = K) := hK
  clear hp hi hq s0 s1 s2 s3 hm hne hk h64 hu hT h26 hK
  cases b26
  · have eb : ackB p = false := by unfold ackB; rw [H26.out]; rfl
    rw [eb] at e3
    clear eb H26 HK
    go_enter Try.func29, Try.ntmps29
    go_wp2
    go_end0
    exact ⟨rfl, F.out.1, F.out.2⟩
  · by_cases h2 : K = 2
    · subst h2
      have eb : ackB p = true := by unfold ackB; rw [H26.out, HK.out]; rfl
      rw [eb] at e3
      clear eb H26 HK
      go_enter Try.func29, Try.ntmps29
      go_wp2
      go_end0
      exact ⟨rfl, F.out.1, F.out.2⟩
    · have x2 : (K == 2) = false := beq_eq_false_iff_ne.2 h2
      have eb : ackB p = false := by unfold ackB; rw [H26.out, HK.out, x2]; rfl
      rw [eb] at e3
      clear eb H26 HK h2
      go_enter Try.func29, Try.ntmps29
      go_wp2
      go_end0
      exact ⟨rfl, F.out.1, F.out.2⟩
end Go.Proofs.Ytllmadgonobdnaa
