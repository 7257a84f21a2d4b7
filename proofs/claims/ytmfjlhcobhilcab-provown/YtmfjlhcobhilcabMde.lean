/-
  What comes of commands, from nothing: the walk of Made, for every input.
-/
import Derived.Test.YtmfjlhcobhilcabMad
namespace Go.Proofs.Ytmfjlhcobhilcab
set_option linter.unusedVariables false
set_option maxRecDepth 4000
set_option linter.unusedSimpArgs false
open Go.RowKit
attribute [local go_sem ↓] ldM stM ldC stC ldB stB ldP stP apI bsI
attribute [local go_sem] bsI_is bsI2_is

attribute [local go_sem ↓] stIs stKs stMs stCs stBs ldD stD apK bsK
attribute [local go_sem] bsK_is
def bitF (bits : Int) (i : Nat) : Bool := (Go.bits BinOp.and IntKind.u8 (bits / 2 ^ i) 1 == 1)
def madeP (bits : Int) (n : Nat) (l : List Cd) : Pv := runP (bgP (kdP (bitF bits) n)) (l.take 100)
theorem bg_chk {ks : List Int} (h : gK ks = true) : chk (bgP ks) = true := by
  rw [chk_iff]
  exact ⟨rfl, h, ⟨by show 0 ≤ 64; decide, by show 0 ≤ 64; decide, by show 0 ≤ 64; decide⟩, rfl, rfl, rfl⟩
/-- How many ports. -/
def prtN (ports : Int) : Nat := (ports % 8).toNat + 1
theorem prtN_is {ports : Int} : 1 + ports % 8 = (prtN ports : Int) ∧ 1 ≤ prtN ports ∧ prtN ports ≤ 8 := by unfold prtN; omega
theorem made_chk (bits ports : Int) (l : List Cd) : chk (madeP bits (prtN ports) l) = true := run_chk (bg_chk (kdP_ok prtN_is.2.1 prtN_is.2.2)) _
theorem run_stop {p : Pv} {l : List Cd} {n i k : Nat} (hl : l.length = n) (h : ¬ (i < n ∧ i < k)) (hi : i ≤ n) (hk : i ≤ k) : runP p (l.take i) = runP p (l.take k) := by
  by_cases h1 : i < k
  · have : i = n := by omega
    rw [List.take_of_length_le (by omega), List.take_of_length_le (by omega)]
  · have : i = k := by omega
    rw [this]
set_option maxHeartbeats 16000000 in
theorem made_any (bits ports : Int) (a : Option Addr) (n c : Nat) (rr : List Cm) (L : List Cd) (w : World) (hb : 0 ≤ bits ∧ bits ≤ 255) (hp : 0 ≤ ports ∧ ports ≤ 255) (h : Cms w a n c rr L) :
    Calls Try.prog 8 #[.int .u8 bits, .int .u8 ports, .slice a n c] w fun r w' => (∃ x : Pr, r = .returned (.agg x.cs) ∧ IsPv w' x (madeP bits (prtN ports) L)) ∧ Below w.heap.size w w' := by
  obtain ⟨V0, hV, m0, bV, zV⟩ := PrAt.zero w
  obtain ⟨nk, hnk⟩ : ∃ z : Nat, prtN ports = z := ⟨_, rfl⟩
  have HN : Hid (1 + ports % 8 = (nk : Int) ∧ 1 ≤ nk ∧ nk ≤ 8) := by rw [← hnk]; exact prtN_is
  have B0 : Hid (Below w.heap.size w V0 ∧ PrAt V0 w.heap.size zP ∧ V0.heap.size = w.heap.size + 1) := ⟨bV, m0, zV⟩
  have H : Hid (Cms V0 a n c rr L ∧ L.length = n) := ⟨h.below bV, by rw [← h.len]; exact h.sl.len⟩
  have hni := h.sl.int
  rw [hnk]
  obtain ⟨R, hR⟩ : ∃ z, madeP bits nk L = z := ⟨_, rfl⟩
  have HR : Hid (R = runP (bgP (kdP (bitF bits) nk)) (L.take 100)) := hR.symm
  rw [hR]
  clear bV zV m0 hnk h hR
  go_enter Try.func8, Try.ntmps8
  go_wp2_with fail
  go_loopw [7, 8, 9] (fun u v _ wr => ∃ i : Nat, i ≤ nk ∧ v = .int .i64 i ∧ Own eK wr V0.heap.size u (kdP (bitF bits) i) ∧ Below V0.heap.size V0 wr) (fun u v _ _ => nk - (intOf v).toNat)
  case atStart => exact ⟨0, by omega, rfl, Own.nil _ _, Below.refl _ _⟩
  case round =>
    obtain ⟨i, hi, rfl, hO, hB⟩ := hrel
    have hi0 : (0 : Int) ≤ (i : Int) := by omega
    by_cases hit : i < nk
    · have hi1 : (i : Int) < 1 + ports % 8 := by rw [HN.out.1]; omega
      have hi8 : i < 8 := by have := HN.out; omega
      cases hq : (Go.bits BinOp.and IntKind.u8 (bits / 2 ^ i) 1 == 1)
      · obtain ⟨v', U, aU, oU, bU⟩ := nK hO hB.size (by rw [kdP_len]; omega) 1
        have G : Hid (Own eK U V0.heap.size v' (kdP (bitF bits) (i + 1)) ∧ Below V0.heap.size V0 U) := ⟨by rw [kdP_next, show bitF bits i = false from hq]; exact oU, hB.trans bU⟩
        clear oU bU hO hB
        go_wp2
        go_roundw
        case rel => exact ⟨i + 1, by omega, by go_num, G.out.1, G.out.2⟩
        case measure => simp [intOf]; omega
      · obtain ⟨v', U, aU, oU, bU⟩ := nK hO hB.size (by rw [kdP_len]; omega) 2
        have G : Hid (Own eK U V0.heap.size v' (kdP (bitF bits) (i + 1)) ∧ Below V0.heap.size V0 U) := ⟨by rw [kdP_next, show bitF bits i = true from hq]; exact oU, hB.trans bU⟩
        clear oU bU hO hB
        go_wp2
        go_roundw
        case rel => exact ⟨i + 1, by omega, by go_num, G.out.1, G.out.2⟩
        case measure => simp [intOf]; omega
    · have hi1 : ¬ (i : Int) < 1 + ports % 8 := by rw [HN.out.1]; omega
      have hin : i = nk := by omega
      subst hin
      obtain ⟨ka, kc, rfl, ks, _⟩ := hO.form
      rw [kdP_len] at ks
      rw [kdP_len]
      have K1 : Hid (SlAt eK wr ka i kc (kdP (bitF bits) i) ∧ Below V0.heap.size V0 wr ∧ chk (bgP (kdP (bitF bits) i)) = true) := ⟨ks, hB, bg_chk (kdP_ok HN.out.2.1 HN.out.2.2)⟩
      clear ks hB hO hit
      go_wp2_with fail
      refine (begun_any ka i kc (kdP (bitF bits) i) wr K1.out.1).mono ?_
      rintro _ W1 ⟨⟨x1, rfl, h1⟩, b1⟩
      obtain ⟨P0, hP0⟩ : ∃ z, bgP (kdP (bitF bits) i) = z := ⟨_, rfl⟩
      have E0 : Hid (R = runP P0 (L.take 100) ∧ chk P0 = true) := by rw [← hP0]; exact ⟨HR.out, K1.out.2.2⟩
      rw [hP0] at h1
      obtain ⟨W2, s2, S2, b2⟩ := PvS.new (w := V0) (below_over K1.out.2.1 b1) h1
      have A2 : Hid (PvS V0 W2 W1.heap.size x1 P0) := S2
      clear h1 b1 S2 b2 hP0
      go_wp2_with fail
      obtain ⟨g, hg⟩ : ∃ z, W1.heap.size = z := ⟨_, rfl⟩
      rw [hg] at A2
      rw [hg]
      clear hg
      go_loopw [11] (fun v wr => ∃ (i : Nat) (x : Pr), i ≤ n ∧ i ≤ 100 ∧ v = .int .i64 i ∧ PvS V0 wr g x (runP P0 (L.take i))) (fun v _ => n - (intOf v).toNat)
      case atStart => exact ⟨0, x1, by omega, by omega, rfl, A2.out⟩
      case round =>
        obtain ⟨i, x, hi, hj, rfl, hS⟩ := hrel
        have J : Hid (PvS V0 wr g x (runP P0 (L.take i)) ∧ Sz (runP P0 (L.take i))) := ⟨hS, chk_sz (run_chk E0.out.2 _)⟩
        have hi0 : (0 : Int) ≤ (i : Int) := by omega
        clear hS
        by_cases hit : i < n ∧ i < 100
        · have hi1 : (i : Int) < (n : Int) := by omega
          have hi2 : (i : Int) < 100 := by omega
          have HI : Hid (i < n ∧ i < 100) := hit
          obtain ⟨b, o, rfl⟩ := H.out.1.sl.some' (by omega)
          obtain ⟨y, d, hy, hd, hc⟩ := H.out.1.get (i := i) (by omega)
          have l0 := lD (H.out.1.sl.below J.out.1.bel) hy
          obtain ⟨U1, s1, m1, b1⟩ := CmAt.put wr y
          have X : Hid (L[i]? = some d ∧ IsCm V0 y d) := ⟨hd, hc⟩
          have C1 : Hid (CmAt U1 wr.heap.size y ∧ Below wr.heap.size wr U1) := ⟨m1, b1⟩
          clear hy hd hc m1 b1
          have l1 := C1.out.1.b
          go_wp2_with fail
          refine (short_any y.b d.b.ps U1 (X.out.2.p.below (below_over J.out.1.bel C1.out.2))).mono ?_
          rintro _ U2 ⟨⟨z, rfl, hv, hs⟩, b2⟩
          obtain ⟨U3, s3, m3, g3⟩ := (C1.out.1.below b2).stB z
          obtain ⟨y', hy'⟩ : ∃ zz : Cm, { y with b := z } = zz := ⟨_, rfl⟩
          rw [hy'] at m3
          have C3 : Hid (CmAt U3 wr.heap.size y' ∧ Below wr.heap.size wr U3 ∧ IsCm U3 y' (shD d)) := by
            have bb : Below wr.heap.size wr U3 := gro (below_over C1.out.2 b2) g3 (Nat.le_refl _) (below_over C1.out.2 b2).size
            refine ⟨m3, bb, ?_⟩
            rw [← hy']
            exact (X.out.2.sh hv (hs V0 X.out.2.p)).below (below_over J.out.1.bel bb)
          clear hv hs b2 m3 g3 l0 l1 hy'
          clear hit
          obtain ⟨P, hP⟩ : ∃ z, runP P0 (L.take i) = z := ⟨_, rfl⟩
          have EN : Hid (runP P0 (L.take (i + 1)) = stepP P d) := by rw [run_next X.out.1, hP]; exact rfl
          rw [hP] at J
          clear hP
          obtain ⟨⟨q, e⟩, hqe⟩ : ∃ zz, doC P (shD d) = zz := ⟨_, rfl⟩
          have D : Hid (doC P (shD d) = (q, e)) := hqe
          clear hqe
          have A3 : Hid (PvS V0 U3 g x P) := J.out.1.below C3.out.2.1
          have l2 := A3.out.ld
          have l3 := C3.out.1.ld
          go_wp2_with fail
          refine (rdo_is A3.out.pv J.out.2 C3.out.2.2 (sh_len d)).mono ?_
          rintro _ U4 ⟨⟨x2, rfl, h4⟩, b4⟩
          rw [D.out] at h4
          rw [D.out]
          obtain ⟨U5, s5, Q5, b5⟩ := PvS.new (w := V0) (below_over A3.out.bel b4) h4
          have A5 : Hid (PvS V0 U5 g x P ∧ PvS V0 U5 U4.heap.size x2 q) := ⟨(A3.out.below b4).below b5, Q5⟩
          clear h4 b4 Q5 b5 l2 l3
          have l5 := A5.out.2.ld
          by_cases he : e = 0
          · subst he
            obtain ⟨U6, s6, P6, g6⟩ := A5.out.1.st A5.out.2.pv
            have A6 : Hid (PvS V0 U6 g x2 (runP P0 (L.take (i + 1)))) := by
              rw [EN.out]
              have : stepP P d = q := by unfold stepP; rw [D.out]
              rw [this]
              exact P6
            clear P6 g6
            go_wp2
            go_roundw
            case rel => exact ⟨i + 1, x2, by have := HI.out; omega, by have := HI.out; omega, by go_num, A6.out⟩
            case measure => have := HI.out; simp [intOf]; omega
          · have e0 : (e == 0) = false := by simp [he]
            have A6 : Hid (PvS V0 U5 g x (runP P0 (L.take (i + 1)))) := by
              rw [EN.out]
              have : stepP P d = P := by unfold stepP; exact do_err (by rw [D.out]; exact he)
              rw [this]
              exact A5.out.1
            clear he
            go_wp2
            go_roundw
            case rel => exact ⟨i + 1, x, by have := HI.out; omega, by have := HI.out; omega, by go_num, A6.out⟩
            case measure => have := HI.out; simp [intOf]; omega
        · have l2 := J.out.1.ld
          obtain ⟨Z, sZ, pZ, gZ⟩ := (B0.out.2.1.below J.out.1.bel).st (y := x) J.out.1.pv.one
          have G : Hid (PrAt Z w.heap.size x ∧ IsPv Z x R ∧ Below w.heap.size w Z) := by
            refine ⟨pZ, ?_, gro (below_over B0.out.1 J.out.1.bel) gZ (Nat.le_refl _) (below_over B0.out.1 J.out.1.bel).size⟩
            rw [E0.out.1, ← run_stop H.out.2 hit hi hj]
            exact J.out.1.pv.keptV (B0.out.2.1.below J.out.1.bel) (zp_is _) gZ
          clear pZ gZ
          by_cases h1 : i < n
          · have hi1 : (i : Int) < (n : Int) := by omega
            have hi2 : ¬ (i : Int) < 100 := by omega
            clear hit
            go_wp2
            refine bodyPost_ret (results_row rtP Try.results8 _ _ _ _ rfl G.out.1 rfl) rfl ?_
            exact ⟨⟨_, rfl, G.out.2.1⟩, G.out.2.2⟩
          · have hi1 : ¬ (i : Int) < (n : Int) := by omega
            clear hit
            go_wp2
            refine bodyPost_ret (results_row rtP Try.results8 _ _ _ _ rfl G.out.1 rfl) rfl ?_
            exact ⟨⟨_, rfl, G.out.2.1⟩, G.out.2.2⟩
end Go.Proofs.Ytmfjlhcobhilcab
