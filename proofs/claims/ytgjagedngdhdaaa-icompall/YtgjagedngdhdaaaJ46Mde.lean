/-
  What comes of commands, from nothing: the walk of Made, for every input. What is provisioned stays so where a slice in a variable is replaced by another that holds the same. Plain laws. What the laws over commands share: what comes of commands stays where a frame is cut. Plain laws.
-/
import Derived.Test.YtgjagedngdhdaaaJ45Rdd
import Derived.Test.YtgjagedngdhdaaaJ31En
import Derived.Test.YtgjagedngdhdaaaJ16XBFrame
import Derived.Test.YtgjagedngdhdaaaJ39Plw
namespace Go.Proofs.Ytgjagedngdhdaaa

section
set_option linter.unusedVariables false
set_option maxRecDepth 4000
set_option linter.unusedSimpArgs false
open Go.RowKit
attribute [local go_sem ↓] ldM stM ldC stC ldB stB ldP stP apI bsI
attribute [local go_sem] bsI_is bsI2_is

attribute [local go_sem ↓] stIs stKs stMs stCs stBs ldD stD apK bsK
attribute [local go_sem] bsK_is
def bitF (bits : Int) (i : Nat) : Bool := (Go.bits BinOp.and IntKind.u8 (bits / 2 ^ i) 1 == 1)
def madeP (bits : Int) (n : Nat) (l : List Cd) : Pv := runP (bgP (kdP (bitF bits) n)) (l.take 100)
theorem bg_chk {ks : List Int} (h : gK ks = true) : chk (bgP ks) = true := by
  rw [chk_iff]
  exact ⟨rfl, h, ⟨by show 0 ≤ 64; decide, by show 0 ≤ 64; decide, by show 0 ≤ 64; decide⟩, rfl, rfl, rfl⟩
/-- How many ports. -/
def prtN (ports : Int) : Nat := (ports % 8).toNat + 1
theorem prtN_is {ports : Int} : 1 + ports % 8 = (prtN ports : Int) ∧ 1 ≤ prtN ports ∧ prtN ports ≤ 8 := by unfold prtN; omega
theorem made_chk (bits ports : Int) (l : List Cd) : chk (madeP bits (prtN ports) l) = true := run_chk (bg_chk (kdP_ok prtN_is.2.1 prtN_is.2.2)) _
theorem run_stop {p : Pv} {l : List Cd} {n i k : Nat} (hl : l.length = n) (h : ¬ (i < n ∧ i < k)) (hi : i ≤ n) (hk : i ≤ k) : runP p (l.take i) = runP p (l.take k) := by
  by_cases h1 : i < k
  · have : i = n := by omega
    rw [List.take_of_length_le (by omega), List.take_of_length_le (by omega)]
  · have : i = k := by omega
    rw [this]
set_option maxHeartbeats 16000000 in
theorem made_any (bits ports : Int) (a : Option Addr) (n c : Nat) (rr : List Cm) (L : List Cd) (w : World) (hb : 0 ≤ bits ∧ bits ≤ 255) (hp : 0 ≤ ports ∧ ports ≤ 255) (h : Cms w a n c rr L) :
    Calls Try.prog 21 #[.int .u8 bits, .int .u8 ports, .slice a n c] w fun r w' => (∃ x : Pr, r = .returned (.agg x.cs) ∧ IsPv w' x (madeP bits (prtN ports) L)) ∧ Below w.heap.size w w' := by
  obtain ⟨V0, hV, m0, bV, zV⟩ := PrAt.zero w
  obtain ⟨nk, hnk⟩ : ∃ z : Nat, prtN ports = z := ⟨_, rfl⟩
  have HN : Hid (1 + ports % 8 = (nk : Int) ∧ 1 ≤ nk ∧ nk ≤ 8) := by rw [← hnk]; exact prtN_is
  have B0 : Hid (Below w.heap.size w V0 ∧ PrAt V0 w.heap.size zP ∧ V0.heap.size = w.heap.size + 1) := ⟨bV, m0, zV⟩
  have H : Hid (Cms V0 a n c rr L ∧ L.length = n) := ⟨h.below bV, by rw [← h.len]; exact h.sl.len⟩
  have hni := h.sl.int
  rw [hnk]
  obtain ⟨R, hR⟩ : ∃ z, madeP bits nk L = z := ⟨_, rfl⟩
  have HR : Hid (R = runP (bgP (kdP (bitF bits) nk)) (L.take 100)) := hR.symm
  rw [hR]
  clear bV zV m0 hnk h hR
  go_enter Try.func21, Try.ntmps21
  go_wp2_with fail
  go_loopw [7, 8, 9] (fun u v _ wr => ∃ i : Nat, i ≤ nk ∧ v = .int .i64 i ∧ Own eK wr V0.heap.size u (kdP (bitF bits) i) ∧ Below V0.heap.size V0 wr) (fun u v _ _ => nk - (intOf v).toNat)
  case atStart => exact ⟨0, by omega, rfl, Own.nil _ _, Below.refl _ _⟩
  case round =>
    obtain ⟨i, hi, rfl, hO, hB⟩ := hrel
    have hi0 : (0 : Int) ≤ (i : Int) := by omega
    by_cases hit : i < nk
    · have hi1 : (i : Int) < 1 + ports % 8 := by rw [HN.out.1]; omega
      have hi8 : i < 8 := by have := HN.out; omega
      cases hq : (Go.bits BinOp.and IntKind.u8 (bits / 2 ^ i) 1 == 1)
      · obtain ⟨v', U, aU, oU, bU⟩ := nK hO hB.size (by rw [kdP_len]; omega) 1
        have G : Hid (Own eK U V0.heap.size v' (kdP (bitF bits) (i + 1)) ∧ Below V0.heap.size V0 U) := ⟨by rw [kdP_next, show bitF bits i = false from hq]; exact oU, hB.trans bU⟩
        clear oU bU hO hB
        go_wp2
        go_roundw
        case rel => exact ⟨i + 1, by omega, by go_num, G.out.1, G.out.2⟩
        case measure => simp [intOf]; omega
      · obtain ⟨v', U, aU, oU, bU⟩ := nK hO hB.size (by rw [kdP_len]; omega) 2
        have G : Hid (Own eK U V0.heap.size v' (kdP (bitF bits) (i + 1)) ∧ Below V0.heap.size V0 U) := ⟨by rw [kdP_next, show bitF bits i = true from hq]; exact oU, hB.trans bU⟩
        clear oU bU hO hB
        go_wp2
        go_roundw
        case rel => exact ⟨i + 1, by omega, by go_num, G.out.1, G.out.2⟩
        case measure => simp [intOf]; omega
    · have hi1 : ¬ (i : Int) < 1 + ports % 8 := by rw [HN.out.1]; omega
      have hin : i = nk := by omega
      subst hin
      obtain ⟨ka, kc, rfl, ks, _⟩ := hO.form
      rw [kdP_len] at ks
      rw [kdP_len]
      have K1 : Hid (SlAt eK wr ka i kc (kdP (bitF bits) i) ∧ Below V0.heap.size V0 wr ∧ chk (bgP (kdP (bitF bits) i)) = true) := ⟨ks, hB, bg_chk (kdP_ok HN.out.2.1 HN.out.2.2)⟩
      clear ks hB hO hit
      go_wp2_with fail
      refine (begun_any ka i kc (kdP (bitF bits) i) wr K1.out.1).mono ?_
      rintro _ W1 ⟨⟨x1, rfl, h1⟩, b1⟩
      obtain ⟨P0, hP0⟩ : ∃ z, bgP (kdP (bitF bits) i) = z := ⟨_, rfl⟩
      have E0 : Hid (R = runP P0 (L.take 100) ∧ chk P0 = true) := by rw [← hP0]; exact ⟨HR.out, K1.out.2.2⟩
      rw [hP0] at h1
      obtain ⟨W2, s2, S2, b2⟩ := PvS.new (w := V0) (below_over K1.out.2.1 b1) h1
      have A2 : Hid (PvS V0 W2 W1.heap.size x1 P0) := S2
      clear h1 b1 S2 b2 hP0
      go_wp2_with fail
      obtain ⟨g, hg⟩ : ∃ z, W1.heap.size = z := ⟨_, rfl⟩
      rw [hg] at A2
      rw [hg]
      clear hg
      go_loopw [11] (fun v wr => ∃ (i : Nat) (x : Pr), i ≤ n ∧ i ≤ 100 ∧ v = .int .i64 i ∧ PvS V0 wr g x (runP P0 (L.take i))) (fun v _ => n - (intOf v).toNat)
      case atStart => exact ⟨0, x1, by omega, by omega, rfl, A2.out⟩
      case round =>
        obtain ⟨i, x, hi, hj, rfl, hS⟩ := hrel
        have J : Hid (PvS V0 wr g x (runP P0 (L.take i)) ∧ Sz (runP P0 (L.take i))) := ⟨hS, chk_sz (run_chk E0.out.2 _)⟩
        have hi0 : (0 : Int) ≤ (i : Int) := by omega
        clear hS
        by_cases hit : i < n ∧ i < 100
        · have hi1 : (i : Int) < (n : Int) := by omega
          have hi2 : (i : Int) < 100 := by omega
          have HI : Hid (i < n ∧ i < 100) := hit
          obtain ⟨b, o, rfl⟩ := H.out.1.sl.some' (by omega)
          obtain ⟨y, d, hy, hd, hc⟩ := H.out.1.get (i := i) (by omega)
          have l0 := lD (H.out.1.sl.below J.out.1.bel) hy
          obtain ⟨U1, s1, m1, b1⟩ := CmAt.put wr y
          have X : Hid (L[i]? = some d ∧ IsCm V0 y d) := ⟨hd, hc⟩
          have C1 : Hid (CmAt U1 wr.heap.size y ∧ Below wr.heap.size wr U1) := ⟨m1, b1⟩
          clear hy hd hc m1 b1
          have l1 := C1.out.1.b
          go_wp2_with fail
          refine (short_any y.b d.b.ps U1 (X.out.2.p.below (below_over J.out.1.bel C1.out.2))).mono ?_
          rintro _ U2 ⟨⟨z, rfl, hv, hs⟩, b2⟩
          obtain ⟨U3, s3, m3, g3⟩ := (C1.out.1.below b2).stB z
          obtain ⟨y', hy'⟩ : ∃ zz : Cm, { y with b := z } = zz := ⟨_, rfl⟩
          rw [hy'] at m3
          have C3 : Hid (CmAt U3 wr.heap.size y' ∧ Below wr.heap.size wr U3 ∧ IsCm U3 y' (shD d)) := by
            have bb : Below wr.heap.size wr U3 := gro (below_over C1.out.2 b2) g3 (Nat.le_refl _) (below_over C1.out.2 b2).size
            refine ⟨m3, bb, ?_⟩
            rw [← hy']
            exact (X.out.2.sh hv (hs V0 X.out.2.p)).below (below_over J.out.1.bel bb)
          clear hv hs b2 m3 g3 l0 l1 hy'
          clear hit
          obtain ⟨P, hP⟩ : ∃ z, runP P0 (L.take i) = z := ⟨_, rfl⟩
          have EN : Hid (runP P0 (L.take (i + 1)) = stepP P d) := by rw [run_next X.out.1, hP]; exact rfl
          rw [hP] at J
          clear hP
          obtain ⟨⟨q, e⟩, hqe⟩ : ∃ zz, doC P (shD d) = zz := ⟨_, rfl⟩
          have D : Hid (doC P (shD d) = (q, e)) := hqe
          clear hqe
          have A3 : Hid (PvS V0 U3 g x P) := J.out.1.below C3.out.2.1
          have l2 := A3.out.ld
          have l3 := C3.out.1.ld
          go_wp2_with fail
          refine (rdo_is A3.out.pv J.out.2 C3.out.2.2 (sh_len d)).mono ?_
          rintro _ U4 ⟨⟨x2, rfl, h4⟩, b4⟩
          rw [D.out] at h4
          rw [D.out]
          obtain ⟨U5, s5, Q5, b5⟩ := PvS.new (w := V0) (below_over A3.out.bel b4) h4
          have A5 : Hid (PvS V0 U5 g x P ∧ PvS V0 U5 U4.heap.size x2 q) := ⟨(A3.out.below b4).below b5, Q5⟩
          clear h4 b4 Q5 b5 l2 l3
          have l5 := A5.out.2.ld
          by_cases he : e = 0
          · subst he
            obtain ⟨U6, s6, P6, g6⟩ := A5.out.1.st A5.out.2.pv
            have A6 : Hid (PvS V0 U6 g x2 (runP P0 (L.take (i + 1)))) := by
              rw [EN.out]
              have : stepP P d = q := by unfold stepP; rw [D.out]
              rw [this]
              exact P6
            clear P6 g6
            go_wp2
            go_roundw
            case rel => exact ⟨i + 1, x2, by have := HI.out; omega, by have := HI.out; omega, by go_num, A6.out⟩
            case measure => have := HI.out; simp [intOf]; omega
          · have e0 : (e == 0) = false := by simp [he]
            have A6 : Hid (PvS V0 U5 g x (runP P0 (L.take (i + 1)))) := by
              rw [EN.out]
              have : stepP P d = P := by unfold stepP; exact do_err (by rw [D.out]; exact he)
              rw [this]
              exact A5.out.1
            clear he
            go_wp2
            go_roundw
            case rel => exact ⟨i + 1, x, by have := HI.out; omega, by have := HI.out; omega, by go_num, A6.out⟩
            case measure => have := HI.out; simp [intOf]; omega
        · have l2 := J.out.1.ld
          obtain ⟨Z, sZ, pZ, gZ⟩ := (B0.out.2.1.below J.out.1.bel).st (y := x) J.out.1.pv.one
          have G : Hid (PrAt Z w.heap.size x ∧ IsPv Z x R ∧ Below w.heap.size w Z) := by
            refine ⟨pZ, ?_, gro (below_over B0.out.1 J.out.1.bel) gZ (Nat.le_refl _) (below_over B0.out.1 J.out.1.bel).size⟩
            rw [E0.out.1, ← run_stop H.out.2 hit hi hj]
            exact J.out.1.pv.keptV (B0.out.2.1.below J.out.1.bel) (zp_is _) gZ
          clear pZ gZ
          by_cases h1 : i < n
          · have hi1 : (i : Int) < (n : Int) := by omega
            have hi2 : ¬ (i : Int) < 100 := by omega
            clear hit
            go_wp2
            refine bodyPost_ret (results_row rtP Try.results21 _ _ _ _ rfl G.out.1 rfl) rfl ?_
            exact ⟨⟨_, rfl, G.out.2.1⟩, G.out.2.2⟩
          · have hi1 : ¬ (i : Int) < (n : Int) := by omega
            clear hit
            go_wp2
            refine bodyPost_ret (results_row rtP Try.results21 _ _ _ _ rfl G.out.1 rfl) rfl ?_
            exact ⟨⟨_, rfl, G.out.2.1⟩, G.out.2.2⟩
end

section
set_option linter.unusedVariables false
set_option maxRecDepth 4000
set_option linter.unusedSimpArgs false
open Go.RowKit

/-- Cell k of variable g held one slice, now it holds another; nothing else changed. -/
structure Swap (W W' : World) (g k : Nat) (H H' : Value) : Prop where
  here : W.cell? ⟨g, k, none⟩ = some H
  now : W'.cell? ⟨g, k, none⟩ = some H'
  keep : ∀ b o u, ¬ (b = g ∧ o = k) → W.cell? ⟨b, o, none⟩ = some u → W'.cell? ⟨b, o, none⟩ = some u
theorem Swap.of {W W' : World} {g k : Nat} {H H' : Value} {ty : TypeId} {cs cs' : Array Value} (r : RvAt W g ty cs) (r' : RvAt W' g ty cs') (hg : W.grownBy W' (some g)) (hk : cs[k]? = some H) (hk' : cs'[k]? = some H') (ho : ∀ j, j ≠ k → cs'[j]? = cs[j]?) : Swap W W' g k H H' := by
  refine ⟨by rw [r.get]; exact hk, by rw [r'.get]; exact hk', fun b o u hne h => ?_⟩
  by_cases hb : b = g
  · subst hb
    rw [r.get] at h
    rw [r'.get, ho o (fun e => hne ⟨rfl, e⟩)]
    exact h
  · exact hg.cell h (by simpa using hb)
theorem SlAt.swap {α : Type} {e : El α} (k : e.Ok) (hf : ∀ (u : α) (j : Nat) (v : Value), (e.f u).toList[j]? = some v → ∃ kd z, v = .int kd z) {W W' : World} {g q : Nat} {x : Option Addr} {m d : Nat} {H' : Value} (sw : Swap W W' g q (.slice x m d) H') {a : Option Addr} {n c : Nat} {l : List α} (h : SlAt e W a n c l) : SlAt e W' a n c l := by
  refine ⟨h.len, h.cap, h.max, h.nil, fun y hy h0 => ?_⟩
  obtain ⟨b, o, e', hc⟩ := h.cells y hy h0
  refine ⟨b, o, e', fun j u hj => ?_⟩
  refine sw.keep _ _ _ (fun hh => ?_) (hc j u hj)
  have h1 := hc j u hj
  rw [hh.1, hh.2, sw.here] at h1
  rw [El.fl_get k] at hj
  obtain ⟨p, _, hp⟩ := Option.bind_eq_some_iff.1 hj
  obtain ⟨kd, z, hz⟩ := hf p _ _ hp
  rw [hz] at h1
  cases h1
theorem int_I (u : Int) (j : Nat) (v : Value) (h : (eI.f u).toList[j]? = some v) : ∃ kd z, v = .int kd z := by
  match j, h with
  | 0, h => exact ⟨_, _, (Option.some.inj h).symm⟩
theorem int_K (u : Int) (j : Nat) (v : Value) (h : (eK.f u).toList[j]? = some v) : ∃ kd z, v = .int kd z := by
  match j, h with
  | 0, h => exact ⟨_, _, (Option.some.inj h).symm⟩
theorem int_M (u : Mp) (j : Nat) (v : Value) (h : (eM.f u).toList[j]? = some v) : ∃ kd z, v = .int kd z := by
  match j, h with
  | 0, h => exact ⟨_, _, (Option.some.inj h).symm⟩
  | 1, h => exact ⟨_, _, (Option.some.inj h).symm⟩
  | 2, h => exact ⟨_, _, (Option.some.inj h).symm⟩
theorem int_C (u : Cr) (j : Nat) (v : Value) (h : (eC.f u).toList[j]? = some v) : ∃ kd z, v = .int kd z := by
  match j, h with
  | 0, h => exact ⟨_, _, (Option.some.inj h).symm⟩
  | 1, h => exact ⟨_, _, (Option.some.inj h).symm⟩
theorem fl_two (u : Mr) (j : Nat) (v : Value) (h : (eB.f u).toList[j]? = some v) : (j = 0 ∧ v = .int .i64 u.v) ∨ (j = 1 ∧ v = .slice u.a u.n u.c) := by
  match j, h with
  | 0, h => exact Or.inl ⟨rfl, (Option.some.inj h).symm⟩
  | 1, h => exact Or.inr ⟨rfl, (Option.some.inj h).symm⟩
theorem rows_swap {W W' : World} {g q : Nat} {x x' : Option Addr} {m d m' d' : Nat} (sw : Swap W W' g q (.slice x m d) (.slice x' m' d')) (hs : ∀ ps : List Int, ps.length ≤ 8 → SlAt eI W x m d ps → SlAt eI W' x' m' d' ps)
    {a : Option Addr} {n c : Nat} {r : List Mr} {l : List Mb} (h : SlAt eB W a n c r) (hm : Mem W r l) (hl : ∀ z ∈ l, z.ps.length ≤ 8) : ∃ r', SlAt eB W' a n c r' ∧ Mem W' r' l := by
  by_cases hit : ∃ o i, a = some ⟨g, o, none⟩ ∧ o + (i * 2 + 1) = q ∧ i < n
  · obtain ⟨o, i, rfl, hq, hi⟩ := hit
    obtain ⟨u, z, hu, hz, huz, hps⟩ := hm.get (i := i) (by rw [← hm.len, h.len]; exact hi)
    have hcell : W.cell? ⟨g, o + i * 2 + 1, none⟩ = some (.slice u.a u.n u.c) := lB1 h hu
    rw [show o + i * 2 + 1 = q by omega, sw.here] at hcell
    have hh := Option.some.inj hcell
    cases hh
    have hps' := hs z.ps (hl z (List.mem_of_getElem? hz)) hps
    have hil : i < r.length := by rw [h.len]; exact hi
    refine ⟨r.set i ⟨u.v, x', m', d'⟩, ⟨by rw [List.length_set]; exact h.len, h.cap, h.max, h.nil, fun y hy h0 => ?_⟩, by rw [List.length_set]; exact hm.len, fun j s t hs' ht => ?_⟩
    · cases hy
      obtain ⟨b, o', e', hc⟩ := h.cells _ rfl h0
      cases e'
      refine ⟨g, o, rfl, fun j v hj => ?_⟩
      rw [El.fl_get kB] at hj
      obtain ⟨s, hs1, hs2⟩ := Option.bind_eq_some_iff.1 hj
      have hK : eB.K = 2 := rfl
      rw [hK] at hs1 hs2
      rw [List.getElem?_set] at hs1
      by_cases hji : i = j / 2
      · rw [if_pos hji, if_pos hil] at hs1
        cases hs1
        rcases fl_two _ _ _ hs2 with ⟨h2, rfl⟩ | ⟨h2, rfl⟩
        · refine sw.keep _ _ _ (fun e => by omega) (hc j _ ?_)
          rw [El.fl_get kB, hK, ← hji, hu, h2]
          rfl
        · rw [show o + j = q by omega]
          exact sw.now
      · rw [if_neg hji] at hs1
        refine sw.keep _ _ _ (fun e => ?_) (hc j v ?_)
        · have := fl_two _ _ _ hs2
          have h1 := hc j v (by rw [El.fl_get kB, hK, hs1]; exact hs2)
          rw [e.2, sw.here] at h1
          rcases this with ⟨h2, rfl⟩ | ⟨h2, rfl⟩
          · cases h1
          · omega
        · rw [El.fl_get kB, hK, hs1]
          exact hs2
    · rw [List.getElem?_set] at hs'
      by_cases hji : i = j
      · subst hji
        rw [if_pos rfl, if_pos hil] at hs'
        cases hs'
        rw [hz] at ht
        cases ht
        exact ⟨huz, hps'⟩
      · rw [if_neg hji] at hs'
        obtain ⟨e1, e2⟩ := hm.at' j s t hs' ht
        exact ⟨e1, e2.swap kI int_I sw⟩
  · refine ⟨r, ⟨h.len, h.cap, h.max, h.nil, fun y hy h0 => ?_⟩, hm.len, fun j s t hs' ht => ⟨(hm.at' j s t hs' ht).1, (hm.at' j s t hs' ht).2.swap kI int_I sw⟩⟩
    obtain ⟨b, o, e', hc⟩ := h.cells y hy h0
    refine ⟨b, o, e', fun j v hj => sw.keep _ _ _ (fun e => ?_) (hc j v hj)⟩
    have h1 := hc j v hj
    rw [e.1, e.2, sw.here] at h1
    rw [El.fl_get kB] at hj
    obtain ⟨s, hs1, hs2⟩ := Option.bind_eq_some_iff.1 hj
    have hK : eB.K = 2 := rfl
    rw [hK] at hs1 hs2
    have hlt := (List.getElem?_eq_some_iff.1 hs1).1
    rcases fl_two _ _ _ hs2 with ⟨h2, rfl⟩ | ⟨h2, rfl⟩
    · cases h1
    · exact hit ⟨o, j / 2, by rw [hy, e', e.1], by have := e.2; omega, by rw [← h.len]; exact hlt⟩
theorem IsPv.swap {W W' : World} {g q : Nat} {x x' : Option Addr} {m d m' d' : Nat} (sw : Swap W W' g q (.slice x m d) (.slice x' m' d')) (hs : ∀ ps : List Int, ps.length ≤ 8 → SlAt eI W x m d ps → SlAt eI W' x' m' d' ps) {z : Pr} {p : Pv} (h : IsPv W z p) (hl : ∀ b ∈ p.bs, b.ps.length ≤ 8) : IsPv W' z p := by
  obtain ⟨a1, n1, c1, e1, s1⟩ := h.k
  obtain ⟨a2, n2, c2, e2, s2⟩ := h.m
  obtain ⟨a3, n3, c3, e3, s3⟩ := h.c
  obtain ⟨r, ⟨a4, n4, c4, e4, s4⟩, m4⟩ := h.b
  obtain ⟨r', s4', m4'⟩ := rows_swap sw hs s4 m4 hl
  exact ⟨h.o, h.wf, ⟨a1, n1, c1, e1, s1.swap kK int_K sw⟩, ⟨a2, n2, c2, e2, s2.swap kM int_M sw⟩, ⟨a3, n3, c3, e3, s3.swap kC int_C sw⟩, r', ⟨a4, n4, c4, e4, s4'⟩, m4'⟩
end

section
set_option linter.unusedVariables false
set_option maxRecDepth 4000
set_option linter.unusedSimpArgs false
open Go.RowKit

theorem chk_eight {p : Pv} (h : chk p = true) : ∀ b ∈ p.bs, b.ps.length ≤ 8 := by
  have h' := (chk_iff p).1 h
  have h2 := h'.2.1
  unfold gK at h2
  simp only [Bool.and_eq_true, decide_eq_true_eq] at h2
  exact fun m hm => okB_len h2.2.1 (((gB_iff p).1 h'.2.2.2.1).1 m hm)
theorem few_swap {W W' : World} {g q : Nat} {a a' : Option Addr} {n c n' c' : Nat} (sw : Swap W W' g q (.slice a n c) (.slice a' n' c')) (he : n ≤ 8 → Value.slice a' n' c' = .slice a n c) {x : Pr} {p : Pv} (h : IsPv W x p) (hc : chk p = true) : IsPv W' x p := by
  refine h.swap sw (fun ps hp hs => ?_) (chk_eight hc)
  have e := he (by rw [← hs.len]; exact hp)
  cases e
  exact hs.swap kI int_I sw
theorem fr_swap {W W' : World} {g : Nat} {f : S4.Fr} {z s : Value} (h : FrAt W g f z) (h' : FrAt W' g f s) (hg : W.grownBy W' (some g)) : Swap W W' g 16 z s :=
  Swap.of h h' hg rfl rfl fun j hj => by
    match j, hj with
    | 0, _ | 1, _ | 2, _ | 3, _ | 4, _ | 5, _ | 6, _ | 7, _ | 8, _ | 9, _ | 10, _ | 11, _ | 12, _ | 13, _ | 14, _ | 15, _ => rfl
    | j + 17, _ => rfl
theorem bf_swap {W W' : World} {g : Nat} {f : S4.Bf} {z s : Value} (h : BfAt W g f z) (h' : BfAt W' g f s) (hg : W.grownBy W' (some g)) : Swap W W' g 31 z s :=
  Swap.of h h' hg rfl rfl fun j hj => by
    match j, hj with
    | 0, _ | 1, _ | 2, _ | 3, _ | 4, _ | 5, _ | 6, _ | 7, _ | 8, _ | 9, _ | 10, _ | 11, _ | 12, _ | 13, _ | 14, _ | 15, _ | 16, _ | 17, _ | 18, _ | 19, _ | 20, _ | 21, _ | 22, _ | 23, _ | 24, _ | 25, _ | 26, _ | 27, _ | 28, _ | 29, _ | 30, _ => rfl
    | j + 32, _ => rfl
theorem sh_hid {f : S4.Fr} {isid vid v : Int} {own to : S4.M6} (ht : f.t = true) : S4.shF (S4.hidF f isid vid own to) v = f.vid v := by
  unfold S4.shF S4.hidF S4.Fr.vid
  rw [ht]
theorem cv_src {W : World} {v : Value} {l : List Int} (h : S4.Src W v l) : (convert 30 9 v).run Try.prog W = .ok (.string (S4.bs l)) W := h.string
theorem lY0 {W : World} {b o n c i : Nat} {l : List Mr} {x : Mr} (h : SlAt eY W (some ⟨b, o, none⟩) n c l) (hx : l[i]? = some x) : W.cell? ⟨b, o + i * 2, none⟩ = some (.int .i64 x.v) := h.cell kY (j := 0) hx rfl rfl
theorem lY1 {W : World} {b o n c i : Nat} {l : List Mr} {x : Mr} (h : SlAt eY W (some ⟨b, o, none⟩) n c l) (hx : l[i]? = some x) : W.cell? ⟨b, o + i * 2 + 1, none⟩ = some (.slice x.a x.n x.c) := h.cell kY (j := 1) hx rfl rfl
theorem FrAt.stV {W : World} {b : Nat} {f : S4.Fr} {z : Value} (h : FrAt W b f z) (v : Int) : ∃ V, (stS 3 (.pointer (some ⟨b, 15, none⟩)) (.int .i64 v)).run Try.prog W = .ok () V ∧ FrAt V b (f.vid v) z ∧ W.grownBy V (some b) := ⟨_, RvAt.st1 h infoI (by rw [S4.fcs_size]; decide) rfl, RvAt.set h, grown_row _ _ _⟩
end

end Go.Proofs.Ytgjagedngdhdaaa
