/-
  The definition: the walks of quiet and learns, for every tree.
-/
import Derived.Test.YtfjigbmhheekbaaRfA
namespace Go.Proofs.Ytfjigbmhheekbaa
set_option linter.unusedVariables false
set_option maxRecDepth 4000
set_option linter.unusedSimpArgs false
open Go.RowKit

attribute [local go_sem ↓] ldP stP stB stU stW ldT stT st32 alP
attribute [local go_sem] alP_run
set_option maxHeartbeats 4000000 in
theorem rquiet_in (h : Hd) (a : Option Addr) (n c : Nat) (l : List Pt) (k : Nat) (w : World) (hs : SlAt w a n c l) (hn : n ≤ 1000) (hk : k < n) :
    Calls Try.prog 36 #[.agg (trc h (.slice a n c)), .int .i64 (k : Int)] w fun r w' => TBs w h n l (some (l.set k (quiP (gtP l k)))) r w' := by
  obtain ⟨OO, hOO⟩ : ∃ z, some (l.set k (quiP (gtP l k))) = z := ⟨_, rfl⟩
  rw [hOO]
  have EO : Hid (some (l.set k (quiP (gtP l k))) = OO) := hOO
  clear hOO
  obtain ⟨g, o, rfl⟩ := hs.some' (by omega)
  have HL : Hid (l.length = n ∧ n ≤ 1000 ∧ k < n ∧ k < l.length) := ⟨hs.len, hn, hk, by rw [hs.len]; exact hk⟩
  have hin0 : (0 : Int) ≤ (k : Int) := by omega
  have hin1 : (k : Int) < (n : Int) := by omega
  obtain ⟨W, hW, r0, r1, bW, zW⟩ := two_t w h (.slice (some ⟨g, o, none⟩) n c)
  have GL : g < w.heap.size := hs.low (by omega)
  have c16 := r0.t16
  have lp := (hs.below bW).ld (gtP_at HL.out.2.2.2)
  obtain ⟨p, hp⟩ : ∃ p, gtP l k = p := ⟨_, rfl⟩
  rw [hp] at lp
  have HP : Hid (gtP l k = p) := hp
  obtain ⟨W0, s0, r0', b0, z0⟩ := var_p W p
  obtain ⟨Z, hZ⟩ : ∃ Z, W.heap.size = Z := ⟨_, rfl⟩
  rw [hZ] at s0 r0'
  have T0 : Hid (TV w W0 w.heap.size (w.heap.size + 1) Z h (some ⟨g, o, none⟩) n c l p) := ⟨⟨r0.below b0, r1.below b0, below_over bW b0, by omega⟩, (hs.below bW).below b0, r0', by omega, Nat.le_refl _, by omega, fun x e => by cases e; show g ≠ Z; omega⟩
  clear hs hn hk r0 r1 bW zW b0 z0 r0' hp GL
  have E : Hid (OO = some (l.set k (quiP p))) := by rw [← EO.out, HP.out]; exact rfl
  obtain ⟨V1, e1, S1⟩ := T0.out.setB kb6 true
  obtain ⟨V2, e2, S2⟩ := S1.setU ku71 u0
  obtain ⟨V3, e3, S3⟩ := S2.setB kb26 false
  obtain ⟨V4, e4, S4⟩ := S3.setN kn74 wi1
  have S9 : TV w V4 w.heap.size (w.heap.size + 1) Z h (some ⟨g, o, none⟩) n c l (quiR p) := S4
  rw [quiR_is] at S9
  have T9 : Hid (TV w V4 w.heap.size (w.heap.size + 1) Z h (some ⟨g, o, none⟩) n c l (quiP p)) := S9
  clear S9 S1 S2 S3 S4
  go_enter Try.func36, Try.ntmps36
  have lt9 := T9.out.tre.var.tld
  have lp9 := T9.out.pv.pld
  go_wp2_with fail
  refine (with_any h (some ⟨g, o, none⟩) n c (l) k _ V4 T9.out.sl HL.out.2.1 HL.out.2.2.1).mono ?_
  rintro _ Y ⟨a8, c8, rfl, s8, f8, b8⟩
  clear f8
  obtain ⟨U, sU, h1, h2, gU⟩ := (T9.out.tre.below b8).tell (y := .slice a8 n c8) rfl
  have G : Hid (RvAt U (w.heap.size + 1) 43 (trc h (.slice a8 n c8)) ∧ SlAt U a8 n c8 (OO.getD l) ∧ Below w.heap.size w U ∧ OO.isSome = true) := by
    rw [E.out]
    exact ⟨h1, s8.keptT (T9.out.tre.below b8).out gU, h2, rfl⟩
  clear h1 h2 gU
  go_wp2
  refine bodyPost_ret (results_tb Try.results36 _ _ _ _ _ rfl G.out.1) rfl ?_
  exact ⟨a8, c8, by rw [G.out.2.2.2]; rfl, G.out.2.1, G.out.2.2.1⟩
set_option maxHeartbeats 4000000 in
theorem rlearns_in (h : Hd) (a : Option Addr) (n c : Nat) (l : List Pt) (k : Nat) (w : World) (hs : SlAt w a n c l) (hn : n ≤ 1000) (hk : k < n) :
    Calls Try.prog 33 #[.agg (trc h (.slice a n c)), .int .i64 (k : Int)] w fun r w' => TBs w h n l (some (l.set k (lrnP (gtP l k)))) r w' := by
  obtain ⟨OO, hOO⟩ : ∃ z, some (l.set k (lrnP (gtP l k))) = z := ⟨_, rfl⟩
  rw [hOO]
  have EO : Hid (some (l.set k (lrnP (gtP l k))) = OO) := hOO
  clear hOO
  obtain ⟨g, o, rfl⟩ := hs.some' (by omega)
  have HL : Hid (l.length = n ∧ n ≤ 1000 ∧ k < n ∧ k < l.length) := ⟨hs.len, hn, hk, by rw [hs.len]; exact hk⟩
  have hin0 : (0 : Int) ≤ (k : Int) := by omega
  have hin1 : (k : Int) < (n : Int) := by omega
  obtain ⟨W, hW, r0, r1, bW, zW⟩ := two_t w h (.slice (some ⟨g, o, none⟩) n c)
  have GL : g < w.heap.size := hs.low (by omega)
  have c16 := r0.t16
  have lp := (hs.below bW).ld (gtP_at HL.out.2.2.2)
  obtain ⟨p, hp⟩ : ∃ p, gtP l k = p := ⟨_, rfl⟩
  rw [hp] at lp
  have HP : Hid (gtP l k = p) := hp
  obtain ⟨W0, s0, r0', b0, z0⟩ := var_p W p
  obtain ⟨Z, hZ⟩ : ∃ Z, W.heap.size = Z := ⟨_, rfl⟩
  rw [hZ] at s0 r0'
  have T0 : Hid (TV w W0 w.heap.size (w.heap.size + 1) Z h (some ⟨g, o, none⟩) n c l p) := ⟨⟨r0.below b0, r1.below b0, below_over bW b0, by omega⟩, (hs.below bW).below b0, r0', by omega, Nat.le_refl _, by omega, fun x e => by cases e; show g ≠ Z; omega⟩
  clear hs hn hk r0 r1 bW zW b0 z0 r0' hp GL
  have E : Hid (OO = some (l.set k (lrnP p))) := by rw [← EO.out, HP.out]; exact rfl
  obtain ⟨V1, e1, S1⟩ := T0.out.setB kb17 false
  obtain ⟨V2, e2, S2⟩ := S1.setB kb19 false
  obtain ⟨V3, e3, S3⟩ := S2.setB kb18 false
  obtain ⟨V4, e4, S4⟩ := S3.setB kb27 false
  obtain ⟨V5, e5, S5⟩ := S4.setN kn74 wi2
  have S9 : TV w V5 w.heap.size (w.heap.size + 1) Z h (some ⟨g, o, none⟩) n c l (lrnP p) := S5
  have T9 : Hid (TV w V5 w.heap.size (w.heap.size + 1) Z h (some ⟨g, o, none⟩) n c l (lrnP p)) := S9
  clear S9 S1 S2 S3 S4 S5
  go_enter Try.func33, Try.ntmps33
  have lt9 := T9.out.tre.var.tld
  have lp9 := T9.out.pv.pld
  go_wp2_with fail
  refine (with_any h (some ⟨g, o, none⟩) n c (l) k _ V5 T9.out.sl HL.out.2.1 HL.out.2.2.1).mono ?_
  rintro _ Y ⟨a8, c8, rfl, s8, f8, b8⟩
  clear f8
  obtain ⟨U, sU, h1, h2, gU⟩ := (T9.out.tre.below b8).tell (y := .slice a8 n c8) rfl
  have G : Hid (RvAt U (w.heap.size + 1) 43 (trc h (.slice a8 n c8)) ∧ SlAt U a8 n c8 (OO.getD l) ∧ Below w.heap.size w U ∧ OO.isSome = true) := by
    rw [E.out]
    exact ⟨h1, s8.keptT (T9.out.tre.below b8).out gU, h2, rfl⟩
  clear h1 h2 gU
  go_wp2
  refine bodyPost_ret (results_tb Try.results33 _ _ _ _ _ rfl G.out.1) rfl ?_
  exact ⟨a8, c8, by rw [G.out.2.2.2]; rfl, G.out.2.1, G.out.2.2.1⟩
end Go.Proofs.Ytfjigbmhheekbaa
