/-
  RvarForms: its walk, for all settings.
-/
import Derived.Test.YtnjepjkbmgkdkaaAwake
namespace Go.Proofs.Ytnjepjkbmgkdkaa
set_option linter.unusedVariables false
set_option maxRecDepth 4000
set_option linter.unusedSimpArgs false
open Go.RowKit

/-- A part of a slice of costs. -/
def slCS (x : Value) (lo hi mx : Option Value) : Sem Value := Instr.sliceAt 25 x lo hi mx
theorem slC (x : Value) (lo hi mx : Option Value) : Instr.sliceAt 25 x lo hi mx = slCS x lo hi mx := rfl
theorem slc_cut (a : Option Addr) (n c m : Nat) (hm : m ≤ n) (hc : n ≤ c) (V : World) : (slCS (.slice a n c) none (some (.int .i64 m)) none).run Try.prog V = .ok (.slice a m c) V := by
  have hin : (m : Int) ≤ (c : Int) := by omega
  have hz := Try.sizeOf29
  have hu : Try.prog.underlying 25 = some (.slice 29) := Try.underlying25
  unfold slCS
  simp only [Instr.sliceAt, Sem.run_bind, run_underlying hu, Result.andThen_ok]
  simp only [Instr.slice, Sem.run_bind, run_underlying hu, Result.andThen_ok, Instr.sliceBounds, Sem.run_pure]
  rw [run_sliceBound V .i64 (m : Int) c _ (by omega) hin]
  simp only [Result.andThen_ok, Sem.run_pure, hz V, Int.toNat_natCast]
  cases a <;> simp [Addr.add]
theorem RvAt.cset {W : World} {b : Nat} {c : Cf} {x y : Value} (hb : RvAt W b 27 (cfc c x)) (hy : y.oneCell' = true) :
    ∃ W', (stS 25 (.pointer (some ⟨b, 6, none⟩)) y).run Try.prog W = .ok () W' ∧ RvAt W' b 27 (cfc c y) ∧ W.grownBy W' (some b) := by
  refine ⟨_, hb.st1 info1.2.2.2.2.2 (by rw [cfc_size]; omega) hy, ?_, ⟨rfl, rfl, rfl, by simp, fun i hi hne => setRow_other W b i _ (fun e => hne (by rw [e]))⟩⟩
  rw [cfc_set]
  exact hb.set
theorem psN_len (b : Bool) (l : List Int) : (psN b l).length ≤ l.length := by
  cases b
  · exact Nat.zero_le _
  · exact Nat.le_of_eq (newPs_len l)
attribute [local go_sem ↓] ldT stT ldC stC slC st25
set_option maxHeartbeats 8000000 in
theorem RvarForms_walk (c : Cf) (a : Option Addr) (n k : Nat) (l : List Int) (w : World) (hs : CsAt w a n k l) :
    Calls Try.prog 3 #[.agg (cfc c (.slice a n k))] w fun r w' => r = .returned (.bool true) ∧ Below w.heap.size w w' := by
  obtain ⟨m, hm, e20, hml⟩ : ∃ m : Nat, m ≤ n ∧ (if (20 : Int) < (n : Int) then (20 : Int) else (n : Int)) = (m : Int) ∧ m ≤ 20 := by
    refine ⟨min n 20, by omega, ?_, by omega⟩
    split <;> omega
  obtain ⟨W, hW, r0, bW, zW⟩ := one_c w c (.slice a n k)
  have c6 := r0.c6
  obtain ⟨W1, s1, r1, g1⟩ := r0.cset (y := .slice a m k) rfl
  have sl := slc_cut a n k m hm hs.cap
  have b1 : Below w.heap.size w W1 := gro bW g1 (Nat.le_refl _) (by omega)
  have h1 : CsAt W1 a m k (l.take m) := by
    refine (hs.cut hm).below b1
  obtain ⟨ls, hls⟩ : ∃ ls, l.take m = ls := ⟨_, rfl⟩
  rw [hls] at h1
  have l1 := r1.cld
  have G : Hid (CsAt W1 a m k ls ∧ m ≤ 20 ∧ RvAt W1 w.heap.size 27 (cfc c (.slice a m k)) ∧ Below w.heap.size w W1 ∧ ls.length = m) := ⟨h1, hml, r1, b1, h1.len⟩
  clear hs hm hml r0 bW zW r1 g1 b1 h1 hls
  go_enter Try.func3, Try.ntmps3
  go_wp2_with fail
  refine (new_any c a m k ls W1 G.out.1 (by have := G.out.2.1; omega)).mono ?_
  rintro _ W2 ⟨v, rfl, o2, b2⟩
  obtain ⟨ok, hok⟩ : ∃ z, okC c ls = z := ⟨_, rfl⟩
  have OK : Hid (okC c ls = ok) := hok
  rw [hok] at o2 ⊢
  clear hok
  obtain ⟨av, cv, rfl, sv, _⟩ := o2.form
  obtain ⟨W3, s3, r3, b3, z3⟩ := new_tv W2 (hdN ok c) (.slice av (psN ok ls).length cv) rfl
  obtain ⟨b, hb⟩ : ∃ b, W2.heap.size = b := ⟨_, rfl⟩
  rw [hb] at s3 r3 z3
  have b23 := below_over b2 b3
  have G3 : Hid (RvAt W3 b 34 (trc (hdN ok c) (.slice av (psN ok ls).length cv)) ∧ SlAt W3 av (psN ok ls).length cv (psN ok ls) ∧ RvAt W3 w.heap.size 27 (cfc c (.slice a m k)) ∧ CsAt W3 a m k ls ∧ Below w.heap.size w W3) := ⟨r3, sv.below b3, G.out.2.2.1.below b23, G.out.1.below b23, below_over G.out.2.2.2.1 b23⟩
  have l3 := G3.out.2.2.1.cld
  clear o2 b2 sv r3 b3 z3 b23 l1 c6 s1 sl
  go_wp2_with fail
  refine (rnew_any c a m k ls W3 G3.out.2.2.2.1 (by have := G.out.2.1; omega)).mono ?_
  rintro _ W4 ⟨u, rfl, o4, b4⟩
  rw [OK.out] at o4 ⊢
  obtain ⟨au, cu, rfl, su, _⟩ := o4.form
  obtain ⟨W5, s5, r5, b5, z5⟩ := new_tv W4 (hdN ok c) (.slice au (psN ok ls).length cu) rfl
  obtain ⟨d, hd⟩ : ∃ d, W4.heap.size = d := ⟨_, rfl⟩
  rw [hd] at s5 r5 z5
  have b45 := below_over b4 b5
  have G5 : Hid (RvAt W5 b 34 (trc (hdN ok c) (.slice av (psN ok ls).length cv)) ∧ SlAt W5 av (psN ok ls).length cv (psN ok ls) ∧ RvAt W5 w.heap.size 27 (cfc c (.slice a m k)) ∧ CsAt W5 a m k ls ∧ Below w.heap.size w W5 ∧ RvAt W5 d 34 (trc (hdN ok c) (.slice au (psN ok ls).length cu)) ∧ SlAt W5 au (psN ok ls).length cu (psN ok ls)) := ⟨G3.out.1.below b45, G3.out.2.1.below b45, G3.out.2.2.1.below b45, G3.out.2.2.2.1.below b45, below_over G3.out.2.2.2.2 b45, r5, su.below b5⟩
  have lt := G5.out.1.tld
  have lu := G5.out.2.2.2.2.2.1.tld
  have hpl : (psN ok ls).length ≤ 1000 := by have := psN_len ok ls; have := G.out.2.2.2.2; have := G.out.2.1; omega
  clear o4 b4 su r5 b5 z5 b45 l3 s3
  go_wp2_with fail
  refine (rsame_any (hdN ok c) (hdN ok c) av au _ _ cv cu (psN ok ls) (psN ok ls) W5 G5.out.2.1 G5.out.2.2.2.2.2.2 hpl hpl).mono ?_
  rintro _ W6 ⟨rfl, b6⟩
  rw [sameT_self]
  have G6 : Hid (RvAt W6 w.heap.size 27 (cfc c (.slice a m k)) ∧ CsAt W6 a m k ls ∧ Below w.heap.size w W6) := ⟨G5.out.2.2.1.below b6, G5.out.2.2.2.1.below b6, below_over G5.out.2.2.2.2.1 b6⟩
  have l6 := G6.out.1.cld
  clear b6 lt lu s5
  go_wp2_with fail
  refine (checkc_any c a m k ls W6 G6.out.2.1 (by have := G.out.2.1; omega)).mono ?_
  rintro _ W7 ⟨rfl, b7⟩
  rw [OK.out]
  have B7 : Hid (Below w.heap.size w W7) := below_over G6.out.2.2 b7
  clear b7 l6
  go_wp2_with fail
  refine (awake_any W7).mono ?_
  rintro _ W8 ⟨rfl, b8⟩
  have B8 : Hid (Below w.heap.size w W8) := below_over B7.out b8
  clear b8
  go_wp2
  go_ret
  exact ⟨rfl, B8.out⟩
end Go.Proofs.Ytnjepjkbmgkdkaa
