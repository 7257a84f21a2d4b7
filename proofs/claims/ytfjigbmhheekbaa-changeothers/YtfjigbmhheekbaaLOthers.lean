/-
  ChangeOthers: its walk, for every tree and place.
-/
import Derived.Test.YtfjigbmhheekbaaLSteps
import Derived.Test.YtfjigbmhheekbaaLPure
namespace Go.Proofs.Ytfjigbmhheekbaa
set_option linter.unusedVariables false
set_option maxRecDepth 4000
set_option linter.unusedSimpArgs false
open Go.RowKit

theorem othI (h : Hd) (l : List Pt) (i : Int) {j : Nat} (hj : j < l.length) (hn : (j : Int) ≠ i) : gtP ((tcmI h l i).getD l) j = gtP l j ∨ gtP ((tcmI h l i).getD l) j = (gtP l j).setB 27 kb27 true := by
  by_cases hi : inB l.length i
  · have e : tcmI h l i = _ := if_pos hi
    rw [e]
    exact tcm_other h l _ hj (fun e => hn (by rw [e]; have := hi.1; omega))
  · have e : tcmI h l i = _ := if_neg hi
    rw [e]
    exact Or.inl rfl
theorem lenI (h : Hd) (l : List Pt) (i : Int) : ((tcmI h l i).getD l).length = l.length := by
  by_cases hi : inB l.length i
  · have e : tcmI h l i = _ := if_pos hi
    rw [e]
    exact tcm_len h l _
  · have e : tcmI h l i = _ := if_neg hi
    rw [e]
    rfl
/-- The ports as they were, one after another. -/
def asL (l : List Pt) (j : Nat) (_ : Pt) : Pt := gtP l j
theorem asL_all (l m : List Pt) (hl : m.length = l.length) : mapI (asL l) m m.length = l := by
  rw [mapI_all]
  refine List.ext_getElem? fun j => ?_
  rw [List.getElem?_mapIdx]
  by_cases hj : j < l.length
  · rw [List.getElem?_eq_getElem (by omega), gtP_at hj]
    rfl
  · rw [List.getElem?_eq_none (by omega), List.getElem?_eq_none (by omega)]
    rfl
attribute [local go_sem ↓] ldP stP stB ldT stT apE st32 alP
attribute [local go_sem] alP_run
set_option maxHeartbeats 8000000 in
theorem ChangeOthers_walk (h : Hd) (a0 : Option Addr) (n0 c0 : Nat) (l0 : List Pt) (i : Int) (w : World) (hs : SlAt w a0 n0 c0 l0) (hi : -9223372036854775808 ≤ i ∧ i ≤ 9223372036854775807) :
    Calls Try.prog 7 #[.agg (trc h (.slice a0 n0 c0)), .int .i64 i] w fun r w' => r = .returned (.bool true) ∧ Below w.heap.size w w' := by
  obtain ⟨W, hW, r0, bW, zW⟩ := one_t w h (.slice a0 n0 c0)
  have t0 := r0.tld
  have H : Hid (SlAt W a0 n0 c0 l0 ∧ RvAt W w.heap.size 43 (trc h (.slice a0 n0 c0)) ∧ Below w.heap.size w W) := ⟨hs.below bW, r0, bW⟩
  clear hs r0 bW zW
  go_enter Try.func7, Try.ntmps7
  go_wp2_with fail
  refine (few_any h a0 n0 c0 l0 W H.out.1).mono ?_
  rintro _ W1 ⟨n, rfl, hn, s1, b1⟩
  obtain ⟨l, hl⟩ : ∃ l, l0.take 12 = l := ⟨_, rfl⟩
  rw [hl] at s1
  obtain ⟨V, sV, t⟩ := TQ.few (w := w) H.out.2.1 H.out.2.2 (Nat.le_refl _) b1 s1
  have G4 : Hid (TQ w V w.heap.size h a0 n c0 l) := t
  have hn1 : n ≤ 1000 := by omega
  have lV := t.ld
  obtain ⟨ls, hls⟩ : ∃ z, (tcmI h l i).getD l = z := ⟨_, rfl⟩
  have C := tcm_any h a0 n c0 l i V t.sl hn1
  obtain ⟨B, hB⟩ : ∃ z, (tcmI h l i).isSome = z := ⟨_, rfl⟩
  have C : Hid _ := C
  have EL : Hid ((tcmI h l i).getD l = ls ∧ (tcmI h l i).isSome = B) := ⟨hls, hB⟩
  have HO : Hid (∀ j : Nat, j < n → (j : Int) ≠ i → gtP ls j = gtP l j ∨ gtP ls j = (gtP l j).setB 27 kb27 true) := by
    rw [← hls, ← t.sl.len]
    exact fun j hj hne => othI h l i hj hne
  have HL : Hid (ls.length = n ∧ l.length = n) := by
    rw [← hls, lenI]
    exact ⟨t.sl.len, t.sl.len⟩
  clear s1 b1 t t0 H hW hl hn hi hls hB
  go_wp2_with fail
  refine Calls.mono C.out ?_
  rintro _ X1 ⟨a2, c2, rfl, s2, b2⟩
  rw [EL.out.1] at s2
  rw [EL.out.2]
  obtain ⟨X2, e4, t2, b3⟩ := TQ.new (w := w) (h := h) s2 (below_over G4.out.bel b2)
  obtain ⟨i1, hi1⟩ : ∃ z, X1.heap.size = z := ⟨_, rfl⟩
  rw [hi1] at e4 t2
  have tV := (G4.out.below b2).below b3
  obtain ⟨V1, V2, V3, a1, c1, e1, z1, d1, d2, e2, e3, tt, tk, pk, gk, bk⟩ := t2.copy hn1
  obtain ⟨kb, hkb⟩ : ∃ z, X2.heap.size = z := ⟨_, rfl⟩
  rw [hkb] at e1 e3 tk gk z1
  rw [z1] at e2
  have l2 := t2.ld
  have f1 := tV.var.t16
  have f2 := t2.var.t16
  have tW := tV.below bk
  have G5 : Hid (TQ w V3 w.heap.size h a0 n c0 l ∧ TQ w V3 kb h a1 n c1 ls ∧ PA V3 a1 n c1 ls ∧ (∀ g, blk a1 = some g → kb < g) ∧ w.heap.size < kb ∧ ∀ x, a0 = some x → 0 < n → x.block < kb) := by
    refine ⟨tW, tk, pk, gk, by have := tV.var.lt; omega, fun x hx h0 => ?_⟩
    rw [hx] at tV
    obtain ⟨g0, o0, ex⟩ := tV.sl.some' h0
    cases ex
    have := tV.sl.low h0
    show g0 < kb
    omega
  clear s2 b2 t2 b3 C EL tV tt tk pk gk bk tW G4 lV sV
  go_wp2_with fail
  clear e1 e2 e3 d1 d2 l2 f1 f2 e4
  go_loopw [8] (fun v8 wr => ∃ j : Nat, j ≤ n ∧ v8 = .int .i64 j ∧ PA wr a1 n c1 (mapI (asL l) ls j) ∧ V3.grownBy wr (blk a1)) (fun v8 _ => n - (intOf v8).toNat)
  case atStart => exact ⟨0, by omega, rfl, by rw [mapI_zero]; exact G5.out.2.2.1, World.grownBy.refl _ _⟩
  case round =>
    obtain ⟨j, hj, rfl, hP, hG⟩ := hrel
    have hin0 : (0 : Int) ≤ (j : Int) := by omega
    obtain ⟨gt, gy, _, gk, gw, ga⟩ := G5.out
    have ry := gy.var.keptBut hG (fun e => by have := gk kb e.symm; omega)
    have rt := gt.var.keptBut hG (fun e => by have := gk _ e.symm; omega)
    have st := gt.sl
    by_cases hjn : j < n
    · have hin1 : (j : Int) < (n : Int) := by omega
      have hjl : j < l.length := by rw [HL.out.2]; exact hjn
      have hjs : j < ls.length := by rw [HL.out.1]; exact hjn
      cases a1 with
      | none => have := (hP.nil rfl).1; omega
      | some x =>
      obtain ⟨g, rfl, hp⟩ := hP.pat x rfl
      have hkg : kb < g := gk g rfl
      obtain ⟨g0, o0, ea0⟩ := st.some' (by omega)
      subst ea0
      have hg0 : g0 < kb := ga _ rfl (by omega)
      have hG : V3.grownBy wr (some g) := hG
      have sl : SlAt wr (some ⟨g0, o0, none⟩) n c0 l := st.keptBut hG (fun y hy e => by cases hy; simp only [Option.some.injEq] at e; omega)
      have hat := mapI_at (f := asL l) hjs
      have S : Hid (PAt wr g c1 (mapI (asL l) ls j) ∧ V3.grownBy wr (some g) ∧ SlAt wr (some ⟨g0, o0, none⟩) n c0 l ∧ RvAt wr w.heap.size 43 (trc h (.slice (some ⟨g0, o0, none⟩) n c0)) ∧ RvAt wr kb 43 (trc h (.slice (some ⟨g, 0, none⟩) n c1)) ∧ kb < g ∧ w.heap.size < kb ∧ g0 < kb) := ⟨hp, hG, sl, rt, ry, hkg, gw, hg0⟩
      have c16y := ry.t16
      have c16t := rt.t16
      have lp := sl.ld (gtP_at hjl)
      clear hP hG ry rt st gt gy gk ga hp sl hkg gw hg0
      by_cases hik : (j : Int) = i
      · subst hik
        have q16y := fun z : Later wr => (S.out.2.2.2.2.1.below z.below).t16
        have q16t := fun z : Later wr => (S.out.2.2.2.1.below z.below).t16
        have qlp := fun z : Later wr => (S.out.2.2.1.below z.below).ld (gtP_at hjl)
        go_wp2_with fail
        refine wp_region_later_tail 8 (by kernel_rfl) (by kernel_rfl) ?_
        simp only [List.take_succ_cons, List.take_zero]
        repeat (go_big_quiet_step (first | exact rfl))
        refine wpQuiet_nil ?_
        intro z
        simp only [List.drop_succ_cons, List.drop_zero]
        obtain ⟨V9, e9, p9, g9⟩ := (S.out.1.below z.below).stp (i := j) (p := gtP l j) (q := j * 77) (by rw [mapI_len]; exact hjs) rfl
        have hfin := mapI_next (f := asL l) hjs
        have p9 : PAt V9 g c1 (mapI (asL l) ls (j + 1)) := by rw [← hfin]; exact p9
        have J : Hid (PA V9 (some ⟨g, 0, none⟩) n c1 (mapI (asL l) ls (j + 1)) ∧ V3.grownBy V9 (some g)) := ⟨⟨by rw [mapI_len, HL.out.1], (fun e => by cases e), fun x e => by cases e; exact ⟨g, rfl, p9⟩⟩, grown_self (grown_self S.out.2.1 (grown_of_below z.below _)) g9⟩
        clear q16y q16t qlp lp c16y c16t p9 g9 hfin S hat
        go_wp2
        go_roundw
        case rel => exact ⟨j + 1, by omega, by go_num, J.out.1, J.out.2⟩
        case measure => simp [intOf]; omega
      · have hne : ((j : Int) == i) = false := beq_eq_false_iff_ne.2 hik
        have ho := HO.out j hjn hik
        have c27 := S.out.2.2.1.cell (gtP_at hjl) ((gtP l j).bit (j := 27) rfl) (by omega)
        have y27 := S.out.1.bit hat (j := 27) (q := j * 77 + 27) kb27 rfl
        have lq := S.out.1.ld hat (q := j * 77) rfl
        obtain ⟨q, hq⟩ : ∃ q, gtP ls j = q := ⟨_, rfl⟩
        obtain ⟨p, hp⟩ : ∃ p, gtP l j = p := ⟨_, rfl⟩
        rw [hq] at ho y27 lq
        rw [hp] at ho c27 lp
        obtain ⟨Y0, y0, N0⟩ := PN.new wr q
        obtain ⟨pb, hpb⟩ : ∃ z, wr.heap.size = z := ⟨_, rfl⟩
        rw [hpb] at y0 N0
        obtain ⟨T, hT⟩ : ∃ z, p.bt 27 = z := ⟨_, rfl⟩
        have d27 := (S.out.2.2.1.below N0.bel).cell (gtP_at hjl) ((gtP l j).bit (j := 27) rfl) (by omega)
        rw [hp, hT] at d27
        have d16 := (S.out.2.2.2.1.below N0.bel).t16
        obtain ⟨Y1, y1, N1⟩ := N0.setB kb27 T
        have e16 := (S.out.2.2.2.2.1.below N1.bel).t16
        have hbk := oth_back ho
        rw [hT] at hbk
        rw [hbk] at N1
        have lp1 := N1.var.pld
        obtain ⟨Y2, y2, p2, g2⟩ := (S.out.1.below N1.bel).stp (i := j) (p := p) (q := j * 77) (by rw [mapI_len]; exact hjs) rfl
        have hfin := mapI_next (f := asL l) hjs
        have p2 : PAt Y2 g c1 (mapI (asL l) ls (j + 1)) := by rw [← hfin, show asL l j (gtP ls j) = p from hp]; exact p2
        have J : Hid (PA Y2 (some ⟨g, 0, none⟩) n c1 (mapI (asL l) ls (j + 1)) ∧ V3.grownBy Y2 (some g)) := ⟨⟨by rw [mapI_len, HL.out.1], (fun e => by cases e), fun x e => by cases e; exact ⟨g, rfl, p2⟩⟩, grown_self (grown_self S.out.2.1 (grown_of_below N1.bel _)) g2⟩
        have O27 : Hid (T = true → q.bt 27 = true) := fun e => oth_27 ho (by rw [hT]; exact e)
        rw [hT] at c27
        clear ho N0 N1 hbk p2 g2 hfin S hat hp hq hT hik
        cases T
        · clear O27 y27
          go_wp2
          go_roundw
          case rel => exact ⟨j + 1, by omega, by go_num, J.out.1, J.out.2⟩
          case measure => simp [intOf]; omega
        · rw [O27.out rfl] at y27
          clear O27
          go_wp2
          go_roundw
          case rel => exact ⟨j + 1, by omega, by go_num, J.out.1, J.out.2⟩
          case measure => simp [intOf]; omega
    · have hin : j = n := by omega
      subst hin
      have hin1 : ¬ (j : Int) < (j : Int) := by omega
      have e : mapI (asL l) ls j = l := by
        have := asL_all l ls (by rw [HL.out.1, HL.out.2])
        rw [HL.out.1] at this
        exact this
      rw [e] at hP
      have sl : SlAt wr a0 j c0 l := by
        by_cases h0 : 0 < j
        · exact st.keptBut hG (fun y hy e => by have := gk _ e.symm; have := ga y hy h0; omega)
        · exact ⟨st.len, st.cap, st.max, st.nil, fun y _ h1 => absurd h1 h0⟩
      have bel : Below w.heap.size w wr := gt.bel.trans (below_of_grown hG gt.bel.size (fun b hb => by have := gk b hb; omega))
      have c16y := ry.t16
      have ly := ry.tld
      have lt := rt.tld
      have S : Hid (SlAt wr a1 j c1 l ∧ SlAt wr a0 j c0 l ∧ Below w.heap.size w wr) := ⟨hP.sl, sl, bel⟩
      clear hP hG ry rt st gt gy gk ga sl bel e gw
      go_wp2_with fail
      refine (rsame_any h h a1 a0 j j c1 c0 l l wr S.out.1 S.out.2.1 hn1 hn1).mono ?_
      rintro _ X5 ⟨rfl, b6⟩
      rw [sameT_self]
      have G : Hid (Below w.heap.size w X5) := below_over S.out.2.2 b6
      clear b6 S c16y ly lt
      go_wp2_with fail
      refine (awake_any X5).mono ?_
      rintro _ X7 ⟨rfl, b8⟩
      have F : Hid (Below w.heap.size w X7) := below_over G.out b8
      clear b8 G
      go_wp2
      go_ret
      exact ⟨rfl, F.out⟩
end Go.Proofs.Ytfjigbmhheekbaa
