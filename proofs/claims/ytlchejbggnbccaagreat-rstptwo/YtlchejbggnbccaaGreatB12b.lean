/-
  assign: its walk, for every tree whose ports lie in a block of one's own. And what follows from it here.
-/
import Derived.Test.YtlchejbggnbccaaGreatBbb
import Derived.Test.YtlchejbggnbccaaGreatB12a
namespace Go.Proofs.YtlchejbggnbccaaGreat
set_option linter.unusedVariables false
set_option linter.unusedSimpArgs false
set_option maxRecDepth 4000
section
namespace S12
open Go.RowKit

theorem TS.pt {w W : World} {b n c g i : Nat} {h : Hd} {L : List Pt} {q : Pt} (s : TS w W b h (some ⟨g, 0, none⟩) n c (L.set i q)) (hi : i < n) : (L.set i q)[i]? = some q ∧ PAt W g c (L.set i q) := by
  have hl := s.ps.len
  rw [List.length_set] at hl
  obtain ⟨g', e, hp⟩ := s.ps.pat _ rfl
  cases e
  exact ⟨by rw [List.getElem?_set, if_pos rfl, if_pos (by omega)], hp⟩
theorem TS.setB {w W : World} {b n c g i j o : Nat} {h : Hd} {L : List Pt} {q : Pt} (s : TS w W b h (some ⟨g, 0, none⟩) n c (L.set i q)) (hi : i < n) (hj : kdP[j]? = some none) (x : Bool) (ho : o = i * 77 + j) :
    ∃ V, (stS 4 (.pointer (some ⟨g, o, none⟩)) (.bool x)).run Tryz.prog W = .ok () V ∧ TS w V b h (some ⟨g, 0, none⟩) n c (L.set i (q.setB j hj x)) := by
  obtain ⟨hat, hp⟩ := s.pt hi
  obtain ⟨V, e, hP, hg⟩ := hp.st1 hat (tv := 4) info2.1 (by rw [← lenP]; exact (List.getElem?_eq_some_iff.1 hj).1) (v := .bool x) rfl (fit_bit hj) ho
  rw [List.set_set] at hP
  exact ⟨V, e, s.go rfl hP (by rw [List.length_set, List.length_set]) hg⟩
theorem TS.setN {w W : World} {b n c g i j o : Nat} {h : Hd} {L : List Pt} {q : Pt} {tv : TypeId} (s : TS w W b h (some ⟨g, 0, none⟩) n c (L.set i q)) (hi : i < n) (ht : (Tryz.prog.info? tv).map (·.size) = some 1) (hj : kdP[j]? = some (some .i64)) {x : Int} (hx : (Lit.int .i64 x).wf = true) (ho : o = i * 77 + j) :
    ∃ V, (stS tv (.pointer (some ⟨g, o, none⟩)) (.int .i64 x)).run Tryz.prog W = .ok () V ∧ TS w V b h (some ⟨g, 0, none⟩) n c (L.set i (q.setN j hj x hx)) := by
  obtain ⟨hat, hp⟩ := s.pt hi
  obtain ⟨V, e, hP, hg⟩ := hp.st1 hat (tv := tv) ht (by rw [← lenP]; exact (List.getElem?_eq_some_iff.1 hj).1) (v := .int .i64 x) rfl (fit_num hj hx) ho
  rw [List.set_set] at hP
  exact ⟨V, e, s.go rfl hP (by rw [List.length_set, List.length_set]) hg⟩
theorem set_self {L : List Pt} {i : Nat} {q : Pt} (h : L[i]? = some q) : L.set i q = L := by
  refine List.ext_getElem? fun j => ?_
  rw [List.getElem?_set]
  split
  · rename_i e
    subst e
    rw [if_pos (List.getElem?_eq_some_iff.1 h).1, h]
  · rfl
theorem setN_eq {ks : List (Option IntKind)} (r : Row ks) {j : Nat} (h : ks[j]? = some (some .i64)) {x y : Int} (hx : (Lit.int .i64 x).wf = true) (hy : (Lit.int .i64 y).wf = true) (e : x = y) : r.setN j h x hx = r.setN j h y hy := by
  subst e; rfl
theorem setB_self {ks : List (Option IntKind)} (r : Row ks) {j : Nat} (h : ks[j]? = some none) {x : Bool} (e : r.bt j = x) : r.setB j h x = r := by
  refine Row.same fun i _ => ?_
  rw [r.setB_get]
  split
  · rename_i e2
    subst e2
    rw [r.bit h, e]
  · rfl
def slcP (p : Pt) : Pt := (p.setB 21 kb21 false).setB 22 kb22 true
theorem slc_get (p : Pt) (i : Nat) : (slcP p).cl[i]? = if i = 22 then some (.bool true) else if i = 21 then some (.bool false) else p.cl[i]? := by
  unfold slcP
  rw [Row.setB_get, Row.setB_get]
theorem slc_still (p : Pt) {i : Nat} (hi : i ≠ 22 ∧ i ≠ 21) : (slcP p).cl[i]? = p.cl[i]? := by rw [slc_get, if_neg hi.1, if_neg hi.2]
theorem asg_aged {h : Hd} {r : Bool} {p : Pt} (e : p.nm 29 = 1) : ((slcP p).setN 31 kn31 4 wi4).setB 28 kb28 true = asgP h r p := by
  unfold asgP slcP
  rw [setN_eq _ kn31 (wanN_wf h r p) wi4 (by simp [wanN, e]), show updB h r p = true by simp [updB, e]]
theorem asg_mine {h : Hd} {r : Bool} {p : Pt} {x : Bool} (e : p.nm 29 = 2) (hx : (p.bt 28 || outB p) = x) : ((slcP p).setN 31 kn31 4 wi4).setB 28 kb28 x = asgP h r p := by
  unfold asgP slcP
  rw [setN_eq _ kn31 (wanN_wf h r p) wi4 (by simp [wanN, e]), show updB h r p = x by simp [updB, e, hx]]
theorem asg_heard {h : Hd} {r : Bool} {p : Pt} {x : Int} (hw : (Lit.int .i64 x).wf = true) (e : p.nm 29 = 3) (hx : heaN h r p = x) : ((slcP p).setN 31 kn31 x hw).setB 28 kb28 (decide (x = 4)) = asgP h r p := by
  unfold asgP slcP
  rw [setN_eq _ kn31 (wanN_wf h r p) hw (by simp [wanN, e, hx]), show updB h r p = decide (x = 4) by simp [updB, e, hx]]
theorem asg_none {h : Hd} {r : Bool} {p : Pt} (e1 : p.nm 29 ≠ 1) (e2 : p.nm 29 ≠ 2) (e3 : p.nm 29 ≠ 3) : (slcP p).setN 31 kn31 0 wi0 = asgP h r p := by
  unfold asgP slcP
  rw [setN_eq _ kn31 (wanN_wf h r p) wi0 (by simp [wanN, e1, e2, e3]), show updB h r p = p.bt 28 by simp [updB, e1, e2, e3]]
  refine (setB_self _ kb28 (bt_of ?_)).symm
  rw [Row.setN_get, if_neg (by omega), Row.setB_get, if_neg (by omega), Row.setB_get, if_neg (by omega)]
attribute [local go_sem ↓] ldP stP ldT stT stB st49
set_option maxHeartbeats 8000000 in
theorem assign_any (h : Hd) (a : Option Addr) (n c : Nat) (k : Int) (l : List Pt) (w : World) (hs : PA w a n c l) (hn : n ≤ 1000) :
    Calls Tryz.prog 186 #[.agg (trc h (.slice a n c)), .int .i64 k] w fun r w' => r = .returned (.tuple #[]) ∧ PA w' a n c (l.mapIdx fun i p => asgP h (isK k i) p) ∧ w.grownBy w' (blk a) := by
  obtain ⟨W, hW, r0, bW, zW⟩ := one_t w h (.slice a n c)
  have S0 : Hid (TS w W w.heap.size h a n c l ∧ l.length = n) := ⟨⟨r0, hs.below bW, grown_of_below bW _, Nat.le_refl _, hs.lt⟩, hs.len⟩
  have c16 := S0.out.1.var.t16
  obtain ⟨f, hf⟩ : ∃ f : Nat → Pt → Pt, (fun i p => asgP h (isK k i) p) = f := ⟨_, rfl⟩
  have HF : Hid (∀ i p, asgP h (isK k i) p = f i p) := by rw [← hf]; exact fun i p => rfl
  rw [hf]
  clear hs r0 bW zW hf
  go_enter Tryz.func186, Tryz.ntmps186
  go_wp2_with fail
  go_step3
  go_wp2_with fail
  go_step3
  go_wp2_with fail
  go_loopw [9] (fun v9 wr => ∃ i : Nat, i ≤ n ∧ v9 = .int .i64 i ∧ TS w wr w.heap.size h a n c (mapI f l i)) (fun v9 _ => n - (intOf v9).toNat)
  case atStart => exact ⟨0, by omega, rfl, by rw [mapI_zero]; exact S0.out.1⟩
  case round =>
    obtain ⟨i, hi, rfl, hS⟩ := hrel
    have hin0 : (0 : Int) ≤ (i : Int) := by omega
    by_cases hit : i < n
    · have hin1 : (i : Int) < (n : Int) := by omega
      have hil : i < l.length := by rw [S0.out.2]; exact hit
      cases a with
      | none => have := (hS.ps.nil rfl).1; omega
      | some x =>
      obtain ⟨g, rfl, _⟩ := hS.ps.pat x rfl
      have hat := mapI_at (f := f) hil
      have hnx := mapI_next (f := f) hil
      have hS' := hS
      rw [← set_self hat] at hS'
      have f16 := hS.var.t16
      obtain ⟨L, hL⟩ : ∃ L, mapI f l i = L := ⟨_, rfl⟩
      obtain ⟨p, hp⟩ : ∃ p, gtP l i = p := ⟨_, rfl⟩
      rw [hL, hp] at hS'
      rw [hL, hp, ← HF.out i p] at hnx
      obtain ⟨V1, e1, S1⟩ := hS'.setB hit kb21 false rfl
      obtain ⟨V2, e2, S2⟩ := S1.setB hit kb22 true rfl
      change TS w V2 w.heap.size h (some ⟨g, 0, none⟩) n c (L.set i (slcP p)) at S2
      obtain ⟨hat2, hP2⟩ := S2.pt hit
      have c29 := hP2.num hat2 (j := 29) (k := .i64) rfl rfl
      rw [show (slcP p).nm 29 = p.nm 29 from nm_of (slc_still p (by omega))] at c29
      have ST : Hid (TS w V2 w.heap.size h (some ⟨g, 0, none⟩) n c (L.set i (slcP p)) ∧ L.set i (asgP h (isK k i) p) = mapI f l (i + 1)) := ⟨S2, hnx⟩
      clear hS hS' S1 S2 hat hat2 hP2 hnx hL hp c16
      by_cases h1 : p.nm 29 = 1
      · rw [h1] at c29
        obtain ⟨V3, e3, S3⟩ := ST.out.1.setN hit (tv := 44) infoR kn31 wi4 rfl
        obtain ⟨V4, e4, S4⟩ := S3.setB hit kb28 true rfl
        rw [asg_aged (h := h) (r := isK k i) h1, ST.out.2] at S4
        have S4' : Hid (TS w V4 w.heap.size h (some ⟨g, 0, none⟩) n c (mapI f l (i + 1))) := S4
        clear S3 S4 h1
        go_wp2
        go_roundw
        case rel => exact ⟨i + 1, by omega, by go_num, S4'.out⟩
        case measure => simp [intOf]; omega
      · by_cases h2 : p.nm 29 = 2
        · rw [h2] at c29
          obtain ⟨hat2, hP2⟩ := ST.out.1.pt hit
          have c28 := hP2.bit hat2 (j := 28) rfl rfl
          rw [show (slcP p).bt 28 = p.bt 28 from bt_of (slc_still p (by omega))] at c28
          have lp := hP2.ld hat2 rfl
          have eo : outB (slcP p) = outB p := outB_of fun j _ _ => slc_still p (by omega)
          cases h28 : p.bt 28
          · rw [h28] at c28
            have P1 : Hid (∀ V : World, _) := fun V => outd_any (slcP p) V
            rw [eo] at P1
            have H28 : Hid (p.bt 28 = false) := h28
            have H2 : Hid (p.nm 29 = 2) := h2
            clear hat2 hP2 eo h1 h2 h28
            go_wp2_with fail
            refine (P1.out V2).mono ?_
            rintro _ V3 ⟨rfl, b3⟩
            obtain ⟨o, ho⟩ : ∃ o, outB p = o := ⟨_, rfl⟩
            rw [ho]
            have S3 := ST.out.1.below b3
            obtain ⟨V4, e4, S4⟩ := S3.setN hit (tv := 44) infoR kn31 wi4 rfl
            obtain ⟨V5, e5, S5⟩ := S4.setB hit kb28 o rfl
            rw [asg_mine (h := h) (r := isK k i) H2.out (by rw [H28.out, ho]; rfl), ST.out.2] at S5
            have S5' : Hid (TS w V5 w.heap.size h (some ⟨g, 0, none⟩) n c (mapI f l (i + 1))) := S5
            clear S3 S4 S5 b3 ho c28 c29 lp e1 e2 f16
            go_wp2
            go_roundw
            case rel => exact ⟨i + 1, by omega, by go_num, S5'.out⟩
            case measure => simp [intOf]; omega
          · rw [h28] at c28
            obtain ⟨V4, e4, S4⟩ := ST.out.1.setN hit (tv := 44) infoR kn31 wi4 rfl
            obtain ⟨V5, e5, S5⟩ := S4.setB hit kb28 true rfl
            rw [asg_mine (h := h) (r := isK k i) h2 (by rw [h28]; rfl), ST.out.2] at S5
            have S5' : Hid (TS w V5 w.heap.size h (some ⟨g, 0, none⟩) n c (mapI f l (i + 1))) := S5
            clear S4 S5 hat2 hP2 eo h1 h2 h28
            go_wp2
            go_roundw
            case rel => exact ⟨i + 1, by omega, by go_num, S5'.out⟩
            case measure => simp [intOf]; omega
        · by_cases h3 : p.nm 29 = 3
          · rw [h3] at c29
            have lt := ST.out.1.var.tld
            have C : Hid _ := heard_any h (some ⟨g, 0, none⟩) n c i k (L.set i (slcP p)) V2 ST.out.1.ps.sl hn hit
            have eg : gtP (L.set i (slcP p)) i = slcP p := by
              have h5 := (ST.out.1.pt hit).1
              have hle : i < (L.set i (slcP p)).length := (List.getElem?_eq_some_iff.1 h5).1
              have := gtP_at hle
              rw [h5] at this
              exact (Option.some.inj this).symm
            rw [eg, heaN_of (h := h) (r := isK k i) (p := slcP p) (q := p) (fun j _ _ => slc_still p (by omega))] at C
            have HX := heaN_wf h (isK k i) p
            obtain ⟨N, hN⟩ : ∃ N, heaN h (isK k i) p = N := ⟨_, rfl⟩
            rw [hN] at C HX
            have EN : Hid (heaN h (isK k i) p = N ∧ (Lit.int .i64 N).wf = true ∧ p.nm 29 = 3) := ⟨hN, HX, h3⟩
            clear hN HX h1 h2 h3 eg
            go_wp2_with fail
            refine Calls.mono C.out ?_
            rintro _ V3 ⟨rfl, b3⟩
            have S3 := ST.out.1.below b3
            obtain ⟨V4, e4, S4⟩ := S3.setN hit (tv := 44) infoR kn31 EN.out.2.1 rfl
            have c31 := (S4.pt hit).2.num (S4.pt hit).1 (j := 31) (k := .i64) rfl rfl
            rw [show ((slcP p).setN 31 kn31 N EN.out.2.1).nm 31 = N from Row.nset _ _ (by rw [lenP]; omega)] at c31
            obtain ⟨V5, e5, S5⟩ := S4.setB hit kb28 (decide (N = 4)) rfl
            rw [asg_heard (h := h) (r := isK k i) EN.out.2.1 EN.out.2.2 EN.out.1, ST.out.2] at S5
            have S5' : Hid (TS w V5 w.heap.size h (some ⟨g, 0, none⟩) n c (mapI f l (i + 1))) := S5
            clear S3 S4 S5 b3 lt C e1 e2 f16 c29
            by_cases h4 : N = 4
            · have e5' : (stS 4 (.pointer (some ⟨g, i * 77 + 28, none⟩)) (.bool true)).run Tryz.prog V4 = .ok () V5 := by rw [show decide (N = 4) = true by simp [h4]] at e5; exact e5
              clear e5
              subst h4
              go_wp2
              go_roundw
              case rel => exact ⟨i + 1, by omega, by go_num, S5'.out⟩
              case measure => simp [intOf]; omega
            · have e5' : (stS 4 (.pointer (some ⟨g, i * 77 + 28, none⟩)) (.bool false)).run Tryz.prog V4 = .ok () V5 := by rw [show decide (N = 4) = false by simp [h4]] at e5; exact e5
              have hb4 : (N == 4) = false := by simpa using h4
              clear e5
              go_wp2
              go_roundw
              case rel => exact ⟨i + 1, by omega, by go_num, S5'.out⟩
              case measure => simp [intOf]; omega
          · have hb1 : (p.nm 29 == 1) = false := by simpa using h1
            have hb2 : (p.nm 29 == 2) = false := by simpa using h2
            have hb3 : (p.nm 29 == 3) = false := by simpa using h3
            obtain ⟨V3, e3, S3⟩ := ST.out.1.setN hit (tv := 44) infoR kn31 wi0 rfl
            rw [asg_none (h := h) (r := isK k i) h1 h2 h3, ST.out.2] at S3
            have S3' : Hid (TS w V3 w.heap.size h (some ⟨g, 0, none⟩) n c (mapI f l (i + 1))) := S3
            clear S3
            go_wp2
            go_roundw
            case rel => exact ⟨i + 1, by omega, by go_num, S3'.out⟩
            case measure => simp [intOf]; omega
    · have hin : i = n := by omega
      subst hin
      have hin1 : ¬ (i : Int) < (i : Int) := by omega
      have e := mapI_all f l
      rw [S0.out.2] at e
      rw [e] at hS
      have F : Hid (PA wr a i c (l.mapIdx f) ∧ w.grownBy wr (blk a)) := ⟨hS.ps, hS.gr⟩
      clear hS e c16
      go_wp2
      go_returns
      exact ⟨rfl, F.out.1, F.out.2⟩
end S12
end
section
namespace S12
open Go.RowKit

attribute [local go_sem ↓] ldP stP ldT stT ldV stV alP
attribute [local go_sem] alP_run
set_option maxHeartbeats 8000000 in
theorem rootof_any (h : Hd) (a : Option Addr) (n c : Nat) (l : List Pt) (w : World) (hs : SlAt w a n c l) (hn : n ≤ 1000) :
    Calls Tryz.prog 183 #[.agg (trc h (.slice a n c))] w fun r w' => r = .returned (.tuple #[.agg (rooV h l).cs, .int .i64 (rooK h l)]) ∧ Below w.heap.size w w' := by
  obtain ⟨W, hW, r0, r1, bW, zW⟩ := two_tv w h (.slice a n c)
  have c0 := r0.tnum (j := 0) (k := .u64) rfl
  have H : Hid (RvAt W w.heap.size 39 (trc h (.slice a n c)) ∧ RvAt W (w.heap.size + 1) 36 zeroVc.cs ∧ SlAt W a n c l ∧ Below w.heap.size w W ∧ W.heap.size = w.heap.size + 2 ∧ l.length = n) := ⟨r0, r1, hs.below bW, bW, zW, hs.len⟩
  clear hs r0 r1 bW zW
  have NN : Hid (rtF h l n = (rooV h l, rooK h l)) := by unfold rooV rooK; rw [H.out.2.2.2.2.2]; exact rfl
  obtain ⟨RV, hRV⟩ : ∃ z, rooV h l = z := ⟨_, rfl⟩
  obtain ⟨RK, hRK⟩ : ∃ z, rooK h l = z := ⟨_, rfl⟩
  rw [hRV, hRK] at NN ⊢
  clear hRV hRK
  go_enter Tryz.func183, Tryz.ntmps183
  go_wp2_with fail
  go_step3
  go_wp2_with fail
  refine (own_any h W).mono ?_
  rintro _ W1 ⟨rfl, b1⟩
  obtain ⟨W2, s2, r2, b2, z2⟩ := new_v W1 (ownV h)
  have S2 : Hid (RS w W2 w.heap.size (w.heap.size + 1) W1.heap.size h a n c l (ownV h)) := ⟨(H.out.1.below b1).below b2, (H.out.2.1.below b1).below b2, r2, (H.out.2.2.1.below b1).below b2, below_over (below_over H.out.2.2.2.1 b1) b2, Nat.le_refl _, by omega, by have := H.out.2.2.2.2.1; have := b1.size; omega, by have := H.out.2.2.2.2.1; have := b1.size; omega, by have := H.out.2.2.2.2.1; have := b1.size; omega⟩
  obtain ⟨e, he⟩ : ∃ e, W1.heap.size = e := ⟨_, rfl⟩
  rw [he] at s2 S2
  have HL : Hid (l.length = n) := H.out.2.2.2.2.2
  have d16 := S2.out.var.t16
  clear r2 b2 z2 b1 H c0 hW
  go_wp2_with fail
  go_step3
  go_wp2_with fail
  go_loopw [5, 15] (fun v5 v15 wr => ∃ (i : Nat) (v : Vc) (k : Int), i ≤ n ∧ v15 = .int .i64 i ∧ v5 = .int .i64 k ∧ rtF h l i = (v, k) ∧ RS w wr w.heap.size (w.heap.size + 1) e h a n c l v) (fun _ v15 _ => n - (intOf v15).toNat)
  case atStart => exact ⟨0, ownV h, -1, by omega, rfl, rfl, rfl, S2.out⟩
  case round =>
    obtain ⟨i, v, k, hi, rfl, rfl, hF, hS⟩ := hrel
    have hin0 : (0 : Int) ≤ (i : Int) := by omega
    by_cases hit : i < n
    · have hin1 : (i : Int) < (n : Int) := by omega
      obtain ⟨b, o, rfl⟩ := hS.sl.some' (by omega)
      have hl := gtP_at (l := l) (i := i) (by rw [HL.out]; exact hit)
      have lp := hS.sl.ld hl
      have hno := rtF_no hF
      have hyes := rtF_yes hF
      have hkr := rtF_range h l i
      rw [hF] at hkr
      simp only at hkr
      obtain ⟨p, hp⟩ : ∃ p, gtP l i = p := ⟨_, rfl⟩
      rw [hp] at lp hno hyes
      obtain ⟨V, sV, rV, bV, zV⟩ := new_pv wr p
      have T : Hid (RS w V w.heap.size (w.heap.size + 1) e h (some ⟨b, o, none⟩) n c l v ∧ RvAt V wr.heap.size 74 p.cs ∧ (-1 ≤ k ∧ k < i)) := ⟨hS.below bV, rV, hkr⟩
      have lt := T.out.1.var.tld
      have lpv := T.out.2.1.pld
      have NO : Hid (_ → _) := hno
      have YES : Hid (_ → _) := hyes
      clear hS hl hp hno hyes rV bV zV hF hkr d16
      obtain ⟨pb, hpb⟩ : ∃ z, wr.heap.size = z := ⟨_, rfl⟩
      rw [hpb] at T lpv sV
      go_wp2_with fail
      refine (leads_any h _ p V).mono ?_
      rintro _ V1 ⟨rfl, b1⟩
      have T1 : Hid (RS w V1 w.heap.size (w.heap.size + 1) e h (some ⟨b, o, none⟩) n c l v ∧ RvAt V1 pb 74 p.cs ∧ (-1 ≤ k ∧ k < i)) := ⟨T.out.1.below b1, T.out.2.1.below b1, T.out.2.2⟩
      have c36 := T1.out.2.1.ppri
      have c1 := T1.out.2.1.num (j := 1) (k := .u32) rfl
      clear T b1 lt lpv sV lp hpb
      cases hB : ldB h p
      · rw [hB] at NO YES
        have NO1 : Hid (rtF h l (i + 1) = (v, k)) := NO.out rfl
        clear NO YES hB
        go_wp2
        go_roundw
        case rel => exact ⟨i + 1, v, k, by omega, by go_num, rfl, NO1.out, T1.out.1⟩
        case measure => simp [intOf]; omega
      rw [hB] at NO YES
      clear hB
      go_wp2_with fail
      refine (add_any p V1).mono ?_
      rintro _ V2 ⟨rfl, b2⟩
      obtain ⟨u, hu⟩ : ∃ u, addV p = u := ⟨_, rfl⟩
      rw [hu] at NO YES ⊢
      clear hu
      obtain ⟨V3, s3, r3, b3, z3⟩ := new_v V2 u
      have T3 : Hid (RS w V3 w.heap.size (w.heap.size + 1) e h (some ⟨b, o, none⟩) n c l v ∧ RvAt V3 pb 74 p.cs ∧ (-1 ≤ k ∧ k < i) ∧ RvAt V3 V2.heap.size 36 u.cs) := ⟨(T1.out.1.below b2).below b3, (T1.out.2.1.below b2).below b3, T1.out.2.2, r3⟩
      obtain ⟨cb, hcb⟩ : ∃ z, V2.heap.size = z := ⟨_, rfl⟩
      rw [hcb] at T3 s3
      have lu := T3.out.2.2.2.vld
      have lv := T3.out.1.root.vld
      clear T1 c36 c1 r3 b3 z3 b2
      go_wp2_with fail
      refine (compare_row u v V3).mono ?_
      rintro _ V4 ⟨rfl, b4⟩
      have T4 : Hid (RS w V4 w.heap.size (w.heap.size + 1) e h (some ⟨b, o, none⟩) n c l v ∧ RvAt V4 pb 74 p.cs ∧ (-1 ≤ k ∧ k < i) ∧ RvAt V4 cb 36 u.cs) := ⟨T3.out.1.below b4, T3.out.2.1.below b4, T3.out.2.2.1, T3.out.2.2.2.below b4⟩
      clear T3 lu lv s3 b4 hcb
      obtain ⟨N, hN⟩ : ∃ N, cmp u v = N := ⟨_, rfl⟩
      rw [show cmpV (v4 u) (v4 v) = N from hN]
      have IN : Hid (N = -1 ∨ N = 0 ∨ N = 1) := by rw [← hN]; exact cmp_in u v
      have EN : Hid (cmp u v = N) := hN
      clear hN
      have lu := T4.out.2.2.2.vld
      obtain ⟨V5, s5, S5⟩ := T4.out.1.st u
      have HS5 : Hid (RS w V5 w.heap.size (w.heap.size + 1) e h (some ⟨b, o, none⟩) n c l u) := S5
      clear S5
      rcases IN.out with rfl | rfl | rfl
      · have Y : Hid (rtF h l (i + 1) = (u, (i : Int))) := YES.out (tk_less EN.out)
        clear YES NO
        go_wp2
        go_roundw
        case rel => exact ⟨i + 1, u, i, by omega, by go_num, rfl, Y.out, HS5.out⟩
        case measure => simp [intOf]; omega
      · by_cases hk : k = -1
        · have N1 : Hid (rtF h l (i + 1) = (v, k)) := NO.out (by rw [hk]; exact tk_own EN.out)
          clear YES NO
          subst hk
          clear s5 HS5 lu
          have f0 := fun q : Later V4 => (T4.out.2.1.below q.below).num (j := 0) (k := .u16) rfl
          go_wp2_with fail
          refine wp_region_later (by kernel_rfl) (by kernel_rfl) ?_
          repeat (go_big_quiet_step (first | exact rfl))
          refine wpQuiet_nil ?_
          intro _ hw'
          obtain ⟨z, rfl⟩ := hw'
          clear f0
          go_wp2
          go_roundw
          case rel => exact ⟨i + 1, v, -1, by omega, by go_num, rfl, N1.out, T4.out.1.below z.below⟩
          case measure => simp [intOf]; omega
        · have hk0 : 0 ≤ k := by have := T4.out.2.2.1; omega
          obtain ⟨kn, rfl⟩ := Int.eq_ofNat_of_zero_le hk0
          have hkn : kn < n := by have := T4.out.2.2.1; omega
          have hk1 : (kn : Int) < (n : Int) := by omega
          have hkb : ((kn : Int) == -1) = false := by simp
          have f0 := fun q : Later V4 => (T4.out.2.1.below q.below).num (j := 0) (k := .u16) rfl
          have f16 := fun q : Later V4 => (T4.out.1.var.below q.below).t16
          have hlk := gtP_at (l := l) (i := kn) (by rw [HL.out]; exact hkn)
          have fk := fun q : Later V4 => (T4.out.1.sl.below q.below).cell hlk ((gtP l kn).num (j := 0) (k := .u16) rfl) (by omega)
          simp only [Nat.add_zero] at fk
          have YY : Hid (p.nm 0 < (gtP l kn).nm 0 → rtF h l (i + 1) = (u, (i : Int))) := fun hx => YES.out (tk_yes EN.out hx)
          have NY : Hid (¬ p.nm 0 < (gtP l kn).nm 0 → rtF h l (i + 1) = (v, (kn : Int))) := fun hx => NO.out (tk_no EN.out hx)
          clear NO YES
          obtain ⟨kid, hkid⟩ : ∃ z, (gtP l kn).nm 0 = z := ⟨_, rfl⟩
          obtain ⟨pid, hpid⟩ : ∃ z, p.nm 0 = z := ⟨_, rfl⟩
          rw [hkid] at fk YY NY
          rw [hpid] at f0 YY NY
          clear hkid hpid hlk
          by_cases hlt : pid < kid
          · have Y : Hid (rtF h l (i + 1) = (u, (i : Int))) := YY.out hlt
            have hge : ¬ kid ≤ pid := by omega
            clear YY NY
            have HLU : Hid (RvAt V4 cb 36 u.cs) := T4.out.2.2.2
            clear lu s5 HS5
            go_wp2_with fail
            refine wp_region_later (by kernel_rfl) (by kernel_rfl) ?_
            repeat (go_big_quiet_step (first | exact rfl))
            refine wpQuiet_nil ?_
            intro _ hw'
            obtain ⟨z, rfl⟩ := hw'
            clear f0 f16 fk
            have lu := (HLU.out.below z.below).vld
            obtain ⟨V5, s5, S5⟩ := (T4.out.1.below z.below).st u
            have HS5 : Hid (RS w V5 w.heap.size (w.heap.size + 1) e h (some ⟨b, o, none⟩) n c l u) := S5
            clear S5
            go_wp2
            go_roundw
            case rel => exact ⟨i + 1, u, i, by omega, by go_num, rfl, Y.out, HS5.out⟩
            case measure => simp [intOf]; omega
          · have N1 : Hid (rtF h l (i + 1) = (v, (kn : Int))) := NY.out hlt
            have hge : kid ≤ pid := by omega
            clear YY NY lu s5 HS5
            go_wp2_with fail
            refine wp_region_later (by kernel_rfl) (by kernel_rfl) ?_
            repeat (go_big_quiet_step (first | exact rfl))
            refine wpQuiet_nil ?_
            intro _ hw'
            obtain ⟨z, rfl⟩ := hw'
            clear f0 f16 fk
            go_wp2
            go_roundw
            case rel => exact ⟨i + 1, v, kn, by omega, by go_num, rfl, N1.out, T4.out.1.below z.below⟩
            case measure => simp [intOf]; omega
      · have N1 : Hid (rtF h l (i + 1) = (v, k)) := NO.out (tk_more EN.out)
        clear YES NO s5 HS5
        go_wp2
        go_roundw
        case rel => exact ⟨i + 1, v, k, by omega, by go_num, rfl, N1.out, T4.out.1⟩
        case measure => simp [intOf]; omega
    · have hin : i = n := by omega
      subst hin
      have hin1 : ¬ (i : Int) < (i : Int) := by omega
      rw [NN.out] at hF
      obtain ⟨rfl, rfl⟩ : RV = v ∧ RK = k := by simpa using hF
      have lv := hS.root.vld
      obtain ⟨U, sU, rU, bU⟩ := hS.tell
      have F : Hid (RvAt U (w.heap.size + 1) 36 RV.cs ∧ Below w.heap.size w U) := ⟨rU, bU⟩
      clear hS rU bU hF
      go_wp2_with (with_reducible exact ret_vi Tryz.results183 (by with_unfolding_all rfl) (by with_unfolding_all rfl) (by with_unfolding_all rfl) F.out.1 ⟨rfl, F.out.2⟩)
end S12
end
section
namespace S12
open Go.RowKit

attribute [local go_sem ↓] ldP stP ldT stT apE st32
theorem nil_yes (w : World) : (binOp .eql 37 (.slice none 0 0) (.slice none 0 0)).run Tryz.prog w = .ok (.bool true) w := by kernel_rfl
theorem nil_no (x : Addr) (n c : Nat) (w : World) : (binOp .eql 37 (.slice (some x) n c) (.slice none 0 0)).run Tryz.prog w = .ok (.bool false) w := by kernel_rfl
attribute [local go_sem] nil_yes nil_no
set_option maxHeartbeats 2000000 in
theorem clone_any (a : Option Addr) (n c : Nat) (l : List Pt) (w : World) (hs : SlAt w a n c l) (hn : n ≤ 1000) :
    Calls Tryz.prog 88 #[.slice a n c] w fun r w' => ∃ v, r = .returned v ∧ Own w' w.heap.size v l ∧ Below w.heap.size w w' := by
  cases a with
  | none =>
    obtain ⟨rfl, rfl⟩ := hs.nil rfl
    have hl : l = [] := List.eq_nil_of_length_eq_zero hs.len
    subst hl
    go_enter Tryz.func88, Tryz.ntmps88
    go_wp2
    go_ret
    exact ⟨_, rfl, Own.nil _ _, Below.refl _ _⟩
  | some x =>
    obtain ⟨W1, hW1⟩ : ∃ W1, w.alloc (.cells #[] 74) = W1 := ⟨_, rfl⟩
    have b1 : Below w.heap.size w W1 := by rw [← hW1]; exact (Below.refl _ _).alloc (Nat.le_refl _) _
    have o1 : Own W1 w.heap.size (.slice (some ⟨w.heap.size, 0, none⟩) 0 0) [] := by rw [← hW1]; exact zero_new w _ (Nat.le_refl _)
    obtain ⟨v, W2, ap, o2, g2⟩ := o1.app (hs.below b1) (by have := hs.len; simp; omega) b1.size 37
    rw [List.nil_append] at o2
    have b2 : Below w.heap.size w W2 := b1.trans (below_of_grown g2 b1.size (fun j e => by cases e; exact Nat.le_refl _))
    have F : Hid (Own W2 w.heap.size v l ∧ Below w.heap.size w W2) := ⟨o2, b2⟩
    clear hs b1 o1 o2 g2 b2 hn
    go_enter Tryz.func88, Tryz.ntmps88
    go_wp2
    go_ret
    exact ⟨v, rfl, F.out.1, F.out.2⟩
end S12
end
section
namespace S12
open Go.RowKit

theorem w16 : (Lit.int .u16 0).wf = true := by decide
def hdA (h : Hd) (v : Vc) : Hd := ((h.put 8 v hq8 hl8).setH 7 0).put 12 (tOfH h) hq12 hl12
theorem hdA_own {h : Hd} {l : List Pt} (e : rooK h l = -1) : hdA h (rooV h l) = hdS h l := by
  unfold hdA hdS
  rw [show ridN h l = 0 by simp [ridN, e], show rtmT h l = tOfH h by simp [rtmT, e]]
theorem hdA_port {h : Hd} {l : List Pt} {k : Nat} (e : rooK h l = (k : Int)) : ((hdA h (rooV h l)).setH 7 ((gtP l k).nm 0)).put 12 (oldT (priT (gtP l k))) hq12 hl12 = hdS h l := by
  have hw : (Lit.int .u16 ((gtP l k).nm 0)).wf = true := (gtP l k).nwf (j := 0) rfl
  have hk : ¬ ((k : Int) = -1) := by omega
  unfold hdA hdS
  rw [show ridN h l = (gtP l k).nm 0 by simp [ridN, e], show rtmT h l = oldT (priT (gtP l k)) by simp [rtmT, e]]
  refine Row.same fun i _ => ?_
  rw [Row.put_get, Row.setH_get _ kh7 hw, Row.put_get, Row.setH_get _ kh7 w16, Row.put_get, Row.put_get, Row.setH_get _ kh7 hw, Row.put_get, lenT, lenV]
  by_cases h1 : 12 ≤ i ∧ i < 12 + 4
  · simp only [if_pos h1]
  · by_cases h2 : i = 7
    · simp only [if_neg h1, if_pos h2]
    · simp only [if_neg h1, if_neg h2]
theorem sel_map (H : Hd) (k : Int) (l : List Pt) : ((l.map (telP H)).mapIdx fun i p => asgP H (isK k i) p) = l.mapIdx fun i p => selP H (isK k i) p := by
  refine List.ext_getElem? fun j => ?_
  rw [List.getElem?_mapIdx, List.getElem?_mapIdx, List.getElem?_map, Option.map_map]
  rfl
structure QS (w W : World) (h : Hd) (x : Value) : Prop where
  var : RvAt W w.heap.size 39 (trc h x)
  out : RvAt W (w.heap.size + 1) 39 (trc zeroH (.slice none 0 0))
  bel : Below w.heap.size w W
theorem QS.below {w W V : World} {h : Hd} {x : Value} (s : QS w W h x) (k : Below W.heap.size W V) : QS w V h x := ⟨s.var.below k, s.out.below k, below_over s.bel k⟩
theorem QS.go {w W V : World} {h h' : Hd} {x x' : Value} (s : QS w W h x) (r : RvAt V w.heap.size 39 (trc h' x')) (g : W.grownBy V (some w.heap.size)) : QS w V h' x' :=
  ⟨r, s.out.keptBut g (by simp), gro s.bel g (Nat.le_refl _) s.bel.size⟩
theorem QS.put {w W : World} {h : Hd} {x : Value} {o : Nat} {tv : TypeId} {ks' : List (Option IntKind)} (s : QS w W h x) (r : Row ks') (hk : (kdH.drop o).take ks'.length = ks') (hl : o + ks'.length ≤ kdH.length) (hi : (Tryz.prog.info? tv).map (·.size) = some ks'.length) :
    ∃ V, (stS tv (.pointer (some ⟨w.heap.size, o, none⟩)) (.agg r.cs)).run Tryz.prog W = .ok () V ∧ QS w V (h.put o r hk hl) x ∧ W.grownBy V (some w.heap.size) := by
  obtain ⟨V, e, rV, g⟩ := s.var.tput r hk hl hi
  exact ⟨V, e, s.go rV g, g⟩
theorem QS.setH {w W : World} {h : Hd} {x : Value} (s : QS w W h x) {n : Int} (hw : (Lit.int .u16 n).wf = true) :
    ∃ V, (stS 33 (.pointer (some ⟨w.heap.size, 7, none⟩)) (.int .u16 n)).run Tryz.prog W = .ok () V ∧ QS w V (h.setH 7 n) x ∧ W.grownBy V (some w.heap.size) := by
  obtain ⟨V, e, rV, g⟩ := s.var.tsetH hw
  exact ⟨V, e, s.go rV g, g⟩
structure QA (w W : World) (h : Hd) (a : Option Addr) (n c : Nat) (l : List Pt) : Prop where
  q : QS w W h (.slice a n c)
  sl : SlAt W a n c l
theorem QA.put {w W : World} {h : Hd} {a : Option Addr} {n c : Nat} {l : List Pt} {o : Nat} {tv : TypeId} {ks' : List (Option IntKind)} (s : QA w W h a n c l) (r : Row ks') (hk : (kdH.drop o).take ks'.length = ks') (hl : o + ks'.length ≤ kdH.length) (hi : (Tryz.prog.info? tv).map (·.size) = some ks'.length) :
    ∃ V, (stS tv (.pointer (some ⟨w.heap.size, o, none⟩)) (.agg r.cs)).run Tryz.prog W = .ok () V ∧ QA w V (h.put o r hk hl) a n c l ∧ W.grownBy V (some w.heap.size) := by
  obtain ⟨V, e, rV, g⟩ := s.q.put r hk hl hi
  exact ⟨V, e, ⟨rV, s.sl.keptT s.q.var g⟩, g⟩
theorem QA.setH {w W : World} {h : Hd} {a : Option Addr} {n c : Nat} {l : List Pt} (s : QA w W h a n c l) {m : Int} (hw : (Lit.int .u16 m).wf = true) :
    ∃ V, (stS 33 (.pointer (some ⟨w.heap.size, 7, none⟩)) (.int .u16 m)).run Tryz.prog W = .ok () V ∧ QA w V (h.setH 7 m) a n c l ∧ W.grownBy V (some w.heap.size) := by
  obtain ⟨V, e, rV, g⟩ := s.q.setH hw
  exact ⟨V, e, ⟨rV, s.sl.keptT s.q.var g⟩, g⟩
theorem QA.below {w W V : World} {h : Hd} {a : Option Addr} {n c : Nat} {l : List Pt} (s : QA w W h a n c l) (k : Below W.heap.size W V) : QA w V h a n c l := ⟨s.q.below k, s.sl.below k⟩
theorem QS.ports {w W V : World} {h : Hd} {x : Value} (s : QS w W h x) {a : Option Addr} (g : W.grownBy V (blk a)) (hg : ∀ b, blk a = some b → w.heap.size + 2 ≤ b) : QS w V h x := by
  refine ⟨s.var.keptBut g (fun e => ?_), s.out.keptBut g (fun e => ?_), s.bel.trans (below_of_grown g s.bel.size (fun j e => by have := hg j e; omega))⟩
  · have := hg _ e.symm; omega
  · have := hg _ e.symm; omega
attribute [local go_sem ↓] ldP stP ldT stT ldV stV ldTm stTm st16 st32
set_option maxHeartbeats 8000000 in
theorem select_any (h : Hd) (a : Option Addr) (n c : Nat) (l : List Pt) (w : World) (hs : SlAt w a n c l) (hn : n ≤ 1000) :
    Calls Tryz.prog 139 #[.agg (trc h (.slice a n c))] w fun r w' => ∃ a' c', r = .returned (.agg (trc (hdS h l) (.slice a' n c'))) ∧ SlAt w' a' n c' (selL h l) ∧ Below w.heap.size w w' ∧ Nw w a' := by
  obtain ⟨W, hW, r0, r1, bW, zW⟩ := two_t w h (.slice a n c)
  have l0 := r0.tld
  have H : Hid (QA w W h a n c l ∧ W.heap.size = w.heap.size + 2 ∧ l.length = n) := ⟨⟨⟨r0, r1, bW⟩, hs.below bW⟩, zW, hs.len⟩
  clear hs r0 r1 bW zW
  have E1 : Hid (rooK h l = -1 → hdA h (rooV h l) = hdS h l) := hdA_own
  have E2 : Hid (∀ k : Nat, rooK h l = (k : Int) → ((hdA h (rooV h l)).setH 7 ((gtP l k).nm 0)).put 12 (oldT (priT (gtP l k))) hq12 hl12 = hdS h l) := fun k => hdA_port
  have E3 : Hid (((l.map (telP (hdS h l))).mapIdx fun i p => asgP (hdS h l) (isK (rooK h l) i) p) = selL h l) := sel_map _ _ _
  have KR : Hid (-1 ≤ rooK h l ∧ rooK h l < n) := by have := rtF_range h l l.length; rw [← H.out.2.2]; exact this
  have C : Hid _ := rootof_any h a n c l W H.out.1.sl hn
  obtain ⟨K, hK⟩ : ∃ z, rooK h l = z := ⟨_, rfl⟩
  obtain ⟨v, hv⟩ : ∃ z, rooV h l = z := ⟨_, rfl⟩
  obtain ⟨hS, hhS⟩ : ∃ z, hdS h l = z := ⟨_, rfl⟩
  obtain ⟨lS, hlS⟩ : ∃ z, selL h l = z := ⟨_, rfl⟩
  rw [hK, hv, hhS] at E1 E2
  rw [hK, hhS, hlS] at E3
  rw [hK] at KR
  rw [hK, hv] at C
  rw [hhS, hlS]
  clear hK hv hhS hlS
  go_enter Tryz.func139, Tryz.ntmps139
  go_wp2_with fail
  refine Calls.mono C.out ?_
  rintro _ W1 ⟨rfl, b1⟩
  obtain ⟨W2, s2, r2, b2, z2⟩ := new_v W1 v
  have lv := r2.vld
  have Q2 := (H.out.1.below b1).below b2
  have tT := Q2.q.var.tT
  obtain ⟨V1, e1, Q3, g3⟩ := Q2.put (tv := 36) v hq8 hl8 infoV
  obtain ⟨V2, e2, Q4, g4⟩ := Q3.setH w16
  obtain ⟨V3, e3, Q5, g5⟩ := Q4.put (tv := 24) (tOfH h) hq12 hl12 infoTm
  change QA w V3 (hdA h v) a n c l at Q5
  have Q : Hid (QA w V3 (hdA h v) a n c l ∧ w.heap.size + 2 ≤ V3.heap.size ∧ l.length = n) := ⟨Q5, by have := b1.size; have := b2.size; have := g3.size; have := g4.size; have := g5.size; have := H.out.2.1; omega, H.out.2.2⟩
  clear r2 b2 z2 b1 Q2 Q3 g3 Q4 g4 Q5 g5 H C l0 hW
  by_cases hk : K = -1
  · have EH := E1.out hk
    rw [EH] at Q
    subst hk
    have d16 := Q.out.1.q.var.t16
    clear EH
    go_wp2_with fail
    refine (clone_any a n c l V3 Q.out.1.sl hn).mono ?_
    rintro _ X1 ⟨x, rfl, o1, b1⟩
    obtain ⟨a', c', hx, PAx, hga⟩ := PA.of o1
    rw [Q.out.2.2] at hx PAx
    subst hx
    obtain ⟨X2, t2, rX2, gX2⟩ := (Q.out.1.q.below b1).var.tset (y := .slice a' n c') rfl
    have G2 : Hid (QS w X2 hS (.slice a' n c') ∧ PA X2 a' n c' l ∧ ∀ b, blk a' = some b → w.heap.size + 2 ≤ b) := by
      refine ⟨(Q.out.1.q.below b1).go rX2 gX2, PAx.kept gX2 (fun b hb => ?_), fun b hb => ?_⟩
      · have := hga b hb; have := Q.out.2.1; simp; omega
      · have := hga b hb; have := Q.out.2.1; omega
    have lX := G2.out.1.var.tld
    clear o1 b1 PAx hga rX2 gX2 Q d16
    go_wp2_with fail
    refine (tell_any hS a' n c' l X2 G2.out.2.1 hn).mono ?_
    rintro _ X3 ⟨rfl, pa3, g3⟩
    have G3 : Hid (QS w X3 hS (.slice a' n c') ∧ PA X3 a' n c' (l.map (telP hS)) ∧ ∀ b, blk a' = some b → w.heap.size + 2 ≤ b) := ⟨G2.out.1.ports g3 G2.out.2.2, pa3, G2.out.2.2⟩
    have lX3 := G3.out.1.var.tld
    clear pa3 g3 G2 lX t2
    go_wp2_with fail
    refine (assign_any hS a' n c' _ (l.map (telP hS)) X3 G3.out.2.1 hn).mono ?_
    rintro _ X4 ⟨rfl, pa4, g4⟩
    rw [E3.out] at pa4
    have S4 := G3.out.1.ports g4 G3.out.2.2
    have lX4 := S4.var.tld
    obtain ⟨U, sU, rU, gU⟩ := S4.out.tst (g := hS) (y := .slice a' n c') rfl
    have F : Hid (RvAt U (w.heap.size + 1) 39 (trc hS (.slice a' n c')) ∧ SlAt U a' n c' lS ∧ Below w.heap.size w U) := ⟨rU, pa4.sl.keptT S4.out gU, gro S4.bel gU (by omega) S4.bel.size⟩
    have FR : Hid (Nw w a') := fun x hx => by
      have h1 := G3.out.2.2
      subst hx
      have := h1 x.block rfl
      omega
    clear pa4 g4 S4 rU gU G3 lX3
    go_wp2
    refine bodyPost_ret (results_row rtT Tryz.results139 _ _ _ _ rfl F.out.1 (trc_size _ _)) rfl ?_
    exact ⟨a', c', rfl, F.out.2.1, F.out.2.2, FR.out⟩
  · have hk0 : 0 ≤ K := by have := KR.out; omega
    have hkb : (K == -1) = false := by simpa using hk
    obtain ⟨k, rfl⟩ := Int.eq_ofNat_of_zero_le hk0
    have hkn : k < n := by have := KR.out; omega
    have hk1 : (k : Int) < (n : Int) := by omega
    have EH : Hid _ := E2.out k rfl
    obtain ⟨b, o, rfl⟩ := Q.out.1.sl.some' (by omega)
    have hlk := gtP_at (l := l) (i := k) (by rw [Q.out.2.2]; exact hkn)
    obtain ⟨p, hp⟩ : ∃ p, gtP l k = p := ⟨_, rfl⟩
    rw [hp] at hlk EH
    have f16 := fun z : Later V3 => (Q.out.1.q.var.below z.below).t16
    have f0 := fun z : Later V3 => (Q.out.1.sl.below z.below).cell hlk (p.num (j := 0) (k := .u16) rfl) (by omega)
    simp only [Nat.add_zero] at f0
    have f44 := fun z : Later V3 => (Q.out.1.sl.below z.below).part (q := priT p) (j := 44) hlk rfl rfl (by omega) Tryz.underlying24 rfl infoTm
    have P1 : Hid (∀ z : Later V3, _) := fun z : Later V3 => older_any (priT p) z.val
    clear hp hlk
    go_wp2_with fail
    clear lv tT e1 e2 e3 s2
    refine wp_region_later_tail 14 (by kernel_rfl) (by kernel_rfl) ?_
    simp only [List.take_succ_cons, List.take_zero]
    repeat (go_big_quiet_step (first | exact rfl | (go_at_call 184; with_reducible exact Calls.later_of (P1.out _))))
    refine wpQuiet_nil ?_
    intro z
    simp only [List.drop_succ_cons, List.drop_zero]
    clear f16 f0 f44 P1
    have R0 := Q.out.1.below z.below
    obtain ⟨V4, e4, R4, g4⟩ := R0.setH (m := p.nm 0) (p.nwf (j := 0) rfl)
    obtain ⟨V5, e5, R5, g5⟩ := R4.put (tv := 24) (oldT (priT p)) hq12 hl12 infoTm
    rw [EH.out] at R5
    have d16 := R5.q.var.t16
    have Q' : Hid (QA w V5 hS (some ⟨b, o, none⟩) n c l ∧ w.heap.size + 2 ≤ V5.heap.size ∧ l.length = n) := ⟨R5, by have := z.below.size; have := g4.size; have := g5.size; have := Q.out.2.1; omega, Q.out.2.2⟩
    clear R0 R4 g4 R5 g5 Q EH
    go_wp2_with fail
    refine (clone_any (some ⟨b, o, none⟩) n c l V5 Q'.out.1.sl hn).mono ?_
    rintro _ X1 ⟨x, rfl, o1, b1⟩
    have Q := Q'
    clear Q'
    obtain ⟨a', c', hx, PAx, hga⟩ := PA.of o1
    rw [Q.out.2.2] at hx PAx
    subst hx
    obtain ⟨X2, t2, rX2, gX2⟩ := (Q.out.1.q.below b1).var.tset (y := .slice a' n c') rfl
    have G2 : Hid (QS w X2 hS (.slice a' n c') ∧ PA X2 a' n c' l ∧ ∀ b, blk a' = some b → w.heap.size + 2 ≤ b) := by
      refine ⟨(Q.out.1.q.below b1).go rX2 gX2, PAx.kept gX2 (fun b hb => ?_), fun b hb => ?_⟩
      · have := hga b hb; have := Q.out.2.1; simp; omega
      · have := hga b hb; have := Q.out.2.1; omega
    have lX := G2.out.1.var.tld
    clear o1 b1 PAx hga rX2 gX2 Q d16
    go_wp2_with fail
    refine (tell_any hS a' n c' l X2 G2.out.2.1 hn).mono ?_
    rintro _ X3 ⟨rfl, pa3, g3⟩
    have G3 : Hid (QS w X3 hS (.slice a' n c') ∧ PA X3 a' n c' (l.map (telP hS)) ∧ ∀ b, blk a' = some b → w.heap.size + 2 ≤ b) := ⟨G2.out.1.ports g3 G2.out.2.2, pa3, G2.out.2.2⟩
    have lX3 := G3.out.1.var.tld
    clear pa3 g3 G2 lX t2
    go_wp2_with fail
    refine (assign_any hS a' n c' _ (l.map (telP hS)) X3 G3.out.2.1 hn).mono ?_
    rintro _ X4 ⟨rfl, pa4, g4⟩
    rw [E3.out] at pa4
    have S4 := G3.out.1.ports g4 G3.out.2.2
    have lX4 := S4.var.tld
    obtain ⟨U, sU, rU, gU⟩ := S4.out.tst (g := hS) (y := .slice a' n c') rfl
    have F : Hid (RvAt U (w.heap.size + 1) 39 (trc hS (.slice a' n c')) ∧ SlAt U a' n c' lS ∧ Below w.heap.size w U) := ⟨rU, pa4.sl.keptT S4.out gU, gro S4.bel gU (by omega) S4.bel.size⟩
    have FR : Hid (Nw w a') := fun x hx => by
      have h1 := G3.out.2.2
      subst hx
      have := h1 x.block rfl
      omega
    clear pa4 g4 S4 rU gU G3 lX3
    go_wp2
    refine bodyPost_ret (results_row rtT Tryz.results139 _ _ _ _ rfl F.out.1 (trc_size _ _)) rfl ?_
    exact ⟨a', c', rfl, F.out.2.1, F.out.2.2, FR.out⟩
end S12
end
section
namespace S12
open Go.RowKit

attribute [local go_sem ↓] ldP stP ldT stT
set_option maxHeartbeats 400000 in
theorem asks_any (p : Pt) (w : World) : Calls Tryz.prog 138 #[.agg p.cs] w fun r w' => r = .returned (.bool (p.bt 21)) ∧ Below w.heap.size w w' := by
  obtain ⟨W, hW, r0, bW, zW⟩ := new_p w p
  have c21 := r0.bit (j := 21) rfl
  have H : Hid (Below w.heap.size w W) := bW
  clear r0 bW zW
  go_enter Tryz.func138, Tryz.ntmps138
  go_wp2
  go_ret
  exact ⟨rfl, H.out⟩
theorem any_yes {l : List Pt} {i : Nat} (hi : i < l.length) (h : (gtP l i).bt 21 = true) : anyR l = true := by
  unfold anyR
  rw [List.any_eq_true]
  have := gtP_at hi
  rw [List.getElem?_eq_getElem hi] at this
  exact ⟨l[i], List.getElem_mem _, by rw [Option.some.inj this]; exact h⟩
theorem any_no {l : List Pt} (h : ∀ j, j < l.length → (gtP l j).bt 21 = false) : anyR l = false := by
  unfold anyR
  rw [List.any_eq_false]
  intro x hx
  obtain ⟨j, hj, e⟩ := List.mem_iff_getElem.1 hx
  have h1 := gtP_at hj
  rw [List.getElem?_eq_getElem hj, e] at h1
  rw [Option.some.inj h1, h j hj]
  decide
set_option maxHeartbeats 4000000 in
theorem index_any (a : Option Addr) (n c : Nat) (l : List Pt) (w : World) (hs : SlAt w a n c l) (hn : n ≤ 1000) :
    Calls Tryz.prog 182 #[.slice a n c, .func (.func 138) #[] #[]] w fun r w' => (∃ j : Int, r = .returned (.int .i64 j) ∧ (decide (0 ≤ j) = anyR l)) ∧ Below w.heap.size w w' := by
  have H : Hid (SlAt w a n c l ∧ n ≤ 1000 ∧ l.length = n) := ⟨hs, hn, hs.len⟩
  have hnn : (n : Int) ≤ 1000 := by omega
  clear hs hn
  go_enter Tryz.func182, Tryz.ntmps182
  go_wp2_with fail
  go_loopw [8] (fun v8 wr => ∃ i : Nat, i ≤ n ∧ v8 = .int .i64 i ∧ (∀ j, j < i → (gtP l j).bt 21 = false) ∧ Below w.heap.size w wr) (fun v8 _ => n - (intOf v8).toNat)
  case atStart => exact ⟨0, by omega, rfl, fun j hj => by omega, Below.refl _ _⟩
  case round =>
    obtain ⟨i, hi, rfl, ht, hB⟩ := hrel
    have J : Hid ((∀ j, j < i → (gtP l j).bt 21 = false) ∧ Below w.heap.size w wr) := ⟨ht, hB⟩
    have hin0 : (0 : Int) ≤ (i : Int) := by omega
    by_cases hit : i < n
    · have hin1 : (i : Int) < (n : Int) := by omega
      have hl : i < l.length := by rw [H.out.2.2]; exact hit
      obtain ⟨b, o, rfl⟩ := H.out.1.some' (by omega)
      have lp := (H.out.1.below hB).ld (gtP_at hl)
      obtain ⟨p, hp⟩ : ∃ p, gtP l i = p := ⟨_, rfl⟩
      have E : Hid (i < l.length ∧ gtP l i = p) := ⟨hl, hp⟩
      rw [hp] at lp
      clear ht hB hl hp
      go_wp2_with fail
      refine (asks_any p wr).mono ?_
      rintro _ V ⟨rfl, bV⟩
      cases hb : p.bt 21
      · have N : Hid (∀ j, j < i + 1 → (gtP l j).bt 21 = false) := fun j hj => by
          by_cases hji : j = i
          · subst hji
            rw [E.out.2]
            exact hb
          · exact J.out.1 j (by omega)
        clear lp hb
        go_wp2
        go_roundw
        case rel => exact ⟨i + 1, by omega, by go_num, N.out, below_over J.out.2 bV⟩
        case measure => simp [intOf]; omega
      · have N : Hid (anyR l = true) := any_yes E.out.1 (by rw [E.out.2]; exact hb)
        clear lp hb
        go_wp2
        go_ret
        exact ⟨⟨(i : Int), rfl, by rw [N.out]; simp⟩, below_over J.out.2 bV⟩
    · have hin : i = n := by omega
      subst hin
      have hin1 : ¬ (i : Int) < (i : Int) := by omega
      clear ht hB
      go_wp2
      go_ret
      exact ⟨⟨-1, rfl, by rw [any_no (fun j hj => J.out.1 j (by rw [← H.out.2.2]; exact hj))]; rfl⟩, J.out.2⟩
theorem contains_any (a : Option Addr) (n c : Nat) (l : List Pt) (w : World) (hs : SlAt w a n c l) (hn : n ≤ 1000) :
    Calls Tryz.prog 137 #[.slice a n c, .func (.func 138) #[] #[]] w fun r w' => r = .returned (.bool (anyR l)) ∧ Below w.heap.size w w' := by
  go_enter Tryz.func137, Tryz.ntmps137
  go_wp2_with fail
  refine (index_any a n c l w hs hn).mono ?_
  rintro _ V ⟨⟨j, rfl, hj⟩, bV⟩
  have F : Hid (decide (0 ≤ j) = anyR l) := hj
  clear hj hs hn
  go_wp2
  go_ret
  exact ⟨by rw [← F.out]; rfl, bV⟩
theorem results_tb {fn : Func} {k t : Nat} (hr : fn.results = #[.cell k 39, .tmp t]) (tmps : Array Value) (w : World) (b : Nat) (h : Hd) (x : Value) (h2 : tmps.getD k undef = .pointer (some ⟨b, 0, none⟩)) (r : RvAt w b 39 (trc h x)) :
    (results fn tmps).run Tryz.prog w = .ok (.tuple #[.agg (trc h x), tmps.getD t undef]) w := by
  have hl := r.lv rtT (trc_size h x)
  have h2' : tmps[k]?.getD undef = .pointer (some ⟨b, 0, none⟩) := by simpa using h2
  simp [results, hr, asAddr, hl, h2']
theorem ret_tb {fn : Func} {k t : Nat} (hr : fn.results = #[.cell k 39, .tmp t]) {R : Ending → World → Prop} {a : Act} {w : World} {b : Nat} {h : Hd} {y : Value} {x : Value} (hd : a.defers = []) (h2 : a.tmps.getD k undef = .pointer (some ⟨b, 0, none⟩)) (h3 : a.tmps.getD t undef = x) (r : RvAt w b 39 (trc h y)) (hR : R (.returned (.tuple #[.agg (trc h y), x])) w) : bodyPost Tryz.prog fn R .ret a w :=
  bodyPost_ret (results_tb hr _ _ _ _ _ h2 r) hd (by rw [h3]; exact hR)
theorem stp_no {h : Hd} {l : List Pt} (h1 : h.bt 6 = true) (h2 : anyR l = false) : stpB h l = false ∧ stpH h l = h ∧ stpL h l = l := by
  have e : stpB h l = false := by unfold stpB; rw [h1, h2]; rfl
  unfold stpH stpL
  rw [e]
  exact ⟨rfl, rfl, rfl⟩
theorem stp_yes {h : Hd} {l : List Pt} (e : stpB h l = true) : stpH h l = hdS (h.setB 6 kh6 true) l ∧ stpL h l = selL (h.setB 6 kh6 true) l := by
  unfold stpH stpL
  rw [e]
  exact ⟨rfl, rfl⟩
attribute [local go_sem ↓] stB
theorem fro_new {w : World} {a b : Option Addr} (h : Nw w b) : Fro w a b := Or.inr h
theorem fro_same {w : World} {a : Option Addr} : Fro w a a := Or.inl rfl
set_option maxHeartbeats 4000000 in
theorem step_any (h : Hd) (a : Option Addr) (n c : Nat) (l : List Pt) (w : World) (hs : SlAt w a n c l) (hn : n ≤ 1000) :
    Calls Tryz.prog 99 #[.agg (trc h (.slice a n c))] w fun r w' => ∃ a' c', r = .returned (.tuple #[.agg (trc (stpH h l) (.slice a' n c')), .bool (stpB h l)]) ∧ SlAt w' a' n c' (stpL h l) ∧ Below w.heap.size w w' ∧ Fro w a a' := by
  obtain ⟨W, hW, r0, r1, bW, zW⟩ := two_t w h (.slice a n c)
  have c6 := r0.tbit (j := 6) rfl
  have c16 := r0.t16
  have H : Hid (QA w W h a n c l) := ⟨⟨r0, r1, bW⟩, hs.below bW⟩
  clear hs r0 r1 bW zW
  have P1 : Hid _ := contains_any a n c l W H.out.sl hn
  cases h6 : h.bt 6
  · have e : stpB h l = true := by unfold stpB; rw [h6]; rfl
    rw [e, (stp_yes e).1, (stp_yes e).2]
    rw [h6] at c6
    obtain ⟨V, sV, rV, gV⟩ := H.out.q.var.tsetB true
    have Q := H.out.q.go rV gV
    have S := H.out.sl.keptT H.out.q.var gV
    have lV := Q.var.tld
    have K : Hid (QS w V (h.setB 6 kh6 true) (.slice a n c)) := Q
    have C : Hid _ := select_any (h.setB 6 kh6 true) a n c l V S hn
    clear rV gV Q S H P1 e
    go_enter Tryz.func99, Tryz.ntmps99
    go_wp2_with fail
    refine Calls.mono C.out ?_
    rintro _ W1 ⟨a', c', rfl, s1, b1, f1⟩
    have FR : Hid (Nw w a') := f1.up K.out.bel.size
    clear f1
    obtain ⟨U, sU, rU, gU⟩ := (K.out.below b1).out.tst (g := hdS (h.setB 6 kh6 true) l) (y := .slice a' n c') rfl
    have F : Hid (RvAt U (w.heap.size + 1) 39 (trc (hdS (h.setB 6 kh6 true) l) (.slice a' n c')) ∧ SlAt U a' n c' (selL (h.setB 6 kh6 true) l) ∧ Below w.heap.size w U) := ⟨rU, s1.keptT (K.out.below b1).out gU, gro (K.out.below b1).bel gU (by omega) (K.out.below b1).bel.size⟩
    clear s1 rU gU b1 K C lV
    go_wp2_with (with_reducible exact ret_tb Tryz.results99 (by with_unfolding_all rfl) (by with_unfolding_all rfl) (by with_unfolding_all rfl) F.out.1 ⟨a', c', rfl, F.out.2.1, F.out.2.2, fro_new FR.out⟩)
  · rw [h6] at c6
    cases ha : anyR l
    · rw [ha] at P1
      obtain ⟨e1, e2, e3⟩ := stp_no h6 ha
      rw [e1, e2, e3]
      clear e1 e2 e3 ha h6
      go_enter Tryz.func99, Tryz.ntmps99
      go_wp2_with fail
      refine Calls.mono P1.out ?_
      rintro _ W1 ⟨rfl, b1⟩
      have K := H.out.below b1
      have lt := K.q.var.tld
      obtain ⟨U, sU, rU, gU⟩ := K.q.out.tst (g := h) (y := .slice a n c) rfl
      have F : Hid (RvAt U (w.heap.size + 1) 39 (trc h (.slice a n c)) ∧ SlAt U a n c l ∧ Below w.heap.size w U) := ⟨rU, K.sl.keptT K.q.out gU, gro K.q.bel gU (by omega) K.q.bel.size⟩
      clear rU gU b1 K P1 H c6 c16
      go_wp2_with (with_reducible exact ret_tb Tryz.results99 (by with_unfolding_all rfl) (by with_unfolding_all rfl) (by with_unfolding_all rfl) F.out.1 ⟨a, c, rfl, F.out.2.1, F.out.2.2, fro_same⟩)
    · rw [ha] at P1
      have e : stpB h l = true := by unfold stpB; rw [h6, ha]; rfl
      rw [e, (stp_yes e).1, (stp_yes e).2]
      clear e ha h6
      go_enter Tryz.func99, Tryz.ntmps99
      go_wp2_with fail
      refine Calls.mono P1.out ?_
      rintro _ W1 ⟨rfl, b1⟩
      have K1 := H.out.below b1
      obtain ⟨V, sV, rV, gV⟩ := K1.q.var.tsetB true
      have Q := K1.q.go rV gV
      have S := K1.sl.keptT K1.q.var gV
      have lV := Q.var.tld
      have K : Hid (QS w V (h.setB 6 kh6 true) (.slice a n c)) := Q
      have C : Hid _ := select_any (h.setB 6 kh6 true) a n c l V S hn
      clear rV gV Q S H P1 K1 b1 c6 c16
      go_wp2_with fail
      refine Calls.mono C.out ?_
      rintro _ W2 ⟨a', c', rfl, s2, b2, f2⟩
      have FR : Hid (Nw w a') := f2.up K.out.bel.size
      clear f2
      obtain ⟨U, sU, rU, gU⟩ := (K.out.below b2).out.tst (g := hdS (h.setB 6 kh6 true) l) (y := .slice a' n c') rfl
      have F : Hid (RvAt U (w.heap.size + 1) 39 (trc (hdS (h.setB 6 kh6 true) l) (.slice a' n c')) ∧ SlAt U a' n c' (selL (h.setB 6 kh6 true) l) ∧ Below w.heap.size w U) := ⟨rU, s2.keptT (K.out.below b2).out gU, gro (K.out.below b2).bel gU (by omega) (K.out.below b2).bel.size⟩
      clear s2 rU gU b2 K C lV
      go_wp2_with (with_reducible exact ret_tb Tryz.results99 (by with_unfolding_all rfl) (by with_unfolding_all rfl) (by with_unfolding_all rfl) F.out.1 ⟨a', c', rfl, F.out.2.1, F.out.2.2, fro_new FR.out⟩)
end S12
end
end Go.Proofs.YtlchejbggnbccaaGreat
