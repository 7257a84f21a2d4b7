/-
  assign: its walk, for every tree whose ports lie in a block of one's own.
-/
import Derived.Test.YtnblhmicbhblpaaTel
namespace Go.Proofs.Ytnblhmicbhblpaa
set_option linter.unusedVariables false
set_option maxRecDepth 4000
set_option linter.unusedSimpArgs false
open Go.RowKit

theorem TS.pt {w W : World} {b n c g i : Nat} {h : Hd} {L : List Pt} {q : Pt} (s : TS w W b h (some ⟨g, 0, none⟩) n c (L.set i q)) (hi : i < n) : (L.set i q)[i]? = some q ∧ PAt W g c (L.set i q) := by
  have hl := s.ps.len
  rw [List.length_set] at hl
  obtain ⟨g', e, hp⟩ := s.ps.pat _ rfl
  cases e
  exact ⟨by rw [List.getElem?_set, if_pos rfl, if_pos (by omega)], hp⟩
theorem TS.setB {w W : World} {b n c g i j o : Nat} {h : Hd} {L : List Pt} {q : Pt} (s : TS w W b h (some ⟨g, 0, none⟩) n c (L.set i q)) (hi : i < n) (hj : kdP[j]? = some none) (x : Bool) (ho : o = i * 77 + j) :
    ∃ V, (stS 4 (.pointer (some ⟨g, o, none⟩)) (.bool x)).run Try.prog W = .ok () V ∧ TS w V b h (some ⟨g, 0, none⟩) n c (L.set i (q.setB j hj x)) := by
  obtain ⟨hat, hp⟩ := s.pt hi
  obtain ⟨V, e, hP, hg⟩ := hp.st1 hat (tv := 4) info2.1 (by rw [← lenP]; exact (List.getElem?_eq_some_iff.1 hj).1) (v := .bool x) rfl (fit_bit hj) ho
  rw [List.set_set] at hP
  exact ⟨V, e, s.go rfl hP (by rw [List.length_set, List.length_set]) hg⟩
theorem TS.setN {w W : World} {b n c g i j o : Nat} {h : Hd} {L : List Pt} {q : Pt} {tv : TypeId} (s : TS w W b h (some ⟨g, 0, none⟩) n c (L.set i q)) (hi : i < n) (ht : (Try.prog.info? tv).map (·.size) = some 1) (hj : kdP[j]? = some (some .i64)) {x : Int} (hx : (Lit.int .i64 x).wf = true) (ho : o = i * 77 + j) :
    ∃ V, (stS tv (.pointer (some ⟨g, o, none⟩)) (.int .i64 x)).run Try.prog W = .ok () V ∧ TS w V b h (some ⟨g, 0, none⟩) n c (L.set i (q.setN j hj x hx)) := by
  obtain ⟨hat, hp⟩ := s.pt hi
  obtain ⟨V, e, hP, hg⟩ := hp.st1 hat (tv := tv) ht (by rw [← lenP]; exact (List.getElem?_eq_some_iff.1 hj).1) (v := .int .i64 x) rfl (fit_num hj hx) ho
  rw [List.set_set] at hP
  exact ⟨V, e, s.go rfl hP (by rw [List.length_set, List.length_set]) hg⟩
theorem set_self {L : List Pt} {i : Nat} {q : Pt} (h : L[i]? = some q) : L.set i q = L := by
  refine List.ext_getElem? fun j => ?_
  rw [List.getElem?_set]
  split
  · rename_i e
    subst e
    rw [if_pos (List.getElem?_eq_some_iff.1 h).1, h]
  · rfl
theorem setN_eq {ks : List (Option IntKind)} (r : Row ks) {j : Nat} (h : ks[j]? = some (some .i64)) {x y : Int} (hx : (Lit.int .i64 x).wf = true) (hy : (Lit.int .i64 y).wf = true) (e : x = y) : r.setN j h x hx = r.setN j h y hy := by
  subst e; rfl
theorem setB_self {ks : List (Option IntKind)} (r : Row ks) {j : Nat} (h : ks[j]? = some none) {x : Bool} (e : r.bt j = x) : r.setB j h x = r := by
  refine Row.same fun i _ => ?_
  rw [r.setB_get]
  split
  · rename_i e2
    subst e2
    rw [r.bit h, e]
  · rfl
/-- A port that is selected. -/
def slcP (p : Pt) : Pt := (p.setB 21 kb21 false).setB 22 kb22 true
theorem slc_get (p : Pt) (i : Nat) : (slcP p).cl[i]? = if i = 22 then some (.bool true) else if i = 21 then some (.bool false) else p.cl[i]? := by
  unfold slcP
  rw [Row.setB_get, Row.setB_get]
theorem slc_still (p : Pt) {i : Nat} (hi : i ≠ 22 ∧ i ≠ 21) : (slcP p).cl[i]? = p.cl[i]? := by rw [slc_get, if_neg hi.1, if_neg hi.2]
theorem asg_aged {h : Hd} {r : Bool} {p : Pt} (e : p.nm 29 = 1) : ((slcP p).setN 31 kn31 4 wi4).setB 28 kb28 true = asgP h r p := by
  unfold asgP slcP
  rw [setN_eq _ kn31 (wanN_wf h r p) wi4 (by simp [wanN, e]), show updB h r p = true by simp [updB, e]]
theorem asg_mine {h : Hd} {r : Bool} {p : Pt} {x : Bool} (e : p.nm 29 = 2) (hx : (p.bt 28 || outB p) = x) : ((slcP p).setN 31 kn31 4 wi4).setB 28 kb28 x = asgP h r p := by
  unfold asgP slcP
  rw [setN_eq _ kn31 (wanN_wf h r p) wi4 (by simp [wanN, e]), show updB h r p = x by simp [updB, e, hx]]
theorem asg_heard {h : Hd} {r : Bool} {p : Pt} {x : Int} (hw : (Lit.int .i64 x).wf = true) (e : p.nm 29 = 3) (hx : heaN h r p = x) : ((slcP p).setN 31 kn31 x hw).setB 28 kb28 (decide (x = 4)) = asgP h r p := by
  unfold asgP slcP
  rw [setN_eq _ kn31 (wanN_wf h r p) hw (by simp [wanN, e, hx]), show updB h r p = decide (x = 4) by simp [updB, e, hx]]
theorem asg_none {h : Hd} {r : Bool} {p : Pt} (e1 : p.nm 29 ≠ 1) (e2 : p.nm 29 ≠ 2) (e3 : p.nm 29 ≠ 3) : (slcP p).setN 31 kn31 0 wi0 = asgP h r p := by
  unfold asgP slcP
  rw [setN_eq _ kn31 (wanN_wf h r p) wi0 (by simp [wanN, e1, e2, e3]), show updB h r p = p.bt 28 by simp [updB, e1, e2, e3]]
  refine (setB_self _ kb28 (bt_of ?_)).symm
  rw [Row.setN_get, if_neg (by omega), Row.setB_get, if_neg (by omega), Row.setB_get, if_neg (by omega)]
attribute [local go_sem ↓] ldP stP ldT stT stB st49
set_option maxHeartbeats 8000000 in
theorem assign_any (h : Hd) (a : Option Addr) (n c : Nat) (k : Int) (l : List Pt) (w : World) (hs : PA w a n c l) (hn : n ≤ 1000) :
    Calls Try.prog 28 #[.agg (trc h (.slice a n c)), .int .i64 k] w fun r w' => r = .returned (.tuple #[]) ∧ PA w' a n c (l.mapIdx fun i p => asgP h (isK k i) p) ∧ w.grownBy w' (blk a) := by
  obtain ⟨W, hW, r0, bW, zW⟩ := one_t w h (.slice a n c)
  have S0 : Hid (TS w W w.heap.size h a n c l ∧ l.length = n) := ⟨⟨r0, hs.below bW, grown_of_below bW _, Nat.le_refl _, hs.lt⟩, hs.len⟩
  have c16 := S0.out.1.var.t16
  obtain ⟨f, hf⟩ : ∃ f : Nat → Pt → Pt, (fun i p => asgP h (isK k i) p) = f := ⟨_, rfl⟩
  have HF : Hid (∀ i p, asgP h (isK k i) p = f i p) := by rw [← hf]; exact fun i p => rfl
  rw [hf]
  clear hs r0 bW zW hf
  go_enter Try.func28, Try.ntmps28
  go_wp2_with fail
  go_step3
  go_wp2_with fail
  go_step3
  go_wp2_with fail
  go_loopw [9] (fun v9 wr => ∃ i : Nat, i ≤ n ∧ v9 = .int .i64 i ∧ TS w wr w.heap.size h a n c (mapI f l i)) (fun v9 _ => n - (intOf v9).toNat)
  case atStart => exact ⟨0, by omega, rfl, by rw [mapI_zero]; exact S0.out.1⟩
  case round =>
    obtain ⟨i, hi, rfl, hS⟩ := hrel
    have hin0 : (0 : Int) ≤ (i : Int) := by omega
    by_cases hit : i < n
    · have hin1 : (i : Int) < (n : Int) := by omega
      have hil : i < l.length := by rw [S0.out.2]; exact hit
      cases a with
      | none => have := (hS.ps.nil rfl).1; omega
      | some x =>
      obtain ⟨g, rfl, _⟩ := hS.ps.pat x rfl
      have hat := mapI_at (f := f) hil
      have hnx := mapI_next (f := f) hil
      have hS' := hS
      rw [← set_self hat] at hS'
      have f16 := hS.var.t16
      obtain ⟨L, hL⟩ : ∃ L, mapI f l i = L := ⟨_, rfl⟩
      obtain ⟨p, hp⟩ : ∃ p, gtP l i = p := ⟨_, rfl⟩
      rw [hL, hp] at hS'
      rw [hL, hp, ← HF.out i p] at hnx
      obtain ⟨V1, e1, S1⟩ := hS'.setB hit kb21 false rfl
      obtain ⟨V2, e2, S2⟩ := S1.setB hit kb22 true rfl
      change TS w V2 w.heap.size h (some ⟨g, 0, none⟩) n c (L.set i (slcP p)) at S2
      obtain ⟨hat2, hP2⟩ := S2.pt hit
      have c29 := hP2.num hat2 (j := 29) (k := .i64) rfl rfl
      rw [show (slcP p).nm 29 = p.nm 29 from nm_of (slc_still p (by omega))] at c29
      have ST : Hid (TS w V2 w.heap.size h (some ⟨g, 0, none⟩) n c (L.set i (slcP p)) ∧ L.set i (asgP h (isK k i) p) = mapI f l (i + 1)) := ⟨S2, hnx⟩
      clear hS hS' S1 S2 hat hat2 hP2 hnx hL hp c16
      by_cases h1 : p.nm 29 = 1
      · rw [h1] at c29
        obtain ⟨V3, e3, S3⟩ := ST.out.1.setN hit (tv := 41) infoR kn31 wi4 rfl
        obtain ⟨V4, e4, S4⟩ := S3.setB hit kb28 true rfl
        rw [asg_aged (h := h) (r := isK k i) h1, ST.out.2] at S4
        have S4' : Hid (TS w V4 w.heap.size h (some ⟨g, 0, none⟩) n c (mapI f l (i + 1))) := S4
        clear S3 S4 h1
        go_wp2
        go_roundw
        case rel => exact ⟨i + 1, by omega, by go_num, S4'.out⟩
        case measure => simp [intOf]; omega
      · by_cases h2 : p.nm 29 = 2
        · rw [h2] at c29
          obtain ⟨hat2, hP2⟩ := ST.out.1.pt hit
          have c28 := hP2.bit hat2 (j := 28) rfl rfl
          rw [show (slcP p).bt 28 = p.bt 28 from bt_of (slc_still p (by omega))] at c28
          have lp := hP2.ld hat2 rfl
          have eo : outB (slcP p) = outB p := outB_of fun j _ _ => slc_still p (by omega)
          cases h28 : p.bt 28
          · rw [h28] at c28
            have P1 : Hid (∀ V : World, _) := fun V => outd_any (slcP p) V
            rw [eo] at P1
            have H28 : Hid (p.bt 28 = false) := h28
            have H2 : Hid (p.nm 29 = 2) := h2
            clear hat2 hP2 eo h1 h2 h28
            go_wp2_with fail
            refine (P1.out V2).mono ?_
            rintro _ V3 ⟨rfl, b3⟩
            obtain ⟨o, ho⟩ : ∃ o, outB p = o := ⟨_, rfl⟩
            rw [ho]
            have S3 := ST.out.1.below b3
            obtain ⟨V4, e4, S4⟩ := S3.setN hit (tv := 41) infoR kn31 wi4 rfl
            obtain ⟨V5, e5, S5⟩ := S4.setB hit kb28 o rfl
            rw [asg_mine (h := h) (r := isK k i) H2.out (by rw [H28.out, ho]; rfl), ST.out.2] at S5
            have S5' : Hid (TS w V5 w.heap.size h (some ⟨g, 0, none⟩) n c (mapI f l (i + 1))) := S5
            clear S3 S4 S5 b3 ho c28 c29 lp e1 e2 f16
            go_wp2
            go_roundw
            case rel => exact ⟨i + 1, by omega, by go_num, S5'.out⟩
            case measure => simp [intOf]; omega
          · rw [h28] at c28
            obtain ⟨V4, e4, S4⟩ := ST.out.1.setN hit (tv := 41) infoR kn31 wi4 rfl
            obtain ⟨V5, e5, S5⟩ := S4.setB hit kb28 true rfl
            rw [asg_mine (h := h) (r := isK k i) h2 (by rw [h28]; rfl), ST.out.2] at S5
            have S5' : Hid (TS w V5 w.heap.size h (some ⟨g, 0, none⟩) n c (mapI f l (i + 1))) := S5
            clear S4 S5 hat2 hP2 eo h1 h2 h28
            go_wp2
            go_roundw
            case rel => exact ⟨i + 1, by omega, by go_num, S5'.out⟩
            case measure => simp [intOf]; omega
        · by_cases h3 : p.nm 29 = 3
          · rw [h3] at c29
            have lt := ST.out.1.var.tld
            have C : Hid _ := heard_any h (some ⟨g, 0, none⟩) n c i k (L.set i (slcP p)) V2 ST.out.1.ps.sl hn hit
            have eg : gtP (L.set i (slcP p)) i = slcP p := by
              have h5 := (ST.out.1.pt hit).1
              have hle : i < (L.set i (slcP p)).length := (List.getElem?_eq_some_iff.1 h5).1
              have := gtP_at hle
              rw [h5] at this
              exact (Option.some.inj this).symm
            rw [eg, heaN_of (h := h) (r := isK k i) (p := slcP p) (q := p) (fun j _ _ => slc_still p (by omega))] at C
            have HX := heaN_wf h (isK k i) p
            obtain ⟨N, hN⟩ : ∃ N, heaN h (isK k i) p = N := ⟨_, rfl⟩
            rw [hN] at C HX
            have EN : Hid (heaN h (isK k i) p = N ∧ (Lit.int .i64 N).wf = true ∧ p.nm 29 = 3) := ⟨hN, HX, h3⟩
            clear hN HX h1 h2 h3 eg
            go_wp2_with fail
            refine Calls.mono C.out ?_
            rintro _ V3 ⟨rfl, b3⟩
            have S3 := ST.out.1.below b3
            obtain ⟨V4, e4, S4⟩ := S3.setN hit (tv := 41) infoR kn31 EN.out.2.1 rfl
            have c31 := (S4.pt hit).2.num (S4.pt hit).1 (j := 31) (k := .i64) rfl rfl
            rw [show ((slcP p).setN 31 kn31 N EN.out.2.1).nm 31 = N from Row.nset _ _ (by rw [lenP]; omega)] at c31
            obtain ⟨V5, e5, S5⟩ := S4.setB hit kb28 (decide (N = 4)) rfl
            rw [asg_heard (h := h) (r := isK k i) EN.out.2.1 EN.out.2.2 EN.out.1, ST.out.2] at S5
            have S5' : Hid (TS w V5 w.heap.size h (some ⟨g, 0, none⟩) n c (mapI f l (i + 1))) := S5
            clear S3 S4 S5 b3 lt C e1 e2 f16 c29
            by_cases h4 : N = 4
            · have e5' : (stS 4 (.pointer (some ⟨g, i * 77 + 28, none⟩)) (.bool true)).run Try.prog V4 = .ok () V5 := by rw [show decide (N = 4) = true by simp [h4]] at e5; exact e5
              clear e5
              subst h4
              go_wp2
              go_roundw
              case rel => exact ⟨i + 1, by omega, by go_num, S5'.out⟩
              case measure => simp [intOf]; omega
            · have e5' : (stS 4 (.pointer (some ⟨g, i * 77 + 28, none⟩)) (.bool false)).run Try.prog V4 = .ok () V5 := by rw [show decide (N = 4) = false by simp [h4]] at e5; exact e5
              have hb4 : (N == 4) = false := by simpa using h4
              clear e5
              go_wp2
              go_roundw
              case rel => exact ⟨i + 1, by omega, by go_num, S5'.out⟩
              case measure => simp [intOf]; omega
          · have hb1 : (p.nm 29 == 1) = false := by simpa using h1
            have hb2 : (p.nm 29 == 2) = false := by simpa using h2
            have hb3 : (p.nm 29 == 3) = false := by simpa using h3
            obtain ⟨V3, e3, S3⟩ := ST.out.1.setN hit (tv := 41) infoR kn31 wi0 rfl
            rw [asg_none (h := h) (r := isK k i) h1 h2 h3, ST.out.2] at S3
            have S3' : Hid (TS w V3 w.heap.size h (some ⟨g, 0, none⟩) n c (mapI f l (i + 1))) := S3
            clear S3
            go_wp2
            go_roundw
            case rel => exact ⟨i + 1, by omega, by go_num, S3'.out⟩
            case measure => simp [intOf]; omega
    · have hin : i = n := by omega
      subst hin
      have hin1 : ¬ (i : Int) < (i : Int) := by omega
      have e := mapI_all f l
      rw [S0.out.2] at e
      rw [e] at hS
      have F : Hid (PA wr a i c (l.mapIdx f) ∧ w.grownBy wr (blk a)) := ⟨hS.ps, hS.gr⟩
      clear hS e c16
      go_wp2
      go_returns
      exact ⟨rfl, F.out.1, F.out.2⟩
end Go.Proofs.Ytnblhmicbhblpaa
