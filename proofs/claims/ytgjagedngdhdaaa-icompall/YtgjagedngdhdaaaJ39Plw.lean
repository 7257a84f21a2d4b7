/-
  What comes of commands: ports of a service rise, each has its VLAN; copies one by one; what frames become. Plain laws. Numbers, orders and places of ports by the definition: walks of vid, isid, before, rise, are, each for every input.
-/
import Derived.Test.YtgjagedngdhdaaaJ27RAsk
import Derived.Test.YtgjagedngdhdaaaJ31En
import Derived.Test.YtgjagedngdhdaaaJ38Pf
import Derived.Test.YtgjagedngdhdaaaJ05Mor
namespace Go.Proofs.Ytgjagedngdhdaaa

section
set_option linter.unusedVariables false
set_option maxRecDepth 4000
set_option linter.unusedSimpArgs false
open Go.RowKit

theorem att_mem {p : Pv} {s y : Int} : y ∈ att p s ↔ ∃ m ∈ p.ms, m.s = s ∧ m.p = y := by
  unfold att
  rw [List.mem_map]
  constructor
  · rintro ⟨m, hm, rfl⟩
    have := List.mem_filter.1 hm
    exact ⟨m, this.1, by simpa using this.2, rfl⟩
  · rintro ⟨m, hm, hs, rfl⟩
    exact ⟨m, List.mem_filter.2 ⟨hm, by simpa using hs⟩, rfl⟩
theorem chk_m0 {p : Pv} (h : chk p = true) {m : Mp} (hm : m ∈ p.ms) : isV m.v = true ∧ isK p m.p 1 = true := by
  have hg := ((chk_iff p).1 h).2.2.2.2.2
  unfold gM at hg
  rw [Bool.and_eq_true, List.all_eq_true] at hg
  have := hg.1 m hm
  unfold okM okM0 at this
  simp only [Bool.and_eq_true] at this
  exact ⟨this.1.1, this.1.2.1⟩
theorem vof_att {p : Pv} (h : chk p = true) {s y : Int} (hy : y ∈ att p s) : (vof p y s).2 = true ∧ 1 ≤ (vof p y s).1 ∧ (vof p y s).1 ≤ 4094 := by
  obtain ⟨m, hm, rfl, rfl⟩ := att_mem.1 hy
  have hv := (chk_m0 h hm).1
  rw [(one_of_chk h hm).2.1]
  unfold isV at hv
  simp only [Bool.and_eq_true, decide_eq_true_eq] at hv
  exact ⟨rfl, hv⟩
theorem att_bnd {p : Pv} (h : chk p = true) {s y : Int} (hy : y ∈ att p s) : 0 ≤ y ∧ y ≤ 1000 := by
  obtain ⟨m, hm, rfl, rfl⟩ := att_mem.1 hy
  have hk := (chk_m0 h hm).2
  have hg := ((chk_iff p).1 h).2.1
  unfold isK hasP at hk
  unfold gK at hg
  simp only [Bool.and_eq_true, decide_eq_true_eq] at hk hg
  omega
theorem att_rise {p : Pv} (h : chk p = true) (s : Int) : (att p s).Pairwise (fun a b => a < b) := by
  have hg := ((chk_iff p).1 h).2.2.2.2.2
  have h1 := hg
  rw [gM_eq] at h1
  obtain ⟨_, _, h2, _, h3⟩ := (mpR_iff p p.ms []).1 h1
  have h4 := (ris_pw ltM_tr p.ms).1 h3
  have h5 := h4.and h2
  unfold att
  rw [List.pairwise_map]
  refine (h5.filter _).imp_of_mem fun {a b} ha hb hab => ?_
  have sa : a.s = s := by simpa using (List.mem_filter.1 ha).2
  have sb : b.s = s := by simpa using (List.mem_filter.1 hb).2
  have hl := (ltM_iff a b).1 hab.1
  rcases hl with hl | ⟨he, _⟩
  · exact hl
  · have := hab.2
    unfold smS at this
    simp [he, sa, sb] at this
theorem okp_chk {p : Pv} (h : chk p = true) : Okp p := ⟨by have := ((chk_iff p).1 h).2.2.1.1; omega, fun s => ⟨(att_rise h s).imp fun hab e => by omega, fun y hy => att_bnd h hy⟩⟩
theorem svc_isid {p : Pv} (h : chk p = true) {port v : Int} (hs : (svc p port v).2 = true) : 1 ≤ (svc p port v).1 ∧ (svc p port v).1 ≤ 16777215 := by
  obtain ⟨m, hm, _, e⟩ := fnd_in hs
  have e' : (svc p port v).1 = m.s := e
  rw [e']
  have hc := (one_of_chk h hm).2.2.1
  obtain ⟨c, hcm, hcs, _⟩ := fnd_in hc
  have hg := ((chk_iff p).1 h).2.2.2.2.1
  unfold gC at hg
  rw [Bool.and_eq_true, List.all_eq_true] at hg
  have := hg.1 c hcm
  unfold okC isS at this
  simp only [Bool.and_eq_true, decide_eq_true_eq] at this
  have hcs' : c.s = m.s := by simpa using hcs
  omega
/-! ### classification -/
theorem cls_zero {p : Pv} {port : Int} {f : S4.Fr} {l : List Int} (h : clsW p port f l = 0) : S4.chkF f l = 0 ∧ f.t = true ∧ (svc p port f.v).2 = true ∧ clsS p port f l = (svc p port f.v).1 := by
  unfold clsW at h
  by_cases h0 : S4.chkF f l = 0
  · rw [if_pos h0] at h
    by_cases h1 : f.t = true ∧ (svc p port f.v).2 = true
    · exact ⟨h0, h1.1, h1.2, if_pos ⟨h0, h1.1, h1.2⟩⟩
    · rw [if_neg h1] at h
      cases h
  · rw [if_neg h0, why_zero] at h
    exact absurd h h0
theorem en_zero {p : Pv} {port : Int} {f : S4.Fr} {l : List Int} {known : S4.M6} {has : Bool} (h : encW p port f l known has = 0) :
    clsW p port f l = 0 ∧ S4.hdE f l (clsS p port f l) (car p (clsS p port f l)).1 (oM p.o) (encT p port f l known has) = 0 ∧ encB p port f l known has = S4.hidF f (clsS p port f l) (car p (clsS p port f l)).1 (oM p.o) (encT p port f l known has) ∧ encR p port f l known has = l := by
  by_cases h0 : clsW p port f l = 0
  · cases hc : (car p (clsS p port f l)).2 with
    | false =>
      rw [(en_2 h0 hc).1] at h
      cases h
    | true =>
      have k := en_3 (known := known) (has := has) h0 hc
      rw [k.1] at h
      have he : S4.hdE f l (clsS p port f l) (car p (clsS p port f l)).1 (oM p.o) (encT p port f l known has) = 0 := by
        by_cases he : S4.hdE f l (clsS p port f l) (car p (clsS p port f l)).1 (oM p.o) (encT p port f l known has) = 0
        · exact he
        · rw [if_neg he] at h
          cases h
      refine ⟨h0, he, ?_, ?_⟩
      · rw [k.2.1]
        unfold S4.hdB
        rw [if_pos he]
      · rw [k.2.2]
        unfold S4.hdR
        rw [if_pos he]
  · rw [(en_1 (known := known) (has := has) h0).1] at h
    exact absurd h h0
theorem hd_zero {f : S4.Fr} {l : List Int} {isid vid : Int} {own to : S4.M6} (h : S4.hdE f l isid vid own to = 0) : S4.chkF f l = 0 ∧ f.t = true ∧ S4.chkB (S4.hidF f isid vid own to) l = 0 := by
  unfold S4.hdE at h
  by_cases h0 : S4.chkF f l = 0
  · rw [if_pos h0] at h
    by_cases h1 : f.t = true
    · rw [if_pos h1] at h
      exact ⟨h0, h1, h⟩
    · rw [if_neg h1] at h
      cases h
  · rw [if_neg h0] at h
    exact absurd h h0
/-! ### frames -/
theorem chk_vid {f : S4.Fr} {l : List Int} {v : Int} (h : S4.chkF f l = 0) (ht : f.t = true) (hv : 1 ≤ v ∧ v ≤ 4094) : S4.chkF (f.vid v) l = 0 := by
  have hp := S4.chk_parts h
  have h2 := hp.2.2.1 ht
  have ht2 : S4.tagOk f.p v = true := by rw [S4.tagOk_iff] at h2 ⊢; omega
  have hb : S4.badF f l = false := by
    unfold S4.chkF at h
    rw [if_neg (by omega)] at h
    cases hq : S4.badF f l with
    | false => rfl
    | true => rw [hq] at h; cases h
  unfold S4.chkF
  rw [if_neg (by omega)]
  have : S4.badF (f.vid v) l = false := by
    unfold S4.badF at hb ⊢
    have e1 : (f.vid v).s = f.s := rfl
    have e2 : (f.vid v).d = f.d := rfl
    have e3 : (f.vid v).t = f.t := rfl
    have e4 : (f.vid v).p = f.p := rfl
    have e5 : (f.vid v).v = v := rfl
    rw [e1, e2, e3, e4, e5, ht, ht2]
    rw [ht, h2] at hb
    exact hb
  rw [this]
  exact rfl
theorem shG_ok {b : S4.Bf} {l : List Int} {v : Int} (h : S4.chkB b l = 0) (hv : 1 ≤ v ∧ v ≤ 4094) : S4.shE b l v = 0 ∧ S4.shG b l v = S4.shF b v ∧ S4.shR b l v = l ∧ S4.chkF (S4.shF b v) l = 0 := by
  have h0 : S4.shE b l v = 0 := by
    unfold S4.shE
    rw [if_pos h, if_pos hv]
  refine ⟨h0, by unfold S4.shG; rw [if_pos h0], by unfold S4.shR; rw [if_pos h0], ?_⟩
  obtain ⟨h1, _, h3, _, h5, _, _⟩ := S4.bchk_zero h
  have hp := S4.chk_parts h5
  have ht2 : S4.tagOk b.q v = true := by rw [S4.tagOk_iff]; rw [S4.itagOk_iff] at h3; omega
  have hb : S4.badF b.inn l = false := by
    unfold S4.chkF at h5
    rw [if_neg (by omega)] at h5
    cases hq : S4.badF b.inn l with
    | false => rfl
    | true => rw [hq] at h5; cases h5
  unfold S4.chkF
  rw [if_neg (by omega)]
  have : S4.badF (S4.shF b v) l = false := by
    unfold S4.badF at hb ⊢
    have e1 : (S4.shF b v).s = b.inn.s := rfl
    have e2 : (S4.shF b v).d = b.inn.d := rfl
    have e3 : (S4.shF b v).t = true := rfl
    have e4 : (S4.shF b v).p = b.q := rfl
    have e5 : (S4.shF b v).v = v := rfl
    rw [e1, e2, e3, e4, e5, ht2]
    simp only [Bool.or_eq_false_iff] at hb ⊢
    exact ⟨hb.1, hb.2.1, hb.2.2.1, rfl⟩
  rw [this]
  exact rfl
/-- What Decap and Local make of one port. -/
theorem FD_is {b : S4.Bf} {l : List Int} {v : Int} (h : S4.chkB b l = 0) (hv : 1 ≤ v ∧ v ≤ 4094) : FD b l v = some (S4.encL (S4.shF b v) l) := by
  have k := shG_ok h hv
  unfold FD S4.encO
  rw [if_pos k.1, k.2.1, k.2.2.1, if_pos k.2.2.2]
theorem FL_is {f : S4.Fr} {l : List Int} {v : Int} (h : S4.chkF f l = 0) (ht : f.t = true) (hv : 1 ≤ v ∧ v ≤ 4094) : FL f l v = some (S4.encL (f.vid v) l) := by
  have h0 : S4.rtE f l v = 0 := by
    unfold S4.rtE
    rw [if_pos h, if_pos ht, if_pos hv]
  unfold FL S4.encO S4.rtF S4.rtR
  rw [if_pos h0, if_pos h0, if_pos h0, if_pos (chk_vid h ht hv)]
theorem cp_map {F : Int → Option (List Int)} {G : Int → List Int} {p : Pv} {s : Int} : ∀ {l : List Int}, (∀ y ∈ l, F (vof p y s).1 = some (G (vof p y s).1)) → cpL F p s l = l.map (fun y => (⟨y, G (vof p y s).1⟩ : Mb))
  | [], _ => rfl
  | y :: l, h => by
    have ih := cp_map (l := l) fun z hz => h z (List.mem_cons_of_mem _ hz)
    have h1 := h y (List.mem_cons_self ..)
    unfold cpL at ih ⊢
    rw [List.filterMap_cons, h1]
    simp only [Option.map_some, List.map_cons]
    rw [ih]
theorem dp_map {p : Pv} (hp : chk p = true) {b : S4.Bf} {l : List Int} (h : S4.chkB b l = 0) : dpL p b l = (att p b.i).map (fun y => (⟨y, S4.encL (S4.shF b (vof p y b.i).1) l⟩ : Mb)) := by
  unfold dpL
  rw [if_pos h]
  exact cp_map (G := fun v => S4.encL (S4.shF b v) l) fun y hy => FD_is h (vof_att hp hy).2
theorem lo_map {p : Pv} (hp : chk p = true) {port : Int} {f : S4.Fr} {l : List Int} (h : clsW p port f l = 0) : loL p port f l = (noL port (att p (clsS p port f l))).map (fun y => (⟨y, S4.encL (f.vid (vof p y (clsS p port f l)).1) l⟩ : Mb)) := by
  have k := cls_zero h
  unfold loL
  rw [if_pos h]
  exact cp_map (G := fun v => S4.encL (f.vid v) l) fun y hy => FL_is k.1 k.2.1 (vof_att hp (List.mem_filter.1 hy).1).2
end

section
set_option linter.unusedVariables false
set_option maxRecDepth 4000
set_option linter.unusedSimpArgs false
open Go.RowKit
attribute [local go_sem ↓] ldM stM ldC stC ldB stB ldP stP apI bsI
attribute [local go_sem] bsI_is bsI2_is

theorem rvid_any (n : Int) (w : World) : Calls Try.prog 101 #[.int .i64 n] w fun r w' => r = .returned (.bool (isV n)) ∧ Below w.heap.size w w' := by
  by_cases h1 : 1 ≤ n
  · have e1 : decide (n ≥ 1) = true := by simp; omega
    have e2 : decide (1 ≤ n) = true := by simp; omega
    by_cases h2 : n ≤ 4094
    · have e3 : decide (n ≤ 4094) = true := by simp; omega
      have E : Hid (isV n = true) := by show (decide (1 ≤ n) && decide (n ≤ 4094)) = true; rw [e2, e3]; rfl
      go_enter Try.func101, Try.ntmps101
      go_wp2
      go_ret
      exact ⟨ret_bool E.out.symm, Below.refl _ _⟩
    · have e3 : decide (n ≤ 4094) = false := by simp; omega
      have E : Hid (isV n = false) := by show (decide (1 ≤ n) && decide (n ≤ 4094)) = false; rw [e2, e3]; rfl
      go_enter Try.func101, Try.ntmps101
      go_wp2
      go_ret
      exact ⟨ret_bool E.out.symm, Below.refl _ _⟩
  · have e1 : decide (n ≥ 1) = false := by simp; omega
    have e2 : decide (1 ≤ n) = false := by simp; omega
    have E : Hid (isV n = false) := by show (decide (1 ≤ n) && decide (n ≤ 4094)) = false; rw [e2]; rfl
    go_enter Try.func101, Try.ntmps101
    go_wp2
    go_ret
    exact ⟨ret_bool E.out.symm, Below.refl _ _⟩
theorem risid_any (n : Int) (w : World) : Calls Try.prog 102 #[.int .i64 n] w fun r w' => r = .returned (.bool (isS n)) ∧ Below w.heap.size w w' := by
  by_cases h1 : 1 ≤ n
  · have e1 : decide (n ≥ 1) = true := by simp; omega
    have e2 : decide (1 ≤ n) = true := by simp; omega
    by_cases h2 : n ≤ 16777215
    · have e3 : decide (n ≤ 16777215) = true := by simp; omega
      have E : Hid (isS n = true) := by show (decide (1 ≤ n) && decide (n ≤ 16777215)) = true; rw [e2, e3]; rfl
      go_enter Try.func102, Try.ntmps102
      go_wp2
      go_ret
      exact ⟨ret_bool E.out.symm, Below.refl _ _⟩
    · have e3 : decide (n ≤ 16777215) = false := by simp; omega
      have E : Hid (isS n = false) := by show (decide (1 ≤ n) && decide (n ≤ 16777215)) = false; rw [e2, e3]; rfl
      go_enter Try.func102, Try.ntmps102
      go_wp2
      go_ret
      exact ⟨ret_bool E.out.symm, Below.refl _ _⟩
  · have e1 : decide (n ≥ 1) = false := by simp; omega
    have e2 : decide (1 ≤ n) = false := by simp; omega
    have E : Hid (isS n = false) := by show (decide (1 ≤ n) && decide (n ≤ 16777215)) = false; rw [e2]; rfl
    go_enter Try.func102, Try.ntmps102
    go_wp2
    go_ret
    exact ⟨ret_bool E.out.symm, Below.refl _ _⟩
theorem before_any (x y : Mp) (w : World) : Calls Try.prog 103 #[.agg x.cs, .agg y.cs] w fun r w' => r = .returned (.bool (ltM x y)) ∧ Below w.heap.size w w' := by
  obtain ⟨W, hW, m0, bW, zW⟩ := MpAt.new w x
  obtain ⟨V, hV, m1, bV, zV⟩ := MpAt.new W y
  have k0 := (m0.below bV).c0
  have k1 := (m0.below bV).c1
  have j0 := m1.c0
  have j1 := m1.c1
  have B : Hid (Below w.heap.size w V) := below_over bW bV
  clear m0 m1 bW bV zW zV
  by_cases h1 : x.p < y.p
  · have d1 : decide (x.p < y.p) = true := by simpa using h1
    have E0 : ltM x y = true := by unfold ltM; rw [d1]; rfl
    have E : Hid (ltM x y = true) := E0
    clear h1 E0
    go_enter Try.func103, Try.ntmps103
    go_wp2
    go_ret
    exact ⟨ret_bool E.out.symm, B.out⟩
  · have d1 : decide (x.p < y.p) = false := by simpa using h1
    by_cases h2 : x.p = y.p
    · have e2 : (x.p == y.p) = true := by simp [h2]
      have E0 : ltM x y = decide (x.v < y.v) := by unfold ltM; rw [d1, e2]; rfl
      have E : Hid (ltM x y = decide (x.v < y.v)) := E0
      clear h1 h2 E0
      go_enter Try.func103, Try.ntmps103
      go_wp2
      go_ret
      exact ⟨ret_bool E.out.symm, B.out⟩
    · have e2 : (x.p == y.p) = false := by simp [h2]
      have E0 : ltM x y = false := by unfold ltM; rw [d1, e2]; rfl
      have E : Hid (ltM x y = false) := E0
      clear h1 h2 E0
      go_enter Try.func103, Try.ntmps103
      go_wp2
      go_ret
      exact ⟨ret_bool E.out.symm, B.out⟩
set_option maxHeartbeats 2000000 in
theorem rise_any (a : Option Addr) (n c : Nat) (l : List Int) (w : World) (hs : SlAt eI w a n c l) :
    Calls Try.prog 105 #[.slice a n c] w fun r w' => r = .returned (.bool (ris ltI l)) ∧ Below w.heap.size w w' := by
  have hnn := hs.int
  obtain ⟨R, hR⟩ : ∃ z, ris ltI l = z := ⟨_, rfl⟩
  have H : Hid (SlAt eI w a n c l ∧ l.length = n) := ⟨hs, hs.len⟩
  have HR : Hid (ris ltI l = R) := hR
  rw [hR]
  clear hs hR
  go_enter Try.func105, Try.ntmps105
  go_wp2_with fail
  go_loopw [3] (fun v wr => ∃ i : Nat, (i + 1 ≤ n ∨ i = 0) ∧ v = .int .i64 ((i : Int) + 1) ∧ R = ris ltI (l.drop i) ∧ Below w.heap.size w wr) (fun v _ => n - (intOf v).toNat)
  case atStart => exact ⟨0, Or.inr rfl, rfl, HR.out.symm, Below.refl _ _⟩
  case round =>
    obtain ⟨i, hi, rfl, hf, hB⟩ := hrel
    have J : Hid (R = ris ltI (l.drop i) ∧ Below w.heap.size w wr) := ⟨hf, hB⟩
    have hi0 : (0 : Int) ≤ (i : Int) := by omega
    have hi3 : (0 : Int) ≤ (i : Int) + 1 := by omega
    have hi4 : (i : Int) + 1 ≤ 9223372036854775807 := by omega
    have hi5 : (i : Int) + 1 - 1 = (i : Int) := by omega
    by_cases hit : i + 1 < n
    · have hi1 : (i : Int) + 1 < (n : Int) := by omega
      have hi2 : (i : Int) < (n : Int) := by omega
      obtain ⟨b, o, rfl⟩ := H.out.1.some' (by omega)
      obtain ⟨x, hx⟩ := lt_nth (l := l) (i := i) (by rw [H.out.2]; omega)
      obtain ⟨y, hy⟩ := lt_nth (l := l) (i := i + 1) (by rw [H.out.2]; exact hit)
      have HX : Hid (l[i]? = some x ∧ l[i + 1]? = some y) := ⟨hx, hy⟩
      have l0 := fun q : Later wr => lI ((H.out.1.below J.out.2).below q.below) HX.out.1
      have l1 := fun q : Later wr => lI ((H.out.1.below J.out.2).below q.below) HX.out.2
      clear hf hB hx hy
      by_cases hc : x < y
      · have E : Hid (R = ris ltI (l.drop (i + 1))) := by rw [J.out.1, ris_yes HX.out.1 HX.out.2 (decide_eq_true hc)]; exact rfl
        have d0 : decide (y ≤ x) = false := by simp; omega
        clear hc
        go_wp2_with fail
        refine wp_region_later (by kernel_rfl) (by kernel_rfl) ?_
        repeat (go_big_quiet_step (first | exact rfl))
        refine wpQuiet_nil ?_
        intro _ hw'
        obtain ⟨q, rfl⟩ := hw'
        clear l0 l1
        go_wp2
        go_roundw
        case rel => exact ⟨i + 1, by omega, by go_num, E.out, below_later J.out.2 q⟩
        case measure => simp [intOf]; omega
      · have E : Hid (R = false) := by rw [J.out.1, ris_no HX.out.1 HX.out.2 (decide_eq_false hc)]; exact rfl
        have d0 : decide (y ≤ x) = true := by simp; omega
        clear hc
        go_wp2_with fail
        refine wp_region_later (by kernel_rfl) (by kernel_rfl) ?_
        repeat (go_big_quiet_step (first | exact rfl))
        refine wpQuiet_nil ?_
        intro _ hw'
        obtain ⟨q, rfl⟩ := hw'
        clear l0 l1
        go_wp2
        go_ret
        exact ⟨ret_bool E.out.symm, below_later J.out.2 q⟩
    · have hi1 : ¬ (i : Int) + 1 < (n : Int) := by omega
      have E : Hid (R = true) := by rw [J.out.1, ris_end (by rw [H.out.2]; omega)]; exact rfl
      clear hf hB
      go_wp2
      go_ret
      exact ⟨ret_bool E.out.symm, J.out.2⟩
set_option maxHeartbeats 4000000 in
theorem are_any (x : Pr) (p : Pv) (a : Option Addr) (n c : Nat) (l : List Int) (k : Int) (w : World) (h : IsPv w x p) (hs : SlAt eI w a n c l) :
    Calls Try.prog 106 #[.agg x.cs, .slice a n c, .int .i64 k] w fun r w' => r = .returned (.bool (l.all (fun i => isK p i k))) ∧ Below w.heap.size w w' := by
  obtain ⟨ka, kn, kc, kv, ks⟩ := h.k
  obtain ⟨W, hW, r0, bW, zW⟩ := PrAt.new w x
  have hnn := hs.int
  have hkn := ks.int
  obtain ⟨R, hR⟩ : ∃ z, l.all (fun i => isK p i k) = z := ⟨_, rfl⟩
  have H : Hid (SlAt eI W a n c l ∧ l.length = n ∧ Below w.heap.size w W ∧ PrAt W w.heap.size x ∧ x.k = .slice ka kn kc ∧ SlAt eK W ka kn kc p.ks ∧ p.ks.length = kn) := ⟨hs.below bW, hs.len, bW, r0, kv, ks.below bW, ks.len⟩
  have HR : Hid (l.all (fun i => isK p i k) = R) := hR
  rw [hR]
  clear hs bW zW r0 h hR kv ks
  go_enter Try.func106, Try.ntmps106
  go_wp2_with fail
  go_loopw [7] (fun v wr => ∃ i : Nat, i ≤ n ∧ v = .int .i64 i ∧ R = (l.drop i).all (fun i => isK p i k) ∧ Below W.heap.size W wr) (fun v _ => n - (intOf v).toNat)
  case atStart => exact ⟨0, by omega, rfl, HR.out.symm, Below.refl _ _⟩
  case round =>
    obtain ⟨i, hi, rfl, hf, hB⟩ := hrel
    have J : Hid (R = (l.drop i).all (fun i => isK p i k) ∧ Below W.heap.size W wr) := ⟨hf, hB⟩
    have hi0 : (0 : Int) ≤ (i : Int) := by omega
    by_cases hit : i < n
    · have hi1 : (i : Int) < (n : Int) := by omega
      obtain ⟨b, o, rfl⟩ := H.out.1.some' (by omega)
      obtain ⟨y, hy⟩ := lt_nth (l := l) (i := i) (by rw [H.out.2.1]; exact hit)
      have l0 := fun q : Later wr => lI ((H.out.1.below hB).below q.below) hy
      have c0 := fun q : Later wr => ((H.out.2.2.2.1.below hB).below q.below).k
      rw [H.out.2.2.2.2.1] at c0
      have HX : Hid (l[i]? = some y) := hy
      clear hf hB hy
      by_cases h1 : y < 0
      · have d1 : decide (y < 0) = true := by simpa using h1
        have E : Hid (R = false) := by rw [J.out.1, all_no HX.out (by unfold isK hasP; rw [decide_eq_false (by omega)]; rfl)]; exact rfl
        clear h1
        go_wp2_with fail
        refine wp_region_later (by kernel_rfl) (by kernel_rfl) ?_
        repeat (go_big_quiet_step (first | exact rfl))
        refine wpQuiet_nil ?_
        intro _ hw'
        obtain ⟨q, rfl⟩ := hw'
        clear l0 c0
        go_wp2
        go_ret
        exact ⟨ret_bool E.out.symm, below_over H.out.2.2.1 (below_later J.out.2 q)⟩
      · have d1 : decide (y < 0) = false := by simpa using h1
        by_cases h2 : (kn : Int) ≤ y
        · have d2 : decide (y ≥ (kn : Int)) = true := by simpa using h2
          have d2' : decide ((kn : Int) ≤ y) = true := by simpa using h2
          have E : Hid (R = false) := by
            rw [J.out.1, all_no HX.out (by unfold isK hasP; rw [H.out.2.2.2.2.2.2, decide_eq_false (p := y < (kn : Int)) (by omega), Bool.and_false]; rfl)]
            exact rfl
          clear h1 h2
          go_wp2_with fail
          refine wp_region_later (by kernel_rfl) (by kernel_rfl) ?_
          repeat (go_big_quiet_step (first | exact rfl))
          refine wpQuiet_nil ?_
          intro _ hw'
          obtain ⟨q, rfl⟩ := hw'
          clear l0 c0
          go_wp2
          go_ret
          exact ⟨ret_bool E.out.symm, below_over H.out.2.2.1 (below_later J.out.2 q)⟩
        · have d2 : decide (y ≥ (kn : Int)) = false := by simpa using h2
          have d2' : decide ((kn : Int) ≤ y) = false := by simpa using h2
          have hj : y.toNat < kn := by omega
          have hj0 : (0 : Int) ≤ y := by omega
          have hj1 : y < (kn : Int) := by omega
          obtain ⟨u, hu⟩ := lt_nth (l := p.ks) (i := y.toNat) (by rw [H.out.2.2.2.2.2.2]; exact hj)
          obtain ⟨b2, o2, rfl⟩ := H.out.2.2.2.2.2.1.some' (by omega)
          have c1 := fun q : Later wr => lK ((H.out.2.2.2.2.2.1.below J.out.2).below q.below) hu
          have EK : isK p y k = (u == k) := by
            unfold isK hasP kAt
            rw [H.out.2.2.2.2.2.2, decide_eq_true hj0, decide_eq_true hj1, hu]
            rfl
          clear h1 h2 hj hu
          by_cases h3 : u = k
          · have e3 : (u != k) = false := by simp [h3]
            have E : Hid (R = (l.drop (i + 1)).all (fun i => isK p i k)) := by rw [J.out.1, all_yes HX.out (by rw [EK]; simp [h3])]; exact rfl
            clear EK h3
            go_wp2_with fail
            refine wp_region_later (by kernel_rfl) (by kernel_rfl) ?_
            repeat (go_big_quiet_step (first | exact rfl))
            refine wpQuiet_nil ?_
            intro _ hw'
            obtain ⟨q, rfl⟩ := hw'
            clear l0 c0 c1
            go_wp2
            go_roundw
            case rel => exact ⟨i + 1, by omega, by go_num, E.out, below_later J.out.2 q⟩
            case measure => simp [intOf]; omega
          · have e3 : (u != k) = true := by simp [h3]
            have E : Hid (R = false) := by rw [J.out.1, all_no HX.out (by rw [EK]; simp [h3])]; exact rfl
            clear EK h3
            go_wp2_with fail
            refine wp_region_later (by kernel_rfl) (by kernel_rfl) ?_
            repeat (go_big_quiet_step (first | exact rfl))
            refine wpQuiet_nil ?_
            intro _ hw'
            obtain ⟨q, rfl⟩ := hw'
            clear l0 c0 c1
            go_wp2
            go_ret
            exact ⟨ret_bool E.out.symm, below_over H.out.2.2.1 (below_later J.out.2 q)⟩
    · have hin : i = n := by omega
      subst hin
      have hi1 : ¬ (i : Int) < (i : Int) := by omega
      have E : Hid (R = true) := by rw [J.out.1, all_end (by rw [H.out.2.1]; exact Nat.le_refl _)]; exact rfl
      clear hf hB
      go_wp2
      go_ret
      exact ⟨ret_bool E.out.symm, below_over H.out.2.2.1 J.out.2⟩
end

end Go.Proofs.Ytgjagedngdhdaaa
