/-
  What may be provisioned stays so, whatever command is done; one service, one VLAN. Plain laws. What is put is taken, what is taken is put: the bytes. A frame's bytes decoded are the frame. Plain laws.
-/
import Derived.Test.YtgjagedngdhdaaaJ03Kind
import Derived.Test.YtgjagedngdhdaaaJ24XBInside
import Derived.Test.YtgjagedngdhdaaaJ09XPutINo
import Derived.Test.YtgjagedngdhdaaaJ21XDec
namespace Go.Proofs.Ytgjagedngdhdaaa

section
set_option linter.unusedVariables false
set_option maxRecDepth 4000
set_option linter.unusedSimpArgs false

/-! ### what may be stays so -/
theorem put_mem {α : Type} {c : α → Int} {x y : α} : ∀ {l : List α}, y ∈ putL c x l → y = x ∨ y ∈ l
  | [], h => by simp [putL] at h; exact Or.inl h
  | z :: l, h => by
    rw [putL] at h
    split at h
    · rcases List.mem_cons.1 h with e | h
      · exact Or.inr (by simp [e])
      · rcases put_mem h with e | e
        · exact Or.inl e
        · exact Or.inr (by simp [e])
    · split at h
      · rcases List.mem_cons.1 h with e | h
        · exact Or.inl e
        · exact Or.inr (by simp [h])
      · rcases List.mem_cons.1 h with e | h
        · exact Or.inl e
        · exact Or.inr h
theorem put_self {α : Type} {c : α → Int} {x : α} : ∀ {l : List α}, x ∈ putL c x l
  | [] => by simp [putL]
  | z :: l => by
    rw [putL]
    split
    · exact List.mem_cons_of_mem _ put_self
    · split <;> simp
theorem put_old {α : Type} {c : α → Int} {x y : α} : ∀ {l : List α}, y ∈ l → c y ≠ 0 → y ∈ putL c x l
  | [], h, _ => by cases h
  | z :: l, h, hc => by
    rw [putL]
    split
    · rcases List.mem_cons.1 h with e | h
      · simp [e]
      · exact List.mem_cons_of_mem _ (put_old h hc)
    · split
      · rename_i h0
        rcases List.mem_cons.1 h with e | h
        · rw [e] at hc; exact absurd h0 hc
        · exact List.mem_cons_of_mem _ h
      · exact List.mem_cons_of_mem _ h
theorem put_len {α : Type} {c : α → Int} {x : α} : ∀ {l : List α}, (putL c x l).length ≤ l.length + 1
  | [] => by simp [putL]
  | z :: l => by
    rw [putL]
    split
    · rw [List.length_cons, List.length_cons]; have := put_len (c := c) (x := x) (l := l); omega
    · split <;> simp
theorem put_perm {α : Type} {c : α → Int} {x : α} : ∀ {l : List α}, (∀ y ∈ l, c y ≠ 0) → (putL c x l).Perm (x :: l)
  | [], _ => List.Perm.refl _
  | z :: l, h => by
    rw [putL]
    split
    · exact (List.Perm.cons z (put_perm fun y hy => h y (by simp [hy]))).trans (List.Perm.swap x z l)
    · rw [if_neg (h z (by simp))]
theorem put_ris {α : Type} {lt : α → α → Bool} (ht : ∀ x y z, lt x y = true → lt y z = true → lt x z = true) {c : α → Int} {x : α} : ∀ {l : List α}, (∀ y ∈ l, (c y < 0 ↔ lt y x = true) ∧ (0 < c y ↔ lt x y = true) ∧ (c y = 0 → ∀ z, lt y z = true → lt x z = true)) → ris lt l = true → ris lt (putL c x l) = true
  | [], _, _ => rfl
  | z :: l, hc, h => by
    have hz := hc z (by simp)
    have h' := (ris_cons ht z l).1 h
    rw [putL]
    by_cases h1 : c z < 0
    · rw [if_pos h1, ris_cons ht]
      refine ⟨fun y hy => ?_, put_ris ht (fun y hy => hc y (by simp [hy])) h'.2⟩
      rcases put_mem hy with e | hy
      · rw [e]; exact hz.1.1 h1
      · exact h'.1 y hy
    · rw [if_neg h1]
      by_cases h2 : c z = 0
      · rw [if_pos h2, ris_cons ht]
        exact ⟨fun y hy => hz.2.2 h2 y (h'.1 y hy), h'.2⟩
      · rw [if_neg h2, ris_cons ht]
        have h3 : lt x z = true := hz.2.1.1 (by omega)
        refine ⟨fun y hy => ?_, h⟩
        rcases List.mem_cons.1 hy with e | hy
        · rw [e]; exact h3
        · exact ht _ _ _ h3 (h'.1 y hy)
theorem fil_ris {α : Type} {lt : α → α → Bool} (ht : ∀ x y z, lt x y = true → lt y z = true → lt x z = true) {f : α → Bool} {l : List α} (h : ris lt l = true) : ris lt (l.filter f) = true := (ris_pw ht _).2 (((ris_pw ht _).1 h).sublist List.filter_sublist)
theorem cmI_gt {a b : Int} : 0 < cmI a b ↔ b < a := by unfold cmI; split <;> (try split) <;> omega
theorem cmM_gt {a b : Mp} : 0 < cmM a b ↔ ltM b a = true := by
  rw [ltM_iff]
  unfold cmM
  split
  · rename_i h
    have := cmI_eq.1 h
    rw [cmI_gt]
    omega
  · rename_i h
    have : ¬ a.p = b.p := fun e => h (cmI_eq.2 e)
    rw [cmI_gt]
    omega
theorem gM_iff (p : Pv) : gM p = true ↔ (∀ m ∈ p.ms, okM0 p m = true) ∧ p.ms.Pairwise (fun k m => smS k m = false) ∧ ris ltM p.ms = true := by
  rw [gM_eq, mpR_iff]
  constructor
  · rintro ⟨h1, _, h3, _, h5⟩
    exact ⟨h1, h3, h5⟩
  · rintro ⟨h1, h3, h5⟩
    exact ⟨h1, (fun k hk => by cases hk), h3, (fun m hm => rfl), h5⟩
theorem gC_iff (p : Pv) : gC p = true ↔ (∀ c ∈ p.cs, isS c.s = true ∧ (pts p c.v).isSome = true) ∧ ris ltC p.cs = true := by
  rw [gC, Bool.and_eq_true, List.all_eq_true]
  simp only [okC, Bool.and_eq_true]
theorem gB_iff (p : Pv) : gB p = true ↔ (∀ m ∈ p.bs, okB p m = true) ∧ ris ltB p.bs = true := by rw [gB, Bool.and_eq_true, List.all_eq_true]
theorem chk_iff (p : Pv) : chk p = true ↔ cls p.o = 1 ∧ gK p.ks = true ∧ (p.ms.length ≤ 64 ∧ p.cs.length ≤ 64 ∧ p.bs.length ≤ 64) ∧ gB p = true ∧ gC p = true ∧ gM p = true := by
  simp [chk, room]
theorem refM_zero {p : Pv} {m : Mp} (h : refM p m = 0) : isV m.v = true ∧ isS m.s = true ∧ isK p m.p 1 = true ∧ (svc p m.p m.v).2 = false ∧ (vof p m.p m.s).2 = false ∧ (car p m.s).2 = true ∧ p.ms.length < 64 := by
  unfold refM at h
  split at h
  · cases h
  · split at h
    · cases h
    · split at h
      · cases h
      · split at h
        · cases h
        · split at h
          · cases h
          · split at h
            · cases h
            · rename_i h1 h2 h3 h4 h5 h6
              simp at h1 h3 h4 h5
              exact ⟨h1.1, h1.2, h3, h4.1, h4.2, h5, by omega⟩
theorem refC_zero {p : Pv} {c : Cr} (h : refC p c = 0) : isS c.s = true ∧ isV c.v = true ∧ (car p c.s).2 = false ∧ (pts p c.v).isSome = true ∧ p.cs.length < 64 := by
  unfold refC at h
  split at h
  · cases h
  · split at h
    · cases h
    · split at h
      · cases h
      · split at h
        · cases h
        · rename_i h1 h2 h3 h4
          simp at h1 h2
          exact ⟨h1.1, h1.2, h2, by cases hh : (pts p c.v).isSome with
            | true => rfl
            | false => exact absurd hh h3, by omega⟩
theorem refB_zero {p : Pv} {m : Mb} (h : refB p m = 0) : okB p m = true ∧ (p.bs.length < 64 ∨ (pts p m.v).isSome = true) := by
  unfold refB at h
  split at h
  · cases h
  · split at h
    · cases h
    · split at h
      · cases h
      · split at h
        · cases h
        · rename_i h1 h2 h3 h4
          simp only [Bool.not_eq_false] at h1 h3
          rw [Bool.and_eq_true] at h1
          refine ⟨by unfold okB; rw [h1.1, h1.2, h3]; rfl, ?_⟩
          simp at h4
          by_cases h5 : 64 ≤ p.bs.length
          · exact Or.inr (by have := h4 h5; cases hh : pts p m.v with
              | none => exact absurd hh this
              | some _ => rfl)
          · exact Or.inl (by omega)
theorem put_lenB {m : Mb} {l : List Mb} (hr : ris ltB l = true) (h : (ptl m.v l).isSome = true) : (putL (cmB · m) m l).length = l.length := by
  rw [set_put hr, set_len hr, h]
  rfl
theorem car_some {p : Pv} {s : Int} : (car p s).2 = true ↔ ∃ c ∈ p.cs, c.s = s := by
  constructor
  · intro h
    obtain ⟨x, hx, hc, _⟩ := fnd_in h
    exact ⟨x, hx, by simpa using hc⟩
  · rintro ⟨c, hc, e⟩
    obtain ⟨x, _, _, h⟩ := fnd_some (c := fun c => c.s == s) (g := fun c => c.v) hc (by simp [e])
    unfold car
    rw [h]
theorem do_chk {p : Pv} (c : Cd) (h : chk p = true) : chk (doC p c).1 = true := by
  unfold doC
  rw [if_pos h]
  have h0 := h
  rw [chk_iff] at h
  obtain ⟨h1, h2, ⟨l1, l2, l3⟩, hB, hC, hM⟩ := h
  have hB' := (gB_iff p).1 hB
  have hC' := (gC_iff p).1 hC
  have hM' := (gM_iff p).1 hM
  unfold doK whn
  by_cases k1 : c.k = 1
  · rw [if_pos k1]
    by_cases e : refM p c.m = 0
    · rw [if_pos e]
      obtain ⟨r1, r2, r3, r4, r5, r6, r7⟩ := refM_zero e
      have hne : ∀ y ∈ p.ms, cmM y c.m ≠ 0 := fun y hy e => by
        have := fnd_false r4 y hy
        have h' := cmM_eq.1 e
        simp [h'.1, h'.2] at this
      rw [chk_iff]
      refine ⟨h1, h2, ⟨Nat.le_trans put_len (by omega), l2, l3⟩, hB, hC, (gM_iff _).2 ⟨fun m hm => ?_, ?_, ?_⟩⟩
      · rcases put_mem hm with e | hm
        · rw [e]
          show okM0 p c.m = true
          unfold okM0
          rw [r1, r3, r6]
          rfl
        · exact hM'.1 m hm
      · refine (List.Perm.pairwise_iff (fun {x y} h => by simp [smS] at h ⊢; omega) (put_perm hne)).2 (List.pairwise_cons.2 ⟨fun y hy => ?_, hM'.2.1⟩)
        have := fnd_false r5 y hy
        simp [smS] at this ⊢
        omega
      · refine put_ris ltM_tr (fun y hy => ⟨cmM_lt, cmM_gt, fun e => absurd e (hne y hy)⟩) hM'.2.2
    · rw [if_neg e]; exact h0
  rw [if_neg k1]
  by_cases k2 : c.k = 2
  · rw [if_pos k2]
    split
    · rw [chk_iff]
      refine ⟨h1, h2, ⟨Nat.le_trans (List.length_filter_le ..) l1, l2, l3⟩, hB, hC, (gM_iff _).2 ⟨fun m hm => hM'.1 m (List.mem_filter.1 hm).1, hM'.2.1.sublist List.filter_sublist, fil_ris ltM_tr hM'.2.2⟩⟩
    · exact h0
  rw [if_neg k2]
  by_cases k3 : c.k = 3
  · rw [if_pos k3]
    by_cases e : refC p c.c = 0
    · rw [if_pos e]
      obtain ⟨r1, r2, r3, r4, r5⟩ := refC_zero e
      have hne : ∀ y ∈ p.cs, cmC y c.c ≠ 0 := fun y hy e => by
        have := fnd_false r3 y hy
        simp at this
        exact this (cmI_eq.1 e)
      rw [chk_iff]
      refine ⟨h1, h2, ⟨l1, Nat.le_trans put_len (by omega), l3⟩, hB, (gC_iff _).2 ⟨fun m hm => ?_, ?_⟩, (gM_iff _).2 ⟨fun m hm => ?_, hM'.2.1, hM'.2.2⟩⟩
      · rcases put_mem hm with e | hm
        · rw [e]; exact ⟨r1, r4⟩
        · exact hC'.1 m hm
      · refine put_ris ltC_tr (fun y hy => ⟨?_, ?_, fun e => absurd e (hne y hy)⟩) hC'.2
        · show cmI y.s c.c.s < 0 ↔ _
          rw [cmI_lt, ltC]; simp
        · show 0 < cmI y.s c.c.s ↔ _
          rw [cmI_gt, ltC]; simp
      · have := hM'.1 m hm
        unfold okM0 at this ⊢
        simp only [Bool.and_eq_true] at this ⊢
        refine ⟨this.1, this.2.1, ?_⟩
        obtain ⟨x, hx, ex⟩ := car_some.1 this.2.2
        exact car_some.2 ⟨x, put_old hx (hne x hx), ex⟩
    · rw [if_neg e]; exact h0
  rw [if_neg k3]
  by_cases k4 : c.k = 4
  · rw [if_pos k4]
    by_cases e : keepC p c.c = 0
    · rw [if_pos e]
      have hatt : att p c.c.s = [] := by
        unfold keepC at e
        split at e
        · cases e
        · split at e
          · cases e
          · rename_i h'
            exact List.eq_nil_of_length_eq_zero (by omega)
      rw [chk_iff]
      refine ⟨h1, h2, ⟨l1, Nat.le_trans (List.length_filter_le ..) l2, l3⟩, hB, (gC_iff _).2 ⟨fun m hm => hC'.1 m (List.mem_filter.1 hm).1, fil_ris ltC_tr hC'.2⟩, (gM_iff _).2 ⟨fun m hm => ?_, hM'.2.1, hM'.2.2⟩⟩
      have := hM'.1 m hm
      unfold okM0 at this ⊢
      simp only [Bool.and_eq_true] at this ⊢
      refine ⟨this.1, this.2.1, ?_⟩
      obtain ⟨x, hx, ex⟩ := car_some.1 this.2.2
      refine car_some.2 ⟨x, List.mem_filter.2 ⟨hx, ?_⟩, ex⟩
      have hne : ¬ m.s = c.c.s := fun e => by
        have : m.p ∈ att p c.c.s := List.mem_map.2 ⟨m, List.mem_filter.2 ⟨hm, by simp [e]⟩, rfl⟩
        rw [hatt] at this
        cases this
      simp only [bne_iff_ne, ne_eq]
      intro e
      exact hne (ex.symm.trans (cmI_eq.1 e))
    · rw [if_neg e]; exact h0
  rw [if_neg k4]
  by_cases k5 : c.k = 5
  · rw [if_pos k5]
    by_cases e : refB p c.b = 0
    · rw [if_pos e]
      obtain ⟨r1, r2⟩ := refB_zero e
      rw [chk_iff]
      refine ⟨h1, h2, ⟨l1, l2, ?_⟩, (gB_iff _).2 ⟨fun m hm => ?_, ?_⟩, (gC_iff _).2 ⟨fun m hm => ⟨(hC'.1 m hm).1, ?_⟩, hC'.2⟩, (gM_iff _).2 ⟨hM'.1, hM'.2⟩⟩
      · rcases r2 with r2 | r2
        · exact Nat.le_trans put_len (by omega)
        · show (putL (cmB · c.b) c.b p.bs).length ≤ 64
          rw [put_lenB hB'.2 r2]
          exact l3
      · rcases put_mem hm with e | hm
        · rw [e]; exact r1
        · exact hB'.1 m hm
      · refine put_ris ltB_tr (fun y hy => ⟨?_, ?_, fun e z hz => ?_⟩) hB'.2
        · show cmI y.v c.b.v < 0 ↔ _
          rw [cmI_lt, ltB]; simp
        · show 0 < cmI y.v c.b.v ↔ _
          rw [cmI_gt, ltB]; simp
        · have := cmI_eq.1 e
          simp [ltB] at hz ⊢
          omega
      · obtain ⟨x, hx, ex⟩ := ptl_some.1 (hC'.1 m hm).2
        by_cases e0 : cmB x c.b = 0
        · exact ptl_some.2 ⟨c.b, put_self, by rw [← ex]; exact (cmI_eq.1 e0).symm⟩
        · exact ptl_some.2 ⟨x, put_old hx e0, ex⟩
    · rw [if_neg e]; exact h0
  rw [if_neg k5]
  by_cases k6 : c.k = 6
  · rw [if_pos k6]
    by_cases e : keepB p c.b.v = 0
    · rw [if_pos e]
      have hsv : svs p c.b.v = [] := by
        unfold keepB at e
        split at e
        · cases e
        · split at e
          · cases e
          · rename_i h'
            exact List.eq_nil_of_length_eq_zero (by omega)
      rw [chk_iff]
      refine ⟨h1, h2, ⟨l1, l2, Nat.le_trans (List.length_filter_le ..) l3⟩, (gB_iff _).2 ⟨fun m hm => hB'.1 m (List.mem_filter.1 hm).1, fil_ris ltB_tr hB'.2⟩, (gC_iff _).2 ⟨fun m hm => ⟨(hC'.1 m hm).1, ?_⟩, hC'.2⟩, (gM_iff _).2 ⟨hM'.1, hM'.2⟩⟩
      obtain ⟨x, hx, ex⟩ := ptl_some.1 (hC'.1 m hm).2
      refine ptl_some.2 ⟨x, List.mem_filter.2 ⟨hx, ?_⟩, ex⟩
      have hne : ¬ m.v = c.b.v := fun e => by
        have : m.s ∈ svs p c.b.v := List.mem_map.2 ⟨m, List.mem_filter.2 ⟨hm, by simp [e]⟩, rfl⟩
        rw [hsv] at this
        cases this
      simp only [bne_iff_ne, ne_eq]
      intro e
      exact hne (ex.symm.trans (cmI_eq.1 e))
    · rw [if_neg e]; exact h0
  rw [if_neg k6]
  exact h0
/-- Of a port and a VLAN there is one service, of a port and a service one VLAN. -/
theorem one_of_chk {p : Pv} (h : chk p = true) {m : Mp} (hm : m ∈ p.ms) : svc p m.p m.v = (m.s, true) ∧ vof p m.p m.s = (m.v, true) ∧ (car p m.s).2 = true ∧ (pts p (car p m.s).1).isSome = true := by
  rw [chk_iff] at h
  obtain ⟨h1, h2, ⟨l1, l2, l3⟩, hB, hC, hM⟩ := h
  have hC' := (gC_iff p).1 hC
  have hM' := (gM_iff p).1 hM
  have hk := hM'.1 m hm
  unfold okM0 at hk
  simp only [Bool.and_eq_true] at hk
  refine ⟨?_, ?_, hk.2.2, ?_⟩
  · obtain ⟨x, hx, hc, e⟩ := fnd_some (c := fun k : Mp => k.p == m.p && k.v == m.v) (g := fun k => k.s) hm (by simp)
    unfold svc
    rw [e]
    simp at hc
    rcases rises_one ltM_tr hM'.2.2 x hx m hm with rfl | h | h
    · rfl
    · rw [ltM_iff] at h; omega
    · rw [ltM_iff] at h; omega
  · obtain ⟨x, hx, hc, e⟩ := fnd_some (c := fun k : Mp => k.p == m.p && k.s == m.s) (g := fun k => k.v) hm (by simp)
    unfold vof
    rw [e]
    rcases pw_two (fun a b h => by simp [smS] at h ⊢; omega) hM'.2.1 x hx m hm with rfl | h
    · rfl
    · exact absurd hc (by simpa [smS] using h)
  · obtain ⟨x, hx, hc, e⟩ := fnd_in hk.2.2
    have : (car p m.s).1 = x.v := e
    rw [this]
    exact (hC'.1 x hx).2
theorem one_apart {p : Pv} (h : chk p = true) {i k : Nat} {a b : Mp} (hk : k < i) (ha : p.ms[k]? = some a) (hb : p.ms[i]? = some b) : ¬ (a.p = b.p ∧ (a.v = b.v ∨ a.s = b.s)) := by
  rw [chk_iff] at h
  obtain ⟨h1, h2, ⟨l1, l2, l3⟩, hB, hC, hM⟩ := h
  have hM' := (gM_iff p).1 hM
  obtain ⟨hka, ea⟩ := List.getElem?_eq_some_iff.1 ha
  obtain ⟨hib, eb⟩ := List.getElem?_eq_some_iff.1 hb
  have q1 := (List.pairwise_iff_getElem.1 hM'.2.1) k i hka hib hk
  have q2 := (List.pairwise_iff_getElem.1 ((ris_pw ltM_tr _).1 hM'.2.2)) k i hka hib hk
  rw [ea, eb] at q1 q2
  rw [ltM_iff] at q2
  simp [smS] at q1
  omega
end

section
namespace S4
set_option linter.unusedVariables false
set_option maxRecDepth 4000
set_option linter.unusedSimpArgs false
open Go.RowKit

theorem tk_put {p v : Int} {d : Bool} (M : List Int) (h : tagOk p v = true) :
    tkE (tagL p d v ++ M) = 0 ∧ tkP (tagL p d v ++ M) = p ∧ tkD (tagL p d v ++ M) = d ∧ tkV (tagL p d v ++ M) = v ∧ tkR (tagL p d v ++ M) = M ∧ ∀ x ∈ tagL p d v, 0 ≤ x ∧ x ≤ 255 := by
  have hb := tagOk_iff.1 h
  have hd := bitN_lt d
  have hN : tkN (tagL p d v ++ M) = tagN p d v := by unfold tkN tagL; simp; omega
  have e1 : tagN p d v / 8192 = p := by unfold tagN; omega
  have e2 : tagN p d v / 4096 % 2 = (bitN d : Nat) := by unfold tagN; omega
  have e3 : tagN p d v % 4096 = v := by unfold tagN; omega
  have hE : tkE (tagL p d v ++ M) = 0 := by
    unfold tkE
    rw [if_neg (by simp [tagL]), hN, e1, e3, h]
    rfl
  refine ⟨hE, ?_, ?_, ?_, ?_, ?_⟩
  · unfold tkP; rw [if_pos hE, hN, e1]
  · unfold tkD; rw [if_pos hE, hN, e2]; cases d <;> rfl
  · unfold tkV; rw [if_pos hE, hN, e3]
  · unfold tkR; rw [if_pos hE]; rfl
  · intro x hx
    simp only [tagL, List.mem_cons, List.not_mem_nil, or_false] at hx
    unfold tagN at hx
    omega

theorem tk_back {B : List Int} (h : tkE B = 0) (hb : ∀ x ∈ B, 0 ≤ x ∧ x ≤ 255) : tagOk (tkP B) (tkV B) = true ∧ tagL (tkP B) (tkD B) (tkV B) ++ tkR B = B := by
  have h0 := h
  unfold tkE at h0
  by_cases h2 : B.length < 2
  · rw [if_pos h2] at h0; omega
  · rw [if_neg h2] at h0
    have ho : tagOk (tkN B / 8192) (tkN B % 4096) = true := by
      cases ho : tagOk (tkN B / 8192) (tkN B % 4096)
      · rw [ho] at h0; simp at h0
      · rfl
    refine ⟨by unfold tkP tkV; rw [if_pos h, if_pos h]; exact ho, ?_⟩
    unfold tkP tkD tkV tkR
    rw [if_pos h, if_pos h, if_pos h, if_pos h]
    match B, h2, hb with
    | x :: y :: r, _, hb =>
      have hx := hb x (by simp)
      have hy := hb y (by simp)
      have hN : tkN (x :: y :: r) = x * 256 + y := by unfold tkN; simp
      rw [hN]
      have hbit : ((bitN ((x * 256 + y) / 4096 % 2 == 1) : Nat) : Int) = (x * 256 + y) / 4096 % 2 := by
        by_cases e : (x * 256 + y) / 4096 % 2 = 1
        · rw [e]; rfl
        · have e' : (x * 256 + y) / 4096 % 2 = 0 := by omega
          rw [e']; rfl
      unfold tagL tagN
      rw [hbit]
      have q1 : ((x * 256 + y) / 8192 * 8192 + (x * 256 + y) / 4096 % 2 * 4096 + (x * 256 + y) % 4096) / 256 = x := by omega
      have q2 : ((x * 256 + y) / 8192 * 8192 + (x * 256 + y) / 4096 % 2 * 4096 + (x * 256 + y) % 4096) % 256 = y := by omega
      rw [q1, q2]
      rfl

theorem ti_put {p : Int} {d u : Bool} {i : Int} {a0 a1 a2 a3 a4 a5 s0 s1 s2 s3 s4 s5 : Int} (M : List Int) (h : itagOk p i = true) :
    tiE (itagL p d u i a0 a1 a2 a3 a4 a5 s0 s1 s2 s3 s4 s5 ++ M) = 0 ∧ tiP (itagL p d u i a0 a1 a2 a3 a4 a5 s0 s1 s2 s3 s4 s5 ++ M) = p ∧ tiD (itagL p d u i a0 a1 a2 a3 a4 a5 s0 s1 s2 s3 s4 s5 ++ M) = d ∧ tiU (itagL p d u i a0 a1 a2 a3 a4 a5 s0 s1 s2 s3 s4 s5 ++ M) = u ∧ tiI (itagL p d u i a0 a1 a2 a3 a4 a5 s0 s1 s2 s3 s4 s5 ++ M) = i ∧
      tiX (itagL p d u i a0 a1 a2 a3 a4 a5 s0 s1 s2 s3 s4 s5 ++ M) 4 = a0 ∧ tiX (itagL p d u i a0 a1 a2 a3 a4 a5 s0 s1 s2 s3 s4 s5 ++ M) 5 = a1 ∧ tiX (itagL p d u i a0 a1 a2 a3 a4 a5 s0 s1 s2 s3 s4 s5 ++ M) 6 = a2 ∧ tiX (itagL p d u i a0 a1 a2 a3 a4 a5 s0 s1 s2 s3 s4 s5 ++ M) 7 = a3 ∧ tiX (itagL p d u i a0 a1 a2 a3 a4 a5 s0 s1 s2 s3 s4 s5 ++ M) 8 = a4 ∧ tiX (itagL p d u i a0 a1 a2 a3 a4 a5 s0 s1 s2 s3 s4 s5 ++ M) 9 = a5 ∧ tiX (itagL p d u i a0 a1 a2 a3 a4 a5 s0 s1 s2 s3 s4 s5 ++ M) 10 = s0 ∧ tiX (itagL p d u i a0 a1 a2 a3 a4 a5 s0 s1 s2 s3 s4 s5 ++ M) 11 = s1 ∧ tiX (itagL p d u i a0 a1 a2 a3 a4 a5 s0 s1 s2 s3 s4 s5 ++ M) 12 = s2 ∧ tiX (itagL p d u i a0 a1 a2 a3 a4 a5 s0 s1 s2 s3 s4 s5 ++ M) 13 = s3 ∧ tiX (itagL p d u i a0 a1 a2 a3 a4 a5 s0 s1 s2 s3 s4 s5 ++ M) 14 = s4 ∧ tiX (itagL p d u i a0 a1 a2 a3 a4 a5 s0 s1 s2 s3 s4 s5 ++ M) 15 = s5 ∧ tiR (itagL p d u i a0 a1 a2 a3 a4 a5 s0 s1 s2 s3 s4 s5 ++ M) = M ∧ ∀ j, j < 4 → 0 ≤ (itagL p d u i a0 a1 a2 a3 a4 a5 s0 s1 s2 s3 s4 s5 ++ M).getD j 0 ∧ (itagL p d u i a0 a1 a2 a3 a4 a5 s0 s1 s2 s3 s4 s5 ++ M).getD j 0 ≤ 255 := by
  have hb := itagOk_iff.1 h
  have hd := bitN_lt d
  have hu := bitN_lt u
  have hlen : ¬ (itagL p d u i a0 a1 a2 a3 a4 a5 s0 s1 s2 s3 s4 s5 ++ M).length < 16 := by simp [itagL]
  have g0 : (itagL p d u i a0 a1 a2 a3 a4 a5 s0 s1 s2 s3 s4 s5 ++ M).getD 0 0 = p * 32 + (bitN d : Nat) * 16 + (bitN u : Nat) * 8 := rfl
  have g1 : (itagL p d u i a0 a1 a2 a3 a4 a5 s0 s1 s2 s3 s4 s5 ++ M).getD 1 0 = i / 65536 := rfl
  have g2 : (itagL p d u i a0 a1 a2 a3 a4 a5 s0 s1 s2 s3 s4 s5 ++ M).getD 2 0 = i / 256 % 256 := rfl
  have g3 : (itagL p d u i a0 a1 a2 a3 a4 a5 s0 s1 s2 s3 s4 s5 ++ M).getD 3 0 = i % 256 := rfl
  have hE : tiE (itagL p d u i a0 a1 a2 a3 a4 a5 s0 s1 s2 s3 s4 s5 ++ M) = 0 := by
    unfold tiE
    rw [if_neg hlen, g0, if_pos (by omega)]
  refine ⟨hE, ?_, ?_, ?_, ?_, ?_, ?_, ?_, ?_, ?_, ?_, ?_, ?_, ?_, ?_, ?_, ?_, ?_, ?_⟩
  · unfold tiP; rw [if_pos hE, g0]; omega
  · unfold tiD
    rw [if_pos hE, g0, show (p * 32 + (bitN d : Nat) * 16 + (bitN u : Nat) * 8) / 16 % 2 = (bitN d : Nat) by omega]
    cases d <;> rfl
  · unfold tiU
    rw [if_pos hE, g0, show (p * 32 + (bitN d : Nat) * 16 + (bitN u : Nat) * 8) / 8 % 2 = (bitN u : Nat) by omega]
    cases u <;> rfl
  · unfold tiI; rw [if_pos hE, g1, g2, g3]; omega
  · unfold tiX; rw [if_pos hE]; rfl
  · unfold tiX; rw [if_pos hE]; rfl
  · unfold tiX; rw [if_pos hE]; rfl
  · unfold tiX; rw [if_pos hE]; rfl
  · unfold tiX; rw [if_pos hE]; rfl
  · unfold tiX; rw [if_pos hE]; rfl
  · unfold tiX; rw [if_pos hE]; rfl
  · unfold tiX; rw [if_pos hE]; rfl
  · unfold tiX; rw [if_pos hE]; rfl
  · unfold tiX; rw [if_pos hE]; rfl
  · unfold tiX; rw [if_pos hE]; rfl
  · unfold tiX; rw [if_pos hE]; rfl
  · unfold tiR; rw [if_pos hE]; rfl
  · intro j hj
    have hj' : j = 0 ∨ j = 1 ∨ j = 2 ∨ j = 3 := by omega
    rcases hj' with rfl | rfl | rfl | rfl
    · rw [g0]; omega
    · rw [g1]; omega
    · rw [g2]; omega
    · rw [g3]; omega

theorem bit_two (z : Int) (h : z = 0 ∨ z = 1) : ((bitN (z == 1) : Nat) : Int) = z := by
  rcases h with rfl | rfl <;> rfl

theorem list_split16 {B : List Int} (h : 16 ≤ B.length) : [B.getD 0 0, B.getD 1 0, B.getD 2 0, B.getD 3 0, B.getD 4 0, B.getD 5 0, B.getD 6 0, B.getD 7 0, B.getD 8 0, B.getD 9 0, B.getD 10 0, B.getD 11 0, B.getD 12 0, B.getD 13 0, B.getD 14 0, B.getD 15 0] ++ B.drop 16 = B := by
  match B, h with
  | c0 :: c1 :: c2 :: c3 :: c4 :: c5 :: c6 :: c7 :: c8 :: c9 :: c10 :: c11 :: c12 :: c13 :: c14 :: c15 :: r, _ => rfl

theorem ti_back {B : List Int} (h : tiE B = 0) (hb : ∀ x ∈ B, 0 ≤ x ∧ x ≤ 255) : itagOk (tiP B) (tiI B) = true ∧ itagL (tiP B) (tiD B) (tiU B) (tiI B) (tiX B 4) (tiX B 5) (tiX B 6) (tiX B 7) (tiX B 8) (tiX B 9) (tiX B 10) (tiX B 11) (tiX B 12) (tiX B 13) (tiX B 14) (tiX B 15) ++ tiR B = B := by
  have h0 := h
  unfold tiE at h0
  by_cases h2 : B.length < 16
  · rw [if_pos h2] at h0; omega
  · rw [if_neg h2] at h0
    have h8 : B.getD 0 0 % 8 = 0 := by
      by_cases h8 : B.getD 0 0 % 8 = 0
      · exact h8
      · rw [if_neg h8] at h0; omega
    have hx : ∀ j, j < B.length → 0 ≤ B.getD j 0 ∧ B.getD j 0 ≤ 255 := fun j hj => by
      have : B.getD j 0 = B[j] := by simp [hj]
      rw [this]
      exact hb _ (List.getElem_mem hj)
    have x0 := hx 0 (by omega)
    have x1 := hx 1 (by omega)
    have x2 := hx 2 (by omega)
    have x3 := hx 3 (by omega)
    have hs := list_split16 (B := B) (by omega)
    unfold tiP tiD tiU tiI tiX tiR
    simp only [h, ↓reduceIte]
    refine ⟨itagOk_iff.2 (by omega), ?_⟩
    conv => rhs; rw [← hs]
    unfold itagL
    rw [bit_two _ (by omega), bit_two _ (by omega)]
    rw [show B.getD 0 0 / 32 * 32 + B.getD 0 0 / 16 % 2 * 16 + B.getD 0 0 / 8 % 2 * 8 = B.getD 0 0 by omega, show (B.getD 1 0 * 65536 + B.getD 2 0 * 256 + B.getD 3 0) / 65536 = B.getD 1 0 by omega, show (B.getD 1 0 * 65536 + B.getD 2 0 * 256 + B.getD 3 0) / 256 % 256 = B.getD 2 0 by omega, show (B.getD 1 0 * 65536 + B.getD 2 0 * 256 + B.getD 3 0) % 256 = B.getD 3 0 by omega]
    rfl

theorem four_bytes' {l : List Int} (hb : ∀ j, j < 4 → 0 ≤ l.getD j 0 ∧ l.getD j 0 ≤ 255) :
    ∃ N A B C E : Nat, l.getD 0 0 = (A : Int) ∧ l.getD 1 0 = (B : Int) ∧ l.getD 2 0 = (C : Int) ∧ l.getD 3 0 = (E : Int) ∧ A < 256 ∧ B < 256 ∧ C < 256 ∧ E < 256 ∧ N = ((A * 256 + B) * 256 + C) * 256 + E ∧ (∀ j, j < 4 → byN 4 N j = l.getD j 0) := by
  have hx := hb 0 (by omega)
  have hy := hb 1 (by omega)
  have hz := hb 2 (by omega)
  have hu := hb 3 (by omega)
  obtain ⟨X, eX⟩ := Int.eq_ofNat_of_zero_le hx.1
  obtain ⟨Y, eY⟩ := Int.eq_ofNat_of_zero_le hy.1
  obtain ⟨Z, eZ⟩ := Int.eq_ofNat_of_zero_le hz.1
  obtain ⟨U, eU⟩ := Int.eq_ofNat_of_zero_le hu.1
  rw [eX] at hx
  rw [eY] at hy
  rw [eZ] at hz
  rw [eU] at hu
  refine ⟨_, X, Y, Z, U, eX, eY, eZ, eU, by omega, by omega, by omega, by omega, rfl, ?_⟩
  intro j hj
  have hj' : j = 0 ∨ j = 1 ∨ j = 2 ∨ j = 3 := by omega
  rcases hj' with rfl | rfl | rfl | rfl
  · rw [eX]; unfold byN; simp; omega
  · rw [eY]; unfold byN; simp; omega
  · rw [eZ]; unfold byN; simp; omega
  · rw [eU]; unfold byN; simp; omega

end S4
end

section
namespace S4
set_option linter.unusedVariables false
set_option maxRecDepth 4000
set_option linter.unusedSimpArgs false
open Go.RowKit

theorem enc_head (f : Fr) (r : List Int) : (f.d.l ++ f.s.l ++ r).drop 12 = r ∧ (f.d.l ++ f.s.l ++ r).drop 14 = r.drop 2 ∧ (f.d.l ++ f.s.l ++ r).drop 16 = r.drop 4 ∧ m6 (f.d.l ++ f.s.l ++ r) 0 = f.d ∧ m6 (f.d.l ++ f.s.l ++ r) 6 = f.s := by
  obtain ⟨⟨a, b, c, d, e, g⟩, ⟨a', b', c', d', e', g'⟩, t, p, q, v⟩ := f
  exact ⟨rfl, rfl, rfl, rfl, rfl⟩
theorem chk_parts {f : Fr} {l : List Int} (h : chkF f l = 0) : l.length ≤ 1502 ∧ 2 ≤ l.length ∧ (f.t = true → tagOk f.p f.v = true) ∧ (f.t = false → f.p = 0 ∧ f.e = false ∧ f.v = 0 ∧ ¬ tyN l = 34984) := by
  obtain ⟨h1, h2, h3⟩ := chk_zero h
  refine ⟨h1, h3, h2, fun ht => ?_⟩
  unfold chkF at h
  rw [if_neg (by omega)] at h
  cases hb : badF f l
  · unfold badF at hb
    rw [ht] at hb
    simp only [Bool.or_eq_false_iff] at hb
    have h4 := hb.2.2.2
    simp [fz] at h4
    obtain ⟨⟨h5, h6, h7⟩, h8⟩ := h4
    exact ⟨h5, h6, h7, h8⟩
  · rw [hb] at h; simp at h
theorem enc_len {f : Fr} {l : List Int} : (encL f l).length = 12 + (tgL f).length + l.length := by simp [encL, M6.l]; omega
theorem tg_len (f : Fr) : (tgL f).length = if f.t then 4 else 0 := by unfold tgL; split <;> simp [tagL]
theorem enc_raw {f : Fr} {l : List Int} (h : chkF f l = 0) : dcT (encL f l) = f.t ∧ rawF (encL f l) = f ∧ rawR (encL f l) = l ∧ shortB (encL f l) = false := by
  obtain ⟨h1, h2, h3, h4⟩ := chk_parts h
  have e : encL f l = f.d.l ++ f.s.l ++ (tgL f ++ l) := by simp [encL]
  obtain ⟨q1, q2, q3, q4, q5⟩ := enc_head f (tgL f ++ l)
  rw [← e] at q1 q2 q3 q4 q5
  cases ht : f.t
  · obtain ⟨h5, h6, h7, h8⟩ := h4 ht
    have et : tgL f = [] := by unfold tgL; rw [ht]; rfl
    rw [et] at q1 q2 q3
    have eT : dcT (encL f l) = false := by
      unfold dcT
      rw [q1]
      simpa using h8
    refine ⟨eT, ?_, ?_, shortB_iff.2 ⟨by rw [enc_len]; omega, fun hx => by rw [eT] at hx; cases hx⟩⟩
    · unfold rawF
      rw [eT, q4, q5]
      obtain ⟨d, s, t, p, e, v⟩ := f
      simp only at ht h5 h6 h7
      subst ht h5 h6 h7
      rfl
    · unfold rawR
      rw [eT]
      exact q1
  · have hk := h3 ht
    have et : tgL f = 136 :: 168 :: tagL f.p f.e f.v := by unfold tgL; rw [ht]; rfl
    obtain ⟨t1, t2, t3, t4, _⟩ := tk_put (d := f.e) l hk
    rw [et] at q1 q2 q3
    have q2' : (encL f l).drop 14 = tagL f.p f.e f.v ++ l := q2
    have q3' : (encL f l).drop 16 = l := q3
    have eT : dcT (encL f l) = true := by
      unfold dcT
      rw [q1]
      have e1 : ¬ ((136 :: 168 :: tagL f.p f.e f.v ++ l : List Int).length < 2) := by simp
      unfold tyN
      rw [if_neg e1]
      rfl
    refine ⟨eT, ?_, ?_, shortB_iff.2 ⟨by rw [enc_len]; omega, fun _ => by rw [enc_len, tg_len, ht]; simp; omega⟩⟩
    · unfold rawF
      rw [eT, q4, q5, q2', if_pos rfl, if_pos rfl, if_pos rfl, t2, t3, t4]
      obtain ⟨d, s, t, p, e, v⟩ := f
      simp only at ht
      subst ht
      rfl
    · unfold rawR
      rw [eT]
      exact q3'
theorem enc_dec {f : Fr} {l : List Int} (h : chkF f l = 0) : dcE (encL f l) = 0 ∧ dcF (encL f l) = f ∧ dcR (encL f l) = l := by
  obtain ⟨h1, h2, h3, h4⟩ := enc_raw h
  have e : dcE (encL f l) = 0 := by unfold dcE; rw [h4, if_neg (by simp), h2, h3, h]
  exact ⟨e, by unfold dcF; rw [if_pos e, h2], by unfold dcR; rw [if_pos e, h3]⟩
theorem enc_bytes {f : Fr} {l : List Int} (hf : f.ok) (hb : ∀ x ∈ l, 0 ≤ x ∧ x ≤ 255) (h : chkF f l = 0) : ∀ x ∈ encL f l, 0 ≤ x ∧ x ≤ 255 := by
  intro x hx
  unfold encL at hx
  simp only [List.mem_append] at hx
  rcases hx with ((hx | hx) | hx) | hx
  · exact hf.1 x hx
  · exact hf.2 x hx
  · unfold tgL at hx
    split at hx
    · rename_i ht
      have hk := (chk_zero h).2.1 ht
      obtain ⟨_, _, _, _, _, hq⟩ := tk_put (d := f.e) [] hk
      simp only [List.mem_cons] at hx
      rcases hx with rfl | rfl | hx
      · omega
      · omega
      · exact hq x hx
    · simp at hx
  · exact hb x hx
end S4
end

end Go.Proofs.Ytgjagedngdhdaaa
