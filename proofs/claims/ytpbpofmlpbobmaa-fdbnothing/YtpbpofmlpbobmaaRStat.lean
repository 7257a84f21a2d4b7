/-
  The definition's New, Static, Unstatic, Find: their walks, for every database and every input.
-/
import Derived.Test.YtpbpofmlpbobmaaRLearn
namespace Go.Proofs.Ytpbpofmlpbobmaa
set_option linter.unusedVariables false
set_option maxRecDepth 4000
set_option linter.unusedSimpArgs false
open Go.RowKit

attribute [local go_sem ↓] ldK stK ldM stM ldP stP ldE stE apE ldR stR slE
set_option maxHeartbeats 4000000 in
theorem rstatic_any (c : Cf) (a : Option Addr) (n k : Nat) (l : List En) (q : Ky) (port : Int) (w : World) (h : SlAt w a n k l) (hl : Wfs l) (hs : Srt l) (hq : q.wf) (hn : n ≤ 1000) (hc : c.wf) :
    Calls Try.prog 14 #[.agg (c.rs a n k), .int .i64 q.vid, .agg q.mc, .int .i64 port] w fun r w' => PutOut a w.heap.size c (staticS c l q port) r w' ∧ Below w.heap.size w w' := by
  obtain ⟨W, hW, d1, re, d2, bW, zW⟩ := three_rm w c a n k q
  have H : Hid (SlAt w a n k l ∧ Wfs l ∧ Srt l ∧ q.wf ∧ n ≤ 1000 ∧ c.wf ∧ l.length = n) := ⟨h, hl, hs, hq, hn, hc, h.len⟩
  have G : Hid (RdAt W w.heap.size c a n k ∧ RvAt W (w.heap.size + 1) 34 q.mc ∧ RdAt W (w.heap.size + 1 + 1) ⟨0, 0, 0⟩ none 0 0 ∧ Below w.heap.size w W) := ⟨d1, re, d2, bW⟩
  have ld1 := d1.ld
  have lm1 := re.ldm
  clear h hl hs hq hn hc d1 re d2 bW zW
  go_enter Try.func14, Try.ntmps14
  go_wp2_with fail
  refine (may_any c a n k q port _ H.out.2.2.2.1).mono ?_
  rintro _ W2 ⟨rfl, b2⟩
  have G2 : Hid (RdAt W2 w.heap.size c a n k ∧ RvAt W2 (w.heap.size + 1) 34 q.mc ∧ RdAt W2 (w.heap.size + 1 + 1) ⟨0, 0, 0⟩ none 0 0 ∧ Below w.heap.size w W2) := ⟨G.out.1.below b2, G.out.2.1.below b2, G.out.2.2.1.below b2, below_over G.out.2.2.2 b2⟩
  clear b2 ld1 lm1 hW G
  have ld2 := G2.out.1.ld
  have lm2 := G2.out.2.1.ldm
  cases hm : mayOf c.ports q port
  · have hE : Hid (staticS c l q port = (l, 70)) := show staticS c l q port = _ by unfold staticS; rw [if_neg (by simp [hm])]
    obtain ⟨V, sV, rV, gV, zV⟩ := G2.out.2.2.1.put (c' := c) (a' := a) (n' := n) (k' := k)
    have hV : Below w.heap.size w V := G2.out.2.2.2.trans (below_of_grown gV G2.out.2.2.2.size (fun j e => by cases e; omega))
    have HV : Hid (RvAt V (w.heap.size + 1 + 1) 29 (c.rs a n k) ∧ Below w.heap.size w V ∧ RfOr a w.heap.size V (.agg (c.rs a n k)) c l) := ⟨rV, hV, RfOr.same H.out.1 hV _⟩
    clear rV gV zV hV lm2
    go_wp2
    refine bodyPost_ret (results_rowtmp rtR Try.results14 _ _ _ _ rfl HV.out.1 rfl) rfl ?_
    exact ⟨⟨_, by rw [hE.out]; rfl, by rw [hE.out]; exact HV.out.2.2⟩, HV.out.2.1⟩
  · have hE : Hid (staticS c l q port = putS c.room l ⟨q, port, true, 0⟩) := show staticS c l q port = _ by unfold staticS; rw [if_pos hm]
    have hp7 := may_ent H.out.2.2.2.2.2.1.ports hm
    have HP : Hid (∀ W', Below w.heap.size w W' → _) := fun W' hb => rput_any c a n k l ⟨q, port, true, 0⟩ W' (H.out.1.below hb) H.out.2.1 H.out.2.2.1 ⟨H.out.2.2.2.1, hp7, by simp⟩ H.out.2.2.2.2.1 H.out.2.2.2.2.2.1.room
    clear hm hp7
    go_wp2_with fail
    refine (HP.out _ G2.out.2.2.2).mono ?_
    rintro _ W4 ⟨⟨v4, rfl, h4⟩, b4⟩
    have h4' := h4
    obtain ⟨a4, k4, rfl, s4, n4⟩ := h4'
    obtain ⟨m4, hm4⟩ : ∃ m, (putS c.room l ⟨q, port, true, 0⟩).1.length = m := ⟨_, rfl⟩
    rw [hm4] at h4 ⊢
    obtain ⟨V, sV, rV, gV, zV⟩ := (G2.out.2.2.1.below b4).put (c' := c) (a' := a4) (n' := m4) (k' := k4)
    have hb4 := below_over G2.out.2.2.2 b4
    have HV : Hid (RvAt V (w.heap.size + 1 + 1) 29 (c.rs a4 m4 k4) ∧ RfOr a w.heap.size V (.agg (c.rs a4 m4 k4)) c (putS c.room l ⟨q, port, true, 0⟩).1 ∧ Below w.heap.size w V) := ⟨rV, h4.stored H.out.1 (by omega) G2.out.2.2.1.lt gV, hb4.trans (below_of_grown gV hb4.size (fun j e => by cases e; omega))⟩
    clear rV gV zV h4 s4 n4 b4 hb4
    go_wp2
    refine bodyPost_ret (results_rowtmp rtR Try.results14 _ _ _ _ rfl HV.out.1 rfl) rfl ?_
    exact ⟨⟨_, by rw [hE.out]; rfl, by rw [hE.out]; exact HV.out.2.1⟩, HV.out.2.2⟩
set_option maxHeartbeats 4000000 in
theorem runstatic_any (c : Cf) (a : Option Addr) (n k : Nat) (l : List En) (q : Ky) (w : World) (h : SlAt w a n k l) (hl : Wfs l) (hs : Srt l) (hq : q.wf) (hn : n ≤ 1000) :
    Calls Try.prog 16 #[.agg (c.rs a n k), .int .i64 q.vid, .agg q.mc] w fun r w' => PutOut a w.heap.size c (unstaticS l q) r w' ∧ Below w.heap.size w w' := by
  obtain ⟨W, hW, d1, re, d2, bW, zW⟩ := three_rm w c a n k q
  have H : Hid (SlAt w a n k l ∧ Wfs l ∧ Srt l ∧ q.wf ∧ n ≤ 1000 ∧ l.length = n) := ⟨h, hl, hs, hq, hn, h.len⟩
  have G : Hid (RdAt W w.heap.size c a n k ∧ RvAt W (w.heap.size + 1) 34 q.mc ∧ RdAt W (w.heap.size + 1 + 1) ⟨0, 0, 0⟩ none 0 0 ∧ Below w.heap.size w W) := ⟨d1, re, d2, bW⟩
  have ld1 := d1.ld
  have lm1 := re.ldm
  clear h hl hs hq hn d1 re d2 bW zW
  go_enter Try.func16, Try.ntmps16
  go_wp2_with fail
  refine (at_any c a n k l q _ (H.out.1.below G.out.2.2.2) H.out.2.1 H.out.2.2.2.1 H.out.2.2.2.2.1).mono ?_
  rintro _ W2 ⟨⟨j, rfl, hat⟩, b2⟩
  have G2 : Hid (RdAt W2 w.heap.size c a n k ∧ RdAt W2 (w.heap.size + 1 + 1) ⟨0, 0, 0⟩ none 0 0 ∧ Below w.heap.size w W2) := ⟨G.out.1.below b2, G.out.2.2.1.below b2, below_over G.out.2.2.2 b2⟩
  clear b2 ld1 lm1 hW G
  have ld2 := G2.out.1.ld
  have c3 := G2.out.1.c3
  obtain ⟨V, sV, rV, gV, zV⟩ := G2.out.2.1.put (c' := c) (a' := a) (n' := n) (k' := k)
  have hV : Below w.heap.size w V := G2.out.2.2.trans (below_of_grown gV G2.out.2.2.size (fun j e => by cases e; omega))
  have HV : Hid (RvAt V (w.heap.size + 1 + 1) 29 (c.rs a n k) ∧ Below w.heap.size w V ∧ RfOr a w.heap.size V (.agg (c.rs a n k)) c l) := ⟨rV, hV, RfOr.same H.out.1 hV _⟩
  clear rV gV zV hV
  rcases hat with ⟨rfl, hno⟩ | ⟨i, x, rfl, hx, hlk⟩
  · have hE : Hid (unstaticS l q = (l, 72)) := show unstaticS l q = _ by unfold unstaticS stOf; rw [hno]; simp
    clear hno
    go_wp2
    refine bodyPost_ret (results_rowtmp rtR Try.results16 _ _ _ _ rfl HV.out.1 rfl) rfl ?_
    exact ⟨⟨_, by rw [hE.out]; rfl, by rw [hE.out]; exact HV.out.2.2⟩, HV.out.2.1⟩
  · have hil : i < n := by
      have := (List.getElem?_eq_some_iff.1 hx).1
      have := H.out.2.2.2.2.2
      omega
    have hi0 : (0 : Int) ≤ (i : Int) := by omega
    have hi1 : (i : Int) < (n : Int) := by omega
    have hi2 : ¬ (i : Int) < 0 := by omega
    obtain ⟨b, o, ha⟩ := H.out.1.some' (by omega)
    have s8 : W2.cell? ⟨b, o + i * 10 + 8, none⟩ = some (.bool x.st) := by
      have := H.out.1.below G2.out.2.2
      rw [ha] at this
      exact this.cell hx (k := 8) (v := .bool x.st) rfl (by omega)
    have hst : stOf l q.rk = x.st := by unfold stOf; rw [hlk]
    have hxq := (look_mem hlk).2
    have hdl : Hid (l.take i ++ l.drop (i + 1) = del l q.rk) := by
      show _ = _
      rw [← hxq, del_take H.out.2.2.1 hx]
    subst ha
    clear hx hlk hxq
    cases hxs : x.st
    · rw [hxs] at hst s8
      have hE : Hid (unstaticS l q = (l, 72)) := show unstaticS l q = _ by unfold unstaticS; rw [if_neg (by simp [hst])]
      clear hst hxs
      go_wp2
      refine bodyPost_ret (results_rowtmp rtR Try.results16 _ _ _ _ rfl HV.out.1 rfl) rfl ?_
      exact ⟨⟨_, by rw [hE.out]; rfl, by rw [hE.out]; exact HV.out.2.2⟩, HV.out.2.1⟩
    · rw [hxs] at hst s8
      have hE : Hid (unstaticS l q = (del l q.rk, 0)) := show unstaticS l q = _ by unfold unstaticS; rw [if_pos hst]
      clear hst hxs HV sV
      go_wp2_with fail
      refine (without_any c (some ⟨b, o, none⟩) n k l i _ (H.out.1.below G2.out.2.2) hil H.out.2.2.2.2.1).mono ?_
      rintro _ W4 ⟨v4, rfl, ⟨a4, k4, rfl, s4, n4⟩, b4⟩
      rw [hdl.out] at s4 ⊢
      obtain ⟨m4, hm4⟩ : ∃ m, (del l q.rk).length = m := ⟨_, rfl⟩
      have h4 : RfOr (some ⟨b, o, none⟩) W2.heap.size W4 (.agg (c.rs a4 (del l q.rk).length k4)) c (del l q.rk) := ⟨a4, k4, rfl, s4, fun x e => .inr (n4 x e)⟩
      rw [hm4] at h4 ⊢
      obtain ⟨V, sV, rV, gV, zV⟩ := (G2.out.2.1.below b4).put (c' := c) (a' := a4) (n' := m4) (k' := k4)
      have hb4 := below_over G2.out.2.2 b4
      have HV : Hid (RvAt V (w.heap.size + 1 + 1) 29 (c.rs a4 m4 k4) ∧ RfOr (some ⟨b, o, none⟩) w.heap.size V (.agg (c.rs a4 m4 k4)) c (del l q.rk) ∧ Below w.heap.size w V) := ⟨rV, h4.stored H.out.1 (by omega) G2.out.2.1.lt gV, hb4.trans (below_of_grown gV hb4.size (fun j e => by cases e; omega))⟩
      clear rV gV zV h4 s4 n4 b4 hb4
      go_wp2
      refine bodyPost_ret (results_rowtmp rtR Try.results16 _ _ _ _ rfl HV.out.1 rfl) rfl ?_
      exact ⟨⟨_, by rw [hE.out]; rfl, by rw [hE.out]; exact HV.out.2.1⟩, HV.out.2.2⟩
set_option maxHeartbeats 4000000 in
theorem rfind_any (c : Cf) (a : Option Addr) (n k : Nat) (l : List En) (q : Ky) (w : World) (h : SlAt w a n k l) (hl : Wfs l) (hq : q.wf) (hn : n ≤ 1000) :
    Calls Try.prog 18 #[.agg (c.rs a n k), .int .i64 q.vid, .agg q.mc] w fun r w' => r = .returned (.tuple #[.int .i64 (plP l q.rk), .bool (look l q.rk).isSome]) ∧ Below w.heap.size w w' := by
  obtain ⟨W, hW, d1, re, bW⟩ := two_rm w c a n k q
  have H : Hid (SlAt w a n k l ∧ Wfs l ∧ q.wf ∧ n ≤ 1000 ∧ l.length = n) := ⟨h, hl, hq, hn, h.len⟩
  have G : Hid (RdAt W w.heap.size c a n k ∧ Below w.heap.size w W) := ⟨d1, bW⟩
  have ld1 := d1.ld
  have lm1 := re.ldm
  clear h hl hq hn d1 re bW
  go_enter Try.func18, Try.ntmps18
  go_wp2_with fail
  refine (at_any c a n k l q _ (H.out.1.below G.out.2) H.out.2.1 H.out.2.2.1 H.out.2.2.2.1).mono ?_
  rintro _ W2 ⟨⟨j, rfl, hat⟩, b2⟩
  have G2 : Hid (Below w.heap.size w W2) := below_over G.out.2 b2
  have c3 := (G.out.1.below b2).c3
  clear b2 ld1 lm1 hW G
  rcases hat with ⟨rfl, hno⟩ | ⟨i, x, rfl, hx, hlk⟩
  · have e1 : plP l q.rk = 0 := by unfold plP; rw [hno]
    have e2 : (look l q.rk).isSome = false := by rw [hno]; rfl
    have E : Hid (plP l q.rk = 0 ∧ (look l q.rk).isSome = false) := ⟨e1, e2⟩
    clear hno e1 e2
    go_wp2
    go_ret2
    exact ⟨by rw [E.out.1, E.out.2]; rfl, G2.out⟩
  · have hil : i < n := by
      have := (List.getElem?_eq_some_iff.1 hx).1
      have := H.out.2.2.2.2
      omega
    have hi0 : (0 : Int) ≤ (i : Int) := by omega
    have hi1 : (i : Int) < (n : Int) := by omega
    have hi2 : ¬ (i : Int) < 0 := by omega
    obtain ⟨b, o, ha⟩ := H.out.1.some' (by omega)
    have s7 : W2.cell? ⟨b, o + i * 10 + 7, none⟩ = some (.int .i64 x.port) := by
      have := H.out.1.below G2.out
      rw [ha] at this
      exact this.cell hx (k := 7) (v := .int .i64 x.port) rfl (by omega)
    have e1 : plP l q.rk = x.port := by unfold plP; rw [hlk]
    have e2 : (look l q.rk).isSome = true := by rw [hlk]; rfl
    have E : Hid (plP l q.rk = x.port ∧ (look l q.rk).isSome = true) := ⟨e1, e2⟩
    subst ha
    clear hx hlk e1 e2
    go_wp2
    go_ret2
    exact ⟨by rw [E.out.1, E.out.2]; rfl, G2.out⟩
set_option maxHeartbeats 4000000 in
theorem rnew_any (c : Cf) (w : World) :
    Calls Try.prog 9 #[.int .i64 c.ports, .int .i64 c.room, .int .i64 c.age] w fun r w' => ((okC c = false ∧ r = .returned (.tuple #[.agg (Cf.rs ⟨0, 0, 0⟩ none 0 0), .int .i64 70])) ∨ (okC c = true ∧ r = .returned (.tuple #[.agg (c.rs none 0 0), .int .i64 0]))) ∧ Below w.heap.size w w' := by
  obtain ⟨W, hW⟩ : ∃ W, w.alloc (.cells #[.int .i64 0, .int .i64 0, .int .i64 0, .slice none 0 0] 29) = W := ⟨_, rfl⟩
  have d1 : RdAt W w.heap.size ⟨0, 0, 0⟩ none 0 0 := by rw [← hW]; exact RvAt.new w 29 (Cf.rs ⟨0, 0, 0⟩ none 0 0)
  have bW : Below w.heap.size w W := by rw [← hW]; exact (Below.refl _ _).alloc (Nat.le_refl _) _
  obtain ⟨V, sV, rV, gV, zV⟩ := d1.put (c' := ⟨0, 0, 0⟩) (a' := none) (n' := 0) (k' := 0)
  obtain ⟨U, sU, rU, gU, zU⟩ := d1.put (c' := c) (a' := none) (n' := 0) (k' := 0)
  have HV : Hid (RvAt V w.heap.size 29 (Cf.rs ⟨0, 0, 0⟩ none 0 0) ∧ Below w.heap.size w V) := ⟨rV, bW.trans (below_of_grown gV bW.size (fun j e => by cases e; exact Nat.le_refl _))⟩
  have HU : Hid (RvAt U w.heap.size 29 (c.rs none 0 0) ∧ Below w.heap.size w U) := ⟨rU, bW.trans (below_of_grown gU bW.size (fun j e => by cases e; exact Nat.le_refl _))⟩
  clear d1 bW rV gV zV rU gU zU
  change (stS 29 (.pointer (some ⟨w.heap.size, 0, none⟩)) (.agg #[.int .i64 0, .int .i64 0, .int .i64 0, .slice none 0 0])).run Try.prog W = _ at sV
  change (stS 29 (.pointer (some ⟨w.heap.size, 0, none⟩)) (.agg #[.int .i64 c.ports, .int .i64 c.room, .int .i64 c.age, .slice none 0 0])).run Try.prog W = _ at sU
  have bad : ∀ (h : ¬ (1 ≤ c.ports ∧ c.ports ≤ 8 ∧ 1 ≤ c.room ∧ c.room ≤ 256 ∧ 1 ≤ c.age ∧ c.age ≤ 1048576)), okC c = false := fun h => by
    cases ho : okC c
    · rfl
    · exact absurd (by simp only [okC, inn, Bool.and_eq_true, decide_eq_true_eq] at ho; omega) h
  have good : ∀ (h : 1 ≤ c.ports ∧ c.ports ≤ 8 ∧ 1 ≤ c.room ∧ c.room ≤ 256 ∧ 1 ≤ c.age ∧ c.age ≤ 1048576), okC c = true := fun h => by simp [okC, inn, h]
  have HB : Hid (_ ∧ _) := ⟨bad, good⟩
  clear bad good
  by_cases h1 : c.ports < 1
  · have E := HB.out.1 (by omega)
    go_enter Try.func9, Try.ntmps9
    go_wp2
    refine bodyPost_ret (results_rowtmp rtR Try.results9 _ _ _ _ rfl HV.out.1 rfl) rfl ?_
    exact ⟨.inl ⟨HB.out.1 (by omega), rfl⟩, HV.out.2⟩
  by_cases h2 : c.ports > 8
  · go_enter Try.func9, Try.ntmps9
    go_wp2
    refine bodyPost_ret (results_rowtmp rtR Try.results9 _ _ _ _ rfl HV.out.1 rfl) rfl ?_
    exact ⟨.inl ⟨HB.out.1 (by omega), rfl⟩, HV.out.2⟩
  by_cases h3 : c.room < 1
  · go_enter Try.func9, Try.ntmps9
    go_wp2
    refine bodyPost_ret (results_rowtmp rtR Try.results9 _ _ _ _ rfl HV.out.1 rfl) rfl ?_
    exact ⟨.inl ⟨HB.out.1 (by omega), rfl⟩, HV.out.2⟩
  by_cases h4 : c.room > 256
  · go_enter Try.func9, Try.ntmps9
    go_wp2
    refine bodyPost_ret (results_rowtmp rtR Try.results9 _ _ _ _ rfl HV.out.1 rfl) rfl ?_
    exact ⟨.inl ⟨HB.out.1 (by omega), rfl⟩, HV.out.2⟩
  by_cases h5 : c.age < 1
  · go_enter Try.func9, Try.ntmps9
    go_wp2
    refine bodyPost_ret (results_rowtmp rtR Try.results9 _ _ _ _ rfl HV.out.1 rfl) rfl ?_
    exact ⟨.inl ⟨HB.out.1 (by omega), rfl⟩, HV.out.2⟩
  by_cases h6 : c.age > 1048576
  · go_enter Try.func9, Try.ntmps9
    go_wp2
    refine bodyPost_ret (results_rowtmp rtR Try.results9 _ _ _ _ rfl HV.out.1 rfl) rfl ?_
    exact ⟨.inl ⟨HB.out.1 (by omega), rfl⟩, HV.out.2⟩
  · go_enter Try.func9, Try.ntmps9
    go_wp2
    refine bodyPost_ret (results_rowtmp rtR Try.results9 _ _ _ _ rfl HU.out.1 rfl) rfl ?_
    exact ⟨.inr ⟨HB.out.2 (by omega), rfl⟩, HU.out.2⟩
end Go.Proofs.Ytpbpofmlpbobmaa
