/-
  The definition's New, Learn, Static, Unstatic, Find: their walks, for every database and every input.
-/
import Derived.Test.YtpbpofmlpbobmaaRPut
namespace Go.Proofs.Ytpbpofmlpbobmaa
set_option linter.unusedVariables false
set_option maxRecDepth 4000
set_option linter.unusedSimpArgs false
open Go.RowKit

attribute [local go_sem ↓] ldK stK ldM stM ldP stP ldE stE apE ldR stR slE
theorem three_rm (w : World) (c : Cf) (a : Option Addr) (n k : Nat) (q : Ky) : ∃ W, ((w.alloc (.cells (c.rs a n k) 29)).alloc (.cells q.mc 34)).alloc (.cells #[.int .i64 0, .int .i64 0, .int .i64 0, .slice none 0 0] 29) = W ∧ RdAt W w.heap.size c a n k ∧ RvAt W (w.heap.size + 1) 34 q.mc ∧ RdAt W (w.heap.size + 1 + 1) ⟨0, 0, 0⟩ none 0 0 ∧ Below w.heap.size w W ∧ W.heap.size = w.heap.size + 3 := by
  obtain ⟨A, hA⟩ : ∃ A, w.alloc (.cells (c.rs a n k) 29) = A := ⟨_, rfl⟩
  obtain ⟨B, hB⟩ : ∃ B, A.alloc (.cells q.mc 34) = B := ⟨_, rfl⟩
  have bA : Below w.heap.size w A := by rw [← hA]; exact (Below.refl _ _).alloc (Nat.le_refl _) _
  have bB : Below A.heap.size A B := by rw [← hB]; exact (Below.refl _ _).alloc (Nat.le_refl _) _
  have zA : A.heap.size = w.heap.size + 1 := by rw [← hA]; simp
  have zB : B.heap.size = w.heap.size + 2 := by rw [← hB]; simp [zA]
  have rA : RdAt A w.heap.size c a n k := by rw [← hA]; exact RvAt.new w _ _
  have rB : RvAt B (w.heap.size + 1) 34 q.mc := by rw [← zA, ← hB]; exact RvAt.new A _ _
  rw [hA, hB]
  have bC : Below B.heap.size B (B.alloc (.cells #[.int .i64 0, .int .i64 0, .int .i64 0, .slice none 0 0] 29)) := (Below.refl _ _).alloc (Nat.le_refl _) _
  refine ⟨_, rfl, (rA.below bB).below bC, rB.below bC, ?_, below_over (below_over bA bB) bC, by simp [zB]⟩
  rw [show w.heap.size + 1 + 1 = B.heap.size by omega]
  exact RvAt.new B 29 (Cf.rs ⟨0, 0, 0⟩ none 0 0)
theorem RvAt.ldm {W : World} {b : Nat} {q : Ky} (h : RvAt W b 34 q.mc) : (ldS 34 (.pointer (some ⟨b, 0, none⟩))).run Try.prog W = .ok (.agg #[.int .u8 q.a, .int .u8 q.b, .int .u8 q.c, .int .u8 q.d, .int .u8 q.e, .int .u8 q.f]) W := h.ld rtM (Ky.msize q)
theorem RfOr.same {w V : World} {a : Option Addr} {n k : Nat} {c : Cf} {l : List En} (h : SlAt w a n k l) (hb : Below w.heap.size w V) (B : Nat) : RfOr a B V (.agg (c.rs a n k)) c l :=
  ⟨a, k, by rw [h.len], by rw [h.len]; exact h.below hb, fun x e => .inl e⟩
/-- What a callee has answered, stored into a variable of ours. -/
theorem RfOr.stored {w W V : World} {a : Option Addr} {n k : Nat} {c : Cf} {l l' : List En} {v : Value} {b B : Nat} (h : RfOr a B W v c l') (ha : SlAt w a n k l) (h1 : w.heap.size ≤ b) (h2 : b < B) (g : W.grownBy V (some b)) : RfOr a w.heap.size V v c l' := by
  obtain ⟨a', k', e, hs, hn⟩ := h
  refine ⟨a', k', e, hs.keptBut g (fun x hx h3 => ?_), fun x hx => ?_⟩
  · have h4 := Option.some.inj h3
    rcases hn x hx with h | h
    · have := ha.blk x h; omega
    · omega
  · rcases hn x hx with h | h
    · exact .inl h
    · exact .inr (by omega)
set_option maxHeartbeats 4000000 in
theorem rlearn_any (c : Cf) (a : Option Addr) (n k : Nat) (l : List En) (q : Ky) (port tick : Int) (w : World) (h : SlAt w a n k l) (hl : Wfs l) (hs : Srt l) (hq : q.wf) (hn : n ≤ 1000) (hc : c.wf) :
    Calls Try.prog 12 #[.agg (c.rs a n k), .int .i64 q.vid, .agg q.mc, .int .i64 port, .int .i64 tick] w fun r w' => PutOut a w.heap.size c (learnS c l q port tick) r w' ∧ Below w.heap.size w w' := by
  obtain ⟨W, hW, d1, re, d2, bW, zW⟩ := three_rm w c a n k q
  have H : Hid (SlAt w a n k l ∧ Wfs l ∧ Srt l ∧ q.wf ∧ n ≤ 1000 ∧ c.wf ∧ l.length = n) := ⟨h, hl, hs, hq, hn, hc, h.len⟩
  have G : Hid (RdAt W w.heap.size c a n k ∧ RvAt W (w.heap.size + 1) 34 q.mc ∧ RdAt W (w.heap.size + 1 + 1) ⟨0, 0, 0⟩ none 0 0 ∧ Below w.heap.size w W) := ⟨d1, re, d2, bW⟩
  have ld1 := d1.ld
  have lm1 := re.ldm
  clear h hl hs hq hn hc d1 re d2 bW zW
  go_enter Try.func12, Try.ntmps12
  go_wp2_with fail
  refine (may_any c a n k q port _ H.out.2.2.2.1).mono ?_
  rintro _ W2 ⟨rfl, b2⟩
  have G2 : Hid (RdAt W2 w.heap.size c a n k ∧ RvAt W2 (w.heap.size + 1) 34 q.mc ∧ RdAt W2 (w.heap.size + 1 + 1) ⟨0, 0, 0⟩ none 0 0 ∧ Below w.heap.size w W2) := ⟨G.out.1.below b2, G.out.2.1.below b2, G.out.2.2.1.below b2, below_over G.out.2.2.2 b2⟩
  clear b2 ld1 lm1 hW G
  have ld2 := G2.out.1.ld
  have lm2 := G2.out.2.1.ldm
  obtain ⟨V, sV, rV, gV, zV⟩ := G2.out.2.2.1.put (c' := c) (a' := a) (n' := n) (k' := k)
  have HV : Hid (RvAt V (w.heap.size + 1 + 1) 29 (c.rs a n k) ∧ Below w.heap.size w V) := ⟨rV, G2.out.2.2.2.trans (below_of_grown gV G2.out.2.2.2.size (fun j e => by cases e; omega))⟩
  clear rV gV zV
  have hsame : Hid (∀ V', Below w.heap.size w V' → RfOr a w.heap.size V' (.agg (c.rs a n k)) c l) := fun V' hb => RfOr.same H.out.1 hb _
  by_cases hbad : (!mayOf c.ports q port || !inn tick 0 1099511627776) = true
  · have hE : Hid (learnS c l q port tick = (l, 70)) := show learnS c l q port tick = _ by unfold learnS; rw [if_pos hbad]
    clear lm2
    have hfin : PutOut a w.heap.size c (learnS c l q port tick) (.returned (.tuple #[.agg (c.rs a n k), .int .i64 70])) V ∧ Below w.heap.size w V := ⟨⟨_, by rw [hE.out], by rw [hE.out]; exact hsame.out V HV.out.2⟩, HV.out.2⟩
    have HF : Hid (PutOut a w.heap.size c (learnS c l q port tick) (.returned (.tuple #[.agg (c.rs a n k), .int .i64 70])) V ∧ Below w.heap.size w V) := hfin
    clear hfin hE
    cases hm : mayOf c.ports q port
    · go_wp2
      refine bodyPost_ret (results_rowtmp rtR Try.results12 _ _ _ _ rfl HV.out.1 rfl) rfl ?_
      exact HF.out
    · have ht : tick < 0 ∨ 1099511627776 < tick := by simpa [hm, inn] using hbad
      by_cases h0 : tick < 0
      · go_wp2
        refine bodyPost_ret (results_rowtmp rtR Try.results12 _ _ _ _ rfl HV.out.1 rfl) rfl ?_
        exact HF.out
      · have h1 : tick > 1099511627776 := by omega
        go_wp2
        refine bodyPost_ret (results_rowtmp rtR Try.results12 _ _ _ _ rfl HV.out.1 rfl) rfl ?_
        exact HF.out
  · have hm : mayOf c.ports q port = true := by
      cases h : mayOf c.ports q port
      · rw [h] at hbad; simp at hbad
      · rfl
    have ht : 0 ≤ tick ∧ tick ≤ 1099511627776 := by simpa [hm, inn] using hbad
    have ht0 : ¬ tick < 0 := by omega
    have ht1 : ¬ tick > 1099511627776 := by omega
    have hp7 := may_ent H.out.2.2.2.2.2.1.ports hm
    have hbad' : Hid (¬ (!mayOf c.ports q port || !inn tick 0 1099511627776) = true) := hbad
    rw [hm]
    clear sV HV hbad
    go_wp2_with fail
    refine (at_any c a n k l q _ (H.out.1.below G2.out.2.2.2) H.out.2.1 H.out.2.2.2.1 H.out.2.2.2.2.1).mono ?_
    rintro _ W3 ⟨⟨j, rfl, hat⟩, b3⟩
    have G3 : Hid (RdAt W3 w.heap.size c a n k ∧ RvAt W3 (w.heap.size + 1) 34 q.mc ∧ RdAt W3 (w.heap.size + 1 + 1) ⟨0, 0, 0⟩ none 0 0 ∧ Below w.heap.size w W3) := ⟨G2.out.1.below b3, G2.out.2.1.below b3, G2.out.2.2.1.below b3, below_over G2.out.2.2.2 b3⟩
    clear b3 ld2 lm2 G2
    have ld3 := G3.out.1.ld
    have lm3 := G3.out.2.1.ldm
    have c3 := G3.out.1.c3
    have hput : Hid (stOf l q.rk = false → learnS c l q port tick = putS c.room l ⟨q, port, false, tick⟩) := fun hst => by unfold learnS; rw [if_neg hbad'.out, if_neg (by simp [hst])]
    have P := fun W' hb => rput_any c a n k l ⟨q, port, false, tick⟩ W' (H.out.1.below hb) H.out.2.1 H.out.2.2.1 ⟨H.out.2.2.2.1, hp7, ht⟩ H.out.2.2.2.2.1 H.out.2.2.2.2.2.1.room
    have HP : Hid (∀ W', Below w.heap.size w W' → _) := P
    clear P
    rcases hat with ⟨rfl, hno⟩ | ⟨i, x, rfl, hx, hlk⟩
    · have hst : stOf l q.rk = false := by unfold stOf; rw [hno]
      have hE : Hid (learnS c l q port tick = putS c.room l ⟨q, port, false, tick⟩) := hput.out hst
      clear hno hst hput
      go_wp2_with fail
      refine (HP.out _ G3.out.2.2.2).mono ?_
      rintro _ W4 ⟨⟨v4, rfl, h4⟩, b4⟩
      have h4' := h4
      obtain ⟨a4, k4, rfl, s4, n4⟩ := h4'
      obtain ⟨m4, hm4⟩ : ∃ m, (putS c.room l ⟨q, port, false, tick⟩).1.length = m := ⟨_, rfl⟩
      rw [hm4] at h4 ⊢
      obtain ⟨V, sV, rV, gV, zV⟩ := (G3.out.2.2.1.below b4).put (c' := c) (a' := a4) (n' := m4) (k' := k4)
      have hb4 := below_over G3.out.2.2.2 b4
      have HV : Hid (RvAt V (w.heap.size + 1 + 1) 29 (c.rs a4 m4 k4) ∧ RfOr a w.heap.size V (.agg (c.rs a4 m4 k4)) c (putS c.room l ⟨q, port, false, tick⟩).1 ∧ Below w.heap.size w V) := ⟨rV, h4.stored H.out.1 (by omega) G3.out.2.2.1.lt gV, hb4.trans (below_of_grown gV hb4.size (fun j e => by cases e; omega))⟩
      clear rV gV zV h4 s4 n4 b4 hb4
      go_wp2
      refine bodyPost_ret (results_rowtmp rtR Try.results12 _ _ _ _ rfl HV.out.1 rfl) rfl ?_
      exact ⟨⟨_, by rw [hE.out]; rfl, by rw [hE.out]; exact HV.out.2.1⟩, HV.out.2.2⟩
    · have hil : i < n := by
        have := (List.getElem?_eq_some_iff.1 hx).1
        have := H.out.2.2.2.2.2.2
        omega
      have hi0 : (0 : Int) ≤ (i : Int) := by omega
      have hi1 : (i : Int) < (n : Int) := by omega
      obtain ⟨b, o, ha⟩ := H.out.1.some' (by omega)
      have s8 : W3.cell? ⟨b, o + i * 10 + 8, none⟩ = some (.bool x.st) := by
        have := H.out.1.below G3.out.2.2.2
        rw [ha] at this
        exact this.cell hx (k := 8) (v := .bool x.st) rfl (by omega)
      have hst : stOf l q.rk = x.st := by unfold stOf; rw [hlk]
      subst ha
      clear hx hlk
      cases hxs : x.st
      · rw [hxs] at hst s8
        have hE : Hid (learnS c l q port tick = putS c.room l ⟨q, port, false, tick⟩) := hput.out hst
        clear hst hput hxs
        go_wp2_with fail
        refine (HP.out _ G3.out.2.2.2).mono ?_
        rintro _ W4 ⟨⟨v4, rfl, h4⟩, b4⟩
        have h4' := h4
        obtain ⟨a4, k4, rfl, s4, n4⟩ := h4'
        obtain ⟨m4, hm4⟩ : ∃ m, (putS c.room l ⟨q, port, false, tick⟩).1.length = m := ⟨_, rfl⟩
        rw [hm4] at h4 ⊢
        obtain ⟨V, sV, rV, gV, zV⟩ := (G3.out.2.2.1.below b4).put (c' := c) (a' := a4) (n' := m4) (k' := k4)
        have hb4 := below_over G3.out.2.2.2 b4
        have HV : Hid (RvAt V (w.heap.size + 1 + 1) 29 (c.rs a4 m4 k4) ∧ RfOr (some ⟨b, o, none⟩) w.heap.size V (.agg (c.rs a4 m4 k4)) c (putS c.room l ⟨q, port, false, tick⟩).1 ∧ Below w.heap.size w V) := ⟨rV, h4.stored H.out.1 (by omega) G3.out.2.2.1.lt gV, hb4.trans (below_of_grown gV hb4.size (fun j e => by cases e; omega))⟩
        clear rV gV zV h4 s4 n4 b4 hb4
        go_wp2
        refine bodyPost_ret (results_rowtmp rtR Try.results12 _ _ _ _ rfl HV.out.1 rfl) rfl ?_
        exact ⟨⟨_, by rw [hE.out]; rfl, by rw [hE.out]; exact HV.out.2.1⟩, HV.out.2.2⟩
      · rw [hxs] at hst s8
        have hE : Hid (learnS c l q port tick = (l, 0)) := show learnS c l q port tick = _ by unfold learnS; rw [if_neg hbad'.out, if_pos hst]
        obtain ⟨V, sV, rV, gV, zV⟩ := G3.out.2.2.1.put (c' := c) (a' := some ⟨b, o, none⟩) (n' := n) (k' := k)
        have hV : Below w.heap.size w V := G3.out.2.2.2.trans (below_of_grown gV G3.out.2.2.2.size (fun j e => by cases e; omega))
        have HV : Hid (RvAt V (w.heap.size + 1 + 1) 29 (c.rs (some ⟨b, o, none⟩) n k) ∧ Below w.heap.size w V ∧ RfOr (some ⟨b, o, none⟩) w.heap.size V (.agg (c.rs (some ⟨b, o, none⟩) n k)) c l) := ⟨rV, hV, RfOr.same H.out.1 hV _⟩
        clear rV gV zV hV hst hput hxs HP
        go_wp2
        refine bodyPost_ret (results_rowtmp rtR Try.results12 _ _ _ _ rfl HV.out.1 rfl) rfl ?_
        exact ⟨⟨_, by rw [hE.out]; rfl, by rw [hE.out]; exact HV.out.2.2⟩, HV.out.2.1⟩
end Go.Proofs.Ytpbpofmlpbobmaa
