/-
  The definition's Learn: its walk, for every base and every entry.
-/
import Derived.Test.YtoelpbajaadfeaaRAt
namespace Go.Proofs.Ytoelpbajaadfeaa
set_option linter.unusedVariables false
set_option maxRecDepth 4000
set_option linter.unusedSimpArgs false
open Go.RowKit

attribute [local go_sem ↓] ldK stK ldM stM ldP stP ldE stE apE ldR stR
theorem four_rm (w : World) (c : Cf) (a : Option Addr) (n k : Nat) (q : Ky) (y : Ad) : ∃ W, (((w.alloc (.cells (c.rs a n k) 29)).alloc (.cells q.mc 38)).alloc (.cells y.cs 38)).alloc (.cells #[.int .i64 0, .int .i64 0, .slice none 0 0] 29) = W ∧ RdAt W w.heap.size c a n k ∧ RvAt W (w.heap.size + 1) 38 q.mc ∧ RvAt W (w.heap.size + 1 + 1) 38 y.cs ∧ RdAt W (w.heap.size + 1 + 1 + 1) ⟨0, 0⟩ none 0 0 ∧ Below w.heap.size w W ∧ W.heap.size = w.heap.size + 4 := by
  obtain ⟨A, hA⟩ : ∃ A, w.alloc (.cells (c.rs a n k) 29) = A := ⟨_, rfl⟩
  have bA : Below w.heap.size w A := by rw [← hA]; exact (Below.refl _ _).alloc (Nat.le_refl _) _
  have rA : RdAt A w.heap.size c a n k := by rw [← hA]; exact RvAt.new w _ _
  have zA : A.heap.size = w.heap.size + 1 := by rw [← hA]; simp
  obtain ⟨B, hB⟩ : ∃ B, A.alloc (.cells q.mc 38) = B := ⟨_, rfl⟩
  have bB : Below A.heap.size A B := by rw [← hB]; exact (Below.refl _ _).alloc (Nat.le_refl _) _
  have rB : RvAt B (w.heap.size + 1) 38 q.mc := by rw [← zA, ← hB]; exact RvAt.new A _ _
  have zB : B.heap.size = w.heap.size + 1 + 1 := by rw [← hB, ← zA]; simp
  obtain ⟨C, hC⟩ : ∃ C, B.alloc (.cells y.cs 38) = C := ⟨_, rfl⟩
  have bC : Below B.heap.size B C := by rw [← hC]; exact (Below.refl _ _).alloc (Nat.le_refl _) _
  have rC : RvAt C (w.heap.size + 1 + 1) 38 y.cs := by rw [← zB, ← hC]; exact RvAt.new B _ _
  have zC : C.heap.size = w.heap.size + 1 + 1 + 1 := by rw [← hC, ← zB]; simp
  rw [hA, hB, hC]
  have bD : Below C.heap.size C (C.alloc (.cells #[.int .i64 0, .int .i64 0, .slice none 0 0] 29)) := (Below.refl _ _).alloc (Nat.le_refl _) _
  refine ⟨_, rfl, ((rA.below bB).below bC).below bD, (rB.below bC).below bD, rC.below bD, ?_, below_over (below_over (below_over bA bB) bC) bD, by simp [zC]⟩
  rw [← zC]
  exact RvAt.new C 29 (Cf.rs ⟨0, 0⟩ none 0 0)
theorem RvAt.ldm {W : World} {b : Nat} {q : Ky} (h : RvAt W b 38 q.mc) : (ldS 38 (.pointer (some ⟨b, 0, none⟩))).run Try.prog W = .ok (.agg #[.int .u8 q.a, .int .u8 q.b, .int .u8 q.c, .int .u8 q.d, .int .u8 q.e, .int .u8 q.f]) W := h.ld rtM (Ky.msize q)
/-- The variables of the definition's Learn. -/
structure Lv (w X : World) (c : Cf) (a : Option Addr) (n k : Nat) (e : En) : Prop where
  bs : RdAt X w.heap.size c a n k
  cm : RvAt X (w.heap.size + 1) 38 e.k.mc
  at_ : RvAt X (w.heap.size + 1 + 1) 38 e.bm.cs
  rs : RdAt X (w.heap.size + 1 + 1 + 1) ⟨0, 0⟩ none 0 0
  bl : Below w.heap.size w X
theorem Lv.below {w X Y : World} {c : Cf} {a : Option Addr} {n k : Nat} {e : En} (h : Lv w X c a n k e) (hb : Below X.heap.size X Y) : Lv w Y c a n k e :=
  ⟨h.bs.below hb, h.cm.below hb, h.at_.below hb, h.rs.below hb, below_over h.bl hb⟩
theorem Lv.lt {w X : World} {c : Cf} {a : Option Addr} {n k : Nat} {e : En} (h : Lv w X c a n k e) : w.heap.size + 4 ≤ X.heap.size := by have := h.rs.lt; omega
/-- Another row, stored into the base's variable. -/
theorem Lv.set {w X : World} {c : Cf} {a a' : Option Addr} {n k n' k' : Nat} {e : En} (h : Lv w X c a n k e) :
    Lv w (X.setCell ⟨w.heap.size, 2, none⟩ (.slice a' n' k')) c a' n' k' e ∧ X.grownBy (X.setCell ⟨w.heap.size, 2, none⟩ (.slice a' n' k')) (some w.heap.size) := by
  obtain ⟨h1, h2⟩ := h.bs.set (a' := a') (n' := n') (k' := k')
  refine ⟨⟨h1, (h2.block _ h.cm.lt (by simp)).trans h.cm, (h2.block _ h.at_.lt (fun e => by have := Option.some.inj e; omega)).trans h.at_, (h2.block _ h.rs.lt (fun e => by have := Option.some.inj e; omega)).trans h.rs, ?_⟩, h2⟩
  exact h.bl.trans (below_of_grown h2 h.bl.size (fun j e => by cases e; exact Nat.le_refl _))
theorem mayOf_iff (e : En) : mayOf e = true ↔ (1 ≤ e.k.vid ∧ e.k.vid ≤ 16777215) ∧ kindOf e.k.a e.k.b e.k.c e.k.d e.k.e e.k.f = 1 ∧ kindOf e.bm.a e.bm.b e.bm.c e.bm.d e.bm.e e.bm.f = 1 ∧ 0 ≤ e.seen ∧ e.seen ≤ 1099511627776 := by
  simp only [mayOf, inn, Bool.and_eq_true, decide_eq_true_eq, and_assoc]
set_option maxHeartbeats 8000000 in
theorem rlearn_any (c : Cf) (a : Option Addr) (n k : Nat) (l : List En) (e : En) (w : World) (h : SlAt w a n k l) (hl : Wfs l) (hs : Srt l) (hk : e.k.wf) (hx : e.bm.wf) (hn : n ≤ 256) (hc : c.wf) :
    Calls Try.prog 28 #[.agg (c.rs a n k), .int .i64 e.k.vid, .agg e.k.mc, .agg e.bm.cs, .int .i64 e.seen] w fun r w' => PutOut a w.heap.size c (learnS c l e) r w' ∧ Below w.heap.size w w' := by
  obtain ⟨W, hW, d1, r1, r2, d2, bW, zW⟩ := four_rm w c a n k e.k e.bm
  have H : Hid (SlAt w a n k l ∧ Wfs l ∧ Srt l ∧ e.k.wf ∧ e.bm.wf ∧ n ≤ 256 ∧ c.wf ∧ l.length = n) := ⟨h, hl, hs, hk, hx, hn, hc, h.len⟩
  have G : Hid (Lv w W c a n k e) := ⟨d1, r1, r2, d2, bW⟩
  have MI : Hid (mayOf e = true ↔ (1 ≤ e.k.vid ∧ e.k.vid ≤ 16777215) ∧ kindOf e.k.a e.k.b e.k.c e.k.d e.k.e e.k.f = 1 ∧ kindOf e.bm.a e.bm.b e.bm.c e.bm.d e.bm.e e.bm.f = 1 ∧ 0 ≤ e.seen ∧ e.seen ≤ 1099511627776) := mayOf_iff e
  have hnn : (n : Int) ≤ 256 := by omega
  have lm1 := r1.ldm
  have NO : Hid (∀ X, Lv w X c a n k e → mayOf e = false → ∃ V, (ldS 29 (.pointer (some ⟨w.heap.size, 0, none⟩))).run Try.prog X = .ok (.agg (c.rs a n k)) X ∧ (stS 29 (.pointer (some ⟨w.heap.size + 1 + 1 + 1, 0, none⟩)) (.agg (c.rs a n k))).run Try.prog X = .ok () V ∧ RvAt V (w.heap.size + 1 + 1 + 1) 29 (c.rs a n k) ∧ PutOut a w.heap.size c (learnS c l e) (.returned (.tuple #[.agg (c.rs a n k), .int .i64 80])) V ∧ Below w.heap.size w V) := by
    intro X hX hm
    obtain ⟨V, sV, rV, gV, zV⟩ := hX.rs.put (c' := c) (a' := a) (n' := n) (k' := k)
    have hb : Below w.heap.size w V := hX.bl.trans (below_of_grown gV hX.bl.size (fun j e => by cases e; omega))
    refine ⟨V, hX.bs.ld, sV, rV, ⟨.agg (c.rs a n k), ?_, ?_⟩, hb⟩
    · unfold learnS
      rw [if_neg (by simp [hm])]
    · unfold learnS
      rw [if_neg (by simp [hm])]
      exact RfOr.same H.out.1 hb _
  have FIN : Hid (∀ (X : World) (a' : Option Addr) (m' k' : Nat) (l' : List En), Lv w X c a' m' k' e → mayOf e = true → (learnS c l e).1 = ins l' e → SlAt X a' m' k' l' → Wfs l' → (∀ y ∈ l', y.rk ≠ e.rk) → m' ≤ 256 →
      Calls Try.prog 46 #[.slice a' m' k', .agg e.cs] X fun r w' => ∃ a8 m8 c8, r = .returned (.slice a8 m8 c8) ∧ Lv w w' c a' m' k' e ∧ Lv w (w'.setCell ⟨w.heap.size, 2, none⟩ (.slice a8 m8 c8)) c a8 m8 c8 e ∧
        ∃ V, (stS 29 (.pointer (some ⟨w.heap.size + 1 + 1 + 1, 0, none⟩)) (.agg (c.rs a8 m8 c8))).run Try.prog (w'.setCell ⟨w.heap.size, 2, none⟩ (.slice a8 m8 c8)) = .ok () V ∧ RvAt V (w.heap.size + 1 + 1 + 1) 29 (c.rs a8 m8 c8) ∧ PutOut a w.heap.size c (learnS c l e) (.returned (.tuple #[.agg (c.rs a8 m8 c8), .int .i64 0])) V ∧ Below w.heap.size w V) := by
    intro X a' m' k' l' hX hm hE hS hW' hne hm'
    refine (with_any a' m' k' l' e X hS hW' (mayOf_wf H.out.2.2.2.1 H.out.2.2.2.2.1 hm) hne (by omega)).mono ?_
    rintro _ Y ⟨a8, m8, c8, rfl, o8, hm8, b8⟩
    have hY := hX.below b8
    obtain ⟨hZ, gZ⟩ := hY.set (a' := a8) (n' := m8) (k' := c8)
    refine ⟨a8, m8, c8, rfl, hY, hZ, ?_⟩
    obtain ⟨V, sV, rV, gV, zV⟩ := hZ.rs.put (c' := c) (a' := a8) (n' := m8) (k' := c8)
    have hb : Below w.heap.size w V := hZ.bl.trans (below_of_grown gV hZ.bl.size (fun j e => by cases e; omega))
    refine ⟨V, sV, rV, ⟨.agg (c.rs a8 m8 c8), ?_, ?_⟩, hb⟩
    · unfold learnS
      rw [if_pos hm]
    · rw [hE]
      obtain ⟨a9, c9, hv9, s9, n9⟩ := o8.form
      have hin_ : a8 = a9 ∧ c8 = c9 := by
        injection hv9 with e1 e2 e3
        exact ⟨e1, e3⟩
      obtain ⟨rfl, rfl⟩ := hin_
      have hxl := hX.lt
      refine ⟨a8, c8, by rw [hm8], (s9.keptBut gZ (fun x e h => ?_)).keptBut gV (fun x e h => ?_), fun x e => .inr ?_⟩
      · have := (n9 x e).1
        have := Option.some.inj h
        omega
      · have := (n9 x e).1
        have := Option.some.inj h
        omega
      · have := (n9 x e).1
        omega
  clear h hl hs hk hx hn hc d1 r1 r2 d2 bW zW
  go_enter Try.func28, Try.ntmps28
  by_cases h1 : e.k.vid < 1
  · skip
    have hm : mayOf e = false := by
      cases hm : mayOf e
      · rfl
      · have := MI.out.1 hm; omega
    obtain ⟨V, lV, sV, rV, pV, bV⟩ := NO.out _ G.out hm
    have HV : Hid (RvAt V (w.heap.size + 1 + 1 + 1) 29 (c.rs a n k) ∧ PutOut a w.heap.size c (learnS c l e) (.returned (.tuple #[.agg (c.rs a n k), .int .i64 80])) V ∧ Below w.heap.size w V) := ⟨rV, pV, bV⟩
    clear rV pV bV hm
    go_wp2
    refine bodyPost_ret (results_rowtmp rtR Try.results28 _ _ _ _ rfl HV.out.1 rfl) rfl ?_
    exact ⟨HV.out.2.1, HV.out.2.2⟩
  by_cases h2 : e.k.vid > 16777215
  · skip
    have hm : mayOf e = false := by
      cases hm : mayOf e
      · rfl
      · have := MI.out.1 hm; omega
    obtain ⟨V, lV, sV, rV, pV, bV⟩ := NO.out _ G.out hm
    have HV : Hid (RvAt V (w.heap.size + 1 + 1 + 1) 29 (c.rs a n k) ∧ PutOut a w.heap.size c (learnS c l e) (.returned (.tuple #[.agg (c.rs a n k), .int .i64 80])) V ∧ Below w.heap.size w V) := ⟨rV, pV, bV⟩
    clear rV pV bV hm
    go_wp2
    refine bodyPost_ret (results_rowtmp rtR Try.results28 _ _ _ _ rfl HV.out.1 rfl) rfl ?_
    exact ⟨HV.out.2.1, HV.out.2.2⟩
  go_wp2_with fail
  refine (kind_ref _ _ _ _ _ _ _ H.out.2.2.2.1.a).mono ?_
  rintro _ W2 ⟨rfl, b2⟩
  have G2 : Hid (Lv w W2 c a n k e) := G.out.below b2
  have lm2 := G2.out.at_.lda
  clear b2 lm1 hW G
  by_cases h3 : kindOf e.k.a e.k.b e.k.c e.k.d e.k.e e.k.f = 1
  case neg =>
    have hm : mayOf e = false := by
      cases hm : mayOf e
      · rfl
      · have := MI.out.1 hm; omega
    obtain ⟨V, lV, sV, rV, pV, bV⟩ := NO.out _ G2.out hm
    have HV : Hid (RvAt V (w.heap.size + 1 + 1 + 1) 29 (c.rs a n k) ∧ PutOut a w.heap.size c (learnS c l e) (.returned (.tuple #[.agg (c.rs a n k), .int .i64 80])) V ∧ Below w.heap.size w V) := ⟨rV, pV, bV⟩
    clear rV pV bV hm
    go_wp2
    refine bodyPost_ret (results_rowtmp rtR Try.results28 _ _ _ _ rfl HV.out.1 rfl) rfl ?_
    exact ⟨HV.out.2.1, HV.out.2.2⟩
  rw [h3]
  go_wp2_with fail
  refine (kind_ref _ _ _ _ _ _ _ H.out.2.2.2.2.1.a).mono ?_
  rintro _ W3 ⟨rfl, b3⟩
  have G3 : Hid (Lv w W3 c a n k e) := G2.out.below b3
  clear b3 lm2 G2
  by_cases h4 : kindOf e.bm.a e.bm.b e.bm.c e.bm.d e.bm.e e.bm.f = 1
  case neg =>
    have hm : mayOf e = false := by
      cases hm : mayOf e
      · rfl
      · have := MI.out.1 hm; omega
    obtain ⟨V, lV, sV, rV, pV, bV⟩ := NO.out _ G3.out hm
    have HV : Hid (RvAt V (w.heap.size + 1 + 1 + 1) 29 (c.rs a n k) ∧ PutOut a w.heap.size c (learnS c l e) (.returned (.tuple #[.agg (c.rs a n k), .int .i64 80])) V ∧ Below w.heap.size w V) := ⟨rV, pV, bV⟩
    clear rV pV bV hm
    go_wp2
    refine bodyPost_ret (results_rowtmp rtR Try.results28 _ _ _ _ rfl HV.out.1 rfl) rfl ?_
    exact ⟨HV.out.2.1, HV.out.2.2⟩
  rw [h4]
  by_cases h5 : e.seen < 0
  · skip
    have hm : mayOf e = false := by
      cases hm : mayOf e
      · rfl
      · have := MI.out.1 hm; omega
    obtain ⟨V, lV, sV, rV, pV, bV⟩ := NO.out _ G3.out hm
    have HV : Hid (RvAt V (w.heap.size + 1 + 1 + 1) 29 (c.rs a n k) ∧ PutOut a w.heap.size c (learnS c l e) (.returned (.tuple #[.agg (c.rs a n k), .int .i64 80])) V ∧ Below w.heap.size w V) := ⟨rV, pV, bV⟩
    clear rV pV bV hm
    go_wp2
    refine bodyPost_ret (results_rowtmp rtR Try.results28 _ _ _ _ rfl HV.out.1 rfl) rfl ?_
    exact ⟨HV.out.2.1, HV.out.2.2⟩
  by_cases h6 : e.seen > 1099511627776
  · skip
    have hm : mayOf e = false := by
      cases hm : mayOf e
      · rfl
      · have := MI.out.1 hm; omega
    obtain ⟨V, lV, sV, rV, pV, bV⟩ := NO.out _ G3.out hm
    have HV : Hid (RvAt V (w.heap.size + 1 + 1 + 1) 29 (c.rs a n k) ∧ PutOut a w.heap.size c (learnS c l e) (.returned (.tuple #[.agg (c.rs a n k), .int .i64 80])) V ∧ Below w.heap.size w V) := ⟨rV, pV, bV⟩
    clear rV pV bV hm
    go_wp2
    refine bodyPost_ret (results_rowtmp rtR Try.results28 _ _ _ _ rfl HV.out.1 rfl) rfl ?_
    exact ⟨HV.out.2.1, HV.out.2.2⟩
  have hmay : Hid (mayOf e = true) := MI.out.2 ⟨⟨by omega, by omega⟩, h3, h4, by omega, by omega⟩
  have ld3 := G3.out.bs.ld
  have lm3 := G3.out.cm.ldm
  go_wp2_with fail
  refine (at_any c a n k l e.k _ (H.out.1.below G3.out.bl) H.out.2.1 H.out.2.2.2.1 (by have := H.out.2.2.2.2.2.1; omega)).mono ?_
  rintro _ W4 ⟨⟨j, rfl, hat⟩, b4⟩
  have G4 : Hid (Lv w W4 c a n k e ∧ SlAt W4 a n k l) := ⟨G3.out.below b4, (H.out.1.below G3.out.bl).below b4⟩
  clear b4 G3 ld3 lm3
  have cx3 := G4.out.1.bs.c3
  have cx1 := G4.out.1.bs.c1
  rcases hat with ⟨rfl, hno⟩ | ⟨i, x, rfl, hx, hlk⟩
  · by_cases hlt : (n : Int) < c.room
    · have hge : ¬ ((n : Int) ≥ c.room) := by omega
      have hE : Hid ((learnS c l e).1 = ins l e) := by
        show _ = _
        unfold learnS putS
        rw [if_pos hmay.out, if_pos (.inr (by rw [H.out.2.2.2.2.2.2.2]; exact hlt))]
        exact put_none hno
      have hne : Hid (∀ y ∈ l, y.rk ≠ e.rk) := fun y hy => look_none.1 hno y hy
      clear hno
      have hroom := H.out.2.2.2.2.2.2.1.room
      have lmx := G4.out.1.cm.ldm
      have lax := G4.out.1.at_.lda
      have cx3 := G4.out.1.bs.c3
      go_wp2_with fail
      refine (FIN.out _ a n k l G4.out.1 hmay.out hE.out G4.out.2 H.out.2.1 hne.out (by have := H.out.2.2.2.2.2.1; omega)).mono ?_
      rintro _ Y ⟨a8, m8, c8, rfl, hY, hZ, V, sV, rV, pV, bV⟩
      have fz := hY.bs.fz 2
      have cy := hY.bs.c3
      have ldz := hZ.bs.ld
      have HV : Hid (RvAt V (w.heap.size + 1 + 1 + 1) 29 (c.rs a8 m8 c8) ∧ PutOut a w.heap.size c (learnS c l e) (.returned (.tuple #[.agg (c.rs a8 m8 c8), .int .i64 0])) V ∧ Below w.heap.size w V) := ⟨rV, pV, bV⟩
      obtain ⟨Z, hZe⟩ : ∃ Z, Y.setCell ⟨w.heap.size, 2, none⟩ (.slice a8 m8 c8) = Z := ⟨_, rfl⟩
      rw [hZe] at ldz sV
      clear rV pV bV hY hZ lmx lax cx3
      go_wp2
      refine bodyPost_ret (results_rowtmp rtR Try.results28 _ _ _ _ rfl HV.out.1 rfl) rfl ?_
      exact ⟨HV.out.2.1, HV.out.2.2⟩
    · have hge : (n : Int) ≥ c.room := by omega
      have hroom := H.out.2.2.2.2.2.2.1.room
      have h0n : 0 < n := by omega
      obtain ⟨b, o, rfl⟩ := G4.out.2.some' h0n
      have Hno : Hid (look l e.rk = none) := hno
      clear hno
      go_wp2_with fail
      clear cx3 cx1
      go_loopw [13, 14] (fun v13 v14 wr => ∃ (i m : Nat), i ≤ n ∧ m < n ∧ v14 = .int .i64 i ∧ v13 = .int .i64 m ∧ Below W4.heap.size W4 wr ∧ Best l i m) (fun _ v14 _ => n - (intOf v14).toNat)
      case atStart =>
        obtain ⟨x0, hx0⟩ : ∃ x, l[0]? = some x := ⟨_, List.getElem?_eq_getElem (by have := H.out.2.2.2.2.2.2.2; omega)⟩
        exact ⟨0, 0, by omega, h0n, rfl, rfl, Below.refl _ _, x0, hx0, .inr rfl, fun j y hj => by omega⟩
      case round =>
        obtain ⟨i, m, hi, hm, rfl, rfl, hB, hbest⟩ := hrel
        have c3 := (G4.out.1.below hB).bs.c3
        have hlen := H.out.2.2.2.2.2.2.2
        have hin0 : (0 : Int) ≤ (i : Int) := by omega
        have hm0 : (0 : Int) ≤ (m : Int) := by omega
        have hm1 : (m : Int) < (n : Int) := by omega
        by_cases hit : i < n
        · have hin1 : (i : Int) < (n : Int) := by omega
          obtain ⟨x, hx⟩ : ∃ x, l[i]? = some x := ⟨_, List.getElem?_eq_getElem (by omega)⟩
          obtain ⟨z0, hz, hmi, hle⟩ := hbest
          have f3 := fun z : Later wr => ((G4.out.1.below hB).below z.below).bs.c3
          have s9 : ∀ z : Later wr, z.val.cell? ⟨b, o + i * 14 + 13, none⟩ = some (.int .i64 x.seen) := fun z => ((G4.out.2.below hB).below z.below).cell hx (k := 13) (v := .int .i64 x.seen) rfl (by omega)
          have t9 : ∀ z : Later wr, z.val.cell? ⟨b, o + m * 14 + 13, none⟩ = some (.int .i64 z0.seen) := fun z => ((G4.out.2.below hB).below z.below).cell hz (k := 13) (v := .int .i64 z0.seen) rfl (by omega)
          have HB : Hid (Below W4.heap.size W4 wr) := hB
          by_cases hsn : x.seen < z0.seen
          · have hb2 : Hid (Best l (i + 1) i) := Best.better hz hle hx hsn
            clear hle hB hz hx
            go_wp2_with fail
            refine wp_region_later (by kernel_rfl) (by kernel_rfl) ?_
            repeat (go_big_quiet_step (first | exact rfl))
            refine wpQuiet_nil ?_
            intro _ hw'
            obtain ⟨z, rfl⟩ := hw'
            clear f3 s9 c3 t9
            go_wp2
            go_roundw
            case rel => exact ⟨i + 1, i, by omega, by omega, by go_num, rfl, below_over HB.out z.below, hb2.out⟩
            case measure => simp [intOf]; omega
          · have hb2 : Hid (Best l (i + 1) m) := Best.stays hz hmi hle hx hsn
            have hsn' : decide (x.seen < z0.seen) = false := by simpa using hsn
            clear hle hB hz hx
            go_wp2_with fail
            refine wp_region_later (by kernel_rfl) (by kernel_rfl) ?_
            repeat (go_big_quiet_step (first | exact rfl))
            refine wpQuiet_nil ?_
            intro _ hw'
            obtain ⟨z, rfl⟩ := hw'
            clear f3 s9 c3 t9
            go_wp2
            go_roundw
            case rel => exact ⟨i + 1, m, by omega, by omega, by go_num, rfl, below_over HB.out z.below, hb2.out⟩
            case measure => simp [intOf]; omega
        · have hin : i = n := by omega
          subst hin
          have hin1 : ¬ (i : Int) < (i : Int) := by omega
          obtain ⟨x, hx, hel⟩ := (show Best l l.length m by rw [hlen]; exact hbest).done H.out.2.2.1
          have G5 : Hid (Lv w wr c (some ⟨b, o, none⟩) i k e ∧ SlAt wr (some ⟨b, o, none⟩) i k l) := ⟨G4.out.1.below hB, G4.out.2.below hB⟩
          have hdel : Hid (l.eraseIdx m = del l x.rk) := del_erase H.out.2.2.1 hx
          have hxm := (eld_old hel).mem
          have hE : Hid ((learnS c l e).1 = ins (del l x.rk) e) := by
            show _ = _
            unfold learnS putS
            rw [if_pos hmay.out, if_neg (by rintro (h | h); rw [Hno.out] at h; cases h; rw [hlen] at h; omega), hel]
            exact put_none (look_del Hno.out)
          have hne : Hid (∀ y ∈ del l x.rk, y.rk ≠ e.rk) := fun y hy => look_none.1 Hno.out y (mem_del.1 hy).1
          clear hbest hB hx hel hxm G4
          go_wp2_with fail
          refine (without_any _ i k l m _ G5.out.2 (by omega) (by omega)).mono ?_
          rintro _ W6 ⟨a6, m6, c6, rfl, o6, hm6, b6⟩
          rw [hdel.out] at o6 hm6
          have hLv6 := G5.out.1.below b6
          obtain ⟨hL7, g7⟩ := hLv6.set (a' := a6) (n' := m6) (k' := c6)
          have fz6 := hLv6.bs.fz 2
          have cy6 := hLv6.bs.c3
          obtain ⟨a7, c7, hv7, s7, n7⟩ := o6.form
          have hin_ : a6 = a7 ∧ c6 = c7 := by
            injection hv7 with e1 e2 e3
            exact ⟨e1, e3⟩
          obtain ⟨rfl, rfl⟩ := hin_
          have hxl := G5.out.1.lt
          have s8 : SlAt (W6.setCell ⟨w.heap.size, 2, none⟩ (.slice a6 m6 c6)) a6 m6 c6 (del l x.rk) := by
            rw [hm6] at s7
            exact s7.keptBut g7 (fun x e h => by have := (n7 x e).1; have := Option.some.inj h; omega)
          obtain ⟨X7, hX7⟩ : ∃ X, W6.setCell ⟨w.heap.size, 2, none⟩ (.slice a6 m6 c6) = X := ⟨_, rfl⟩
          rw [hX7] at hL7 s8
          have hml : m6 ≤ i := by rw [← hm6, ← hlen]; exact List.length_filter_le _ _
          have G7 : Hid (Lv w X7 c a6 m6 c6 e ∧ SlAt X7 a6 m6 c6 (del l x.rk) ∧ m6 ≤ i) := ⟨hL7, s8, hml⟩
          clear hL7 s8 o6 hm6 b6 hLv6 g7 hv7 s7 n7 hxl hml c3
          have lmx := G7.out.1.cm.ldm
          have lax := G7.out.1.at_.lda
          have cx3 := G7.out.1.bs.c3
          go_wp2_with fail
          refine (FIN.out _ a6 m6 c6 (del l x.rk) G7.out.1 hmay.out hE.out G7.out.2.1 (H.out.2.1.del _) hne.out (by have := H.out.2.2.2.2.2.1; have := G7.out.2.2; omega)).mono ?_
          rintro _ Y ⟨a8, m8, c8, rfl, hY, hZ, V, sV, rV, pV, bV⟩
          have fz := hY.bs.fz 2
          have cy := hY.bs.c3
          have ldz := hZ.bs.ld
          have HV : Hid (RvAt V (w.heap.size + 1 + 1 + 1) 29 (c.rs a8 m8 c8) ∧ PutOut (some ⟨b, o, none⟩) w.heap.size c (learnS c l e) (.returned (.tuple #[.agg (c.rs a8 m8 c8), .int .i64 0])) V ∧ Below w.heap.size w V) := ⟨rV, pV, bV⟩
          obtain ⟨Z, hZe⟩ : ∃ Z, Y.setCell ⟨w.heap.size, 2, none⟩ (.slice a8 m8 c8) = Z := ⟨_, rfl⟩
          rw [hZe] at ldz sV
          clear rV pV bV hY hZ lmx lax cx3
          go_wp2
          refine bodyPost_ret (results_rowtmp rtR Try.results28 _ _ _ _ rfl HV.out.1 rfl) rfl ?_
          exact ⟨HV.out.2.1, HV.out.2.2⟩
  · have hil : i < n := by
      have := (List.getElem?_eq_some_iff.1 hx).1
      have := H.out.2.2.2.2.2.2.2
      omega
    have hi0 : (0 : Int) ≤ (i : Int) := by omega
    have hlen := H.out.2.2.2.2.2.2.2
    have hxr : x.rk = e.rk := (look_mem hlk).2
    have hdel : Hid (l.eraseIdx i = del l e.rk) := by rw [← hxr]; exact del_erase H.out.2.2.1 hx
    have hE : Hid ((learnS c l e).1 = ins (del l e.rk) e) := by
      show _ = _
      unfold learnS putS
      rw [if_pos hmay.out, if_pos (.inl (by show (look l e.rk).isSome = true; rw [show look l e.rk = some x from hlk]; rfl))]
      rfl
    have hne : Hid (∀ y ∈ del l e.rk, y.rk ≠ e.rk) := fun y hy => (mem_del.1 hy).2
    clear hx hlk hxr
    go_wp2_with fail
    refine (without_any a n k l i _ G4.out.2 (by omega) (by omega)).mono ?_
    rintro _ W6 ⟨a6, m6, c6, rfl, o6, hm6, b6⟩
    rw [hdel.out] at o6 hm6
    have hLv6 := G4.out.1.below b6
    obtain ⟨hL7, g7⟩ := hLv6.set (a' := a6) (n' := m6) (k' := c6)
    have fz6 := hLv6.bs.fz 2
    have cy6 := hLv6.bs.c3
    obtain ⟨a7, c7, hv7, s7, n7⟩ := o6.form
    have hin_ : a6 = a7 ∧ c6 = c7 := by
      injection hv7 with e1 e2 e3
      exact ⟨e1, e3⟩
    obtain ⟨rfl, rfl⟩ := hin_
    have hxl := G4.out.1.lt
    have s8 : SlAt (W6.setCell ⟨w.heap.size, 2, none⟩ (.slice a6 m6 c6)) a6 m6 c6 (del l e.rk) := by
      rw [hm6] at s7
      exact s7.keptBut g7 (fun x e h => by have := (n7 x e).1; have := Option.some.inj h; omega)
    obtain ⟨X7, hX7⟩ : ∃ X, W6.setCell ⟨w.heap.size, 2, none⟩ (.slice a6 m6 c6) = X := ⟨_, rfl⟩
    rw [hX7] at hL7 s8
    have hml : m6 ≤ n := by rw [← hm6, ← hlen]; exact List.length_filter_le _ _
    have G7 : Hid (Lv w X7 c a6 m6 c6 e ∧ SlAt X7 a6 m6 c6 (del l e.rk) ∧ m6 ≤ n) := ⟨hL7, s8, hml⟩
    clear hL7 s8 o6 hm6 b6 hLv6 g7 hv7 s7 n7 hxl hml
    have lmx := G7.out.1.cm.ldm
    have lax := G7.out.1.at_.lda
    have cx3 := G7.out.1.bs.c3
    go_wp2_with fail
    refine (FIN.out _ a6 m6 c6 (del l e.rk) G7.out.1 hmay.out hE.out G7.out.2.1 (H.out.2.1.del _) hne.out (by have := H.out.2.2.2.2.2.1; have := G7.out.2.2; omega)).mono ?_
    rintro _ Y ⟨a8, m8, c8, rfl, hY, hZ, V, sV, rV, pV, bV⟩
    have fz := hY.bs.fz 2
    have cy := hY.bs.c3
    have ldz := hZ.bs.ld
    have HV : Hid (RvAt V (w.heap.size + 1 + 1 + 1) 29 (c.rs a8 m8 c8) ∧ PutOut a w.heap.size c (learnS c l e) (.returned (.tuple #[.agg (c.rs a8 m8 c8), .int .i64 0])) V ∧ Below w.heap.size w V) := ⟨rV, pV, bV⟩
    obtain ⟨Z, hZe⟩ : ∃ Z, Y.setCell ⟨w.heap.size, 2, none⟩ (.slice a8 m8 c8) = Z := ⟨_, rfl⟩
    rw [hZe] at ldz sV
    clear rV pV bV hY hZ lmx lax cx3
    go_wp2
    refine bodyPost_ret (results_rowtmp rtR Try.results28 _ _ _ _ rfl HV.out.1 rfl) rfl ?_
    exact ⟨HV.out.2.1, HV.out.2.2⟩
end Go.Proofs.Ytoelpbajaadfeaa
