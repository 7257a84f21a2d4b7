/-
  The definition's put: its walk, for every database and every entry.
-/
import Derived.Test.YtpbpofmlpbobmaaRRoom
namespace Go.Proofs.Ytpbpofmlpbobmaa
set_option linter.unusedVariables false
set_option maxRecDepth 4000
set_option linter.unusedSimpArgs false
open Go.RowKit

attribute [local go_sem ↓] ldK stK ldM stM ldP stP ldE stE apE ldR stR slE
theorem RfOwn.below {B : Nat} {W W' : World} {v : Value} {c : Cf} {l : List En} (h : RfOwn B W v c l) (hb : Below W.heap.size W W') : RfOwn B W' v c l := by
  obtain ⟨a, k, e, hs, hn⟩ := h
  exact ⟨a, k, e, hs.below hb, hn⟩
/-- The value is the definition's database with the entries l; its row is the old one, or lies from block B on. -/
def RfOr (a : Option Addr) (B : Nat) (W : World) (v : Value) (c : Cf) (l : List En) : Prop := ∃ a' k, v = .agg (c.rs a' l.length k) ∧ SlAt W a' l.length k l ∧ ∀ x, a' = some x → a = some x ∨ B ≤ x.block
/-- What put answers. -/
def PutOut (a : Option Addr) (B : Nat) (c : Cf) (o : List En × Int) (r : Ending) (W : World) : Prop := ∃ v, r = .returned (.tuple #[v, .int .i64 o.2]) ∧ RfOr a B W v c o.1
set_option maxHeartbeats 4000000 in
theorem rput_any (c : Cf) (a : Option Addr) (n k : Nat) (l : List En) (e : En) (w : World) (h : SlAt w a n k l) (hl : Wfs l) (hs : Srt l) (he : e.wf) (hn : n ≤ 1000) (hr : 1 ≤ c.room ∧ c.room ≤ 256) :
    Calls Try.prog 37 #[.agg (c.rs a n k), .agg e.cs] w fun r w' => PutOut a w.heap.size c (putS c.room l e) r w' ∧ Below w.heap.size w w' := by
  obtain ⟨W, hW, d1, re, d2, bW, zW⟩ := three_rf w c a n k e
  have H : Hid (SlAt w a n k l ∧ RdAt W w.heap.size c a n k ∧ RvAt W (w.heap.size + 1) 55 e.cs ∧ RdAt W (w.heap.size + 1 + 1) ⟨0, 0, 0⟩ none 0 0 ∧ Below w.heap.size w W ∧ W.heap.size = w.heap.size + 3) := ⟨h, d1, re, d2, bW, zW⟩
  have HL : Hid (Wfs l ∧ Srt l ∧ e.wf ∧ n ≤ 1000 ∧ (1 ≤ c.room ∧ c.room ≤ 256) ∧ l.length = n) := ⟨hl, hs, he, hn, hr, h.len⟩
  have H0 : Hid (SlAt w a n k l) := h
  have ld1 := d1.ld
  have e0 := re.cell 0 (.int .i64 e.k.vid) rfl
  have em := re.emac
  clear h hl hs he hn hr d1 re d2 bW zW
  go_enter Try.func37, Try.ntmps37
  go_wp2_with fail
  refine (at_any c a n k l e.k _ (H.out.1.below H.out.2.2.2.2.1) HL.out.1 HL.out.2.2.1.k HL.out.2.2.2.1).mono ?_
  rintro _ W2 ⟨⟨j, rfl, hat⟩, b2⟩
  have G : Hid (SlAt W2 a n k l ∧ RdAt W2 w.heap.size c a n k ∧ RvAt W2 (w.heap.size + 1) 55 e.cs ∧ RdAt W2 (w.heap.size + 1 + 1) ⟨0, 0, 0⟩ none 0 0 ∧ Below w.heap.size w W2 ∧ w.heap.size + 3 ≤ W2.heap.size) :=
    ⟨(H.out.1.below H.out.2.2.2.2.1).below b2, H.out.2.1.below b2, H.out.2.2.1.below b2, H.out.2.2.2.1.below b2, below_over H.out.2.2.2.2.1 b2, by have := H.out.2.2.2.2.2; have := b2.size; omega⟩
  clear b2 ld1 e0 em hW H
  rcases hat with ⟨rfl, hno⟩ | ⟨i, x, rfl, hx, hlk⟩
  · have ld2 := G.out.2.1.ld
    have hno' : Hid (look l e.rk = none) := hno
    clear hno
    go_wp2_with fail
    refine (room_any c a n k l _ G.out.1 HL.out.1 HL.out.2.1 HL.out.2.2.2.1 HL.out.2.2.2.2.1).mono ?_
    rintro _ W3 ⟨⟨v, f, rfl, hro⟩, b3⟩
    have hv3 : ∃ l3, RfIs W3 v c l3 ∧ ((f = false ∧ putS c.room l e = (l, 71)) ∨ (f = true ∧ putS c.room l e = (ins l3 e, 0) ∧ Wfs l3 ∧ l3.length ≤ 1000)) := by
      have hll := HL.out.2.2.2.2.2
      rcases hro with ⟨hf, hlt, hR⟩ | ⟨hge, ⟨hf, hel, hR⟩ | ⟨x, hf, hel, hR⟩⟩
      · refine ⟨l, hR, .inr ⟨hf, ?_, HL.out.1, by have := HL.out.2.2.2.1; omega⟩⟩
        unfold putS
        rw [if_pos (.inr (by omega)), put_none hno'.out]
      · refine ⟨l, hR, .inl ⟨hf, ?_⟩⟩
        unfold putS
        rw [if_neg (by rintro (h | h); rw [hno'.out] at h; cases h; omega), hel]
      · refine ⟨del l x.rk, hR, .inr ⟨hf, ?_, HL.out.1.del _, ?_⟩⟩
        · unfold putS
          rw [if_neg (by rintro (h | h); rw [hno'.out] at h; cases h; omega), hel]
          simp only
          rw [put_none (look_del hno'.out)]
        · have : (del l x.rk).length ≤ l.length := List.length_filter_le _ _
          have := HL.out.2.2.2.1
          omega
    obtain ⟨l3, ⟨a3, k3, rfl, s3⟩, hcase⟩ := hv3
    obtain ⟨m3, hm3⟩ : ∃ m, l3.length = m := ⟨_, rfl⟩
    rw [hm3] at s3 ⊢
    obtain ⟨W4, st4, r4, b4, z4⟩ := row_new rtR W3 #[.int .i64 0, .int .i64 0, .int .i64 0, .slice none 0 0] (c.rs a3 m3 k3) rfl rfl (c.rone _ _ _)
    have b34 := below_over b3 b4
    have G4 : Hid (SlAt W4 a3 m3 k3 l3 ∧ RdAt W4 W3.heap.size c a3 m3 k3 ∧ RvAt W4 (w.heap.size + 1) 55 e.cs ∧ RdAt W4 (w.heap.size + 1 + 1) ⟨0, 0, 0⟩ none 0 0 ∧ Below w.heap.size w W4 ∧ RdAt W4 w.heap.size c a n k ∧ SlAt W4 a n k l) :=
      ⟨s3.below b4, r4, G.out.2.2.1.below b34, G.out.2.2.2.1.below b34, below_over G.out.2.2.2.2.1 b34, G.out.2.1.below b34, G.out.1.below b34⟩
    clear ld2 s3 r4 b3 b4 z4 b34 hro
    rcases hcase with ⟨rfl, hE⟩ | ⟨rfl, hE, hw3, hl3⟩
    · have ld4 := G4.out.2.2.2.2.2.1.ld
      obtain ⟨V, sV, rV, gV, zV⟩ := G4.out.2.2.2.1.put (c' := c) (a' := a) (n' := n) (k' := k)
      have HV : Hid (RvAt V (w.heap.size + 1 + 1) 29 (c.rs a n k) ∧ W4.grownBy V (some (w.heap.size + 1 + 1))) := ⟨rV, gV⟩
      have hE' : Hid (putS c.room l e = (l, 71)) := hE
      clear rV gV zV hE
      go_wp2
      refine bodyPost_ret (results_rowtmp rtR Try.results37 _ _ _ _ rfl HV.out.1 rfl) rfl ?_
      have bb : Below w.heap.size w V := G4.out.2.2.2.2.1.trans (below_of_grown HV.out.2 G4.out.2.2.2.2.1.size (fun j e => by cases e; omega))
      refine ⟨⟨_, by rw [hE'.out]; rfl, ?_⟩, bb⟩
      rw [hE'.out]
      exact ⟨a, k, by rw [HL.out.2.2.2.2.2], by rw [HL.out.2.2.2.2.2]; exact H0.out.below bb, fun x e => .inl e⟩
    · have ld4 := G4.out.2.1.ld
      have le4 := G4.out.2.2.1.ld rtE e.csize
      have hE' : Hid (putS c.room l e = (ins l3 e, 0)) := hE
      clear hE
      go_wp2_with fail
      refine (with_any c a3 m3 k3 l3 e _ G4.out.1 hw3 HL.out.2.2.1 (by omega)).mono ?_
      rintro _ W5 ⟨v5, rfl, ⟨a5, k5, rfl, s5, n5⟩, b5⟩
      obtain ⟨m5, hm5⟩ : ∃ m, (ins l3 e).length = m := ⟨_, rfl⟩
      rw [hm5] at s5 ⊢
      obtain ⟨V, sV, rV, gV, zV⟩ := (G4.out.2.2.2.1.below b5).put (c' := c) (a' := a5) (n' := m5) (k' := k5)
      have HV : Hid (RvAt V (w.heap.size + 1 + 1) 29 (c.rs a5 m5 k5) ∧ W5.grownBy V (some (w.heap.size + 1 + 1)) ∧ SlAt W5 a5 m5 k5 (ins l3 e) ∧ Below W4.heap.size W4 W5 ∧ (∀ x, a5 = some x → W4.heap.size ≤ x.block) ∧ w.heap.size + 1 + 1 < W4.heap.size ∧ (ins l3 e).length = m5) := ⟨rV, gV, s5, b5, n5, G4.out.2.2.2.1.lt, hm5⟩
      clear rV gV zV s5 b5 n5 hm5 ld4 le4 st4
      go_wp2
      refine bodyPost_ret (results_rowtmp rtR Try.results37 _ _ _ _ rfl HV.out.1 rfl) rfl ?_
      have b45 := below_over G4.out.2.2.2.2.1 HV.out.2.2.2.1
      have bb : Below w.heap.size w V := b45.trans (below_of_grown HV.out.2.1 b45.size (fun j e => by cases e; omega))
      refine ⟨⟨_, by rw [hE'.out]; rfl, ?_⟩, bb⟩
      rw [hE'.out]
      have hmm := HV.out.2.2.2.2.2.2
      refine ⟨a5, k5, by rw [hmm], ?_, fun x e => .inr (by have := HV.out.2.2.2.2.1 x e; have := HV.out.2.2.2.2.2.1; omega)⟩
      rw [hmm]
      refine HV.out.2.2.1.keptBut HV.out.2.1 (fun y e => ?_)
      have h4 := HV.out.2.2.2.2.1 y e
      have h5 := HV.out.2.2.2.2.2.1
      intro e2
      have := Option.some.inj e2
      omega
  · have hxr : x.rk = e.rk := (look_mem hlk).2
    have hE' : Hid (putS c.room l e = (put l e, 0)) := show putS c.room l e = _ by
      unfold putS
      rw [if_pos (.inl (by unfold En.rk; rw [hlk]; rfl))]
    have hdl : Hid (l.take i ++ l.drop (i + 1) = del l e.rk) := by
      show _ = _
      rw [← hxr, del_take HL.out.2.1 hx]
    have hil : i < n := by
      have := (List.getElem?_eq_some_iff.1 hx).1
      have := HL.out.2.2.2.2.2
      omega
    clear hx hlk hxr
    have hi0 : (0 : Int) ≤ (i : Int) := by omega
    go_wp2_with fail
    have f1 : ∀ W', (RdAt W' w.heap.size c a n k ∧ RvAt W' (w.heap.size + 1) 55 e.cs ∧ Below w.heap.size w W') → (ldS 29 (.pointer (some ⟨w.heap.size, 0, none⟩))).run Try.prog W' = .ok (.agg (c.rs a n k)) W' := fun W' h => h.1.ld
    have f2 : ∀ W', (RdAt W' w.heap.size c a n k ∧ RvAt W' (w.heap.size + 1) 55 e.cs ∧ Below w.heap.size w W') → (ldS 55 (.pointer (some ⟨w.heap.size + 1, 0, none⟩))).run Try.prog W' = .ok (.agg e.cs) W' := fun W' h => h.2.1.ld rtE e.csize
    obtain ⟨X0, hX0⟩ : ∃ X, W2.drew = X := ⟨_, rfl⟩
    have bX : Below W2.heap.size W2 X0 := by rw [← hX0]; exact (Below.refl _ _).drew
    have GX : Hid (SlAt X0 a n k l ∧ RdAt X0 w.heap.size c a n k ∧ RvAt X0 (w.heap.size + 1) 55 e.cs ∧ RdAt X0 (w.heap.size + 1 + 1) ⟨0, 0, 0⟩ none 0 0 ∧ Below w.heap.size w X0 ∧ w.heap.size + 3 ≤ X0.heap.size) :=
      ⟨G.out.1.below bX, G.out.2.1.below bX, G.out.2.2.1.below bX, G.out.2.2.2.1.below bX, below_over G.out.2.2.2.2.1 bX, Nat.le_trans G.out.2.2.2.2.2 bX.size⟩
    clear bX G
    refine wp_region_noPanic ?_
    refine wp_region_held_drew (S := fun W' => RdAt W' w.heap.size c a n k ∧ RvAt W' (w.heap.size + 1) 55 e.cs ∧ Below w.heap.size w W') (by kernel_rfl) (by rw [hX0]; exact ⟨GX.out.2.1, GX.out.2.2.1, GX.out.2.2.2.2.1⟩) (fun hHeld => ?_)
    rw [hX0] at hHeld ⊢
    clear hX0
    refine wpAnyH_take (i := 0) (oi := { dst := some 17, op := Op.load 29 (Operand.tmp 2), type := 29, pos := "ref.go:86", after := #[], guard := none }) (v := ?_) rfl (by kernel_rfl) (by kernel_rfl) (by kernel_rfl) (fun _ _ _ h => h) (Or.inl ⟨by rfl, ?_⟩) hHeld ?_
    rotate_left
    · intro W_ hSw_
      have g1_ := f1 W_ hSw_; have g2_ := f2 W_ hSw_; clear hSw_
      first | (go_simp; done) | (go_simp; with_reducible rfl)
    rotate_left
    try simp only [Act.put, List.setIfInBounds_toArray, List.set_cons_zero, List.set_cons_succ]
    refine wpAnyH_take (i := 1) (oi := { dst := some 18, op := Op.move (Operand.tmp 6), type := 3, pos := "ref.go:86", after := #[], guard := none }) (v := ?_) rfl (by kernel_rfl) (by kernel_rfl) (by kernel_rfl) (fun _ _ _ h => h) (Or.inl ⟨by rfl, ?_⟩) hHeld ?_
    rotate_left
    · intro W_ hSw_
      have g1_ := f1 W_ hSw_; have g2_ := f2 W_ hSw_; clear hSw_
      first | (go_simp; done) | (go_simp; with_reducible rfl)
    rotate_left
    try simp only [Act.put, List.setIfInBounds_toArray, List.set_cons_zero, List.set_cons_succ]
    refine wpAnyH_take (i := 3) (oi := { dst := some 20, op := Op.load 55 (Operand.tmp 3), type := 55, pos := "ref.go:86", after := #[], guard := none }) (v := ?_) rfl (by kernel_rfl) (by kernel_rfl) (by kernel_rfl) (fun _ _ _ h => h) (Or.inl ⟨by rfl, ?_⟩) hHeld ?_
    rotate_left
    · intro W_ hSw_
      have g1_ := f1 W_ hSw_; have g2_ := f2 W_ hSw_; clear hSw_
      first | (go_simp; done) | (go_simp; with_reducible rfl)
    rotate_left
    try simp only [Act.put, List.setIfInBounds_toArray, List.set_cons_zero, List.set_cons_succ]
    refine wpAnyH_ready (rs := [2]) (by kernel_rfl) (by simp) ?_
    refine AllReadyH.cons (o := { dst := some 19, op := Op.call { callee := Callee.value (Operand.func 38), args := #[Operand.tmp 17, Operand.tmp 18], argTypes := #[29, 3] }, type := 29, pos := "ref.go:86", after := #[{ on := 0, ground := Ground.data }, { on := 1, ground := Ground.data }], guard := none }) rfl (fun K hK => ?_) AllReadyH.nil
    go_simp
    refine (without_any c a n k l i _ GX.out.1 hil HL.out.2.2.2.1).mono ?_
    rintro _ X1 ⟨v1, rfl, ⟨a1, k1, rfl, s1, n1⟩, b1⟩
    rw [hdl.out] at s1 ⊢
    obtain ⟨m1, hm1⟩ : ∃ m, (del l e.rk).length = m := ⟨_, rfl⟩
    rw [hm1] at s1 ⊢
    have hm1' : m1 ≤ 1000 := by
      have : (del l e.rk).length ≤ l.length := List.length_filter_le _ _
      have := HL.out.2.2.2.1
      have := HL.out.2.2.2.2.2
      omega
    have G1 : Hid (SlAt X1 a1 m1 k1 (del l e.rk) ∧ RdAt X1 w.heap.size c a n k ∧ RvAt X1 (w.heap.size + 1) 55 e.cs ∧ RdAt X1 (w.heap.size + 1 + 1) ⟨0, 0, 0⟩ none 0 0 ∧ Below w.heap.size w X1 ∧ w.heap.size + 3 ≤ X1.heap.size) :=
      ⟨s1, GX.out.2.1.below b1, GX.out.2.2.1.below b1, GX.out.2.2.2.1.below b1, below_over GX.out.2.2.2.2.1 b1, Nat.le_trans GX.out.2.2.2.2.2 b1.size⟩
    clear s1 n1 b1 hm1 GX
    clear hHeld
    refine hK.out _ _ ⟨G1.out.2.1, G1.out.2.2.1, G1.out.2.2.2.2.1⟩ (fun hHeld => ?_)
    clear hK K
    try simp only [Act.put, List.setIfInBounds_toArray, List.set_cons_zero, List.set_cons_succ]
    refine wpAnyH_ready (rs := [4]) (by kernel_rfl) (by simp) ?_
    refine AllReadyH.cons (o := { dst := some 21, op := Op.call { callee := Callee.value (Operand.func 50), args := #[Operand.tmp 19, Operand.tmp 20], argTypes := #[29, 55] }, type := 29, pos := "ref.go:86", after := #[{ on := 2, ground := Ground.data }, { on := 3, ground := Ground.data }, { on := 2, ground := Ground.chain }], guard := none }) rfl (fun K hK => ?_) AllReadyH.nil
    go_simp
    refine (with_any c a1 m1 k1 (del l e.rk) e _ G1.out.1 (HL.out.1.del _) HL.out.2.2.1 hm1').mono ?_
    rintro _ X2 ⟨v2, rfl, ⟨a2, k2, rfl, s2, n2⟩, b2⟩
    obtain ⟨m2, hm2⟩ : ∃ m, (ins (del l e.rk) e).length = m := ⟨_, rfl⟩
    rw [hm2] at s2 ⊢
    obtain ⟨V, sV, rV, gV, zV⟩ := (G1.out.2.2.2.1.below b2).put (c' := c) (a' := a2) (n' := m2) (k' := k2)
    have hV2 : Below w.heap.size w V := (below_over G1.out.2.2.2.2.1 b2).trans (below_of_grown gV (Nat.le_trans G1.out.2.2.2.2.1.size b2.size) (fun j e => by cases e; omega))
    have G2 : Hid (RdAt X2 w.heap.size c a n k ∧ RvAt X2 (w.heap.size + 1) 55 e.cs ∧ Below w.heap.size w X2) := ⟨G1.out.2.1.below b2, G1.out.2.2.1.below b2, below_over G1.out.2.2.2.2.1 b2⟩
    have GV : Hid (RdAt V w.heap.size c a n k ∧ RvAt V (w.heap.size + 1) 55 e.cs ∧ Below w.heap.size w V ∧ RvAt V (w.heap.size + 1 + 1) 29 (c.rs a2 m2 k2) ∧ (SlAt V a2 m2 k2 (ins (del l e.rk) e) ∧ ∀ x, a2 = some x → w.heap.size ≤ x.block) ∧ (ins (del l e.rk) e).length = m2) :=
      ⟨(gV.block _ G2.out.1.lt (fun h => by have := Option.some.inj h; omega)).trans G2.out.1, (gV.block _ G2.out.2.1.lt (fun h => by have := Option.some.inj h; omega)).trans G2.out.2.1, hV2, rV, ⟨s2.keptBut gV (fun y e h => by have := n2 y e; have := Option.some.inj h; have := G1.out.2.2.2.2.2; omega), fun y e => by have := n2 y e; have := G1.out.2.2.2.2.2; omega⟩, hm2⟩
    clear s2 n2 b2 hm2 rV gV zV hV2 G1
    clear hHeld
    refine hK.out _ _ G2.out (fun hHeld => ?_)
    clear hK K
    try simp only [Act.put, List.setIfInBounds_toArray, List.set_cons_zero, List.set_cons_succ]
    refine wpAnyH_ready (rs := [5]) (by kernel_rfl) (by simp) ?_
    refine AllReadyH.cons (o := { dst := none, op := Op.store 29 (Operand.tmp 4) (Operand.tmp 21), type := 0, pos := "ref.go:86", after := #[{ on := 4, ground := Ground.data }, { on := 4, ground := Ground.chain }, { on := 0, ground := Ground.phase }, { on := 1, ground := Ground.phase }, { on := 2, ground := Ground.phase }, { on := 3, ground := Ground.phase }, { on := 4, ground := Ground.phase }], guard := none }) rfl (fun K hK => ?_) AllReadyH.nil
    go_simp
    clear hHeld
    refine hK.out _ _ ⟨GV.out.1, GV.out.2.1, GV.out.2.2.1⟩ (fun hHeld => ?_)
    clear hK K
    try simp only [Act.put, List.setIfInBounds_toArray, List.set_cons_zero, List.set_cons_succ]
    refine wpAnyH_ready (rs := [6]) (by kernel_rfl) (by simp) ?_
    refine AllReadyH.cons (o := { dst := some 5, op := Op.assign (Operand.const (Value.int IntKind.i64 0)), type := 3, pos := "ref.go:86", after := #[{ on := 5, ground := Ground.chain }, { on := 0, ground := Ground.phase }, { on := 1, ground := Ground.phase }, { on := 2, ground := Ground.phase }, { on := 3, ground := Ground.phase }, { on := 4, ground := Ground.phase }, { on := 5, ground := Ground.phase }], guard := none }) rfl (fun K hK => ?_) AllReadyH.nil
    go_simp
    clear hHeld
    refine hK.out _ _ ⟨GV.out.1, GV.out.2.1, GV.out.2.2.1⟩ (fun hHeld => ?_)
    clear hK K
    try simp only [Act.put, List.setIfInBounds_toArray, List.set_cons_zero, List.set_cons_succ]
    refine wpAnyH_done (by kernel_rfl) ?_ _
    refine NoPanic.normal ?_
    clear hHeld
    clear sV f1 f2
    go_wp2
    refine bodyPost_ret (results_rowtmp rtR Try.results37 _ _ _ _ rfl GV.out.2.2.2.1 rfl) rfl ?_
    refine ⟨⟨_, by rw [hE'.out]; rfl, ?_⟩, GV.out.2.2.1⟩
    rw [hE'.out]
    have hmm := GV.out.2.2.2.2.2
    exact ⟨a2, k2, by unfold put; rw [hmm], by unfold put; rw [hmm]; exact GV.out.2.2.2.2.1.1, fun x e => .inr (GV.out.2.2.2.2.1.2 x e)⟩
end Go.Proofs.Ytpbpofmlpbobmaa
