/-
  The walk of what tells whether bytes may be a message's frame: for all bytes.
-/
import Derived.Test.YtfpoopllkmnagaaDoorSmall
import Derived.Test.YtfpoopllkmnagaaDoorEqs
namespace Go.Proofs.YtfpoopllkmnagaaDoor
set_option linter.unusedVariables false
set_option maxRecDepth 4000
set_option linter.unusedSimpArgs false
open Go.RowKit

attribute [local go_sem ↓] ldS32 ldS49 ldS28 ldS30 ldS83 stS32 stS49 stS28 stS30 eqP_eq nqP_eq eqM_eq nqM_eq nqV_eq nqT_eq slS_eq


/-- May bytes be a message's frame? -/
def isB (l : List Int) : Bool := decide (17 ≤ l.length) && (decide (nu (sub l 0 6) = 1652522221568) && decide (nu (sub l 14 3) = 4342275))
theorem sub_drop (l : List Int) (k j s : Nat) : sub (l.drop k) j s = sub l (k + j) s := by
  unfold sub
  rw [List.drop_drop]

set_option maxHeartbeats 1000000 in
theorem is_short (a : Option Addr) (n c : Nat) (l : List Int) (w : World) (h : Src w (.slice a n c) l) (h17 : l.length < 17) :
    Calls Tryd.prog 18 #[.slice a n c] w fun r w' => r = .returned (.bool (isB l)) ∧ Below w.heap.size w w' := by
  obtain ⟨hn, _, _⟩ := src_short h
  have hn' : (n : Int) < 17 := by omega
  have HE : Hid (isB l = false) := by
    show _ = _
    unfold isB
    rw [decide_eq_false (by omega)]
    rfl
  clear h hn h17
  go_enter Tryd.func18, Tryd.ntmps18
  go_wp2
  go_ret
  exact ⟨ret_bool HE.out.symm, Below.refl _ _⟩

set_option maxHeartbeats 2000000 in
theorem is_no (b o n c : Nat) (l : List Int) (w : World) (h : Src w (.slice (some ⟨b, o, none⟩) n c) l) (hb : ∀ x ∈ l, 0 ≤ x ∧ x ≤ 255) (h17 : 17 ≤ l.length) (h6 : ¬ nu (sub l 0 6) = 1652522221568) :
    Calls Tryd.prog 18 #[.slice (some ⟨b, o, none⟩) n c] w fun r w' => r = .returned (.bool (isB l)) ∧ Below w.heap.size w w' := by
  obtain ⟨hn, hc, hm⟩ := src_short h
  have hn' : ¬ (n : Int) < 17 := by omega
  have e : dropV b o n c 14 = .slice (some ⟨b, o + 14, none⟩) (n - 14) (c - 14) := by unfold dropV; rw [if_neg (by omega)]
  have hs2 : ∀ W, (slS (.slice (some ⟨b, o, none⟩) n c) (some (.int .i64 14)) none none).run Tryd.prog W = .ok (.slice (some ⟨b, o + 14, none⟩) (n - 14) (c - 14)) W := fun W => by rw [← e]; exact slS_drop b o n c 14 (by omega) hc hm W
  have S2 : Hid (Src w (.slice (some ⟨b, o + 14, none⟩) (n - 14) (c - 14)) (l.drop 14)) := src_drop h 14 (by omega)
  have HB : Hid ((∀ x ∈ l, 0 ≤ x ∧ x ≤ 255) ∧ 17 ≤ l.length ∧ Src w (.slice (some ⟨b, o, none⟩) n c) l) := ⟨hb, h17, h⟩
  have HE : Hid (isB l = false) := by
    show _ = _
    unfold isB
    rw [decide_eq_true h17, decide_eq_false h6]
    rfl
  have E6 : Hid (¬ nu (sub l 0 6) = 1652522221568) := h6
  clear h hb hn hc hm e h17 h6
  go_enter Tryd.func18, Tryd.ntmps18
  go_wp2_with fail
  refine wp_region_noPanic ?_
  refine wp_region_held_drew (S := fun _ => True) (by kernel_rfl) trivial (fun hHeld => ?_)
  refine wpAnyH_take (i := 0) (oi := { dst := some 8, op := Op.move (Operand.tmp 0), type := 33, pos := "bpdu.go:248", after := #[], guard := none }) (v := ?_) rfl (by kernel_rfl) (by kernel_rfl) (by kernel_rfl) (fun _ _ _ h => h) (Or.inl ⟨by rfl, ?_⟩) hHeld ?_
  rotate_left
  · intro W hSw
    first | (go_simp; done) | (go_simp; with_reducible rfl)
  rotate_left
  try simp only [Act.put, List.setIfInBounds_toArray, List.set_cons_zero, List.set_cons_succ]
  refine wpAnyH_take (i := 2) (oi := { dst := some 10, op := Op.move (Operand.tmp 0), type := 33, pos := "bpdu.go:248", after := #[], guard := none }) (v := ?_) rfl (by kernel_rfl) (by kernel_rfl) (by kernel_rfl) (fun _ _ _ h => h) (Or.inl ⟨by rfl, ?_⟩) hHeld ?_
  rotate_left
  · intro W hSw
    first | (go_simp; done) | (go_simp; with_reducible rfl)
  rotate_left
  try simp only [Act.put, List.setIfInBounds_toArray, List.set_cons_zero, List.set_cons_succ]
  refine wpAnyH_take (i := 3) (oi := { dst := some 11, op := Op.slice 33 (Operand.tmp 10) (some (Operand.const (Value.int IntKind.i64 14))) none none, type := 33, pos := "bpdu.go:248", after := #[{ on := 2, ground := Ground.data }], guard := none }) (v := ?_) rfl (by kernel_rfl) (by kernel_rfl) (by kernel_rfl) (fun _ _ _ h => h) (Or.inl ⟨by rfl, ?_⟩) hHeld ?_
  rotate_left
  · intro W hSw
    first | (go_simp; done) | (go_simp; with_reducible rfl)
  rotate_left
  try simp only [Act.put, List.setIfInBounds_toArray, List.set_cons_zero, List.set_cons_succ]
  refine wpAnyH_ready (rs := [1]) (by kernel_rfl) (by simp) ?_
  refine AllReadyH.cons (o := { dst := some 9, op := Op.call { callee := Callee.value (Operand.func 28), args := #[Operand.tmp 8], argTypes := #[33] }, type := 66, pos := "bpdu.go:248", after := #[{ on := 0, ground := Ground.data }], guard := none }) rfl (fun K hK => ?_) AllReadyH.nil
  go_simp
  refine (taker_any b o n c l _ (HB.out.2.2.below (Below.refl _ _).drew) (by have := HB.out.2.1; omega)).mono ?_
  rintro _ W1 ⟨rfl, p1, b1⟩
  have B1 : Hid (Below w.heap.size w W1) := (Below.refl _ _).drew.trans b1
  obtain ⟨X, hX⟩ : ∃ X, w.drew.heap.size = X := ⟨_, rfl⟩
  rw [hX] at p1 ⊢
  have HX : Hid (X = w.heap.size) := hX.symm
  have P1 : Hid (TSt W1 b o n c X (X + 1) l 0) := p1
  clear p1 b1 hX
  clear hHeld
  refine hK.out _ _ trivial (fun hHeld => ?_)
  clear hK K
  try simp only [Act.put, List.setIfInBounds_toArray, List.set_cons_zero, List.set_cons_succ]
  refine wpAnyH_ready (rs := [4]) (by kernel_rfl) (by simp) ?_
  refine AllReadyH.cons (o := { dst := some 12, op := Op.call { callee := Callee.value (Operand.func 28), args := #[Operand.tmp 11], argTypes := #[33] }, type := 66, pos := "bpdu.go:248", after := #[{ on := 3, ground := Ground.data }, { on := 1, ground := Ground.chain }], guard := none }) rfl (fun K hK => ?_) AllReadyH.nil
  go_simp
  refine (taker_any b (o + 14) (n - 14) (c - 14) (l.drop 14) W1 (S2.out.below B1.out) (by have := HB.out.2.1; simp; omega)).mono ?_
  rintro _ W2 ⟨rfl, p2, b2⟩
  obtain ⟨Y, hY⟩ : ∃ Y, W1.heap.size = Y := ⟨_, rfl⟩
  rw [hY] at p2 ⊢
  have HY : Hid (X + 1 < Y) := by show _ < _; rw [← hY]; exact lt_of_block P1.out.at_
  have P2 : Hid (TSt W2 b (o + 14) (n - 14) (c - 14) Y (Y + 1) (l.drop 14) 0) := p2
  have Q2 : Hid (TSt W2 b o n c X (X + 1) l 0) := P1.out.below b2
  have B2 : Hid (Below w.heap.size w W2) := below_over B1.out b2
  clear p2 b2 hY P1 B1
  clear hHeld
  refine hK.out _ _ trivial (fun hHeld => ?_)
  clear hK K
  try simp only [Act.put, List.setIfInBounds_toArray, List.set_cons_zero, List.set_cons_succ]
  refine wpAnyH_ready (rs := [5]) (by kernel_rfl) (by simp) ?_
  refine AllReadyH.cons (o := { dst := some 3, op := Op.assign (Operand.tmp 9), type := 66, pos := "bpdu.go:248", after := #[{ on := 1, ground := Ground.data }, { on := 4, ground := Ground.chain }, { on := 0, ground := Ground.phase }, { on := 1, ground := Ground.phase }, { on := 2, ground := Ground.textOnly Departure.lateStores }, { on := 3, ground := Ground.textOnly Departure.lateStoresUnsure }, { on := 4, ground := Ground.textOnly Departure.lateStoresUnsure }], guard := none }) rfl (fun K hK => ?_) AllReadyH.nil
  go_simp
  clear hHeld
  refine hK.out _ _ trivial (fun hHeld => ?_)
  clear hK K
  try simp only [Act.put, List.setIfInBounds_toArray, List.set_cons_zero, List.set_cons_succ]
  refine wpAnyH_ready (rs := [6]) (by kernel_rfl) (by simp) ?_
  refine AllReadyH.cons (o := { dst := some 4, op := Op.assign (Operand.tmp 12), type := 66, pos := "bpdu.go:248", after := #[{ on := 4, ground := Ground.data }, { on := 5, ground := Ground.chain }, { on := 0, ground := Ground.phase }, { on := 1, ground := Ground.phase }, { on := 2, ground := Ground.phase }, { on := 3, ground := Ground.phase }, { on := 4, ground := Ground.phase }, { on := 5, ground := Ground.phase }], guard := none }) rfl (fun K hK => ?_) AllReadyH.nil
  go_simp
  clear hHeld
  refine hK.out _ _ trivial (fun hHeld => ?_)
  clear hK K
  try simp only [Act.put, List.setIfInBounds_toArray, List.set_cons_zero, List.set_cons_succ]
  refine wpAnyH_done (by kernel_rfl) ?_ _
  refine NoPanic.normal ?_
  clear hHeld
  go_wp2_with fail
  refine (take_any 6 b o n c X (X + 1) 0 l W2 Q2.out HB.out.1 (by omega) (by have := HB.out.2.1; omega)).mono ?_
  rintro _ W3 ⟨rfl, p3, c3⟩
  have B3 : Hid (Below w.heap.size w W3) := B2.out.trans (c3.below B2.out.size (fun i _ e => by have := HX.out; omega))
  have P3 : Hid (TSt W3 b (o + 14) (n - 14) (c - 14) Y (Y + 1) (l.drop 14) 0) := P2.out.ch c3 Q2.out.bg (by have := HY.out; omega) (by have := HY.out; omega)
  obtain ⟨N, hN⟩ : ∃ N, nu (sub l 0 6) = N := ⟨_, rfl⟩
  rw [hN] at E6 ⊢
  clear p3 c3 P2 Q2 B2 hN
  have hN6 : ¬ (N : Int) = 1652522221568 := by have := E6.out; omega
  go_wp2
  go_ret
  exact ⟨ret_bool HE.out.symm, B3.out⟩

set_option maxHeartbeats 2000000 in
theorem is_yes (b o n c : Nat) (l : List Int) (w : World) (h : Src w (.slice (some ⟨b, o, none⟩) n c) l) (hb : ∀ x ∈ l, 0 ≤ x ∧ x ≤ 255) (h17 : 17 ≤ l.length) (h6 : nu (sub l 0 6) = 1652522221568) :
    Calls Tryd.prog 18 #[.slice (some ⟨b, o, none⟩) n c] w fun r w' => r = .returned (.bool (isB l)) ∧ Below w.heap.size w w' := by
  obtain ⟨hn, hc, hm⟩ := src_short h
  have hn' : ¬ (n : Int) < 17 := by omega
  have e : dropV b o n c 14 = .slice (some ⟨b, o + 14, none⟩) (n - 14) (c - 14) := by unfold dropV; rw [if_neg (by omega)]
  have hs2 : ∀ W, (slS (.slice (some ⟨b, o, none⟩) n c) (some (.int .i64 14)) none none).run Tryd.prog W = .ok (.slice (some ⟨b, o + 14, none⟩) (n - 14) (c - 14)) W := fun W => by rw [← e]; exact slS_drop b o n c 14 (by omega) hc hm W
  have S2 : Hid (Src w (.slice (some ⟨b, o + 14, none⟩) (n - 14) (c - 14)) (l.drop 14)) := src_drop h 14 (by omega)
  have HB : Hid ((∀ x ∈ l, 0 ≤ x ∧ x ≤ 255) ∧ 17 ≤ l.length ∧ Src w (.slice (some ⟨b, o, none⟩) n c) l) := ⟨hb, h17, h⟩
  have HE : Hid (isB l = decide (nu (sub l 14 3) = 4342275)) := by
    show _ = _
    unfold isB
    rw [decide_eq_true h17, decide_eq_true h6]
    rfl
  have E6 : Hid (nu (sub l 0 6) = 1652522221568) := h6
  clear h hb hn hc hm e h17 h6
  go_enter Tryd.func18, Tryd.ntmps18
  go_wp2_with fail
  refine wp_region_noPanic ?_
  refine wp_region_held_drew (S := fun _ => True) (by kernel_rfl) trivial (fun hHeld => ?_)
  refine wpAnyH_take (i := 0) (oi := { dst := some 8, op := Op.move (Operand.tmp 0), type := 33, pos := "bpdu.go:248", after := #[], guard := none }) (v := ?_) rfl (by kernel_rfl) (by kernel_rfl) (by kernel_rfl) (fun _ _ _ h => h) (Or.inl ⟨by rfl, ?_⟩) hHeld ?_
  rotate_left
  · intro W hSw
    first | (go_simp; done) | (go_simp; with_reducible rfl)
  rotate_left
  try simp only [Act.put, List.setIfInBounds_toArray, List.set_cons_zero, List.set_cons_succ]
  refine wpAnyH_take (i := 2) (oi := { dst := some 10, op := Op.move (Operand.tmp 0), type := 33, pos := "bpdu.go:248", after := #[], guard := none }) (v := ?_) rfl (by kernel_rfl) (by kernel_rfl) (by kernel_rfl) (fun _ _ _ h => h) (Or.inl ⟨by rfl, ?_⟩) hHeld ?_
  rotate_left
  · intro W hSw
    first | (go_simp; done) | (go_simp; with_reducible rfl)
  rotate_left
  try simp only [Act.put, List.setIfInBounds_toArray, List.set_cons_zero, List.set_cons_succ]
  refine wpAnyH_take (i := 3) (oi := { dst := some 11, op := Op.slice 33 (Operand.tmp 10) (some (Operand.const (Value.int IntKind.i64 14))) none none, type := 33, pos := "bpdu.go:248", after := #[{ on := 2, ground := Ground.data }], guard := none }) (v := ?_) rfl (by kernel_rfl) (by kernel_rfl) (by kernel_rfl) (fun _ _ _ h => h) (Or.inl ⟨by rfl, ?_⟩) hHeld ?_
  rotate_left
  · intro W hSw
    first | (go_simp; done) | (go_simp; with_reducible rfl)
  rotate_left
  try simp only [Act.put, List.setIfInBounds_toArray, List.set_cons_zero, List.set_cons_succ]
  refine wpAnyH_ready (rs := [1]) (by kernel_rfl) (by simp) ?_
  refine AllReadyH.cons (o := { dst := some 9, op := Op.call { callee := Callee.value (Operand.func 28), args := #[Operand.tmp 8], argTypes := #[33] }, type := 66, pos := "bpdu.go:248", after := #[{ on := 0, ground := Ground.data }], guard := none }) rfl (fun K hK => ?_) AllReadyH.nil
  go_simp
  refine (taker_any b o n c l _ (HB.out.2.2.below (Below.refl _ _).drew) (by have := HB.out.2.1; omega)).mono ?_
  rintro _ W1 ⟨rfl, p1, b1⟩
  have B1 : Hid (Below w.heap.size w W1) := (Below.refl _ _).drew.trans b1
  obtain ⟨X, hX⟩ : ∃ X, w.drew.heap.size = X := ⟨_, rfl⟩
  rw [hX] at p1 ⊢
  have HX : Hid (X = w.heap.size) := hX.symm
  have P1 : Hid (TSt W1 b o n c X (X + 1) l 0) := p1
  clear p1 b1 hX
  clear hHeld
  refine hK.out _ _ trivial (fun hHeld => ?_)
  clear hK K
  try simp only [Act.put, List.setIfInBounds_toArray, List.set_cons_zero, List.set_cons_succ]
  refine wpAnyH_ready (rs := [4]) (by kernel_rfl) (by simp) ?_
  refine AllReadyH.cons (o := { dst := some 12, op := Op.call { callee := Callee.value (Operand.func 28), args := #[Operand.tmp 11], argTypes := #[33] }, type := 66, pos := "bpdu.go:248", after := #[{ on := 3, ground := Ground.data }, { on := 1, ground := Ground.chain }], guard := none }) rfl (fun K hK => ?_) AllReadyH.nil
  go_simp
  refine (taker_any b (o + 14) (n - 14) (c - 14) (l.drop 14) W1 (S2.out.below B1.out) (by have := HB.out.2.1; simp; omega)).mono ?_
  rintro _ W2 ⟨rfl, p2, b2⟩
  obtain ⟨Y, hY⟩ : ∃ Y, W1.heap.size = Y := ⟨_, rfl⟩
  rw [hY] at p2 ⊢
  have HY : Hid (X + 1 < Y) := by show _ < _; rw [← hY]; exact lt_of_block P1.out.at_
  have P2 : Hid (TSt W2 b (o + 14) (n - 14) (c - 14) Y (Y + 1) (l.drop 14) 0) := p2
  have Q2 : Hid (TSt W2 b o n c X (X + 1) l 0) := P1.out.below b2
  have B2 : Hid (Below w.heap.size w W2) := below_over B1.out b2
  clear p2 b2 hY P1 B1
  clear hHeld
  refine hK.out _ _ trivial (fun hHeld => ?_)
  clear hK K
  try simp only [Act.put, List.setIfInBounds_toArray, List.set_cons_zero, List.set_cons_succ]
  refine wpAnyH_ready (rs := [5]) (by kernel_rfl) (by simp) ?_
  refine AllReadyH.cons (o := { dst := some 3, op := Op.assign (Operand.tmp 9), type := 66, pos := "bpdu.go:248", after := #[{ on := 1, ground := Ground.data }, { on := 4, ground := Ground.chain }, { on := 0, ground := Ground.phase }, { on := 1, ground := Ground.phase }, { on := 2, ground := Ground.textOnly Departure.lateStores }, { on := 3, ground := Ground.textOnly Departure.lateStoresUnsure }, { on := 4, ground := Ground.textOnly Departure.lateStoresUnsure }], guard := none }) rfl (fun K hK => ?_) AllReadyH.nil
  go_simp
  clear hHeld
  refine hK.out _ _ trivial (fun hHeld => ?_)
  clear hK K
  try simp only [Act.put, List.setIfInBounds_toArray, List.set_cons_zero, List.set_cons_succ]
  refine wpAnyH_ready (rs := [6]) (by kernel_rfl) (by simp) ?_
  refine AllReadyH.cons (o := { dst := some 4, op := Op.assign (Operand.tmp 12), type := 66, pos := "bpdu.go:248", after := #[{ on := 4, ground := Ground.data }, { on := 5, ground := Ground.chain }, { on := 0, ground := Ground.phase }, { on := 1, ground := Ground.phase }, { on := 2, ground := Ground.phase }, { on := 3, ground := Ground.phase }, { on := 4, ground := Ground.phase }, { on := 5, ground := Ground.phase }], guard := none }) rfl (fun K hK => ?_) AllReadyH.nil
  go_simp
  clear hHeld
  refine hK.out _ _ trivial (fun hHeld => ?_)
  clear hK K
  try simp only [Act.put, List.setIfInBounds_toArray, List.set_cons_zero, List.set_cons_succ]
  refine wpAnyH_done (by kernel_rfl) ?_ _
  refine NoPanic.normal ?_
  clear hHeld
  go_wp2_with fail
  refine (take_any 6 b o n c X (X + 1) 0 l W2 Q2.out HB.out.1 (by omega) (by have := HB.out.2.1; omega)).mono ?_
  rintro _ W3 ⟨rfl, p3, c3⟩
  have B3 : Hid (Below w.heap.size w W3) := B2.out.trans (c3.below B2.out.size (fun i _ e => by have := HX.out; omega))
  have P3 : Hid (TSt W3 b (o + 14) (n - 14) (c - 14) Y (Y + 1) (l.drop 14) 0) := P2.out.ch c3 Q2.out.bg (by have := HY.out; omega) (by have := HY.out; omega)
  obtain ⟨N, hN⟩ : ∃ N, nu (sub l 0 6) = N := ⟨_, rfl⟩
  rw [hN] at E6 ⊢
  clear p3 c3 P2 Q2 B2 hN
  rw [E6.out]
  rw [show ((1652522221568 : Nat) : Int) = 1652522221568 from rfl]
  go_wp2_with fail
  refine (take_any 3 b (o + 14) (n - 14) (c - 14) Y (Y + 1) 0 (l.drop 14) W3 P3.out (fun x hx => HB.out.1 x (List.mem_of_mem_drop hx)) (by omega) (by have := HB.out.2.1; simp; omega)).mono ?_
  rintro _ W4 ⟨rfl, p4, c4⟩
  have B4 : Hid (Below w.heap.size w W4) := B3.out.trans (c4.below B3.out.size (fun i _ e => by have := HX.out; have := HY.out; omega))
  rw [sub_drop]
  obtain ⟨M, hM⟩ : ∃ N, nu (sub l (14 + 0) 3) = N := ⟨_, rfl⟩
  rw [hM]
  have EM : Hid (nu (sub l 14 3) = M) := hM
  clear p4 c4 P3 hM B3
  go_wp2
  go_ret
  refine ⟨ret_bool ?_, B4.out⟩
  rw [HE.out, EM.out, Bool.eq_iff_iff]
  simp
  try omega

theorem is_any (a : Option Addr) (n c : Nat) (l : List Int) (w : World) (h : Src w (.slice a n c) l) (hb : ∀ x ∈ l, 0 ≤ x ∧ x ≤ 255) :
    Calls Tryd.prog 18 #[.slice a n c] w fun r w' => r = .returned (.bool (isB l)) ∧ Below w.heap.size w w' := by
  by_cases h17 : l.length < 17
  · exact is_short a n c l w h h17
  obtain ⟨b, o, rfl, _, _⟩ := src_some h (by omega)
  by_cases h6 : nu (sub l 0 6) = 1652522221568
  · exact is_yes b o n c l w h hb (by omega) h6
  · exact is_no b o n c l w h hb (by omega) h6
end Go.Proofs.YtfpoopllkmnagaaDoor
