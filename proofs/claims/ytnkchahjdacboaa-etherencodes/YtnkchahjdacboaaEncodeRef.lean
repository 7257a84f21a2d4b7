/-
  The walk of a frame's bytes by definition: for every frame.
-/
import Derived.Test.YtnkchahjdacboaaEncode
namespace Go.Proofs.Ytnkchahjdacboaa
set_option linter.unusedVariables false
set_option linter.unusedSimpArgs false
open Go.RowKit

attribute [local go_sem ↓] slS_eq ldS23 ldS25 ldS28 stS28 nqS_eq eqS_eq

set_option maxHeartbeats 1000000 in
theorem encref_no (f : Fr) (x : Value) (l : List Int) (w : World) (h : Src w x l) (hb : ∀ x ∈ l, 0 ≤ x ∧ x ≤ 255) (hf : f.ok) (he : ¬ chkF f l = 0) :
    Calls Try.prog 10 #[.agg (fcs f x)] w fun r w' => r = .returned (.tuple #[.slice none 0 0, .int .i64 (chkF f l)]) ∧ Below w.heap.size w w' := by
  have hF := FrAt.new w f x
  have ld := hF.ld
  have hB : Below w.heap.size w (w.alloc (.cells (fcs f x) 28)) := (Below.refl _ _).alloc (Nat.le_refl _) _
  have HB : Hid (Below w.heap.size w (w.alloc (.cells (fcs f x) 28))) := hB
  have H : Hid (Src (w.alloc (.cells (fcs f x) 28)) x l ∧ (∀ x ∈ l, 0 ≤ x ∧ x ≤ 255) ∧ f.ok) := ⟨h.below hB, hb, hf⟩
  have hk := checkref_any f x l (w.alloc (.cells (fcs f x) 28)) H.out.1 H.out.2.1 H.out.2.2
  obtain ⟨E, hE⟩ : ∃ E, chkF f l = E := ⟨_, rfl⟩
  rw [hE] at he hk ⊢
  have HK : Hid (Calls Try.prog 23 #[.agg (fcs f x)] (w.alloc (.cells (fcs f x) 28)) fun r w' => r = .returned (.int .i64 E) ∧ Below (w.alloc (.cells (fcs f x) 28)).heap.size (w.alloc (.cells (fcs f x) 28)) w') := hk
  have he' : (E != 0) = true := by simpa using he
  clear h hb hf hF hB hE hk he H
  go_enter Try.func10, Try.ntmps10
  go_wp2_with fail
  refine Calls.on_later HK.out ?_
  intro y
  go_wp2
  go_ret2
  exact ⟨rfl, below_later HB.out y⟩

theorem FrAt.cd {W : World} {b : Nat} {f : Fr} {x : Value} (h : FrAt W b f x) (j : Nat) (hj : j < 6) : W.cell? ⟨b, j, none⟩ = some (.int .u8 (f.d.l.getD j 0)) := by
  have hj' : j = 0 ∨ j = 1 ∨ j = 2 ∨ j = 3 ∨ j = 4 ∨ j = 5 := by omega
  rcases hj' with rfl | rfl | rfl | rfl | rfl | rfl <;> exact h.c _ _ rfl
theorem FrAt.cs {W : World} {b : Nat} {f : Fr} {x : Value} (h : FrAt W b f x) (j : Nat) (hj : j < 6) : W.cell? ⟨b, 6 + j, none⟩ = some (.int .u8 (f.s.l.getD j 0)) := by
  have hj' : j = 0 ∨ j = 1 ∨ j = 2 ∨ j = 3 ∨ j = 4 ∨ j = 5 := by omega
  rcases hj' with rfl | rfl | rfl | rfl | rfl | rfl <;> exact h.c _ _ rfl
theorem take_next {l : List Int} {j : Nat} (h : j < l.length) : l.take j ++ [l.getD j 0] = l.take (j + 1) := by
  rw [List.take_add_one, List.getElem?_eq_getElem h]
  simp [List.getD, h]

theorem src_one_new (W : World) (x : Int) : Src (W.alloc (.cells #[.int .u8 x] 5)) (.slice (some ⟨W.heap.size, 0, none⟩) 1 1) [x] := (own_new W [x] _ _ _ rfl rfl (Nat.le_refl _) (by simp)).src
theorem src_two_new (W : World) (x y : Int) : Src (W.alloc (.cells #[.int .u8 x, .int .u8 y] 5)) (.slice (some ⟨W.heap.size, 0, none⟩) 2 2) [x, y] := (own_new W [x, y] _ _ _ rfl rfl (Nat.le_refl _) (by simp)).src

/-- What one owns stays where another's row grows. -/
theorem Own.apart {w w' : World} {B B' : Nat} {v u : Value} {l m : List Int} (h : Own w B v l) (hg : w.grownBy w' u.ownBlock) (hu : ∀ k, u.ownBlock = some k → k < B) : Own w' B v l := by
  refine h.of_block fun k hk => ?_
  have hkk := h.block k hk
  obtain ⟨_, _, _, _, hb⟩ := hg
  exact hb k hkk.2 (fun e => by have := hu k e.symm; omega)

theorem pref_f (f : Fr) (w : World) (h : tagOk f.p f.v = true) :
    Calls Try.prog 24 #[f.tag] w fun r w' => ∃ s, r = .returned (.tuple #[s, .int .i64 0]) ∧ Own w' w.heap.size s (tagL f.p f.e f.v) ∧ Below w.heap.size w w' := pref_yes f.p f.v f.e w h

set_option maxHeartbeats 2000000 in
theorem encref_yes (f : Fr) (x : Value) (l : List Int) (w : World) (h : Src w x l) (hb : ∀ x ∈ l, 0 ≤ x ∧ x ≤ 255) (hf : f.ok) (he : chkF f l = 0) :
    Calls Try.prog 10 #[.agg (fcs f x)] w fun r w' => ∃ s, r = .returned (.tuple #[s, .int .i64 0]) ∧ Own w' w.heap.size s (encL f l) ∧ Below w.heap.size w w' := by
  obtain ⟨hl1, hl2, _⟩ := chk_zero he
  obtain ⟨a, n, c, rfl⟩ := src_form h
  obtain ⟨hn, hc, hm⟩ := src_short h
  have hF := FrAt.new w f (.slice a n c)
  have ld := hF.ld
  have hB : Below w.heap.size w (w.alloc (.cells (fcs f (.slice a n c)) 28)) := (Below.refl _ _).alloc (Nat.le_refl _) _
  have HB : Hid (Below w.heap.size w (w.alloc (.cells (fcs f (.slice a n c)) 28))) := hB
  have HF : Hid (FrAt (w.alloc (.cells (fcs f (.slice a n c)) 28)) w.heap.size f (.slice a n c)) := hF
  have H : Hid (Src (w.alloc (.cells (fcs f (.slice a n c)) 28)) (.slice a n c) l) := h.below hB
  have HT : Hid (f.t = true → tagOk f.p f.v = true) := hl2
  have hk := checkref_any f (.slice a n c) l (w.alloc (.cells (fcs f (.slice a n c)) 28)) H.out hb hf
  rw [he] at hk
  have HK : Hid (Calls Try.prog 23 #[.agg (fcs f (.slice a n c))] (w.alloc (.cells (fcs f (.slice a n c)) 28)) fun r w' => r = .returned (.int .i64 0) ∧ Below (w.alloc (.cells (fcs f (.slice a n c)) 28)).heap.size (w.alloc (.cells (fcs f (.slice a n c)) 28)) w') := hk
  have HN : Hid (n = l.length ∧ n ≤ 1502) := ⟨hn, by omega⟩
  clear h hb hf hF hB hk he hl1 hl2 hn hc hm
  go_enter Try.func10, Try.ntmps10
  go_wp2_with fail
  refine HK.out.mono ?_
  rintro _ W ⟨rfl, hbW⟩
  have HF1 : Hid (FrAt W w.heap.size f (.slice a n c)) := HF.out.below hbW
  have S1 : Hid (Src W (.slice a n c) l) := H.out.below hbW
  have HB1 : Hid (Below w.heap.size w W) := below_over HB.out hbW
  clear hbW HF H HB HK ld
  go_wp2
  go_loopw [5, 6] (fun v5 v6 wr => ∃ j : Nat, j ≤ 6 ∧ v6 = .int .i64 j ∧ Own wr W.heap.size v5 (f.d.l.take j) ∧ Below W.heap.size W wr) (fun _ v6 _ => 6 - (intOf v6).toNat)
  case atStart => exact ⟨0, by omega, rfl, own_nil _ _, Below.refl _ _⟩
  case round =>
    obtain ⟨j, hj, rfl, hoj, hbj⟩ := hrel
    by_cases hlt : j < 6
    · have cj := (HF1.out.below hbj).cd j hlt
      have hlen : (f.d.l.take j).length + 1 ≤ 100000 := by simp [M6.l]; omega
      have HO : Hid (Own _ W.heap.size _ (f.d.l.take j)) := hoj
      have HBj : Hid (Below W.heap.size W _) := hbj
      obtain ⟨X, hX⟩ : ∃ X, f.d.l.getD j 0 = X := ⟨_, rfl⟩
      have E : Hid (f.d.l.take j ++ [X] = f.d.l.take (j + 1)) := by rw [← hX]; exact take_next (by simp [M6.l]; omega)
      rw [hX] at cj
      have hj1 : (j : Int) < 6 := by omega
      have hj0 : (0 : Int) ≤ (j : Int) := by omega
      clear hoj hbj hX
      go_wp2_with (at_builtin; refine wpList_app rfl _ _ rfl (by rfl) (by rfl) (HO.out.below ((Below.refl _ _).alloc (Nat.le_refl _) _)) (src_one_new _ X) hlen (by have := HBj.out.size; simp; omega) ?_)
      intro v7 w7 ho7 hg7 _
      rw [E.out] at ho7
      have HO7 : Hid (Own w7 W.heap.size v7 (f.d.l.take (j + 1))) := ho7
      have HB7 : Hid (Below W.heap.size W w7) := (below_over HBj.out ((Below.refl _ _).alloc (Nat.le_refl _) _)).trans (grown_below (HO.out.below ((Below.refl _ _).alloc (Nat.le_refl _) _)) hg7 (by have := HBj.out.size; simp; omega))
      clear ho7 hg7 HO HBj hlen E cj
      go_wp2
      go_roundw
      case rel => exact ⟨j + 1, by omega, by go_num, HO7.out, HB7.out⟩
      case measure => simp [intOf]; omega
    · have : j = 6 := by omega
      subst this
      have HO : Hid (Own _ W.heap.size _ f.d.l) := hoj
      have HBj : Hid (Below W.heap.size W _) := hbj
      clear hoj hbj
      rw [show ((6 : Nat) : Int) = 6 from rfl]
      go_wp2
      go_loopw [5, 7] (fun v5 v7 wr => ∃ j : Nat, j ≤ 6 ∧ v7 = .int .i64 j ∧ Own wr W.heap.size v5 (f.d.l ++ f.s.l.take j) ∧ Below W.heap.size W wr) (fun _ v7 _ => 6 - (intOf v7).toNat)
      case atStart => exact ⟨0, by omega, rfl, by simpa using HO.out, HBj.out⟩
      case round =>
        clear HO HBj
        obtain ⟨j, hj, rfl, hoj, hbj⟩ := hrel
        by_cases hlt : j < 6
        · have cj := (HF1.out.below hbj).cs j hlt
          have hlen : (f.d.l ++ f.s.l.take j).length + 1 ≤ 100000 := by simp [M6.l]; omega
          have HO : Hid (Own _ W.heap.size _ (f.d.l ++ f.s.l.take j)) := hoj
          have HBj : Hid (Below W.heap.size W _) := hbj
          obtain ⟨X, hX⟩ : ∃ X, f.s.l.getD j 0 = X := ⟨_, rfl⟩
          have E : Hid (f.d.l ++ f.s.l.take j ++ [X] = f.d.l ++ f.s.l.take (j + 1)) := by
            have := take_next (l := f.s.l) (j := j) (by simp [M6.l]; omega)
            rw [← hX, List.append_assoc, this]
            rfl
          rw [hX] at cj
          have hj1 : (j : Int) < 6 := by omega
          have hj0 : (0 : Int) ≤ (j : Int) := by omega
          clear hoj hbj hX
          go_wp2_with (at_builtin; refine wpList_app rfl _ _ rfl (by rfl) (by rfl) (HO.out.below ((Below.refl _ _).alloc (Nat.le_refl _) _)) (src_one_new _ X) hlen (by have := HBj.out.size; simp; omega) ?_)
          intro v7 w7 ho7 hg7 _
          have q7 : Own w7 W.heap.size v7 (f.d.l ++ f.s.l.take (j + 1)) := by
            have e := E.out
            simp only [List.append_assoc, List.cons_append, List.nil_append] at e ho7
            rw [e] at ho7
            exact ho7
          have HO7 : Hid (Own w7 W.heap.size v7 (f.d.l ++ f.s.l.take (j + 1))) := q7
          clear q7
          have HB7 : Hid (Below W.heap.size W w7) := (below_over HBj.out ((Below.refl _ _).alloc (Nat.le_refl _) _)).trans (grown_below (HO.out.below ((Below.refl _ _).alloc (Nat.le_refl _) _)) hg7 (by have := HBj.out.size; simp; omega))
          clear ho7 hg7 HO HBj hlen E cj
          go_wp2
          go_roundw
          case rel => exact ⟨j + 1, by omega, by go_num, HO7.out, HB7.out⟩
          case measure => simp [intOf]; omega
        · have : j = 6 := by omega
          subst this
          have HO : Hid (Own _ W.heap.size _ (f.d.l ++ f.s.l)) := hoj
          have HBj : Hid (Below W.heap.size W _) := hbj
          have HF2 : Hid (FrAt _ w.heap.size f (.slice a n c)) := HF1.out.below hbj
          have S2 : Hid (Src _ (.slice a n c) l) := S1.out.below hbj
          have c12 := HF2.out.c12
          have ldt := HF2.out.ldt
          have c16 := HF2.out.c16
          have S0 : Hid (Src W (.slice a n c) l) := S1.out
          have HF0 : Hid (FrAt W w.heap.size f (.slice a n c)) := HF1.out
          have LT : Hid (∀ k, Value.ownBlock _ = some k → k < _) := fun k hk => (hoj.block k hk).2
          clear hoj hbj HF1 S1
          obtain ⟨t, ht⟩ : ∃ t, f.t = t := ⟨_, rfl⟩
          have HTT : Hid (f.t = t) := ht
          rw [ht] at c12
          clear ht
          cases t
          · have e0 : f.d.l ++ f.s.l ++ l = encL f l := by
              unfold encL tgL
              rw [HTT.out]
              simp
            have EL : Hid (f.d.l ++ f.s.l ++ l = encL f l) := e0
            clear e0
            go_wp2_with (at_builtin; refine wpList_app rfl _ _ rfl (by rfl) (by rfl) HO.out S2.out (by have := HN.out; simp [M6.l]; omega) HBj.out.size ?_)
            intro v7 w7 ho7 hg7 _
            have q7 : Own w7 W.heap.size v7 (encL f l) := by
              have e := EL.out
              simp only [List.append_assoc, List.cons_append, List.nil_append] at e ho7
              rw [e] at ho7
              exact ho7
            have HO7 : Hid (Own w7 W.heap.size v7 (encL f l)) := q7
            clear q7
            have B7 : Hid (Below W.heap.size W w7) := HBj.out.trans (grown_below HO.out hg7 HBj.out.size)
            clear ho7 hg7
            go_wp2
            go_ret2
            exact ⟨_, rfl, HO7.out.base HB1.out.size, below_over HB1.out B7.out⟩
          · have e0 : f.d.l ++ f.s.l ++ [136, 168] ++ tagL f.p f.e f.v ++ l = encL f l := by
              unfold encL tgL
              rw [HTT.out]
              simp
            have EL : Hid (f.d.l ++ f.s.l ++ [136, 168] ++ tagL f.p f.e f.v ++ l = encL f l) := e0
            clear e0
            go_wp2_with fail
            refine (pref_f f _ (HT.out HTT.out)).mono ?_
            rintro _ w1 ⟨s1, rfl, ho1, hb1⟩
            have HO1 : Hid (Own w1 W.heap.size _ (f.d.l ++ f.s.l)) := HO.out.below hb1
            have B1 : Hid (Below W.heap.size W w1) := below_over HBj.out hb1
            have OT : Hid (Own w1 _ s1 (tagL f.p f.e f.v)) := ho1
            clear ho1 hb1 HO HBj S2 HF2 c12 ldt c16
            go_wp2_with (at_builtin; refine wpList_app rfl _ _ rfl (by rfl) (by rfl) (HO1.out.below ((Below.refl _ _).alloc (Nat.le_refl _) _)) (src_two_new w1 136 168) (by simp [M6.l]) (by have := B1.out.size; simp; omega) ?_)
            intro v2 w2 ho2 hg2 _
            have q2 : Own w2 W.heap.size v2 (f.d.l ++ f.s.l ++ [136, 168]) := by
              simp only [List.append_assoc, List.cons_append, List.nil_append] at ho2 ⊢
              exact ho2
            have HO2 : Hid (Own w2 W.heap.size v2 (f.d.l ++ f.s.l ++ [136, 168])) := q2
            clear q2
            have C2 : Below w1.heap.size w1 (w1.alloc (.cells #[.int .u8 136, .int .u8 168] 5)) := (Below.refl _ _).alloc (Nat.le_refl _) _
            have B2 : Hid (Below W.heap.size W w2) := (below_over B1.out C2).trans (grown_below (HO1.out.below C2) hg2 (by have := B1.out.size; simp; omega))
            have St2 : Hid (Src w2 s1 (tagL f.p f.e f.v)) := (OT.out.below C2).apart (B' := 0) (m := []) hg2 (fun k hk => LT.out k hk) |>.src
            clear ho2 hg2 C2 HO1 OT LT
            go_wp2_with (at_builtin; refine wpList_app rfl _ _ rfl (by rfl) (by rfl) HO2.out St2.out (by simp [M6.l, tagL]) B2.out.size ?_)
            intro v3 w3 ho3 hg3 _
            have q3 : Own w3 W.heap.size v3 (f.d.l ++ f.s.l ++ [136, 168] ++ tagL f.p f.e f.v) := by
              simp only [List.append_assoc, List.cons_append, List.nil_append] at ho3 ⊢
              exact ho3
            have HO3 : Hid (Own w3 W.heap.size v3 (f.d.l ++ f.s.l ++ [136, 168] ++ tagL f.p f.e f.v)) := q3
            clear q3
            have B3 : Hid (Below W.heap.size W w3) := B2.out.trans (grown_below HO2.out hg3 B2.out.size)
            have S4 : Hid (Src w3 (.slice a n c) l) := S0.out.below B3.out
            have c16 := (HF0.out.below B3.out).c16
            clear ho3 hg3 HO2 B2 B1 St2
            go_wp2_with (at_builtin; refine wpList_app rfl _ _ rfl (by rfl) (by rfl) HO3.out S4.out (by have := HN.out; simp [M6.l, tagL]; omega) B3.out.size ?_)
            intro v7 w7 ho7 hg7 _
            have q7 : Own w7 W.heap.size v7 (encL f l) := by
              have e := EL.out
              simp only [List.append_assoc, List.cons_append, List.nil_append] at e ho7
              rw [e] at ho7
              exact ho7
            have HO7 : Hid (Own w7 W.heap.size v7 (encL f l)) := q7
            clear q7
            have B7 : Hid (Below W.heap.size W w7) := B3.out.trans (grown_below HO3.out hg7 B3.out.size)
            clear ho7 hg7 HO3 B3 S4
            go_wp2
            go_ret2
            exact ⟨_, rfl, HO7.out.base HB1.out.size, below_over HB1.out B7.out⟩

theorem encref_any (f : Fr) (x : Value) (l : List Int) (w : World) (h : Src w x l) (hb : ∀ x ∈ l, 0 ≤ x ∧ x ≤ 255) (hf : f.ok) :
    Calls Try.prog 10 #[.agg (fcs f x)] w fun r w' => ∃ s, r = .returned (.tuple #[s, .int .i64 (chkF f l)]) ∧ Own w' w.heap.size s (encO f l) ∧ Below w.heap.size w w' := by
  unfold encO
  by_cases he : chkF f l = 0
  · rw [if_pos he, he]
    exact encref_yes f x l w h hb hf he
  · rw [if_neg he]
    exact (encref_no f x l w h hb hf he).mono fun r w' ⟨hr, hB⟩ => ⟨_, hr, own_nil _ _, hB⟩
end Go.Proofs.Ytnkchahjdacboaa
