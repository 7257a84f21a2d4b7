/-
  The walk of a frame's bytes by definition: for every frame. Through the backbone: the walk of the law, for every input. Commands, maps, carries, members that are handed in.
-/
import Derived.Test.YtgjagedngdhdaaaJ20XEx
import Derived.Test.YtgjagedngdhdaaaJ46Mde
import Derived.Test.YtgjagedngdhdaaaJ32Awa
import Derived.Test.YtgjagedngdhdaaaJ45Rdd
import Derived.Test.YtgjagedngdhdaaaJ33LRd
namespace Go.Proofs.Ytgjagedngdhdaaa

section
namespace S4
set_option linter.unusedVariables false
set_option linter.unusedSimpArgs false
open Go.RowKit

attribute [local go_sem ↓] slS_eq ldS_MAC ldS_Tag ldS_Frame stS_Frame nqS_eq eqS_eq

set_option maxHeartbeats 1000000 in
theorem encref_no (f : Fr) (x : Value) (l : List Int) (w : World) (h : Src w x l) (hb : ∀ x ∈ l, 0 ≤ x ∧ x ≤ 255) (hf : f.ok) (he : ¬ chkF f l = 0) :
    Calls Try.prog 26 #[.agg (fcs f x)] w fun r w' => r = .returned (.tuple #[.slice none 0 0, .int .i64 (chkF f l)]) ∧ Below w.heap.size w w' := by
  have hF := FrAt.new w f x
  have ld := hF.ld
  have hB : Below w.heap.size w (w.alloc (.cells (fcs f x) 34)) := (Below.refl _ _).alloc (Nat.le_refl _) _
  have HB : Hid (Below w.heap.size w (w.alloc (.cells (fcs f x) 34))) := hB
  have H : Hid (Src (w.alloc (.cells (fcs f x) 34)) x l ∧ (∀ x ∈ l, 0 ≤ x ∧ x ≤ 255) ∧ f.ok) := ⟨h.below hB, hb, hf⟩
  have hk := checkref_any f x l (w.alloc (.cells (fcs f x) 34)) H.out.1 H.out.2.1 H.out.2.2
  obtain ⟨E, hE⟩ : ∃ E, chkF f l = E := ⟨_, rfl⟩
  rw [hE] at he hk ⊢
  have HK : Hid (Calls Try.prog 30 #[.agg (fcs f x)] (w.alloc (.cells (fcs f x) 34)) fun r w' => r = .returned (.int .i64 E) ∧ Below (w.alloc (.cells (fcs f x) 34)).heap.size (w.alloc (.cells (fcs f x) 34)) w') := hk
  have he' : (E != 0) = true := by simpa using he
  clear h hb hf hF hB hE hk he H
  go_enter Try.func26, Try.ntmps26
  go_wp2_with fail
  refine Calls.on_later HK.out ?_
  intro y
  go_wp2
  go_ret2
  exact ⟨rfl, below_later HB.out y⟩

theorem FrAt.cd {W : World} {b : Nat} {f : Fr} {x : Value} (h : FrAt W b f x) (j : Nat) (hj : j < 6) : W.cell? ⟨b, j, none⟩ = some (.int .u8 (f.d.l.getD j 0)) := by
  have hj' : j = 0 ∨ j = 1 ∨ j = 2 ∨ j = 3 ∨ j = 4 ∨ j = 5 := by omega
  rcases hj' with rfl | rfl | rfl | rfl | rfl | rfl <;> exact h.c _ _ rfl
theorem FrAt.cs {W : World} {b : Nat} {f : Fr} {x : Value} (h : FrAt W b f x) (j : Nat) (hj : j < 6) : W.cell? ⟨b, 6 + j, none⟩ = some (.int .u8 (f.s.l.getD j 0)) := by
  have hj' : j = 0 ∨ j = 1 ∨ j = 2 ∨ j = 3 ∨ j = 4 ∨ j = 5 := by omega
  rcases hj' with rfl | rfl | rfl | rfl | rfl | rfl <;> exact h.c _ _ rfl
theorem take_next {l : List Int} {j : Nat} (h : j < l.length) : l.take j ++ [l.getD j 0] = l.take (j + 1) := by
  rw [List.take_add_one, List.getElem?_eq_getElem h]
  simp [List.getD, h]

theorem src_one_new (W : World) (x : Int) : Src (W.alloc (.cells #[.int .u8 x] 5)) (.slice (some ⟨W.heap.size, 0, none⟩) 1 1) [x] := (own_new W [x] _ _ _ rfl rfl (Nat.le_refl _) (by simp)).src
theorem src_two_new (W : World) (x y : Int) : Src (W.alloc (.cells #[.int .u8 x, .int .u8 y] 5)) (.slice (some ⟨W.heap.size, 0, none⟩) 2 2) [x, y] := (own_new W [x, y] _ _ _ rfl rfl (Nat.le_refl _) (by simp)).src

/-- What one owns stays where another's row grows. -/
theorem Own.apart {w w' : World} {B B' : Nat} {v u : Value} {l m : List Int} (h : Own w B v l) (hg : w.grownBy w' u.ownBlock) (hu : ∀ k, u.ownBlock = some k → k < B) : Own w' B v l := by
  refine h.of_block fun k hk => ?_
  have hkk := h.block k hk
  obtain ⟨_, _, _, _, hb⟩ := hg
  exact hb k hkk.2 (fun e => by have := hu k e.symm; omega)

theorem pref_f (f : Fr) (w : World) (h : tagOk f.p f.v = true) :
    Calls Try.prog 54 #[f.tag] w fun r w' => ∃ s, r = .returned (.tuple #[s, .int .i64 0]) ∧ Own w' w.heap.size s (tagL f.p f.e f.v) ∧ Below w.heap.size w w' := pref_yes f.p f.v f.e w h

set_option maxHeartbeats 2000000 in
theorem encref_yes (f : Fr) (x : Value) (l : List Int) (w : World) (h : Src w x l) (hb : ∀ x ∈ l, 0 ≤ x ∧ x ≤ 255) (hf : f.ok) (he : chkF f l = 0) :
    Calls Try.prog 26 #[.agg (fcs f x)] w fun r w' => ∃ s, r = .returned (.tuple #[s, .int .i64 0]) ∧ Own w' w.heap.size s (encL f l) ∧ Below w.heap.size w w' := by
  obtain ⟨hl1, hl2, _⟩ := chk_zero he
  obtain ⟨a, n, c, rfl⟩ := src_form h
  obtain ⟨hn, hc, hm⟩ := src_short h
  have hF := FrAt.new w f (.slice a n c)
  have ld := hF.ld
  have hB : Below w.heap.size w (w.alloc (.cells (fcs f (.slice a n c)) 34)) := (Below.refl _ _).alloc (Nat.le_refl _) _
  have HB : Hid (Below w.heap.size w (w.alloc (.cells (fcs f (.slice a n c)) 34))) := hB
  have HF : Hid (FrAt (w.alloc (.cells (fcs f (.slice a n c)) 34)) w.heap.size f (.slice a n c)) := hF
  have H : Hid (Src (w.alloc (.cells (fcs f (.slice a n c)) 34)) (.slice a n c) l) := h.below hB
  have HT : Hid (f.t = true → tagOk f.p f.v = true) := hl2
  have hk := checkref_any f (.slice a n c) l (w.alloc (.cells (fcs f (.slice a n c)) 34)) H.out hb hf
  rw [he] at hk
  have HK : Hid (Calls Try.prog 30 #[.agg (fcs f (.slice a n c))] (w.alloc (.cells (fcs f (.slice a n c)) 34)) fun r w' => r = .returned (.int .i64 0) ∧ Below (w.alloc (.cells (fcs f (.slice a n c)) 34)).heap.size (w.alloc (.cells (fcs f (.slice a n c)) 34)) w') := hk
  have HN : Hid (n = l.length ∧ n ≤ 1502) := ⟨hn, by omega⟩
  clear h hb hf hF hB hk he hl1 hl2 hn hc hm
  go_enter Try.func26, Try.ntmps26
  go_wp2_with fail
  refine HK.out.mono ?_
  rintro _ W ⟨rfl, hbW⟩
  have HF1 : Hid (FrAt W w.heap.size f (.slice a n c)) := HF.out.below hbW
  have S1 : Hid (Src W (.slice a n c) l) := H.out.below hbW
  have HB1 : Hid (Below w.heap.size w W) := below_over HB.out hbW
  clear hbW HF H HB HK ld
  go_wp2
  go_loopw [5, 6] (fun v5 v6 wr => ∃ j : Nat, j ≤ 6 ∧ v6 = .int .i64 j ∧ Own wr W.heap.size v5 (f.d.l.take j) ∧ Below W.heap.size W wr) (fun _ v6 _ => 6 - (intOf v6).toNat)
  case atStart => exact ⟨0, by omega, rfl, own_nil _ _, Below.refl _ _⟩
  case round =>
    obtain ⟨j, hj, rfl, hoj, hbj⟩ := hrel
    by_cases hlt : j < 6
    · have cj := (HF1.out.below hbj).cd j hlt
      have hlen : (f.d.l.take j).length + 1 ≤ 100000 := by simp [M6.l]; omega
      have HO : Hid (Own _ W.heap.size _ (f.d.l.take j)) := hoj
      have HBj : Hid (Below W.heap.size W _) := hbj
      obtain ⟨X, hX⟩ : ∃ X, f.d.l.getD j 0 = X := ⟨_, rfl⟩
      have E : Hid (f.d.l.take j ++ [X] = f.d.l.take (j + 1)) := by rw [← hX]; exact take_next (by simp [M6.l]; omega)
      rw [hX] at cj
      have hj1 : (j : Int) < 6 := by omega
      have hj0 : (0 : Int) ≤ (j : Int) := by omega
      clear hoj hbj hX
      go_wp2_with (at_builtin; refine wpList_app rfl _ _ rfl (by rfl) (by rfl) (HO.out.below ((Below.refl _ _).alloc (Nat.le_refl _) _)) (src_one_new _ X) hlen (by have := HBj.out.size; simp; omega) ?_)
      intro v7 w7 ho7 hg7 _
      rw [E.out] at ho7
      have HO7 : Hid (Own w7 W.heap.size v7 (f.d.l.take (j + 1))) := ho7
      have HB7 : Hid (Below W.heap.size W w7) := (below_over HBj.out ((Below.refl _ _).alloc (Nat.le_refl _) _)).trans (grown_below (HO.out.below ((Below.refl _ _).alloc (Nat.le_refl _) _)) hg7 (by have := HBj.out.size; simp; omega))
      clear ho7 hg7 HO HBj hlen E cj
      go_wp2
      go_roundw
      case rel => exact ⟨j + 1, by omega, by go_num, HO7.out, HB7.out⟩
      case measure => simp [intOf]; omega
    · have : j = 6 := by omega
      subst this
      have HO : Hid (Own _ W.heap.size _ f.d.l) := hoj
      have HBj : Hid (Below W.heap.size W _) := hbj
      clear hoj hbj
      rw [show ((6 : Nat) : Int) = 6 from rfl]
      go_wp2
      go_loopw [5, 7] (fun v5 v7 wr => ∃ j : Nat, j ≤ 6 ∧ v7 = .int .i64 j ∧ Own wr W.heap.size v5 (f.d.l ++ f.s.l.take j) ∧ Below W.heap.size W wr) (fun _ v7 _ => 6 - (intOf v7).toNat)
      case atStart => exact ⟨0, by omega, rfl, by simpa using HO.out, HBj.out⟩
      case round =>
        clear HO HBj
        obtain ⟨j, hj, rfl, hoj, hbj⟩ := hrel
        by_cases hlt : j < 6
        · have cj := (HF1.out.below hbj).cs j hlt
          have hlen : (f.d.l ++ f.s.l.take j).length + 1 ≤ 100000 := by simp [M6.l]; omega
          have HO : Hid (Own _ W.heap.size _ (f.d.l ++ f.s.l.take j)) := hoj
          have HBj : Hid (Below W.heap.size W _) := hbj
          obtain ⟨X, hX⟩ : ∃ X, f.s.l.getD j 0 = X := ⟨_, rfl⟩
          have E : Hid (f.d.l ++ f.s.l.take j ++ [X] = f.d.l ++ f.s.l.take (j + 1)) := by
            have := take_next (l := f.s.l) (j := j) (by simp [M6.l]; omega)
            rw [← hX, List.append_assoc, this]
            rfl
          rw [hX] at cj
          have hj1 : (j : Int) < 6 := by omega
          have hj0 : (0 : Int) ≤ (j : Int) := by omega
          clear hoj hbj hX
          go_wp2_with (at_builtin; refine wpList_app rfl _ _ rfl (by rfl) (by rfl) (HO.out.below ((Below.refl _ _).alloc (Nat.le_refl _) _)) (src_one_new _ X) hlen (by have := HBj.out.size; simp; omega) ?_)
          intro v7 w7 ho7 hg7 _
          have q7 : Own w7 W.heap.size v7 (f.d.l ++ f.s.l.take (j + 1)) := by
            have e := E.out
            simp only [List.append_assoc, List.cons_append, List.nil_append] at e ho7
            rw [e] at ho7
            exact ho7
          have HO7 : Hid (Own w7 W.heap.size v7 (f.d.l ++ f.s.l.take (j + 1))) := q7
          clear q7
          have HB7 : Hid (Below W.heap.size W w7) := (below_over HBj.out ((Below.refl _ _).alloc (Nat.le_refl _) _)).trans (grown_below (HO.out.below ((Below.refl _ _).alloc (Nat.le_refl _) _)) hg7 (by have := HBj.out.size; simp; omega))
          clear ho7 hg7 HO HBj hlen E cj
          go_wp2
          go_roundw
          case rel => exact ⟨j + 1, by omega, by go_num, HO7.out, HB7.out⟩
          case measure => simp [intOf]; omega
        · have : j = 6 := by omega
          subst this
          have HO : Hid (Own _ W.heap.size _ (f.d.l ++ f.s.l)) := hoj
          have HBj : Hid (Below W.heap.size W _) := hbj
          have HF2 : Hid (FrAt _ w.heap.size f (.slice a n c)) := HF1.out.below hbj
          have S2 : Hid (Src _ (.slice a n c) l) := S1.out.below hbj
          have c12 := HF2.out.c12
          have ldt := HF2.out.ldt
          have c16 := HF2.out.c16
          have S0 : Hid (Src W (.slice a n c) l) := S1.out
          have HF0 : Hid (FrAt W w.heap.size f (.slice a n c)) := HF1.out
          have LT : Hid (∀ k, Value.ownBlock _ = some k → k < _) := fun k hk => (hoj.block k hk).2
          clear hoj hbj HF1 S1
          obtain ⟨t, ht⟩ : ∃ t, f.t = t := ⟨_, rfl⟩
          have HTT : Hid (f.t = t) := ht
          rw [ht] at c12
          clear ht
          cases t
          · have e0 : f.d.l ++ f.s.l ++ l = encL f l := by
              unfold encL tgL
              rw [HTT.out]
              simp
            have EL : Hid (f.d.l ++ f.s.l ++ l = encL f l) := e0
            clear e0
            go_wp2_with (at_builtin; refine wpList_app rfl _ _ rfl (by rfl) (by rfl) HO.out S2.out (by have := HN.out; simp [M6.l]; omega) HBj.out.size ?_)
            intro v7 w7 ho7 hg7 _
            have q7 : Own w7 W.heap.size v7 (encL f l) := by
              have e := EL.out
              simp only [List.append_assoc, List.cons_append, List.nil_append] at e ho7
              rw [e] at ho7
              exact ho7
            have HO7 : Hid (Own w7 W.heap.size v7 (encL f l)) := q7
            clear q7
            have B7 : Hid (Below W.heap.size W w7) := HBj.out.trans (grown_below HO.out hg7 HBj.out.size)
            clear ho7 hg7
            go_wp2
            go_ret2
            exact ⟨_, rfl, HO7.out.base HB1.out.size, below_over HB1.out B7.out⟩
          · have e0 : f.d.l ++ f.s.l ++ [136, 168] ++ tagL f.p f.e f.v ++ l = encL f l := by
              unfold encL tgL
              rw [HTT.out]
              simp
            have EL : Hid (f.d.l ++ f.s.l ++ [136, 168] ++ tagL f.p f.e f.v ++ l = encL f l) := e0
            clear e0
            go_wp2_with fail
            refine (pref_f f _ (HT.out HTT.out)).mono ?_
            rintro _ w1 ⟨s1, rfl, ho1, hb1⟩
            have HO1 : Hid (Own w1 W.heap.size _ (f.d.l ++ f.s.l)) := HO.out.below hb1
            have B1 : Hid (Below W.heap.size W w1) := below_over HBj.out hb1
            have OT : Hid (Own w1 _ s1 (tagL f.p f.e f.v)) := ho1
            clear ho1 hb1 HO HBj S2 HF2 c12 ldt c16
            go_wp2_with (at_builtin; refine wpList_app rfl _ _ rfl (by rfl) (by rfl) (HO1.out.below ((Below.refl _ _).alloc (Nat.le_refl _) _)) (src_two_new w1 136 168) (by simp [M6.l]) (by have := B1.out.size; simp; omega) ?_)
            intro v2 w2 ho2 hg2 _
            have q2 : Own w2 W.heap.size v2 (f.d.l ++ f.s.l ++ [136, 168]) := by
              simp only [List.append_assoc, List.cons_append, List.nil_append] at ho2 ⊢
              exact ho2
            have HO2 : Hid (Own w2 W.heap.size v2 (f.d.l ++ f.s.l ++ [136, 168])) := q2
            clear q2
            have C2 : Below w1.heap.size w1 (w1.alloc (.cells #[.int .u8 136, .int .u8 168] 5)) := (Below.refl _ _).alloc (Nat.le_refl _) _
            have B2 : Hid (Below W.heap.size W w2) := (below_over B1.out C2).trans (grown_below (HO1.out.below C2) hg2 (by have := B1.out.size; simp; omega))
            have St2 : Hid (Src w2 s1 (tagL f.p f.e f.v)) := (OT.out.below C2).apart (B' := 0) (m := []) hg2 (fun k hk => LT.out k hk) |>.src
            clear ho2 hg2 C2 HO1 OT LT
            go_wp2_with (at_builtin; refine wpList_app rfl _ _ rfl (by rfl) (by rfl) HO2.out St2.out (by simp [M6.l, tagL]) B2.out.size ?_)
            intro v3 w3 ho3 hg3 _
            have q3 : Own w3 W.heap.size v3 (f.d.l ++ f.s.l ++ [136, 168] ++ tagL f.p f.e f.v) := by
              simp only [List.append_assoc, List.cons_append, List.nil_append] at ho3 ⊢
              exact ho3
            have HO3 : Hid (Own w3 W.heap.size v3 (f.d.l ++ f.s.l ++ [136, 168] ++ tagL f.p f.e f.v)) := q3
            clear q3
            have B3 : Hid (Below W.heap.size W w3) := B2.out.trans (grown_below HO2.out hg3 B2.out.size)
            have S4 : Hid (Src w3 (.slice a n c) l) := S0.out.below B3.out
            have c16 := (HF0.out.below B3.out).c16
            clear ho3 hg3 HO2 B2 B1 St2
            go_wp2_with (at_builtin; refine wpList_app rfl _ _ rfl (by rfl) (by rfl) HO3.out S4.out (by have := HN.out; simp [M6.l, tagL]; omega) B3.out.size ?_)
            intro v7 w7 ho7 hg7 _
            have q7 : Own w7 W.heap.size v7 (encL f l) := by
              have e := EL.out
              simp only [List.append_assoc, List.cons_append, List.nil_append] at e ho7
              rw [e] at ho7
              exact ho7
            have HO7 : Hid (Own w7 W.heap.size v7 (encL f l)) := q7
            clear q7
            have B7 : Hid (Below W.heap.size W w7) := B3.out.trans (grown_below HO3.out hg7 B3.out.size)
            clear ho7 hg7 HO3 B3 S4
            go_wp2
            go_ret2
            exact ⟨_, rfl, HO7.out.base HB1.out.size, below_over HB1.out B7.out⟩

theorem encref_any (f : Fr) (x : Value) (l : List Int) (w : World) (h : Src w x l) (hb : ∀ x ∈ l, 0 ≤ x ∧ x ≤ 255) (hf : f.ok) :
    Calls Try.prog 26 #[.agg (fcs f x)] w fun r w' => ∃ s, r = .returned (.tuple #[s, .int .i64 (chkF f l)]) ∧ Own w' w.heap.size s (encO f l) ∧ Below w.heap.size w w' := by
  unfold encO
  by_cases he : chkF f l = 0
  · rw [if_pos he, he]
    exact encref_yes f x l w h hb hf he
  · rw [if_neg he]
    exact (encref_no f x l w h hb hf he).mono fun r w' ⟨hr, hB⟩ => ⟨_, hr, own_nil _ _, hB⟩
end S4
end

section
set_option linter.unusedVariables false
set_option maxRecDepth 4000
set_option linter.unusedSimpArgs false
open Go.RowKit
attribute [local go_sem ↓] ldP stP ldMc stMc ldFr stFr ldBf stBf slU S4.eqM_eq
attribute [local go_sem] gdM_mac eqM_self
attribute [local go_sem ↓] stIn
/-- The law's variables. -/
structure ThS (w W : World) (bp bq bf bk : Nat) (xp xq : Pr) (P Q : Pv) (f : S4.Fr) (s : Value) (l : List Int) (known : S4.M6) : Prop where
  bel : Below w.heap.size w W
  pp : PrAt W bp xp
  ip : IsPv W xp P
  pq : PrAt W bq xq
  iq : IsPv W xq Q
  fr : FrAt W bf f s
  sr : S4.Src W s l
  kn : McAt W bk known
theorem ThS.below {w W W' : World} {bp bq bf bk : Nat} {xp xq : Pr} {P Q : Pv} {f : S4.Fr} {s : Value} {l : List Int} {known : S4.M6} (h : ThS w W bp bq bf bk xp xq P Q f s l known) (hb : Below W.heap.size W W') : ThS w W' bp bq bf bk xp xq P Q f s l known :=
  ⟨below_over h.bel hb, h.pp.below hb, h.ip.below hb, h.pq.below hb, h.iq.below hb, h.fr.below hb, h.sr.below hb, h.kn.below hb⟩
set_option maxHeartbeats 16000000 in
theorem through_law (bits : Int) (la : Option Addr) (ln lc : Nat) (lr : List Cm) (ll : List Cd) (ma : Option Addr) (mn mc' : Nat) (mr : List Cm) (ml : List Cd) (port : Int) (f : S4.Fr) (z : Value) (l : List Int) (known : S4.M6) (has : Bool) (w : World) (hbits : 0 ≤ bits ∧ bits ≤ 255) (h1 : Cms w la ln lc lr ll) (h2 : Cms w ma mn mc' mr ml) (hs : S4.Src w z l) (hb : ∀ x ∈ l, 0 ≤ x ∧ x ≤ 255) (hf : f.ok) (hk : known.ok) :
    Calls Try.prog 5 #[.int .u8 bits, .slice la ln lc, .slice ma mn mc', .int .i64 port, .agg (S4.fcs f z), .agg (mc known), .bool has] w fun r w' => r = .returned (.bool true) ∧ Below w.heap.size w w' := by
  obtain ⟨W1, hW1, r1, b1, z1⟩ := FrAt.new w f z
  obtain ⟨V, hV, r2, b2, z2⟩ := McAt.new W1 known
  have B0 : Below w.heap.size w V := below_over b1 b2
  have HB : Hid (Below w.heap.size w V ∧ FrAt V w.heap.size f z ∧ McAt V W1.heap.size known ∧ W1.heap.size = w.heap.size + 1 ∧ V.heap.size = w.heap.size + 1 + 1) := ⟨B0, r1.below b2, r2, z1, by omega⟩
  have HI : Hid (S4.Src w z l ∧ (∀ x ∈ l, 0 ≤ x ∧ x ≤ 255) ∧ f.ok ∧ known.ok ∧ 0 ≤ bits ∧ bits ≤ 255) := ⟨hs, hb, hf, hk, hbits⟩
  have HC : Hid (Cms V la ln lc lr ll ∧ Cms V ma mn mc' mr ml) := ⟨h1.below B0, h2.below B0⟩
  clear B0 h1 h2 hs hb hf hk hbits r1 r2 b1 b2 z1 z2
  go_enter Try.func5, Try.ntmps5
  go_wp2_with fail
  refine (made_any bits 7 la ln lc lr ll V HI.out.2.2.2.2 (by decide) HC.out.1).mono ?_
  rintro _ X1 ⟨⟨xp, rfl, p1⟩, b1⟩
  obtain ⟨P, hP⟩ : ∃ e, madeP bits (prtN 7) ll = e := ⟨_, rfl⟩
  have CP : chk P = true := by rw [← hP]; exact made_chk bits 7 ll
  rw [hP] at p1
  have K1 : Hid (IsPv X1 xp P ∧ chk P = true ∧ Below V.heap.size V X1) := ⟨p1, CP, b1⟩
  clear p1 CP b1 hP
  go_wp2_with fail
  refine (made_any bits 7 ma mn mc' mr ml X1 HI.out.2.2.2.2 (by decide) (HC.out.2.below K1.out.2.2)).mono ?_
  rintro _ X2 ⟨⟨xq, rfl, q1⟩, b2⟩
  obtain ⟨Q, hQ⟩ : ∃ e, madeP bits (prtN 7) ml = e := ⟨_, rfl⟩
  have CQ : chk Q = true := by rw [← hQ]; exact made_chk bits 7 ml
  rw [hQ] at q1
  obtain ⟨A1, hA1, rp, c1, z1⟩ := PrAt.zero X2
  obtain ⟨A2, hA2, rq, c2, z2⟩ := PrAt.zero A1
  have ip2 : IsPv A2 xp P := ((K1.out.1.below b2).below c1).below c2
  have iq2 : IsPv A2 xq Q := (q1.below c1).below c2
  obtain ⟨Y1, s1, m1, g1⟩ := (rp.below c2).st (y := xp) ip2.one
  have ip3 := ip2.keptV (rp.below c2) (zpv _) g1
  have iq3 := iq2.keptV (rp.below c2) (zpv _) g1
  have rq3 : PrAt Y1 A1.heap.size zP := rq.keptBut g1 (by simp; omega)
  obtain ⟨Y2, s2, m2, g2⟩ := rq3.st (y := xq) iq3.one
  have bY : Below V.heap.size V Y2 := gro (gro (below_over K1.out.2.2 (below_over b2 (below_over c1 c2))) g1 (by have := K1.out.2.2.size; have := b2.size; omega) (below_over K1.out.2.2 (below_over b2 (below_over c1 c2))).size) g2 (by have := K1.out.2.2.size; have := b2.size; omega) (Nat.le_trans (below_over K1.out.2.2 (below_over b2 (below_over c1 c2))).size g1.size)
  have K2 : Hid (PrAt Y2 X2.heap.size xp ∧ IsPv Y2 xp P ∧ PrAt Y2 A1.heap.size xq ∧ IsPv Y2 xq Q ∧ Below V.heap.size V Y2 ∧ (V.heap.size ≤ X2.heap.size ∧ A1.heap.size = X2.heap.size + 1) ∧ chk Q = true) := ⟨m1.keptBut g2 (by simp; omega), ip3.keptV rq3 (zpv _) g2, m2, iq3.keptV rq3 (zpv _) g2, bY, ⟨by have := K1.out.2.2.size; have := b2.size; omega, z1⟩, CQ⟩
  clear q1 CQ hQ b2 rp rq c1 c2 z1 z2 ip2 iq2 m1 g1 ip3 iq3 rq3 m2 g2 bY
  have l0 := (HB.out.2.1.below K2.out.2.2.2.2.1).ld
  go_wp2_with fail
  refine (fewf_any f z l w Y2 HI.out.1 (below_over HB.out.1 K2.out.2.2.2.2.1)).mono ?_
  rintro _ X3 ⟨⟨s, rfl, fs, fa, fn, fc, fa', fn', fc', ez, es, e8⟩, b3⟩
  subst ez es
  obtain ⟨Y3, s3, m3, g3⟩ := ((HB.out.2.1.below K2.out.2.2.2.2.1).below b3).st f (.slice fa' fn' fc') rfl
  have K : Hid (ThS w Y3 X2.heap.size A1.heap.size w.heap.size W1.heap.size xp xq P Q f (.slice fa' fn' fc') (l.take 1510) known ∧ Below w.heap.size w Y3) := by
    have fz := (HB.out.2.1.below K2.out.2.2.2.2.1).below b3
    have sw := fr_swap fz m3 g3
    have bb : Below w.heap.size w Y3 := gro (below_over (below_over HB.out.1 K2.out.2.2.2.2.1) b3) g3 (Nat.le_refl _) (below_over (below_over HB.out.1 K2.out.2.2.2.2.1) b3).size
    have hx := K2.out.2.2.2.2.2.1
    have hv := HB.out.2.2.2
    exact ⟨⟨bb, (K2.out.1.below b3).keptBut g3 (by simp; omega), few_swap sw e8 (K2.out.2.1.below b3) K1.out.2.1, (K2.out.2.2.1.below b3).keptBut g3 (by simp; omega), few_swap sw e8 (K2.out.2.2.2.1.below b3) K2.out.2.2.2.2.2.2, m3, fs.below bb, RvAt.keptBut ((HB.out.2.2.1.below K2.out.2.2.2.2.1).below b3) g3 (by simp; omega)⟩, bb⟩
  have HL : Hid ((∀ x ∈ l.take 1510, 0 ≤ x ∧ x ≤ 255) ∧ (l.take 1510).length ≤ 1510) := ⟨fun x hx => HI.out.2.1 x (List.mem_of_mem_take hx), List.length_take_le _ _⟩
  obtain ⟨m, hm⟩ : ∃ e, l.take 1510 = e := ⟨_, rfl⟩
  obtain ⟨s, hsv⟩ : ∃ e, Value.slice fa' fn' fc' = e := ⟨_, rfl⟩
  rw [hm, hsv] at K
  rw [hm] at HL
  rw [hsv] at s3 m3 ⊢
  have CC : Hid (chk P = true ∧ chk Q = true) := ⟨K1.out.2.1, K2.out.2.2.2.2.2.2⟩
  clear fs e8 b3 m3 g3 l0 hm hsv K1 K2
  have l0 := K.out.1.pp.ld
  have l1 := K.out.1.fr.ld
  have l2 := K.out.1.kn.ld
  go_wp2_with fail
  refine (enc_any xp P port f s m known has Y3 K.out.1.ip K.out.1.sr HL.out.1 HI.out.2.2.1 HI.out.2.2.2.1 (by have := HL.out.2; omega)).mono ?_
  rintro _ X4 ⟨t4, rfl, o4, bx4⟩
  obtain ⟨EB, hEB⟩ : ∃ e, encB P port f m known has = e := ⟨_, rfl⟩
  obtain ⟨EW, hEW⟩ : ∃ e, encW P port f m known has = e := ⟨_, rfl⟩
  obtain ⟨ER, hER⟩ : ∃ e, encR P port f m known has = e := ⟨_, rfl⟩
  have EQ : Hid (encB P port f m known has = EB ∧ encW P port f m known has = EW ∧ encR P port f m known has = ER) := ⟨hEB, hEW, hER⟩
  rw [hEB, hEW]
  rw [hER] at o4
  obtain ⟨Y4, s4, m4, by4, z4⟩ := BfAt.put X4 EB t4 o4.one
  have K4 : Hid (ThS w Y4 X2.heap.size A1.heap.size w.heap.size W1.heap.size xp xq P Q f s m known ∧ BfAt Y4 X4.heap.size EB t4 ∧ S4.Src Y4 t4 ER) := ⟨(K.out.1.below bx4).below by4, m4, (o4.below by4).src⟩
  clear o4 bx4 m4 by4 z4 hEB hEW hER l0 l1 l2 K
  by_cases he : EW = 0
  · subst he
    have EN : Hid (S4.chkF f m = 0 ∧ f.t = true ∧ (svc P port f.v).2 = true ∧ EB.i = (svc P port f.v).1 ∧ S4.chkB EB ER = 0 ∧ ER = m ∧ ∀ v, S4.shF EB v = f.vid v) := by
      have k := en_zero EQ.out.2.1
      have k1 := cls_zero k.1
      have k2 := hd_zero k.2.1
      rw [EQ.out.1] at k
      rw [EQ.out.2.2] at k
      refine ⟨k1.1, k1.2.1, k1.2.2.1, ?_, ?_, k.2.2.2, fun v => ?_⟩
      · rw [k.2.2.1, ← k1.2.2.2]
        exact rfl
      · rw [k.2.2.1, k.2.2.2]
        exact k2.2.2
      · rw [k.2.2.1]
        exact sh_hid k1.2.1
    obtain ⟨S, hS⟩ : ∃ e, (svc P port f.v).1 = e := ⟨_, rfl⟩
    have CS : Hid (Calls Try.prog 22 #[.agg xp.cs, .int .i64 port, .int .i64 f.v] Y4 fun r w' => r = .returned (.tuple #[.int .i64 S, .bool true]) ∧ Below Y4.heap.size Y4 w') := by
      have k := rsvc_any xp P port f.v Y4 K4.out.1.ip
      rw [EN.out.2.2.1, hS] at k
      exact k
    have ES : Hid (EB.i = S) := by rw [← hS]; exact EN.out.2.2.2.1
    have l0 := K4.out.1.pp.ld
    have c0 := K4.out.1.fr.c15
    clear hS
    go_wp2_with fail
    refine CS.out.mono ?_
    rintro _ X5 ⟨rfl, bx5⟩
    have K5 : Hid (ThS w X5 X2.heap.size A1.heap.size w.heap.size W1.heap.size xp xq P Q f s m known ∧ BfAt X5 X4.heap.size EB t4 ∧ S4.Src X5 t4 ER) := ⟨K4.out.1.below bx5, K4.out.2.1.below bx5, K4.out.2.2.below bx5⟩
    clear bx5 l0 c0 CS K4
    have l0 := K5.out.1.pq.ld
    have l1 := K5.out.2.1.ld
    have BO : Hid (EB.ok ∧ (∀ x ∈ ER, 0 ≤ x ∧ x ≤ 255)) := by
      refine ⟨?_, by rw [EN.out.2.2.2.2.2.1]; exact HL.out.1⟩
      have k := en_zero EQ.out.2.1
      rw [EQ.out.1] at k
      rw [k.2.2.1]
      refine S4.hidF_ok HI.out.2.2.1 (oM_ok K5.out.1.ip.wf) ?_
      unfold encT
      split
      · exact HI.out.2.2.2.1
      · exact grM_ok _
    go_wp2_with fail
    refine (decap_any xq Q EB t4 ER X5 K5.out.1.iq (okp_chk CC.out.2) K5.out.2.2 BO.out.2 BO.out.1).mono ?_
    rintro _ X6 ⟨⟨v6, rfl, c6⟩, bx6⟩
    obtain ⟨A, hA⟩ : ∃ e, att Q S = e := ⟨_, rfl⟩
    obtain ⟨DW, hDW⟩ : ∃ e, dpW Q EB ER = e := ⟨_, rfl⟩
    have ED : Hid (DW = (if A = [] then 7 else 0) ∧ dpL Q EB ER = A.map (fun y => (⟨y, S4.encL (f.vid (vof Q y S).1) m⟩ : Mb)) ∧ att Q S = A) := by
      refine ⟨?_, ?_, hA⟩
      · rw [← hDW]
        unfold dpW
        rw [if_pos EN.out.2.2.2.2.1, ES.out, hA]
      · rw [dp_map CC.out.2 EN.out.2.2.2.2.1, ES.out, hA, EN.out.2.2.2.2.2.1]
        refine List.map_congr_left fun y _ => ?_
        rw [EN.out.2.2.2.2.2.2]
    rw [hDW]
    rw [ED.out.2.1] at c6
    obtain ⟨r6, ⟨a6, n6, e6, rfl, t6⟩, al6⟩ := c6
    have K6 : Hid (ThS w X6 X2.heap.size A1.heap.size w.heap.size W1.heap.size xp xq P Q f s m known ∧ SlAt eY X6 a6 n6 e6 r6 ∧ Al (SrcC X6) r6 (A.map (fun y => (⟨y, S4.encL (f.vid (vof Q y S).1) m⟩ : Mb))) ∧ n6 = A.length) := ⟨K5.out.1.below bx6, t6, al6, by rw [← t6.len, al6.len, List.length_map]⟩
    have hn6 := t6.int
    clear t6 al6 bx6 hA hDW l0 l1 K5
    have l0 := K6.out.1.pq.ld
    go_wp2_with fail
    refine (ratt_any xq Q S X6 K6.out.1.iq (by have := (okp_chk CC.out.2).1; omega)).mono ?_
    rintro _ X7 ⟨⟨v7, rfl, o7⟩, bx7⟩
    rw [ED.out.2.2] at o7
    obtain ⟨a7, e7, rfl, t7, _⟩ := o7.form
    rw [← K6.out.2.2.2] at t7 ⊢
    have K7 : Hid (ThS w X7 X2.heap.size A1.heap.size w.heap.size W1.heap.size xp xq P Q f s m known ∧ SlAt eY X7 a6 n6 e6 r6 ∧ Al (SrcC X7) r6 (A.map (fun y => (⟨y, S4.encL (f.vid (vof Q y S).1) m⟩ : Mb))) ∧ SlAt eI X7 a7 n6 e7 A ∧ n6 = A.length) := ⟨K6.out.1.below bx7, K6.out.2.1.below bx7, K6.out.2.2.1.mono fun _ _ hh => hh.below bx7, t7, K6.out.2.2.2⟩
    clear o7 t7 bx7 l0 K6
    have Q9 : (DW == 0) = decide ((n6 : Int) > 0) := by
      rw [ED.out.1]
      by_cases hA : A = []
      · rw [if_pos hA]
        have : n6 = 0 := by rw [K7.out.2.2.2.2, hA]; rfl
        rw [this]
        rfl
      · rw [if_neg hA]
        have : 0 < n6 := by rw [K7.out.2.2.2.2]; exact List.length_pos_iff.2 hA
        have h2 : decide ((n6 : Int) > 0) = true := by simp; omega
        rw [h2]
        rfl
    obtain ⟨GB, hGB⟩ : ∃ e, decide ((n6 : Int) > 0) = e := ⟨_, rfl⟩
    have hGB' : decide ((0 : Int) < (n6 : Int)) = GB := hGB
    have hGB2 : decide (0 < n6) = GB := by rw [← hGB]; simp
    rw [hGB] at Q9
    go_wp2_with fail
    clear Q9 hGB hGB' hGB2
    go_loopw [24] (fun v wr => ∃ i : Nat, i ≤ n6 ∧ v = .int .i64 i ∧ Below X7.heap.size X7 wr) (fun v _ => n6 - (intOf v).toNat)
    case atStart => exact ⟨0, by omega, rfl, Below.refl _ _⟩
    case round =>
      obtain ⟨i, hi, rfl, hB⟩ := hrel
      have J : Hid (ThS w wr X2.heap.size A1.heap.size w.heap.size W1.heap.size xp xq P Q f s m known ∧ Below X7.heap.size X7 wr) := ⟨K7.out.1.below hB, hB⟩
      have hi0 : (0 : Int) ≤ (i : Int) := by omega
      clear hB
      by_cases hit : i < n6
      · have hi1 : (i : Int) < (n6 : Int) := by omega
        obtain ⟨y, hy⟩ : ∃ y, A[i]? = some y := ⟨_, List.getElem?_eq_getElem (by rw [← K7.out.2.2.2.2]; exact hit)⟩
        obtain ⟨zr, hzr⟩ : ∃ x, r6[i]? = some x := ⟨_, List.getElem?_eq_getElem (by rw [K7.out.2.1.len]; exact hit)⟩
        have hal := K7.out.2.2.1.at' i zr ⟨y, S4.encL (f.vid (vof Q y S).1) m⟩ hzr (by rw [List.getElem?_map, hy]; rfl)
        obtain ⟨b6, o6, rfl⟩ := K7.out.2.1.some' (by omega)
        obtain ⟨b7, o7, rfl⟩ := K7.out.2.2.2.1.some' (by omega)
        obtain ⟨V1, hV1⟩ : ∃ e, (vof Q y S).1 = e := ⟨_, rfl⟩
        have hvm := vof_att CC.out.2 (show y ∈ att Q S by rw [ED.out.2.2]; exact List.mem_of_getElem? hy)
        rw [hV1] at hal hvm
        have ez : zr.v = y := hal.1
        have CV : Hid (∀ q : Later wr, Calls Try.prog 25 #[.agg xq.cs, .int .i64 y, .int .i64 S] q.val fun r w' => r = .returned (.tuple #[.int .i64 V1, .bool true]) ∧ Below q.val.heap.size q.val w') := fun q => by
          have k := rvof_any xq Q y S q.val (J.out.1.iq.below q.below)
          rw [hV1, hvm.1] at k
          exact k
        have CF : Hid (S4.chkF (f.vid V1) m = 0 ∧ S4.Src wr (.slice zr.a zr.n zr.c) (S4.encL (f.vid V1) m) ∧ S4.encO (f.vid V1) m = S4.encL (f.vid V1) m) := by
          have h0 := chk_vid EN.out.1 EN.out.2.1 hvm.2
          exact ⟨h0, hal.2.below J.out.2, by unfold S4.encO; rw [if_pos h0]⟩
        have f0 := fun q : Later wr => ((K7.out.2.1.below J.out.2).below q.below |> fun h => lY0 h hzr)
        rw [ez] at f0
        have f1 := fun q : Later wr => (J.out.1.pq.below q.below).ld
        have HY : Hid (A[i]? = some y ∧ r6[i]? = some zr ∧ zr.v = y) := ⟨hy, hzr, ez⟩
        clear hy hzr hal hV1 hvm ez
        go_wp2_with fail
        refine wp_region_later (by kernel_rfl) (by kernel_rfl) ?_
        repeat (go_big_quiet_step (first
          | exact rfl
          | (go_at_call 25; with_reducible exact Calls.later_of (CV.out _))))
        refine wpQuiet_nil ?_
        intro _ hw'
        obtain ⟨q, rfl⟩ := hw'
        obtain ⟨X8, hX8⟩ : ∃ e, q.val = e := ⟨_, rfl⟩
        have K8 : Hid (ThS w X8 X2.heap.size A1.heap.size w.heap.size W1.heap.size xp xq P Q f s m known ∧ Below X7.heap.size X7 X8 ∧ S4.Src X8 (.slice zr.a zr.n zr.c) (S4.encL (f.vid V1) m)) := by rw [← hX8]; exact ⟨J.out.1.below q.below, below_over J.out.2 q.below, CF.out.2.1.below q.below⟩
        rw [hX8]
        clear hX8 f0 f1 CV J
        have l0 := K8.out.1.fr.ld
        obtain ⟨Y8, s8, m8, by8, z8⟩ := FrAt.put X8 f s (S4.src_one K8.out.1.sr)
        obtain ⟨Y9, s9, m9, g9⟩ := m8.stV V1
        have b9 : Below X8.heap.size X8 Y9 := gro by8 g9 (Nat.le_refl _) by8.size
        have K9 : Hid (FrAt Y9 X8.heap.size (f.vid V1) s ∧ Below X8.heap.size X8 Y9 ∧ S4.Src Y9 s m ∧ Below X7.heap.size X7 Y9 ∧ S4.Src Y9 (.slice zr.a zr.n zr.c) (S4.encL (f.vid V1) m)) := ⟨m9, b9, K8.out.1.sr.below b9, below_over K8.out.2.1 b9, K8.out.2.2.below b9⟩
        have l1 := m9.ld
        have CE : Hid (Calls Try.prog 26 #[.agg (S4.fcs (f.vid V1) s)] Y9 fun r w' => ∃ u, r = .returned (.tuple #[u, .int .i64 0]) ∧ S4.Own w' Y9.heap.size u (S4.encL (f.vid V1) m) ∧ Below Y9.heap.size Y9 w') := by
          have k := S4.encref_any (f.vid V1) s m Y9 K9.out.2.2.1 HL.out.1 HI.out.2.2.1
          rw [CF.out.1, CF.out.2.2] at k
          exact k
        clear m8 by8 z8 m9 g9 b9
        go_wp2_with fail
        refine CE.out.mono ?_
        rintro _ X9 ⟨u9, rfl, o9, bx9⟩
        have K10 : Hid (Below X7.heap.size X7 X9 ∧ S4.Src X9 (.slice zr.a zr.n zr.c) (S4.encL (f.vid V1) m) ∧ S4.Src X9 u9 (S4.encL (f.vid V1) m)) := ⟨below_over K9.out.2.2.2.1 bx9, K9.out.2.2.2.2.below bx9, o9.src⟩
        clear o9 bx9 l0 l1 CE K9 K8
        obtain ⟨BB, hBB⟩ : ∃ e, S4.bs (S4.encL (f.vid V1) m) = e := ⟨_, rfl⟩
        have f0 : ∀ q : Later X9, q.val.cell? ⟨b6, o6 + i * 2, none⟩ = some (.int .i64 y) := fun q => by have := lY0 ((K7.out.2.1.below K10.out.1).below q.below) HY.out.2.1; rw [HY.out.2.2] at this; exact this
        have f1 : ∀ q : Later X9, q.val.cell? ⟨b6, o6 + i * 2 + 1, none⟩ = some (.slice zr.a zr.n zr.c) := fun q => lY1 ((K7.out.2.1.below K10.out.1).below q.below) HY.out.2.1
        have f2 : ∀ q : Later X9, q.val.cell? ⟨b7, o7 + i, none⟩ = some (.int .i64 y) := fun q => lI ((K7.out.2.2.2.1.below K10.out.1).below q.below) HY.out.1
        have f3 : ∀ q : Later X9, (convert 30 9 (.slice zr.a zr.n zr.c)).run Try.prog q.val = .ok (.string BB) q.val := fun q => by rw [← hBB]; exact cv_src (K10.out.2.1.below q.below)
        have f4 : ∀ q : Later X9, (convert 30 9 u9).run Try.prog q.val = .ok (.string BB) q.val := fun q => by rw [← hBB]; exact cv_src (K10.out.2.2.below q.below)
        have ny : (y != y) = false := by simp
        clear hBB
        go_wp2_with fail
        refine wp_region_later (by kernel_rfl) (by kernel_rfl) ?_
        repeat (go_big_quiet_step (first | exact rfl))
        refine wpQuiet_nil ?_
        intro _ hw'
        obtain ⟨q, rfl⟩ := hw'
        obtain ⟨X11, hX11⟩ : ∃ e, q.val = e := ⟨_, rfl⟩
        have K11 : Hid (Below X7.heap.size X7 X11) := by rw [← hX11]; exact below_over K10.out.1 q.below
        rw [hX11]
        clear hX11 f0 f1 f2 f3 f4 ny K10
        go_wp2
        go_roundw
        case rel => exact ⟨i + 1, by omega, by go_num, K11.out⟩
        case measure => simp [intOf]; omega
      · obtain rfl : i = n6 := by omega
        have hi1 : ¬ (i : Int) < (i : Int) := by omega
        have KB : Hid (Below w.heap.size w wr) := J.out.1.bel
        clear hit
        go_wp2_with fail
        refine (awake_any wr).mono ?_
        rintro _ X10 ⟨rfl, bx10⟩
        have K10 : Hid (Below w.heap.size w X10) := below_over KB.out bx10
        clear bx10
        go_wp2
        go_ret
        exact ⟨rfl, K10.out⟩
  · have e0 : (EW != 0) = true := by simp [he]
    have KB : Hid (Below w.heap.size w Y4) := K4.out.1.bel
    clear he
    go_wp2_with fail
    refine (awake_any Y4).mono ?_
    rintro _ X10 ⟨rfl, bx10⟩
    have K10 : Hid (Below w.heap.size w X10) := below_over KB.out bx10
    clear bx10
    go_wp2
    go_ret
    exact ⟨rfl, K10.out⟩
end

section
set_option linter.unusedVariables false
set_option maxRecDepth 4000
open Go.ChangeShapes Go.WideShapes Go.ChangeAt Go.RowKit

variable {H : Type} {enc : TypeId × Value → H} {W : World}
theorem open_b {t : TypeId} {fuel : Nat} {c : Value} {r : DataW H × List MemPlace} (hu : Try.prog.underlying t = some .bool) (hf : DataW.trod enc Try.prog W 0 (fun _ => true) true fuel t [c] = some r) : ∃ b : Bool, c = .bool b := by
  obtain ⟨b, e, _⟩ := DataW.trod_bool hu hf
  simp at e
  exact ⟨b, e⟩
theorem open_entry {m0 : Nat} {c0 c1 c2 c3 c4 c5 c6 c7 c8 c9 : Value} {r : DataW H × List MemPlace} (hr : DataW.trod enc Try.prog W 0 (fun _ => true) true m0 104 [c0, c1, c2, c3, c4, c5, c6, c7, c8, c9] = some r) :
    ∃ (v a b c d e f p : Int) (st : Bool) (s : Int), c0 = .int .i64 v ∧ c1 = .int .u8 a ∧ c2 = .int .u8 b ∧ c3 = .int .u8 c ∧ c4 = .int .u8 d ∧ c5 = .int .u8 e ∧ c6 = .int .u8 f ∧ c7 = .int .i64 p ∧ c8 = .bool st ∧ c9 = .int .i64 s := by
    obtain ⟨xs, m, _, _, _, hl, hg⟩ := DataW.trod_struct Try.underlying104 hr
    have hl' : xs.length = 5 := hl
    have g00 : DataW.trod enc Try.prog W 0 (fun _ => true) true m 3 (([c0, c1, c2, c3, c4, c5, c6, c7, c8, c9].drop 0).take (Try.prog.cellsOf 3)) = xs[0]? := hg 0 _ rfl
    rw [List.getElem?_eq_getElem (by omega), show Try.prog.cellsOf 3 = 1 by kernel_rfl] at g00
    have g0 : DataW.trod enc Try.prog W 0 (fun _ => true) true m 3 [c0] = some xs[0] := g00
    have g10 : DataW.trod enc Try.prog W 0 (fun _ => true) true m 23 (([c0, c1, c2, c3, c4, c5, c6, c7, c8, c9].drop 1).take (Try.prog.cellsOf 23)) = xs[1]? := hg 1 _ rfl
    rw [List.getElem?_eq_getElem (by omega), show Try.prog.cellsOf 23 = 6 by kernel_rfl] at g10
    have g1 : DataW.trod enc Try.prog W 0 (fun _ => true) true m 23 [c1, c2, c3, c4, c5, c6] = some xs[1] := g10
    have g20 : DataW.trod enc Try.prog W 0 (fun _ => true) true m 3 (([c0, c1, c2, c3, c4, c5, c6, c7, c8, c9].drop 7).take (Try.prog.cellsOf 3)) = xs[2]? := hg 2 _ rfl
    rw [List.getElem?_eq_getElem (by omega), show Try.prog.cellsOf 3 = 1 by kernel_rfl] at g20
    have g2 : DataW.trod enc Try.prog W 0 (fun _ => true) true m 3 [c7] = some xs[2] := g20
    have g30 : DataW.trod enc Try.prog W 0 (fun _ => true) true m 4 (([c0, c1, c2, c3, c4, c5, c6, c7, c8, c9].drop 8).take (Try.prog.cellsOf 4)) = xs[3]? := hg 3 _ rfl
    rw [List.getElem?_eq_getElem (by omega), show Try.prog.cellsOf 4 = 1 by kernel_rfl] at g30
    have g3 : DataW.trod enc Try.prog W 0 (fun _ => true) true m 4 [c8] = some xs[3] := g30
    have g40 : DataW.trod enc Try.prog W 0 (fun _ => true) true m 3 (([c0, c1, c2, c3, c4, c5, c6, c7, c8, c9].drop 9).take (Try.prog.cellsOf 3)) = xs[4]? := hg 4 _ rfl
    rw [List.getElem?_eq_getElem (by omega), show Try.prog.cellsOf 3 = 1 by kernel_rfl] at g40
    have g4 : DataW.trod enc Try.prog W 0 (fun _ => true) true m 3 [c9] = some xs[4] := g40
    obtain ⟨n0, rfl⟩ := open_n Try.underlying3 g0
    obtain ⟨u, rfl, rfl, rfl, rfl, rfl, rfl, _⟩ := open_six g1
    obtain ⟨n2, rfl⟩ := open_n Try.underlying3 g2
    obtain ⟨b3, rfl⟩ := open_b Try.underlying4 g3
    obtain ⟨n4, rfl⟩ := open_n Try.underlying3 g4
    exact ⟨n0, u.a, u.b, u.c, u.d, u.e, u.f, n2, b3, n4, rfl, rfl, rfl, rfl, rfl, rfl, rfl, rfl, rfl, rfl⟩
theorem open_cmd0 {m0 : Nat} {cs : List Value} {r : DataW H × List MemPlace} (hr : DataW.trod enc Try.prog W 0 (fun _ => true) true m0 108 cs = some r) : ∃ u : Cm, (∃ d, IsCm W u d) ∧ cs = (eD.f u).toList := by
  obtain ⟨xs, m, _, _, hsz, hl, hg⟩ := DataW.trod_struct Try.underlying108 hr
  rw [cellsD] at hsz
  match cs, hsz with
  | [c0, c1, c2, c3, c4, c5, c6, c7, c8, c9, c10, c11, c12, c13, c14, c15, c16, c17, c18, c19, c20], _ =>
    have hl' : xs.length = 8 := hl
    have g00 : DataW.trod enc Try.prog W 0 (fun _ => true) true m 98 (([c0, c1, c2, c3, c4, c5, c6, c7, c8, c9, c10, c11, c12, c13, c14, c15, c16, c17, c18, c19, c20].drop 0).take (Try.prog.cellsOf 98)) = xs[0]? := hg 0 _ rfl
    rw [List.getElem?_eq_getElem (by omega), show Try.prog.cellsOf 98 = 1 by kernel_rfl] at g00
    have g0 : DataW.trod enc Try.prog W 0 (fun _ => true) true m 98 [c0] = some xs[0] := g00
    have g10 : DataW.trod enc Try.prog W 0 (fun _ => true) true m 100 (([c0, c1, c2, c3, c4, c5, c6, c7, c8, c9, c10, c11, c12, c13, c14, c15, c16, c17, c18, c19, c20].drop 1).take (Try.prog.cellsOf 100)) = xs[1]? := hg 1 _ rfl
    rw [List.getElem?_eq_getElem (by omega), show Try.prog.cellsOf 100 = 3 by kernel_rfl] at g10
    have g1 : DataW.trod enc Try.prog W 0 (fun _ => true) true m 100 [c1, c2, c3] = some xs[1] := g10
    have g20 : DataW.trod enc Try.prog W 0 (fun _ => true) true m 102 (([c0, c1, c2, c3, c4, c5, c6, c7, c8, c9, c10, c11, c12, c13, c14, c15, c16, c17, c18, c19, c20].drop 4).take (Try.prog.cellsOf 102)) = xs[2]? := hg 2 _ rfl
    rw [List.getElem?_eq_getElem (by omega), show Try.prog.cellsOf 102 = 2 by kernel_rfl] at g20
    have g2 : DataW.trod enc Try.prog W 0 (fun _ => true) true m 102 [c4, c5] = some xs[2] := g20
    have g30 : DataW.trod enc Try.prog W 0 (fun _ => true) true m 76 (([c0, c1, c2, c3, c4, c5, c6, c7, c8, c9, c10, c11, c12, c13, c14, c15, c16, c17, c18, c19, c20].drop 6).take (Try.prog.cellsOf 76)) = xs[3]? := hg 3 _ rfl
    rw [List.getElem?_eq_getElem (by omega), show Try.prog.cellsOf 76 = 2 by kernel_rfl] at g30
    have g3 : DataW.trod enc Try.prog W 0 (fun _ => true) true m 76 [c6, c7] = some xs[3] := g30
    have g40 : DataW.trod enc Try.prog W 0 (fun _ => true) true m 104 (([c0, c1, c2, c3, c4, c5, c6, c7, c8, c9, c10, c11, c12, c13, c14, c15, c16, c17, c18, c19, c20].drop 8).take (Try.prog.cellsOf 104)) = xs[4]? := hg 4 _ rfl
    rw [List.getElem?_eq_getElem (by omega), show Try.prog.cellsOf 104 = 10 by kernel_rfl] at g40
    have g4 : DataW.trod enc Try.prog W 0 (fun _ => true) true m 104 [c8, c9, c10, c11, c12, c13, c14, c15, c16, c17] = some xs[4] := g40
    have g50 : DataW.trod enc Try.prog W 0 (fun _ => true) true m 105 (([c0, c1, c2, c3, c4, c5, c6, c7, c8, c9, c10, c11, c12, c13, c14, c15, c16, c17, c18, c19, c20].drop 18).take (Try.prog.cellsOf 105)) = xs[5]? := hg 5 _ rfl
    rw [List.getElem?_eq_getElem (by omega), show Try.prog.cellsOf 105 = 1 by kernel_rfl] at g50
    have g5 : DataW.trod enc Try.prog W 0 (fun _ => true) true m 105 [c18] = some xs[5] := g50
    have g60 : DataW.trod enc Try.prog W 0 (fun _ => true) true m 3 (([c0, c1, c2, c3, c4, c5, c6, c7, c8, c9, c10, c11, c12, c13, c14, c15, c16, c17, c18, c19, c20].drop 19).take (Try.prog.cellsOf 3)) = xs[6]? := hg 6 _ rfl
    rw [List.getElem?_eq_getElem (by omega), show Try.prog.cellsOf 3 = 1 by kernel_rfl] at g60
    have g6 : DataW.trod enc Try.prog W 0 (fun _ => true) true m 3 [c19] = some xs[6] := g60
    have g70 : DataW.trod enc Try.prog W 0 (fun _ => true) true m 106 (([c0, c1, c2, c3, c4, c5, c6, c7, c8, c9, c10, c11, c12, c13, c14, c15, c16, c17, c18, c19, c20].drop 20).take (Try.prog.cellsOf 106)) = xs[7]? := hg 7 _ rfl
    rw [List.getElem?_eq_getElem (by omega), show Try.prog.cellsOf 106 = 1 by kernel_rfl] at g70
    have g7 : DataW.trod enc Try.prog W 0 (fun _ => true) true m 106 [c20] = some xs[7] := g70
    obtain ⟨k, rfl⟩ := open_n Try.underlying98 g0
    obtain ⟨mm, _, em⟩ := open_map g1
    obtain ⟨cc, _, ec⟩ := open_carry g2
    obtain ⟨bb, ⟨l, hb⟩, eb⟩ := open_mem g3
    obtain ⟨v, a, b, c, d, e, f, p, st, s, rfl, rfl, rfl, rfl, rfl, rfl, rfl, rfl, rfl, rfl⟩ := open_entry g4
    obtain ⟨n5, rfl⟩ := open_n Try.underlying105 g5
    obtain ⟨n6, rfl⟩ := open_n Try.underlying3 g6
    obtain ⟨n7, rfl⟩ := open_n Try.underlying106 g7
    have em' : [c1, c2, c3] = [.int .i64 mm.p, .int .i64 mm.v, .int .i64 mm.s] := em
    have ec' : [c4, c5] = [.int .i64 cc.s, .int .i64 cc.v] := ec
    have eb' : [c6, c7] = [.int .i64 bb.v, .slice bb.a bb.n bb.c] := eb
    simp only [List.cons.injEq, and_true] at em' ec' eb'
    obtain ⟨rfl, rfl, rfl⟩ := em'
    obtain ⟨rfl, rfl⟩ := ec'
    obtain ⟨rfl, rfl⟩ := eb'
    exact ⟨⟨k, mm, cc, bb, ⟨v, a, b, c, d, e, f, p, st, s, n5, n6, n7⟩⟩, ⟨⟨k, mm, cc, ⟨bb.v, l⟩⟩, rfl, rfl, rfl, rfl, hb⟩, rfl⟩
theorem cms_of {a : Option Addr} {n c : Nat} {r : List Cm} (hs : SlAt eD W a n c r) (h : ∀ u ∈ r, ∃ d, IsCm W u d) : ∃ l, Cms W a n c r l := by
  have key : ∀ r : List Cm, (∀ u ∈ r, ∃ d, IsCm W u d) → ∃ l : List Cd, r.length = l.length ∧ ∀ (i : Nat) (x : Cm) (y : Cd), r[i]? = some x → l[i]? = some y → IsCm W x y := by
    intro r
    induction r with
    | nil => exact fun _ => ⟨[], rfl, fun i x y hx => by simp at hx⟩
    | cons x r ih =>
      intro h
      obtain ⟨l, hl, ha⟩ := ih fun u hu => h u (List.mem_cons_of_mem _ hu)
      obtain ⟨d, hd⟩ := h x (List.mem_cons_self ..)
      refine ⟨d :: l, by simp [hl], fun i u v hu hv => ?_⟩
      cases i with
      | zero => simp at hu hv; subst hu hv; exact hd
      | succ i => simp at hu hv; exact ha i u v hu hv
  obtain ⟨l, h1, h2⟩ := key r h
  exact ⟨l, hs, h1, h2⟩
theorem open_mapv {base : Nat} {v : Value} {dd : DataW H} {pl : List MemPlace} (hv : Value.okWide Try.prog W .any base 100 v) (h : DataW.Trod enc Try.prog W 0 (fun _ => true) true 100 v dd pl) : ∃ x : Mp, v = .agg x.cs := by
  obtain ⟨cs, rfl, hsz, _⟩ : ∃ cs, v = .agg cs ∧ cs.size = Try.prog.cellsOf 100 ∧ Row.okWide Try.prog W .any base 100 cs := by
    simpa [Value.okWide, Try.underlying100] using hv
  obtain ⟨l⟩ := cs
  obtain ⟨fuel, hf⟩ := h
  have hf : DataW.trod enc Try.prog W 0 (fun _ => true) true fuel 100 l = some (dd, pl) := hf
  obtain ⟨u, _, rfl⟩ := open_map hf
  exact ⟨u, rfl⟩
theorem open_carryv {base : Nat} {v : Value} {dd : DataW H} {pl : List MemPlace} (hv : Value.okWide Try.prog W .any base 102 v) (h : DataW.Trod enc Try.prog W 0 (fun _ => true) true 102 v dd pl) : ∃ x : Cr, v = .agg x.cs := by
  obtain ⟨cs, rfl, hsz, _⟩ : ∃ cs, v = .agg cs ∧ cs.size = Try.prog.cellsOf 102 ∧ Row.okWide Try.prog W .any base 102 cs := by
    simpa [Value.okWide, Try.underlying102] using hv
  obtain ⟨l⟩ := cs
  obtain ⟨fuel, hf⟩ := h
  have hf : DataW.trod enc Try.prog W 0 (fun _ => true) true fuel 102 l = some (dd, pl) := hf
  obtain ⟨u, _, rfl⟩ := open_carry hf
  exact ⟨u, rfl⟩
theorem open_member {base : Nat} {v : Value} {dd : DataW H} {pl : List MemPlace} (hv : Value.okWide Try.prog W .any base 76 v) (h : DataW.Trod enc Try.prog W 0 (fun _ => true) true 76 v dd pl) : ∃ (x : Mr) (y : List Int), v = .agg x.cs ∧ SlAt eI W x.a x.n x.c y := by
  obtain ⟨cs, rfl, hsz, _⟩ : ∃ cs, v = .agg cs ∧ cs.size = Try.prog.cellsOf 76 ∧ Row.okWide Try.prog W .any base 76 cs := by
    simpa [Value.okWide, Try.underlying76] using hv
  obtain ⟨l⟩ := cs
  obtain ⟨fuel, hf⟩ := h
  have hf : DataW.trod enc Try.prog W 0 (fun _ => true) true fuel 76 l = some (dd, pl) := hf
  obtain ⟨u, ⟨l, hl⟩, rfl⟩ := open_mem hf
  exact ⟨u, l, rfl, hl⟩
theorem open_cmd {base : Nat} {v : Value} {dd : DataW H} {pl : List MemPlace} (hv : Value.okWide Try.prog W .any base 108 v) (h : DataW.Trod enc Try.prog W 0 (fun _ => true) true 108 v dd pl) : ∃ (x : Cm) (y : Cd), v = .agg x.cs ∧ IsCm W x y := by
  obtain ⟨cs, rfl, hsz, _⟩ : ∃ cs, v = .agg cs ∧ cs.size = Try.prog.cellsOf 108 ∧ Row.okWide Try.prog W .any base 108 cs := by
    simpa [Value.okWide, Try.underlying108] using hv
  obtain ⟨l⟩ := cs
  obtain ⟨fuel, hf⟩ := h
  have hf : DataW.trod enc Try.prog W 0 (fun _ => true) true fuel 108 l = some (dd, pl) := hf
  obtain ⟨u, ⟨d, hd⟩, rfl⟩ := open_cmd0 hf
  exact ⟨u, d, rfl, hd⟩
theorem open_cmds {base : Nat} {v : Value} {dd : DataW H} {pl : List MemPlace} (hv : Value.okWide Try.prog W .any base 54 v) (h : DataW.Trod enc Try.prog W 0 (fun _ => true) true 54 v dd pl) :
    ∃ (a : Option Addr) (n c : Nat) (r : List Cm) (l : List Cd), v = .slice a n c ∧ Cms W a n c r l := by
  obtain ⟨a0, n0, c0, rfl⟩ := okWide_slice kD.slc hv
  obtain ⟨fuel, hf⟩ := h
  have : Inhabited Cm := ⟨zD⟩
  have hf' : DataW.trod enc Try.prog W 0 (fun _ => true) true fuel 54 [Value.slice a0 n0 c0] = some (dd, pl) := hf
  obtain ⟨a, n, c, r, e, hs, hp⟩ := open_tr (e := eD) kD cellsD (fun u => ∃ d, IsCm W u d) (fun m cs r hr => open_cmd0 hr) hf'
  obtain ⟨l, hl⟩ := cms_of hs hp
  exact ⟨a, n, c, r, l, e, hl⟩
end

end Go.Proofs.Ytgjagedngdhdaaa
