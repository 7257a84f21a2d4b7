/-
  The walks of Learn, Static, Unstatic, Len, New, for every database and every input.
-/
import Derived.Test.YtpbpofmlpbobmaaPut
namespace Go.Proofs.Ytpbpofmlpbobmaa
set_option linter.unusedVariables false
set_option maxRecDepth 4000
set_option linter.unusedSimpArgs false
open Go.RowKit

/-- What was said to be static of a key. -/
def stOf (l : List En) (q : Int) : Bool := match look l q with | some x => x.st | none => false
def learnS (c : Cf) (l : List En) (k : Ky) (port tick : Int) : List En × Int :=
  if (!mayOf c.ports k port || !inn tick 0 1099511627776) = true then (l, 70) else if stOf l k.rk = true then (l, 0) else putS c.room l ⟨k, port, false, tick⟩
def staticS (c : Cf) (l : List En) (k : Ky) (port : Int) : List En × Int :=
  if mayOf c.ports k port = true then putS c.room l ⟨k, port, true, 0⟩ else (l, 70)
def unstaticS (l : List En) (k : Ky) : List En × Int := if stOf l k.rk = true then (del l k.rk, 0) else (l, 72)
/-- A look-up's answer, written out. -/
def plP (l : List En) (q : Int) : Int := match look l q with | some x => x.port | none => 0
def plS (l : List En) (q : Int) : Int := match look l q with | some x => x.seen | none => 0
theorem plOf_out (l : List En) (q : Int) : (Value.agg (plOf (look l q)) : Value) = .agg #[.int .i64 (plP l q), .bool (stOf l q), .int .i64 (plS l q)] := by
  unfold plP stOf plS
  cases look l q <;> rfl
theorem may_ent {ports : Int} {k : Ky} {port : Int} (hp : 1 ≤ ports ∧ ports ≤ 8) (h : mayOf ports k port = true) : 0 ≤ port ∧ port ≤ 7 := by
  simp only [mayOf, inn, Bool.and_eq_true, decide_eq_true_eq] at h
  omega
theorem mac_new (w : World) (k : Ky) : ∃ W, w.alloc (.cells k.mc 34) = W ∧ (ldS 34 (.pointer (some ⟨w.heap.size, 0, none⟩))).run Try.prog W = .ok (.agg #[.int .u8 k.a, .int .u8 k.b, .int .u8 k.c, .int .u8 k.d, .int .u8 k.e, .int .u8 k.f]) W ∧ Below w.heap.size w W ∧ W.heap.size = w.heap.size + 1 :=
  ⟨_, rfl, (RvAt.new w _ _).ld rtM (Ky.msize k), (Below.refl _ _).alloc (Nat.le_refl _) _, by simp⟩
theorem key_new (W : World) (k : Ky) : ∃ W', (stS 68 (.pointer (some ⟨W.heap.size, 0, none⟩)) (.agg #[.int .i64 k.vid, .int .u8 k.a, .int .u8 k.b, .int .u8 k.c, .int .u8 k.d, .int .u8 k.e, .int .u8 k.f])).run Try.prog (W.alloc (.cells #[.int .i64 0, .int .u8 0, .int .u8 0, .int .u8 0, .int .u8 0, .int .u8 0, .int .u8 0] 68)) = .ok () W' ∧ RvAt W' W.heap.size 68 k.cs ∧ Below W.heap.size W W' ∧ W'.heap.size = W.heap.size + 1 :=
  row_new rtK W #[.int .i64 0, .int .u8 0, .int .u8 0, .int .u8 0, .int .u8 0, .int .u8 0, .int .u8 0] k.cs rfl (Ky.size _) (Ky.one _)
attribute [local go_sem ↓] ldK stK ldM stM ldP stP
set_option maxHeartbeats 2000000 in
theorem learn_any (p b : Nat) (c : Cf) (l : List En) (k : Ky) (port tick : Int) (w : World) (h : Db w p b c l) (hk : k.wf) :
    Calls Try.prog 11 #[.pointer (some ⟨p, 0, none⟩), .int .i64 k.vid, .agg k.mc, .int .i64 port, .int .i64 tick] w fun r w' => r = .returned (.int .i64 (learnS c l k port tick).2) ∧ Db w' p b c (learnS c l k port tick).1 ∧ w.grownBy w' (some b) := by
  obtain ⟨W, hW, lm, bW, zW⟩ := mac_new w k
  obtain ⟨W1, st1, rv1, b1, z1⟩ := key_new W k
  have hD := h.below bW
  have l1 := rv1.ld rtK (Ky.size _)
  have H : Hid (Db w p b c l ∧ k.wf ∧ Db W p b c l ∧ Db W1 p b c l ∧ RvAt W1 W.heap.size 68 k.cs ∧ w.grownBy W1 (some b)) := ⟨h, hk, hD, hD.below b1, rv1, grown_of_below (below_over bW b1) _⟩
  have zH : Hid (W.heap.size = w.heap.size + 1) := zW
  clear h hk bW zW b1 z1 rv1 hD
  go_enter Try.func11, Try.ntmps11
  go_wp2_with fail
  refine (made_any p _ _ H.out.2.2.1.c3).mono ?_
  rintro _ Y ⟨rfl, hY⟩
  rw [hY]
  clear hY Y
  simp only [Option.isSome_some]
  go_wp2_with fail
  refine (mayBe_any p c.ports k port _ H.out.2.2.2.1.c0 H.out.1.wf.ports H.out.2.1).mono ?_
  rintro _ W2 ⟨rfl, b2⟩
  have G : Hid (Db W2 p b c l ∧ RvAt W2 W.heap.size 68 k.cs ∧ w.grownBy W2 (some b)) := ⟨H.out.2.2.2.1.below b2, H.out.2.2.2.2.1.below b2, H.out.2.2.2.2.2.andThen (grown_of_below b2 none) (fun j e => by cases e)⟩
  clear b2 lm st1 l1 hW
  cases hm : mayOf c.ports k port
  · have hE : Hid (learnS c l k port tick = (l, 70)) := show learnS c l k port tick = _ by unfold learnS; rw [if_pos (by simp [hm])]
    clear hm
    go_wp2
    go_ret
    exact ⟨by rw [hE.out]; rfl, by rw [hE.out]; exact G.out.1, G.out.2.2⟩
  · go_wp2_with fail
    refine (within_any _ _ _ _).mono ?_
    rintro _ Y ⟨rfl, hY⟩
    rw [hY]
    clear hY Y
    cases ht : inn tick 0 1099511627776
    · have hE : Hid (learnS c l k port tick = (l, 70)) := show learnS c l k port tick = _ by unfold learnS; rw [if_pos (by simp [ht])]
      clear hm ht
      go_wp2
      go_ret
      exact ⟨by rw [hE.out]; rfl, by rw [hE.out]; exact G.out.1, G.out.2.2⟩
    · have v3 := fun q : Later W2 => (G.out.1.below q.below).c3
      have v1 := fun q : Later W2 => (G.out.2.1.below q.below).ld rtK (Ky.size _)
      have vl := fun q : Later W2 => (G.out.1.below q.below).map.look1 H.out.2.1
      simp only [plOf_out] at vl
      have hp7 := may_ent H.out.1.wf.ports hm
      have ht2 : 0 ≤ tick ∧ tick ≤ 1099511627776 := by simpa [inn] using ht
      go_wp2_with fail
      refine wp_region_later (by kernel_rfl) (by kernel_rfl) ?_
      repeat (go_big_quiet_step (first | exact rfl))
      refine wpQuiet_nil ?_
      intro _ hw'
      obtain ⟨q, rfl⟩ := hw'
      have Gq : Hid (Db q.val p b c l ∧ w.grownBy q.val (some b)) := ⟨G.out.1.below q.below, G.out.2.2.andThen (grown_of_below q.below none) (fun j e => by cases e)⟩
      have lq := v1 q
      clear v3 vl v1
      cases hst : stOf l k.rk
      · have hE : Hid (learnS c l k port tick = putS c.room l ⟨k, port, false, tick⟩) := show learnS c l k port tick = _ by unfold learnS; rw [if_neg (by simp [hm, ht]), if_neg (by simp [hst])]
        have he : Hid (En.wf ⟨k, port, false, tick⟩) := ⟨H.out.2.1, hp7, ht2⟩
        clear hm ht hst hp7 ht2
        go_wp2_with fail
        refine (put_any p b c l ⟨k, port, false, tick⟩ _ Gq.out.1 he.out).mono ?_
        rintro _ W3 ⟨rfl, d3, g3⟩
        have G3 : Hid (Db W3 p b c (putS c.room l ⟨k, port, false, tick⟩).1 ∧ w.grownBy W3 (some b)) := ⟨d3, Gq.out.2.andThen g3 (fun j e => .inr e)⟩
        clear d3 g3
        go_wp2
        go_ret
        exact ⟨by rw [hE.out]; rfl, by rw [hE.out]; exact G3.out.1, G3.out.2⟩
      · have hE : Hid (learnS c l k port tick = (l, 0)) := show learnS c l k port tick = _ by unfold learnS; rw [if_neg (by simp [hm, ht]), if_pos hst]
        clear hm ht hst
        go_wp2
        go_ret
        exact ⟨by rw [hE.out]; rfl, by rw [hE.out]; exact Gq.out.1, Gq.out.2⟩
set_option maxHeartbeats 2000000 in
theorem static_any (p b : Nat) (c : Cf) (l : List En) (k : Ky) (port : Int) (w : World) (h : Db w p b c l) (hk : k.wf) :
    Calls Try.prog 13 #[.pointer (some ⟨p, 0, none⟩), .int .i64 k.vid, .agg k.mc, .int .i64 port] w fun r w' => r = .returned (.int .i64 (staticS c l k port).2) ∧ Db w' p b c (staticS c l k port).1 ∧ w.grownBy w' (some b) := by
  obtain ⟨W, hW, lm, bW, zW⟩ := mac_new w k
  obtain ⟨W1, st1, rv1, b1, z1⟩ := key_new W k
  have hD := h.below bW
  have l1 := rv1.ld rtK (Ky.size _)
  have H : Hid (Db w p b c l ∧ k.wf ∧ Db W p b c l ∧ Db W1 p b c l ∧ RvAt W1 W.heap.size 68 k.cs ∧ w.grownBy W1 (some b)) := ⟨h, hk, hD, hD.below b1, rv1, grown_of_below (below_over bW b1) _⟩
  have zH : Hid (W.heap.size = w.heap.size + 1) := zW
  clear h hk bW zW b1 z1 rv1 hD
  go_enter Try.func13, Try.ntmps13
  go_wp2_with fail
  refine (made_any p _ _ H.out.2.2.1.c3).mono ?_
  rintro _ Y ⟨rfl, hY⟩
  rw [hY]
  clear hY Y
  simp only [Option.isSome_some]
  go_wp2_with fail
  refine (mayBe_any p c.ports k port _ H.out.2.2.2.1.c0 H.out.1.wf.ports H.out.2.1).mono ?_
  rintro _ W2 ⟨rfl, b2⟩
  have G : Hid (Db W2 p b c l ∧ RvAt W2 W.heap.size 68 k.cs ∧ w.grownBy W2 (some b)) := ⟨H.out.2.2.2.1.below b2, H.out.2.2.2.2.1.below b2, H.out.2.2.2.2.2.andThen (grown_of_below b2 none) (fun j e => by cases e)⟩
  have l2 := G.out.2.1.ld rtK (Ky.size _)
  clear b2 lm st1 l1 hW
  cases hm : mayOf c.ports k port
  · have hE : Hid (staticS c l k port = (l, 70)) := show staticS c l k port = _ by unfold staticS; rw [if_neg (by simp [hm])]
    clear hm
    go_wp2
    go_ret
    exact ⟨by rw [hE.out]; rfl, by rw [hE.out]; exact G.out.1, G.out.2.2⟩
  · have hp7 := may_ent H.out.1.wf.ports hm
    have hE : Hid (staticS c l k port = putS c.room l ⟨k, port, true, 0⟩) := show staticS c l k port = _ by unfold staticS; rw [if_pos hm]
    have he : Hid (En.wf ⟨k, port, true, 0⟩) := ⟨H.out.2.1, hp7, by simp⟩
    clear hm hp7
    go_wp2_with fail
    refine (put_any p b c l ⟨k, port, true, 0⟩ _ G.out.1 he.out).mono ?_
    rintro _ W3 ⟨rfl, d3, g3⟩
    have G3 : Hid (Db W3 p b c (putS c.room l ⟨k, port, true, 0⟩).1 ∧ w.grownBy W3 (some b)) := ⟨d3, G.out.2.2.andThen g3 (fun j e => .inr e)⟩
    clear d3 g3
    go_wp2
    go_ret
    exact ⟨by rw [hE.out]; rfl, by rw [hE.out]; exact G3.out.1, G3.out.2⟩
set_option maxHeartbeats 2000000 in
theorem unstatic_any (p b : Nat) (c : Cf) (l : List En) (k : Ky) (w : World) (h : Db w p b c l) (hk : k.wf) :
    Calls Try.prog 15 #[.pointer (some ⟨p, 0, none⟩), .int .i64 k.vid, .agg k.mc] w fun r w' => r = .returned (.int .i64 (unstaticS l k).2) ∧ Db w' p b c (unstaticS l k).1 ∧ w.grownBy w' (some b) := by
  obtain ⟨W, hW, lm, bW, zW⟩ := mac_new w k
  obtain ⟨W1, st1, rv1, b1, z1⟩ := key_new W k
  have hD := h.below bW
  have hD1 := hD.below b1
  have v3 := fun q : Later W1 => (hD1.below q.below).c3
  have v1 := fun q : Later W1 => (rv1.below q.below).ld rtK (Ky.size _)
  have vl := fun q : Later W1 => (hD1.below q.below).map.look1 hk
  simp only [plOf_out] at vl
  have H : Hid (Db w p b c l ∧ k.wf ∧ Db W p b c l ∧ Db W1 p b c l ∧ RvAt W1 W.heap.size 68 k.cs ∧ w.grownBy W1 (some b)) := ⟨h, hk, hD, hD1, rv1, grown_of_below (below_over bW b1) _⟩
  have zH : Hid (W.heap.size = w.heap.size + 1) := zW
  clear h hk bW zW b1 z1 rv1 hD hD1
  go_enter Try.func15, Try.ntmps15
  go_wp2_with fail
  refine (made_any p _ _ H.out.2.2.1.c3).mono ?_
  rintro _ Y ⟨rfl, hY⟩
  rw [hY]
  clear hY Y
  simp only [Option.isSome_some]
  go_wp2_with fail
  refine wp_region_later (by kernel_rfl) (by kernel_rfl) ?_
  repeat (go_big_quiet_step (first | exact rfl))
  refine wpQuiet_nil ?_
  intro _ hw'
  obtain ⟨q, rfl⟩ := hw'
  have Gq : Hid (Db q.val p b c l ∧ RvAt q.val W.heap.size 68 k.cs ∧ w.grownBy q.val (some b)) := ⟨H.out.2.2.2.1.below q.below, H.out.2.2.2.2.1.below q.below, H.out.2.2.2.2.2.andThen (grown_of_below q.below none) (fun j e => by cases e)⟩
  clear v3 vl v1 lm st1 hW
  cases hst : stOf l k.rk
  · have hE : Hid (unstaticS l k = (l, 72)) := show unstaticS l k = _ by unfold unstaticS; rw [if_neg (by simp [hst])]
    clear hst
    go_wp2
    go_ret
    exact ⟨by rw [hE.out]; rfl, by rw [hE.out]; exact Gq.out.1, Gq.out.2.2⟩
  · have hE : Hid (unstaticS l k = (del l k.rk, 0)) := show unstaticS l k = _ by unfold unstaticS; rw [if_pos hst]
    clear hst
    go_wp2_with fail
    have v3 := fun y : Later q.val => (Gq.out.1.below y.below).c3
    have v1 := fun y : Later q.val => (Gq.out.2.1.below y.below).ld rtK (Ky.size _)
    refine wp_region_later_tail 5 (by kernel_rfl) (by kernel_rfl) ?_
    simp only [List.take_succ_cons, List.take_zero]
    repeat (go_big_quiet_step (first | exact rfl))
    refine wpQuiet_nil ?_
    intro y
    simp only [List.drop_succ_cons, List.drop_zero]
    obtain ⟨V4, s4, m4, g4, z4⟩ := (Gq.out.1.below y.below).map.drop H.out.2.1 0
    have hlen : ((del l k.rk).length : Int) ≤ c.room := by
      have h1 : (del l k.rk).length ≤ l.length := List.length_filter_le _ _
      have := H.out.1.len
      omega
    have G4 : Hid (Db V4 p b c (del l k.rk) ∧ w.grownBy V4 (some b)) := ⟨(Gq.out.1.below y.below).turn g4 m4 hlen, (Gq.out.2.2.andThen (grown_of_below y.below none) (fun j e => by cases e)).andThen g4 (fun j e => .inr e)⟩
    clear m4 g4 z4 v1 v3 hlen
    go_wp2
    go_ret
    exact ⟨by rw [hE.out]; rfl, by rw [hE.out]; exact G4.out.1, G4.out.2⟩
set_option maxHeartbeats 2000000 in
theorem len_any (p b : Nat) (c : Cf) (l : List En) (w : World) (h : Db w p b c l) :
    Calls Try.prog 26 #[.pointer (some ⟨p, 0, none⟩)] w fun r w' => r = .returned (.int .i64 l.length) ∧ w' = w := by
  have c3 := h.c3
  have hl := h.map.len
  go_enter Try.func26, Try.ntmps26
  go_wp2_with fail
  refine (made_any p _ _ c3).mono ?_
  rintro _ Y ⟨rfl, hY⟩
  rw [hY]
  clear hY Y
  simp only [Option.isSome_some]
  go_wp2
  go_ret
  exact ⟨rfl, rfl⟩
end Go.Proofs.Ytpbpofmlpbobmaa
