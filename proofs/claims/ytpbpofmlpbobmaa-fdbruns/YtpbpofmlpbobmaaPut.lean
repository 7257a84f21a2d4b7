/-
  The walk of put, for every database and every entry.
-/
import Derived.Test.YtpbpofmlpbobmaaEldest
namespace Go.Proofs.Ytpbpofmlpbobmaa
set_option linter.unusedVariables false
set_option maxRecDepth 4000
set_option linter.unusedSimpArgs false
open Go.RowKit

/-- What comes of an entry that is put. -/
def putS (room : Int) (l : List En) (e : En) : List En × Int :=
  if (look l e.rk).isSome = true ∨ (l.length : Int) < room then (put l e, 0) else match eld l with
    | none => (l, 71)
    | some x => (put (del l x.rk) e, 0)
theorem look_del {l : List En} {q r : Int} (h : look l q = none) : look (del l r) q = none := look_none.2 (fun x hx => look_none.1 h x (mem_del.1 hx).1)
theorem putS_len {room : Int} {l : List En} {e : En} (hs : Srt l) (hl : (l.length : Int) ≤ room) : ((putS room l e).1.length : Int) ≤ room := by
  unfold putS
  split
  · rename_i h
    show ((put l e).length : Int) ≤ room
    rw [length_put hs]
    split
    · exact hl
    · rename_i h2
      rcases h with h | h
      · exact absurd h h2
      · simp only [Int.natCast_add]; omega
  · rename_i h
    cases he : eld l with
    | none => exact hl
    | some x =>
      have hx := eld_old he
      have h1 := length_del hs hx.mem
      have hn : look l e.rk = none := by
        cases hl : look l e.rk with
        | none => rfl
        | some y => exact absurd (.inl (by rw [hl]; rfl)) h
      show ((put (del l x.rk) e).length : Int) ≤ room
      rw [length_put (hs.del _), look_del hn]
      simp
      omega
theorem look_some_none {l : List En} {q : Int} : (look l q).isSome = false ↔ look l q = none := by cases look l q <;> simp
attribute [local go_sem ↓] ldK stK ldM stM ldP stP
theorem two_kp (w : World) (e : En) : ∃ W, (w.alloc (.cells e.k.cs 68)).alloc (.cells e.pc 71) = W ∧ RvAt W w.heap.size 68 e.k.cs ∧ RvAt W (w.heap.size + 1) 71 e.pc ∧ Below w.heap.size w W :=
  ⟨_, rfl, (RvAt.new w _ _).below ((Below.refl _ _).alloc (Nat.le_refl _) _), by have := RvAt.new (w.alloc (.cells e.k.cs 68)) 71 e.pc; simpa using this, ((Below.refl _ _).alloc (Nat.le_refl _) _).alloc (by simp) _⟩
set_option maxHeartbeats 2000000 in
theorem put_any (p b : Nat) (c : Cf) (l : List En) (e : En) (w : World) (h : Db w p b c l) (he : e.wf) :
    Calls Try.prog 34 #[.pointer (some ⟨p, 0, none⟩), .agg e.k.cs, .agg e.pc] w fun r w' => r = .returned (.int .i64 (putS c.room l e).2) ∧ Db w' p b c (putS c.room l e).1 ∧ w.grownBy w' (some b) := by
  obtain ⟨W, hW, r1, r2, bW⟩ := two_kp w e
  have hD := h.below bW
  have H : Hid (Db w p b c l ∧ e.wf ∧ Db W p b c l ∧ RvAt W w.heap.size 68 e.k.cs ∧ RvAt W (w.heap.size + 1) 71 e.pc ∧ Below w.heap.size w W) := ⟨h, he, hD, r1, r2, bW⟩
  have f3 := fun q : Later W => (hD.below q.below).c3
  have f1 := fun q : Later W => (r1.below q.below).ld rtK (Ky.size _)
  have fl := fun q : Later W => (hD.below q.below).map.look2 he.k
  obtain ⟨s, hs⟩ : ∃ s, look l e.rk = s := ⟨_, rfl⟩
  have hs' : Hid (look l e.rk = s) := hs
  unfold En.rk at hs
  rw [hs] at fl
  obtain ⟨X0, hX0⟩ : ∃ X, W.drew = X := ⟨_, rfl⟩
  obtain ⟨W1, st1, rv1, b1, z1⟩ := row_new rtP X0 #[.int .i64 0, .bool false, .int .i64 0] (plOf s) rfl (plOf_size _) (plOf_one _)
  have bX : Below W.heap.size W X0 := by rw [← hX0]; exact (Below.refl _ _).drew
  have B1 : Hid (Below W.heap.size W X0 ∧ Below W.heap.size W W1) := ⟨bX, below_over bX b1⟩
  clear h he hD r1 r2 bW hs b1 z1 rv1 bX
  go_enter Try.func34, Try.ntmps34
  go_wp2_with fail
  refine wp_region_noPanic ?_
  refine wp_region_held_drew (S := fun w' => ∃ x : Later W, w' = x.val) (by kernel_rfl) ⟨⟨_, (Below.refl _ _).drew⟩, rfl⟩ (fun hHeld => ?_)
  rw [hX0] at hHeld ⊢
  refine wpAnyH_take (i := 0) (oi := { dst := some 12, op := Op.move (Operand.tmp 0), type := 23, pos := "fdb.go:83", after := #[], guard := none }) (v := ?_) rfl (by kernel_rfl) (by kernel_rfl) (by kernel_rfl) (fun _ _ _ h => h) (Or.inl ⟨by rfl, ?_⟩) hHeld ?_
  rotate_left
  · intro W_ hSw_
    obtain ⟨q, rfl⟩ := hSw_
    first | (go_simp; done) | (go_simp; with_reducible rfl)
  rotate_left
  try simp only [Act.put, List.setIfInBounds_toArray, List.set_cons_zero, List.set_cons_succ]
  refine wpAnyH_take (i := 1) (oi := { dst := some 13, op := Op.nilCheck (Operand.tmp 12), type := 0, pos := "fdb.go:83", after := #[{ on := 0, ground := Ground.data }], guard := none }) (v := ?_) rfl (by kernel_rfl) (by kernel_rfl) (by kernel_rfl) (fun _ _ _ h => h) (Or.inl ⟨by rfl, ?_⟩) hHeld ?_
  rotate_left
  · intro W_ hSw_
    obtain ⟨q, rfl⟩ := hSw_
    first | (go_simp; done) | (go_simp; with_reducible rfl)
  rotate_left
  try simp only [Act.put, List.setIfInBounds_toArray, List.set_cons_zero, List.set_cons_succ]
  refine wpAnyH_take (i := 2) (oi := { dst := some 14, op := Op.fieldAddr 62 (Operand.tmp 13) 3, type := 0, pos := "fdb.go:83", after := #[{ on := 1, ground := Ground.data }], guard := none }) (v := ?_) rfl (by kernel_rfl) (by kernel_rfl) (by kernel_rfl) (fun _ _ _ h => h) (Or.inl ⟨by rfl, ?_⟩) hHeld ?_
  rotate_left
  · intro W_ hSw_
    obtain ⟨q, rfl⟩ := hSw_
    first | (go_simp; done) | (go_simp; with_reducible rfl)
  rotate_left
  try simp only [Act.put, List.setIfInBounds_toArray, List.set_cons_zero, List.set_cons_succ]
  refine wpAnyH_take (i := 3) (oi := { dst := some 15, op := Op.load 60 (Operand.tmp 14), type := 60, pos := "fdb.go:83", after := #[{ on := 2, ground := Ground.data }], guard := none }) (v := ?_) rfl (by kernel_rfl) (by kernel_rfl) (by kernel_rfl) (fun _ _ _ h => h) (Or.inl ⟨by rfl, ?_⟩) hHeld ?_
  rotate_left
  · intro W_ hSw_
    obtain ⟨q, rfl⟩ := hSw_
    first | (go_simp; done) | (go_simp; with_reducible rfl)
  rotate_left
  try simp only [Act.put, List.setIfInBounds_toArray, List.set_cons_zero, List.set_cons_succ]
  refine wpAnyH_take (i := 4) (oi := { dst := some 16, op := Op.load 68 (Operand.tmp 4), type := 68, pos := "fdb.go:83", after := #[], guard := none }) (v := ?_) rfl (by kernel_rfl) (by kernel_rfl) (by kernel_rfl) (fun _ _ _ h => h) (Or.inl ⟨by rfl, ?_⟩) hHeld ?_
  rotate_left
  · intro W_ hSw_
    obtain ⟨q, rfl⟩ := hSw_
    first | (go_simp; done) | (go_simp; with_reducible rfl)
  rotate_left
  try simp only [Act.put, List.setIfInBounds_toArray, List.set_cons_zero, List.set_cons_succ]
  refine wpAnyH_take (i := 5) (oi := { dst := some 17, op := Op.lookup 60 (Operand.tmp 15) (Operand.tmp 16) true, type := 77, pos := "fdb.go:83", after := #[{ on := 3, ground := Ground.data }, { on := 4, ground := Ground.data }], guard := none }) (v := ?_) rfl (by kernel_rfl) (by kernel_rfl) (by kernel_rfl) (fun _ _ _ h => h) (Or.inl ⟨by rfl, ?_⟩) hHeld ?_
  rotate_left
  · intro W_ hSw_
    obtain ⟨q, rfl⟩ := hSw_
    first | (go_simp; done) | (go_simp; with_reducible rfl)
  rotate_left
  try simp only [Act.put, List.setIfInBounds_toArray, List.set_cons_zero, List.set_cons_succ]
  refine wpAnyH_take (i := 6) (oi := { dst := some 11, op := Op.move (Operand.tmp 17), type := 77, pos := "fdb.go:83", after := #[{ on := 5, ground := Ground.data }], guard := none }) (v := ?_) rfl (by kernel_rfl) (by kernel_rfl) (by kernel_rfl) (fun _ _ _ h => h) (Or.inl ⟨by rfl, ?_⟩) hHeld ?_
  rotate_left
  · intro W_ hSw_
    obtain ⟨q, rfl⟩ := hSw_
    first | (go_simp; done) | (go_simp; with_reducible rfl)
  rotate_left
  try simp only [Act.put, List.setIfInBounds_toArray, List.set_cons_zero, List.set_cons_succ]
  refine wpAnyH_take (i := 7) (oi := { dst := some 18, op := Op.extract (Operand.tmp 11) 0, type := 71, pos := "fdb.go:83", after := #[{ on := 6, ground := Ground.data }], guard := none }) (v := ?_) rfl (by kernel_rfl) (by kernel_rfl) (by kernel_rfl) (fun _ _ _ h => h) (Or.inl ⟨by rfl, ?_⟩) hHeld ?_
  rotate_left
  · intro W_ hSw_
    obtain ⟨q, rfl⟩ := hSw_
    first | (go_simp; done) | (go_simp; with_reducible rfl)
  rotate_left
  try simp only [Act.put, List.setIfInBounds_toArray, List.set_cons_zero, List.set_cons_succ]
  refine wpAnyH_take (i := 8) (oi := { dst := some 19, op := Op.extract (Operand.tmp 11) 1, type := 4, pos := "fdb.go:83", after := #[{ on := 6, ground := Ground.data }, { on := 10, ground := Ground.gcOnly Departure.lateStores }], guard := none }) (v := ?_) rfl (by kernel_rfl) (by kernel_rfl) (by kernel_rfl) (fun _ _ _ h => h) (Or.inl ⟨by rfl, ?_⟩) hHeld ?_
  rotate_left
  · intro W_ hSw_
    obtain ⟨q, rfl⟩ := hSw_
    first | (go_simp; done) | (go_simp; with_reducible rfl)
  rotate_left
  try simp only [Act.put, List.setIfInBounds_toArray, List.set_cons_zero, List.set_cons_succ]
  refine wpAnyH_ready (rs := [9]) (by kernel_rfl) (by simp) ?_
  refine AllReadyH.cons (o := { dst := some 7, op := Op.alloc 71, type := 0, pos := "fdb.go:83", after := #[], guard := none }) rfl (fun K hK => ?_) AllReadyH.nil
  go_simp
  clear hHeld
  refine hK.out _ _ ⟨⟨_, B1.out.1.alloc B1.out.1.size _⟩, rfl⟩ (fun hHeld => ?_)
  clear hK K
  try simp only [Act.put, List.setIfInBounds_toArray, List.set_cons_zero, List.set_cons_succ]
  refine wpAnyH_ready (rs := [10]) (by kernel_rfl) (by simp) ?_
  refine AllReadyH.cons (o := { dst := none, op := Op.store 71 (Operand.tmp 7) (Operand.tmp 18), type := 0, pos := "fdb.go:83", after := #[{ on := 9, ground := Ground.data }, { on := 7, ground := Ground.data }, { on := 0, ground := Ground.phase }, { on := 1, ground := Ground.phase }, { on := 2, ground := Ground.phase }, { on := 3, ground := Ground.phase }, { on := 4, ground := Ground.phase }, { on := 5, ground := Ground.phase }, { on := 6, ground := Ground.phase }, { on := 7, ground := Ground.phase }, { on := 8, ground := Ground.textOnly Departure.lateStores }, { on := 9, ground := Ground.phase }], guard := none }) rfl (fun K hK => ?_) AllReadyH.nil
  go_simp
  clear hHeld
  refine hK.out _ _ ⟨⟨_, B1.out.2⟩, rfl⟩ (fun hHeld => ?_)
  clear hK K
  try simp only [Act.put, List.setIfInBounds_toArray, List.set_cons_zero, List.set_cons_succ]
  refine wpAnyH_ready (rs := [11]) (by kernel_rfl) (by simp) ?_
  refine AllReadyH.cons (o := { dst := some 8, op := Op.assign (Operand.tmp 19), type := 4, pos := "fdb.go:83", after := #[{ on := 8, ground := Ground.data }, { on := 10, ground := Ground.chain }, { on := 0, ground := Ground.phase }, { on := 1, ground := Ground.phase }, { on := 2, ground := Ground.phase }, { on := 3, ground := Ground.phase }, { on := 4, ground := Ground.phase }, { on := 5, ground := Ground.phase }, { on := 6, ground := Ground.phase }, { on := 7, ground := Ground.phase }, { on := 8, ground := Ground.phase }, { on := 9, ground := Ground.phase }, { on := 10, ground := Ground.phase }], guard := none }) rfl (fun K hK => ?_) AllReadyH.nil
  go_simp
  clear hHeld
  refine hK.out _ _ ⟨⟨_, B1.out.2⟩, rfl⟩ (fun hHeld => ?_)
  clear hK K
  try simp only [Act.put, List.setIfInBounds_toArray, List.set_cons_zero, List.set_cons_succ]
  refine wpAnyH_done (by kernel_rfl) ?_ _
  refine NoPanic.normal ?_
  clear hHeld
  clear st1 f3 f1 fl hX0 hW
  obtain ⟨hs, hB1⟩ : Hid (look l e.rk = s) ∧ Hid (Below W.heap.size W W1) := ⟨hs', B1.out.2⟩
  clear hs' B1
  have D1 : Hid (Db W1 p b c l ∧ RvAt W1 w.heap.size 68 e.k.cs ∧ RvAt W1 (w.heap.size + 1) 71 e.pc ∧ w.grownBy W1 (some b)) :=
    ⟨H.out.2.2.1.below hB1.out, H.out.2.2.2.1.below hB1.out, H.out.2.2.2.2.1.below hB1.out, grown_of_below (below_over H.out.2.2.2.2.2 hB1.out) _⟩
  have g3 := fun q : Later W1 => (D1.out.1.below q.below).c3
  have g1 := fun q : Later W1 => (D1.out.1.below q.below).c1
  have gl := fun q : Later W1 => (D1.out.1.below q.below).map.len
  have hlen : (l.length : Int) ≤ 256 := by have := H.out.1.len; have := H.out.1.wf.room; omega
  have hroom := H.out.1.wf.room
  cases s with
  | some y =>
    have hE : Hid (putS c.room l e = (put l e, 0)) := show putS c.room l e = _ by unfold putS; rw [if_pos (.inl (by rw [hs.out]; rfl))]
    simp only [Option.isSome_some]
    go_wp2_with fail
    refine wp_region_later (by kernel_rfl) (by kernel_rfl) ?_
    repeat (go_big_quiet_step (first | exact rfl))
    refine wpQuiet_nil ?_
    intro _ hw'
    obtain ⟨q, rfl⟩ := hw'
    have G : Hid (Db q.val p b c l ∧ RvAt q.val w.heap.size 68 e.k.cs ∧ RvAt q.val (w.heap.size + 1) 71 e.pc ∧ w.grownBy q.val (some b)) :=
      ⟨D1.out.1.below q.below, D1.out.2.1.below q.below, D1.out.2.2.1.below q.below, D1.out.2.2.2.andThen (grown_of_below q.below none) (fun j e => by cases e)⟩
    clear g3 g1 gl D1
    go_wp2_with fail
    have v3 := fun q : Later q.val => (G.out.1.below q.below).c3
    have v1 := fun q : Later q.val => (G.out.2.1.below q.below).ld rtK (Ky.size _)
    have v2 := fun q : Later q.val => (G.out.2.2.1.below q.below).ld rtP (En.psize _)
    refine wp_region_later_tail 6 (by kernel_rfl) (by kernel_rfl) ?_
    simp only [List.take_succ_cons, List.take_zero]
    repeat (go_big_quiet_step (first | exact rfl))
    refine wpQuiet_nil ?_
    intro x
    simp only [List.drop_succ_cons, List.drop_zero]
    obtain ⟨V', sV, mV, gV, zV⟩ := (G.out.1.below x.below).map.store (by have := G.out.1.len; have := G.out.1.wf.room; omega) H.out.2.1
    have GV : Hid (MapIs V' b (put l e) ∧ x.val.grownBy V' (some b)) := ⟨mV, gV⟩
    clear mV gV zV v1 v2 v3
    go_wp2
    go_ret
    refine ⟨by rw [hE.out]; rfl, ?_, ?_⟩
    · rw [hE.out]
      have := putS_len (e := e) H.out.1.map.1 H.out.1.len
      rw [hE.out] at this
      exact (G.out.1.below x.below).turn GV.out.2 GV.out.1 this
    · exact (G.out.2.2.2.andThen (grown_of_below x.below none) (fun j e => by cases e)).andThen GV.out.2 (fun j e => .inr e)
  | none =>
    simp only [Option.isSome_none]
    go_wp2_with fail
    by_cases hlt : (l.length : Int) < c.room
    · have hge : ¬ (c.room ≤ (l.length : Int)) := by omega
      have hge' : decide (c.room ≤ (l.length : Int)) = false := by simpa using hge
      have hE : Hid (putS c.room l e = (put l e, 0)) := show putS c.room l e = _ by unfold putS; rw [if_pos (.inr hlt)]
      refine wp_region_later (by kernel_rfl) (by kernel_rfl) ?_
      repeat (go_big_quiet_step (first | exact rfl))
      refine wpQuiet_nil ?_
      intro _ hw'
      obtain ⟨q, rfl⟩ := hw'
      have G : Hid (Db q.val p b c l ∧ RvAt q.val w.heap.size 68 e.k.cs ∧ RvAt q.val (w.heap.size + 1) 71 e.pc ∧ w.grownBy q.val (some b)) :=
        ⟨D1.out.1.below q.below, D1.out.2.1.below q.below, D1.out.2.2.1.below q.below, D1.out.2.2.2.andThen (grown_of_below q.below none) (fun j e => by cases e)⟩
      clear g3 g1 gl D1
      go_wp2_with fail
      have v3 := fun q : Later q.val => (G.out.1.below q.below).c3
      have v1 := fun q : Later q.val => (G.out.2.1.below q.below).ld rtK (Ky.size _)
      have v2 := fun q : Later q.val => (G.out.2.2.1.below q.below).ld rtP (En.psize _)
      refine wp_region_later_tail 6 (by kernel_rfl) (by kernel_rfl) ?_
      simp only [List.take_succ_cons, List.take_zero]
      repeat (go_big_quiet_step (first | exact rfl))
      refine wpQuiet_nil ?_
      intro x
      simp only [List.drop_succ_cons, List.drop_zero]
      obtain ⟨V', sV, mV, gV, zV⟩ := (G.out.1.below x.below).map.store (by have := G.out.1.len; have := G.out.1.wf.room; omega) H.out.2.1
      have GV : Hid (MapIs V' b (put l e) ∧ x.val.grownBy V' (some b)) := ⟨mV, gV⟩
      clear mV gV zV v1 v2 v3
      go_wp2
      go_ret
      refine ⟨by rw [hE.out]; rfl, ?_, ?_⟩
      · rw [hE.out]
        have := putS_len (e := e) H.out.1.map.1 H.out.1.len
        rw [hE.out] at this
        exact (G.out.1.below x.below).turn GV.out.2 GV.out.1 this
      · exact (G.out.2.2.2.andThen (grown_of_below x.below none) (fun j e => by cases e)).andThen GV.out.2 (fun j e => .inr e)
    · have hge : c.room ≤ (l.length : Int) := by omega
      have hge' : decide (c.room ≤ (l.length : Int)) = true := by simpa using hge
      refine wp_region_later (by kernel_rfl) (by kernel_rfl) ?_
      repeat (go_big_quiet_step (first | exact rfl))
      refine wpQuiet_nil ?_
      intro _ hw'
      obtain ⟨q, rfl⟩ := hw'
      have G : Hid (Db q.val p b c l ∧ RvAt q.val w.heap.size 68 e.k.cs ∧ RvAt q.val (w.heap.size + 1) 71 e.pc ∧ w.grownBy q.val (some b)) :=
        ⟨D1.out.1.below q.below, D1.out.2.1.below q.below, D1.out.2.2.1.below q.below, D1.out.2.2.2.andThen (grown_of_below q.below none) (fun j e => by cases e)⟩
      clear g3 g1 gl D1
      go_wp2_with fail
      refine (eldest_any p b l _ G.out.1.c3 G.out.1.map).mono ?_
      rintro _ W2 ⟨⟨k, f, rfl, hold⟩, b2⟩
      obtain ⟨W3, st3, rv3, b3, z3⟩ := row_new rtK W2 #[.int .i64 0, .int .u8 0, .int .u8 0, .int .u8 0, .int .u8 0, .int .u8 0, .int .u8 0] k.cs rfl (Ky.size _) (Ky.one _)
      have b23 := below_over b2 b3
      have G3 : Hid (Db W3 p b c l ∧ RvAt W3 w.heap.size 68 e.k.cs ∧ RvAt W3 (w.heap.size + 1) 71 e.pc ∧ w.grownBy W3 (some b) ∧ RvAt W3 W2.heap.size 68 k.cs) :=
        ⟨G.out.1.below b23, G.out.2.1.below b23, G.out.2.2.1.below b23, G.out.2.2.2.andThen (grown_of_below b23 none) (fun j e => by cases e), rv3⟩
      clear b2 b3 z3 rv3 b23 G
      rcases hold with ⟨rfl, hel⟩ | ⟨x, rfl, hel, rfl⟩
      · have hE : Hid (putS c.room l e = (l, 71)) := show putS c.room l e = _ by
          unfold putS
          rw [if_neg (by rintro (h | h); rw [hs.out] at h; cases h; omega), hel]
        go_wp2
        go_ret
        exact ⟨by rw [hE.out]; rfl, by rw [hE.out]; exact G3.out.1, G3.out.2.2.2.1⟩
      · have hE : Hid (putS c.room l e = (put (del l x.rk) e, 0)) := show putS c.room l e = _ by
          unfold putS
          rw [if_neg (by rintro (h | h); rw [hs.out] at h; cases h; omega), hel]
        have hx := H.out.1.map.2.1 x (eld_old hel).mem
        have hdl : Hid (((del l x.rk).length : Int) ≤ c.room) := by
          have := length_del H.out.1.map.1 (eld_old hel).mem
          have := H.out.1.len
          show _ ≤ _
          omega
        have kwf : Hid (x.k.wf) := hx.k
        clear hel hx
        go_wp2_with fail
        have v3 := fun q : Later W3 => (G3.out.1.below q.below).c3
        have v1 := fun q : Later W3 => (G3.out.2.2.2.2.below q.below).ld rtK (Ky.size _)
        refine wp_region_later_tail 5 (by kernel_rfl) (by kernel_rfl) ?_
        simp only [List.take_succ_cons, List.take_zero]
        repeat (go_big_quiet_step (first | exact rfl))
        refine wpQuiet_nil ?_
        intro y
        simp only [List.drop_succ_cons, List.drop_zero]
        obtain ⟨V4, s4, m4, g4, z4⟩ := (G3.out.1.below y.below).map.drop kwf.out 0
        have gw : w.grownBy V4 (some b) := (G3.out.2.2.2.1.andThen (grown_of_below y.below none) (fun j e => by cases e)).andThen g4 (fun j e => .inr e)
        have hbn := H.out.1.lt
        have G : Hid (Db V4 p b c (del l x.rk) ∧ RvAt V4 w.heap.size 68 e.k.cs ∧ RvAt V4 (w.heap.size + 1) 71 e.pc ∧ w.grownBy V4 (some b)) :=
          ⟨(G3.out.1.below y.below).turn g4 m4 hdl.out, (g4.block _ (G3.out.2.1.below y.below).lt (fun e => by cases e; omega)).trans (G3.out.2.1.below y.below), (g4.block _ (G3.out.2.2.1.below y.below).lt (fun e => by cases e; omega)).trans (G3.out.2.2.1.below y.below), gw⟩
        clear m4 g4 z4 gw hbn v1 v3 G3
        go_wp2_with fail
        have v3 := fun q : Later V4 => (G.out.1.below q.below).c3
        have v1 := fun q : Later V4 => (G.out.2.1.below q.below).ld rtK (Ky.size _)
        have v2 := fun q : Later V4 => (G.out.2.2.1.below q.below).ld rtP (En.psize _)
        refine wp_region_later_tail 6 (by kernel_rfl) (by kernel_rfl) ?_
        simp only [List.take_succ_cons, List.take_zero]
        repeat (go_big_quiet_step (first | exact rfl))
        refine wpQuiet_nil ?_
        intro u
        simp only [List.drop_succ_cons, List.drop_zero]
        obtain ⟨V', sV, mV, gV, zV⟩ := (G.out.1.below u.below).map.store (by have := G.out.1.len; have := G.out.1.wf.room; omega) H.out.2.1
        have GV : Hid (MapIs V' b (put (del l x.rk) e) ∧ u.val.grownBy V' (some b)) := ⟨mV, gV⟩
        clear mV gV zV v1 v2 v3
        go_wp2
        go_ret
        refine ⟨by rw [hE.out]; rfl, ?_, ?_⟩
        · rw [hE.out]
          have := putS_len (e := e) H.out.1.map.1 H.out.1.len
          rw [hE.out] at this
          exact (G.out.1.below u.below).turn GV.out.2 GV.out.1 this
        · exact (G.out.2.2.2.andThen (grown_of_below u.below none) (fun j e => by cases e)).andThen GV.out.2 (fun j e => .inr e)
end Go.Proofs.Ytpbpofmlpbobmaa
