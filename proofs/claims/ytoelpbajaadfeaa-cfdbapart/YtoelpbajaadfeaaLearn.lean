/-
  The walk of Learn, for every base and every input.
-/
import Derived.Test.YtoelpbajaadfeaaEldest
import Derived.Deep.CutRange
namespace Go.Proofs.Ytoelpbajaadfeaa
set_option linter.unusedVariables false
set_option maxRecDepth 4000
set_option linter.unusedSimpArgs false
open Go.RowKit

/-- What comes of an entry that is put. -/
def putS (room : Int) (l : List En) (e : En) : List En :=
  if (look l e.rk).isSome = true ∨ (l.length : Int) < room then put l e else match eld l with
    | none => put l e
    | some x => put (del l x.rk) e
theorem look_del {l : List En} {q r : Int} (h : look l q = none) : look (del l r) q = none := look_none.2 (fun x hx => look_none.1 h x (mem_del.1 hx).1)
theorem putS_len {room : Int} {l : List En} {e : En} (hs : Srt l) (hr : 1 ≤ room) (hl : (l.length : Int) ≤ room) : ((putS room l e).length : Int) ≤ room := by
  unfold putS
  split
  · rename_i h
    rw [length_put hs]
    split
    · exact hl
    · rename_i h2
      rcases h with h | h
      · exact absurd h h2
      · simp only [Int.natCast_add]; omega
  · rename_i h
    obtain ⟨x, he, hx⟩ := eld_ne (l := l) (fun e => h (.inr (by subst e; simp; omega)))
    rw [he]
    have h1 := length_del hs hx.mem
    have hn : look l e.rk = none := by
      cases hl : look l e.rk with
      | none => rfl
      | some y => exact absurd (.inl (by rw [hl]; rfl)) h
    show ((put (del l x.rk) e).length : Int) ≤ room
    rw [length_put (hs.del _), look_del hn]
    simp
    omega
theorem look_some_none {l : List En} {q : Int} : (look l q).isSome = false ↔ look l q = none := by cases look l q <;> simp
/-- What comes of Learn. -/
def learnS (c : Cf) (l : List En) (e : En) : List En × Int := if mayOf e = true then (putS c.room l e, 0) else (l, 80)
theorem mayOf_wf {e : En} (hk : e.k.wf) (hx : e.bm.wf) (h : mayOf e = true) : e.wf := by
  simp only [mayOf, inn, Bool.and_eq_true, decide_eq_true_eq] at h
  exact ⟨hk, hx, h.2⟩
theorem learnS_len {c : Cf} {l : List En} {e : En} (hs : Srt l) (hr : 1 ≤ c.room) (hl : (l.length : Int) ≤ c.room) : ((learnS c l e).1.length : Int) ≤ c.room := by
  unfold learnS
  split
  · exact putS_len hs hr hl
  · exact hl
/-- A look-up's answer, written out. -/
def plA (l : List En) (q : Int) : Ad := match look l q with | some x => x.bm | none => Ad.zero
def plS (l : List En) (q : Int) : Int := match look l q with | some x => x.seen | none => 0
theorem plOf_out (l : List En) (q : Int) : (Value.agg (plOf (look l q)) : Value) = .agg #[.int .u8 (plA l q).a, .int .u8 (plA l q).b, .int .u8 (plA l q).c, .int .u8 (plA l q).d, .int .u8 (plA l q).e, .int .u8 (plA l q).f, .int .i64 (plS l q)] := by
  unfold plA plS
  cases look l q <;> rfl
/-- Two addresses handed in. -/
theorem two_macs (w : World) (k : Ky) (x : Ad) : ∃ W, (w.alloc (.cells k.mc 38)).alloc (.cells x.cs 38) = W ∧ RvAt W w.heap.size 38 k.mc ∧ RvAt W (w.heap.size + 1) 38 x.cs ∧ Below w.heap.size w W ∧ W.heap.size = w.heap.size + 2 :=
  ⟨_, rfl, (RvAt.new w _ _).below ((Below.refl _ _).alloc (Nat.le_refl _) _), by have := RvAt.new (w.alloc (.cells k.mc 38)) 38 x.cs; simpa using this, ((Below.refl _ _).alloc (Nat.le_refl _) _).alloc (by simp) _, by simp⟩
/-- A key and a place, laid in two new blocks. -/
theorem kp_lay (W : World) (e : En) (Z : World) (i j : Nat) (rk : RvAt Z i 74 #[.int .i64 0, .int .u8 0, .int .u8 0, .int .u8 0, .int .u8 0, .int .u8 0, .int .u8 0]) (rp : RvAt Z j 76 #[.int .u8 0, .int .u8 0, .int .u8 0, .int .u8 0, .int .u8 0, .int .u8 0, .int .i64 0]) (bZ : Below W.heap.size W Z) (hi : W.heap.size ≤ i) (hj : W.heap.size ≤ j) (hne : i ≠ j) :
    ∃ Ya Yb, (stS 74 (.pointer (some ⟨i, 0, none⟩)) (.agg #[.int .i64 e.k.vid, .int .u8 e.k.a, .int .u8 e.k.b, .int .u8 e.k.c, .int .u8 e.k.d, .int .u8 e.k.e, .int .u8 e.k.f])).run Try.prog Z = .ok () Ya ∧
      (stS 76 (.pointer (some ⟨j, 0, none⟩)) (.agg #[.int .u8 e.bm.a, .int .u8 e.bm.b, .int .u8 e.bm.c, .int .u8 e.bm.d, .int .u8 e.bm.e, .int .u8 e.bm.f, .int .i64 e.seen])).run Try.prog Ya = .ok () Yb ∧ RvAt Yb i 74 e.k.cs ∧ RvAt Yb j 76 e.pc ∧ Below W.heap.size W Ya ∧ Below W.heap.size W Yb := by
  obtain ⟨Ya, sa, ra, ga, za⟩ := rk.put rtK rfl (Ky.size e.k) (Ky.one e.k)
  have rpa : RvAt Ya j 76 _ := (ga.block _ rp.lt (by intro e; cases e; exact hne rfl)).trans rp
  obtain ⟨Yb, sb, rb, gb, zb⟩ := rpa.put rtP rfl (En.psize e) (En.pone e)
  have hz := bZ.size
  have bA : Below W.heap.size W Ya := bZ.trans (below_of_grown ga (by omega) (fun j e => by cases e; exact hi))
  exact ⟨Ya, Yb, sa, sb, (gb.block _ ra.lt (by intro e; cases e; exact hne rfl)).trans ra, rb, bA, bA.trans (below_of_grown gb (by have := bA.size; omega) (fun j e => by cases e; exact hj))⟩
theorem eldest_some (p b : Nat) (l : List En) (x : En) (w : World) (hc : w.cell? ⟨p, 2, none⟩ = some (.map (some b))) (hm : MapIs w b l) (hx : eld l = some x) :
    Calls Try.prog 33 #[.pointer (some ⟨p, 0, none⟩)] w fun r w' => r = .returned (.agg x.k.cs) ∧ Below w.heap.size w w' :=
  (eldest_any p b l w hc hm).mono fun r w' h => by
    obtain ⟨⟨k, hr, hk⟩, hb⟩ := h
    rw [hk x hx] at hr
    exact ⟨hr, hb⟩
attribute [local go_sem ↓] ldK stK ldM stM ldP stP
set_option maxHeartbeats 2000000 in
theorem learn_any (p b : Nat) (c : Cf) (l : List En) (e : En) (w : World) (h : Db w p b c l) (hk : e.k.wf) (hx : e.bm.wf) :
    Calls Try.prog 13 #[.pointer (some ⟨p, 0, none⟩), .int .i64 e.k.vid, .agg e.k.mc, .agg e.bm.cs, .int .i64 e.seen] w fun r w' => r = .returned (.int .i64 (learnS c l e).2) ∧ Db w' p b c (learnS c l e).1 ∧ w.grownBy w' (some b) := by
  obtain ⟨W, hW, rm1, rm2, bW, zW⟩ := two_macs w e.k e.bm
  have hD := h.below bW
  have H : Hid (Db w p b c l ∧ e.k.wf ∧ e.bm.wf ∧ Db W p b c l ∧ w.grownBy W (some b) ∧ W.heap.size = w.heap.size + 2) := ⟨h, hk, hx, hD, grown_of_below bW _, zW⟩
  have lm1 : ∀ q : Later W, (ldS 38 (.pointer (some ⟨w.heap.size, 0, none⟩))).run Try.prog q.val = .ok (.agg #[.int .u8 e.k.a, .int .u8 e.k.b, .int .u8 e.k.c, .int .u8 e.k.d, .int .u8 e.k.e, .int .u8 e.k.f]) q.val := fun q => (rm1.below q.below).ld rtM (Ky.msize _)
  have lm2 : ∀ q : Later W, (ldS 38 (.pointer (some ⟨w.heap.size + 1, 0, none⟩))).run Try.prog q.val = .ok (.agg #[.int .u8 e.bm.a, .int .u8 e.bm.b, .int .u8 e.bm.c, .int .u8 e.bm.d, .int .u8 e.bm.e, .int .u8 e.bm.f]) q.val := fun q => (rm2.below q.below).ld rtM (Ad.size _)
  clear h hk hx bW zW hD rm1 rm2
  go_enter Try.func13, Try.ntmps13
  go_wp2_with fail
  refine (made_any p _ _ H.out.2.2.2.1.c3).mono ?_
  rintro _ Y ⟨rfl, hY⟩
  rw [hY]
  clear hY Y
  simp only [Option.isSome_some]
  go_upto_region 3 with fail
  go_cut [11, 12] from 18 to 23 (fun v11 v12 wx => ∃ i j, v11 = .pointer (some ⟨i, 0, none⟩) ∧ v12 = .pointer (some ⟨j, 0, none⟩) ∧ RvAt wx i 74 e.k.cs ∧ RvAt wx j 76 e.pc ∧ W.heap.size ≤ i ∧ W.heap.size ≤ j ∧ Below W.heap.size W wx)
  case first =>
    obtain ⟨X0, hX0⟩ : ∃ X0, W.drew = X0 := ⟨_, rfl⟩
    have bX : Below W.heap.size W X0 := by rw [← hX0]; exact (Below.refl _ _).drew
    have zX : Hid (X0.heap.size = W.heap.size) := by rw [← hX0]; rfl
    refine wp_region_noPanic ?_
    refine wp_region_held_drew (S := fun w' => ∃ x : Later W, w' = x.val) (by kernel_rfl) ⟨⟨_, (Below.refl _ _).drew⟩, rfl⟩ (fun hHeld => ?_)
    rw [hX0] at hHeld ⊢
    clear hX0
    refine wpAnyH_take (i := 0) (oi := { dst := some 18, op := Op.move (Operand.tmp 1), type := 3, pos := "cfdb.go:53", after := #[], guard := none }) (v := ?_) rfl (by kernel_rfl) (by kernel_rfl) (by kernel_rfl) (fun _ _ _ h => h) (Or.inl ⟨by rfl, ?_⟩) hHeld ?_
    rotate_left
    · intro W_ hSw_
      obtain ⟨q, rfl⟩ := hSw_
      first | (go_simp; done) | (go_simp; with_reducible rfl)
    rotate_left
    try simp only [Act.put, List.setIfInBounds_toArray, List.set_cons_zero, List.set_cons_succ]
    refine wpAnyH_take (i := 1) (oi := { dst := some 19, op := Op.load 38 (Operand.tmp 7), type := 38, pos := "cfdb.go:53", after := #[], guard := none }) (v := ?_) rfl (by kernel_rfl) (by kernel_rfl) (by kernel_rfl) (fun _ _ _ h => h) (Or.inl ⟨by rfl, ?_⟩) hHeld ?_
    rotate_left
    · intro W_ hSw_
      obtain ⟨q, rfl⟩ := hSw_
      first | (go_simp; done) | (go_simp; with_reducible rfl)
    rotate_left
    try simp only [Act.put, List.setIfInBounds_toArray, List.set_cons_zero, List.set_cons_succ]
    refine wpAnyH_take (i := 2) (oi := { dst := some 20, op := Op.build 74 #[(0, Operand.tmp 18), (1, Operand.tmp 19)], type := 74, pos := "cfdb.go:53", after := #[{ on := 0, ground := Ground.data }, { on := 1, ground := Ground.data }], guard := none }) (v := ?_) rfl (by kernel_rfl) (by kernel_rfl) (by kernel_rfl) (fun _ _ _ h => h) (Or.inl ⟨by rfl, ?_⟩) hHeld ?_
    rotate_left
    · intro W_ hSw_
      obtain ⟨q, rfl⟩ := hSw_
      first | (go_simp; done) | (go_simp; with_reducible rfl)
    rotate_left
    try simp only [Act.put, List.setIfInBounds_toArray, List.set_cons_zero, List.set_cons_succ]
    refine wpAnyH_take (i := 3) (oi := { dst := some 21, op := Op.load 38 (Operand.tmp 8), type := 38, pos := "cfdb.go:53", after := #[{ on := 8, ground := Ground.gcOnly Departure.lateStores }], guard := none }) (v := ?_) rfl (by kernel_rfl) (by kernel_rfl) (by kernel_rfl) (fun _ _ _ h => h) (Or.inl ⟨by rfl, ?_⟩) hHeld ?_
    rotate_left
    · intro W_ hSw_
      obtain ⟨q, rfl⟩ := hSw_
      first | (go_simp; done) | (go_simp; with_reducible rfl)
    rotate_left
    try simp only [Act.put, List.setIfInBounds_toArray, List.set_cons_zero, List.set_cons_succ]
    refine wpAnyH_take (i := 4) (oi := { dst := some 22, op := Op.move (Operand.tmp 4), type := 3, pos := "cfdb.go:53", after := #[{ on := 8, ground := Ground.gcOnly Departure.lateStores }], guard := none }) (v := ?_) rfl (by kernel_rfl) (by kernel_rfl) (by kernel_rfl) (fun _ _ _ h => h) (Or.inl ⟨by rfl, ?_⟩) hHeld ?_
    rotate_left
    · intro W_ hSw_
      obtain ⟨q, rfl⟩ := hSw_
      first | (go_simp; done) | (go_simp; with_reducible rfl)
    rotate_left
    try simp only [Act.put, List.setIfInBounds_toArray, List.set_cons_zero, List.set_cons_succ]
    refine wpAnyH_take (i := 5) (oi := { dst := some 23, op := Op.build 76 #[(0, Operand.tmp 21), (1, Operand.tmp 22)], type := 76, pos := "cfdb.go:53", after := #[{ on := 3, ground := Ground.data }, { on := 4, ground := Ground.data }, { on := 8, ground := Ground.gcOnly Departure.lateStores }], guard := none }) (v := ?_) rfl (by kernel_rfl) (by kernel_rfl) (by kernel_rfl) (fun _ _ _ h => h) (Or.inl ⟨by rfl, ?_⟩) hHeld ?_
    rotate_left
    · intro W_ hSw_
      obtain ⟨q, rfl⟩ := hSw_
      first | (go_simp; done) | (go_simp; with_reducible rfl)
    rotate_left
    try simp only [Act.put, List.setIfInBounds_toArray, List.set_cons_zero, List.set_cons_succ]
    refine wpAnyH_ready (rs := [6, 7]) (by kernel_rfl) (by simp) ?_
    refine AllReadyH.cons (o := { dst := some 11, op := Op.alloc 74, type := 0, pos := "cfdb.go:53", after := #[], guard := none }) rfl (fun K hK => ?_) (AllReadyH.cons (o := { dst := some 12, op := Op.alloc 76, type := 0, pos := "cfdb.go:53", after := #[], guard := none }) rfl (fun K hK => ?_) AllReadyH.nil)
    · skip
      go_simp
      clear hHeld
      refine hK.out _ _ ⟨⟨_, bX.alloc bX.size _⟩, rfl⟩ (fun hHeld => ?_)
      clear hK K
      try simp only [Act.put, List.setIfInBounds_toArray, List.set_cons_zero, List.set_cons_succ]
      refine wpAnyH_ready (rs := [7]) (by kernel_rfl) (by simp) ?_
      refine AllReadyH.cons (o := { dst := some 12, op := Op.alloc 76, type := 0, pos := "cfdb.go:53", after := #[], guard := none }) rfl (fun K hK => ?_) AllReadyH.nil
      go_simp
      clear hHeld
      refine hK.out _ _ ⟨⟨_, (bX.alloc bX.size _).alloc (by simp; have := bX.size; omega) _⟩, rfl⟩ (fun hHeld => ?_)
      clear hK K
      try simp only [Act.put, List.setIfInBounds_toArray, List.set_cons_zero, List.set_cons_succ]
      obtain ⟨Y1, Y2, t1, t2, r1, r2, e1, e2⟩ := kp_lay X0 e _ X0.heap.size (X0.heap.size + 1) ((RvAt.new X0 74 #[.int .i64 0, .int .u8 0, .int .u8 0, .int .u8 0, .int .u8 0, .int .u8 0, .int .u8 0]).below ((Below.refl _ _).alloc (Nat.le_refl _) (.cells #[.int .u8 0, .int .u8 0, .int .u8 0, .int .u8 0, .int .u8 0, .int .u8 0, .int .i64 0] 76))) (by have := RvAt.new (X0.alloc (.cells #[.int .i64 0, .int .u8 0, .int .u8 0, .int .u8 0, .int .u8 0, .int .u8 0, .int .u8 0] 74)) 76 #[.int .u8 0, .int .u8 0, .int .u8 0, .int .u8 0, .int .u8 0, .int .u8 0, .int .i64 0]; simpa using this) (((Below.refl _ _).alloc (Nat.le_refl _) _).alloc (by simp) _) (Nat.le_refl _) (by omega) (by omega)
      have F : Hid (RvAt Y2 X0.heap.size 74 e.k.cs ∧ RvAt Y2 (X0.heap.size + 1) 76 e.pc ∧ Below W.heap.size W Y1 ∧ Below W.heap.size W Y2 ∧ X0.heap.size = W.heap.size) := ⟨r1, r2, below_over bX e1, below_over bX e2, zX.out⟩
      clear r1 r2 e1 e2
      refine wpAnyH_ready (rs := [8]) (by kernel_rfl) (by simp) ?_
      refine AllReadyH.cons (o := { dst := none, op := Op.store 74 (Operand.tmp 11) (Operand.tmp 20), type := 0, pos := "cfdb.go:53", after := #[{ on := 6, ground := Ground.data }, { on := 2, ground := Ground.data }, { on := 0, ground := Ground.phase }, { on := 1, ground := Ground.phase }, { on := 2, ground := Ground.phase }, { on := 3, ground := Ground.textOnly Departure.lateStores }, { on := 4, ground := Ground.textOnly Departure.lateStores }, { on := 5, ground := Ground.textOnly Departure.lateStores }, { on := 6, ground := Ground.phase }, { on := 7, ground := Ground.phase }], guard := none }) rfl (fun K hK => ?_) AllReadyH.nil
      go_simp
      clear hHeld
      refine hK.out _ _ ⟨⟨_, F.out.2.2.1⟩, rfl⟩ (fun hHeld => ?_)
      clear hK K
      try simp only [Act.put, List.setIfInBounds_toArray, List.set_cons_zero, List.set_cons_succ]
      refine wpAnyH_ready (rs := [9]) (by kernel_rfl) (by simp) ?_
      refine AllReadyH.cons (o := { dst := none, op := Op.store 76 (Operand.tmp 12) (Operand.tmp 23), type := 0, pos := "cfdb.go:53", after := #[{ on := 7, ground := Ground.data }, { on := 5, ground := Ground.data }, { on := 8, ground := Ground.chain }, { on := 0, ground := Ground.phase }, { on := 1, ground := Ground.phase }, { on := 2, ground := Ground.phase }, { on := 3, ground := Ground.phase }, { on := 4, ground := Ground.phase }, { on := 5, ground := Ground.phase }, { on := 6, ground := Ground.phase }, { on := 7, ground := Ground.phase }, { on := 8, ground := Ground.phase }], guard := none }) rfl (fun K hK => ?_) AllReadyH.nil
      go_simp
      clear hHeld
      refine hK.out _ _ ⟨⟨_, F.out.2.2.2.1⟩, rfl⟩ (fun hHeld => ?_)
      clear hK K
      try simp only [Act.put, List.setIfInBounds_toArray, List.set_cons_zero, List.set_cons_succ]
      refine wpAnyH_done (by kernel_rfl) ?_ _
      refine NoPanic.normal ?_
      clear hHeld
      clear t1 t2
      go_wp2_with fail
      go_meet
      exact ⟨_, _, rfl, rfl, F.out.1, F.out.2.1, by have := F.out.2.2.2.2; omega, by have := F.out.2.2.2.2; omega, F.out.2.2.2.1⟩
    · skip
      go_simp
      clear hHeld
      refine hK.out _ _ ⟨⟨_, bX.alloc bX.size _⟩, rfl⟩ (fun hHeld => ?_)
      clear hK K
      try simp only [Act.put, List.setIfInBounds_toArray, List.set_cons_zero, List.set_cons_succ]
      refine wpAnyH_ready (rs := [6]) (by kernel_rfl) (by simp) ?_
      refine AllReadyH.cons (o := { dst := some 11, op := Op.alloc 74, type := 0, pos := "cfdb.go:53", after := #[], guard := none }) rfl (fun K hK => ?_) AllReadyH.nil
      go_simp
      clear hHeld
      refine hK.out _ _ ⟨⟨_, (bX.alloc bX.size _).alloc (by simp; have := bX.size; omega) _⟩, rfl⟩ (fun hHeld => ?_)
      clear hK K
      try simp only [Act.put, List.setIfInBounds_toArray, List.set_cons_zero, List.set_cons_succ]
      obtain ⟨Y1, Y2, t1, t2, r1, r2, e1, e2⟩ := kp_lay X0 e _ (X0.heap.size + 1) X0.heap.size (by have := RvAt.new (X0.alloc (.cells #[.int .u8 0, .int .u8 0, .int .u8 0, .int .u8 0, .int .u8 0, .int .u8 0, .int .i64 0] 76)) 74 #[.int .i64 0, .int .u8 0, .int .u8 0, .int .u8 0, .int .u8 0, .int .u8 0, .int .u8 0]; simpa using this) ((RvAt.new X0 76 #[.int .u8 0, .int .u8 0, .int .u8 0, .int .u8 0, .int .u8 0, .int .u8 0, .int .i64 0]).below ((Below.refl _ _).alloc (Nat.le_refl _) (.cells #[.int .i64 0, .int .u8 0, .int .u8 0, .int .u8 0, .int .u8 0, .int .u8 0, .int .u8 0] 74))) (((Below.refl _ _).alloc (Nat.le_refl _) _).alloc (by simp) _) (by omega) (Nat.le_refl _) (by omega)
      have F : Hid (RvAt Y2 (X0.heap.size + 1) 74 e.k.cs ∧ RvAt Y2 X0.heap.size 76 e.pc ∧ Below W.heap.size W Y1 ∧ Below W.heap.size W Y2 ∧ X0.heap.size = W.heap.size) := ⟨r1, r2, below_over bX e1, below_over bX e2, zX.out⟩
      clear r1 r2 e1 e2
      refine wpAnyH_ready (rs := [8]) (by kernel_rfl) (by simp) ?_
      refine AllReadyH.cons (o := { dst := none, op := Op.store 74 (Operand.tmp 11) (Operand.tmp 20), type := 0, pos := "cfdb.go:53", after := #[{ on := 6, ground := Ground.data }, { on := 2, ground := Ground.data }, { on := 0, ground := Ground.phase }, { on := 1, ground := Ground.phase }, { on := 2, ground := Ground.phase }, { on := 3, ground := Ground.textOnly Departure.lateStores }, { on := 4, ground := Ground.textOnly Departure.lateStores }, { on := 5, ground := Ground.textOnly Departure.lateStores }, { on := 6, ground := Ground.phase }, { on := 7, ground := Ground.phase }], guard := none }) rfl (fun K hK => ?_) AllReadyH.nil
      go_simp
      clear hHeld
      refine hK.out _ _ ⟨⟨_, F.out.2.2.1⟩, rfl⟩ (fun hHeld => ?_)
      clear hK K
      try simp only [Act.put, List.setIfInBounds_toArray, List.set_cons_zero, List.set_cons_succ]
      refine wpAnyH_ready (rs := [9]) (by kernel_rfl) (by simp) ?_
      refine AllReadyH.cons (o := { dst := none, op := Op.store 76 (Operand.tmp 12) (Operand.tmp 23), type := 0, pos := "cfdb.go:53", after := #[{ on := 7, ground := Ground.data }, { on := 5, ground := Ground.data }, { on := 8, ground := Ground.chain }, { on := 0, ground := Ground.phase }, { on := 1, ground := Ground.phase }, { on := 2, ground := Ground.phase }, { on := 3, ground := Ground.phase }, { on := 4, ground := Ground.phase }, { on := 5, ground := Ground.phase }, { on := 6, ground := Ground.phase }, { on := 7, ground := Ground.phase }, { on := 8, ground := Ground.phase }], guard := none }) rfl (fun K hK => ?_) AllReadyH.nil
      go_simp
      clear hHeld
      refine hK.out _ _ ⟨⟨_, F.out.2.2.2.1⟩, rfl⟩ (fun hHeld => ?_)
      clear hK K
      try simp only [Act.put, List.setIfInBounds_toArray, List.set_cons_zero, List.set_cons_succ]
      refine wpAnyH_done (by kernel_rfl) ?_ _
      refine NoPanic.normal ?_
      clear hHeld
      clear t1 t2
      go_wp2_with fail
      go_meet
      exact ⟨_, _, rfl, rfl, F.out.1, F.out.2.1, by have := F.out.2.2.2.2; omega, by have := F.out.2.2.2.2; omega, F.out.2.2.2.1⟩
  case rest =>
    obtain ⟨i, j, rfl, rfl, r1, r2, hi, hj, hB⟩ := hcut
    obtain ⟨X, hX⟩ : ∃ X, wc = X := ⟨_, rfl⟩
    rw [hX] at r1 r2 hB ⊢
    have l1 := r1.ld rtK (Ky.size _)
    have l2 := r2.ld rtP (En.psize _)
    have G0 : Hid (Db X p b c l ∧ RvAt X i 74 e.k.cs ∧ RvAt X j 76 e.pc ∧ w.grownBy X (some b) ∧ w.heap.size ≤ i ∧ w.heap.size ≤ j) :=
      ⟨H.out.2.2.2.1.below hB, r1, r2, H.out.2.2.2.2.1.andThen (grown_of_below hB none) (fun j e => by cases e), by have := H.out.2.2.2.2.2; omega, by have := H.out.2.2.2.2.2; omega⟩
    clear hX r1 r2 hB hi hj lm1 lm2 hW
    go_wp2_with fail
    refine (mayBe_any e _ H.out.2.1 H.out.2.2.1).mono ?_
    rintro _ W0 ⟨rfl, b0⟩
    have G1 : Hid (Db W0 p b c l ∧ RvAt W0 i 74 e.k.cs ∧ RvAt W0 j 76 e.pc ∧ w.grownBy W0 (some b) ∧ w.heap.size ≤ i ∧ w.heap.size ≤ j) :=
      ⟨G0.out.1.below b0, G0.out.2.1.below b0, G0.out.2.2.1.below b0, G0.out.2.2.2.1.andThen (grown_of_below b0 none) (fun j e => by cases e), G0.out.2.2.2.2.1, G0.out.2.2.2.2.2⟩
    clear b0 l1 l2 G0
    cases hm : mayOf e
    · have hE : Hid (learnS c l e = (l, 80)) := show learnS c l e = _ by unfold learnS; rw [if_neg (by simp [hm])]
      clear hm
      go_wp2
      go_ret
      exact ⟨by rw [hE.out]; rfl, by rw [hE.out]; exact G1.out.1, G1.out.2.2.2.1⟩
    · have he : Hid (e.wf) := mayOf_wf H.out.2.1 H.out.2.2.1 hm
      have hE : Hid (learnS c l e = (putS c.room l e, 0)) := show learnS c l e = _ by unfold learnS; rw [if_pos hm]
      clear hm
      have f3 := fun q : Later W0 => (G1.out.1.below q.below).c3
      have f1 := fun q : Later W0 => (G1.out.2.1.below q.below).ld rtK (Ky.size _)
      have fl := fun q : Later W0 => (G1.out.1.below q.below).map.look2 he.out.k
      obtain ⟨s, hs⟩ : ∃ s, look l e.rk = s := ⟨_, rfl⟩
      have hs' : Hid (look l e.rk = s) := hs
      unfold En.rk at hs
      rw [hs] at fl
      obtain ⟨X0, hX0⟩ : ∃ X, W0.drew = X := ⟨_, rfl⟩
      obtain ⟨W1, st1, rv1, b1, z1⟩ := row_new rtP X0 #[.int .u8 0, .int .u8 0, .int .u8 0, .int .u8 0, .int .u8 0, .int .u8 0, .int .i64 0] (plOf s) rfl (plOf_size _) (plOf_one _)
      have bX : Below W0.heap.size W0 X0 := by rw [← hX0]; exact (Below.refl _ _).drew
      have B1 : Hid (Below W0.heap.size W0 X0 ∧ Below W0.heap.size W0 W1) := ⟨bX, below_over bX b1⟩
      clear hs b1 z1 rv1 bX
      go_wp2_with fail
      refine wp_region_noPanic ?_
      refine wp_region_held_drew (S := fun w' => ∃ x : Later W0, w' = x.val) (by kernel_rfl) ⟨⟨_, (Below.refl _ _).drew⟩, rfl⟩ (fun hHeld => ?_)
      rw [hX0] at hHeld ⊢
      refine wpAnyH_take (i := 0) (oi := { dst := some 29, op := Op.move (Operand.tmp 0), type := 23, pos := "cfdb.go:57", after := #[], guard := none }) (v := ?_) rfl (by kernel_rfl) (by kernel_rfl) (by kernel_rfl) (fun _ _ _ h => h) (Or.inl ⟨by rfl, ?_⟩) hHeld ?_
      rotate_left
      · intro W_ hSw_
        obtain ⟨q, rfl⟩ := hSw_
        first | (go_simp; done) | (go_simp; with_reducible rfl)
      rotate_left
      try simp only [Act.put, List.setIfInBounds_toArray, List.set_cons_zero, List.set_cons_succ]
      refine wpAnyH_take (i := 1) (oi := { dst := some 30, op := Op.nilCheck (Operand.tmp 29), type := 0, pos := "cfdb.go:57", after := #[{ on := 0, ground := Ground.data }], guard := none }) (v := ?_) rfl (by kernel_rfl) (by kernel_rfl) (by kernel_rfl) (fun _ _ _ h => h) (Or.inl ⟨by rfl, ?_⟩) hHeld ?_
      rotate_left
      · intro W_ hSw_
        obtain ⟨q, rfl⟩ := hSw_
        first | (go_simp; done) | (go_simp; with_reducible rfl)
      rotate_left
      try simp only [Act.put, List.setIfInBounds_toArray, List.set_cons_zero, List.set_cons_succ]
      refine wpAnyH_take (i := 2) (oi := { dst := some 31, op := Op.fieldAddr 60 (Operand.tmp 30) 2, type := 0, pos := "cfdb.go:57", after := #[{ on := 1, ground := Ground.data }], guard := none }) (v := ?_) rfl (by kernel_rfl) (by kernel_rfl) (by kernel_rfl) (fun _ _ _ h => h) (Or.inl ⟨by rfl, ?_⟩) hHeld ?_
      rotate_left
      · intro W_ hSw_
        obtain ⟨q, rfl⟩ := hSw_
        first | (go_simp; done) | (go_simp; with_reducible rfl)
      rotate_left
      try simp only [Act.put, List.setIfInBounds_toArray, List.set_cons_zero, List.set_cons_succ]
      refine wpAnyH_take (i := 3) (oi := { dst := some 32, op := Op.load 58 (Operand.tmp 31), type := 58, pos := "cfdb.go:57", after := #[{ on := 2, ground := Ground.data }], guard := none }) (v := ?_) rfl (by kernel_rfl) (by kernel_rfl) (by kernel_rfl) (fun _ _ _ h => h) (Or.inl ⟨by rfl, ?_⟩) hHeld ?_
      rotate_left
      · intro W_ hSw_
        obtain ⟨q, rfl⟩ := hSw_
        first | (go_simp; done) | (go_simp; with_reducible rfl)
      rotate_left
      try simp only [Act.put, List.setIfInBounds_toArray, List.set_cons_zero, List.set_cons_succ]
      refine wpAnyH_take (i := 4) (oi := { dst := some 33, op := Op.load 74 (Operand.tmp 11), type := 74, pos := "cfdb.go:57", after := #[], guard := none }) (v := ?_) rfl (by kernel_rfl) (by kernel_rfl) (by kernel_rfl) (fun _ _ _ h => h) (Or.inl ⟨by rfl, ?_⟩) hHeld ?_
      rotate_left
      · intro W_ hSw_
        obtain ⟨q, rfl⟩ := hSw_
        first | (go_simp; done) | (go_simp; with_reducible rfl)
      rotate_left
      try simp only [Act.put, List.setIfInBounds_toArray, List.set_cons_zero, List.set_cons_succ]
      refine wpAnyH_take (i := 5) (oi := { dst := some 34, op := Op.lookup 58 (Operand.tmp 32) (Operand.tmp 33) true, type := 78, pos := "cfdb.go:57", after := #[{ on := 3, ground := Ground.data }, { on := 4, ground := Ground.data }], guard := none }) (v := ?_) rfl (by kernel_rfl) (by kernel_rfl) (by kernel_rfl) (fun _ _ _ h => h) (Or.inl ⟨by rfl, ?_⟩) hHeld ?_
      rotate_left
      · intro W_ hSw_
        obtain ⟨q, rfl⟩ := hSw_
        first | (go_simp; done) | (go_simp; with_reducible rfl)
      rotate_left
      try simp only [Act.put, List.setIfInBounds_toArray, List.set_cons_zero, List.set_cons_succ]
      refine wpAnyH_take (i := 6) (oi := { dst := some 28, op := Op.move (Operand.tmp 34), type := 78, pos := "cfdb.go:57", after := #[{ on := 5, ground := Ground.data }], guard := none }) (v := ?_) rfl (by kernel_rfl) (by kernel_rfl) (by kernel_rfl) (fun _ _ _ h => h) (Or.inl ⟨by rfl, ?_⟩) hHeld ?_
      rotate_left
      · intro W_ hSw_
        obtain ⟨q, rfl⟩ := hSw_
        first | (go_simp; done) | (go_simp; with_reducible rfl)
      rotate_left
      try simp only [Act.put, List.setIfInBounds_toArray, List.set_cons_zero, List.set_cons_succ]
      refine wpAnyH_take (i := 7) (oi := { dst := some 35, op := Op.extract (Operand.tmp 28) 0, type := 76, pos := "cfdb.go:57", after := #[{ on := 6, ground := Ground.data }], guard := none }) (v := ?_) rfl (by kernel_rfl) (by kernel_rfl) (by kernel_rfl) (fun _ _ _ h => h) (Or.inl ⟨by rfl, ?_⟩) hHeld ?_
      rotate_left
      · intro W_ hSw_
        obtain ⟨q, rfl⟩ := hSw_
        first | (go_simp; done) | (go_simp; with_reducible rfl)
      rotate_left
      try simp only [Act.put, List.setIfInBounds_toArray, List.set_cons_zero, List.set_cons_succ]
      refine wpAnyH_take (i := 8) (oi := { dst := some 36, op := Op.extract (Operand.tmp 28) 1, type := 4, pos := "cfdb.go:57", after := #[{ on := 6, ground := Ground.data }, { on := 10, ground := Ground.gcOnly Departure.lateStores }], guard := none }) (v := ?_) rfl (by kernel_rfl) (by kernel_rfl) (by kernel_rfl) (fun _ _ _ h => h) (Or.inl ⟨by rfl, ?_⟩) hHeld ?_
      rotate_left
      · intro W_ hSw_
        obtain ⟨q, rfl⟩ := hSw_
        first | (go_simp; done) | (go_simp; with_reducible rfl)
      rotate_left
      try simp only [Act.put, List.setIfInBounds_toArray, List.set_cons_zero, List.set_cons_succ]
      refine wpAnyH_ready (rs := [9]) (by kernel_rfl) (by simp) ?_
      refine AllReadyH.cons (o := { dst := some 13, op := Op.alloc 76, type := 0, pos := "cfdb.go:57", after := #[], guard := none }) rfl (fun K hK => ?_) AllReadyH.nil
      go_simp
      clear hHeld
      refine hK.out _ _ ⟨⟨_, B1.out.1.alloc B1.out.1.size _⟩, rfl⟩ (fun hHeld => ?_)
      clear hK K
      try simp only [Act.put, List.setIfInBounds_toArray, List.set_cons_zero, List.set_cons_succ]
      refine wpAnyH_ready (rs := [10]) (by kernel_rfl) (by simp) ?_
      refine AllReadyH.cons (o := { dst := none, op := Op.store 76 (Operand.tmp 13) (Operand.tmp 35), type := 0, pos := "cfdb.go:57", after := #[{ on := 9, ground := Ground.data }, { on := 7, ground := Ground.data }, { on := 0, ground := Ground.phase }, { on := 1, ground := Ground.phase }, { on := 2, ground := Ground.phase }, { on := 3, ground := Ground.phase }, { on := 4, ground := Ground.phase }, { on := 5, ground := Ground.phase }, { on := 6, ground := Ground.phase }, { on := 7, ground := Ground.phase }, { on := 8, ground := Ground.textOnly Departure.lateStores }, { on := 9, ground := Ground.phase }], guard := none }) rfl (fun K hK => ?_) AllReadyH.nil
      go_simp
      clear hHeld
      refine hK.out _ _ ⟨⟨_, B1.out.2⟩, rfl⟩ (fun hHeld => ?_)
      clear hK K
      try simp only [Act.put, List.setIfInBounds_toArray, List.set_cons_zero, List.set_cons_succ]
      refine wpAnyH_ready (rs := [11]) (by kernel_rfl) (by simp) ?_
      refine AllReadyH.cons (o := { dst := some 14, op := Op.assign (Operand.tmp 36), type := 4, pos := "cfdb.go:57", after := #[{ on := 8, ground := Ground.data }, { on := 10, ground := Ground.chain }, { on := 0, ground := Ground.phase }, { on := 1, ground := Ground.phase }, { on := 2, ground := Ground.phase }, { on := 3, ground := Ground.phase }, { on := 4, ground := Ground.phase }, { on := 5, ground := Ground.phase }, { on := 6, ground := Ground.phase }, { on := 7, ground := Ground.phase }, { on := 8, ground := Ground.phase }, { on := 9, ground := Ground.phase }, { on := 10, ground := Ground.phase }], guard := none }) rfl (fun K hK => ?_) AllReadyH.nil
      go_simp
      clear hHeld
      refine hK.out _ _ ⟨⟨_, B1.out.2⟩, rfl⟩ (fun hHeld => ?_)
      clear hK K
      try simp only [Act.put, List.setIfInBounds_toArray, List.set_cons_zero, List.set_cons_succ]
      refine wpAnyH_done (by kernel_rfl) ?_ _
      refine NoPanic.normal ?_
      clear hHeld
      clear st1 f3 f1 fl hX0
      obtain ⟨hs, hB1⟩ : Hid (look l e.rk = s) ∧ Hid (Below W0.heap.size W0 W1) := ⟨hs', B1.out.2⟩
      clear hs' B1
      have D1 : Hid (Db W1 p b c l ∧ RvAt W1 i 74 e.k.cs ∧ RvAt W1 j 76 e.pc ∧ w.grownBy W1 (some b) ∧ w.heap.size ≤ i ∧ w.heap.size ≤ j) :=
        ⟨G1.out.1.below hB1.out, G1.out.2.1.below hB1.out, G1.out.2.2.1.below hB1.out, G1.out.2.2.2.1.andThen (grown_of_below hB1.out none) (fun j e => by cases e), G1.out.2.2.2.2.1, G1.out.2.2.2.2.2⟩
      clear G1 hB1
      have g3 := fun q : Later W1 => (D1.out.1.below q.below).c3
      have g1 := fun q : Later W1 => (D1.out.1.below q.below).c1
      have gl := fun q : Later W1 => (D1.out.1.below q.below).map.len
      have hlen : (l.length : Int) ≤ 256 := by have := H.out.1.len; have := H.out.1.wf.room; omega
      have hroom := H.out.1.wf.room
      have FIN : Hid (∀ (X : World) (m : List En), Db X p b c m → RvAt X i 74 e.k.cs → RvAt X j 76 e.pc → w.grownBy X (some b) → putS c.room l e = put m e →
          ∃ V', (Instr.mapUpdate 58 (.map (some b)) (.agg e.k.cs) (.agg e.pc)).run Try.prog X = .ok () V' ∧ Db V' p b c (putS c.room l e) ∧ w.grownBy V' (some b)) := by
        intro X m hD h1 h2 hg hp
        obtain ⟨V', sV, mV, gV, zV⟩ := hD.map.store (by have := hD.len; have := hD.wf.room; omega) he.out
        refine ⟨V', sV, ?_, hg.andThen gV (fun j e => .inr e)⟩
        have := putS_len (e := e) H.out.1.map.1 H.out.1.wf.room.1 H.out.1.len
        rw [hp] at this ⊢
        exact hD.turn gV mV this
      cases s with
      | some y =>
        have hP : Hid (putS c.room l e = put l e) := show putS c.room l e = _ by unfold putS; rw [if_pos (.inl (by rw [hs.out]; rfl))]
        simp only [Option.isSome_some]
        go_wp2_with fail
        refine wp_region_later (by kernel_rfl) (by kernel_rfl) ?_
        repeat (go_big_quiet_step (first | exact rfl))
        refine wpQuiet_nil ?_
        intro _ hw'
        obtain ⟨q, rfl⟩ := hw'
        have G : Hid (Db q.val p b c l ∧ RvAt q.val i 74 e.k.cs ∧ RvAt q.val j 76 e.pc ∧ w.grownBy q.val (some b)) :=
          ⟨D1.out.1.below q.below, D1.out.2.1.below q.below, D1.out.2.2.1.below q.below, D1.out.2.2.2.1.andThen (grown_of_below q.below none) (fun j e => by cases e)⟩
        clear g3 g1 gl D1
        go_wp2_with fail
        have v3 := fun z : Later q.val => (G.out.1.below z.below).c3
        have v1 := fun z : Later q.val => (G.out.2.1.below z.below).ld rtK (Ky.size _)
        have v2 := fun z : Later q.val => (G.out.2.2.1.below z.below).ld rtP (En.psize _)
        refine wp_region_later_tail 6 (by kernel_rfl) (by kernel_rfl) ?_
        simp only [List.take_succ_cons, List.take_zero]
        repeat (go_big_quiet_step (first | exact rfl))
        refine wpQuiet_nil ?_
        intro u
        simp only [List.drop_succ_cons, List.drop_zero]
        obtain ⟨V', sV, dV, gV⟩ := FIN.out u.val l (G.out.1.below u.below) (G.out.2.1.below u.below) (G.out.2.2.1.below u.below) (G.out.2.2.2.andThen (grown_of_below u.below none) (fun j e => by cases e)) hP.out
        have GV : Hid (Db V' p b c (putS c.room l e) ∧ w.grownBy V' (some b)) := ⟨dV, gV⟩
        clear dV gV v1 v2 v3
        go_wp2
        go_ret
        exact ⟨by rw [hE.out]; rfl, by rw [hE.out]; exact GV.out.1, GV.out.2⟩
      | none =>
        simp only [Option.isSome_none]
        go_wp2_with fail
        by_cases hlt : (l.length : Int) < c.room
        · have hge : ¬ (c.room ≤ (l.length : Int)) := by omega
          have hge' : decide (c.room ≤ (l.length : Int)) = false := by simpa using hge
          have hP : Hid (putS c.room l e = put l e) := show putS c.room l e = _ by unfold putS; rw [if_pos (.inr hlt)]
          refine wp_region_later (by kernel_rfl) (by kernel_rfl) ?_
          repeat (go_big_quiet_step (first | exact rfl))
          refine wpQuiet_nil ?_
          intro _ hw'
          obtain ⟨q, rfl⟩ := hw'
          have G : Hid (Db q.val p b c l ∧ RvAt q.val i 74 e.k.cs ∧ RvAt q.val j 76 e.pc ∧ w.grownBy q.val (some b)) :=
            ⟨D1.out.1.below q.below, D1.out.2.1.below q.below, D1.out.2.2.1.below q.below, D1.out.2.2.2.1.andThen (grown_of_below q.below none) (fun j e => by cases e)⟩
          clear g3 g1 gl D1
          go_wp2_with fail
          have v3 := fun z : Later q.val => (G.out.1.below z.below).c3
          have v1 := fun z : Later q.val => (G.out.2.1.below z.below).ld rtK (Ky.size _)
          have v2 := fun z : Later q.val => (G.out.2.2.1.below z.below).ld rtP (En.psize _)
          refine wp_region_later_tail 6 (by kernel_rfl) (by kernel_rfl) ?_
          simp only [List.take_succ_cons, List.take_zero]
          repeat (go_big_quiet_step (first | exact rfl))
          refine wpQuiet_nil ?_
          intro u
          simp only [List.drop_succ_cons, List.drop_zero]
          obtain ⟨V', sV, dV, gV⟩ := FIN.out u.val l (G.out.1.below u.below) (G.out.2.1.below u.below) (G.out.2.2.1.below u.below) (G.out.2.2.2.andThen (grown_of_below u.below none) (fun j e => by cases e)) hP.out
          have GV : Hid (Db V' p b c (putS c.room l e) ∧ w.grownBy V' (some b)) := ⟨dV, gV⟩
          clear dV gV v1 v2 v3
          go_wp2
          go_ret
          exact ⟨by rw [hE.out]; rfl, by rw [hE.out]; exact GV.out.1, GV.out.2⟩
        · have hge : c.room ≤ (l.length : Int) := by omega
          have hge' : decide (c.room ≤ (l.length : Int)) = true := by simpa using hge
          obtain ⟨x, hel, hold⟩ := eld_ne (l := l) (fun e => by subst e; simp at hlt; omega)
          have hP : Hid (putS c.room l e = put (del l x.rk) e) := show putS c.room l e = _ by
            unfold putS
            rw [if_neg (by rintro (h | h); rw [hs.out] at h; cases h; omega), hel]
          have hdl : Hid (((del l x.rk).length : Int) ≤ c.room) := by
            have := length_del H.out.1.map.1 hold.mem
            have := H.out.1.len
            show _ ≤ _
            omega
          have kwf : Hid (x.k.wf) := (H.out.1.map.2.1 x hold.mem).k
          have EL : Hid (∀ (X : World), Db X p b c l → Calls Try.prog 33 #[.pointer (some ⟨p, 0, none⟩)] X fun r w' => r = .returned (.agg x.k.cs) ∧ Below X.heap.size X w') :=
            fun X hD => eldest_some p b l x X hD.c3 hD.map hel
          clear hold hel
          refine wp_region_later (by kernel_rfl) (by kernel_rfl) ?_
          repeat (go_big_quiet_step (first | exact rfl))
          refine wpQuiet_nil ?_
          intro _ hw'
          obtain ⟨q, rfl⟩ := hw'
          have G : Hid (Db q.val p b c l ∧ RvAt q.val i 74 e.k.cs ∧ RvAt q.val j 76 e.pc ∧ w.grownBy q.val (some b) ∧ w.heap.size ≤ i ∧ w.heap.size ≤ j) :=
            ⟨D1.out.1.below q.below, D1.out.2.1.below q.below, D1.out.2.2.1.below q.below, D1.out.2.2.2.1.andThen (grown_of_below q.below none) (fun j e => by cases e), D1.out.2.2.2.2.1, D1.out.2.2.2.2.2⟩
          clear g3 g1 gl D1
          go_wp2_with fail
          have v3 := fun z : Later q.val => (G.out.1.below z.below).c3
          have EQ : Hid (∀ z : Later q.val, Calls Try.prog 33 #[.pointer (some ⟨p, 0, none⟩)] z.val fun r w' => r = .returned (.agg x.k.cs) ∧ Below z.val.heap.size z.val w') := fun z => EL.out _ (G.out.1.below z.below)
          refine wp_region_later_tail 6 (by kernel_rfl) (by kernel_rfl) ?_
          simp only [List.take_succ_cons, List.take_zero]
          repeat (go_big_quiet_step (first | exact rfl | (go_at_call 33; with_reducible exact Calls.later_of (EQ.out _))))
          refine wpQuiet_nil ?_
          intro y
          simp only [List.drop_succ_cons, List.drop_zero]
          obtain ⟨V4, s4, m4, g4, z4⟩ := (G.out.1.below y.below).map.drop kwf.out 0
          have gw : w.grownBy V4 (some b) := (G.out.2.2.2.1.andThen (grown_of_below y.below none) (fun j e => by cases e)).andThen g4 (fun j e => .inr e)
          have hbn := H.out.1.lt
          have hi' := G.out.2.2.2.2.1
          have hj' := G.out.2.2.2.2.2
          have G4 : Hid (Db V4 p b c (del l x.rk) ∧ RvAt V4 i 74 e.k.cs ∧ RvAt V4 j 76 e.pc ∧ w.grownBy V4 (some b)) :=
            ⟨(G.out.1.below y.below).turn g4 m4 hdl.out, (g4.block _ (G.out.2.1.below y.below).lt (fun e => by cases e; omega)).trans (G.out.2.1.below y.below), (g4.block _ (G.out.2.2.1.below y.below).lt (fun e => by cases e; omega)).trans (G.out.2.2.1.below y.below), gw⟩
          clear m4 g4 z4 gw hbn v3 G hi' hj'
          go_wp2_with fail
          have v3 := fun z : Later V4 => (G4.out.1.below z.below).c3
          have v1 := fun z : Later V4 => (G4.out.2.1.below z.below).ld rtK (Ky.size _)
          have v2 := fun z : Later V4 => (G4.out.2.2.1.below z.below).ld rtP (En.psize _)
          refine wp_region_later_tail 6 (by kernel_rfl) (by kernel_rfl) ?_
          simp only [List.take_succ_cons, List.take_zero]
          repeat (go_big_quiet_step (first | exact rfl))
          refine wpQuiet_nil ?_
          intro u
          simp only [List.drop_succ_cons, List.drop_zero]
          obtain ⟨V', sV, dV, gV⟩ := FIN.out u.val (del l x.rk) (G4.out.1.below u.below) (G4.out.2.1.below u.below) (G4.out.2.2.1.below u.below) (G4.out.2.2.2.andThen (grown_of_below u.below none) (fun j e => by cases e)) hP.out
          have GV : Hid (Db V' p b c (putS c.room l e) ∧ w.grownBy V' (some b)) := ⟨dV, gV⟩
          clear dV gV v1 v2 v3
          go_wp2
          go_ret
          exact ⟨by rw [hE.out]; rfl, by rw [hE.out]; exact GV.out.1, GV.out.2⟩
end Go.Proofs.Ytoelpbajaadfeaa
