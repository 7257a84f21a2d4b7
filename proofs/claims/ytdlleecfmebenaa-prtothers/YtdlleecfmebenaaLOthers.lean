/-
  PrtOthers: its walk, for every tree.
-/
import Derived.Test.YtdlleecfmebenaaLForwards
namespace Go.Proofs.Ytdlleecfmebenaa
set_option linter.unusedVariables false
set_option maxRecDepth 4000
set_option linter.unusedSimpArgs false
open Go.RowKit

theorem eq_self {ks : List (Option IntKind)} (a : Row ks) : a.eq a = true := Row.eq_iff.2 rfl
theorem neqVs (a : Vc) (w : World) : (binOp .neq 28 (.agg a.cs) (.agg a.cs)).run Try.prog w = .ok (.bool false) w := by
  rw [run_neq_struct, eqVector, eq_self]
  rfl
theorem neqPs (a : Pt) (w : World) : (binOp .neq 45 (.agg a.cs) (.agg a.cs)).run Try.prog w = .ok (.bool false) w := by
  rw [neqP, eq_self]
  rfl
attribute [local go_sem ↓] ldP stP ldT stT ldV stB neqVs neqPs eqgV eqgP
attribute [local go_sem ↓] alP
attribute [local go_sem] alP_run
set_option maxHeartbeats 16000000 in
theorem PrtOthers_walk (h : Hd) (a0 : Option Addr) (n0 c0 : Nat) (l : List Pt) (i : Int) (w : World) (hs : SlAt w a0 n0 c0 l) (hi : -9223372036854775808 ≤ i ∧ i ≤ 9223372036854775807) :
    Calls Try.prog 5 #[.agg (trc h (.slice a0 n0 c0)), .int .i64 i] w fun r w' => r = .returned (.bool true) ∧ Below w.heap.size w w' := by
  obtain ⟨W, hW, r0, bW, zW⟩ := one_t w h (.slice a0 n0 c0)
  have l0 := r0.tld
  have H : Hid (SlAt W a0 n0 c0 l ∧ RvAt W w.heap.size 31 (trc h (.slice a0 n0 c0)) ∧ Below w.heap.size w W) := ⟨hs.below bW, r0, bW⟩
  clear hs r0 bW zW hi
  go_enter Try.func5, Try.ntmps5
  go_wp2_with fail
  refine (few_any h a0 n0 c0 l W H.out.1).mono ?_
  rintro _ W1 ⟨v, rfl, o1, b1⟩
  obtain ⟨ls, a, n, c, V, hlen, hn, rfl, sV, t, gV⟩ := few_in H.out.2.1 H.out.2.2 (Nat.le_refl _) b1 o1
  have G : Hid (TQ w V w.heap.size h a n c ls) := t
  have HN : Hid (ls.length = n) := hlen
  have hn1 : n ≤ 1000 := by omega
  have hn10 : n ≤ 10 := hn
  have lV := t.ld
  clear o1 b1 gV t l0 H hlen hW hn
  go_wp2_with fail
  refine (pstep_any h a n c ls i V G.out.sl hn1).mono ?_
  rintro _ V1 ⟨a1, c1, rfl, s1, b1⟩
  obtain ⟨V2, s2, t2, b2⟩ := TQ.new (w := w) (h := h) s1 (below_over G.out.bel b1)
  have hlt := (G.out.var.below b1).lt
  obtain ⟨i1, hi1⟩ : ∃ z, V1.heap.size = z := ⟨_, rfl⟩
  rw [hi1] at s2 t2 hlt
  have G2 : Hid (TQ w V2 w.heap.size h a n c ls ∧ TQ w V2 i1 h a1 n c1 (stepL ls i) ∧ w.heap.size < i1) := ⟨(G.out.below b1).below b2, t2, hlt⟩
  have l2 := G2.out.1.ld
  clear s1 b1 t2 b2 G lV sV hlt
  obtain ⟨BB, hBB⟩ : ∃ z, stepB ls i = z := ⟨_, rfl⟩
  rw [hBB]
  clear hBB
  have OT : Hid (∀ j : Nat, (j : Int) ≠ i → j < ls.length → Oth (gtP ls j) (gtP (stepL ls i) j)) := fun j hne hj => oth_step hne hj
  have LM : Hid ((stepL ls i).length = n) := by rw [stepL_len]; exact HN.out
  obtain ⟨m, hm⟩ : ∃ m, stepL ls i = m := ⟨_, rfl⟩
  rw [hm] at G2 OT LM
  clear hm
  have x16 := G2.out.1.var.t16
  have y16 := G2.out.2.1.var.t16
  have x0 := G2.out.1.var.tnum (j := 0) (k := .u64) rfl
  have y0 := G2.out.2.1.var.tnum (j := 0) (k := .u64) rfl
  have x7 := G2.out.1.var.tnum (j := 7) (k := .u16) rfl
  have y7 := G2.out.2.1.var.tnum (j := 7) (k := .u16) rfl
  have x8 := G2.out.1.var.tR
  have y8 := G2.out.2.1.var.tR
  go_wp2_with fail
  clear x16 y16 x0 y0 x7 y7 x8 y8 l2 s2 hi1
  go_loopw [7] (fun v7 wr => ∃ j : Nat, j ≤ n ∧ v7 = .int .i64 j ∧ Below V2.heap.size V2 wr) (fun v7 _ => n - (intOf v7).toNat)
  case atStart => exact ⟨0, by omega, rfl, Below.refl _ _⟩
  case round =>
    obtain ⟨j, hj, rfl, hB⟩ := hrel
    have G3 : Hid (TQ w wr w.heap.size h a n c ls ∧ TQ w wr i1 h a1 n c1 m) := ⟨G2.out.1.below hB, G2.out.2.1.below hB⟩
    have F3 : Hid (Below w.heap.size w wr ∧ Below V2.heap.size V2 wr) := ⟨G3.out.1.bel, hB⟩
    have hj0 : (0 : Int) ≤ (j : Int) := by omega
    have x16 := G3.out.1.var.t16
    have y16 := G3.out.2.var.t16
    clear hB
    by_cases hjn : j < n
    rotate_left
    · have e : j = n := by omega
      subst e
      have hj1 : ¬ (j : Int) < (j : Int) := by omega
      have FF : Hid (Below w.heap.size w wr) := F3.out.1
      clear F3 G3 y16
      go_wp2_with fail
      refine (awake_any _).mono ?_
      rintro _ VA ⟨rfl, bA⟩
      have FA : Hid (Below w.heap.size w VA) := below_over FF.out bA
      clear bA
      go_wp2
      go_ret
      exact ⟨rfl, FA.out⟩
    have hj1 : (j : Int) < (n : Int) := by omega
    by_cases hji : (j : Int) = i
    · subst hji
      clear G3 y16
      go_wp2
      go_roundw
      case rel => exact ⟨j + 1, by omega, by go_num, F3.out.2⟩
      case measure => simp [intOf]; omega
    have hjb : ((j : Int) == i) = false := by simpa using hji
    have hjl : j < ls.length := by rw [HN.out]; exact hjn
    obtain ⟨g0, o0, rfl⟩ := G3.out.1.sl.some' (by omega)
    obtain ⟨g1, o1, rfl⟩ := G3.out.2.sl.some' (by omega)
    have OJ := OT.out j hji hjl
    obtain ⟨p, hp⟩ : ∃ p, gtP ls j = p := ⟨_, rfl⟩
    obtain ⟨q, hq⟩ : ∃ q, gtP m j = q := ⟨_, rfl⟩
    rw [hp, hq] at OJ
    have OB : Hid (Oth p q) := OJ
    have atp : ls[j]? = some p := by rw [← hp]; exact gtP_at hjl
    have atq : m[j]? = some q := by rw [← hq]; exact gtP_at (by rw [LM.out]; omega)
    have f0 := fun x : Later wr => (G3.out.1.below x.below).var.t16
    have f1 := fun x : Later wr => (G3.out.2.below x.below).var.t16
    have fp := fun x : Later wr => (G3.out.1.below x.below).sl.ld atp
    have fq := fun x : Later wr => (G3.out.2.below x.below).sl.ld atq
    clear hp hq atp atq OJ
    go_upto_region 9 with fail
    clear x16 y16
    obtain ⟨X0, hX0⟩ : ∃ X0, World.drew wr = X0 := ⟨_, rfl⟩
    have B0 : Hid (Below wr.heap.size wr X0) := by rw [← hX0]; exact (Below.refl _ _).drew
    refine wp_region_noPanic ?_
    refine wp_region_held_drew (S := fun w' => ∃ x : Later wr, w' = x.val) (by kernel_rfl) ⟨⟨_, (Below.refl _ _).drew⟩, rfl⟩ (fun hHeld => ?_)
    rw [hX0] at hHeld ⊢
    clear hX0
    refine wpAnyH_take (i := 0) (oi := { dst := some 56, op := Op.fieldAddr 31 (Operand.tmp 2) 7, type := 0, pos := "law.go:61", after := #[], guard := none }) (v := ?_) rfl (by kernel_rfl) (by kernel_rfl) (by kernel_rfl) (fun _ _ _ h => h) (Or.inl ⟨by rfl, ?_⟩) hHeld ?_
    rotate_left
    · intro W_ hSw_
      obtain ⟨qq, rfl⟩ := hSw_
      first | (go_simp; done) | (go_simp; with_reducible rfl)
    rotate_left
    try simp only [Act.put, List.setIfInBounds_toArray, List.set_cons_zero, List.set_cons_succ]
    refine wpAnyH_take (i := 1) (oi := { dst := some 57, op := Op.load 29 (Operand.tmp 56), type := 29, pos := "law.go:61", after := #[{ on := 0, ground := Ground.data }], guard := none }) (v := ?_) rfl (by kernel_rfl) (by kernel_rfl) (by kernel_rfl) (fun _ _ _ h => h) (Or.inl ⟨by rfl, ?_⟩) hHeld ?_
    rotate_left
    · intro W_ hSw_
      obtain ⟨qq, rfl⟩ := hSw_
      first | (go_simp; done) | (go_simp; with_reducible rfl)
    rotate_left
    try simp only [Act.put, List.setIfInBounds_toArray, List.set_cons_zero, List.set_cons_succ]
    refine wpAnyH_take (i := 2) (oi := { dst := some 58, op := Op.move (Operand.tmp 7), type := 3, pos := "law.go:61", after := #[], guard := none }) (v := ?_) rfl (by kernel_rfl) (by kernel_rfl) (by kernel_rfl) (fun _ _ _ h => h) (Or.inl ⟨by rfl, ?_⟩) hHeld ?_
    rotate_left
    · intro W_ hSw_
      obtain ⟨qq, rfl⟩ := hSw_
      first | (go_simp; done) | (go_simp; with_reducible rfl)
    rotate_left
    try simp only [Act.put, List.setIfInBounds_toArray, List.set_cons_zero, List.set_cons_succ]
    refine wpAnyH_take (i := 3) (oi := { dst := some 59, op := Op.indexAddr 29 (Operand.tmp 57) (Operand.tmp 58), type := 0, pos := "law.go:61", after := #[{ on := 1, ground := Ground.data }, { on := 2, ground := Ground.data }], guard := none }) (v := ?_) rfl (by kernel_rfl) (by kernel_rfl) (by kernel_rfl) (fun _ _ _ h => h) (Or.inl ⟨by rfl, ?_⟩) hHeld ?_
    rotate_left
    · intro W_ hSw_
      obtain ⟨qq, rfl⟩ := hSw_
      first | (go_simp; done) | (go_simp; with_reducible rfl)
    rotate_left
    try simp only [Act.put, List.setIfInBounds_toArray, List.set_cons_zero, List.set_cons_succ]
    refine wpAnyH_take (i := 4) (oi := { dst := some 60, op := Op.load 45 (Operand.tmp 59), type := 45, pos := "law.go:61", after := #[{ on := 3, ground := Ground.data }], guard := none }) (v := ?_) rfl (by kernel_rfl) (by kernel_rfl) (by kernel_rfl) (fun _ _ _ h => h) (Or.inl ⟨by rfl, ?_⟩) hHeld ?_
    rotate_left
    · intro W_ hSw_
      obtain ⟨qq, rfl⟩ := hSw_
      first | (go_simp; done) | (go_simp; with_reducible rfl)
    rotate_left
    try simp only [Act.put, List.setIfInBounds_toArray, List.set_cons_zero, List.set_cons_succ]
    refine wpAnyH_take (i := 5) (oi := { dst := some 61, op := Op.fieldAddr 31 (Operand.tmp 5) 7, type := 0, pos := "law.go:61", after := #[{ on := 12, ground := Ground.gcOnly Departure.lateStores }], guard := none }) (v := ?_) rfl (by kernel_rfl) (by kernel_rfl) (by kernel_rfl) (fun _ _ _ h => h) (Or.inl ⟨by rfl, ?_⟩) hHeld ?_
    rotate_left
    · intro W_ hSw_
      obtain ⟨qq, rfl⟩ := hSw_
      first | (go_simp; done) | (go_simp; with_reducible rfl)
    rotate_left
    try simp only [Act.put, List.setIfInBounds_toArray, List.set_cons_zero, List.set_cons_succ]
    refine wpAnyH_take (i := 6) (oi := { dst := some 62, op := Op.load 29 (Operand.tmp 61), type := 29, pos := "law.go:61", after := #[{ on := 5, ground := Ground.data }, { on := 12, ground := Ground.gcOnly Departure.lateStores }], guard := none }) (v := ?_) rfl (by kernel_rfl) (by kernel_rfl) (by kernel_rfl) (fun _ _ _ h => h) (Or.inl ⟨by rfl, ?_⟩) hHeld ?_
    rotate_left
    · intro W_ hSw_
      obtain ⟨qq, rfl⟩ := hSw_
      first | (go_simp; done) | (go_simp; with_reducible rfl)
    rotate_left
    try simp only [Act.put, List.setIfInBounds_toArray, List.set_cons_zero, List.set_cons_succ]
    refine wpAnyH_take (i := 7) (oi := { dst := some 63, op := Op.move (Operand.tmp 7), type := 3, pos := "law.go:61", after := #[{ on := 12, ground := Ground.gcOnly Departure.lateStores }], guard := none }) (v := ?_) rfl (by kernel_rfl) (by kernel_rfl) (by kernel_rfl) (fun _ _ _ h => h) (Or.inl ⟨by rfl, ?_⟩) hHeld ?_
    rotate_left
    · intro W_ hSw_
      obtain ⟨qq, rfl⟩ := hSw_
      first | (go_simp; done) | (go_simp; with_reducible rfl)
    rotate_left
    try simp only [Act.put, List.setIfInBounds_toArray, List.set_cons_zero, List.set_cons_succ]
    refine wpAnyH_take (i := 8) (oi := { dst := some 64, op := Op.indexAddr 29 (Operand.tmp 62) (Operand.tmp 63), type := 0, pos := "law.go:61", after := #[{ on := 6, ground := Ground.data }, { on := 7, ground := Ground.data }, { on := 12, ground := Ground.gcOnly Departure.lateStores }], guard := none }) (v := ?_) rfl (by kernel_rfl) (by kernel_rfl) (by kernel_rfl) (fun _ _ _ h => h) (Or.inl ⟨by rfl, ?_⟩) hHeld ?_
    rotate_left
    · intro W_ hSw_
      obtain ⟨qq, rfl⟩ := hSw_
      first | (go_simp; done) | (go_simp; with_reducible rfl)
    rotate_left
    try simp only [Act.put, List.setIfInBounds_toArray, List.set_cons_zero, List.set_cons_succ]
    refine wpAnyH_take (i := 9) (oi := { dst := some 65, op := Op.load 45 (Operand.tmp 64), type := 45, pos := "law.go:61", after := #[{ on := 8, ground := Ground.data }, { on := 12, ground := Ground.gcOnly Departure.lateStores }], guard := none }) (v := ?_) rfl (by kernel_rfl) (by kernel_rfl) (by kernel_rfl) (fun _ _ _ h => h) (Or.inl ⟨by rfl, ?_⟩) hHeld ?_
    rotate_left
    · intro W_ hSw_
      obtain ⟨qq, rfl⟩ := hSw_
      first | (go_simp; done) | (go_simp; with_reducible rfl)
    rotate_left
    try simp only [Act.put, List.setIfInBounds_toArray, List.set_cons_zero, List.set_cons_succ]
    refine wpAnyH_ready (rs := [10, 11]) (by kernel_rfl) (by simp) ?_
    refine AllReadyH.cons (o := { dst := some 8, op := Op.alloc 45, type := 0, pos := "law.go:61", after := #[], guard := none }) rfl (fun K hK => ?_) (AllReadyH.cons (o := { dst := some 9, op := Op.alloc 45, type := 0, pos := "law.go:61", after := #[], guard := none }) rfl (fun K hK => ?_) AllReadyH.nil)
    · skip
      obtain ⟨XA, XB, q1, q2, ra, rb, bA, bB⟩ := pair_a X0 p q
      obtain ⟨xs, hxs⟩ : ∃ z, X0.heap.size = z := ⟨_, rfl⟩
      rw [hxs] at q1 q2 ra rb
      have BA : Hid (Below wr.heap.size wr XA ∧ Below wr.heap.size wr XB) := ⟨below_over B0.out bA, below_over B0.out bB⟩
      have RR : Hid (RvAt XB xs 45 p.cs ∧ RvAt XB (xs + 1) 45 q.cs) := ⟨ra, rb⟩
      have C1 : Hid (Below wr.heap.size wr (X0.alloc (.cells zeroP.cs 45))) := below_over B0.out ((Below.refl _ _).alloc (Nat.le_refl _) _)
      have C2 : Hid (Below wr.heap.size wr ((X0.alloc (.cells zeroP.cs 45)).alloc (.cells zeroP.cs 45))) := C1.out.trans ((Below.refl _ _).alloc C1.out.size _)
      clear ra rb bA bB
      go_simp
      clear hHeld
      refine hK.out _ _ ⟨⟨_, C1.out⟩, rfl⟩ (fun hHeld => ?_)
      clear hK K
      try simp only [Act.put, List.setIfInBounds_toArray, List.set_cons_zero, List.set_cons_succ]
      refine wpAnyH_ready (rs := [11]) (by kernel_rfl) (by simp) ?_
      refine AllReadyH.cons (o := { dst := some 9, op := Op.alloc 45, type := 0, pos := "law.go:61", after := #[], guard := none }) rfl (fun K hK => ?_) AllReadyH.nil
      go_simp
      clear hHeld
      refine hK.out _ _ ⟨⟨_, C2.out⟩, rfl⟩ (fun hHeld => ?_)
      clear hK K
      try simp only [Act.put, List.setIfInBounds_toArray, List.set_cons_zero, List.set_cons_succ]
      refine wpAnyH_ready (rs := [12]) (by kernel_rfl) (by simp) ?_
      refine AllReadyH.cons (o := { dst := none, op := Op.store 45 (Operand.tmp 8) (Operand.tmp 60), type := 0, pos := "law.go:61", after := #[{ on := 10, ground := Ground.data }, { on := 4, ground := Ground.data }, { on := 0, ground := Ground.phase }, { on := 1, ground := Ground.phase }, { on := 2, ground := Ground.phase }, { on := 3, ground := Ground.phase }, { on := 4, ground := Ground.phase }, { on := 5, ground := Ground.textOnly Departure.lateStores }, { on := 6, ground := Ground.textOnly Departure.lateStores }, { on := 7, ground := Ground.textOnly Departure.lateStores }, { on := 8, ground := Ground.textOnly Departure.lateStores }, { on := 9, ground := Ground.textOnly Departure.lateStores }, { on := 10, ground := Ground.phase }, { on := 11, ground := Ground.phase }], guard := none }) rfl (fun K hK => ?_) AllReadyH.nil
      go_simp
      clear hHeld
      refine hK.out _ _ ⟨⟨_, BA.out.1⟩, rfl⟩ (fun hHeld => ?_)
      clear hK K
      try simp only [Act.put, List.setIfInBounds_toArray, List.set_cons_zero, List.set_cons_succ]
      refine wpAnyH_ready (rs := [13]) (by kernel_rfl) (by simp) ?_
      refine AllReadyH.cons (o := { dst := none, op := Op.store 45 (Operand.tmp 9) (Operand.tmp 65), type := 0, pos := "law.go:61", after := #[{ on := 11, ground := Ground.data }, { on := 9, ground := Ground.data }, { on := 12, ground := Ground.chain }, { on := 0, ground := Ground.phase }, { on := 1, ground := Ground.phase }, { on := 2, ground := Ground.phase }, { on := 3, ground := Ground.phase }, { on := 4, ground := Ground.phase }, { on := 5, ground := Ground.phase }, { on := 6, ground := Ground.phase }, { on := 7, ground := Ground.phase }, { on := 8, ground := Ground.phase }, { on := 9, ground := Ground.phase }, { on := 10, ground := Ground.phase }, { on := 11, ground := Ground.phase }, { on := 12, ground := Ground.phase }], guard := none }) rfl (fun K hK => ?_) AllReadyH.nil
      go_simp
      clear hHeld
      refine hK.out _ _ ⟨⟨_, BA.out.2⟩, rfl⟩ (fun hHeld => ?_)
      clear hK K
      try simp only [Act.put, List.setIfInBounds_toArray, List.set_cons_zero, List.set_cons_succ]
      refine wpAnyH_done (by kernel_rfl) ?_ _
      refine NoPanic.normal ?_
      clear hHeld
      clear q1 q2 C1 C2
      have NE : Hid (xs ≠ xs + 1) := by exact (by omega : xs ≠ xs + 1)
      have LZ : Hid (wr.heap.size ≤ xs ∧ wr.heap.size ≤ xs + 1) := by have := B0.out.size; exact ⟨by omega, by omega⟩
      obtain ⟨ys, hys⟩ : ∃ z, xs + 1 = z := ⟨_, rfl⟩
      rw [hys] at RR NE LZ ⊢
      clear hys hxs
      have Rp := RR.out.1.rdE
      have Rq := RR.out.2.rdE
      go_upto_region 10 with fail
      refine wp_plain (C := fun w' => w' = XB) rfl ?_
      refine q_put (v := .pointer (some ⟨xs, 0 + 24, none⟩)) (yq rfl (Rn.qt (qfield rfl rfl fp24))) ?_
      try simp only [Act.put, List.setIfInBounds_toArray, List.set_cons_zero, List.set_cons_succ]
      refine q_put (v := .bool (p.bt 24)) (yq rfl (Rn.qt (qload rfl rfl (Rp.bit rfl)))) ?_
      try simp only [Act.put, List.setIfInBounds_toArray, List.set_cons_zero, List.set_cons_succ]
      refine q_put (v := .bool (p.bt 24)) (yq rfl (Rn.qt (qmove rfl rfl))) ?_
      try simp only [Act.put, List.setIfInBounds_toArray, List.set_cons_zero, List.set_cons_succ]
      refine q_put (v := gd (p.bt 24) true (.pointer (some ⟨ys, 0 + 24, none⟩))) (yq1 rfl rfl (fun e => Rn.qt (qfield rfl rfl fp24))) ?_
      try simp only [Act.put, List.setIfInBounds_toArray, List.set_cons_zero, List.set_cons_succ]
      refine q_put (v := gd (p.bt 24) true (.bool (q.bt 24))) (yq1 rfl rfl (fun e => Rn.qt (qload rfl (on e rfl) (Rq.bit rfl)))) ?_
      try simp only [Act.put, List.setIfInBounds_toArray, List.set_cons_zero, List.set_cons_succ]
      refine q_put (v := gd (p.bt 24) true (.bool (!(q.bt 24)))) (yq1 rfl rfl (fun e => Rn.qt (qnot rfl (on e rfl)))) ?_
      try simp only [Act.put, List.setIfInBounds_toArray, List.set_cons_zero, List.set_cons_succ]
      refine q_put (v := .bool ((p.bt 24) && (!(q.bt 24)))) (yq rfl (Rn.qt (qpick rfl rfl (pkA rfl rfl)))) ?_
      try simp only [Act.put, List.setIfInBounds_toArray, List.set_cons_zero, List.set_cons_succ]
      refine q_put (v := .bool ((p.bt 24) && (!(q.bt 24)))) (yq rfl (Rn.qt (qmove rfl rfl))) ?_
      try simp only [Act.put, List.setIfInBounds_toArray, List.set_cons_zero, List.set_cons_succ]
      refine q_put (v := gd ((p.bt 24) && (!(q.bt 24))) false (.pointer (some ⟨xs, 0 + 20, none⟩))) (yq1 rfl rfl (fun e => Rn.qt (qfield rfl rfl fp20))) ?_
      try simp only [Act.put, List.setIfInBounds_toArray, List.set_cons_zero, List.set_cons_succ]
      refine q_put (v := gd ((p.bt 24) && (!(q.bt 24))) false (.bool (p.bt 20))) (yq1 rfl rfl (fun e => Rn.qt (qload rfl (on e rfl) (Rp.bit rfl)))) ?_
      try simp only [Act.put, List.setIfInBounds_toArray, List.set_cons_zero, List.set_cons_succ]
      refine q_put (v := gd ((p.bt 24) && (!(q.bt 24))) false (.bool (p.bt 20))) (yq1 rfl rfl (fun e => Rn.qt (qmove rfl (on e rfl)))) ?_
      try simp only [Act.put, List.setIfInBounds_toArray, List.set_cons_zero, List.set_cons_succ]
      refine q_put (v := gd ((p.bt 24) && (!(q.bt 24))) false (gd (p.bt 20) true (.pointer (some ⟨ys, 0 + 20, none⟩)))) (yq2 rfl rfl (fun e1 e2 => Rn.qt (qfield rfl rfl fp20))) ?_
      try simp only [Act.put, List.setIfInBounds_toArray, List.set_cons_zero, List.set_cons_succ]
      refine q_put (v := gd ((p.bt 24) && (!(q.bt 24))) false (gd (p.bt 20) true (.bool (q.bt 20)))) (yq2 rfl rfl (fun e1 e2 => Rn.qt (qload rfl (on e2 (on e1 rfl)) (Rq.bit rfl)))) ?_
      try simp only [Act.put, List.setIfInBounds_toArray, List.set_cons_zero, List.set_cons_succ]
      refine q_put (v := gd ((p.bt 24) && (!(q.bt 24))) false (gd (p.bt 20) true (.bool (!(q.bt 20))))) (yq2 rfl rfl (fun e1 e2 => Rn.qt (qnot rfl (on e2 (on e1 rfl))))) ?_
      try simp only [Act.put, List.setIfInBounds_toArray, List.set_cons_zero, List.set_cons_succ]
      refine q_put (v := gd ((p.bt 24) && (!(q.bt 24))) false (.bool ((p.bt 20) && (!(q.bt 20))))) (yq1 rfl rfl (fun e => Rn.qt (qpick rfl (on e rfl) (pkA (on e rfl) rfl)))) ?_
      try simp only [Act.put, List.setIfInBounds_toArray, List.set_cons_zero, List.set_cons_succ]
      refine q_put (v := .bool (((p.bt 24) && (!(q.bt 24))) || ((p.bt 20) && (!(q.bt 20))))) (yq rfl (Rn.qt (qpick rfl rfl (pkO rfl rfl)))) ?_
      try simp only [Act.put, List.setIfInBounds_toArray, List.set_cons_zero, List.set_cons_succ]
      refine wpQuiet_nil ?_
      rintro y_ hy_
      rw [hy_]
      clear hy_ y_
      have hc := oth_only OB.out
      rw [hc]
      clear hc Rp Rq
      go_upto_region 12 with fail
      obtain ⟨Y0, hY0⟩ : ∃ Y, World.drew XB = Y := ⟨_, rfl⟩
      have bY : Below XB.heap.size XB Y0 := by rw [← hY0]; exact (Below.refl _ _).drew
      obtain ⟨Y1, u1, v1, g1_⟩ := (RR.out.2.below bY).setB kb24 (p.bt 24)
      obtain ⟨Y2, u2, v2, g2_⟩ := v1.setB kb20 (p.bt 20)
      have p0 : RvAt Y0 xs 45 p.cs := RR.out.1.below bY
      have p1 := p0.keptBut g1_ (by have := NE.out; simp; omega)
      have p2 := p1.keptBut g2_ (by have := NE.out; simp; omega)
      rw [oth_back OB.out] at v2
      have YY : Hid (RvAt Y0 xs 45 p.cs ∧ RvAt Y1 xs 45 p.cs ∧ RvAt Y2 xs 45 p.cs ∧ RvAt Y2 ys 45 p.cs) := ⟨p0, p1, p2, v2⟩
      have b0 : Below wr.heap.size wr Y0 := below_over BA.out.2 bY
      have b1 : Below wr.heap.size wr Y1 := gro b0 g1_ (by have := LZ.out; omega) b0.size
      have FY : Hid (Below wr.heap.size wr Y2) := gro b1 g2_ (by have := LZ.out; omega) b1.size
      clear v1 v2 g1_ g2_ p0 p1 p2 b0 b1 bY RR BA NE LZ
      refine wp_region_noPanic ?_
      refine wp_region_held_drew (S := fun w' => RvAt w' xs 45 p.cs) (by kernel_rfl) (by rw [hY0]; exact YY.out.1) (fun hHeld => ?_)
      rw [hY0] at hHeld ⊢
      clear hY0
      refine wpAnyH_take (i := 0) (oi := { dst := some 82, op := Op.fieldAddr 45 (Operand.tmp 8) 24, type := 0, pos := "law.go:65", after := #[], guard := none }) (v := ?_) rfl (by kernel_rfl) (by kernel_rfl) (by kernel_rfl) (fun _ _ _ h => h) (Or.inl ⟨by rfl, ?_⟩) hHeld ?_
      rotate_left
      · intro W_ hSw_
        have x24 := RvAt.pbit (j := 24) hSw_ rfl; have x20 := RvAt.pbit (j := 20) hSw_ rfl
        first | (go_simp; done) | (go_simp; with_reducible rfl)
      rotate_left
      try simp only [Act.put, List.setIfInBounds_toArray, List.set_cons_zero, List.set_cons_succ]
      refine wpAnyH_take (i := 1) (oi := { dst := some 83, op := Op.load 4 (Operand.tmp 82), type := 4, pos := "law.go:65", after := #[{ on := 0, ground := Ground.data }], guard := none }) (v := ?_) rfl (by kernel_rfl) (by kernel_rfl) (by kernel_rfl) (fun _ _ _ h => h) (Or.inl ⟨by rfl, ?_⟩) hHeld ?_
      rotate_left
      · intro W_ hSw_
        have x24 := RvAt.pbit (j := 24) hSw_ rfl; have x20 := RvAt.pbit (j := 20) hSw_ rfl
        first | (go_simp; done) | (go_simp; with_reducible rfl)
      rotate_left
      try simp only [Act.put, List.setIfInBounds_toArray, List.set_cons_zero, List.set_cons_succ]
      refine wpAnyH_take (i := 2) (oi := { dst := some 84, op := Op.fieldAddr 45 (Operand.tmp 8) 20, type := 0, pos := "law.go:65", after := #[{ on := 5, ground := Ground.gcOnly Departure.lateStores }], guard := none }) (v := ?_) rfl (by kernel_rfl) (by kernel_rfl) (by kernel_rfl) (fun _ _ _ h => h) (Or.inl ⟨by rfl, ?_⟩) hHeld ?_
      rotate_left
      · intro W_ hSw_
        have x24 := RvAt.pbit (j := 24) hSw_ rfl; have x20 := RvAt.pbit (j := 20) hSw_ rfl
        first | (go_simp; done) | (go_simp; with_reducible rfl)
      rotate_left
      try simp only [Act.put, List.setIfInBounds_toArray, List.set_cons_zero, List.set_cons_succ]
      refine wpAnyH_take (i := 3) (oi := { dst := some 85, op := Op.load 4 (Operand.tmp 84), type := 4, pos := "law.go:65", after := #[{ on := 2, ground := Ground.data }, { on := 5, ground := Ground.gcOnly Departure.lateStores }], guard := none }) (v := ?_) rfl (by kernel_rfl) (by kernel_rfl) (by kernel_rfl) (fun _ _ _ h => h) (Or.inl ⟨by rfl, ?_⟩) hHeld ?_
      rotate_left
      · intro W_ hSw_
        have x24 := RvAt.pbit (j := 24) hSw_ rfl; have x20 := RvAt.pbit (j := 20) hSw_ rfl
        first | (go_simp; done) | (go_simp; with_reducible rfl)
      rotate_left
      try simp only [Act.put, List.setIfInBounds_toArray, List.set_cons_zero, List.set_cons_succ]
      refine wpAnyH_take (i := 4) (oi := { dst := some 86, op := Op.fieldAddr 45 (Operand.tmp 9) 24, type := 0, pos := "law.go:65", after := #[{ on := 0, ground := Ground.phase }, { on := 1, ground := Ground.phase }, { on := 2, ground := Ground.textOnly Departure.lateStores }, { on := 3, ground := Ground.textOnly Departure.lateStores }], guard := none }) (v := ?_) rfl (by kernel_rfl) (by kernel_rfl) (by kernel_rfl) (fun _ _ _ h => h) (Or.inl ⟨by rfl, ?_⟩) hHeld ?_
      rotate_left
      · intro W_ hSw_
        have x24 := RvAt.pbit (j := 24) hSw_ rfl; have x20 := RvAt.pbit (j := 20) hSw_ rfl
        first | (go_simp; done) | (go_simp; with_reducible rfl)
      rotate_left
      try simp only [Act.put, List.setIfInBounds_toArray, List.set_cons_zero, List.set_cons_succ]
      refine wpAnyH_ready (rs := [5]) (by kernel_rfl) (by simp) ?_
      refine AllReadyH.cons (o := { dst := none, op := Op.store 4 (Operand.tmp 86) (Operand.tmp 83), type := 0, pos := "law.go:65", after := #[{ on := 4, ground := Ground.data }, { on := 1, ground := Ground.data }, { on := 0, ground := Ground.phase }, { on := 1, ground := Ground.phase }, { on := 2, ground := Ground.textOnly Departure.lateStores }, { on := 3, ground := Ground.textOnly Departure.lateStores }], guard := none }) rfl (fun K hK => ?_) AllReadyH.nil
      go_simp
      clear hHeld
      refine hK.out _ _ YY.out.2.1 (fun hHeld => ?_)
      clear hK K
      try simp only [Act.put, List.setIfInBounds_toArray, List.set_cons_zero, List.set_cons_succ]
      refine wpAnyH_take (i := 6) (oi := { dst := some 87, op := Op.fieldAddr 45 (Operand.tmp 9) 20, type := 0, pos := "law.go:65", after := #[{ on := 0, ground := Ground.phase }, { on := 1, ground := Ground.phase }, { on := 2, ground := Ground.phase }, { on := 3, ground := Ground.phase }, { on := 4, ground := Ground.phase }, { on := 5, ground := Ground.phase }], guard := none }) (v := ?_) rfl (by kernel_rfl) (by kernel_rfl) (by kernel_rfl) (fun _ _ _ h => h) (Or.inl ⟨by rfl, ?_⟩) hHeld ?_
      rotate_left
      · intro W_ hSw_
        have x24 := RvAt.pbit (j := 24) hSw_ rfl; have x20 := RvAt.pbit (j := 20) hSw_ rfl
        first | (go_simp; done) | (go_simp; with_reducible rfl)
      rotate_left
      try simp only [Act.put, List.setIfInBounds_toArray, List.set_cons_zero, List.set_cons_succ]
      refine wpAnyH_ready (rs := [7]) (by kernel_rfl) (by simp) ?_
      refine AllReadyH.cons (o := { dst := none, op := Op.store 4 (Operand.tmp 87) (Operand.tmp 85), type := 0, pos := "law.go:65", after := #[{ on := 6, ground := Ground.data }, { on := 3, ground := Ground.data }, { on := 5, ground := Ground.chain }, { on := 0, ground := Ground.phase }, { on := 1, ground := Ground.phase }, { on := 2, ground := Ground.phase }, { on := 3, ground := Ground.phase }, { on := 4, ground := Ground.phase }, { on := 5, ground := Ground.phase }], guard := none }) rfl (fun K hK => ?_) AllReadyH.nil
      go_simp
      clear hHeld
      refine hK.out _ _ YY.out.2.2.1 (fun hHeld => ?_)
      clear hK K
      try simp only [Act.put, List.setIfInBounds_toArray, List.set_cons_zero, List.set_cons_succ]
      refine wpAnyH_done (by kernel_rfl) ?_ _
      refine NoPanic.normal ?_
      clear hHeld
      have lp2 := YY.out.2.2.1.pld
      have lq2 := YY.out.2.2.2.pld
      clear u1 u2 YY
      go_wp2
      go_roundw
      case rel => exact ⟨j + 1, by omega, by go_num, below_over F3.out.2 FY.out⟩
      case measure => simp [intOf]; omega
    · skip
      obtain ⟨XA, XB, q1, q2, ra, rb, bA, bB⟩ := pair_b X0 p q
      obtain ⟨xs, hxs⟩ : ∃ z, X0.heap.size = z := ⟨_, rfl⟩
      rw [hxs] at q1 q2 ra rb
      have BA : Hid (Below wr.heap.size wr XA ∧ Below wr.heap.size wr XB) := ⟨below_over B0.out bA, below_over B0.out bB⟩
      have RR : Hid (RvAt XB (xs + 1) 45 p.cs ∧ RvAt XB xs 45 q.cs) := ⟨ra, rb⟩
      have C1 : Hid (Below wr.heap.size wr (X0.alloc (.cells zeroP.cs 45))) := below_over B0.out ((Below.refl _ _).alloc (Nat.le_refl _) _)
      have C2 : Hid (Below wr.heap.size wr ((X0.alloc (.cells zeroP.cs 45)).alloc (.cells zeroP.cs 45))) := C1.out.trans ((Below.refl _ _).alloc C1.out.size _)
      clear ra rb bA bB
      go_simp
      clear hHeld
      refine hK.out _ _ ⟨⟨_, C1.out⟩, rfl⟩ (fun hHeld => ?_)
      clear hK K
      try simp only [Act.put, List.setIfInBounds_toArray, List.set_cons_zero, List.set_cons_succ]
      refine wpAnyH_ready (rs := [10]) (by kernel_rfl) (by simp) ?_
      refine AllReadyH.cons (o := { dst := some 8, op := Op.alloc 45, type := 0, pos := "law.go:61", after := #[], guard := none }) rfl (fun K hK => ?_) AllReadyH.nil
      go_simp
      clear hHeld
      refine hK.out _ _ ⟨⟨_, C2.out⟩, rfl⟩ (fun hHeld => ?_)
      clear hK K
      try simp only [Act.put, List.setIfInBounds_toArray, List.set_cons_zero, List.set_cons_succ]
      refine wpAnyH_ready (rs := [12]) (by kernel_rfl) (by simp) ?_
      refine AllReadyH.cons (o := { dst := none, op := Op.store 45 (Operand.tmp 8) (Operand.tmp 60), type := 0, pos := "law.go:61", after := #[{ on := 10, ground := Ground.data }, { on := 4, ground := Ground.data }, { on := 0, ground := Ground.phase }, { on := 1, ground := Ground.phase }, { on := 2, ground := Ground.phase }, { on := 3, ground := Ground.phase }, { on := 4, ground := Ground.phase }, { on := 5, ground := Ground.textOnly Departure.lateStores }, { on := 6, ground := Ground.textOnly Departure.lateStores }, { on := 7, ground := Ground.textOnly Departure.lateStores }, { on := 8, ground := Ground.textOnly Departure.lateStores }, { on := 9, ground := Ground.textOnly Departure.lateStores }, { on := 10, ground := Ground.phase }, { on := 11, ground := Ground.phase }], guard := none }) rfl (fun K hK => ?_) AllReadyH.nil
      go_simp
      clear hHeld
      refine hK.out _ _ ⟨⟨_, BA.out.1⟩, rfl⟩ (fun hHeld => ?_)
      clear hK K
      try simp only [Act.put, List.setIfInBounds_toArray, List.set_cons_zero, List.set_cons_succ]
      refine wpAnyH_ready (rs := [13]) (by kernel_rfl) (by simp) ?_
      refine AllReadyH.cons (o := { dst := none, op := Op.store 45 (Operand.tmp 9) (Operand.tmp 65), type := 0, pos := "law.go:61", after := #[{ on := 11, ground := Ground.data }, { on := 9, ground := Ground.data }, { on := 12, ground := Ground.chain }, { on := 0, ground := Ground.phase }, { on := 1, ground := Ground.phase }, { on := 2, ground := Ground.phase }, { on := 3, ground := Ground.phase }, { on := 4, ground := Ground.phase }, { on := 5, ground := Ground.phase }, { on := 6, ground := Ground.phase }, { on := 7, ground := Ground.phase }, { on := 8, ground := Ground.phase }, { on := 9, ground := Ground.phase }, { on := 10, ground := Ground.phase }, { on := 11, ground := Ground.phase }, { on := 12, ground := Ground.phase }], guard := none }) rfl (fun K hK => ?_) AllReadyH.nil
      go_simp
      clear hHeld
      refine hK.out _ _ ⟨⟨_, BA.out.2⟩, rfl⟩ (fun hHeld => ?_)
      clear hK K
      try simp only [Act.put, List.setIfInBounds_toArray, List.set_cons_zero, List.set_cons_succ]
      refine wpAnyH_done (by kernel_rfl) ?_ _
      refine NoPanic.normal ?_
      clear hHeld
      clear q1 q2 C1 C2
      have NE : Hid (xs ≠ xs + 1) := by exact (by omega : xs ≠ xs + 1)
      have LZ : Hid (wr.heap.size ≤ xs ∧ wr.heap.size ≤ xs + 1) := by have := B0.out.size; exact ⟨by omega, by omega⟩
      obtain ⟨ys, hys⟩ : ∃ z, xs + 1 = z := ⟨_, rfl⟩
      rw [hys] at RR NE LZ ⊢
      clear hys hxs
      have Rp := RR.out.1.rdE
      have Rq := RR.out.2.rdE
      go_upto_region 10 with fail
      refine wp_plain (C := fun w' => w' = XB) rfl ?_
      refine q_put (v := .pointer (some ⟨ys, 0 + 24, none⟩)) (yq rfl (Rn.qt (qfield rfl rfl fp24))) ?_
      try simp only [Act.put, List.setIfInBounds_toArray, List.set_cons_zero, List.set_cons_succ]
      refine q_put (v := .bool (p.bt 24)) (yq rfl (Rn.qt (qload rfl rfl (Rp.bit rfl)))) ?_
      try simp only [Act.put, List.setIfInBounds_toArray, List.set_cons_zero, List.set_cons_succ]
      refine q_put (v := .bool (p.bt 24)) (yq rfl (Rn.qt (qmove rfl rfl))) ?_
      try simp only [Act.put, List.setIfInBounds_toArray, List.set_cons_zero, List.set_cons_succ]
      refine q_put (v := gd (p.bt 24) true (.pointer (some ⟨xs, 0 + 24, none⟩))) (yq1 rfl rfl (fun e => Rn.qt (qfield rfl rfl fp24))) ?_
      try simp only [Act.put, List.setIfInBounds_toArray, List.set_cons_zero, List.set_cons_succ]
      refine q_put (v := gd (p.bt 24) true (.bool (q.bt 24))) (yq1 rfl rfl (fun e => Rn.qt (qload rfl (on e rfl) (Rq.bit rfl)))) ?_
      try simp only [Act.put, List.setIfInBounds_toArray, List.set_cons_zero, List.set_cons_succ]
      refine q_put (v := gd (p.bt 24) true (.bool (!(q.bt 24)))) (yq1 rfl rfl (fun e => Rn.qt (qnot rfl (on e rfl)))) ?_
      try simp only [Act.put, List.setIfInBounds_toArray, List.set_cons_zero, List.set_cons_succ]
      refine q_put (v := .bool ((p.bt 24) && (!(q.bt 24)))) (yq rfl (Rn.qt (qpick rfl rfl (pkA rfl rfl)))) ?_
      try simp only [Act.put, List.setIfInBounds_toArray, List.set_cons_zero, List.set_cons_succ]
      refine q_put (v := .bool ((p.bt 24) && (!(q.bt 24)))) (yq rfl (Rn.qt (qmove rfl rfl))) ?_
      try simp only [Act.put, List.setIfInBounds_toArray, List.set_cons_zero, List.set_cons_succ]
      refine q_put (v := gd ((p.bt 24) && (!(q.bt 24))) false (.pointer (some ⟨ys, 0 + 20, none⟩))) (yq1 rfl rfl (fun e => Rn.qt (qfield rfl rfl fp20))) ?_
      try simp only [Act.put, List.setIfInBounds_toArray, List.set_cons_zero, List.set_cons_succ]
      refine q_put (v := gd ((p.bt 24) && (!(q.bt 24))) false (.bool (p.bt 20))) (yq1 rfl rfl (fun e => Rn.qt (qload rfl (on e rfl) (Rp.bit rfl)))) ?_
      try simp only [Act.put, List.setIfInBounds_toArray, List.set_cons_zero, List.set_cons_succ]
      refine q_put (v := gd ((p.bt 24) && (!(q.bt 24))) false (.bool (p.bt 20))) (yq1 rfl rfl (fun e => Rn.qt (qmove rfl (on e rfl)))) ?_
      try simp only [Act.put, List.setIfInBounds_toArray, List.set_cons_zero, List.set_cons_succ]
      refine q_put (v := gd ((p.bt 24) && (!(q.bt 24))) false (gd (p.bt 20) true (.pointer (some ⟨xs, 0 + 20, none⟩)))) (yq2 rfl rfl (fun e1 e2 => Rn.qt (qfield rfl rfl fp20))) ?_
      try simp only [Act.put, List.setIfInBounds_toArray, List.set_cons_zero, List.set_cons_succ]
      refine q_put (v := gd ((p.bt 24) && (!(q.bt 24))) false (gd (p.bt 20) true (.bool (q.bt 20)))) (yq2 rfl rfl (fun e1 e2 => Rn.qt (qload rfl (on e2 (on e1 rfl)) (Rq.bit rfl)))) ?_
      try simp only [Act.put, List.setIfInBounds_toArray, List.set_cons_zero, List.set_cons_succ]
      refine q_put (v := gd ((p.bt 24) && (!(q.bt 24))) false (gd (p.bt 20) true (.bool (!(q.bt 20))))) (yq2 rfl rfl (fun e1 e2 => Rn.qt (qnot rfl (on e2 (on e1 rfl))))) ?_
      try simp only [Act.put, List.setIfInBounds_toArray, List.set_cons_zero, List.set_cons_succ]
      refine q_put (v := gd ((p.bt 24) && (!(q.bt 24))) false (.bool ((p.bt 20) && (!(q.bt 20))))) (yq1 rfl rfl (fun e => Rn.qt (qpick rfl (on e rfl) (pkA (on e rfl) rfl)))) ?_
      try simp only [Act.put, List.setIfInBounds_toArray, List.set_cons_zero, List.set_cons_succ]
      refine q_put (v := .bool (((p.bt 24) && (!(q.bt 24))) || ((p.bt 20) && (!(q.bt 20))))) (yq rfl (Rn.qt (qpick rfl rfl (pkO rfl rfl)))) ?_
      try simp only [Act.put, List.setIfInBounds_toArray, List.set_cons_zero, List.set_cons_succ]
      refine wpQuiet_nil ?_
      rintro y_ hy_
      rw [hy_]
      clear hy_ y_
      have hc := oth_only OB.out
      rw [hc]
      clear hc Rp Rq
      go_upto_region 12 with fail
      obtain ⟨Y0, hY0⟩ : ∃ Y, World.drew XB = Y := ⟨_, rfl⟩
      have bY : Below XB.heap.size XB Y0 := by rw [← hY0]; exact (Below.refl _ _).drew
      obtain ⟨Y1, u1, v1, g1_⟩ := (RR.out.2.below bY).setB kb24 (p.bt 24)
      obtain ⟨Y2, u2, v2, g2_⟩ := v1.setB kb20 (p.bt 20)
      have p0 : RvAt Y0 ys 45 p.cs := RR.out.1.below bY
      have p1 := p0.keptBut g1_ (by have := NE.out; simp; omega)
      have p2 := p1.keptBut g2_ (by have := NE.out; simp; omega)
      rw [oth_back OB.out] at v2
      have YY : Hid (RvAt Y0 ys 45 p.cs ∧ RvAt Y1 ys 45 p.cs ∧ RvAt Y2 ys 45 p.cs ∧ RvAt Y2 xs 45 p.cs) := ⟨p0, p1, p2, v2⟩
      have b0 : Below wr.heap.size wr Y0 := below_over BA.out.2 bY
      have b1 : Below wr.heap.size wr Y1 := gro b0 g1_ (by have := LZ.out; omega) b0.size
      have FY : Hid (Below wr.heap.size wr Y2) := gro b1 g2_ (by have := LZ.out; omega) b1.size
      clear v1 v2 g1_ g2_ p0 p1 p2 b0 b1 bY RR BA NE LZ
      refine wp_region_noPanic ?_
      refine wp_region_held_drew (S := fun w' => RvAt w' ys 45 p.cs) (by kernel_rfl) (by rw [hY0]; exact YY.out.1) (fun hHeld => ?_)
      rw [hY0] at hHeld ⊢
      clear hY0
      refine wpAnyH_take (i := 0) (oi := { dst := some 82, op := Op.fieldAddr 45 (Operand.tmp 8) 24, type := 0, pos := "law.go:65", after := #[], guard := none }) (v := ?_) rfl (by kernel_rfl) (by kernel_rfl) (by kernel_rfl) (fun _ _ _ h => h) (Or.inl ⟨by rfl, ?_⟩) hHeld ?_
      rotate_left
      · intro W_ hSw_
        have x24 := RvAt.pbit (j := 24) hSw_ rfl; have x20 := RvAt.pbit (j := 20) hSw_ rfl
        first | (go_simp; done) | (go_simp; with_reducible rfl)
      rotate_left
      try simp only [Act.put, List.setIfInBounds_toArray, List.set_cons_zero, List.set_cons_succ]
      refine wpAnyH_take (i := 1) (oi := { dst := some 83, op := Op.load 4 (Operand.tmp 82), type := 4, pos := "law.go:65", after := #[{ on := 0, ground := Ground.data }], guard := none }) (v := ?_) rfl (by kernel_rfl) (by kernel_rfl) (by kernel_rfl) (fun _ _ _ h => h) (Or.inl ⟨by rfl, ?_⟩) hHeld ?_
      rotate_left
      · intro W_ hSw_
        have x24 := RvAt.pbit (j := 24) hSw_ rfl; have x20 := RvAt.pbit (j := 20) hSw_ rfl
        first | (go_simp; done) | (go_simp; with_reducible rfl)
      rotate_left
      try simp only [Act.put, List.setIfInBounds_toArray, List.set_cons_zero, List.set_cons_succ]
      refine wpAnyH_take (i := 2) (oi := { dst := some 84, op := Op.fieldAddr 45 (Operand.tmp 8) 20, type := 0, pos := "law.go:65", after := #[{ on := 5, ground := Ground.gcOnly Departure.lateStores }], guard := none }) (v := ?_) rfl (by kernel_rfl) (by kernel_rfl) (by kernel_rfl) (fun _ _ _ h => h) (Or.inl ⟨by rfl, ?_⟩) hHeld ?_
      rotate_left
      · intro W_ hSw_
        have x24 := RvAt.pbit (j := 24) hSw_ rfl; have x20 := RvAt.pbit (j := 20) hSw_ rfl
        first | (go_simp; done) | (go_simp; with_reducible rfl)
      rotate_left
      try simp only [Act.put, List.setIfInBounds_toArray, List.set_cons_zero, List.set_cons_succ]
      refine wpAnyH_take (i := 3) (oi := { dst := some 85, op := Op.load 4 (Operand.tmp 84), type := 4, pos := "law.go:65", after := #[{ on := 2, ground := Ground.data }, { on := 5, ground := Ground.gcOnly Departure.lateStores }], guard := none }) (v := ?_) rfl (by kernel_rfl) (by kernel_rfl) (by kernel_rfl) (fun _ _ _ h => h) (Or.inl ⟨by rfl, ?_⟩) hHeld ?_
      rotate_left
      · intro W_ hSw_
        have x24 := RvAt.pbit (j := 24) hSw_ rfl; have x20 := RvAt.pbit (j := 20) hSw_ rfl
        first | (go_simp; done) | (go_simp; with_reducible rfl)
      rotate_left
      try simp only [Act.put, List.setIfInBounds_toArray, List.set_cons_zero, List.set_cons_succ]
      refine wpAnyH_take (i := 4) (oi := { dst := some 86, op := Op.fieldAddr 45 (Operand.tmp 9) 24, type := 0, pos := "law.go:65", after := #[{ on := 0, ground := Ground.phase }, { on := 1, ground := Ground.phase }, { on := 2, ground := Ground.textOnly Departure.lateStores }, { on := 3, ground := Ground.textOnly Departure.lateStores }], guard := none }) (v := ?_) rfl (by kernel_rfl) (by kernel_rfl) (by kernel_rfl) (fun _ _ _ h => h) (Or.inl ⟨by rfl, ?_⟩) hHeld ?_
      rotate_left
      · intro W_ hSw_
        have x24 := RvAt.pbit (j := 24) hSw_ rfl; have x20 := RvAt.pbit (j := 20) hSw_ rfl
        first | (go_simp; done) | (go_simp; with_reducible rfl)
      rotate_left
      try simp only [Act.put, List.setIfInBounds_toArray, List.set_cons_zero, List.set_cons_succ]
      refine wpAnyH_ready (rs := [5]) (by kernel_rfl) (by simp) ?_
      refine AllReadyH.cons (o := { dst := none, op := Op.store 4 (Operand.tmp 86) (Operand.tmp 83), type := 0, pos := "law.go:65", after := #[{ on := 4, ground := Ground.data }, { on := 1, ground := Ground.data }, { on := 0, ground := Ground.phase }, { on := 1, ground := Ground.phase }, { on := 2, ground := Ground.textOnly Departure.lateStores }, { on := 3, ground := Ground.textOnly Departure.lateStores }], guard := none }) rfl (fun K hK => ?_) AllReadyH.nil
      go_simp
      clear hHeld
      refine hK.out _ _ YY.out.2.1 (fun hHeld => ?_)
      clear hK K
      try simp only [Act.put, List.setIfInBounds_toArray, List.set_cons_zero, List.set_cons_succ]
      refine wpAnyH_take (i := 6) (oi := { dst := some 87, op := Op.fieldAddr 45 (Operand.tmp 9) 20, type := 0, pos := "law.go:65", after := #[{ on := 0, ground := Ground.phase }, { on := 1, ground := Ground.phase }, { on := 2, ground := Ground.phase }, { on := 3, ground := Ground.phase }, { on := 4, ground := Ground.phase }, { on := 5, ground := Ground.phase }], guard := none }) (v := ?_) rfl (by kernel_rfl) (by kernel_rfl) (by kernel_rfl) (fun _ _ _ h => h) (Or.inl ⟨by rfl, ?_⟩) hHeld ?_
      rotate_left
      · intro W_ hSw_
        have x24 := RvAt.pbit (j := 24) hSw_ rfl; have x20 := RvAt.pbit (j := 20) hSw_ rfl
        first | (go_simp; done) | (go_simp; with_reducible rfl)
      rotate_left
      try simp only [Act.put, List.setIfInBounds_toArray, List.set_cons_zero, List.set_cons_succ]
      refine wpAnyH_ready (rs := [7]) (by kernel_rfl) (by simp) ?_
      refine AllReadyH.cons (o := { dst := none, op := Op.store 4 (Operand.tmp 87) (Operand.tmp 85), type := 0, pos := "law.go:65", after := #[{ on := 6, ground := Ground.data }, { on := 3, ground := Ground.data }, { on := 5, ground := Ground.chain }, { on := 0, ground := Ground.phase }, { on := 1, ground := Ground.phase }, { on := 2, ground := Ground.phase }, { on := 3, ground := Ground.phase }, { on := 4, ground := Ground.phase }, { on := 5, ground := Ground.phase }], guard := none }) rfl (fun K hK => ?_) AllReadyH.nil
      go_simp
      clear hHeld
      refine hK.out _ _ YY.out.2.2.1 (fun hHeld => ?_)
      clear hK K
      try simp only [Act.put, List.setIfInBounds_toArray, List.set_cons_zero, List.set_cons_succ]
      refine wpAnyH_done (by kernel_rfl) ?_ _
      refine NoPanic.normal ?_
      clear hHeld
      have lp2 := YY.out.2.2.1.pld
      have lq2 := YY.out.2.2.2.pld
      clear u1 u2 YY
      go_wp2
      go_roundw
      case rel => exact ⟨j + 1, by omega, by go_num, below_over F3.out.2 FY.out⟩
      case measure => simp [intOf]; omega
end Go.Proofs.Ytdlleecfmebenaa
