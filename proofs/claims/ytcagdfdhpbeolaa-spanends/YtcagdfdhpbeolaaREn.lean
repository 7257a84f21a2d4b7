/-
  The definition: all ports, and the edges that carry: the walks of Ends and Tree, for every input.
-/
import Derived.Test.YtcagdfdhpbeolaaRNd
import Derived.Test.YtcagdfdhpbeolaaEns
namespace Go.Proofs.Ytcagdfdhpbeolaa
set_option linter.unusedVariables false
set_option maxRecDepth 4000
set_option linter.unusedSimpArgs false
open Go.RowKit

theorem bdY (ps : Array (Nat × Value)) : Instr.build 87 ps = bdS 87 ps := rfl
theorem bdY_is (x : En) (w : World) : (bdS 87 #[(0, .int .i64 x.b), (1, .int .i64 x.p), (2, .int .i64 x.o), (3, .agg x.v.cs)]).run Try.prog w = .ok (.agg x.cs) w := by kernel_rfl
theorem YvAt.put (W : World) (x : En) : ∃ V, (stS 87 (.pointer (some ⟨W.heap.size, 0, none⟩)) (.agg x.cs)).run Try.prog (W.alloc (.cells #[.int .i64 0, .int .i64 0, .int .i64 0, .int .u64 0, .int .u32 0, .int .u64 0, .int .u16 0] 87)) = .ok () V ∧ RvAt V W.heap.size 87 x.cs ∧ Below W.heap.size W V := by
  obtain ⟨V, h1, h2, h3, _⟩ := row_new rtY W #[.int .i64 0, .int .i64 0, .int .i64 0, .int .u64 0, .int .u32 0, .int .u64 0, .int .u16 0] x.cs rfl rfl (one_of rfl)
  exact ⟨V, h1, h2, h3⟩
theorem rbet_told {ids : List Nat} {L : List Ne} (g : Gok ids L) {s : Ne} (hs : s ∈ sdl L) (w : World) : Calls Try.prog 29 #[.agg (toldV ids L s.a s.pa).cs, .agg (toldV ids L s.b s.pb).cs] w fun e w' => e = .returned (.bool (decide (vk (toldV ids L s.a s.pa) < vk (toldV ids L s.b s.pb)))) ∧ Below w.heap.size w w' := by
  have hg := g.side s hs
  rw [← bet_vk (toldV_wf g hg.1 hg.2.2.1) (toldV_wf g hg.2.1 hg.2.2.2.1)]
  exact betref_any _ _ w
attribute [local go_sem ↓] ldSd stSd ldV stV ldY stY stR bdY apY bsY
set_option maxHeartbeats 16000000 in
theorem rends_any (a : Option Addr) (n c : Nat) (ids : List Nat) (a' : Option Addr) (n' c' : Nat) (es : List Eg) (w : World) (hs : SlAt eU w a n c ids) (ht : SlAt eE w a' n' c' es) (hl : ∀ x ∈ ids, x < 18446744073709551616) (hn : n ≤ 100) (hm : n' ≤ 100) :
    Calls Try.prog 18 #[.slice a n c, .slice a' n' c'] w fun r w' => (∃ a2 n2 c2 N, r = .returned (.tuple #[.slice a2 n2 c2, .int .i64 (errI ids es)]) ∧ SlAt eY w' a2 n2 c2 N ∧ endO ids es N) ∧ Below w.heap.size w w' := by
  have C : Hid _ := rnodes_any a n c ids a' n' c' es w hs ht hl hn hm
  have HG : Hid (SlAt eU w a n c ids ∧ SlAt eE w a' n' c' es ∧ (∀ x ∈ ids, x < 18446744073709551616) ∧ n' ≤ 100 ∧ ids.length = n) := ⟨hs, ht, hl, hm, hs.len⟩
  have hm100 : n' ≤ 100 := hm
  clear hs ht hn hm hl
  cases hc : chkI ids es
  · rw [err_no hc] at C ⊢
    have HC : Hid (chkI ids es = false) := hc
    clear hc
    go_enter Try.func18, Try.ntmps18
    go_wp2_with fail
    refine Calls.mono C.out ?_
    rintro _ W1 ⟨⟨a2, n2, c2, N, rfl, hN, hO⟩, b1⟩
    clear hN hO
    go_wp2
    go_returns
    exact ⟨⟨none, 0, 0, [], rfl, SlAt.none' _, .inl ⟨HC.out, rfl⟩⟩, b1⟩
  · rw [err_ok hc] at C ⊢
    obtain ⟨L, rfl, G⟩ := gok_of hc HG.out.2.2.1
    have HC : Hid (chkI ids (L.map Ne.eg) = true ∧ Gok ids L) := ⟨hc, G⟩
    have hn1 : 1 ≤ n := by rw [← HG.out.2.2.2.2]; exact G.n1
    have hn7 : n ≤ 7 := by rw [← HG.out.2.2.2.2]; exact G.n7
    clear hc G
    go_enter Try.func18, Try.ntmps18
    go_wp2_with fail
    refine Calls.mono C.out ?_
    rintro _ W1 ⟨⟨a2, n2, c2, N, rfl, hN, hO⟩, b1⟩
    have hNF : N = nodesF ids L := by
      rcases hO with ⟨h0, _⟩ | ⟨L', hL', _, _, hN'⟩
      · rw [HC.out.1] at h0; cases h0
      · have : L = L' := by
          have inj : ∀ (x y : Ne), x.eg = y.eg → x = y := fun x y e => by
            cases x; cases y
            simp only [Ne.eg, Eg.mk.injEq] at e
            simp only [Ne.mk.injEq]
            omega
          refine List.ext_getElem? fun i => ?_
          have := congrArg (fun l => l[i]?) hL'
          simp only [List.getElem?_map] at this
          cases h1 : L[i]? with
          | none =>
            rw [h1] at this
            cases h2 : L'[i]? with
            | none => rfl
            | some y => rw [h2] at this; cases this
          | some x =>
            rw [h1] at this
            cases h2 : L'[i]? with
            | none => rw [h2] at this; cases this
            | some y =>
              rw [h2] at this
              simp only [Option.map_some, Option.some.injEq] at this
              rw [inj x y this]
        rw [this]; exact hN'
    subst hNF
    have hn2 : n2 = n := by rw [← hN.len, ← HG.out.2.2.2.2]; exact ndAt_len _ _ _
    subst hn2
    have K1 : Hid (TR W1 a n2 c a2 c2 ids L (rpOf ids L) ∧ Below w.heap.size w W1) := ⟨⟨HG.out.1.below b1, hN, HC.out.2, HG.out.2.2.2.2⟩, b1⟩
    clear hN hO b1 C
    go_wp2_with fail
    refine (rsides_any a' n' c' (L.map Ne.eg) W1 (HG.out.2.1.below K1.out.2) HG.out.2.2.2.1).mono ?_
    rintro _ V ⟨⟨v, rfl, o2⟩, b2⟩
    obtain ⟨sa, sc, rfl, hS, _⟩ := o2.form
    obtain ⟨m, hm⟩ : ∃ m, (sidesE (L.map Ne.eg)).length = m := ⟨_, rfl⟩
    rw [hm] at hS ⊢
    have hml : (sdl L).length = m := by rw [← hm, sdl_eg, List.length_map]
    have hmm : m ≤ 200 := by rw [← hm, sidesE_len, List.length_map]; have := HC.out.2.m24; omega
    have hmi := hS.int
    have K : Hid (SlAt eS V sa m sc (sidesE (L.map Ne.eg)) ∧ TR V a n2 c a2 c2 ids L (rpOf ids L) ∧ Below w.heap.size w V ∧ (sdl L).length = m) := ⟨hS, K1.out.1.below b2, below_over K1.out.2 b2, hml⟩
    clear o2 hS hm hml b2 K1
    go_wp2_with fail
    go_loopw [9, 10] (fun v9 v10 wr => ∃ t : Nat, t ≤ m ∧ v10 = .int .i64 t ∧ Own eY wr V.heap.size v9 (endsTo ids L t) ∧ Below V.heap.size V wr) (fun _ v10 _ => m - (intOf v10).toNat)
    case atStart => exact ⟨0, by omega, rfl, Own.nil _ _, Below.refl _ _⟩
    case round =>
      obtain ⟨t, ht, rfl, hO, hB⟩ := hrel
      have ht0 : (0 : Int) ≤ (t : Int) := by omega
      by_cases htt : t < m
      · have ht1 : (t : Int) < (m : Int) := by omega
        have htl : t < (sdl L).length := by rw [K.out.2.2.2]; exact htt
        obtain ⟨b2, o2, rfl⟩ := K.out.1.some' (by omega)
        obtain ⟨b3, o3, rfl⟩ := K.out.2.1.nds.some' (by omega)
        obtain ⟨s, hs⟩ := lt_nth htl
        have hsm := List.mem_of_getElem? hs
        have hgs := HC.out.2.side s hsm
        rw [HG.out.2.2.2.2] at hgs
        have ha0 : (0 : Int) ≤ (s.a : Int) := by omega
        have ha1 : (s.a : Int) < (n2 : Int) := by omega
        have lp := lds (K.out.1.below hB) (sdl_ss hs)
        obtain ⟨W, sW, rS, bW⟩ := SvAt.put wr s.eg
        have T : Hid ((sdl L)[t]? = some s ∧ s ∈ sdl L ∧ s.a < n2 ∧ s.b < n2 ∧ s.pa ≤ 7 ∧ s.pb ≤ 7) := ⟨hs, hsm, hgs.1, hgs.2.1, hgs.2.2.1, hgs.2.2.2.1⟩
        have D : Hid (Own eY W V.heap.size u9 (endsTo ids L t) ∧ Below V.heap.size V W ∧ RvAt W wr.heap.size 64 s.eg.ss ∧ TR W a n2 c (some ⟨b3, o3, none⟩) c2 ids L (rpOf ids L)) := ⟨hO.below bW, below_over hB bW, rS, (K.out.2.1.below hB).below bW⟩
        obtain ⟨zs, hzs⟩ : ∃ z, wr.heap.size = z := ⟨_, rfl⟩
        rw [hzs] at D sW
        clear hO hB hs hsm hgs htl rS bW
        obtain ⟨own, hown⟩ : ∃ z, toldV ids L s.a s.pa = z := ⟨_, rfl⟩
        obtain ⟨oth, hoth⟩ : ∃ z, toldV ids L s.b s.pb = z := ⟨_, rfl⟩
        have CA : Hid (∀ X, Below W.heap.size W X → _) := fun X k => rtold_any a n2 c (some ⟨b3, o3, none⟩) c2 ids L (rpOf ids L) s.a s.pa X (D.out.2.2.2.below k) T.out.2.2.1 T.out.2.2.2.2.1
        have CB : Hid (∀ X, Below W.heap.size W X → _) := fun X k => rtold_any a n2 c (some ⟨b3, o3, none⟩) c2 ids L (rpOf ids L) s.b s.pb X (D.out.2.2.2.below k) T.out.2.2.2.1 T.out.2.2.2.2.2
        have CT : Hid (∀ X : World, _) := fun X => rbet_told HC.out.2 T.out.2.1 X
        rw [hown] at CA CT
        rw [hoth] at CB CT
        have HE : Hid (endOf ids L s = ⟨s.a, s.pa, if rpOf ids L s.a = (s.pa : Int) then 3 else if vk own < vk oth then 4 else 1, if vk own < vk oth then own else oth⟩) := by show _ = _; unfold endOf roleOf vecOf; rw [hown, hoth]
        obtain ⟨E, hE⟩ : ∃ z, endOf ids L s = z := ⟨_, rfl⟩
        have HN : Hid (endsTo ids L (t + 1) = endsTo ids L t ++ [E]) := by show _ = _; rw [endsTo_next T.out.1, hE]
        rw [hE] at HE
        have hle : Hid ((endsTo ids L t).length ≤ 1000) := by have := endsTo_len ids L t; show _ ≤ _; omega
        clear hown hoth hE
        go_wp2_with fail
        clear lp sW hzs
        go_cut [12, 13] from 36 to 49 (fun v12 v13 wx => ∃ z5 z6, v12 = .pointer (some ⟨z5, 0, none⟩) ∧ v13 = .pointer (some ⟨z6, 0, none⟩) ∧ RvAt wx z5 56 own.cs ∧ RvAt wx z6 56 oth.cs ∧ Below W.heap.size W wx)
        case first =>
          have f1 := fun q : Later W => (D.out.2.2.1.below q.below).cell 0 (.int .i64 (s.a : Int)) rfl
          have f2 := fun q : Later W => (D.out.2.2.1.below q.below).cell 1 (.int .i64 (s.pa : Int)) rfl
          have f3 := fun q : Later W => (D.out.2.2.1.below q.below).cell 3 (.int .i64 (s.b : Int)) rfl
          have f4 := fun q : Later W => (D.out.2.2.1.below q.below).cell 4 (.int .i64 (s.pb : Int)) rfl
          obtain ⟨X0, hX0⟩ : ∃ X0, World.drew W = X0 := ⟨_, rfl⟩
          have B0 : Hid (Below W.heap.size W X0) := by rw [← hX0]; exact (Below.refl _ _).drew
          refine wp_region_noPanic ?_
          refine wp_region_held_drew (S := fun w' => ∃ x : Later W, w' = x.val) (by kernel_rfl) ⟨⟨_, (Below.refl _ _).drew⟩, rfl⟩ (fun hHeld => ?_)
          rw [hX0] at hHeld ⊢
          clear hX0
          refine wpAnyH_take (i := 0) (oi := { dst := some 36, op := Op.move (Operand.tmp 0), type := 22, pos := "ref.go:133", after := #[], guard := none }) (v := ?_) rfl (by kernel_rfl) (by kernel_rfl) (by kernel_rfl) (fun _ _ _ h => h) (Or.inl ⟨by rfl, ?_⟩) hHeld ?_
          rotate_left
          · intro W_ hSw_
            obtain ⟨q, rfl⟩ := hSw_
            first | (go_simp; done) | (go_simp; with_reducible rfl)
          rotate_left
          try simp only [Act.put, List.setIfInBounds_toArray, List.set_cons_zero, List.set_cons_succ]
          refine wpAnyH_take (i := 1) (oi := { dst := some 37, op := Op.move (Operand.tmp 6), type := 30, pos := "ref.go:133", after := #[], guard := none }) (v := ?_) rfl (by kernel_rfl) (by kernel_rfl) (by kernel_rfl) (fun _ _ _ h => h) (Or.inl ⟨by rfl, ?_⟩) hHeld ?_
          rotate_left
          · intro W_ hSw_
            obtain ⟨q, rfl⟩ := hSw_
            first | (go_simp; done) | (go_simp; with_reducible rfl)
          rotate_left
          try simp only [Act.put, List.setIfInBounds_toArray, List.set_cons_zero, List.set_cons_succ]
          refine wpAnyH_take (i := 2) (oi := { dst := some 38, op := Op.fieldAddr 64 (Operand.tmp 11) 0, type := 0, pos := "ref.go:133", after := #[], guard := none }) (v := ?_) rfl (by kernel_rfl) (by kernel_rfl) (by kernel_rfl) (fun _ _ _ h => h) (Or.inl ⟨by rfl, ?_⟩) hHeld ?_
          rotate_left
          · intro W_ hSw_
            obtain ⟨q, rfl⟩ := hSw_
            first | (go_simp; done) | (go_simp; with_reducible rfl)
          rotate_left
          try simp only [Act.put, List.setIfInBounds_toArray, List.set_cons_zero, List.set_cons_succ]
          refine wpAnyH_take (i := 3) (oi := { dst := some 39, op := Op.load 3 (Operand.tmp 38), type := 3, pos := "ref.go:133", after := #[{ on := 2, ground := Ground.data }], guard := none }) (v := ?_) rfl (by kernel_rfl) (by kernel_rfl) (by kernel_rfl) (fun _ _ _ h => h) (Or.inl ⟨by rfl, ?_⟩) hHeld ?_
          rotate_left
          · intro W_ hSw_
            obtain ⟨q, rfl⟩ := hSw_
            first | (go_simp; done) | (go_simp; with_reducible rfl)
          rotate_left
          try simp only [Act.put, List.setIfInBounds_toArray, List.set_cons_zero, List.set_cons_succ]
          refine wpAnyH_take (i := 4) (oi := { dst := some 40, op := Op.fieldAddr 64 (Operand.tmp 11) 1, type := 0, pos := "ref.go:133", after := #[], guard := none }) (v := ?_) rfl (by kernel_rfl) (by kernel_rfl) (by kernel_rfl) (fun _ _ _ h => h) (Or.inl ⟨by rfl, ?_⟩) hHeld ?_
          rotate_left
          · intro W_ hSw_
            obtain ⟨q, rfl⟩ := hSw_
            first | (go_simp; done) | (go_simp; with_reducible rfl)
          rotate_left
          try simp only [Act.put, List.setIfInBounds_toArray, List.set_cons_zero, List.set_cons_succ]
          refine wpAnyH_take (i := 5) (oi := { dst := some 41, op := Op.load 3 (Operand.tmp 40), type := 3, pos := "ref.go:133", after := #[{ on := 4, ground := Ground.data }], guard := none }) (v := ?_) rfl (by kernel_rfl) (by kernel_rfl) (by kernel_rfl) (fun _ _ _ h => h) (Or.inl ⟨by rfl, ?_⟩) hHeld ?_
          rotate_left
          · intro W_ hSw_
            obtain ⟨q, rfl⟩ := hSw_
            first | (go_simp; done) | (go_simp; with_reducible rfl)
          rotate_left
          try simp only [Act.put, List.setIfInBounds_toArray, List.set_cons_zero, List.set_cons_succ]
          refine wpAnyH_take (i := 7) (oi := { dst := some 43, op := Op.move (Operand.tmp 0), type := 22, pos := "ref.go:133", after := #[], guard := none }) (v := ?_) rfl (by kernel_rfl) (by kernel_rfl) (by kernel_rfl) (fun _ _ _ h => h) (Or.inl ⟨by rfl, ?_⟩) hHeld ?_
          rotate_left
          · intro W_ hSw_
            obtain ⟨q, rfl⟩ := hSw_
            first | (go_simp; done) | (go_simp; with_reducible rfl)
          rotate_left
          try simp only [Act.put, List.setIfInBounds_toArray, List.set_cons_zero, List.set_cons_succ]
          refine wpAnyH_take (i := 8) (oi := { dst := some 44, op := Op.move (Operand.tmp 6), type := 30, pos := "ref.go:133", after := #[], guard := none }) (v := ?_) rfl (by kernel_rfl) (by kernel_rfl) (by kernel_rfl) (fun _ _ _ h => h) (Or.inl ⟨by rfl, ?_⟩) hHeld ?_
          rotate_left
          · intro W_ hSw_
            obtain ⟨q, rfl⟩ := hSw_
            first | (go_simp; done) | (go_simp; with_reducible rfl)
          rotate_left
          try simp only [Act.put, List.setIfInBounds_toArray, List.set_cons_zero, List.set_cons_succ]
          refine wpAnyH_take (i := 9) (oi := { dst := some 45, op := Op.fieldAddr 64 (Operand.tmp 11) 3, type := 0, pos := "ref.go:133", after := #[], guard := none }) (v := ?_) rfl (by kernel_rfl) (by kernel_rfl) (by kernel_rfl) (fun _ _ _ h => h) (Or.inl ⟨by rfl, ?_⟩) hHeld ?_
          rotate_left
          · intro W_ hSw_
            obtain ⟨q, rfl⟩ := hSw_
            first | (go_simp; done) | (go_simp; with_reducible rfl)
          rotate_left
          try simp only [Act.put, List.setIfInBounds_toArray, List.set_cons_zero, List.set_cons_succ]
          refine wpAnyH_take (i := 10) (oi := { dst := some 46, op := Op.load 3 (Operand.tmp 45), type := 3, pos := "ref.go:133", after := #[{ on := 9, ground := Ground.data }], guard := none }) (v := ?_) rfl (by kernel_rfl) (by kernel_rfl) (by kernel_rfl) (fun _ _ _ h => h) (Or.inl ⟨by rfl, ?_⟩) hHeld ?_
          rotate_left
          · intro W_ hSw_
            obtain ⟨q, rfl⟩ := hSw_
            first | (go_simp; done) | (go_simp; with_reducible rfl)
          rotate_left
          try simp only [Act.put, List.setIfInBounds_toArray, List.set_cons_zero, List.set_cons_succ]
          refine wpAnyH_take (i := 11) (oi := { dst := some 47, op := Op.fieldAddr 64 (Operand.tmp 11) 4, type := 0, pos := "ref.go:133", after := #[], guard := none }) (v := ?_) rfl (by kernel_rfl) (by kernel_rfl) (by kernel_rfl) (fun _ _ _ h => h) (Or.inl ⟨by rfl, ?_⟩) hHeld ?_
          rotate_left
          · intro W_ hSw_
            obtain ⟨q, rfl⟩ := hSw_
            first | (go_simp; done) | (go_simp; with_reducible rfl)
          rotate_left
          try simp only [Act.put, List.setIfInBounds_toArray, List.set_cons_zero, List.set_cons_succ]
          refine wpAnyH_take (i := 12) (oi := { dst := some 48, op := Op.load 3 (Operand.tmp 47), type := 3, pos := "ref.go:133", after := #[{ on := 11, ground := Ground.data }], guard := none }) (v := ?_) rfl (by kernel_rfl) (by kernel_rfl) (by kernel_rfl) (fun _ _ _ h => h) (Or.inl ⟨by rfl, ?_⟩) hHeld ?_
          rotate_left
          · intro W_ hSw_
            obtain ⟨q, rfl⟩ := hSw_
            first | (go_simp; done) | (go_simp; with_reducible rfl)
          rotate_left
          try simp only [Act.put, List.setIfInBounds_toArray, List.set_cons_zero, List.set_cons_succ]
          refine wpAnyH_ready (rs := [6, 14, 15]) (by kernel_rfl) (by simp) ?_
          refine (AllReadyH.cons (o := { dst := some 42, op := Op.call { callee := Callee.value (Operand.func 28), args := #[Operand.tmp 36, Operand.tmp 37, Operand.tmp 39, Operand.tmp 41], argTypes := #[22, 30, 3, 3] }, type := 56, pos := "ref.go:133", after := #[{ on := 0, ground := Ground.data }, { on := 1, ground := Ground.data }, { on := 3, ground := Ground.data }, { on := 5, ground := Ground.data }], guard := none }) rfl (fun K hK => ?_) (AllReadyH.cons (o := { dst := some 12, op := Op.alloc 56, type := 0, pos := "ref.go:133", after := #[], guard := none }) rfl (fun K hK => ?_) (AllReadyH.cons (o := { dst := some 13, op := Op.alloc 56, type := 0, pos := "ref.go:133", after := #[], guard := none }) rfl (fun K hK => ?_) AllReadyH.nil)))
          · skip
            go_simp
            refine (CA.out X0 B0.out).mono ?_
            rintro _ X1 ⟨rfl, bb⟩
            have B1 : Hid (Below W.heap.size W X1) := below_over B0.out bb
            clear bb
            clear hHeld
            refine hK.out _ _ ⟨⟨_, B1.out⟩, rfl⟩ (fun hHeld => ?_)
            clear hK K
            try simp only [Act.put, List.setIfInBounds_toArray, List.set_cons_zero, List.set_cons_succ]
            refine wpAnyH_ready (rs := [13, 14, 15]) (by kernel_rfl) (by simp) ?_
            refine (AllReadyH.cons (o := { dst := some 49, op := Op.call { callee := Callee.value (Operand.func 28), args := #[Operand.tmp 43, Operand.tmp 44, Operand.tmp 46, Operand.tmp 48], argTypes := #[22, 30, 3, 3] }, type := 56, pos := "ref.go:133", after := #[{ on := 7, ground := Ground.data }, { on := 8, ground := Ground.data }, { on := 10, ground := Ground.data }, { on := 12, ground := Ground.data }, { on := 6, ground := Ground.chain }], guard := none }) rfl (fun K hK => ?_) (AllReadyH.cons (o := { dst := some 12, op := Op.alloc 56, type := 0, pos := "ref.go:133", after := #[], guard := none }) rfl (fun K hK => ?_) (AllReadyH.cons (o := { dst := some 13, op := Op.alloc 56, type := 0, pos := "ref.go:133", after := #[], guard := none }) rfl (fun K hK => ?_) AllReadyH.nil)))
            · skip
              go_simp
              refine (CB.out X1 B1.out).mono ?_
              rintro _ X2 ⟨rfl, bb⟩
              have B2 : Hid (Below W.heap.size W X2) := below_over B1.out bb
              clear bb
              clear hHeld
              refine hK.out _ _ ⟨⟨_, B2.out⟩, rfl⟩ (fun hHeld => ?_)
              clear hK K
              try simp only [Act.put, List.setIfInBounds_toArray, List.set_cons_zero, List.set_cons_succ]
              refine wpAnyH_ready (rs := [14, 15]) (by kernel_rfl) (by simp) ?_
              refine (AllReadyH.cons (o := { dst := some 12, op := Op.alloc 56, type := 0, pos := "ref.go:133", after := #[], guard := none }) rfl (fun K hK => ?_) (AllReadyH.cons (o := { dst := some 13, op := Op.alloc 56, type := 0, pos := "ref.go:133", after := #[], guard := none }) rfl (fun K hK => ?_) AllReadyH.nil))
              · skip
                obtain ⟨X3, hN⟩ : ∃ z, X2.alloc (.cells #[.int .u64 0, .int .u32 0, .int .u64 0, .int .u16 0] 56) = z := ⟨_, rfl⟩
                obtain ⟨z5, hz⟩ : ∃ z, X2.heap.size = z := ⟨_, rfl⟩
                have bb : Below X2.heap.size X2 X3 := by rw [← hN]; exact (Below.refl _ _).alloc (Nat.le_refl _) _
                have B3 : Hid (Below W.heap.size W X3) := below_over B2.out bb
                have p5_3 : Hid (RvAt X3 z5 56 #[.int .u64 0, .int .u32 0, .int .u64 0, .int .u16 0] ∧ W.heap.size ≤ z5) := ⟨by rw [← hN, ← hz]; exact RvAt.new _ _ _, by rw [← hz]; exact B2.out.size⟩
                clear bb
                go_simp
                clear hN hz
                clear hHeld
                refine hK.out _ _ ⟨⟨_, B3.out⟩, rfl⟩ (fun hHeld => ?_)
                clear hK K
                try simp only [Act.put, List.setIfInBounds_toArray, List.set_cons_zero, List.set_cons_succ]
                refine wpAnyH_ready (rs := [15]) (by kernel_rfl) (by simp) ?_
                refine AllReadyH.cons (o := { dst := some 13, op := Op.alloc 56, type := 0, pos := "ref.go:133", after := #[], guard := none }) rfl (fun K hK => ?_) AllReadyH.nil
                obtain ⟨X4, hN⟩ : ∃ z, X3.alloc (.cells #[.int .u64 0, .int .u32 0, .int .u64 0, .int .u16 0] 56) = z := ⟨_, rfl⟩
                obtain ⟨z6, hz⟩ : ∃ z, X3.heap.size = z := ⟨_, rfl⟩
                have bb : Below X3.heap.size X3 X4 := by rw [← hN]; exact (Below.refl _ _).alloc (Nat.le_refl _) _
                have B4 : Hid (Below W.heap.size W X4) := below_over B3.out bb
                have p6_4 : Hid (RvAt X4 z6 56 #[.int .u64 0, .int .u32 0, .int .u64 0, .int .u16 0] ∧ W.heap.size ≤ z6) := ⟨by rw [← hN, ← hz]; exact RvAt.new _ _ _, by rw [← hz]; exact B3.out.size⟩
                have p5_4 : Hid (RvAt X4 z5 56 #[.int .u64 0, .int .u32 0, .int .u64 0, .int .u16 0] ∧ W.heap.size ≤ z5) := ⟨p5_3.out.1.below bb, p5_3.out.2⟩
                have NE : Hid (z5 ≠ z6) := by have := p5_3.out.1.lt; show _ ≠ _; omega
                clear bb
                go_simp
                clear hN hz
                clear hHeld
                refine hK.out _ _ ⟨⟨_, B4.out⟩, rfl⟩ (fun hHeld => ?_)
                clear hK K
                try simp only [Act.put, List.setIfInBounds_toArray, List.set_cons_zero, List.set_cons_succ]
                refine wpAnyH_ready (rs := [16]) (by kernel_rfl) (by simp) ?_
                refine AllReadyH.cons (o := { dst := none, op := Op.store 56 (Operand.tmp 12) (Operand.tmp 42), type := 0, pos := "ref.go:133", after := #[{ on := 14, ground := Ground.data }, { on := 6, ground := Ground.data }, { on := 13, ground := Ground.chain }, { on := 0, ground := Ground.phase }, { on := 1, ground := Ground.phase }, { on := 2, ground := Ground.phase }, { on := 3, ground := Ground.phase }, { on := 4, ground := Ground.phase }, { on := 5, ground := Ground.phase }, { on := 6, ground := Ground.phase }, { on := 7, ground := Ground.textOnly Departure.lateStores }, { on := 8, ground := Ground.textOnly Departure.lateStores }, { on := 9, ground := Ground.textOnly Departure.lateStores }, { on := 10, ground := Ground.textOnly Departure.lateStores }, { on := 11, ground := Ground.textOnly Departure.lateStores }, { on := 12, ground := Ground.textOnly Departure.lateStores }, { on := 13, ground := Ground.textOnly Departure.lateStoresUnsure }, { on := 14, ground := Ground.phase }, { on := 15, ground := Ground.phase }], guard := none }) rfl (fun K hK => ?_) AllReadyH.nil
                have st5 := p5_4.out.1.st rtV (ds := (own).cs) rfl rfl (V4.one _)
                obtain ⟨X5, hN⟩ : ∃ z, X4.setRow z5 (own).cs = z := ⟨_, rfl⟩
                rw [hN] at st5
                have B5 : Hid (Below W.heap.size W X5) := by rw [← hN]; exact below_setRow B4.out p5_4.out.2 _
                have p5_5 : Hid (RvAt X5 z5 56 (own).cs ∧ W.heap.size ≤ z5) := ⟨by rw [← hN]; exact p5_4.out.1.set, p5_4.out.2⟩
                have p6_5 : Hid (RvAt X5 z6 56 #[.int .u64 0, .int .u32 0, .int .u64 0, .int .u16 0] ∧ W.heap.size ≤ z6) := ⟨by rw [← hN]; exact p6_4.out.1.keptBut (grown_row _ _ _) (fun e => by have := NE.out; simp only [Option.some.injEq] at e; omega), p6_4.out.2⟩
                go_simp
                clear hN st5
                clear hHeld
                refine hK.out _ _ ⟨⟨_, B5.out⟩, rfl⟩ (fun hHeld => ?_)
                clear hK K
                try simp only [Act.put, List.setIfInBounds_toArray, List.set_cons_zero, List.set_cons_succ]
                refine wpAnyH_ready (rs := [17]) (by kernel_rfl) (by simp) ?_
                refine AllReadyH.cons (o := { dst := none, op := Op.store 56 (Operand.tmp 13) (Operand.tmp 49), type := 0, pos := "ref.go:133", after := #[{ on := 15, ground := Ground.data }, { on := 13, ground := Ground.data }, { on := 16, ground := Ground.chain }, { on := 0, ground := Ground.phase }, { on := 1, ground := Ground.phase }, { on := 2, ground := Ground.phase }, { on := 3, ground := Ground.phase }, { on := 4, ground := Ground.phase }, { on := 5, ground := Ground.phase }, { on := 6, ground := Ground.phase }, { on := 7, ground := Ground.phase }, { on := 8, ground := Ground.phase }, { on := 9, ground := Ground.phase }, { on := 10, ground := Ground.phase }, { on := 11, ground := Ground.phase }, { on := 12, ground := Ground.phase }, { on := 13, ground := Ground.phase }, { on := 14, ground := Ground.phase }, { on := 15, ground := Ground.phase }, { on := 16, ground := Ground.phase }], guard := none }) rfl (fun K hK => ?_) AllReadyH.nil
                have st6 := p6_5.out.1.st rtV (ds := (oth).cs) rfl rfl (V4.one _)
                obtain ⟨X6, hN⟩ : ∃ z, X5.setRow z6 (oth).cs = z := ⟨_, rfl⟩
                rw [hN] at st6
                have B6 : Hid (Below W.heap.size W X6) := by rw [← hN]; exact below_setRow B5.out p6_5.out.2 _
                have p6_6 : Hid (RvAt X6 z6 56 (oth).cs ∧ W.heap.size ≤ z6) := ⟨by rw [← hN]; exact p6_5.out.1.set, p6_5.out.2⟩
                have p5_6 : Hid (RvAt X6 z5 56 (own).cs ∧ W.heap.size ≤ z5) := ⟨by rw [← hN]; exact p5_5.out.1.keptBut (grown_row _ _ _) (fun e => by have := NE.out; simp only [Option.some.injEq] at e; omega), p5_5.out.2⟩
                go_simp
                clear hN st6
                clear hHeld
                refine hK.out _ _ ⟨⟨_, B6.out⟩, rfl⟩ (fun hHeld => ?_)
                clear hK K
                try simp only [Act.put, List.setIfInBounds_toArray, List.set_cons_zero, List.set_cons_succ]
                refine wpAnyH_done (by kernel_rfl) ?_ _
                refine NoPanic.normal ?_
                clear hHeld
                go_wp2_with fail
                go_meet
                exact ⟨z5, z6, rfl, rfl, p5_6.out.1, p6_6.out.1, B6.out⟩
              · skip
                obtain ⟨X7, hN⟩ : ∃ z, X2.alloc (.cells #[.int .u64 0, .int .u32 0, .int .u64 0, .int .u16 0] 56) = z := ⟨_, rfl⟩
                obtain ⟨z6, hz⟩ : ∃ z, X2.heap.size = z := ⟨_, rfl⟩
                have bb : Below X2.heap.size X2 X7 := by rw [← hN]; exact (Below.refl _ _).alloc (Nat.le_refl _) _
                have B7 : Hid (Below W.heap.size W X7) := below_over B2.out bb
                have p6_7 : Hid (RvAt X7 z6 56 #[.int .u64 0, .int .u32 0, .int .u64 0, .int .u16 0] ∧ W.heap.size ≤ z6) := ⟨by rw [← hN, ← hz]; exact RvAt.new _ _ _, by rw [← hz]; exact B2.out.size⟩
                clear bb
                go_simp
                clear hN hz
                clear hHeld
                refine hK.out _ _ ⟨⟨_, B7.out⟩, rfl⟩ (fun hHeld => ?_)
                clear hK K
                try simp only [Act.put, List.setIfInBounds_toArray, List.set_cons_zero, List.set_cons_succ]
                refine wpAnyH_ready (rs := [14]) (by kernel_rfl) (by simp) ?_
                refine AllReadyH.cons (o := { dst := some 12, op := Op.alloc 56, type := 0, pos := "ref.go:133", after := #[], guard := none }) rfl (fun K hK => ?_) AllReadyH.nil
                obtain ⟨X8, hN⟩ : ∃ z, X7.alloc (.cells #[.int .u64 0, .int .u32 0, .int .u64 0, .int .u16 0] 56) = z := ⟨_, rfl⟩
                obtain ⟨z5, hz⟩ : ∃ z, X7.heap.size = z := ⟨_, rfl⟩
                have bb : Below X7.heap.size X7 X8 := by rw [← hN]; exact (Below.refl _ _).alloc (Nat.le_refl _) _
                have B8 : Hid (Below W.heap.size W X8) := below_over B7.out bb
                have p5_8 : Hid (RvAt X8 z5 56 #[.int .u64 0, .int .u32 0, .int .u64 0, .int .u16 0] ∧ W.heap.size ≤ z5) := ⟨by rw [← hN, ← hz]; exact RvAt.new _ _ _, by rw [← hz]; exact B7.out.size⟩
                have p6_8 : Hid (RvAt X8 z6 56 #[.int .u64 0, .int .u32 0, .int .u64 0, .int .u16 0] ∧ W.heap.size ≤ z6) := ⟨p6_7.out.1.below bb, p6_7.out.2⟩
                have NE : Hid (z6 ≠ z5) := by have := p6_7.out.1.lt; show _ ≠ _; omega
                clear bb
                go_simp
                clear hN hz
                clear hHeld
                refine hK.out _ _ ⟨⟨_, B8.out⟩, rfl⟩ (fun hHeld => ?_)
                clear hK K
                try simp only [Act.put, List.setIfInBounds_toArray, List.set_cons_zero, List.set_cons_succ]
                refine wpAnyH_ready (rs := [16]) (by kernel_rfl) (by simp) ?_
                refine AllReadyH.cons (o := { dst := none, op := Op.store 56 (Operand.tmp 12) (Operand.tmp 42), type := 0, pos := "ref.go:133", after := #[{ on := 14, ground := Ground.data }, { on := 6, ground := Ground.data }, { on := 13, ground := Ground.chain }, { on := 0, ground := Ground.phase }, { on := 1, ground := Ground.phase }, { on := 2, ground := Ground.phase }, { on := 3, ground := Ground.phase }, { on := 4, ground := Ground.phase }, { on := 5, ground := Ground.phase }, { on := 6, ground := Ground.phase }, { on := 7, ground := Ground.textOnly Departure.lateStores }, { on := 8, ground := Ground.textOnly Departure.lateStores }, { on := 9, ground := Ground.textOnly Departure.lateStores }, { on := 10, ground := Ground.textOnly Departure.lateStores }, { on := 11, ground := Ground.textOnly Departure.lateStores }, { on := 12, ground := Ground.textOnly Departure.lateStores }, { on := 13, ground := Ground.textOnly Departure.lateStoresUnsure }, { on := 14, ground := Ground.phase }, { on := 15, ground := Ground.phase }], guard := none }) rfl (fun K hK => ?_) AllReadyH.nil
                have st9 := p5_8.out.1.st rtV (ds := (own).cs) rfl rfl (V4.one _)
                obtain ⟨X9, hN⟩ : ∃ z, X8.setRow z5 (own).cs = z := ⟨_, rfl⟩
                rw [hN] at st9
                have B9 : Hid (Below W.heap.size W X9) := by rw [← hN]; exact below_setRow B8.out p5_8.out.2 _
                have p5_9 : Hid (RvAt X9 z5 56 (own).cs ∧ W.heap.size ≤ z5) := ⟨by rw [← hN]; exact p5_8.out.1.set, p5_8.out.2⟩
                have p6_9 : Hid (RvAt X9 z6 56 #[.int .u64 0, .int .u32 0, .int .u64 0, .int .u16 0] ∧ W.heap.size ≤ z6) := ⟨by rw [← hN]; exact p6_8.out.1.keptBut (grown_row _ _ _) (fun e => by have := NE.out; simp only [Option.some.injEq] at e; omega), p6_8.out.2⟩
                go_simp
                clear hN st9
                clear hHeld
                refine hK.out _ _ ⟨⟨_, B9.out⟩, rfl⟩ (fun hHeld => ?_)
                clear hK K
                try simp only [Act.put, List.setIfInBounds_toArray, List.set_cons_zero, List.set_cons_succ]
                refine wpAnyH_ready (rs := [17]) (by kernel_rfl) (by simp) ?_
                refine AllReadyH.cons (o := { dst := none, op := Op.store 56 (Operand.tmp 13) (Operand.tmp 49), type := 0, pos := "ref.go:133", after := #[{ on := 15, ground := Ground.data }, { on := 13, ground := Ground.data }, { on := 16, ground := Ground.chain }, { on := 0, ground := Ground.phase }, { on := 1, ground := Ground.phase }, { on := 2, ground := Ground.phase }, { on := 3, ground := Ground.phase }, { on := 4, ground := Ground.phase }, { on := 5, ground := Ground.phase }, { on := 6, ground := Ground.phase }, { on := 7, ground := Ground.phase }, { on := 8, ground := Ground.phase }, { on := 9, ground := Ground.phase }, { on := 10, ground := Ground.phase }, { on := 11, ground := Ground.phase }, { on := 12, ground := Ground.phase }, { on := 13, ground := Ground.phase }, { on := 14, ground := Ground.phase }, { on := 15, ground := Ground.phase }, { on := 16, ground := Ground.phase }], guard := none }) rfl (fun K hK => ?_) AllReadyH.nil
                have st10 := p6_9.out.1.st rtV (ds := (oth).cs) rfl rfl (V4.one _)
                obtain ⟨X10, hN⟩ : ∃ z, X9.setRow z6 (oth).cs = z := ⟨_, rfl⟩
                rw [hN] at st10
                have B10 : Hid (Below W.heap.size W X10) := by rw [← hN]; exact below_setRow B9.out p6_9.out.2 _
                have p6_10 : Hid (RvAt X10 z6 56 (oth).cs ∧ W.heap.size ≤ z6) := ⟨by rw [← hN]; exact p6_9.out.1.set, p6_9.out.2⟩
                have p5_10 : Hid (RvAt X10 z5 56 (own).cs ∧ W.heap.size ≤ z5) := ⟨by rw [← hN]; exact p5_9.out.1.keptBut (grown_row _ _ _) (fun e => by have := NE.out; simp only [Option.some.injEq] at e; omega), p5_9.out.2⟩
                go_simp
                clear hN st10
                clear hHeld
                refine hK.out _ _ ⟨⟨_, B10.out⟩, rfl⟩ (fun hHeld => ?_)
                clear hK K
                try simp only [Act.put, List.setIfInBounds_toArray, List.set_cons_zero, List.set_cons_succ]
                refine wpAnyH_done (by kernel_rfl) ?_ _
                refine NoPanic.normal ?_
                clear hHeld
                go_wp2_with fail
                go_meet
                exact ⟨z5, z6, rfl, rfl, p5_10.out.1, p6_10.out.1, B10.out⟩
            · skip
              obtain ⟨X11, hN⟩ : ∃ z, X1.alloc (.cells #[.int .u64 0, .int .u32 0, .int .u64 0, .int .u16 0] 56) = z := ⟨_, rfl⟩
              obtain ⟨z5, hz⟩ : ∃ z, X1.heap.size = z := ⟨_, rfl⟩
              have bb : Below X1.heap.size X1 X11 := by rw [← hN]; exact (Below.refl _ _).alloc (Nat.le_refl _) _
              have B11 : Hid (Below W.heap.size W X11) := below_over B1.out bb
              have p5_11 : Hid (RvAt X11 z5 56 #[.int .u64 0, .int .u32 0, .int .u64 0, .int .u16 0] ∧ W.heap.size ≤ z5) := ⟨by rw [← hN, ← hz]; exact RvAt.new _ _ _, by rw [← hz]; exact B1.out.size⟩
              clear bb
              go_simp
              clear hN hz
              clear hHeld
              refine hK.out _ _ ⟨⟨_, B11.out⟩, rfl⟩ (fun hHeld => ?_)
              clear hK K
              try simp only [Act.put, List.setIfInBounds_toArray, List.set_cons_zero, List.set_cons_succ]
              refine wpAnyH_ready (rs := [13, 15]) (by kernel_rfl) (by simp) ?_
              refine (AllReadyH.cons (o := { dst := some 49, op := Op.call { callee := Callee.value (Operand.func 28), args := #[Operand.tmp 43, Operand.tmp 44, Operand.tmp 46, Operand.tmp 48], argTypes := #[22, 30, 3, 3] }, type := 56, pos := "ref.go:133", after := #[{ on := 7, ground := Ground.data }, { on := 8, ground := Ground.data }, { on := 10, ground := Ground.data }, { on := 12, ground := Ground.data }, { on := 6, ground := Ground.chain }], guard := none }) rfl (fun K hK => ?_) (AllReadyH.cons (o := { dst := some 13, op := Op.alloc 56, type := 0, pos := "ref.go:133", after := #[], guard := none }) rfl (fun K hK => ?_) AllReadyH.nil))
              · skip
                go_simp
                refine (CB.out X11 B11.out).mono ?_
                rintro _ X12 ⟨rfl, bb⟩
                have B12 : Hid (Below W.heap.size W X12) := below_over B11.out bb
                have p5_12 : Hid (RvAt X12 z5 56 #[.int .u64 0, .int .u32 0, .int .u64 0, .int .u16 0] ∧ W.heap.size ≤ z5) := ⟨p5_11.out.1.below bb, p5_11.out.2⟩
                clear bb
                clear hHeld
                refine hK.out _ _ ⟨⟨_, B12.out⟩, rfl⟩ (fun hHeld => ?_)
                clear hK K
                try simp only [Act.put, List.setIfInBounds_toArray, List.set_cons_zero, List.set_cons_succ]
                refine wpAnyH_ready (rs := [15]) (by kernel_rfl) (by simp) ?_
                refine AllReadyH.cons (o := { dst := some 13, op := Op.alloc 56, type := 0, pos := "ref.go:133", after := #[], guard := none }) rfl (fun K hK => ?_) AllReadyH.nil
                obtain ⟨X13, hN⟩ : ∃ z, X12.alloc (.cells #[.int .u64 0, .int .u32 0, .int .u64 0, .int .u16 0] 56) = z := ⟨_, rfl⟩
                obtain ⟨z6, hz⟩ : ∃ z, X12.heap.size = z := ⟨_, rfl⟩
                have bb : Below X12.heap.size X12 X13 := by rw [← hN]; exact (Below.refl _ _).alloc (Nat.le_refl _) _
                have B13 : Hid (Below W.heap.size W X13) := below_over B12.out bb
                have p6_13 : Hid (RvAt X13 z6 56 #[.int .u64 0, .int .u32 0, .int .u64 0, .int .u16 0] ∧ W.heap.size ≤ z6) := ⟨by rw [← hN, ← hz]; exact RvAt.new _ _ _, by rw [← hz]; exact B12.out.size⟩
                have p5_13 : Hid (RvAt X13 z5 56 #[.int .u64 0, .int .u32 0, .int .u64 0, .int .u16 0] ∧ W.heap.size ≤ z5) := ⟨p5_12.out.1.below bb, p5_12.out.2⟩
                have NE : Hid (z5 ≠ z6) := by have := p5_12.out.1.lt; show _ ≠ _; omega
                clear bb
                go_simp
                clear hN hz
                clear hHeld
                refine hK.out _ _ ⟨⟨_, B13.out⟩, rfl⟩ (fun hHeld => ?_)
                clear hK K
                try simp only [Act.put, List.setIfInBounds_toArray, List.set_cons_zero, List.set_cons_succ]
                refine wpAnyH_ready (rs := [16]) (by kernel_rfl) (by simp) ?_
                refine AllReadyH.cons (o := { dst := none, op := Op.store 56 (Operand.tmp 12) (Operand.tmp 42), type := 0, pos := "ref.go:133", after := #[{ on := 14, ground := Ground.data }, { on := 6, ground := Ground.data }, { on := 13, ground := Ground.chain }, { on := 0, ground := Ground.phase }, { on := 1, ground := Ground.phase }, { on := 2, ground := Ground.phase }, { on := 3, ground := Ground.phase }, { on := 4, ground := Ground.phase }, { on := 5, ground := Ground.phase }, { on := 6, ground := Ground.phase }, { on := 7, ground := Ground.textOnly Departure.lateStores }, { on := 8, ground := Ground.textOnly Departure.lateStores }, { on := 9, ground := Ground.textOnly Departure.lateStores }, { on := 10, ground := Ground.textOnly Departure.lateStores }, { on := 11, ground := Ground.textOnly Departure.lateStores }, { on := 12, ground := Ground.textOnly Departure.lateStores }, { on := 13, ground := Ground.textOnly Departure.lateStoresUnsure }, { on := 14, ground := Ground.phase }, { on := 15, ground := Ground.phase }], guard := none }) rfl (fun K hK => ?_) AllReadyH.nil
                have st14 := p5_13.out.1.st rtV (ds := (own).cs) rfl rfl (V4.one _)
                obtain ⟨X14, hN⟩ : ∃ z, X13.setRow z5 (own).cs = z := ⟨_, rfl⟩
                rw [hN] at st14
                have B14 : Hid (Below W.heap.size W X14) := by rw [← hN]; exact below_setRow B13.out p5_13.out.2 _
                have p5_14 : Hid (RvAt X14 z5 56 (own).cs ∧ W.heap.size ≤ z5) := ⟨by rw [← hN]; exact p5_13.out.1.set, p5_13.out.2⟩
                have p6_14 : Hid (RvAt X14 z6 56 #[.int .u64 0, .int .u32 0, .int .u64 0, .int .u16 0] ∧ W.heap.size ≤ z6) := ⟨by rw [← hN]; exact p6_13.out.1.keptBut (grown_row _ _ _) (fun e => by have := NE.out; simp only [Option.some.injEq] at e; omega), p6_13.out.2⟩
                go_simp
                clear hN st14
                clear hHeld
                refine hK.out _ _ ⟨⟨_, B14.out⟩, rfl⟩ (fun hHeld => ?_)
                clear hK K
                try simp only [Act.put, List.setIfInBounds_toArray, List.set_cons_zero, List.set_cons_succ]
                refine wpAnyH_ready (rs := [17]) (by kernel_rfl) (by simp) ?_
                refine AllReadyH.cons (o := { dst := none, op := Op.store 56 (Operand.tmp 13) (Operand.tmp 49), type := 0, pos := "ref.go:133", after := #[{ on := 15, ground := Ground.data }, { on := 13, ground := Ground.data }, { on := 16, ground := Ground.chain }, { on := 0, ground := Ground.phase }, { on := 1, ground := Ground.phase }, { on := 2, ground := Ground.phase }, { on := 3, ground := Ground.phase }, { on := 4, ground := Ground.phase }, { on := 5, ground := Ground.phase }, { on := 6, ground := Ground.phase }, { on := 7, ground := Ground.phase }, { on := 8, ground := Ground.phase }, { on := 9, ground := Ground.phase }, { on := 10, ground := Ground.phase }, { on := 11, ground := Ground.phase }, { on := 12, ground := Ground.phase }, { on := 13, ground := Ground.phase }, { on := 14, ground := Ground.phase }, { on := 15, ground := Ground.phase }, { on := 16, ground := Ground.phase }], guard := none }) rfl (fun K hK => ?_) AllReadyH.nil
                have st15 := p6_14.out.1.st rtV (ds := (oth).cs) rfl rfl (V4.one _)
                obtain ⟨X15, hN⟩ : ∃ z, X14.setRow z6 (oth).cs = z := ⟨_, rfl⟩
                rw [hN] at st15
                have B15 : Hid (Below W.heap.size W X15) := by rw [← hN]; exact below_setRow B14.out p6_14.out.2 _
                have p6_15 : Hid (RvAt X15 z6 56 (oth).cs ∧ W.heap.size ≤ z6) := ⟨by rw [← hN]; exact p6_14.out.1.set, p6_14.out.2⟩
                have p5_15 : Hid (RvAt X15 z5 56 (own).cs ∧ W.heap.size ≤ z5) := ⟨by rw [← hN]; exact p5_14.out.1.keptBut (grown_row _ _ _) (fun e => by have := NE.out; simp only [Option.some.injEq] at e; omega), p5_14.out.2⟩
                go_simp
                clear hN st15
                clear hHeld
                refine hK.out _ _ ⟨⟨_, B15.out⟩, rfl⟩ (fun hHeld => ?_)
                clear hK K
                try simp only [Act.put, List.setIfInBounds_toArray, List.set_cons_zero, List.set_cons_succ]
                refine wpAnyH_done (by kernel_rfl) ?_ _
                refine NoPanic.normal ?_
                clear hHeld
                go_wp2_with fail
                go_meet
                exact ⟨z5, z6, rfl, rfl, p5_15.out.1, p6_15.out.1, B15.out⟩
              · skip
                obtain ⟨X16, hN⟩ : ∃ z, X11.alloc (.cells #[.int .u64 0, .int .u32 0, .int .u64 0, .int .u16 0] 56) = z := ⟨_, rfl⟩
                obtain ⟨z6, hz⟩ : ∃ z, X11.heap.size = z := ⟨_, rfl⟩
                have bb : Below X11.heap.size X11 X16 := by rw [← hN]; exact (Below.refl _ _).alloc (Nat.le_refl _) _
                have B16 : Hid (Below W.heap.size W X16) := below_over B11.out bb
                have p6_16 : Hid (RvAt X16 z6 56 #[.int .u64 0, .int .u32 0, .int .u64 0, .int .u16 0] ∧ W.heap.size ≤ z6) := ⟨by rw [← hN, ← hz]; exact RvAt.new _ _ _, by rw [← hz]; exact B11.out.size⟩
                have p5_16 : Hid (RvAt X16 z5 56 #[.int .u64 0, .int .u32 0, .int .u64 0, .int .u16 0] ∧ W.heap.size ≤ z5) := ⟨p5_11.out.1.below bb, p5_11.out.2⟩
                have NE : Hid (z5 ≠ z6) := by have := p5_11.out.1.lt; show _ ≠ _; omega
                clear bb
                go_simp
                clear hN hz
                clear hHeld
                refine hK.out _ _ ⟨⟨_, B16.out⟩, rfl⟩ (fun hHeld => ?_)
                clear hK K
                try simp only [Act.put, List.setIfInBounds_toArray, List.set_cons_zero, List.set_cons_succ]
                refine wpAnyH_ready (rs := [13]) (by kernel_rfl) (by simp) ?_
                refine AllReadyH.cons (o := { dst := some 49, op := Op.call { callee := Callee.value (Operand.func 28), args := #[Operand.tmp 43, Operand.tmp 44, Operand.tmp 46, Operand.tmp 48], argTypes := #[22, 30, 3, 3] }, type := 56, pos := "ref.go:133", after := #[{ on := 7, ground := Ground.data }, { on := 8, ground := Ground.data }, { on := 10, ground := Ground.data }, { on := 12, ground := Ground.data }, { on := 6, ground := Ground.chain }], guard := none }) rfl (fun K hK => ?_) AllReadyH.nil
                go_simp
                refine (CB.out X16 B16.out).mono ?_
                rintro _ X17 ⟨rfl, bb⟩
                have B17 : Hid (Below W.heap.size W X17) := below_over B16.out bb
                have p5_17 : Hid (RvAt X17 z5 56 #[.int .u64 0, .int .u32 0, .int .u64 0, .int .u16 0] ∧ W.heap.size ≤ z5) := ⟨p5_16.out.1.below bb, p5_16.out.2⟩
                have p6_17 : Hid (RvAt X17 z6 56 #[.int .u64 0, .int .u32 0, .int .u64 0, .int .u16 0] ∧ W.heap.size ≤ z6) := ⟨p6_16.out.1.below bb, p6_16.out.2⟩
                clear bb
                clear hHeld
                refine hK.out _ _ ⟨⟨_, B17.out⟩, rfl⟩ (fun hHeld => ?_)
                clear hK K
                try simp only [Act.put, List.setIfInBounds_toArray, List.set_cons_zero, List.set_cons_succ]
                refine wpAnyH_ready (rs := [16]) (by kernel_rfl) (by simp) ?_
                refine AllReadyH.cons (o := { dst := none, op := Op.store 56 (Operand.tmp 12) (Operand.tmp 42), type := 0, pos := "ref.go:133", after := #[{ on := 14, ground := Ground.data }, { on := 6, ground := Ground.data }, { on := 13, ground := Ground.chain }, { on := 0, ground := Ground.phase }, { on := 1, ground := Ground.phase }, { on := 2, ground := Ground.phase }, { on := 3, ground := Ground.phase }, { on := 4, ground := Ground.phase }, { on := 5, ground := Ground.phase }, { on := 6, ground := Ground.phase }, { on := 7, ground := Ground.textOnly Departure.lateStores }, { on := 8, ground := Ground.textOnly Departure.lateStores }, { on := 9, ground := Ground.textOnly Departure.lateStores }, { on := 10, ground := Ground.textOnly Departure.lateStores }, { on := 11, ground := Ground.textOnly Departure.lateStores }, { on := 12, ground := Ground.textOnly Departure.lateStores }, { on := 13, ground := Ground.textOnly Departure.lateStoresUnsure }, { on := 14, ground := Ground.phase }, { on := 15, ground := Ground.phase }], guard := none }) rfl (fun K hK => ?_) AllReadyH.nil
                have st18 := p5_17.out.1.st rtV (ds := (own).cs) rfl rfl (V4.one _)
                obtain ⟨X18, hN⟩ : ∃ z, X17.setRow z5 (own).cs = z := ⟨_, rfl⟩
                rw [hN] at st18
                have B18 : Hid (Below W.heap.size W X18) := by rw [← hN]; exact below_setRow B17.out p5_17.out.2 _
                have p5_18 : Hid (RvAt X18 z5 56 (own).cs ∧ W.heap.size ≤ z5) := ⟨by rw [← hN]; exact p5_17.out.1.set, p5_17.out.2⟩
                have p6_18 : Hid (RvAt X18 z6 56 #[.int .u64 0, .int .u32 0, .int .u64 0, .int .u16 0] ∧ W.heap.size ≤ z6) := ⟨by rw [← hN]; exact p6_17.out.1.keptBut (grown_row _ _ _) (fun e => by have := NE.out; simp only [Option.some.injEq] at e; omega), p6_17.out.2⟩
                go_simp
                clear hN st18
                clear hHeld
                refine hK.out _ _ ⟨⟨_, B18.out⟩, rfl⟩ (fun hHeld => ?_)
                clear hK K
                try simp only [Act.put, List.setIfInBounds_toArray, List.set_cons_zero, List.set_cons_succ]
                refine wpAnyH_ready (rs := [17]) (by kernel_rfl) (by simp) ?_
                refine AllReadyH.cons (o := { dst := none, op := Op.store 56 (Operand.tmp 13) (Operand.tmp 49), type := 0, pos := "ref.go:133", after := #[{ on := 15, ground := Ground.data }, { on := 13, ground := Ground.data }, { on := 16, ground := Ground.chain }, { on := 0, ground := Ground.phase }, { on := 1, ground := Ground.phase }, { on := 2, ground := Ground.phase }, { on := 3, ground := Ground.phase }, { on := 4, ground := Ground.phase }, { on := 5, ground := Ground.phase }, { on := 6, ground := Ground.phase }, { on := 7, ground := Ground.phase }, { on := 8, ground := Ground.phase }, { on := 9, ground := Ground.phase }, { on := 10, ground := Ground.phase }, { on := 11, ground := Ground.phase }, { on := 12, ground := Ground.phase }, { on := 13, ground := Ground.phase }, { on := 14, ground := Ground.phase }, { on := 15, ground := Ground.phase }, { on := 16, ground := Ground.phase }], guard := none }) rfl (fun K hK => ?_) AllReadyH.nil
                have st19 := p6_18.out.1.st rtV (ds := (oth).cs) rfl rfl (V4.one _)
                obtain ⟨X19, hN⟩ : ∃ z, X18.setRow z6 (oth).cs = z := ⟨_, rfl⟩
                rw [hN] at st19
                have B19 : Hid (Below W.heap.size W X19) := by rw [← hN]; exact below_setRow B18.out p6_18.out.2 _
                have p6_19 : Hid (RvAt X19 z6 56 (oth).cs ∧ W.heap.size ≤ z6) := ⟨by rw [← hN]; exact p6_18.out.1.set, p6_18.out.2⟩
                have p5_19 : Hid (RvAt X19 z5 56 (own).cs ∧ W.heap.size ≤ z5) := ⟨by rw [← hN]; exact p5_18.out.1.keptBut (grown_row _ _ _) (fun e => by have := NE.out; simp only [Option.some.injEq] at e; omega), p5_18.out.2⟩
                go_simp
                clear hN st19
                clear hHeld
                refine hK.out _ _ ⟨⟨_, B19.out⟩, rfl⟩ (fun hHeld => ?_)
                clear hK K
                try simp only [Act.put, List.setIfInBounds_toArray, List.set_cons_zero, List.set_cons_succ]
                refine wpAnyH_done (by kernel_rfl) ?_ _
                refine NoPanic.normal ?_
                clear hHeld
                go_wp2_with fail
                go_meet
                exact ⟨z5, z6, rfl, rfl, p5_19.out.1, p6_19.out.1, B19.out⟩
            · skip
              obtain ⟨X20, hN⟩ : ∃ z, X1.alloc (.cells #[.int .u64 0, .int .u32 0, .int .u64 0, .int .u16 0] 56) = z := ⟨_, rfl⟩
              obtain ⟨z6, hz⟩ : ∃ z, X1.heap.size = z := ⟨_, rfl⟩
              have bb : Below X1.heap.size X1 X20 := by rw [← hN]; exact (Below.refl _ _).alloc (Nat.le_refl _) _
              have B20 : Hid (Below W.heap.size W X20) := below_over B1.out bb
              have p6_20 : Hid (RvAt X20 z6 56 #[.int .u64 0, .int .u32 0, .int .u64 0, .int .u16 0] ∧ W.heap.size ≤ z6) := ⟨by rw [← hN, ← hz]; exact RvAt.new _ _ _, by rw [← hz]; exact B1.out.size⟩
              clear bb
              go_simp
              clear hN hz
              clear hHeld
              refine hK.out _ _ ⟨⟨_, B20.out⟩, rfl⟩ (fun hHeld => ?_)
              clear hK K
              try simp only [Act.put, List.setIfInBounds_toArray, List.set_cons_zero, List.set_cons_succ]
              refine wpAnyH_ready (rs := [13, 14]) (by kernel_rfl) (by simp) ?_
              refine (AllReadyH.cons (o := { dst := some 49, op := Op.call { callee := Callee.value (Operand.func 28), args := #[Operand.tmp 43, Operand.tmp 44, Operand.tmp 46, Operand.tmp 48], argTypes := #[22, 30, 3, 3] }, type := 56, pos := "ref.go:133", after := #[{ on := 7, ground := Ground.data }, { on := 8, ground := Ground.data }, { on := 10, ground := Ground.data }, { on := 12, ground := Ground.data }, { on := 6, ground := Ground.chain }], guard := none }) rfl (fun K hK => ?_) (AllReadyH.cons (o := { dst := some 12, op := Op.alloc 56, type := 0, pos := "ref.go:133", after := #[], guard := none }) rfl (fun K hK => ?_) AllReadyH.nil))
              · skip
                go_simp
                refine (CB.out X20 B20.out).mono ?_
                rintro _ X21 ⟨rfl, bb⟩
                have B21 : Hid (Below W.heap.size W X21) := below_over B20.out bb
                have p6_21 : Hid (RvAt X21 z6 56 #[.int .u64 0, .int .u32 0, .int .u64 0, .int .u16 0] ∧ W.heap.size ≤ z6) := ⟨p6_20.out.1.below bb, p6_20.out.2⟩
                clear bb
                clear hHeld
                refine hK.out _ _ ⟨⟨_, B21.out⟩, rfl⟩ (fun hHeld => ?_)
                clear hK K
                try simp only [Act.put, List.setIfInBounds_toArray, List.set_cons_zero, List.set_cons_succ]
                refine wpAnyH_ready (rs := [14]) (by kernel_rfl) (by simp) ?_
                refine AllReadyH.cons (o := { dst := some 12, op := Op.alloc 56, type := 0, pos := "ref.go:133", after := #[], guard := none }) rfl (fun K hK => ?_) AllReadyH.nil
                obtain ⟨X22, hN⟩ : ∃ z, X21.alloc (.cells #[.int .u64 0, .int .u32 0, .int .u64 0, .int .u16 0] 56) = z := ⟨_, rfl⟩
                obtain ⟨z5, hz⟩ : ∃ z, X21.heap.size = z := ⟨_, rfl⟩
                have bb : Below X21.heap.size X21 X22 := by rw [← hN]; exact (Below.refl _ _).alloc (Nat.le_refl _) _
                have B22 : Hid (Below W.heap.size W X22) := below_over B21.out bb
                have p5_22 : Hid (RvAt X22 z5 56 #[.int .u64 0, .int .u32 0, .int .u64 0, .int .u16 0] ∧ W.heap.size ≤ z5) := ⟨by rw [← hN, ← hz]; exact RvAt.new _ _ _, by rw [← hz]; exact B21.out.size⟩
                have p6_22 : Hid (RvAt X22 z6 56 #[.int .u64 0, .int .u32 0, .int .u64 0, .int .u16 0] ∧ W.heap.size ≤ z6) := ⟨p6_21.out.1.below bb, p6_21.out.2⟩
                have NE : Hid (z6 ≠ z5) := by have := p6_21.out.1.lt; show _ ≠ _; omega
                clear bb
                go_simp
                clear hN hz
                clear hHeld
                refine hK.out _ _ ⟨⟨_, B22.out⟩, rfl⟩ (fun hHeld => ?_)
                clear hK K
                try simp only [Act.put, List.setIfInBounds_toArray, List.set_cons_zero, List.set_cons_succ]
                refine wpAnyH_ready (rs := [16]) (by kernel_rfl) (by simp) ?_
                refine AllReadyH.cons (o := { dst := none, op := Op.store 56 (Operand.tmp 12) (Operand.tmp 42), type := 0, pos := "ref.go:133", after := #[{ on := 14, ground := Ground.data }, { on := 6, ground := Ground.data }, { on := 13, ground := Ground.chain }, { on := 0, ground := Ground.phase }, { on := 1, ground := Ground.phase }, { on := 2, ground := Ground.phase }, { on := 3, ground := Ground.phase }, { on := 4, ground := Ground.phase }, { on := 5, ground := Ground.phase }, { on := 6, ground := Ground.phase }, { on := 7, ground := Ground.textOnly Departure.lateStores }, { on := 8, ground := Ground.textOnly Departure.lateStores }, { on := 9, ground := Ground.textOnly Departure.lateStores }, { on := 10, ground := Ground.textOnly Departure.lateStores }, { on := 11, ground := Ground.textOnly Departure.lateStores }, { on := 12, ground := Ground.textOnly Departure.lateStores }, { on := 13, ground := Ground.textOnly Departure.lateStoresUnsure }, { on := 14, ground := Ground.phase }, { on := 15, ground := Ground.phase }], guard := none }) rfl (fun K hK => ?_) AllReadyH.nil
                have st23 := p5_22.out.1.st rtV (ds := (own).cs) rfl rfl (V4.one _)
                obtain ⟨X23, hN⟩ : ∃ z, X22.setRow z5 (own).cs = z := ⟨_, rfl⟩
                rw [hN] at st23
                have B23 : Hid (Below W.heap.size W X23) := by rw [← hN]; exact below_setRow B22.out p5_22.out.2 _
                have p5_23 : Hid (RvAt X23 z5 56 (own).cs ∧ W.heap.size ≤ z5) := ⟨by rw [← hN]; exact p5_22.out.1.set, p5_22.out.2⟩
                have p6_23 : Hid (RvAt X23 z6 56 #[.int .u64 0, .int .u32 0, .int .u64 0, .int .u16 0] ∧ W.heap.size ≤ z6) := ⟨by rw [← hN]; exact p6_22.out.1.keptBut (grown_row _ _ _) (fun e => by have := NE.out; simp only [Option.some.injEq] at e; omega), p6_22.out.2⟩
                go_simp
                clear hN st23
                clear hHeld
                refine hK.out _ _ ⟨⟨_, B23.out⟩, rfl⟩ (fun hHeld => ?_)
                clear hK K
                try simp only [Act.put, List.setIfInBounds_toArray, List.set_cons_zero, List.set_cons_succ]
                refine wpAnyH_ready (rs := [17]) (by kernel_rfl) (by simp) ?_
                refine AllReadyH.cons (o := { dst := none, op := Op.store 56 (Operand.tmp 13) (Operand.tmp 49), type := 0, pos := "ref.go:133", after := #[{ on := 15, ground := Ground.data }, { on := 13, ground := Ground.data }, { on := 16, ground := Ground.chain }, { on := 0, ground := Ground.phase }, { on := 1, ground := Ground.phase }, { on := 2, ground := Ground.phase }, { on := 3, ground := Ground.phase }, { on := 4, ground := Ground.phase }, { on := 5, ground := Ground.phase }, { on := 6, ground := Ground.phase }, { on := 7, ground := Ground.phase }, { on := 8, ground := Ground.phase }, { on := 9, ground := Ground.phase }, { on := 10, ground := Ground.phase }, { on := 11, ground := Ground.phase }, { on := 12, ground := Ground.phase }, { on := 13, ground := Ground.phase }, { on := 14, ground := Ground.phase }, { on := 15, ground := Ground.phase }, { on := 16, ground := Ground.phase }], guard := none }) rfl (fun K hK => ?_) AllReadyH.nil
                have st24 := p6_23.out.1.st rtV (ds := (oth).cs) rfl rfl (V4.one _)
                obtain ⟨X24, hN⟩ : ∃ z, X23.setRow z6 (oth).cs = z := ⟨_, rfl⟩
                rw [hN] at st24
                have B24 : Hid (Below W.heap.size W X24) := by rw [← hN]; exact below_setRow B23.out p6_23.out.2 _
                have p6_24 : Hid (RvAt X24 z6 56 (oth).cs ∧ W.heap.size ≤ z6) := ⟨by rw [← hN]; exact p6_23.out.1.set, p6_23.out.2⟩
                have p5_24 : Hid (RvAt X24 z5 56 (own).cs ∧ W.heap.size ≤ z5) := ⟨by rw [← hN]; exact p5_23.out.1.keptBut (grown_row _ _ _) (fun e => by have := NE.out; simp only [Option.some.injEq] at e; omega), p5_23.out.2⟩
                go_simp
                clear hN st24
                clear hHeld
                refine hK.out _ _ ⟨⟨_, B24.out⟩, rfl⟩ (fun hHeld => ?_)
                clear hK K
                try simp only [Act.put, List.setIfInBounds_toArray, List.set_cons_zero, List.set_cons_succ]
                refine wpAnyH_done (by kernel_rfl) ?_ _
                refine NoPanic.normal ?_
                clear hHeld
                go_wp2_with fail
                go_meet
                exact ⟨z5, z6, rfl, rfl, p5_24.out.1, p6_24.out.1, B24.out⟩
              · skip
                obtain ⟨X25, hN⟩ : ∃ z, X20.alloc (.cells #[.int .u64 0, .int .u32 0, .int .u64 0, .int .u16 0] 56) = z := ⟨_, rfl⟩
                obtain ⟨z5, hz⟩ : ∃ z, X20.heap.size = z := ⟨_, rfl⟩
                have bb : Below X20.heap.size X20 X25 := by rw [← hN]; exact (Below.refl _ _).alloc (Nat.le_refl _) _
                have B25 : Hid (Below W.heap.size W X25) := below_over B20.out bb
                have p5_25 : Hid (RvAt X25 z5 56 #[.int .u64 0, .int .u32 0, .int .u64 0, .int .u16 0] ∧ W.heap.size ≤ z5) := ⟨by rw [← hN, ← hz]; exact RvAt.new _ _ _, by rw [← hz]; exact B20.out.size⟩
                have p6_25 : Hid (RvAt X25 z6 56 #[.int .u64 0, .int .u32 0, .int .u64 0, .int .u16 0] ∧ W.heap.size ≤ z6) := ⟨p6_20.out.1.below bb, p6_20.out.2⟩
                have NE : Hid (z6 ≠ z5) := by have := p6_20.out.1.lt; show _ ≠ _; omega
                clear bb
                go_simp
                clear hN hz
                clear hHeld
                refine hK.out _ _ ⟨⟨_, B25.out⟩, rfl⟩ (fun hHeld => ?_)
                clear hK K
                try simp only [Act.put, List.setIfInBounds_toArray, List.set_cons_zero, List.set_cons_succ]
                refine wpAnyH_ready (rs := [13]) (by kernel_rfl) (by simp) ?_
                refine AllReadyH.cons (o := { dst := some 49, op := Op.call { callee := Callee.value (Operand.func 28), args := #[Operand.tmp 43, Operand.tmp 44, Operand.tmp 46, Operand.tmp 48], argTypes := #[22, 30, 3, 3] }, type := 56, pos := "ref.go:133", after := #[{ on := 7, ground := Ground.data }, { on := 8, ground := Ground.data }, { on := 10, ground := Ground.data }, { on := 12, ground := Ground.data }, { on := 6, ground := Ground.chain }], guard := none }) rfl (fun K hK => ?_) AllReadyH.nil
                go_simp
                refine (CB.out X25 B25.out).mono ?_
                rintro _ X26 ⟨rfl, bb⟩
                have B26 : Hid (Below W.heap.size W X26) := below_over B25.out bb
                have p5_26 : Hid (RvAt X26 z5 56 #[.int .u64 0, .int .u32 0, .int .u64 0, .int .u16 0] ∧ W.heap.size ≤ z5) := ⟨p5_25.out.1.below bb, p5_25.out.2⟩
                have p6_26 : Hid (RvAt X26 z6 56 #[.int .u64 0, .int .u32 0, .int .u64 0, .int .u16 0] ∧ W.heap.size ≤ z6) := ⟨p6_25.out.1.below bb, p6_25.out.2⟩
                clear bb
                clear hHeld
                refine hK.out _ _ ⟨⟨_, B26.out⟩, rfl⟩ (fun hHeld => ?_)
                clear hK K
                try simp only [Act.put, List.setIfInBounds_toArray, List.set_cons_zero, List.set_cons_succ]
                refine wpAnyH_ready (rs := [16]) (by kernel_rfl) (by simp) ?_
                refine AllReadyH.cons (o := { dst := none, op := Op.store 56 (Operand.tmp 12) (Operand.tmp 42), type := 0, pos := "ref.go:133", after := #[{ on := 14, ground := Ground.data }, { on := 6, ground := Ground.data }, { on := 13, ground := Ground.chain }, { on := 0, ground := Ground.phase }, { on := 1, ground := Ground.phase }, { on := 2, ground := Ground.phase }, { on := 3, ground := Ground.phase }, { on := 4, ground := Ground.phase }, { on := 5, ground := Ground.phase }, { on := 6, ground := Ground.phase }, { on := 7, ground := Ground.textOnly Departure.lateStores }, { on := 8, ground := Ground.textOnly Departure.lateStores }, { on := 9, ground := Ground.textOnly Departure.lateStores }, { on := 10, ground := Ground.textOnly Departure.lateStores }, { on := 11, ground := Ground.textOnly Departure.lateStores }, { on := 12, ground := Ground.textOnly Departure.lateStores }, { on := 13, ground := Ground.textOnly Departure.lateStoresUnsure }, { on := 14, ground := Ground.phase }, { on := 15, ground := Ground.phase }], guard := none }) rfl (fun K hK => ?_) AllReadyH.nil
                have st27 := p5_26.out.1.st rtV (ds := (own).cs) rfl rfl (V4.one _)
                obtain ⟨X27, hN⟩ : ∃ z, X26.setRow z5 (own).cs = z := ⟨_, rfl⟩
                rw [hN] at st27
                have B27 : Hid (Below W.heap.size W X27) := by rw [← hN]; exact below_setRow B26.out p5_26.out.2 _
                have p5_27 : Hid (RvAt X27 z5 56 (own).cs ∧ W.heap.size ≤ z5) := ⟨by rw [← hN]; exact p5_26.out.1.set, p5_26.out.2⟩
                have p6_27 : Hid (RvAt X27 z6 56 #[.int .u64 0, .int .u32 0, .int .u64 0, .int .u16 0] ∧ W.heap.size ≤ z6) := ⟨by rw [← hN]; exact p6_26.out.1.keptBut (grown_row _ _ _) (fun e => by have := NE.out; simp only [Option.some.injEq] at e; omega), p6_26.out.2⟩
                go_simp
                clear hN st27
                clear hHeld
                refine hK.out _ _ ⟨⟨_, B27.out⟩, rfl⟩ (fun hHeld => ?_)
                clear hK K
                try simp only [Act.put, List.setIfInBounds_toArray, List.set_cons_zero, List.set_cons_succ]
                refine wpAnyH_ready (rs := [17]) (by kernel_rfl) (by simp) ?_
                refine AllReadyH.cons (o := { dst := none, op := Op.store 56 (Operand.tmp 13) (Operand.tmp 49), type := 0, pos := "ref.go:133", after := #[{ on := 15, ground := Ground.data }, { on := 13, ground := Ground.data }, { on := 16, ground := Ground.chain }, { on := 0, ground := Ground.phase }, { on := 1, ground := Ground.phase }, { on := 2, ground := Ground.phase }, { on := 3, ground := Ground.phase }, { on := 4, ground := Ground.phase }, { on := 5, ground := Ground.phase }, { on := 6, ground := Ground.phase }, { on := 7, ground := Ground.phase }, { on := 8, ground := Ground.phase }, { on := 9, ground := Ground.phase }, { on := 10, ground := Ground.phase }, { on := 11, ground := Ground.phase }, { on := 12, ground := Ground.phase }, { on := 13, ground := Ground.phase }, { on := 14, ground := Ground.phase }, { on := 15, ground := Ground.phase }, { on := 16, ground := Ground.phase }], guard := none }) rfl (fun K hK => ?_) AllReadyH.nil
                have st28 := p6_27.out.1.st rtV (ds := (oth).cs) rfl rfl (V4.one _)
                obtain ⟨X28, hN⟩ : ∃ z, X27.setRow z6 (oth).cs = z := ⟨_, rfl⟩
                rw [hN] at st28
                have B28 : Hid (Below W.heap.size W X28) := by rw [← hN]; exact below_setRow B27.out p6_27.out.2 _
                have p6_28 : Hid (RvAt X28 z6 56 (oth).cs ∧ W.heap.size ≤ z6) := ⟨by rw [← hN]; exact p6_27.out.1.set, p6_27.out.2⟩
                have p5_28 : Hid (RvAt X28 z5 56 (own).cs ∧ W.heap.size ≤ z5) := ⟨by rw [← hN]; exact p5_27.out.1.keptBut (grown_row _ _ _) (fun e => by have := NE.out; simp only [Option.some.injEq] at e; omega), p5_27.out.2⟩
                go_simp
                clear hN st28
                clear hHeld
                refine hK.out _ _ ⟨⟨_, B28.out⟩, rfl⟩ (fun hHeld => ?_)
                clear hK K
                try simp only [Act.put, List.setIfInBounds_toArray, List.set_cons_zero, List.set_cons_succ]
                refine wpAnyH_done (by kernel_rfl) ?_ _
                refine NoPanic.normal ?_
                clear hHeld
                go_wp2_with fail
                go_meet
                exact ⟨z5, z6, rfl, rfl, p5_28.out.1, p6_28.out.1, B28.out⟩
          · skip
            obtain ⟨X29, hN⟩ : ∃ z, X0.alloc (.cells #[.int .u64 0, .int .u32 0, .int .u64 0, .int .u16 0] 56) = z := ⟨_, rfl⟩
            obtain ⟨z5, hz⟩ : ∃ z, X0.heap.size = z := ⟨_, rfl⟩
            have bb : Below X0.heap.size X0 X29 := by rw [← hN]; exact (Below.refl _ _).alloc (Nat.le_refl _) _
            have B29 : Hid (Below W.heap.size W X29) := below_over B0.out bb
            have p5_29 : Hid (RvAt X29 z5 56 #[.int .u64 0, .int .u32 0, .int .u64 0, .int .u16 0] ∧ W.heap.size ≤ z5) := ⟨by rw [← hN, ← hz]; exact RvAt.new _ _ _, by rw [← hz]; exact B0.out.size⟩
            clear bb
            go_simp
            clear hN hz
            clear hHeld
            refine hK.out _ _ ⟨⟨_, B29.out⟩, rfl⟩ (fun hHeld => ?_)
            clear hK K
            try simp only [Act.put, List.setIfInBounds_toArray, List.set_cons_zero, List.set_cons_succ]
            refine wpAnyH_ready (rs := [6, 15]) (by kernel_rfl) (by simp) ?_
            refine (AllReadyH.cons (o := { dst := some 42, op := Op.call { callee := Callee.value (Operand.func 28), args := #[Operand.tmp 36, Operand.tmp 37, Operand.tmp 39, Operand.tmp 41], argTypes := #[22, 30, 3, 3] }, type := 56, pos := "ref.go:133", after := #[{ on := 0, ground := Ground.data }, { on := 1, ground := Ground.data }, { on := 3, ground := Ground.data }, { on := 5, ground := Ground.data }], guard := none }) rfl (fun K hK => ?_) (AllReadyH.cons (o := { dst := some 13, op := Op.alloc 56, type := 0, pos := "ref.go:133", after := #[], guard := none }) rfl (fun K hK => ?_) AllReadyH.nil))
            · skip
              go_simp
              refine (CA.out X29 B29.out).mono ?_
              rintro _ X30 ⟨rfl, bb⟩
              have B30 : Hid (Below W.heap.size W X30) := below_over B29.out bb
              have p5_30 : Hid (RvAt X30 z5 56 #[.int .u64 0, .int .u32 0, .int .u64 0, .int .u16 0] ∧ W.heap.size ≤ z5) := ⟨p5_29.out.1.below bb, p5_29.out.2⟩
              clear bb
              clear hHeld
              refine hK.out _ _ ⟨⟨_, B30.out⟩, rfl⟩ (fun hHeld => ?_)
              clear hK K
              try simp only [Act.put, List.setIfInBounds_toArray, List.set_cons_zero, List.set_cons_succ]
              refine wpAnyH_ready (rs := [13, 15]) (by kernel_rfl) (by simp) ?_
              refine (AllReadyH.cons (o := { dst := some 49, op := Op.call { callee := Callee.value (Operand.func 28), args := #[Operand.tmp 43, Operand.tmp 44, Operand.tmp 46, Operand.tmp 48], argTypes := #[22, 30, 3, 3] }, type := 56, pos := "ref.go:133", after := #[{ on := 7, ground := Ground.data }, { on := 8, ground := Ground.data }, { on := 10, ground := Ground.data }, { on := 12, ground := Ground.data }, { on := 6, ground := Ground.chain }], guard := none }) rfl (fun K hK => ?_) (AllReadyH.cons (o := { dst := some 13, op := Op.alloc 56, type := 0, pos := "ref.go:133", after := #[], guard := none }) rfl (fun K hK => ?_) AllReadyH.nil))
              · skip
                go_simp
                refine (CB.out X30 B30.out).mono ?_
                rintro _ X31 ⟨rfl, bb⟩
                have B31 : Hid (Below W.heap.size W X31) := below_over B30.out bb
                have p5_31 : Hid (RvAt X31 z5 56 #[.int .u64 0, .int .u32 0, .int .u64 0, .int .u16 0] ∧ W.heap.size ≤ z5) := ⟨p5_30.out.1.below bb, p5_30.out.2⟩
                clear bb
                clear hHeld
                refine hK.out _ _ ⟨⟨_, B31.out⟩, rfl⟩ (fun hHeld => ?_)
                clear hK K
                try simp only [Act.put, List.setIfInBounds_toArray, List.set_cons_zero, List.set_cons_succ]
                refine wpAnyH_ready (rs := [15]) (by kernel_rfl) (by simp) ?_
                refine AllReadyH.cons (o := { dst := some 13, op := Op.alloc 56, type := 0, pos := "ref.go:133", after := #[], guard := none }) rfl (fun K hK => ?_) AllReadyH.nil
                obtain ⟨X32, hN⟩ : ∃ z, X31.alloc (.cells #[.int .u64 0, .int .u32 0, .int .u64 0, .int .u16 0] 56) = z := ⟨_, rfl⟩
                obtain ⟨z6, hz⟩ : ∃ z, X31.heap.size = z := ⟨_, rfl⟩
                have bb : Below X31.heap.size X31 X32 := by rw [← hN]; exact (Below.refl _ _).alloc (Nat.le_refl _) _
                have B32 : Hid (Below W.heap.size W X32) := below_over B31.out bb
                have p6_32 : Hid (RvAt X32 z6 56 #[.int .u64 0, .int .u32 0, .int .u64 0, .int .u16 0] ∧ W.heap.size ≤ z6) := ⟨by rw [← hN, ← hz]; exact RvAt.new _ _ _, by rw [← hz]; exact B31.out.size⟩
                have p5_32 : Hid (RvAt X32 z5 56 #[.int .u64 0, .int .u32 0, .int .u64 0, .int .u16 0] ∧ W.heap.size ≤ z5) := ⟨p5_31.out.1.below bb, p5_31.out.2⟩
                have NE : Hid (z5 ≠ z6) := by have := p5_31.out.1.lt; show _ ≠ _; omega
                clear bb
                go_simp
                clear hN hz
                clear hHeld
                refine hK.out _ _ ⟨⟨_, B32.out⟩, rfl⟩ (fun hHeld => ?_)
                clear hK K
                try simp only [Act.put, List.setIfInBounds_toArray, List.set_cons_zero, List.set_cons_succ]
                refine wpAnyH_ready (rs := [16]) (by kernel_rfl) (by simp) ?_
                refine AllReadyH.cons (o := { dst := none, op := Op.store 56 (Operand.tmp 12) (Operand.tmp 42), type := 0, pos := "ref.go:133", after := #[{ on := 14, ground := Ground.data }, { on := 6, ground := Ground.data }, { on := 13, ground := Ground.chain }, { on := 0, ground := Ground.phase }, { on := 1, ground := Ground.phase }, { on := 2, ground := Ground.phase }, { on := 3, ground := Ground.phase }, { on := 4, ground := Ground.phase }, { on := 5, ground := Ground.phase }, { on := 6, ground := Ground.phase }, { on := 7, ground := Ground.textOnly Departure.lateStores }, { on := 8, ground := Ground.textOnly Departure.lateStores }, { on := 9, ground := Ground.textOnly Departure.lateStores }, { on := 10, ground := Ground.textOnly Departure.lateStores }, { on := 11, ground := Ground.textOnly Departure.lateStores }, { on := 12, ground := Ground.textOnly Departure.lateStores }, { on := 13, ground := Ground.textOnly Departure.lateStoresUnsure }, { on := 14, ground := Ground.phase }, { on := 15, ground := Ground.phase }], guard := none }) rfl (fun K hK => ?_) AllReadyH.nil
                have st33 := p5_32.out.1.st rtV (ds := (own).cs) rfl rfl (V4.one _)
                obtain ⟨X33, hN⟩ : ∃ z, X32.setRow z5 (own).cs = z := ⟨_, rfl⟩
                rw [hN] at st33
                have B33 : Hid (Below W.heap.size W X33) := by rw [← hN]; exact below_setRow B32.out p5_32.out.2 _
                have p5_33 : Hid (RvAt X33 z5 56 (own).cs ∧ W.heap.size ≤ z5) := ⟨by rw [← hN]; exact p5_32.out.1.set, p5_32.out.2⟩
                have p6_33 : Hid (RvAt X33 z6 56 #[.int .u64 0, .int .u32 0, .int .u64 0, .int .u16 0] ∧ W.heap.size ≤ z6) := ⟨by rw [← hN]; exact p6_32.out.1.keptBut (grown_row _ _ _) (fun e => by have := NE.out; simp only [Option.some.injEq] at e; omega), p6_32.out.2⟩
                go_simp
                clear hN st33
                clear hHeld
                refine hK.out _ _ ⟨⟨_, B33.out⟩, rfl⟩ (fun hHeld => ?_)
                clear hK K
                try simp only [Act.put, List.setIfInBounds_toArray, List.set_cons_zero, List.set_cons_succ]
                refine wpAnyH_ready (rs := [17]) (by kernel_rfl) (by simp) ?_
                refine AllReadyH.cons (o := { dst := none, op := Op.store 56 (Operand.tmp 13) (Operand.tmp 49), type := 0, pos := "ref.go:133", after := #[{ on := 15, ground := Ground.data }, { on := 13, ground := Ground.data }, { on := 16, ground := Ground.chain }, { on := 0, ground := Ground.phase }, { on := 1, ground := Ground.phase }, { on := 2, ground := Ground.phase }, { on := 3, ground := Ground.phase }, { on := 4, ground := Ground.phase }, { on := 5, ground := Ground.phase }, { on := 6, ground := Ground.phase }, { on := 7, ground := Ground.phase }, { on := 8, ground := Ground.phase }, { on := 9, ground := Ground.phase }, { on := 10, ground := Ground.phase }, { on := 11, ground := Ground.phase }, { on := 12, ground := Ground.phase }, { on := 13, ground := Ground.phase }, { on := 14, ground := Ground.phase }, { on := 15, ground := Ground.phase }, { on := 16, ground := Ground.phase }], guard := none }) rfl (fun K hK => ?_) AllReadyH.nil
                have st34 := p6_33.out.1.st rtV (ds := (oth).cs) rfl rfl (V4.one _)
                obtain ⟨X34, hN⟩ : ∃ z, X33.setRow z6 (oth).cs = z := ⟨_, rfl⟩
                rw [hN] at st34
                have B34 : Hid (Below W.heap.size W X34) := by rw [← hN]; exact below_setRow B33.out p6_33.out.2 _
                have p6_34 : Hid (RvAt X34 z6 56 (oth).cs ∧ W.heap.size ≤ z6) := ⟨by rw [← hN]; exact p6_33.out.1.set, p6_33.out.2⟩
                have p5_34 : Hid (RvAt X34 z5 56 (own).cs ∧ W.heap.size ≤ z5) := ⟨by rw [← hN]; exact p5_33.out.1.keptBut (grown_row _ _ _) (fun e => by have := NE.out; simp only [Option.some.injEq] at e; omega), p5_33.out.2⟩
                go_simp
                clear hN st34
                clear hHeld
                refine hK.out _ _ ⟨⟨_, B34.out⟩, rfl⟩ (fun hHeld => ?_)
                clear hK K
                try simp only [Act.put, List.setIfInBounds_toArray, List.set_cons_zero, List.set_cons_succ]
                refine wpAnyH_done (by kernel_rfl) ?_ _
                refine NoPanic.normal ?_
                clear hHeld
                go_wp2_with fail
                go_meet
                exact ⟨z5, z6, rfl, rfl, p5_34.out.1, p6_34.out.1, B34.out⟩
              · skip
                obtain ⟨X35, hN⟩ : ∃ z, X30.alloc (.cells #[.int .u64 0, .int .u32 0, .int .u64 0, .int .u16 0] 56) = z := ⟨_, rfl⟩
                obtain ⟨z6, hz⟩ : ∃ z, X30.heap.size = z := ⟨_, rfl⟩
                have bb : Below X30.heap.size X30 X35 := by rw [← hN]; exact (Below.refl _ _).alloc (Nat.le_refl _) _
                have B35 : Hid (Below W.heap.size W X35) := below_over B30.out bb
                have p6_35 : Hid (RvAt X35 z6 56 #[.int .u64 0, .int .u32 0, .int .u64 0, .int .u16 0] ∧ W.heap.size ≤ z6) := ⟨by rw [← hN, ← hz]; exact RvAt.new _ _ _, by rw [← hz]; exact B30.out.size⟩
                have p5_35 : Hid (RvAt X35 z5 56 #[.int .u64 0, .int .u32 0, .int .u64 0, .int .u16 0] ∧ W.heap.size ≤ z5) := ⟨p5_30.out.1.below bb, p5_30.out.2⟩
                have NE : Hid (z5 ≠ z6) := by have := p5_30.out.1.lt; show _ ≠ _; omega
                clear bb
                go_simp
                clear hN hz
                clear hHeld
                refine hK.out _ _ ⟨⟨_, B35.out⟩, rfl⟩ (fun hHeld => ?_)
                clear hK K
                try simp only [Act.put, List.setIfInBounds_toArray, List.set_cons_zero, List.set_cons_succ]
                refine wpAnyH_ready (rs := [13]) (by kernel_rfl) (by simp) ?_
                refine AllReadyH.cons (o := { dst := some 49, op := Op.call { callee := Callee.value (Operand.func 28), args := #[Operand.tmp 43, Operand.tmp 44, Operand.tmp 46, Operand.tmp 48], argTypes := #[22, 30, 3, 3] }, type := 56, pos := "ref.go:133", after := #[{ on := 7, ground := Ground.data }, { on := 8, ground := Ground.data }, { on := 10, ground := Ground.data }, { on := 12, ground := Ground.data }, { on := 6, ground := Ground.chain }], guard := none }) rfl (fun K hK => ?_) AllReadyH.nil
                go_simp
                refine (CB.out X35 B35.out).mono ?_
                rintro _ X36 ⟨rfl, bb⟩
                have B36 : Hid (Below W.heap.size W X36) := below_over B35.out bb
                have p5_36 : Hid (RvAt X36 z5 56 #[.int .u64 0, .int .u32 0, .int .u64 0, .int .u16 0] ∧ W.heap.size ≤ z5) := ⟨p5_35.out.1.below bb, p5_35.out.2⟩
                have p6_36 : Hid (RvAt X36 z6 56 #[.int .u64 0, .int .u32 0, .int .u64 0, .int .u16 0] ∧ W.heap.size ≤ z6) := ⟨p6_35.out.1.below bb, p6_35.out.2⟩
                clear bb
                clear hHeld
                refine hK.out _ _ ⟨⟨_, B36.out⟩, rfl⟩ (fun hHeld => ?_)
                clear hK K
                try simp only [Act.put, List.setIfInBounds_toArray, List.set_cons_zero, List.set_cons_succ]
                refine wpAnyH_ready (rs := [16]) (by kernel_rfl) (by simp) ?_
                refine AllReadyH.cons (o := { dst := none, op := Op.store 56 (Operand.tmp 12) (Operand.tmp 42), type := 0, pos := "ref.go:133", after := #[{ on := 14, ground := Ground.data }, { on := 6, ground := Ground.data }, { on := 13, ground := Ground.chain }, { on := 0, ground := Ground.phase }, { on := 1, ground := Ground.phase }, { on := 2, ground := Ground.phase }, { on := 3, ground := Ground.phase }, { on := 4, ground := Ground.phase }, { on := 5, ground := Ground.phase }, { on := 6, ground := Ground.phase }, { on := 7, ground := Ground.textOnly Departure.lateStores }, { on := 8, ground := Ground.textOnly Departure.lateStores }, { on := 9, ground := Ground.textOnly Departure.lateStores }, { on := 10, ground := Ground.textOnly Departure.lateStores }, { on := 11, ground := Ground.textOnly Departure.lateStores }, { on := 12, ground := Ground.textOnly Departure.lateStores }, { on := 13, ground := Ground.textOnly Departure.lateStoresUnsure }, { on := 14, ground := Ground.phase }, { on := 15, ground := Ground.phase }], guard := none }) rfl (fun K hK => ?_) AllReadyH.nil
                have st37 := p5_36.out.1.st rtV (ds := (own).cs) rfl rfl (V4.one _)
                obtain ⟨X37, hN⟩ : ∃ z, X36.setRow z5 (own).cs = z := ⟨_, rfl⟩
                rw [hN] at st37
                have B37 : Hid (Below W.heap.size W X37) := by rw [← hN]; exact below_setRow B36.out p5_36.out.2 _
                have p5_37 : Hid (RvAt X37 z5 56 (own).cs ∧ W.heap.size ≤ z5) := ⟨by rw [← hN]; exact p5_36.out.1.set, p5_36.out.2⟩
                have p6_37 : Hid (RvAt X37 z6 56 #[.int .u64 0, .int .u32 0, .int .u64 0, .int .u16 0] ∧ W.heap.size ≤ z6) := ⟨by rw [← hN]; exact p6_36.out.1.keptBut (grown_row _ _ _) (fun e => by have := NE.out; simp only [Option.some.injEq] at e; omega), p6_36.out.2⟩
                go_simp
                clear hN st37
                clear hHeld
                refine hK.out _ _ ⟨⟨_, B37.out⟩, rfl⟩ (fun hHeld => ?_)
                clear hK K
                try simp only [Act.put, List.setIfInBounds_toArray, List.set_cons_zero, List.set_cons_succ]
                refine wpAnyH_ready (rs := [17]) (by kernel_rfl) (by simp) ?_
                refine AllReadyH.cons (o := { dst := none, op := Op.store 56 (Operand.tmp 13) (Operand.tmp 49), type := 0, pos := "ref.go:133", after := #[{ on := 15, ground := Ground.data }, { on := 13, ground := Ground.data }, { on := 16, ground := Ground.chain }, { on := 0, ground := Ground.phase }, { on := 1, ground := Ground.phase }, { on := 2, ground := Ground.phase }, { on := 3, ground := Ground.phase }, { on := 4, ground := Ground.phase }, { on := 5, ground := Ground.phase }, { on := 6, ground := Ground.phase }, { on := 7, ground := Ground.phase }, { on := 8, ground := Ground.phase }, { on := 9, ground := Ground.phase }, { on := 10, ground := Ground.phase }, { on := 11, ground := Ground.phase }, { on := 12, ground := Ground.phase }, { on := 13, ground := Ground.phase }, { on := 14, ground := Ground.phase }, { on := 15, ground := Ground.phase }, { on := 16, ground := Ground.phase }], guard := none }) rfl (fun K hK => ?_) AllReadyH.nil
                have st38 := p6_37.out.1.st rtV (ds := (oth).cs) rfl rfl (V4.one _)
                obtain ⟨X38, hN⟩ : ∃ z, X37.setRow z6 (oth).cs = z := ⟨_, rfl⟩
                rw [hN] at st38
                have B38 : Hid (Below W.heap.size W X38) := by rw [← hN]; exact below_setRow B37.out p6_37.out.2 _
                have p6_38 : Hid (RvAt X38 z6 56 (oth).cs ∧ W.heap.size ≤ z6) := ⟨by rw [← hN]; exact p6_37.out.1.set, p6_37.out.2⟩
                have p5_38 : Hid (RvAt X38 z5 56 (own).cs ∧ W.heap.size ≤ z5) := ⟨by rw [← hN]; exact p5_37.out.1.keptBut (grown_row _ _ _) (fun e => by have := NE.out; simp only [Option.some.injEq] at e; omega), p5_37.out.2⟩
                go_simp
                clear hN st38
                clear hHeld
                refine hK.out _ _ ⟨⟨_, B38.out⟩, rfl⟩ (fun hHeld => ?_)
                clear hK K
                try simp only [Act.put, List.setIfInBounds_toArray, List.set_cons_zero, List.set_cons_succ]
                refine wpAnyH_done (by kernel_rfl) ?_ _
                refine NoPanic.normal ?_
                clear hHeld
                go_wp2_with fail
                go_meet
                exact ⟨z5, z6, rfl, rfl, p5_38.out.1, p6_38.out.1, B38.out⟩
            · skip
              obtain ⟨X39, hN⟩ : ∃ z, X29.alloc (.cells #[.int .u64 0, .int .u32 0, .int .u64 0, .int .u16 0] 56) = z := ⟨_, rfl⟩
              obtain ⟨z6, hz⟩ : ∃ z, X29.heap.size = z := ⟨_, rfl⟩
              have bb : Below X29.heap.size X29 X39 := by rw [← hN]; exact (Below.refl _ _).alloc (Nat.le_refl _) _
              have B39 : Hid (Below W.heap.size W X39) := below_over B29.out bb
              have p6_39 : Hid (RvAt X39 z6 56 #[.int .u64 0, .int .u32 0, .int .u64 0, .int .u16 0] ∧ W.heap.size ≤ z6) := ⟨by rw [← hN, ← hz]; exact RvAt.new _ _ _, by rw [← hz]; exact B29.out.size⟩
              have p5_39 : Hid (RvAt X39 z5 56 #[.int .u64 0, .int .u32 0, .int .u64 0, .int .u16 0] ∧ W.heap.size ≤ z5) := ⟨p5_29.out.1.below bb, p5_29.out.2⟩
              have NE : Hid (z5 ≠ z6) := by have := p5_29.out.1.lt; show _ ≠ _; omega
              clear bb
              go_simp
              clear hN hz
              clear hHeld
              refine hK.out _ _ ⟨⟨_, B39.out⟩, rfl⟩ (fun hHeld => ?_)
              clear hK K
              try simp only [Act.put, List.setIfInBounds_toArray, List.set_cons_zero, List.set_cons_succ]
              refine wpAnyH_ready (rs := [6]) (by kernel_rfl) (by simp) ?_
              refine AllReadyH.cons (o := { dst := some 42, op := Op.call { callee := Callee.value (Operand.func 28), args := #[Operand.tmp 36, Operand.tmp 37, Operand.tmp 39, Operand.tmp 41], argTypes := #[22, 30, 3, 3] }, type := 56, pos := "ref.go:133", after := #[{ on := 0, ground := Ground.data }, { on := 1, ground := Ground.data }, { on := 3, ground := Ground.data }, { on := 5, ground := Ground.data }], guard := none }) rfl (fun K hK => ?_) AllReadyH.nil
              go_simp
              refine (CA.out X39 B39.out).mono ?_
              rintro _ X40 ⟨rfl, bb⟩
              have B40 : Hid (Below W.heap.size W X40) := below_over B39.out bb
              have p5_40 : Hid (RvAt X40 z5 56 #[.int .u64 0, .int .u32 0, .int .u64 0, .int .u16 0] ∧ W.heap.size ≤ z5) := ⟨p5_39.out.1.below bb, p5_39.out.2⟩
              have p6_40 : Hid (RvAt X40 z6 56 #[.int .u64 0, .int .u32 0, .int .u64 0, .int .u16 0] ∧ W.heap.size ≤ z6) := ⟨p6_39.out.1.below bb, p6_39.out.2⟩
              clear bb
              clear hHeld
              refine hK.out _ _ ⟨⟨_, B40.out⟩, rfl⟩ (fun hHeld => ?_)
              clear hK K
              try simp only [Act.put, List.setIfInBounds_toArray, List.set_cons_zero, List.set_cons_succ]
              refine wpAnyH_ready (rs := [13]) (by kernel_rfl) (by simp) ?_
              refine AllReadyH.cons (o := { dst := some 49, op := Op.call { callee := Callee.value (Operand.func 28), args := #[Operand.tmp 43, Operand.tmp 44, Operand.tmp 46, Operand.tmp 48], argTypes := #[22, 30, 3, 3] }, type := 56, pos := "ref.go:133", after := #[{ on := 7, ground := Ground.data }, { on := 8, ground := Ground.data }, { on := 10, ground := Ground.data }, { on := 12, ground := Ground.data }, { on := 6, ground := Ground.chain }], guard := none }) rfl (fun K hK => ?_) AllReadyH.nil
              go_simp
              refine (CB.out X40 B40.out).mono ?_
              rintro _ X41 ⟨rfl, bb⟩
              have B41 : Hid (Below W.heap.size W X41) := below_over B40.out bb
              have p5_41 : Hid (RvAt X41 z5 56 #[.int .u64 0, .int .u32 0, .int .u64 0, .int .u16 0] ∧ W.heap.size ≤ z5) := ⟨p5_40.out.1.below bb, p5_40.out.2⟩
              have p6_41 : Hid (RvAt X41 z6 56 #[.int .u64 0, .int .u32 0, .int .u64 0, .int .u16 0] ∧ W.heap.size ≤ z6) := ⟨p6_40.out.1.below bb, p6_40.out.2⟩
              clear bb
              clear hHeld
              refine hK.out _ _ ⟨⟨_, B41.out⟩, rfl⟩ (fun hHeld => ?_)
              clear hK K
              try simp only [Act.put, List.setIfInBounds_toArray, List.set_cons_zero, List.set_cons_succ]
              refine wpAnyH_ready (rs := [16]) (by kernel_rfl) (by simp) ?_
              refine AllReadyH.cons (o := { dst := none, op := Op.store 56 (Operand.tmp 12) (Operand.tmp 42), type := 0, pos := "ref.go:133", after := #[{ on := 14, ground := Ground.data }, { on := 6, ground := Ground.data }, { on := 13, ground := Ground.chain }, { on := 0, ground := Ground.phase }, { on := 1, ground := Ground.phase }, { on := 2, ground := Ground.phase }, { on := 3, ground := Ground.phase }, { on := 4, ground := Ground.phase }, { on := 5, ground := Ground.phase }, { on := 6, ground := Ground.phase }, { on := 7, ground := Ground.textOnly Departure.lateStores }, { on := 8, ground := Ground.textOnly Departure.lateStores }, { on := 9, ground := Ground.textOnly Departure.lateStores }, { on := 10, ground := Ground.textOnly Departure.lateStores }, { on := 11, ground := Ground.textOnly Departure.lateStores }, { on := 12, ground := Ground.textOnly Departure.lateStores }, { on := 13, ground := Ground.textOnly Departure.lateStoresUnsure }, { on := 14, ground := Ground.phase }, { on := 15, ground := Ground.phase }], guard := none }) rfl (fun K hK => ?_) AllReadyH.nil
              have st42 := p5_41.out.1.st rtV (ds := (own).cs) rfl rfl (V4.one _)
              obtain ⟨X42, hN⟩ : ∃ z, X41.setRow z5 (own).cs = z := ⟨_, rfl⟩
              rw [hN] at st42
              have B42 : Hid (Below W.heap.size W X42) := by rw [← hN]; exact below_setRow B41.out p5_41.out.2 _
              have p5_42 : Hid (RvAt X42 z5 56 (own).cs ∧ W.heap.size ≤ z5) := ⟨by rw [← hN]; exact p5_41.out.1.set, p5_41.out.2⟩
              have p6_42 : Hid (RvAt X42 z6 56 #[.int .u64 0, .int .u32 0, .int .u64 0, .int .u16 0] ∧ W.heap.size ≤ z6) := ⟨by rw [← hN]; exact p6_41.out.1.keptBut (grown_row _ _ _) (fun e => by have := NE.out; simp only [Option.some.injEq] at e; omega), p6_41.out.2⟩
              go_simp
              clear hN st42
              clear hHeld
              refine hK.out _ _ ⟨⟨_, B42.out⟩, rfl⟩ (fun hHeld => ?_)
              clear hK K
              try simp only [Act.put, List.setIfInBounds_toArray, List.set_cons_zero, List.set_cons_succ]
              refine wpAnyH_ready (rs := [17]) (by kernel_rfl) (by simp) ?_
              refine AllReadyH.cons (o := { dst := none, op := Op.store 56 (Operand.tmp 13) (Operand.tmp 49), type := 0, pos := "ref.go:133", after := #[{ on := 15, ground := Ground.data }, { on := 13, ground := Ground.data }, { on := 16, ground := Ground.chain }, { on := 0, ground := Ground.phase }, { on := 1, ground := Ground.phase }, { on := 2, ground := Ground.phase }, { on := 3, ground := Ground.phase }, { on := 4, ground := Ground.phase }, { on := 5, ground := Ground.phase }, { on := 6, ground := Ground.phase }, { on := 7, ground := Ground.phase }, { on := 8, ground := Ground.phase }, { on := 9, ground := Ground.phase }, { on := 10, ground := Ground.phase }, { on := 11, ground := Ground.phase }, { on := 12, ground := Ground.phase }, { on := 13, ground := Ground.phase }, { on := 14, ground := Ground.phase }, { on := 15, ground := Ground.phase }, { on := 16, ground := Ground.phase }], guard := none }) rfl (fun K hK => ?_) AllReadyH.nil
              have st43 := p6_42.out.1.st rtV (ds := (oth).cs) rfl rfl (V4.one _)
              obtain ⟨X43, hN⟩ : ∃ z, X42.setRow z6 (oth).cs = z := ⟨_, rfl⟩
              rw [hN] at st43
              have B43 : Hid (Below W.heap.size W X43) := by rw [← hN]; exact below_setRow B42.out p6_42.out.2 _
              have p6_43 : Hid (RvAt X43 z6 56 (oth).cs ∧ W.heap.size ≤ z6) := ⟨by rw [← hN]; exact p6_42.out.1.set, p6_42.out.2⟩
              have p5_43 : Hid (RvAt X43 z5 56 (own).cs ∧ W.heap.size ≤ z5) := ⟨by rw [← hN]; exact p5_42.out.1.keptBut (grown_row _ _ _) (fun e => by have := NE.out; simp only [Option.some.injEq] at e; omega), p5_42.out.2⟩
              go_simp
              clear hN st43
              clear hHeld
              refine hK.out _ _ ⟨⟨_, B43.out⟩, rfl⟩ (fun hHeld => ?_)
              clear hK K
              try simp only [Act.put, List.setIfInBounds_toArray, List.set_cons_zero, List.set_cons_succ]
              refine wpAnyH_done (by kernel_rfl) ?_ _
              refine NoPanic.normal ?_
              clear hHeld
              go_wp2_with fail
              go_meet
              exact ⟨z5, z6, rfl, rfl, p5_43.out.1, p6_43.out.1, B43.out⟩
          · skip
            obtain ⟨X44, hN⟩ : ∃ z, X0.alloc (.cells #[.int .u64 0, .int .u32 0, .int .u64 0, .int .u16 0] 56) = z := ⟨_, rfl⟩
            obtain ⟨z6, hz⟩ : ∃ z, X0.heap.size = z := ⟨_, rfl⟩
            have bb : Below X0.heap.size X0 X44 := by rw [← hN]; exact (Below.refl _ _).alloc (Nat.le_refl _) _
            have B44 : Hid (Below W.heap.size W X44) := below_over B0.out bb
            have p6_44 : Hid (RvAt X44 z6 56 #[.int .u64 0, .int .u32 0, .int .u64 0, .int .u16 0] ∧ W.heap.size ≤ z6) := ⟨by rw [← hN, ← hz]; exact RvAt.new _ _ _, by rw [← hz]; exact B0.out.size⟩
            clear bb
            go_simp
            clear hN hz
            clear hHeld
            refine hK.out _ _ ⟨⟨_, B44.out⟩, rfl⟩ (fun hHeld => ?_)
            clear hK K
            try simp only [Act.put, List.setIfInBounds_toArray, List.set_cons_zero, List.set_cons_succ]
            refine wpAnyH_ready (rs := [6, 14]) (by kernel_rfl) (by simp) ?_
            refine (AllReadyH.cons (o := { dst := some 42, op := Op.call { callee := Callee.value (Operand.func 28), args := #[Operand.tmp 36, Operand.tmp 37, Operand.tmp 39, Operand.tmp 41], argTypes := #[22, 30, 3, 3] }, type := 56, pos := "ref.go:133", after := #[{ on := 0, ground := Ground.data }, { on := 1, ground := Ground.data }, { on := 3, ground := Ground.data }, { on := 5, ground := Ground.data }], guard := none }) rfl (fun K hK => ?_) (AllReadyH.cons (o := { dst := some 12, op := Op.alloc 56, type := 0, pos := "ref.go:133", after := #[], guard := none }) rfl (fun K hK => ?_) AllReadyH.nil))
            · skip
              go_simp
              refine (CA.out X44 B44.out).mono ?_
              rintro _ X45 ⟨rfl, bb⟩
              have B45 : Hid (Below W.heap.size W X45) := below_over B44.out bb
              have p6_45 : Hid (RvAt X45 z6 56 #[.int .u64 0, .int .u32 0, .int .u64 0, .int .u16 0] ∧ W.heap.size ≤ z6) := ⟨p6_44.out.1.below bb, p6_44.out.2⟩
              clear bb
              clear hHeld
              refine hK.out _ _ ⟨⟨_, B45.out⟩, rfl⟩ (fun hHeld => ?_)
              clear hK K
              try simp only [Act.put, List.setIfInBounds_toArray, List.set_cons_zero, List.set_cons_succ]
              refine wpAnyH_ready (rs := [13, 14]) (by kernel_rfl) (by simp) ?_
              refine (AllReadyH.cons (o := { dst := some 49, op := Op.call { callee := Callee.value (Operand.func 28), args := #[Operand.tmp 43, Operand.tmp 44, Operand.tmp 46, Operand.tmp 48], argTypes := #[22, 30, 3, 3] }, type := 56, pos := "ref.go:133", after := #[{ on := 7, ground := Ground.data }, { on := 8, ground := Ground.data }, { on := 10, ground := Ground.data }, { on := 12, ground := Ground.data }, { on := 6, ground := Ground.chain }], guard := none }) rfl (fun K hK => ?_) (AllReadyH.cons (o := { dst := some 12, op := Op.alloc 56, type := 0, pos := "ref.go:133", after := #[], guard := none }) rfl (fun K hK => ?_) AllReadyH.nil))
              · skip
                go_simp
                refine (CB.out X45 B45.out).mono ?_
                rintro _ X46 ⟨rfl, bb⟩
                have B46 : Hid (Below W.heap.size W X46) := below_over B45.out bb
                have p6_46 : Hid (RvAt X46 z6 56 #[.int .u64 0, .int .u32 0, .int .u64 0, .int .u16 0] ∧ W.heap.size ≤ z6) := ⟨p6_45.out.1.below bb, p6_45.out.2⟩
                clear bb
                clear hHeld
                refine hK.out _ _ ⟨⟨_, B46.out⟩, rfl⟩ (fun hHeld => ?_)
                clear hK K
                try simp only [Act.put, List.setIfInBounds_toArray, List.set_cons_zero, List.set_cons_succ]
                refine wpAnyH_ready (rs := [14]) (by kernel_rfl) (by simp) ?_
                refine AllReadyH.cons (o := { dst := some 12, op := Op.alloc 56, type := 0, pos := "ref.go:133", after := #[], guard := none }) rfl (fun K hK => ?_) AllReadyH.nil
                obtain ⟨X47, hN⟩ : ∃ z, X46.alloc (.cells #[.int .u64 0, .int .u32 0, .int .u64 0, .int .u16 0] 56) = z := ⟨_, rfl⟩
                obtain ⟨z5, hz⟩ : ∃ z, X46.heap.size = z := ⟨_, rfl⟩
                have bb : Below X46.heap.size X46 X47 := by rw [← hN]; exact (Below.refl _ _).alloc (Nat.le_refl _) _
                have B47 : Hid (Below W.heap.size W X47) := below_over B46.out bb
                have p5_47 : Hid (RvAt X47 z5 56 #[.int .u64 0, .int .u32 0, .int .u64 0, .int .u16 0] ∧ W.heap.size ≤ z5) := ⟨by rw [← hN, ← hz]; exact RvAt.new _ _ _, by rw [← hz]; exact B46.out.size⟩
                have p6_47 : Hid (RvAt X47 z6 56 #[.int .u64 0, .int .u32 0, .int .u64 0, .int .u16 0] ∧ W.heap.size ≤ z6) := ⟨p6_46.out.1.below bb, p6_46.out.2⟩
                have NE : Hid (z6 ≠ z5) := by have := p6_46.out.1.lt; show _ ≠ _; omega
                clear bb
                go_simp
                clear hN hz
                clear hHeld
                refine hK.out _ _ ⟨⟨_, B47.out⟩, rfl⟩ (fun hHeld => ?_)
                clear hK K
                try simp only [Act.put, List.setIfInBounds_toArray, List.set_cons_zero, List.set_cons_succ]
                refine wpAnyH_ready (rs := [16]) (by kernel_rfl) (by simp) ?_
                refine AllReadyH.cons (o := { dst := none, op := Op.store 56 (Operand.tmp 12) (Operand.tmp 42), type := 0, pos := "ref.go:133", after := #[{ on := 14, ground := Ground.data }, { on := 6, ground := Ground.data }, { on := 13, ground := Ground.chain }, { on := 0, ground := Ground.phase }, { on := 1, ground := Ground.phase }, { on := 2, ground := Ground.phase }, { on := 3, ground := Ground.phase }, { on := 4, ground := Ground.phase }, { on := 5, ground := Ground.phase }, { on := 6, ground := Ground.phase }, { on := 7, ground := Ground.textOnly Departure.lateStores }, { on := 8, ground := Ground.textOnly Departure.lateStores }, { on := 9, ground := Ground.textOnly Departure.lateStores }, { on := 10, ground := Ground.textOnly Departure.lateStores }, { on := 11, ground := Ground.textOnly Departure.lateStores }, { on := 12, ground := Ground.textOnly Departure.lateStores }, { on := 13, ground := Ground.textOnly Departure.lateStoresUnsure }, { on := 14, ground := Ground.phase }, { on := 15, ground := Ground.phase }], guard := none }) rfl (fun K hK => ?_) AllReadyH.nil
                have st48 := p5_47.out.1.st rtV (ds := (own).cs) rfl rfl (V4.one _)
                obtain ⟨X48, hN⟩ : ∃ z, X47.setRow z5 (own).cs = z := ⟨_, rfl⟩
                rw [hN] at st48
                have B48 : Hid (Below W.heap.size W X48) := by rw [← hN]; exact below_setRow B47.out p5_47.out.2 _
                have p5_48 : Hid (RvAt X48 z5 56 (own).cs ∧ W.heap.size ≤ z5) := ⟨by rw [← hN]; exact p5_47.out.1.set, p5_47.out.2⟩
                have p6_48 : Hid (RvAt X48 z6 56 #[.int .u64 0, .int .u32 0, .int .u64 0, .int .u16 0] ∧ W.heap.size ≤ z6) := ⟨by rw [← hN]; exact p6_47.out.1.keptBut (grown_row _ _ _) (fun e => by have := NE.out; simp only [Option.some.injEq] at e; omega), p6_47.out.2⟩
                go_simp
                clear hN st48
                clear hHeld
                refine hK.out _ _ ⟨⟨_, B48.out⟩, rfl⟩ (fun hHeld => ?_)
                clear hK K
                try simp only [Act.put, List.setIfInBounds_toArray, List.set_cons_zero, List.set_cons_succ]
                refine wpAnyH_ready (rs := [17]) (by kernel_rfl) (by simp) ?_
                refine AllReadyH.cons (o := { dst := none, op := Op.store 56 (Operand.tmp 13) (Operand.tmp 49), type := 0, pos := "ref.go:133", after := #[{ on := 15, ground := Ground.data }, { on := 13, ground := Ground.data }, { on := 16, ground := Ground.chain }, { on := 0, ground := Ground.phase }, { on := 1, ground := Ground.phase }, { on := 2, ground := Ground.phase }, { on := 3, ground := Ground.phase }, { on := 4, ground := Ground.phase }, { on := 5, ground := Ground.phase }, { on := 6, ground := Ground.phase }, { on := 7, ground := Ground.phase }, { on := 8, ground := Ground.phase }, { on := 9, ground := Ground.phase }, { on := 10, ground := Ground.phase }, { on := 11, ground := Ground.phase }, { on := 12, ground := Ground.phase }, { on := 13, ground := Ground.phase }, { on := 14, ground := Ground.phase }, { on := 15, ground := Ground.phase }, { on := 16, ground := Ground.phase }], guard := none }) rfl (fun K hK => ?_) AllReadyH.nil
                have st49 := p6_48.out.1.st rtV (ds := (oth).cs) rfl rfl (V4.one _)
                obtain ⟨X49, hN⟩ : ∃ z, X48.setRow z6 (oth).cs = z := ⟨_, rfl⟩
                rw [hN] at st49
                have B49 : Hid (Below W.heap.size W X49) := by rw [← hN]; exact below_setRow B48.out p6_48.out.2 _
                have p6_49 : Hid (RvAt X49 z6 56 (oth).cs ∧ W.heap.size ≤ z6) := ⟨by rw [← hN]; exact p6_48.out.1.set, p6_48.out.2⟩
                have p5_49 : Hid (RvAt X49 z5 56 (own).cs ∧ W.heap.size ≤ z5) := ⟨by rw [← hN]; exact p5_48.out.1.keptBut (grown_row _ _ _) (fun e => by have := NE.out; simp only [Option.some.injEq] at e; omega), p5_48.out.2⟩
                go_simp
                clear hN st49
                clear hHeld
                refine hK.out _ _ ⟨⟨_, B49.out⟩, rfl⟩ (fun hHeld => ?_)
                clear hK K
                try simp only [Act.put, List.setIfInBounds_toArray, List.set_cons_zero, List.set_cons_succ]
                refine wpAnyH_done (by kernel_rfl) ?_ _
                refine NoPanic.normal ?_
                clear hHeld
                go_wp2_with fail
                go_meet
                exact ⟨z5, z6, rfl, rfl, p5_49.out.1, p6_49.out.1, B49.out⟩
              · skip
                obtain ⟨X50, hN⟩ : ∃ z, X45.alloc (.cells #[.int .u64 0, .int .u32 0, .int .u64 0, .int .u16 0] 56) = z := ⟨_, rfl⟩
                obtain ⟨z5, hz⟩ : ∃ z, X45.heap.size = z := ⟨_, rfl⟩
                have bb : Below X45.heap.size X45 X50 := by rw [← hN]; exact (Below.refl _ _).alloc (Nat.le_refl _) _
                have B50 : Hid (Below W.heap.size W X50) := below_over B45.out bb
                have p5_50 : Hid (RvAt X50 z5 56 #[.int .u64 0, .int .u32 0, .int .u64 0, .int .u16 0] ∧ W.heap.size ≤ z5) := ⟨by rw [← hN, ← hz]; exact RvAt.new _ _ _, by rw [← hz]; exact B45.out.size⟩
                have p6_50 : Hid (RvAt X50 z6 56 #[.int .u64 0, .int .u32 0, .int .u64 0, .int .u16 0] ∧ W.heap.size ≤ z6) := ⟨p6_45.out.1.below bb, p6_45.out.2⟩
                have NE : Hid (z6 ≠ z5) := by have := p6_45.out.1.lt; show _ ≠ _; omega
                clear bb
                go_simp
                clear hN hz
                clear hHeld
                refine hK.out _ _ ⟨⟨_, B50.out⟩, rfl⟩ (fun hHeld => ?_)
                clear hK K
                try simp only [Act.put, List.setIfInBounds_toArray, List.set_cons_zero, List.set_cons_succ]
                refine wpAnyH_ready (rs := [13]) (by kernel_rfl) (by simp) ?_
                refine AllReadyH.cons (o := { dst := some 49, op := Op.call { callee := Callee.value (Operand.func 28), args := #[Operand.tmp 43, Operand.tmp 44, Operand.tmp 46, Operand.tmp 48], argTypes := #[22, 30, 3, 3] }, type := 56, pos := "ref.go:133", after := #[{ on := 7, ground := Ground.data }, { on := 8, ground := Ground.data }, { on := 10, ground := Ground.data }, { on := 12, ground := Ground.data }, { on := 6, ground := Ground.chain }], guard := none }) rfl (fun K hK => ?_) AllReadyH.nil
                go_simp
                refine (CB.out X50 B50.out).mono ?_
                rintro _ X51 ⟨rfl, bb⟩
                have B51 : Hid (Below W.heap.size W X51) := below_over B50.out bb
                have p5_51 : Hid (RvAt X51 z5 56 #[.int .u64 0, .int .u32 0, .int .u64 0, .int .u16 0] ∧ W.heap.size ≤ z5) := ⟨p5_50.out.1.below bb, p5_50.out.2⟩
                have p6_51 : Hid (RvAt X51 z6 56 #[.int .u64 0, .int .u32 0, .int .u64 0, .int .u16 0] ∧ W.heap.size ≤ z6) := ⟨p6_50.out.1.below bb, p6_50.out.2⟩
                clear bb
                clear hHeld
                refine hK.out _ _ ⟨⟨_, B51.out⟩, rfl⟩ (fun hHeld => ?_)
                clear hK K
                try simp only [Act.put, List.setIfInBounds_toArray, List.set_cons_zero, List.set_cons_succ]
                refine wpAnyH_ready (rs := [16]) (by kernel_rfl) (by simp) ?_
                refine AllReadyH.cons (o := { dst := none, op := Op.store 56 (Operand.tmp 12) (Operand.tmp 42), type := 0, pos := "ref.go:133", after := #[{ on := 14, ground := Ground.data }, { on := 6, ground := Ground.data }, { on := 13, ground := Ground.chain }, { on := 0, ground := Ground.phase }, { on := 1, ground := Ground.phase }, { on := 2, ground := Ground.phase }, { on := 3, ground := Ground.phase }, { on := 4, ground := Ground.phase }, { on := 5, ground := Ground.phase }, { on := 6, ground := Ground.phase }, { on := 7, ground := Ground.textOnly Departure.lateStores }, { on := 8, ground := Ground.textOnly Departure.lateStores }, { on := 9, ground := Ground.textOnly Departure.lateStores }, { on := 10, ground := Ground.textOnly Departure.lateStores }, { on := 11, ground := Ground.textOnly Departure.lateStores }, { on := 12, ground := Ground.textOnly Departure.lateStores }, { on := 13, ground := Ground.textOnly Departure.lateStoresUnsure }, { on := 14, ground := Ground.phase }, { on := 15, ground := Ground.phase }], guard := none }) rfl (fun K hK => ?_) AllReadyH.nil
                have st52 := p5_51.out.1.st rtV (ds := (own).cs) rfl rfl (V4.one _)
                obtain ⟨X52, hN⟩ : ∃ z, X51.setRow z5 (own).cs = z := ⟨_, rfl⟩
                rw [hN] at st52
                have B52 : Hid (Below W.heap.size W X52) := by rw [← hN]; exact below_setRow B51.out p5_51.out.2 _
                have p5_52 : Hid (RvAt X52 z5 56 (own).cs ∧ W.heap.size ≤ z5) := ⟨by rw [← hN]; exact p5_51.out.1.set, p5_51.out.2⟩
                have p6_52 : Hid (RvAt X52 z6 56 #[.int .u64 0, .int .u32 0, .int .u64 0, .int .u16 0] ∧ W.heap.size ≤ z6) := ⟨by rw [← hN]; exact p6_51.out.1.keptBut (grown_row _ _ _) (fun e => by have := NE.out; simp only [Option.some.injEq] at e; omega), p6_51.out.2⟩
                go_simp
                clear hN st52
                clear hHeld
                refine hK.out _ _ ⟨⟨_, B52.out⟩, rfl⟩ (fun hHeld => ?_)
                clear hK K
                try simp only [Act.put, List.setIfInBounds_toArray, List.set_cons_zero, List.set_cons_succ]
                refine wpAnyH_ready (rs := [17]) (by kernel_rfl) (by simp) ?_
                refine AllReadyH.cons (o := { dst := none, op := Op.store 56 (Operand.tmp 13) (Operand.tmp 49), type := 0, pos := "ref.go:133", after := #[{ on := 15, ground := Ground.data }, { on := 13, ground := Ground.data }, { on := 16, ground := Ground.chain }, { on := 0, ground := Ground.phase }, { on := 1, ground := Ground.phase }, { on := 2, ground := Ground.phase }, { on := 3, ground := Ground.phase }, { on := 4, ground := Ground.phase }, { on := 5, ground := Ground.phase }, { on := 6, ground := Ground.phase }, { on := 7, ground := Ground.phase }, { on := 8, ground := Ground.phase }, { on := 9, ground := Ground.phase }, { on := 10, ground := Ground.phase }, { on := 11, ground := Ground.phase }, { on := 12, ground := Ground.phase }, { on := 13, ground := Ground.phase }, { on := 14, ground := Ground.phase }, { on := 15, ground := Ground.phase }, { on := 16, ground := Ground.phase }], guard := none }) rfl (fun K hK => ?_) AllReadyH.nil
                have st53 := p6_52.out.1.st rtV (ds := (oth).cs) rfl rfl (V4.one _)
                obtain ⟨X53, hN⟩ : ∃ z, X52.setRow z6 (oth).cs = z := ⟨_, rfl⟩
                rw [hN] at st53
                have B53 : Hid (Below W.heap.size W X53) := by rw [← hN]; exact below_setRow B52.out p6_52.out.2 _
                have p6_53 : Hid (RvAt X53 z6 56 (oth).cs ∧ W.heap.size ≤ z6) := ⟨by rw [← hN]; exact p6_52.out.1.set, p6_52.out.2⟩
                have p5_53 : Hid (RvAt X53 z5 56 (own).cs ∧ W.heap.size ≤ z5) := ⟨by rw [← hN]; exact p5_52.out.1.keptBut (grown_row _ _ _) (fun e => by have := NE.out; simp only [Option.some.injEq] at e; omega), p5_52.out.2⟩
                go_simp
                clear hN st53
                clear hHeld
                refine hK.out _ _ ⟨⟨_, B53.out⟩, rfl⟩ (fun hHeld => ?_)
                clear hK K
                try simp only [Act.put, List.setIfInBounds_toArray, List.set_cons_zero, List.set_cons_succ]
                refine wpAnyH_done (by kernel_rfl) ?_ _
                refine NoPanic.normal ?_
                clear hHeld
                go_wp2_with fail
                go_meet
                exact ⟨z5, z6, rfl, rfl, p5_53.out.1, p6_53.out.1, B53.out⟩
            · skip
              obtain ⟨X54, hN⟩ : ∃ z, X44.alloc (.cells #[.int .u64 0, .int .u32 0, .int .u64 0, .int .u16 0] 56) = z := ⟨_, rfl⟩
              obtain ⟨z5, hz⟩ : ∃ z, X44.heap.size = z := ⟨_, rfl⟩
              have bb : Below X44.heap.size X44 X54 := by rw [← hN]; exact (Below.refl _ _).alloc (Nat.le_refl _) _
              have B54 : Hid (Below W.heap.size W X54) := below_over B44.out bb
              have p5_54 : Hid (RvAt X54 z5 56 #[.int .u64 0, .int .u32 0, .int .u64 0, .int .u16 0] ∧ W.heap.size ≤ z5) := ⟨by rw [← hN, ← hz]; exact RvAt.new _ _ _, by rw [← hz]; exact B44.out.size⟩
              have p6_54 : Hid (RvAt X54 z6 56 #[.int .u64 0, .int .u32 0, .int .u64 0, .int .u16 0] ∧ W.heap.size ≤ z6) := ⟨p6_44.out.1.below bb, p6_44.out.2⟩
              have NE : Hid (z6 ≠ z5) := by have := p6_44.out.1.lt; show _ ≠ _; omega
              clear bb
              go_simp
              clear hN hz
              clear hHeld
              refine hK.out _ _ ⟨⟨_, B54.out⟩, rfl⟩ (fun hHeld => ?_)
              clear hK K
              try simp only [Act.put, List.setIfInBounds_toArray, List.set_cons_zero, List.set_cons_succ]
              refine wpAnyH_ready (rs := [6]) (by kernel_rfl) (by simp) ?_
              refine AllReadyH.cons (o := { dst := some 42, op := Op.call { callee := Callee.value (Operand.func 28), args := #[Operand.tmp 36, Operand.tmp 37, Operand.tmp 39, Operand.tmp 41], argTypes := #[22, 30, 3, 3] }, type := 56, pos := "ref.go:133", after := #[{ on := 0, ground := Ground.data }, { on := 1, ground := Ground.data }, { on := 3, ground := Ground.data }, { on := 5, ground := Ground.data }], guard := none }) rfl (fun K hK => ?_) AllReadyH.nil
              go_simp
              refine (CA.out X54 B54.out).mono ?_
              rintro _ X55 ⟨rfl, bb⟩
              have B55 : Hid (Below W.heap.size W X55) := below_over B54.out bb
              have p5_55 : Hid (RvAt X55 z5 56 #[.int .u64 0, .int .u32 0, .int .u64 0, .int .u16 0] ∧ W.heap.size ≤ z5) := ⟨p5_54.out.1.below bb, p5_54.out.2⟩
              have p6_55 : Hid (RvAt X55 z6 56 #[.int .u64 0, .int .u32 0, .int .u64 0, .int .u16 0] ∧ W.heap.size ≤ z6) := ⟨p6_54.out.1.below bb, p6_54.out.2⟩
              clear bb
              clear hHeld
              refine hK.out _ _ ⟨⟨_, B55.out⟩, rfl⟩ (fun hHeld => ?_)
              clear hK K
              try simp only [Act.put, List.setIfInBounds_toArray, List.set_cons_zero, List.set_cons_succ]
              refine wpAnyH_ready (rs := [13]) (by kernel_rfl) (by simp) ?_
              refine AllReadyH.cons (o := { dst := some 49, op := Op.call { callee := Callee.value (Operand.func 28), args := #[Operand.tmp 43, Operand.tmp 44, Operand.tmp 46, Operand.tmp 48], argTypes := #[22, 30, 3, 3] }, type := 56, pos := "ref.go:133", after := #[{ on := 7, ground := Ground.data }, { on := 8, ground := Ground.data }, { on := 10, ground := Ground.data }, { on := 12, ground := Ground.data }, { on := 6, ground := Ground.chain }], guard := none }) rfl (fun K hK => ?_) AllReadyH.nil
              go_simp
              refine (CB.out X55 B55.out).mono ?_
              rintro _ X56 ⟨rfl, bb⟩
              have B56 : Hid (Below W.heap.size W X56) := below_over B55.out bb
              have p5_56 : Hid (RvAt X56 z5 56 #[.int .u64 0, .int .u32 0, .int .u64 0, .int .u16 0] ∧ W.heap.size ≤ z5) := ⟨p5_55.out.1.below bb, p5_55.out.2⟩
              have p6_56 : Hid (RvAt X56 z6 56 #[.int .u64 0, .int .u32 0, .int .u64 0, .int .u16 0] ∧ W.heap.size ≤ z6) := ⟨p6_55.out.1.below bb, p6_55.out.2⟩
              clear bb
              clear hHeld
              refine hK.out _ _ ⟨⟨_, B56.out⟩, rfl⟩ (fun hHeld => ?_)
              clear hK K
              try simp only [Act.put, List.setIfInBounds_toArray, List.set_cons_zero, List.set_cons_succ]
              refine wpAnyH_ready (rs := [16]) (by kernel_rfl) (by simp) ?_
              refine AllReadyH.cons (o := { dst := none, op := Op.store 56 (Operand.tmp 12) (Operand.tmp 42), type := 0, pos := "ref.go:133", after := #[{ on := 14, ground := Ground.data }, { on := 6, ground := Ground.data }, { on := 13, ground := Ground.chain }, { on := 0, ground := Ground.phase }, { on := 1, ground := Ground.phase }, { on := 2, ground := Ground.phase }, { on := 3, ground := Ground.phase }, { on := 4, ground := Ground.phase }, { on := 5, ground := Ground.phase }, { on := 6, ground := Ground.phase }, { on := 7, ground := Ground.textOnly Departure.lateStores }, { on := 8, ground := Ground.textOnly Departure.lateStores }, { on := 9, ground := Ground.textOnly Departure.lateStores }, { on := 10, ground := Ground.textOnly Departure.lateStores }, { on := 11, ground := Ground.textOnly Departure.lateStores }, { on := 12, ground := Ground.textOnly Departure.lateStores }, { on := 13, ground := Ground.textOnly Departure.lateStoresUnsure }, { on := 14, ground := Ground.phase }, { on := 15, ground := Ground.phase }], guard := none }) rfl (fun K hK => ?_) AllReadyH.nil
              have st57 := p5_56.out.1.st rtV (ds := (own).cs) rfl rfl (V4.one _)
              obtain ⟨X57, hN⟩ : ∃ z, X56.setRow z5 (own).cs = z := ⟨_, rfl⟩
              rw [hN] at st57
              have B57 : Hid (Below W.heap.size W X57) := by rw [← hN]; exact below_setRow B56.out p5_56.out.2 _
              have p5_57 : Hid (RvAt X57 z5 56 (own).cs ∧ W.heap.size ≤ z5) := ⟨by rw [← hN]; exact p5_56.out.1.set, p5_56.out.2⟩
              have p6_57 : Hid (RvAt X57 z6 56 #[.int .u64 0, .int .u32 0, .int .u64 0, .int .u16 0] ∧ W.heap.size ≤ z6) := ⟨by rw [← hN]; exact p6_56.out.1.keptBut (grown_row _ _ _) (fun e => by have := NE.out; simp only [Option.some.injEq] at e; omega), p6_56.out.2⟩
              go_simp
              clear hN st57
              clear hHeld
              refine hK.out _ _ ⟨⟨_, B57.out⟩, rfl⟩ (fun hHeld => ?_)
              clear hK K
              try simp only [Act.put, List.setIfInBounds_toArray, List.set_cons_zero, List.set_cons_succ]
              refine wpAnyH_ready (rs := [17]) (by kernel_rfl) (by simp) ?_
              refine AllReadyH.cons (o := { dst := none, op := Op.store 56 (Operand.tmp 13) (Operand.tmp 49), type := 0, pos := "ref.go:133", after := #[{ on := 15, ground := Ground.data }, { on := 13, ground := Ground.data }, { on := 16, ground := Ground.chain }, { on := 0, ground := Ground.phase }, { on := 1, ground := Ground.phase }, { on := 2, ground := Ground.phase }, { on := 3, ground := Ground.phase }, { on := 4, ground := Ground.phase }, { on := 5, ground := Ground.phase }, { on := 6, ground := Ground.phase }, { on := 7, ground := Ground.phase }, { on := 8, ground := Ground.phase }, { on := 9, ground := Ground.phase }, { on := 10, ground := Ground.phase }, { on := 11, ground := Ground.phase }, { on := 12, ground := Ground.phase }, { on := 13, ground := Ground.phase }, { on := 14, ground := Ground.phase }, { on := 15, ground := Ground.phase }, { on := 16, ground := Ground.phase }], guard := none }) rfl (fun K hK => ?_) AllReadyH.nil
              have st58 := p6_57.out.1.st rtV (ds := (oth).cs) rfl rfl (V4.one _)
              obtain ⟨X58, hN⟩ : ∃ z, X57.setRow z6 (oth).cs = z := ⟨_, rfl⟩
              rw [hN] at st58
              have B58 : Hid (Below W.heap.size W X58) := by rw [← hN]; exact below_setRow B57.out p6_57.out.2 _
              have p6_58 : Hid (RvAt X58 z6 56 (oth).cs ∧ W.heap.size ≤ z6) := ⟨by rw [← hN]; exact p6_57.out.1.set, p6_57.out.2⟩
              have p5_58 : Hid (RvAt X58 z5 56 (own).cs ∧ W.heap.size ≤ z5) := ⟨by rw [← hN]; exact p5_57.out.1.keptBut (grown_row _ _ _) (fun e => by have := NE.out; simp only [Option.some.injEq] at e; omega), p5_57.out.2⟩
              go_simp
              clear hN st58
              clear hHeld
              refine hK.out _ _ ⟨⟨_, B58.out⟩, rfl⟩ (fun hHeld => ?_)
              clear hK K
              try simp only [Act.put, List.setIfInBounds_toArray, List.set_cons_zero, List.set_cons_succ]
              refine wpAnyH_done (by kernel_rfl) ?_ _
              refine NoPanic.normal ?_
              clear hHeld
              go_wp2_with fail
              go_meet
              exact ⟨z5, z6, rfl, rfl, p5_58.out.1, p6_58.out.1, B58.out⟩
        case rest =>
          obtain ⟨z5, z6, rfl, rfl, q5, q6, bX⟩ := hcut
          have m0 := (D.out.2.2.1.below bX).cell 0 (.int .i64 (s.a : Int)) rfl
          have m1 := (D.out.2.2.1.below bX).cell 1 (.int .i64 (s.pa : Int)) rfl
          have l6 := q6.ld rtV rfl
          have bd := bdY_is ⟨s.a, s.pa, 1, oth⟩ wc
          obtain ⟨U, sU, rU, bU⟩ := YvAt.put wc ⟨s.a, s.pa, 1, oth⟩
          have KK : Hid (Below W.heap.size W U ∧ RvAt U z5 56 own.cs ∧ RvAt U z6 56 oth.cs ∧ RvAt U wc.heap.size 87 (En.mk s.a s.pa 1 oth).cs ∧ z5 < wc.heap.size ∧ W.heap.size ≤ wc.heap.size) := ⟨below_over bX bU, q5.below bU, q6.below bU, rU, q5.lt, bX.size⟩
          have k5 := KK.out.2.1.ld rtV rfl
          have k6 := KK.out.2.2.1.ld rtV rfl
          obtain ⟨z7, h7⟩ : ∃ z, wc.heap.size = z := ⟨_, rfl⟩
          rw [h7] at KK sU
          clear q5 q6 bX rU bU CA CB
          go_wp2_with fail
          clear h7 bd sU m0 m1 l6
          refine (CT.out _).mono ?_
          rintro _ V1 ⟨rfl, b1⟩
          have K1 : Hid (Below W.heap.size W V1 ∧ RvAt V1 z5 56 own.cs ∧ RvAt V1 z7 87 (En.mk s.a s.pa 1 oth).cs ∧ z5 < z7 ∧ W.heap.size ≤ z7) := ⟨below_over KK.out.1 b1, KK.out.2.1.below b1, KK.out.2.2.2.1.below b1, KK.out.2.2.2.2.1, KK.out.2.2.2.2.2⟩
          clear b1 KK k5 k6
          cases hq : decide (vk own < vk oth)
          · have hq' : ¬ vk own < vk oth := of_decide_eq_false hq
            have x1 := fun q : Later V1 => (D.out.2.2.1.below (below_later K1.out.1 q)).cell 0 (.int .i64 (s.a : Int)) rfl
            have x2 := fun q : Later V1 => (D.out.2.2.1.below (below_later K1.out.1 q)).cell 1 (.int .i64 (s.pa : Int)) rfl
            have x3 := fun q : Later V1 => (D.out.2.2.2.below (below_later K1.out.1 q)).n2 T.out.2.2.1
            obtain ⟨rp, hrp⟩ : ∃ z, rpOf ids L s.a = z := ⟨_, rfl⟩
            rw [hrp] at x3 HE
            cases hr : (rp == (s.pa : Int))
            · have HE2 : Hid (E = ⟨s.a, s.pa, 1, oth⟩) := by
                have := HE.out
                rw [if_neg (by simpa using hr), if_neg hq', if_neg hq'] at this
                exact this
              clear HE
              go_wp2_with fail
              refine wp_region_later (by kernel_rfl) (by kernel_rfl) ?_
              repeat (go_big_quiet_step (first | exact rfl))
              refine wpQuiet_nil ?_
              intro _ hw'
              obtain ⟨q, rfl⟩ := hw'
              clear x1 x2 x3
              obtain ⟨Q, hQ⟩ : ∃ Q, q.val = Q := ⟨_, rfl⟩
              have rX : RvAt Q z7 87 (En.mk s.a s.pa 1 oth).cs := by rw [← hQ]; exact K1.out.2.2.1.below q.below
              have bQ : Below V.heap.size V Q := by rw [← hQ]; exact below_over D.out.2.1 (below_later K1.out.1 q)
              have oQ : Own eY Q V.heap.size u9 (endsTo ids L t) := by rw [← hQ]; exact D.out.1.below (below_later K1.out.1 q)
              rw [hQ]
              rw [← HE2.out] at rX
              have lX := rX.ld rtY rfl
              have bs := bsY_is E Q
              obtain ⟨v', Y, ap, o5, b5⟩ := nY oQ bQ.size hle.out E
              have Z : Hid (Own eY Y V.heap.size v' (endsTo ids L (t + 1)) ∧ Below V.heap.size V Y) := ⟨by rw [HN.out]; exact o5, bQ.trans b5⟩
              clear rX hQ o5 b5 bQ oQ
              go_wp2
              go_roundw
              case rel => exact ⟨t + 1, by omega, by go_num, Z.out.1, Z.out.2⟩
              case measure => simp [intOf]; omega
            · have HE2 : Hid (E = ⟨s.a, s.pa, 3, oth⟩) := by
                have := HE.out
                rw [if_pos (by simpa using hr), if_neg hq'] at this
                exact this
              clear HE
              go_wp2_with fail
              refine wp_region_later (by kernel_rfl) (by kernel_rfl) ?_
              repeat (go_big_quiet_step (first | exact rfl))
              refine wpQuiet_nil ?_
              intro _ hw'
              obtain ⟨q, rfl⟩ := hw'
              clear x1 x2 x3
              obtain ⟨Q, sQ, rX, gU⟩ := XvAt.setO (K1.out.2.2.1.below q.below) 3
              rw [show En.mk (En.mk (s.a : Int) (s.pa : Int) 1 oth).b (En.mk (s.a : Int) (s.pa : Int) 1 oth).p 3 (En.mk (s.a : Int) (s.pa : Int) 1 oth).v = E from HE2.out.symm] at rX
              have bQ : Below V.heap.size V Q := gro (below_over D.out.2.1 (below_later K1.out.1 q)) gU (by have := K1.out.2.2.2.2; have := D.out.2.1.size; omega) (by have := (below_over D.out.2.1 (below_later K1.out.1 q)).size; omega)
              have oQ : Own eY Q V.heap.size u9 (endsTo ids L t) := by
                refine (D.out.1.below (below_later K1.out.1 q)).keptBut gU ?_
                cases hb : u9.ownBlock with
                | none => exact .inl rfl
                | some k =>
                  refine .inr fun e => ?_
                  have h1 := (D.out.1.blk k hb).2
                  have h2 := K1.out.2.2.2.2
                  simp only [Option.some.injEq] at e
                  omega
              have lX := rX.ld rtY rfl
              have bs := bsY_is E Q
              obtain ⟨v', Y, ap, o5, b5⟩ := nY oQ bQ.size hle.out E
              have Z : Hid (Own eY Y V.heap.size v' (endsTo ids L (t + 1)) ∧ Below V.heap.size V Y) := ⟨by rw [HN.out]; exact o5, bQ.trans b5⟩
              clear rX gU o5 b5 bQ oQ
              go_wp2
              go_roundw
              case rel => exact ⟨t + 1, by omega, by go_num, Z.out.1, Z.out.2⟩
              case measure => simp [intOf]; omega
          · have hq' : vk own < vk oth := of_decide_eq_true hq
            obtain ⟨X1, t1, xR1, xG1⟩ := XvAt.setO K1.out.2.2.1 4
            have p1 := K1.out.2.1.keptBut xG1 (fun e => by have := K1.out.2.2.2.1; simp only [Option.some.injEq] at e; omega)
            have lo := p1.ld rtV rfl
            obtain ⟨X2, t2, xR2, xG2⟩ := XvAt.putV xR1 own
            have K2 : Hid (Below W.heap.size W X2 ∧ RvAt X2 z7 87 (En.mk s.a s.pa 4 own).cs) := by
              have hz := K1.out.2.2.2.2
              have k1 := gro K1.out.1 xG1 hz K1.out.1.size
              exact ⟨gro k1 xG2 hz k1.size, xR2⟩
            clear xR1 xG1 xR2 xG2 p1
            have x1 := fun q : Later X2 => (D.out.2.2.1.below (below_later K2.out.1 q)).cell 0 (.int .i64 (s.a : Int)) rfl
            have x2 := fun q : Later X2 => (D.out.2.2.1.below (below_later K2.out.1 q)).cell 1 (.int .i64 (s.pa : Int)) rfl
            have x3 := fun q : Later X2 => (D.out.2.2.2.below (below_later K2.out.1 q)).n2 T.out.2.2.1
            obtain ⟨rp, hrp⟩ : ∃ z, rpOf ids L s.a = z := ⟨_, rfl⟩
            rw [hrp] at x3 HE
            cases hr : (rp == (s.pa : Int))
            · have HE2 : Hid (E = ⟨s.a, s.pa, 4, own⟩) := by
                have := HE.out
                rw [if_neg (by simpa using hr), if_pos hq', if_pos hq'] at this
                exact this
              clear HE
              go_wp2_with fail
              refine wp_region_later (by kernel_rfl) (by kernel_rfl) ?_
              repeat (go_big_quiet_step (first | exact rfl))
              refine wpQuiet_nil ?_
              intro _ hw'
              obtain ⟨q, rfl⟩ := hw'
              clear x1 x2 x3
              obtain ⟨Q, hQ⟩ : ∃ Q, q.val = Q := ⟨_, rfl⟩
              have rX : RvAt Q z7 87 (En.mk s.a s.pa 4 own).cs := by rw [← hQ]; exact K2.out.2.below q.below
              have bQ : Below V.heap.size V Q := by rw [← hQ]; exact below_over D.out.2.1 (below_later K2.out.1 q)
              have oQ : Own eY Q V.heap.size u9 (endsTo ids L t) := by rw [← hQ]; exact D.out.1.below (below_later K2.out.1 q)
              rw [hQ]
              rw [← HE2.out] at rX
              have lX := rX.ld rtY rfl
              have bs := bsY_is E Q
              obtain ⟨v', Y, ap, o5, b5⟩ := nY oQ bQ.size hle.out E
              have Z : Hid (Own eY Y V.heap.size v' (endsTo ids L (t + 1)) ∧ Below V.heap.size V Y) := ⟨by rw [HN.out]; exact o5, bQ.trans b5⟩
              clear rX hQ o5 b5 bQ oQ
              go_wp2
              go_roundw
              case rel => exact ⟨t + 1, by omega, by go_num, Z.out.1, Z.out.2⟩
              case measure => simp [intOf]; omega
            · have HE2 : Hid (E = ⟨s.a, s.pa, 3, own⟩) := by
                have := HE.out
                rw [if_pos (by simpa using hr), if_pos hq'] at this
                exact this
              clear HE
              go_wp2_with fail
              refine wp_region_later (by kernel_rfl) (by kernel_rfl) ?_
              repeat (go_big_quiet_step (first | exact rfl))
              refine wpQuiet_nil ?_
              intro _ hw'
              obtain ⟨q, rfl⟩ := hw'
              clear x1 x2 x3
              obtain ⟨Q, sQ, rX, gU⟩ := XvAt.setO (K2.out.2.below q.below) 3
              rw [show En.mk (En.mk (s.a : Int) (s.pa : Int) 4 own).b (En.mk (s.a : Int) (s.pa : Int) 4 own).p 3 (En.mk (s.a : Int) (s.pa : Int) 4 own).v = E from HE2.out.symm] at rX
              have bQ : Below V.heap.size V Q := gro (below_over D.out.2.1 (below_later K2.out.1 q)) gU (by have := K1.out.2.2.2.2; have := D.out.2.1.size; omega) (by have := (below_over D.out.2.1 (below_later K2.out.1 q)).size; omega)
              have oQ : Own eY Q V.heap.size u9 (endsTo ids L t) := by
                refine (D.out.1.below (below_later K2.out.1 q)).keptBut gU ?_
                cases hb : u9.ownBlock with
                | none => exact .inl rfl
                | some k =>
                  refine .inr fun e => ?_
                  have h1 := (D.out.1.blk k hb).2
                  have h2 := K1.out.2.2.2.2
                  simp only [Option.some.injEq] at e
                  omega
              have lX := rX.ld rtY rfl
              have bs := bsY_is E Q
              obtain ⟨v', Y, ap, o5, b5⟩ := nY oQ bQ.size hle.out E
              have Z : Hid (Own eY Y V.heap.size v' (endsTo ids L (t + 1)) ∧ Below V.heap.size V Y) := ⟨by rw [HN.out]; exact o5, bQ.trans b5⟩
              clear rX gU o5 b5 bQ oQ
              go_wp2
              go_roundw
              case rel => exact ⟨t + 1, by omega, by go_num, Z.out.1, Z.out.2⟩
              case measure => simp [intOf]; omega
      · have htm : t = m := by omega
        subst htm
        have ht1 : ¬ (t : Int) < (t : Int) := by omega
        rw [endsTo_all (by rw [← sdl_len, K.out.2.2.2]; exact Nat.le_refl _)] at hO
        obtain ⟨sa2, sc2, hv, hS, _⟩ := hO.form
        subst hv
        obtain ⟨mm, hmm2⟩ : ∃ z, (endsF ids L).length = z := ⟨_, rfl⟩
        rw [hmm2] at hS ⊢
        have Z : Hid (SlAt eY wr sa2 mm sc2 (endsF ids L) ∧ Below w.heap.size w wr) := ⟨hS, below_over K.out.2.2.1 hB⟩
        clear hO hB hS hmm2
        go_wp2
        go_returns
        exact ⟨⟨_, _, _, rfl, _, Z.out.1, .inr ⟨L, rfl, HC.out.2, HC.out.1, rfl⟩⟩, Z.out.2⟩
end Go.Proofs.Ytcagdfdhpbeolaa
