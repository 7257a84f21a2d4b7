/-
  The definition: roots and least costs, by going on as often as there are bridges: the walk, for every graph that may be.
-/
import Derived.Test.YtcagdfdhpbeolaaRCk
import Derived.Test.YtcagdfdhpbeolaaStl
import Derived.Deep.CutRange
namespace Go.Proofs.Ytcagdfdhpbeolaa
set_option linter.unusedVariables false
set_option maxRecDepth 4000
set_option linter.unusedSimpArgs false
open Go.RowKit

theorem bdM (ps : Array (Nat × Value)) : Instr.build 72 ps = bdS 72 ps := rfl
theorem bdM1_is (x : Nat) (w : World) : (bdS 72 #[(0, .int .u64 (x : Int)), (2, .int .i64 (-1))]).run Try.prog w = .ok (.agg (Nd.mk x 0 (-1)).cs) w := by kernel_rfl
theorem MvAt.c0 {W : World} {b : Nat} {x : Nd} (h : RvAt W b 72 x.cs) : W.cell? ⟨b, 0, none⟩ = some (.int .u64 (x.r : Int)) := h.cell 0 _ rfl
theorem MvAt.c1 {W : World} {b : Nat} {x : Nd} (h : RvAt W b 72 x.cs) : W.cell? ⟨b, 1, none⟩ = some (.int .u32 (x.c : Int)) := h.cell 1 _ rfl
theorem MvAt.c2 {W : World} {b : Nat} {x : Nd} (h : RvAt W b 72 x.cs) : W.cell? ⟨b, 2, none⟩ = some (.int .i64 x.p) := h.cell 2 _ rfl
theorem MvAt.s0 {W : World} {b : Nat} {x : Nd} (h : RvAt W b 72 x.cs) (r : Nat) : ∃ V, (stS 53 (.pointer (some ⟨b, 0, none⟩)) (.int .u64 (r : Int))).run Try.prog W = .ok () V ∧ RvAt V b 72 (Nd.mk r x.c x.p).cs ∧ W.grownBy V (some b) :=
  ⟨_, h.st1 infoU (by show 0 < 3; decide) rfl, h.set, grown_row _ _ _⟩
theorem MvAt.s1 {W : World} {b : Nat} {x : Nd} (h : RvAt W b 72 x.cs) (c : Nat) : ∃ V, (stS 48 (.pointer (some ⟨b, 1, none⟩)) (.int .u32 (c : Int))).run Try.prog W = .ok () V ∧ RvAt V b 72 (Nd.mk x.r c x.p).cs ∧ W.grownBy V (some b) :=
  ⟨_, h.st1 info32 (by show 1 < 3; decide) rfl, h.set, grown_row _ _ _⟩
theorem MvAt.s2 {W : World} {b : Nat} {x : Nd} (h : RvAt W b 72 x.cs) (p : Int) : ∃ V, (stS 3 (.pointer (some ⟨b, 2, none⟩)) (.int .i64 p)).run Try.prog W = .ok () V ∧ RvAt V b 72 (Nd.mk x.r x.c p).cs ∧ W.grownBy V (some b) :=
  ⟨_, h.st1 infoI (by show 2 < 3; decide) rfl, h.set, grown_row _ _ _⟩
/-- Sides of a graph that may be, as the definition keeps them. -/
theorem sdl_ss {L : List Ne} {i : Nat} {s : Ne} (h : (sdl L)[i]? = some s) : (sidesE (L.map Ne.eg))[i]? = some s.eg := by
  rw [sdl_eg, List.getElem?_map, h]
  rfl
theorem sde0 {W : World} {b o n c i : Nat} {L : List Ne} {s : Ne} (h : SlAt eS W (some ⟨b, o, none⟩) n c (sidesE (L.map Ne.eg))) (hx : (sdl L)[i]? = some s) : W.cell? ⟨b, o + i * 5, none⟩ = some (.int .i64 (s.a : Int)) := lds0 h (sdl_ss hx)
theorem sde2 {W : World} {b o n c i : Nat} {L : List Ne} {s : Ne} (h : SlAt eS W (some ⟨b, o, none⟩) n c (sidesE (L.map Ne.eg))) (hx : (sdl L)[i]? = some s) : W.cell? ⟨b, o + i * 5 + 2, none⟩ = some (.int .u32 (s.ca : Int)) := lds2 h (sdl_ss hx)
theorem sde3 {W : World} {b o n c i : Nat} {L : List Ne} {s : Ne} (h : SlAt eS W (some ⟨b, o, none⟩) n c (sidesE (L.map Ne.eg))) (hx : (sdl L)[i]? = some s) : W.cell? ⟨b, o + i * 5 + 3, none⟩ = some (.int .i64 (s.b : Int)) := lds3 h (sdl_ss hx)
/-- A block of nodes of one's own. -/
structure MW (W0 W : World) (g n c : Nat) (N : List Nd) : Prop where
  pat : PAt eM W g c N
  low : W0.heap.size ≤ g
  len : N.length = n
  bel : Below W0.heap.size W0 W
theorem MW.below {W0 W V : World} {g n c : Nat} {N : List Nd} (h : MW W0 W g n c N) (k : Below W.heap.size W V) : MW W0 V g n c N := ⟨h.pat.below k, h.low, h.len, below_over h.bel k⟩
theorem MW.ld {W0 W : World} {g n c : Nat} {N : List Nd} (h : MW W0 W g n c N) {i : Nat} (hi : i < n) : (ldS 72 (.pointer (some ⟨g, i * 3, none⟩))).run Try.prog W = .ok (.agg (gtN N i).cs) W := h.pat.ld kM (gtN_at (by rw [h.len]; exact hi)) Try.underlying72 rfl rfl
theorem MW.put {W0 W : World} {g n c : Nat} {N : List Nd} (h : MW W0 W g n c N) {i : Nat} (hi : i < n) (y : Nd) : ∃ V, (stS 72 (.pointer (some ⟨g, i * 3, none⟩)) (.agg y.cs)).run Try.prog W = .ok () V ∧ MW W0 V g n c (N.set i y) ∧ W.grownBy V (some g) := by
  obtain ⟨V, h1, h2, h3⟩ := h.pat.stp kM (y := y) (i := i) (by rw [h.len]; exact hi) rfl
  exact ⟨V, h1, ⟨h2, h.low, by rw [List.length_set]; exact h.len, gro h.bel h3 h.low h.bel.size⟩, h3⟩
/-- The definition's labels behind i sides of round k. -/
def labT (ids : List Nat) (L : List Ne) (k i : Nat) : Nat → Nat := ((steps L).take i).foldl relax (rounds' (steps L) (init ids) k)
theorem labT_next {ids : List Nat} {L : List Ne} {k i : Nat} {s : Ne} (h : (sdl L)[i]? = some s) : labT ids L k (i + 1) = relax (labT ids L k i) s.st := by
  unfold labT
  have : (steps L)[i]? = some s.st := by unfold steps; rw [List.getElem?_map, h]; rfl
  rw [List.take_add_one, this, List.foldl_append]
  rfl
theorem labT_round {ids : List Nat} {L : List Ne} {k i : Nat} (h : 2 * L.length ≤ i) : labT ids L k i = labT ids L (k + 1) 0 := by
  unfold labT
  rw [List.take_of_length_le (by unfold steps; rw [List.length_map, sdl_len]; exact h)]
  rfl
theorem go1_q {N : List Nd} {s : Ne} {p : Int} (h : ∀ i, i < N.length → (gtN N i).p = p) : ∀ i, i < N.length → (gtN (go1 N s p) i).p = p := by
  intro i hi
  by_cases ha : s.a < N.length
  · unfold go1
    rw [gtN_set ha]
    split
    · rfl
    · exact h i hi
  · unfold go1
    rw [List.set_eq_of_length_le (by omega)]
    exact h i hi
theorem go1_len (N : List Nd) (s : Ne) (p : Int) : (go1 N s p).length = N.length := by unfold go1; rw [List.length_set]
theorem begin_q (ids : List Nat) (p : Int) {i : Nat} (h : i < (begin' ids p).length) : (gtN (begin' ids p) i).p = p := by
  unfold begin' at h ⊢
  rw [List.length_map] at h
  unfold gtN
  rw [List.getD_eq_getElem?_getD, List.getElem?_map, List.getElem?_eq_getElem h]
  rfl
attribute [local go_sem ↓] ldM stM bsM bdM apM stU st32
set_option maxHeartbeats 8000000 in
theorem roots_any (a : Option Addr) (n c : Nat) (ids : List Nat) (a' : Option Addr) (m c' : Nat) (L : List Ne) (w : World) (hs : SlAt eU w a n c ids) (ht : SlAt eS w a' m c' (sidesE (L.map Ne.eg))) (G : Gok ids L) :
    Calls Try.prog 26 #[.slice a n c, .slice a' m c'] w fun r w' => (∃ g c2, r = .returned (.slice (some ⟨g, 0, none⟩) n c2) ∧ w.heap.size ≤ g ∧ PAt eM w' g c2 (ndAt ids L (fun _ => -1))) ∧ Below w.heap.size w w' := by
  have hnn := hs.int
  have hmm := ht.int
  have hid : ids.length = n := hs.len
  have hn7 : n ≤ 7 := by rw [← hid]; exact G.n7
  have hn1 : 1 ≤ n := by rw [← hid]; exact G.n1
  have hml : (sdl L).length = m := by rw [← ht.len, sdl_eg, List.length_map]
  have HG : Hid (Gok ids L ∧ SlAt eU w a n c ids ∧ SlAt eS w a' m c' (sidesE (L.map Ne.eg)) ∧ ids.length = n ∧ (sdl L).length = m) := ⟨G, hs, ht, hid, hml⟩
  clear hs ht G hid hml
  go_enter Try.func26, Try.ntmps26
  go_wp2_with fail
  go_loopw [5, 6] (fun v5 v6 wr => ∃ i : Nat, i ≤ n ∧ v6 = .int .i64 i ∧ Own eM wr w.heap.size v5 (begin' (ids.take i) (-1)) ∧ Below w.heap.size w wr) (fun _ v6 _ => n - (intOf v6).toNat)
  case atStart => exact ⟨0, by omega, rfl, Own.nil _ _, Below.refl _ _⟩
  case round =>
    obtain ⟨i, hi, rfl, hO, hB⟩ := hrel
    have hi0 : (0 : Int) ≤ (i : Int) := by omega
    by_cases hit : i < n
    · have hi1 : (i : Int) < (n : Int) := by omega
      have hil : i < ids.length := by rw [HG.out.2.2.2.1]; exact hit
      obtain ⟨b, o, rfl⟩ := HG.out.2.1.some' (by omega)
      obtain ⟨x, hx⟩ := lt_nth hil
      have c0 := ldu (HG.out.2.1.below hB) hx
      have bd := bdM1_is x wr
      have bs := bsM_is ⟨x, 0, -1⟩ wr
      obtain ⟨v', Y, ap, o2, b2⟩ := nM hO hB.size (by unfold begin'; simp; omega) ⟨x, 0, -1⟩
      rw [← begin_next hx] at o2
      have Z : Hid (Own eM Y w.heap.size v' (begin' (ids.take (i + 1)) (-1)) ∧ Below w.heap.size w Y) := ⟨o2, hB.trans b2⟩
      clear hO hB o2 b2 hx hil
      go_wp2
      go_roundw
      case rel => exact ⟨i + 1, by omega, by go_num, Z.out.1, Z.out.2⟩
      case measure => simp [intOf]; omega
    · have hin : i = n := by omega
      subst hin
      have hi1 : ¬ (i : Int) < (i : Int) := by omega
      rw [List.take_of_length_le (by rw [HG.out.2.2.2.1]; exact Nat.le_refl _)] at hO
      have hbl : (begin' ids (-1)).length = i := by unfold begin'; rw [List.length_map]; exact HG.out.2.2.2.1
      obtain ⟨g, c2, rfl, hg, hP⟩ := hO.pat' (by omega)
      have M0 : Hid (MW w wr g i c2 (begin' ids (-1))) := ⟨hP, hg, hbl, hB⟩
      rw [hbl]
      clear hO hP hbl hB
      go_wp2_with fail
      go_loopw [7] (fun v7 wx => ∃ (k : Nat) (N : List Nd), k ≤ i ∧ v7 = .int .i64 k ∧ MW w wx g i c2 N ∧ NI ids L N ∧ lab N = labT ids L k 0 ∧ (∀ t, t < N.length → (gtN N t).p = -1)) (fun v7 _ => i - (intOf v7).toNat)
      case atStart => exact ⟨0, _, by omega, rfl, M0.out, begin_ni ids L (-1), begin_lab ids (-1), fun t ht => begin_q ids (-1) ht⟩
      case round =>
        obtain ⟨k, N, hk, rfl, hMW, hNI, hla, hp⟩ := hrel
        have hk0 : (0 : Int) ≤ (k : Int) := by omega
        by_cases hkt : k < i
        · have hk1 : (k : Int) < (i : Int) := by omega
          have J : Hid (MW w wr g i c2 N ∧ NI ids L N ∧ lab N = labT ids L k 0 ∧ (∀ t, t < N.length → (gtN N t).p = -1)) := ⟨hMW, hNI, hla, hp⟩
          clear hMW hNI hla hp M0
          go_wp2_with fail
          go_loopw [8] (fun v8 wx => ∃ (j : Nat) (N : List Nd), j ≤ m ∧ v8 = .int .i64 j ∧ MW w wx g i c2 N ∧ NI ids L N ∧ lab N = labT ids L k j ∧ (∀ t, t < N.length → (gtN N t).p = -1)) (fun v8 _ => m - (intOf v8).toNat)
          case atStart => exact ⟨0, N, by omega, rfl, J.out.1, J.out.2.1, J.out.2.2.1, J.out.2.2.2⟩
          case round =>
            obtain ⟨j, M, hj, rfl, hMW, hNI, hla, hp⟩ := hrel
            have hj0 : (0 : Int) ≤ (j : Int) := by omega
            by_cases hjt : j < m
            · have hj1 : (j : Int) < (m : Int) := by omega
              have hjl : j < (sdl L).length := by rw [HG.out.2.2.2.2]; exact hjt
              obtain ⟨b, o, rfl⟩ := HG.out.2.2.1.some' (by omega)
              obtain ⟨s, hs⟩ := lt_nth hjl
              have hsm := List.mem_of_getElem? hs
              have hgs := HG.out.1.side s hsm
              rw [HG.out.2.2.2.1] at hgs
              have hsum := hNI.sum HG.out.1 hsm
              have ha0 : (0 : Int) ≤ (s.a : Int) := by omega
              have ha1 : (s.a : Int) < (i : Int) := by omega
              have hb0 : (0 : Int) ≤ (s.b : Int) := by omega
              have hb1 : (s.b : Int) < (i : Int) := by omega
              obtain ⟨me, hme⟩ : ∃ z, gtN M s.a = z := ⟨_, rfl⟩
              obtain ⟨you, hyou⟩ : ∃ z, gtN M s.b = z := ⟨_, rfl⟩
              have D : Hid (MW w wr g i c2 M ∧ NI ids L M ∧ lab M = labT ids L k j ∧ (∀ t, t < M.length → (gtN M t).p = -1) ∧ (sdl L)[j]? = some s ∧ s ∈ sdl L ∧ gtN M s.a = me ∧ gtN M s.b = you ∧ s.a < i ∧ s.b < i ∧ you.c + s.ca < 4294967296) := ⟨hMW, hNI, hla, hp, hs, hsm, hme, hyou, hgs.1, hgs.2.1, by rw [← hyou]; exact hsum⟩
              clear hMW hNI hla hp hs hsm hgs hsum hjl hme hyou J
              go_wp2_with fail
              go_cut [9, 10] from 38 to 92 (fun v9 v10 wx => ∃ z9 z10, v9 = .pointer (some ⟨z9, 0, none⟩) ∧ v10 = .pointer (some ⟨z10, 0, none⟩) ∧ RvAt wx z9 72 me.cs ∧ RvAt wx z10 72 you.cs ∧ z9 ≠ z10 ∧ wr.heap.size ≤ z9 ∧ Below wr.heap.size wr wx)
              case first =>
                have f0 := fun q : Later wr => sde0 ((HG.out.2.2.1.below D.out.1.bel).below q.below) D.out.2.2.2.2.1
                have f3 := fun q : Later wr => sde3 ((HG.out.2.2.1.below D.out.1.bel).below q.below) D.out.2.2.2.2.1
                have fa := fun q : Later wr => (D.out.1.below q.below).ld D.out.2.2.2.2.2.2.2.2.1
                have fb := fun q : Later wr => (D.out.1.below q.below).ld D.out.2.2.2.2.2.2.2.2.2.1
                rw [D.out.2.2.2.2.2.2.1] at fa
                rw [D.out.2.2.2.2.2.2.2.1] at fb
                obtain ⟨X0, hX0⟩ : ∃ X0, World.drew wr = X0 := ⟨_, rfl⟩
                have B0 : Hid (Below wr.heap.size wr X0) := by rw [← hX0]; exact (Below.refl _ _).drew
                refine wp_region_noPanic ?_
                refine wp_region_held_drew (S := fun w' => ∃ x : Later wr, w' = x.val) (by kernel_rfl) ⟨⟨_, (Below.refl _ _).drew⟩, rfl⟩ (fun hHeld => ?_)
                rw [hX0] at hHeld ⊢
                clear hX0
                refine wpAnyH_take (i := 0) (oi := { dst := some 38, op := Op.move (Operand.tmp 5), type := 30, pos := "ref.go:78", after := #[], guard := none }) (v := ?_) rfl (by kernel_rfl) (by kernel_rfl) (by kernel_rfl) (fun _ _ _ h => h) (Or.inl ⟨by rfl, ?_⟩) hHeld ?_
                rotate_left
                · intro W_ hSw_
                  obtain ⟨q, rfl⟩ := hSw_
                  first | (go_simp; done) | (go_simp; with_reducible rfl)
                rotate_left
                try simp only [Act.put, List.setIfInBounds_toArray, List.set_cons_zero, List.set_cons_succ]
                refine wpAnyH_take (i := 1) (oi := { dst := some 39, op := Op.move (Operand.tmp 1), type := 61, pos := "ref.go:78", after := #[], guard := none }) (v := ?_) rfl (by kernel_rfl) (by kernel_rfl) (by kernel_rfl) (fun _ _ _ h => h) (Or.inl ⟨by rfl, ?_⟩) hHeld ?_
                rotate_left
                · intro W_ hSw_
                  obtain ⟨q, rfl⟩ := hSw_
                  first | (go_simp; done) | (go_simp; with_reducible rfl)
                rotate_left
                try simp only [Act.put, List.setIfInBounds_toArray, List.set_cons_zero, List.set_cons_succ]
                refine wpAnyH_take (i := 2) (oi := { dst := some 40, op := Op.move (Operand.tmp 8), type := 3, pos := "ref.go:78", after := #[], guard := none }) (v := ?_) rfl (by kernel_rfl) (by kernel_rfl) (by kernel_rfl) (fun _ _ _ h => h) (Or.inl ⟨by rfl, ?_⟩) hHeld ?_
                rotate_left
                · intro W_ hSw_
                  obtain ⟨q, rfl⟩ := hSw_
                  first | (go_simp; done) | (go_simp; with_reducible rfl)
                rotate_left
                try simp only [Act.put, List.setIfInBounds_toArray, List.set_cons_zero, List.set_cons_succ]
                refine wpAnyH_take (i := 3) (oi := { dst := some 41, op := Op.indexAddr 61 (Operand.tmp 39) (Operand.tmp 40), type := 0, pos := "ref.go:78", after := #[{ on := 1, ground := Ground.data }, { on := 2, ground := Ground.data }], guard := none }) (v := ?_) rfl (by kernel_rfl) (by kernel_rfl) (by kernel_rfl) (fun _ _ _ h => h) (Or.inl ⟨by rfl, ?_⟩) hHeld ?_
                rotate_left
                · intro W_ hSw_
                  obtain ⟨q, rfl⟩ := hSw_
                  first | (go_simp; done) | (go_simp; with_reducible rfl)
                rotate_left
                try simp only [Act.put, List.setIfInBounds_toArray, List.set_cons_zero, List.set_cons_succ]
                refine wpAnyH_take (i := 4) (oi := { dst := some 42, op := Op.fieldAddr 64 (Operand.tmp 41) 0, type := 0, pos := "ref.go:78", after := #[{ on := 3, ground := Ground.data }], guard := none }) (v := ?_) rfl (by kernel_rfl) (by kernel_rfl) (by kernel_rfl) (fun _ _ _ h => h) (Or.inl ⟨by rfl, ?_⟩) hHeld ?_
                rotate_left
                · intro W_ hSw_
                  obtain ⟨q, rfl⟩ := hSw_
                  first | (go_simp; done) | (go_simp; with_reducible rfl)
                rotate_left
                try simp only [Act.put, List.setIfInBounds_toArray, List.set_cons_zero, List.set_cons_succ]
                refine wpAnyH_take (i := 5) (oi := { dst := some 43, op := Op.load 3 (Operand.tmp 42), type := 3, pos := "ref.go:78", after := #[{ on := 4, ground := Ground.data }], guard := none }) (v := ?_) rfl (by kernel_rfl) (by kernel_rfl) (by kernel_rfl) (fun _ _ _ h => h) (Or.inl ⟨by rfl, ?_⟩) hHeld ?_
                rotate_left
                · intro W_ hSw_
                  obtain ⟨q, rfl⟩ := hSw_
                  first | (go_simp; done) | (go_simp; with_reducible rfl)
                rotate_left
                try simp only [Act.put, List.setIfInBounds_toArray, List.set_cons_zero, List.set_cons_succ]
                refine wpAnyH_take (i := 6) (oi := { dst := some 44, op := Op.indexAddr 30 (Operand.tmp 38) (Operand.tmp 43), type := 0, pos := "ref.go:78", after := #[{ on := 0, ground := Ground.data }, { on := 5, ground := Ground.data }], guard := none }) (v := ?_) rfl (by kernel_rfl) (by kernel_rfl) (by kernel_rfl) (fun _ _ _ h => h) (Or.inl ⟨by rfl, ?_⟩) hHeld ?_
                rotate_left
                · intro W_ hSw_
                  obtain ⟨q, rfl⟩ := hSw_
                  first | (go_simp; done) | (go_simp; with_reducible rfl)
                rotate_left
                try simp only [Act.put, List.setIfInBounds_toArray, List.set_cons_zero, List.set_cons_succ]
                refine wpAnyH_take (i := 7) (oi := { dst := some 45, op := Op.load 72 (Operand.tmp 44), type := 72, pos := "ref.go:78", after := #[{ on := 6, ground := Ground.data }], guard := none }) (v := ?_) rfl (by kernel_rfl) (by kernel_rfl) (by kernel_rfl) (fun _ _ _ h => h) (Or.inl ⟨by rfl, ?_⟩) hHeld ?_
                rotate_left
                · intro W_ hSw_
                  obtain ⟨q, rfl⟩ := hSw_
                  first | (go_simp; done) | (go_simp; with_reducible rfl)
                rotate_left
                try simp only [Act.put, List.setIfInBounds_toArray, List.set_cons_zero, List.set_cons_succ]
                refine wpAnyH_take (i := 8) (oi := { dst := some 46, op := Op.move (Operand.tmp 5), type := 30, pos := "ref.go:78", after := #[{ on := 18, ground := Ground.gcOnly Departure.lateStores }], guard := none }) (v := ?_) rfl (by kernel_rfl) (by kernel_rfl) (by kernel_rfl) (fun _ _ _ h => h) (Or.inl ⟨by rfl, ?_⟩) hHeld ?_
                rotate_left
                · intro W_ hSw_
                  obtain ⟨q, rfl⟩ := hSw_
                  first | (go_simp; done) | (go_simp; with_reducible rfl)
                rotate_left
                try simp only [Act.put, List.setIfInBounds_toArray, List.set_cons_zero, List.set_cons_succ]
                refine wpAnyH_take (i := 9) (oi := { dst := some 47, op := Op.move (Operand.tmp 1), type := 61, pos := "ref.go:78", after := #[{ on := 18, ground := Ground.gcOnly Departure.lateStores }], guard := none }) (v := ?_) rfl (by kernel_rfl) (by kernel_rfl) (by kernel_rfl) (fun _ _ _ h => h) (Or.inl ⟨by rfl, ?_⟩) hHeld ?_
                rotate_left
                · intro W_ hSw_
                  obtain ⟨q, rfl⟩ := hSw_
                  first | (go_simp; done) | (go_simp; with_reducible rfl)
                rotate_left
                try simp only [Act.put, List.setIfInBounds_toArray, List.set_cons_zero, List.set_cons_succ]
                refine wpAnyH_take (i := 10) (oi := { dst := some 48, op := Op.move (Operand.tmp 8), type := 3, pos := "ref.go:78", after := #[{ on := 18, ground := Ground.gcOnly Departure.lateStores }], guard := none }) (v := ?_) rfl (by kernel_rfl) (by kernel_rfl) (by kernel_rfl) (fun _ _ _ h => h) (Or.inl ⟨by rfl, ?_⟩) hHeld ?_
                rotate_left
                · intro W_ hSw_
                  obtain ⟨q, rfl⟩ := hSw_
                  first | (go_simp; done) | (go_simp; with_reducible rfl)
                rotate_left
                try simp only [Act.put, List.setIfInBounds_toArray, List.set_cons_zero, List.set_cons_succ]
                refine wpAnyH_take (i := 11) (oi := { dst := some 49, op := Op.indexAddr 61 (Operand.tmp 47) (Operand.tmp 48), type := 0, pos := "ref.go:78", after := #[{ on := 9, ground := Ground.data }, { on := 10, ground := Ground.data }, { on := 18, ground := Ground.gcOnly Departure.lateStores }], guard := none }) (v := ?_) rfl (by kernel_rfl) (by kernel_rfl) (by kernel_rfl) (fun _ _ _ h => h) (Or.inl ⟨by rfl, ?_⟩) hHeld ?_
                rotate_left
                · intro W_ hSw_
                  obtain ⟨q, rfl⟩ := hSw_
                  first | (go_simp; done) | (go_simp; with_reducible rfl)
                rotate_left
                try simp only [Act.put, List.setIfInBounds_toArray, List.set_cons_zero, List.set_cons_succ]
                refine wpAnyH_take (i := 12) (oi := { dst := some 50, op := Op.fieldAddr 64 (Operand.tmp 49) 3, type := 0, pos := "ref.go:78", after := #[{ on := 11, ground := Ground.data }, { on := 18, ground := Ground.gcOnly Departure.lateStores }], guard := none }) (v := ?_) rfl (by kernel_rfl) (by kernel_rfl) (by kernel_rfl) (fun _ _ _ h => h) (Or.inl ⟨by rfl, ?_⟩) hHeld ?_
                rotate_left
                · intro W_ hSw_
                  obtain ⟨q, rfl⟩ := hSw_
                  first | (go_simp; done) | (go_simp; with_reducible rfl)
                rotate_left
                try simp only [Act.put, List.setIfInBounds_toArray, List.set_cons_zero, List.set_cons_succ]
                refine wpAnyH_take (i := 13) (oi := { dst := some 51, op := Op.load 3 (Operand.tmp 50), type := 3, pos := "ref.go:78", after := #[{ on := 12, ground := Ground.data }, { on := 18, ground := Ground.gcOnly Departure.lateStores }], guard := none }) (v := ?_) rfl (by kernel_rfl) (by kernel_rfl) (by kernel_rfl) (fun _ _ _ h => h) (Or.inl ⟨by rfl, ?_⟩) hHeld ?_
                rotate_left
                · intro W_ hSw_
                  obtain ⟨q, rfl⟩ := hSw_
                  first | (go_simp; done) | (go_simp; with_reducible rfl)
                rotate_left
                try simp only [Act.put, List.setIfInBounds_toArray, List.set_cons_zero, List.set_cons_succ]
                refine wpAnyH_take (i := 14) (oi := { dst := some 52, op := Op.indexAddr 30 (Operand.tmp 46) (Operand.tmp 51), type := 0, pos := "ref.go:78", after := #[{ on := 8, ground := Ground.data }, { on := 13, ground := Ground.data }, { on := 18, ground := Ground.gcOnly Departure.lateStores }], guard := none }) (v := ?_) rfl (by kernel_rfl) (by kernel_rfl) (by kernel_rfl) (fun _ _ _ h => h) (Or.inl ⟨by rfl, ?_⟩) hHeld ?_
                rotate_left
                · intro W_ hSw_
                  obtain ⟨q, rfl⟩ := hSw_
                  first | (go_simp; done) | (go_simp; with_reducible rfl)
                rotate_left
                try simp only [Act.put, List.setIfInBounds_toArray, List.set_cons_zero, List.set_cons_succ]
                refine wpAnyH_take (i := 15) (oi := { dst := some 53, op := Op.load 72 (Operand.tmp 52), type := 72, pos := "ref.go:78", after := #[{ on := 14, ground := Ground.data }, { on := 18, ground := Ground.gcOnly Departure.lateStores }], guard := none }) (v := ?_) rfl (by kernel_rfl) (by kernel_rfl) (by kernel_rfl) (fun _ _ _ h => h) (Or.inl ⟨by rfl, ?_⟩) hHeld ?_
                rotate_left
                · intro W_ hSw_
                  obtain ⟨q, rfl⟩ := hSw_
                  first | (go_simp; done) | (go_simp; with_reducible rfl)
                rotate_left
                try simp only [Act.put, List.setIfInBounds_toArray, List.set_cons_zero, List.set_cons_succ]
                refine wpAnyH_ready (rs := [16, 17]) (by kernel_rfl) (by simp) ?_
                refine (AllReadyH.cons (o := { dst := some 9, op := Op.alloc 72, type := 0, pos := "ref.go:78", after := #[], guard := none }) rfl (fun K hK => ?_) (AllReadyH.cons (o := { dst := some 10, op := Op.alloc 72, type := 0, pos := "ref.go:78", after := #[], guard := none }) rfl (fun K hK => ?_) AllReadyH.nil))
                · skip
                  obtain ⟨X1, hN⟩ : ∃ z, X0.alloc (.cells #[.int .u64 0, .int .u32 0, .int .i64 0] 72) = z := ⟨_, rfl⟩
                  obtain ⟨z9, hz⟩ : ∃ z, X0.heap.size = z := ⟨_, rfl⟩
                  have bb : Below X0.heap.size X0 X1 := by rw [← hN]; exact (Below.refl _ _).alloc (Nat.le_refl _) _
                  have B1 : Hid (Below wr.heap.size wr X1) := below_over B0.out bb
                  have p5_1 : Hid (RvAt X1 z9 72 #[.int .u64 0, .int .u32 0, .int .i64 0] ∧ wr.heap.size ≤ z9) := ⟨by rw [← hN, ← hz]; exact RvAt.new _ _ _, by rw [← hz]; exact B0.out.size⟩
                  clear bb
                  go_simp
                  clear hN hz
                  clear hHeld
                  refine hK.out _ _ ⟨⟨_, B1.out⟩, rfl⟩ (fun hHeld => ?_)
                  clear hK K
                  try simp only [Act.put, List.setIfInBounds_toArray, List.set_cons_zero, List.set_cons_succ]
                  refine wpAnyH_ready (rs := [17]) (by kernel_rfl) (by simp) ?_
                  refine AllReadyH.cons (o := { dst := some 10, op := Op.alloc 72, type := 0, pos := "ref.go:78", after := #[], guard := none }) rfl (fun K hK => ?_) AllReadyH.nil
                  obtain ⟨X2, hN⟩ : ∃ z, X1.alloc (.cells #[.int .u64 0, .int .u32 0, .int .i64 0] 72) = z := ⟨_, rfl⟩
                  obtain ⟨z10, hz⟩ : ∃ z, X1.heap.size = z := ⟨_, rfl⟩
                  have bb : Below X1.heap.size X1 X2 := by rw [← hN]; exact (Below.refl _ _).alloc (Nat.le_refl _) _
                  have B2 : Hid (Below wr.heap.size wr X2) := below_over B1.out bb
                  have p6_2 : Hid (RvAt X2 z10 72 #[.int .u64 0, .int .u32 0, .int .i64 0] ∧ wr.heap.size ≤ z10) := ⟨by rw [← hN, ← hz]; exact RvAt.new _ _ _, by rw [← hz]; exact B1.out.size⟩
                  have p5_2 : Hid (RvAt X2 z9 72 #[.int .u64 0, .int .u32 0, .int .i64 0] ∧ wr.heap.size ≤ z9) := ⟨p5_1.out.1.below bb, p5_1.out.2⟩
                  have NE : Hid (z9 ≠ z10) := by have := p5_1.out.1.lt; show _ ≠ _; omega
                  clear bb
                  go_simp
                  clear hN hz
                  clear hHeld
                  refine hK.out _ _ ⟨⟨_, B2.out⟩, rfl⟩ (fun hHeld => ?_)
                  clear hK K
                  try simp only [Act.put, List.setIfInBounds_toArray, List.set_cons_zero, List.set_cons_succ]
                  refine wpAnyH_ready (rs := [18]) (by kernel_rfl) (by simp) ?_
                  refine AllReadyH.cons (o := { dst := none, op := Op.store 72 (Operand.tmp 9) (Operand.tmp 45), type := 0, pos := "ref.go:78", after := #[{ on := 16, ground := Ground.data }, { on := 7, ground := Ground.data }, { on := 0, ground := Ground.phase }, { on := 1, ground := Ground.phase }, { on := 2, ground := Ground.phase }, { on := 3, ground := Ground.phase }, { on := 4, ground := Ground.phase }, { on := 5, ground := Ground.phase }, { on := 6, ground := Ground.phase }, { on := 7, ground := Ground.phase }, { on := 8, ground := Ground.textOnly Departure.lateStores }, { on := 9, ground := Ground.textOnly Departure.lateStores }, { on := 10, ground := Ground.textOnly Departure.lateStores }, { on := 11, ground := Ground.textOnly Departure.lateStores }, { on := 12, ground := Ground.textOnly Departure.lateStores }, { on := 13, ground := Ground.textOnly Departure.lateStores }, { on := 14, ground := Ground.textOnly Departure.lateStores }, { on := 15, ground := Ground.textOnly Departure.lateStores }, { on := 16, ground := Ground.phase }, { on := 17, ground := Ground.phase }], guard := none }) rfl (fun K hK => ?_) AllReadyH.nil
                  have st3 := p5_2.out.1.st rtM (ds := (me).cs) rfl rfl (one_of rfl)
                  obtain ⟨X3, hN⟩ : ∃ z, X2.setRow z9 (me).cs = z := ⟨_, rfl⟩
                  rw [hN] at st3
                  have B3 : Hid (Below wr.heap.size wr X3) := by rw [← hN]; exact below_setRow B2.out p5_2.out.2 _
                  have p5_3 : Hid (RvAt X3 z9 72 (me).cs ∧ wr.heap.size ≤ z9) := ⟨by rw [← hN]; exact p5_2.out.1.set, p5_2.out.2⟩
                  have p6_3 : Hid (RvAt X3 z10 72 #[.int .u64 0, .int .u32 0, .int .i64 0] ∧ wr.heap.size ≤ z10) := ⟨by rw [← hN]; exact p6_2.out.1.keptBut (grown_row _ _ _) (fun e => by have := NE.out; simp only [Option.some.injEq] at e; omega), p6_2.out.2⟩
                  go_simp
                  clear hN st3
                  clear hHeld
                  refine hK.out _ _ ⟨⟨_, B3.out⟩, rfl⟩ (fun hHeld => ?_)
                  clear hK K
                  try simp only [Act.put, List.setIfInBounds_toArray, List.set_cons_zero, List.set_cons_succ]
                  refine wpAnyH_ready (rs := [19]) (by kernel_rfl) (by simp) ?_
                  refine AllReadyH.cons (o := { dst := none, op := Op.store 72 (Operand.tmp 10) (Operand.tmp 53), type := 0, pos := "ref.go:78", after := #[{ on := 17, ground := Ground.data }, { on := 15, ground := Ground.data }, { on := 18, ground := Ground.chain }, { on := 0, ground := Ground.phase }, { on := 1, ground := Ground.phase }, { on := 2, ground := Ground.phase }, { on := 3, ground := Ground.phase }, { on := 4, ground := Ground.phase }, { on := 5, ground := Ground.phase }, { on := 6, ground := Ground.phase }, { on := 7, ground := Ground.phase }, { on := 8, ground := Ground.phase }, { on := 9, ground := Ground.phase }, { on := 10, ground := Ground.phase }, { on := 11, ground := Ground.phase }, { on := 12, ground := Ground.phase }, { on := 13, ground := Ground.phase }, { on := 14, ground := Ground.phase }, { on := 15, ground := Ground.phase }, { on := 16, ground := Ground.phase }, { on := 17, ground := Ground.phase }, { on := 18, ground := Ground.phase }], guard := none }) rfl (fun K hK => ?_) AllReadyH.nil
                  have st4 := p6_3.out.1.st rtM (ds := (you).cs) rfl rfl (one_of rfl)
                  obtain ⟨X4, hN⟩ : ∃ z, X3.setRow z10 (you).cs = z := ⟨_, rfl⟩
                  rw [hN] at st4
                  have B4 : Hid (Below wr.heap.size wr X4) := by rw [← hN]; exact below_setRow B3.out p6_3.out.2 _
                  have p6_4 : Hid (RvAt X4 z10 72 (you).cs ∧ wr.heap.size ≤ z10) := ⟨by rw [← hN]; exact p6_3.out.1.set, p6_3.out.2⟩
                  have p5_4 : Hid (RvAt X4 z9 72 (me).cs ∧ wr.heap.size ≤ z9) := ⟨by rw [← hN]; exact p5_3.out.1.keptBut (grown_row _ _ _) (fun e => by have := NE.out; simp only [Option.some.injEq] at e; omega), p5_3.out.2⟩
                  go_simp
                  clear hN st4
                  clear hHeld
                  refine hK.out _ _ ⟨⟨_, B4.out⟩, rfl⟩ (fun hHeld => ?_)
                  clear hK K
                  try simp only [Act.put, List.setIfInBounds_toArray, List.set_cons_zero, List.set_cons_succ]
                  refine wpAnyH_done (by kernel_rfl) ?_ _
                  refine NoPanic.normal ?_
                  clear hHeld
                  go_wp2_with fail
                  go_meet
                  exact ⟨z9, z10, rfl, rfl, p5_4.out.1, p6_4.out.1, NE.out, p5_4.out.2, B4.out⟩
                · skip
                  obtain ⟨X5, hN⟩ : ∃ z, X0.alloc (.cells #[.int .u64 0, .int .u32 0, .int .i64 0] 72) = z := ⟨_, rfl⟩
                  obtain ⟨z10, hz⟩ : ∃ z, X0.heap.size = z := ⟨_, rfl⟩
                  have bb : Below X0.heap.size X0 X5 := by rw [← hN]; exact (Below.refl _ _).alloc (Nat.le_refl _) _
                  have B5 : Hid (Below wr.heap.size wr X5) := below_over B0.out bb
                  have p6_5 : Hid (RvAt X5 z10 72 #[.int .u64 0, .int .u32 0, .int .i64 0] ∧ wr.heap.size ≤ z10) := ⟨by rw [← hN, ← hz]; exact RvAt.new _ _ _, by rw [← hz]; exact B0.out.size⟩
                  clear bb
                  go_simp
                  clear hN hz
                  clear hHeld
                  refine hK.out _ _ ⟨⟨_, B5.out⟩, rfl⟩ (fun hHeld => ?_)
                  clear hK K
                  try simp only [Act.put, List.setIfInBounds_toArray, List.set_cons_zero, List.set_cons_succ]
                  refine wpAnyH_ready (rs := [16]) (by kernel_rfl) (by simp) ?_
                  refine AllReadyH.cons (o := { dst := some 9, op := Op.alloc 72, type := 0, pos := "ref.go:78", after := #[], guard := none }) rfl (fun K hK => ?_) AllReadyH.nil
                  obtain ⟨X6, hN⟩ : ∃ z, X5.alloc (.cells #[.int .u64 0, .int .u32 0, .int .i64 0] 72) = z := ⟨_, rfl⟩
                  obtain ⟨z9, hz⟩ : ∃ z, X5.heap.size = z := ⟨_, rfl⟩
                  have bb : Below X5.heap.size X5 X6 := by rw [← hN]; exact (Below.refl _ _).alloc (Nat.le_refl _) _
                  have B6 : Hid (Below wr.heap.size wr X6) := below_over B5.out bb
                  have p5_6 : Hid (RvAt X6 z9 72 #[.int .u64 0, .int .u32 0, .int .i64 0] ∧ wr.heap.size ≤ z9) := ⟨by rw [← hN, ← hz]; exact RvAt.new _ _ _, by rw [← hz]; exact B5.out.size⟩
                  have p6_6 : Hid (RvAt X6 z10 72 #[.int .u64 0, .int .u32 0, .int .i64 0] ∧ wr.heap.size ≤ z10) := ⟨p6_5.out.1.below bb, p6_5.out.2⟩
                  have NE : Hid (z9 ≠ z10) := by have := p6_5.out.1.lt; show _ ≠ _; omega
                  clear bb
                  go_simp
                  clear hN hz
                  clear hHeld
                  refine hK.out _ _ ⟨⟨_, B6.out⟩, rfl⟩ (fun hHeld => ?_)
                  clear hK K
                  try simp only [Act.put, List.setIfInBounds_toArray, List.set_cons_zero, List.set_cons_succ]
                  refine wpAnyH_ready (rs := [18]) (by kernel_rfl) (by simp) ?_
                  refine AllReadyH.cons (o := { dst := none, op := Op.store 72 (Operand.tmp 9) (Operand.tmp 45), type := 0, pos := "ref.go:78", after := #[{ on := 16, ground := Ground.data }, { on := 7, ground := Ground.data }, { on := 0, ground := Ground.phase }, { on := 1, ground := Ground.phase }, { on := 2, ground := Ground.phase }, { on := 3, ground := Ground.phase }, { on := 4, ground := Ground.phase }, { on := 5, ground := Ground.phase }, { on := 6, ground := Ground.phase }, { on := 7, ground := Ground.phase }, { on := 8, ground := Ground.textOnly Departure.lateStores }, { on := 9, ground := Ground.textOnly Departure.lateStores }, { on := 10, ground := Ground.textOnly Departure.lateStores }, { on := 11, ground := Ground.textOnly Departure.lateStores }, { on := 12, ground := Ground.textOnly Departure.lateStores }, { on := 13, ground := Ground.textOnly Departure.lateStores }, { on := 14, ground := Ground.textOnly Departure.lateStores }, { on := 15, ground := Ground.textOnly Departure.lateStores }, { on := 16, ground := Ground.phase }, { on := 17, ground := Ground.phase }], guard := none }) rfl (fun K hK => ?_) AllReadyH.nil
                  have st7 := p5_6.out.1.st rtM (ds := (me).cs) rfl rfl (one_of rfl)
                  obtain ⟨X7, hN⟩ : ∃ z, X6.setRow z9 (me).cs = z := ⟨_, rfl⟩
                  rw [hN] at st7
                  have B7 : Hid (Below wr.heap.size wr X7) := by rw [← hN]; exact below_setRow B6.out p5_6.out.2 _
                  have p5_7 : Hid (RvAt X7 z9 72 (me).cs ∧ wr.heap.size ≤ z9) := ⟨by rw [← hN]; exact p5_6.out.1.set, p5_6.out.2⟩
                  have p6_7 : Hid (RvAt X7 z10 72 #[.int .u64 0, .int .u32 0, .int .i64 0] ∧ wr.heap.size ≤ z10) := ⟨by rw [← hN]; exact p6_6.out.1.keptBut (grown_row _ _ _) (fun e => by have := NE.out; simp only [Option.some.injEq] at e; omega), p6_6.out.2⟩
                  go_simp
                  clear hN st7
                  clear hHeld
                  refine hK.out _ _ ⟨⟨_, B7.out⟩, rfl⟩ (fun hHeld => ?_)
                  clear hK K
                  try simp only [Act.put, List.setIfInBounds_toArray, List.set_cons_zero, List.set_cons_succ]
                  refine wpAnyH_ready (rs := [19]) (by kernel_rfl) (by simp) ?_
                  refine AllReadyH.cons (o := { dst := none, op := Op.store 72 (Operand.tmp 10) (Operand.tmp 53), type := 0, pos := "ref.go:78", after := #[{ on := 17, ground := Ground.data }, { on := 15, ground := Ground.data }, { on := 18, ground := Ground.chain }, { on := 0, ground := Ground.phase }, { on := 1, ground := Ground.phase }, { on := 2, ground := Ground.phase }, { on := 3, ground := Ground.phase }, { on := 4, ground := Ground.phase }, { on := 5, ground := Ground.phase }, { on := 6, ground := Ground.phase }, { on := 7, ground := Ground.phase }, { on := 8, ground := Ground.phase }, { on := 9, ground := Ground.phase }, { on := 10, ground := Ground.phase }, { on := 11, ground := Ground.phase }, { on := 12, ground := Ground.phase }, { on := 13, ground := Ground.phase }, { on := 14, ground := Ground.phase }, { on := 15, ground := Ground.phase }, { on := 16, ground := Ground.phase }, { on := 17, ground := Ground.phase }, { on := 18, ground := Ground.phase }], guard := none }) rfl (fun K hK => ?_) AllReadyH.nil
                  have st8 := p6_7.out.1.st rtM (ds := (you).cs) rfl rfl (one_of rfl)
                  obtain ⟨X8, hN⟩ : ∃ z, X7.setRow z10 (you).cs = z := ⟨_, rfl⟩
                  rw [hN] at st8
                  have B8 : Hid (Below wr.heap.size wr X8) := by rw [← hN]; exact below_setRow B7.out p6_7.out.2 _
                  have p6_8 : Hid (RvAt X8 z10 72 (you).cs ∧ wr.heap.size ≤ z10) := ⟨by rw [← hN]; exact p6_7.out.1.set, p6_7.out.2⟩
                  have p5_8 : Hid (RvAt X8 z9 72 (me).cs ∧ wr.heap.size ≤ z9) := ⟨by rw [← hN]; exact p5_7.out.1.keptBut (grown_row _ _ _) (fun e => by have := NE.out; simp only [Option.some.injEq] at e; omega), p5_7.out.2⟩
                  go_simp
                  clear hN st8
                  clear hHeld
                  refine hK.out _ _ ⟨⟨_, B8.out⟩, rfl⟩ (fun hHeld => ?_)
                  clear hK K
                  try simp only [Act.put, List.setIfInBounds_toArray, List.set_cons_zero, List.set_cons_succ]
                  refine wpAnyH_done (by kernel_rfl) ?_ _
                  refine NoPanic.normal ?_
                  clear hHeld
                  go_wp2_with fail
                  go_meet
                  exact ⟨z9, z10, rfl, rfl, p5_8.out.1, p6_8.out.1, NE.out, p5_8.out.2, B8.out⟩
              case rest =>
                obtain ⟨z9, z10, rfl, rfl, q9, q10, hne, hz9, bX⟩ := hcut
                have K : Hid (RvAt wc z9 72 me.cs ∧ RvAt wc z10 72 you.cs ∧ z9 ≠ z10 ∧ wr.heap.size ≤ z9 ∧ Below wr.heap.size wr wc) := ⟨q9, q10, hne, hz9, bX⟩
                have y1 := fun q : Later wc => MvAt.c1 (q10.below q.below)
                have y2 := fun q : Later wc => sde2 (((HG.out.2.2.1.below D.out.1.bel).below bX).below q.below) D.out.2.2.2.2.1
                have hw := wrap32 D.out.2.2.2.2.2.2.2.2.2.2
                obtain ⟨ct, hct⟩ : ∃ z, you.c + s.ca = z := ⟨_, rfl⟩
                rw [hct] at hw
                have HCT : Hid (you.c + s.ca = ct) := hct
                clear q9 q10 hne hz9 bX hct
                go_wp2_with fail
                refine wp_region_later (by kernel_rfl) (by kernel_rfl) ?_
                repeat (go_big_quiet_step (first | exact rfl))
                refine wpQuiet_nil ?_
                intro _ hw'
                obtain ⟨q, rfl⟩ := hw'
                clear y1 y2 hw
                have KK : Hid (RvAt q.val z9 72 me.cs ∧ RvAt q.val z10 72 you.cs ∧ Below wr.heap.size wr q.val) := ⟨K.out.1.below q.below, K.out.2.1.below q.below, below_later K.out.2.2.2.2 q⟩
                have m0 := MvAt.c0 KK.out.1
                have m1 := MvAt.c1 KK.out.1
                have u0 := MvAt.c0 KK.out.2.1
                have NO : Hid (near M s = false → MW w q.val g i c2 M ∧ NI ids L M ∧ lab M = labT ids L k (j + 1) ∧ (∀ t, t < M.length → (gtN M t).p = -1)) := fun hn => ⟨D.out.1.below KK.out.2.2, D.out.2.1, by rw [labT_next D.out.2.2.2.2.1, ← D.out.2.2.1, near_no D.out.2.1 HG.out.1 D.out.2.2.2.2.2.1 hn], D.out.2.2.2.1⟩
                have YS : Hid (near M s = true → NI ids L (go1 M s (-1)) ∧ lab (go1 M s (-1)) = labT ids L k (j + 1) ∧ (∀ t, t < (go1 M s (-1)).length → (gtN (go1 M s (-1)) t).p = -1)) := fun hn => ⟨go1_ni D.out.2.1 HG.out.1 D.out.2.2.2.2.2.1 hn (-1), by rw [labT_next D.out.2.2.2.2.1, ← D.out.2.2.1, go1_lab D.out.2.1 HG.out.1 D.out.2.2.2.2.2.1 hn], fun t ht => go1_q D.out.2.2.2.1 t (by rw [go1_len] at ht; exact ht)⟩
                have NR : Hid (near M s = decide (you.r < me.r ∨ (you.r = me.r ∧ ct < me.c))) := by show _ = _; unfold near; rw [D.out.2.2.2.2.2.2.1, D.out.2.2.2.2.2.2.2.1, HCT.out]
                have GO : Hid (go1 M s (-1) = M.set s.a ⟨you.r, ct, me.p⟩) := by
                  show _ = _
                  unfold go1
                  rw [D.out.2.2.2.2.2.2.2.1, HCT.out]
                  have := D.out.2.2.2.1 s.a (by rw [D.out.1.len]; exact D.out.2.2.2.2.2.2.2.2.1)
                  rw [D.out.2.2.2.2.2.2.1] at this
                  rw [this]
                by_cases h1 : (you.r : Int) < (me.r : Int)
                · have YY : Hid _ := YS.out (by rw [NR.out]; exact decide_eq_true (by omega))
                  clear NO YS NR
                  obtain ⟨U1, s1, r1, g1⟩ := MvAt.s0 KK.out.1 you.r
                  obtain ⟨U2, s2, r2, g2⟩ := MvAt.s1 r1 ct
                  have hz := K.out.2.2.2.1
                  have bU : Below wr.heap.size wr U2 := gro (gro KK.out.2.2 g1 hz KK.out.2.2.size) g2 hz (gro KK.out.2.2 g1 hz KK.out.2.2.size).size
                  have E : Hid (RvAt U2 z9 72 (Nd.mk you.r ct me.p).cs ∧ Below wr.heap.size wr U2) := ⟨r2, bU⟩
                  clear r1 g1 r2 g2 hz bU
                  go_wp2_with fail
                  clear s1 s2 m0 m1 u0
                  have t0 := fun p : Later U2 => sde0 (((HG.out.2.2.1.below D.out.1.bel).below E.out.2).below p.below) D.out.2.2.2.2.1
                  have t1 := fun p : Later U2 => (E.out.1.below p.below).ld rtM rfl
                  refine wp_region_later_tail 7 (by kernel_rfl) (by kernel_rfl) ?_
                  simp only [List.take_succ_cons, List.take_zero, List.drop_succ_cons, List.drop_zero]
                  repeat (go_big_quiet_step (first | exact rfl))
                  refine wpQuiet_nil ?_
                  intro p
                  obtain ⟨U3, s3, hM, _⟩ := ((D.out.1.below E.out.2).below p.below).put D.out.2.2.2.2.2.2.2.2.1 ⟨you.r, ct, me.p⟩
                  rw [← GO.out] at hM
                  have Z : Hid (MW w U3 g i c2 (go1 M s (-1))) := hM
                  clear hM t0 t1
                  go_wp2
                  go_roundw
                  case rel => exact ⟨j + 1, go1 M s (-1), by omega, by go_num, Z.out, YY.out.1, YY.out.2.1, YY.out.2.2⟩
                  case measure => simp [intOf]; omega
                · cases h2 : ((you.r : Int) == (me.r : Int))
                  · have Z : Hid _ := NO.out (by have h2' := beq_eq_false_iff_ne.1 h2; rw [NR.out]; exact decide_eq_false (by omega))
                    clear NO YS NR GO
                    go_wp2
                    go_roundw
                    case rel => exact ⟨j + 1, M, by omega, by go_num, Z.out.1, Z.out.2.1, Z.out.2.2.1, Z.out.2.2.2⟩
                    case measure => simp [intOf]; omega
                  · by_cases h3 : (ct : Int) < (me.c : Int)
                    · have YY : Hid _ := YS.out (by have h2' := beq_iff_eq.1 h2; rw [NR.out]; exact decide_eq_true (by omega))
                      clear NO YS NR
                      obtain ⟨U1, s1, r1, g1⟩ := MvAt.s0 KK.out.1 you.r
                      obtain ⟨U2, s2, r2, g2⟩ := MvAt.s1 r1 ct
                      have hz := K.out.2.2.2.1
                      have bU : Below wr.heap.size wr U2 := gro (gro KK.out.2.2 g1 hz KK.out.2.2.size) g2 hz (gro KK.out.2.2 g1 hz KK.out.2.2.size).size
                      have E : Hid (RvAt U2 z9 72 (Nd.mk you.r ct me.p).cs ∧ Below wr.heap.size wr U2) := ⟨r2, bU⟩
                      clear r1 g1 r2 g2 hz bU
                      go_wp2_with fail
                      clear s1 s2 m0 m1 u0
                      have t0 := fun p : Later U2 => sde0 (((HG.out.2.2.1.below D.out.1.bel).below E.out.2).below p.below) D.out.2.2.2.2.1
                      have t1 := fun p : Later U2 => (E.out.1.below p.below).ld rtM rfl
                      refine wp_region_later_tail 7 (by kernel_rfl) (by kernel_rfl) ?_
                      simp only [List.take_succ_cons, List.take_zero, List.drop_succ_cons, List.drop_zero]
                      repeat (go_big_quiet_step (first | exact rfl))
                      refine wpQuiet_nil ?_
                      intro p
                      obtain ⟨U3, s3, hM, _⟩ := ((D.out.1.below E.out.2).below p.below).put D.out.2.2.2.2.2.2.2.2.1 ⟨you.r, ct, me.p⟩
                      rw [← GO.out] at hM
                      have Z : Hid (MW w U3 g i c2 (go1 M s (-1))) := hM
                      clear hM t0 t1
                      go_wp2
                      go_roundw
                      case rel => exact ⟨j + 1, go1 M s (-1), by omega, by go_num, Z.out, YY.out.1, YY.out.2.1, YY.out.2.2⟩
                      case measure => simp [intOf]; omega
                    · have Z : Hid _ := NO.out (by have h2' := beq_iff_eq.1 h2; rw [NR.out]; exact decide_eq_false (by omega))
                      clear NO YS NR GO
                      go_wp2
                      go_roundw
                      case rel => exact ⟨j + 1, M, by omega, by go_num, Z.out.1, Z.out.2.1, Z.out.2.2.1, Z.out.2.2.2⟩
                      case measure => simp [intOf]; omega
            · have hjm : j = m := by omega
              subst hjm
              have hj1 : ¬ (j : Int) < (j : Int) := by omega
              have Z : Hid (MW w wr g i c2 M ∧ NI ids L M ∧ lab M = labT ids L (k + 1) 0 ∧ (∀ t, t < M.length → (gtN M t).p = -1)) := ⟨hMW, hNI, by rw [hla]; exact labT_round (by rw [← sdl_len, HG.out.2.2.2.2]; exact Nat.le_refl _), hp⟩
              clear hMW hNI hla hp J
              go_wp2
              go_roundw
              case rel => exact ⟨k + 1, M, by omega, by go_num, Z.out.1, Z.out.2.1, Z.out.2.2.1, Z.out.2.2.2⟩
              case measure => simp [intOf]; omega
        · have hki : k = i := by omega
          subst hki
          have hk1 : ¬ (k : Int) < (k : Int) := by omega
          have hN := ndAt_of (p := fun _ => -1) hNI (fun t _ => by rw [hla]; show labT ids L k 0 t = key ids L t; unfold key; rw [HG.out.2.2.2.1]; rfl) (fun t ht => hp t (by rw [hNI.len]; exact ht))
          have Z : Hid (PAt eM wr g c2 (ndAt ids L (fun _ => -1)) ∧ Below w.heap.size w wr ∧ w.heap.size ≤ g) := ⟨by rw [← hN]; exact hMW.pat, hMW.bel, hMW.low⟩
          clear hMW hNI hla hp hN M0
          go_wp2
          go_ret
          exact ⟨⟨g, c2, rfl, Z.out.2.2, Z.out.1⟩, Z.out.2.1⟩
end Go.Proofs.Ytcagdfdhpbeolaa
