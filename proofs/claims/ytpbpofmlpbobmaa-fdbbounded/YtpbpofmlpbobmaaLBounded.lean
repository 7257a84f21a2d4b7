/-
  Never more entries than there is room, in order, and static ones stay: the walk of the law.
-/
import Derived.Test.YtpbpofmlpbobmaaLBp
import Derived.Deep.CutBlock
import Derived.Deep.RegionHeld3
namespace Go.Proofs.Ytpbpofmlpbobmaa
set_option linter.unusedVariables false
set_option maxRecDepth 8000
set_option linter.unusedSimpArgs false
open Go.RowKit

attribute [local go_sem ↓] ldK stK ldM stM ldP stP ldE stE ldO stO
set_option maxHeartbeats 8000000 in
theorem FdbBounded_walk (room : Int) (la : Option Addr) (ln lc : Nat) (l : List Oq) (w : World) (hr : 0 ≤ room ∧ room ≤ 255) (hl : OpsAt w la ln lc l) :
    Calls Try.prog 4 #[.int .u8 room, .slice la ln lc] w fun r w' => r = .returned (.bool true) ∧ Below w.heap.size w w' := by
  obtain ⟨t, ht0, htm⟩ : ∃ t : Int, room % 8 = t ∧ (0 ≤ t ∧ t < 8) := ⟨_, rfl, by omega⟩
  obtain ⟨n, hn⟩ : ∃ n : Int, 1 + t = n := ⟨_, rfl⟩
  have hw0 : wrap64 room = room := IntWalk.wrap64_in _ (by omega)
  have hw1 : room.tmod 8 = t := by rw [Int.tmod_eq_emod_of_nonneg (by omega)]; exact ht0
  have hw2 : wrap64 (1 + t) = n := by rw [← hn]; exact IntWalk.wrap64_in _ (by omega)
  have hn8 : 1 ≤ n ∧ n ≤ 8 := by omega
  have HL : Hid (OpsAt w la ln lc l) := hl
  obtain ⟨c, hc⟩ : ∃ c : Cf, c = ⟨4, n, 5⟩ := ⟨_, rfl⟩
  have ok : okC c = true := by rw [hc]; simp [okC, inn]; omega
  have hcr : c.room = n := by rw [hc]
  have OK : Hid (okC c = true ∧ c = ⟨4, n, 5⟩ ∧ c.room = n) := ⟨ok, hc, hcr⟩
  clear hr ht0 htm hn hl ok hcr hc
  go_enter Try.func4, Try.ntmps4
  go_wp2_with fail
  have hnew := new_yes c w OK.out.1
  rw [OK.out.2.1] at hnew
  refine hnew.mono ?_
  rw [← OK.out.2.1]
  clear hnew hw0 hw1
  rintro _ W1 ⟨p, b, rfl, d1, hp1, hb1, b1⟩
  rw [hw2]
  clear hw2
  have G1 : Hid (Db W1 p b c [] ∧ Below w.heap.size w W1 ∧ w.heap.size ≤ b) := ⟨d1, b1, hb1⟩
  clear d1 b1 hp1 hb1
  go_wp2_with fail
  refine (awake_any _).mono ?_
  rintro _ W2 ⟨rfl, b2⟩
  have G2 : Hid (Db W2 p b c [] ∧ Below w.heap.size w W2 ∧ w.heap.size ≤ b) := ⟨G1.out.1.below b2, below_over G1.out.2.1 b2, G1.out.2.2⟩
  clear b2 G1
  go_wp2_with fail
  go_loopw [8] (fun v8 wr => ∃ (i : Nat) (m : List En), i ≤ 80 ∧ i ≤ ln ∧ v8 = .int .i64 i ∧ Db wr p b c m ∧ Below w.heap.size w wr) (fun v8 _ => 80 - (intOf v8).toNat)
  case atStart => exact ⟨0, [], by omega, by omega, rfl, G2.out.1, G2.out.2.1⟩
  case round =>
    obtain ⟨i, m, hi, hin, rfl, hd, hB⟩ := hrel
    have hi0 : (0 : Int) ≤ (i : Int) := by omega
    by_cases hit : i < ln ∧ i < 80
    · have hi1 : (i : Int) < (ln : Int) := by omega
      have hi2 : (i : Int) < 80 := by omega
      obtain ⟨lb, lo, rfl⟩ := HL.out.2.2.2.1 (by omega)
      have ho := HL.out.wf i (by omega)
      obtain ⟨o, hx⟩ : ∃ o, gtO l i = o := ⟨_, rfl⟩
      have HX : Hid (gtO l i = o) := hx
      rw [hx] at ho
      have HR : Hid (Db wr p b c m ∧ Below w.heap.size w wr ∧ o.wf) := ⟨hd, hB, ho⟩
      clear hd hB ho hx
      go_wp2_with fail
      refine (all_any p b c m _ HR.out.1).mono ?_
      rintro _ V1 ⟨v9, rfl, o9, b9⟩
      obtain ⟨a9, c9, rfl, s9, n9⟩ := o9.form
      have fl := (HL.out.below (below_over HR.out.2.1 b9)).ld i (by omega)
      rw [HX.out] at fl
      have G3 : Hid (Db V1 p b c m ∧ Below w.heap.size w V1 ∧ SlAt V1 a9 m.length c9 m ∧ (∀ x, a9 = some x → x.block ≠ b)) := ⟨HR.out.1.below b9, below_over HR.out.2.1 b9, s9, fun x hx e => by have := (n9 x hx).1; have := HR.out.1.lt.2; omega⟩
      clear o9 s9 n9 b9
      go_wp2_with fail
      refine (do_any p b c m o _ G3.out.1 HR.out.2.2).mono ?_
      rintro _ V2 ⟨rfl, d2, g2⟩
      obtain ⟨m', hm'⟩ : ∃ m', doS c m o = m' := ⟨_, rfl⟩
      rw [hm'] at d2
      have HD : Hid (doS c m o = m') := hm'
      have G4 : Hid (Db V2 p b c m' ∧ Below w.heap.size w V2 ∧ SlAt V2 a9 m.length c9 m) := ⟨d2, G3.out.2.1.trans (below_of_grown g2 G3.out.2.1.size (fun j e => by cases e; exact G2.out.2.2)), G3.out.2.2.1.keptBut g2 (fun x hx e => G3.out.2.2.2 x hx (by cases e; rfl))⟩
      clear d2 g2 hm' fl
      go_wp2_with fail
      refine (all_any p b c m' _ G4.out.1).mono ?_
      rintro _ V3 ⟨v10, rfl, o10, b10⟩
      obtain ⟨a10, c10, rfl, s10, n10⟩ := o10.form
      obtain ⟨z, hz⟩ : ∃ z, m.length = z := ⟨_, rfl⟩
      obtain ⟨z', hz'⟩ : ∃ z', m'.length = z' := ⟨_, rfl⟩
      have hzn : (z' : Int) ≤ n := by have := G4.out.1.len; rw [OK.out.2.2, hz'] at this; exact this
      have hzm : z ≤ 8 := by have := HR.out.1.len; rw [OK.out.2.2, hz] at this; omega
      have s9' := G4.out.2.2.below b10
      rw [hz] at s9' ⊢
      rw [hz'] at s10 ⊢
      have G5 : Hid (Db V3 p b c m' ∧ Below w.heap.size w V3 ∧ SlAt V3 a9 z c9 m ∧ SlAt V3 a10 z' c10 m' ∧ m.length = z ∧ m'.length = z' ∧ z ≤ 8) := ⟨G4.out.1.below b10, below_over G4.out.2.1 b10, s9', s10, hz, hz', hzm⟩
      have hz8 : (z' : Int) ≤ 8 := by omega
      have hz80 : (z : Int) ≤ 8 := by omega
      have hzn' : ¬ n < (z' : Int) := by omega
      have hzn2 : decide (n < (z' : Int)) = false := by simpa using hzn'
      clear o10 s10 n10 b10 s9' hz hz' hzm
      go_wp2_with fail
      refine (len_any p b c m' _ G5.out.1).mono ?_
      rintro _ Y ⟨rfl, hY⟩
      rw [hY, G5.out.2.2.2.2.2.1]
      clear hY Y hzn' hzn2
      go_wp2_with fail
      go_loopw [11] (fun v11 wr2 => ∃ k : Nat, 1 ≤ k ∧ (k ≤ z' ∨ k = 1) ∧ v11 = .int .i64 k ∧ Below V3.heap.size V3 wr2) (fun v11 _ => z' - (intOf v11).toNat)
      case atStart => exact ⟨1, by omega, by omega, rfl, Below.refl _ _⟩
      case round =>
        obtain ⟨k, hk1, hkz, rfl, hB⟩ := hrel
        have hk0 : (0 : Int) ≤ (k : Int) := by omega
        by_cases hkt : k < z'
        · have hkt1 : (k : Int) < (z' : Int) := by omega
          obtain ⟨g, og, rfl⟩ := G5.out.2.2.2.1.some' (by omega)
          obtain ⟨j, hj⟩ : ∃ j, j + 1 = k := ⟨k - 1, by omega⟩
          obtain ⟨x, hx⟩ : ∃ x, m'[j]? = some x := ⟨_, List.getElem?_eq_getElem (by have := G5.out.2.2.2.2.2.1; omega)⟩
          obtain ⟨y, hy⟩ : ∃ y, m'[k]? = some y := ⟨_, List.getElem?_eq_getElem (by have := G5.out.2.2.2.2.2.1; omega)⟩
          have hj1 : wrap64 ((k : Int) - 1) = (j : Int) := by rw [IntWalk.wrap64_in _ (by omega)]; omega
          have hj2 : IntKind.i64.wrap ((k : Int) - 1) = (j : Int) := by rw [IntWalk.i64_left]; exact hj1
          have hj0 : (0 : Int) ≤ (j : Int) := by omega
          have hjz : (j : Int) < (z' : Int) := by omega
          have l1 := fun q : Later wr => ((G5.out.2.2.2.1.below hB).below q.below).ld hx
          have l2 := fun q : Later wr => ((G5.out.2.2.2.1.below hB).below q.below).ld hy
          have hxy : x.rk < y.rk := by
            have := List.pairwise_iff_getElem.1 G5.out.1.map.1 j k (by have := G5.out.2.2.2.2.2.1; omega) (by have := G5.out.2.2.2.2.2.1; omega) (by omega)
            rw [List.getElem?_eq_getElem (by have := G5.out.2.2.2.2.2.1; omega)] at hx hy
            cases hx
            cases hy
            exact this
          have hxw := G5.out.1.map.2.1 x (List.mem_of_getElem? hx)
          have hyw := G5.out.1.map.2.1 y (List.mem_of_getElem? hy)
          have HB : Hid (Below V3.heap.size V3 wr ∧ x.rk < y.rk ∧ x.wf ∧ y.wf ∧ j + 1 = k) := ⟨hB, hxy, hxw, hyw, hj⟩
          clear hB hxy hxw hyw hx hy hj
          go_upto_region 16 with fail
          go_cut [12, 13] from 73 to 81 (fun v12 v13 wx => ∃ q r, v12 = .pointer (some ⟨q, 0, none⟩) ∧ v13 = .pointer (some ⟨r, 0, none⟩) ∧ RvAt wx q 55 x.cs ∧ RvAt wx r 55 y.cs ∧ Below wr.heap.size wr wx)
          case first =>
            obtain ⟨X0, hX0⟩ : ∃ X0, wr.drew = X0 := ⟨_, rfl⟩
            have bX : Below wr.heap.size wr X0 := by rw [← hX0]; exact (Below.refl _ _).drew
            refine wp_region_noPanic ?_
            refine wp_region_held_drew (S := fun w' => ∃ x : Later wr, w' = x.val) (by kernel_rfl) ⟨⟨_, (Below.refl _ _).drew⟩, rfl⟩ (fun hHeld => ?_)
            rw [hX0] at hHeld ⊢
            clear hX0
            refine wpAnyH_take (i := 0) (oi := { dst := some 73, op := Op.move (Operand.tmp 10), type := 27, pos := "law.go:118", after := #[], guard := none }) (v := ?_) rfl (by kernel_rfl) (by kernel_rfl) (by kernel_rfl) (fun _ _ _ h => h) (Or.inl ⟨by rfl, ?_⟩) hHeld ?_
            rotate_left
            · intro W_ hSw_
              obtain ⟨q, rfl⟩ := hSw_
              first | (go_simp; done) | (go_simp; with_reducible rfl)
            rotate_left
            try simp only [Act.put, List.setIfInBounds_toArray, List.set_cons_zero, List.set_cons_succ]
            refine wpAnyH_take (i := 1) (oi := { dst := some 74, op := Op.move (Operand.tmp 11), type := 3, pos := "law.go:118", after := #[], guard := none }) (v := ?_) rfl (by kernel_rfl) (by kernel_rfl) (by kernel_rfl) (fun _ _ _ h => h) (Or.inl ⟨by rfl, ?_⟩) hHeld ?_
            rotate_left
            · intro W_ hSw_
              obtain ⟨q, rfl⟩ := hSw_
              first | (go_simp; done) | (go_simp; with_reducible rfl)
            rotate_left
            try simp only [Act.put, List.setIfInBounds_toArray, List.set_cons_zero, List.set_cons_succ]
            refine wpAnyH_take (i := 2) (oi := { dst := some 75, op := Op.binOp BinOp.sub 3 (Operand.tmp 74) (Operand.const (Value.int IntKind.i64 1)) 3, type := 3, pos := "law.go:118", after := #[{ on := 1, ground := Ground.data }], guard := none }) (v := ?_) rfl (by kernel_rfl) (by kernel_rfl) (by kernel_rfl) (fun _ _ _ h => h) (Or.inl ⟨by rfl, ?_⟩) hHeld ?_
            rotate_left
            · intro W_ hSw_
              obtain ⟨q, rfl⟩ := hSw_
              first | (go_simp; done) | (go_simp; with_reducible rfl)
            rotate_left
            try simp only [Act.put, List.setIfInBounds_toArray, List.set_cons_zero, List.set_cons_succ]
            refine wpAnyH_take (i := 3) (oi := { dst := some 76, op := Op.indexAddr 27 (Operand.tmp 73) (Operand.tmp 75), type := 0, pos := "law.go:118", after := #[{ on := 0, ground := Ground.data }, { on := 2, ground := Ground.data }], guard := none }) (v := ?_) rfl (by kernel_rfl) (by kernel_rfl) (by kernel_rfl) (fun _ _ _ h => h) (Or.inl ⟨by rfl, ?_⟩) hHeld ?_
            rotate_left
            · intro W_ hSw_
              obtain ⟨q, rfl⟩ := hSw_
              first | (go_simp; done) | (go_simp; with_reducible rfl)
            rotate_left
            try simp only [Act.put, List.setIfInBounds_toArray, List.set_cons_zero, List.set_cons_succ]
            refine wpAnyH_take (i := 4) (oi := { dst := some 77, op := Op.load 55 (Operand.tmp 76), type := 55, pos := "law.go:118", after := #[{ on := 3, ground := Ground.data }], guard := none }) (v := ?_) rfl (by kernel_rfl) (by kernel_rfl) (by kernel_rfl) (fun _ _ _ h => h) (Or.inl ⟨by rfl, ?_⟩) hHeld ?_
            rotate_left
            · intro W_ hSw_
              obtain ⟨q, rfl⟩ := hSw_
              first | (go_simp; done) | (go_simp; with_reducible rfl)
            rotate_left
            try simp only [Act.put, List.setIfInBounds_toArray, List.set_cons_zero, List.set_cons_succ]
            refine wpAnyH_take (i := 5) (oi := { dst := some 78, op := Op.move (Operand.tmp 10), type := 27, pos := "law.go:118", after := #[], guard := none }) (v := ?_) rfl (by kernel_rfl) (by kernel_rfl) (by kernel_rfl) (fun _ _ _ h => h) (Or.inl ⟨by rfl, ?_⟩) hHeld ?_
            rotate_left
            · intro W_ hSw_
              obtain ⟨q, rfl⟩ := hSw_
              first | (go_simp; done) | (go_simp; with_reducible rfl)
            rotate_left
            try simp only [Act.put, List.setIfInBounds_toArray, List.set_cons_zero, List.set_cons_succ]
            refine wpAnyH_take (i := 6) (oi := { dst := some 79, op := Op.move (Operand.tmp 11), type := 3, pos := "law.go:118", after := #[], guard := none }) (v := ?_) rfl (by kernel_rfl) (by kernel_rfl) (by kernel_rfl) (fun _ _ _ h => h) (Or.inl ⟨by rfl, ?_⟩) hHeld ?_
            rotate_left
            · intro W_ hSw_
              obtain ⟨q, rfl⟩ := hSw_
              first | (go_simp; done) | (go_simp; with_reducible rfl)
            rotate_left
            try simp only [Act.put, List.setIfInBounds_toArray, List.set_cons_zero, List.set_cons_succ]
            refine wpAnyH_take (i := 7) (oi := { dst := some 80, op := Op.indexAddr 27 (Operand.tmp 78) (Operand.tmp 79), type := 0, pos := "law.go:118", after := #[{ on := 5, ground := Ground.data }, { on := 6, ground := Ground.data }], guard := none }) (v := ?_) rfl (by kernel_rfl) (by kernel_rfl) (by kernel_rfl) (fun _ _ _ h => h) (Or.inl ⟨by rfl, ?_⟩) hHeld ?_
            rotate_left
            · intro W_ hSw_
              obtain ⟨q, rfl⟩ := hSw_
              first | (go_simp; done) | (go_simp; with_reducible rfl)
            rotate_left
            try simp only [Act.put, List.setIfInBounds_toArray, List.set_cons_zero, List.set_cons_succ]
            refine wpAnyH_take (i := 8) (oi := { dst := some 81, op := Op.load 55 (Operand.tmp 80), type := 55, pos := "law.go:118", after := #[{ on := 7, ground := Ground.data }], guard := none }) (v := ?_) rfl (by kernel_rfl) (by kernel_rfl) (by kernel_rfl) (fun _ _ _ h => h) (Or.inl ⟨by rfl, ?_⟩) hHeld ?_
            rotate_left
            · intro W_ hSw_
              obtain ⟨q, rfl⟩ := hSw_
              first | (go_simp; done) | (go_simp; with_reducible rfl)
            rotate_left
            try simp only [Act.put, List.setIfInBounds_toArray, List.set_cons_zero, List.set_cons_succ]
            refine wpAnyH_ready (rs := [9, 10]) (by kernel_rfl) (by simp) ?_
            refine AllReadyH.cons (o := { dst := some 12, op := Op.alloc 55, type := 0, pos := "law.go:118", after := #[], guard := none }) rfl (fun K hK => ?_) (AllReadyH.cons (o := { dst := some 13, op := Op.alloc 55, type := 0, pos := "law.go:118", after := #[], guard := none }) rfl (fun K hK => ?_) AllReadyH.nil)
            · skip
              go_simp
              clear hHeld
              refine hK.out _ _ ⟨⟨_, bX.alloc bX.size _⟩, rfl⟩ (fun hHeld => ?_)
              clear hK K
              try simp only [Act.put, List.setIfInBounds_toArray, List.set_cons_zero, List.set_cons_succ]
              refine wpAnyH_ready (rs := [10]) (by kernel_rfl) (by simp) ?_
              refine AllReadyH.cons (o := { dst := some 13, op := Op.alloc 55, type := 0, pos := "law.go:118", after := #[], guard := none }) rfl (fun K hK => ?_) AllReadyH.nil
              go_simp
              clear hHeld
              refine hK.out _ _ ⟨⟨_, (bX.alloc bX.size _).alloc (by simp; have := bX.size; omega) _⟩, rfl⟩ (fun hHeld => ?_)
              clear hK K
              try simp only [Act.put, List.setIfInBounds_toArray, List.set_cons_zero, List.set_cons_succ]
              obtain ⟨Y1, Y2, t1, t2, r1, r2, e1, e2⟩ := two_en X0 #[.int .i64 0, .int .u8 0, .int .u8 0, .int .u8 0, .int .u8 0, .int .u8 0, .int .u8 0, .int .i64 0, .bool false, .int .i64 0] rfl x y X0.heap.size (X0.heap.size + 1) (.inl ⟨rfl, rfl⟩)
              have F : Hid (RvAt Y2 (X0.heap.size) 55 x.cs ∧ RvAt Y2 ((X0.heap.size + 1)) 55 y.cs ∧ Below wr.heap.size wr Y1 ∧ Below wr.heap.size wr Y2) := ⟨r1, r2, below_over bX e1, below_over bX e2⟩
              clear r1 r2 e1 e2
              refine wpAnyH_ready (rs := [11]) (by kernel_rfl) (by simp) ?_
              refine AllReadyH.cons (o := { dst := none, op := Op.store 55 (Operand.tmp 12) (Operand.tmp 77), type := 0, pos := "law.go:118", after := #[{ on := 9, ground := Ground.data }, { on := 4, ground := Ground.data }, { on := 0, ground := Ground.phase }, { on := 1, ground := Ground.phase }, { on := 2, ground := Ground.phase }, { on := 3, ground := Ground.phase }, { on := 4, ground := Ground.phase }, { on := 5, ground := Ground.textOnly Departure.lateStores }, { on := 6, ground := Ground.textOnly Departure.lateStores }, { on := 7, ground := Ground.textOnly Departure.lateStoresUnsure }, { on := 8, ground := Ground.phase }, { on := 9, ground := Ground.phase }, { on := 10, ground := Ground.phase }], guard := none }) rfl (fun K hK => ?_) AllReadyH.nil
              go_simp
              clear hHeld
              refine hK.out _ _ ⟨⟨_, F.out.2.2.1⟩, rfl⟩ (fun hHeld => ?_)
              clear hK K
              try simp only [Act.put, List.setIfInBounds_toArray, List.set_cons_zero, List.set_cons_succ]
              refine wpAnyH_ready (rs := [12]) (by kernel_rfl) (by simp) ?_
              refine AllReadyH.cons (o := { dst := none, op := Op.store 55 (Operand.tmp 13) (Operand.tmp 81), type := 0, pos := "law.go:118", after := #[{ on := 10, ground := Ground.data }, { on := 8, ground := Ground.data }, { on := 11, ground := Ground.chain }, { on := 0, ground := Ground.phase }, { on := 1, ground := Ground.phase }, { on := 2, ground := Ground.phase }, { on := 3, ground := Ground.phase }, { on := 4, ground := Ground.phase }, { on := 5, ground := Ground.phase }, { on := 6, ground := Ground.phase }, { on := 7, ground := Ground.phase }, { on := 8, ground := Ground.phase }, { on := 9, ground := Ground.phase }, { on := 10, ground := Ground.phase }, { on := 11, ground := Ground.phase }], guard := none }) rfl (fun K hK => ?_) AllReadyH.nil
              go_simp
              clear hHeld
              refine hK.out _ _ ⟨⟨_, F.out.2.2.2⟩, rfl⟩ (fun hHeld => ?_)
              clear hK K
              try simp only [Act.put, List.setIfInBounds_toArray, List.set_cons_zero, List.set_cons_succ]
              refine wpAnyH_done (by kernel_rfl) ?_ _
              refine NoPanic.normal ?_
              clear hHeld
              clear t1 t2
              go_wp2_with fail
              go_meet
              exact ⟨_, _, rfl, rfl, F.out.1, F.out.2.1, F.out.2.2.2⟩
            · skip
              go_simp
              clear hHeld
              refine hK.out _ _ ⟨⟨_, bX.alloc bX.size _⟩, rfl⟩ (fun hHeld => ?_)
              clear hK K
              try simp only [Act.put, List.setIfInBounds_toArray, List.set_cons_zero, List.set_cons_succ]
              refine wpAnyH_ready (rs := [9]) (by kernel_rfl) (by simp) ?_
              refine AllReadyH.cons (o := { dst := some 12, op := Op.alloc 55, type := 0, pos := "law.go:118", after := #[], guard := none }) rfl (fun K hK => ?_) AllReadyH.nil
              go_simp
              clear hHeld
              refine hK.out _ _ ⟨⟨_, (bX.alloc bX.size _).alloc (by simp; have := bX.size; omega) _⟩, rfl⟩ (fun hHeld => ?_)
              clear hK K
              try simp only [Act.put, List.setIfInBounds_toArray, List.set_cons_zero, List.set_cons_succ]
              obtain ⟨Y1, Y2, t1, t2, r1, r2, e1, e2⟩ := two_en X0 #[.int .i64 0, .int .u8 0, .int .u8 0, .int .u8 0, .int .u8 0, .int .u8 0, .int .u8 0, .int .i64 0, .bool false, .int .i64 0] rfl x y (X0.heap.size + 1) X0.heap.size (.inr ⟨rfl, rfl⟩)
              have F : Hid (RvAt Y2 ((X0.heap.size + 1)) 55 x.cs ∧ RvAt Y2 (X0.heap.size) 55 y.cs ∧ Below wr.heap.size wr Y1 ∧ Below wr.heap.size wr Y2) := ⟨r1, r2, below_over bX e1, below_over bX e2⟩
              clear r1 r2 e1 e2
              refine wpAnyH_ready (rs := [11]) (by kernel_rfl) (by simp) ?_
              refine AllReadyH.cons (o := { dst := none, op := Op.store 55 (Operand.tmp 12) (Operand.tmp 77), type := 0, pos := "law.go:118", after := #[{ on := 9, ground := Ground.data }, { on := 4, ground := Ground.data }, { on := 0, ground := Ground.phase }, { on := 1, ground := Ground.phase }, { on := 2, ground := Ground.phase }, { on := 3, ground := Ground.phase }, { on := 4, ground := Ground.phase }, { on := 5, ground := Ground.textOnly Departure.lateStores }, { on := 6, ground := Ground.textOnly Departure.lateStores }, { on := 7, ground := Ground.textOnly Departure.lateStoresUnsure }, { on := 8, ground := Ground.phase }, { on := 9, ground := Ground.phase }, { on := 10, ground := Ground.phase }], guard := none }) rfl (fun K hK => ?_) AllReadyH.nil
              go_simp
              clear hHeld
              refine hK.out _ _ ⟨⟨_, F.out.2.2.1⟩, rfl⟩ (fun hHeld => ?_)
              clear hK K
              try simp only [Act.put, List.setIfInBounds_toArray, List.set_cons_zero, List.set_cons_succ]
              refine wpAnyH_ready (rs := [12]) (by kernel_rfl) (by simp) ?_
              refine AllReadyH.cons (o := { dst := none, op := Op.store 55 (Operand.tmp 13) (Operand.tmp 81), type := 0, pos := "law.go:118", after := #[{ on := 10, ground := Ground.data }, { on := 8, ground := Ground.data }, { on := 11, ground := Ground.chain }, { on := 0, ground := Ground.phase }, { on := 1, ground := Ground.phase }, { on := 2, ground := Ground.phase }, { on := 3, ground := Ground.phase }, { on := 4, ground := Ground.phase }, { on := 5, ground := Ground.phase }, { on := 6, ground := Ground.phase }, { on := 7, ground := Ground.phase }, { on := 8, ground := Ground.phase }, { on := 9, ground := Ground.phase }, { on := 10, ground := Ground.phase }, { on := 11, ground := Ground.phase }], guard := none }) rfl (fun K hK => ?_) AllReadyH.nil
              go_simp
              clear hHeld
              refine hK.out _ _ ⟨⟨_, F.out.2.2.2⟩, rfl⟩ (fun hHeld => ?_)
              clear hK K
              try simp only [Act.put, List.setIfInBounds_toArray, List.set_cons_zero, List.set_cons_succ]
              refine wpAnyH_done (by kernel_rfl) ?_ _
              refine NoPanic.normal ?_
              clear hHeld
              clear t1 t2
              go_wp2_with fail
              go_meet
              exact ⟨_, _, rfl, rfl, F.out.1, F.out.2.1, F.out.2.2.2⟩
          case rest =>
            obtain ⟨q, r, rfl, rfl, r1, r2, hB2⟩ := hcut
            obtain ⟨X, hX⟩ : ∃ X, wc = X := ⟨_, rfl⟩
            rw [hX] at r1 r2 hB2 ⊢
            clear hX l1 l2 hj1 hj2 hj0 hjz
            have f0 := fun z : Later X => (r1.below z.below).cell 0 (.int .i64 x.k.vid) rfl
            have g0 := fun z : Later X => (r2.below z.below).cell 0 (.int .i64 y.k.vid) rfl
            have fs := fun z : Later X => (r1.below z.below).estr
            have gs := fun z : Later X => (r2.below z.below).estr
            have HX : Hid (Below V3.heap.size V3 X) := below_over HB.out.1 hB2
            have hlt := (Ky.rk_lt HB.out.2.2.1.k HB.out.2.2.2.1.k).1 HB.out.2.1
            clear r1 r2 hB2
            rcases hlt with hv | ⟨hv, hnum⟩
            · have hv1 : ¬ y.k.vid < x.k.vid := by omega
              have hv2 : decide (y.k.vid < x.k.vid) = false := by simpa using hv1
              have hv3 : ¬ x.k.vid = y.k.vid := by omega
              have hv4 : (x.k.vid == y.k.vid) = false := by simpa using hv3
              have hv5 : decide (x.k.vid = y.k.vid) = false := by simpa using hv3
              clear fs gs
              go_wp2_with fail
              refine wp_region_later (by kernel_rfl) (by kernel_rfl) ?_
              repeat (go_big_quiet_step (first | exact rfl))
              refine wpQuiet_nil ?_
              intro _ hw'
              obtain ⟨z, rfl⟩ := hw'
              clear f0 g0 hv hv1 hv2 hv3 hv4 hv5
              go_wp2
              go_roundw
              case rel => exact ⟨k + 1, by omega, by omega, by go_num, below_over HX.out z.below⟩
              case measure => simp [intOf]; omega
            · have hge := less_list HB.out.2.2.1.k HB.out.2.2.2.1.k hnum
              clear hnum
              have hv1 : ¬ y.k.vid < x.k.vid := by omega
              rw [hv] at f0
              have hv1 : ¬ y.k.vid < y.k.vid := by omega
              clear hv
              go_wp2_with fail
              refine wp_region_later (by kernel_rfl) (by kernel_rfl) ?_
              repeat (go_big_quiet_step (first | exact rfl))
              refine wpQuiet_nil ?_
              intro _ hw'
              obtain ⟨z, rfl⟩ := hw'
              clear f0 g0 fs gs
              clear hge
              go_wp2
              go_roundw
              case rel => exact ⟨k + 1, by omega, by omega, by go_num, below_over HX.out z.below⟩
              case measure => simp [intOf]; omega
        · have hkt1 : ¬ (k : Int) < (z' : Int) := by omega
          have hkt2 : decide ((k : Int) < (z' : Int)) = false := by simpa using hkt1
          have D6 := G5.out.1.below hB
          have S6 := G5.out.2.2.1.below hB
          have HS : Hid (∀ x ∈ m, x.st = true → ¬ o.kind = 2 → ¬ o.kind = 3 → ¬ o.kind = 7 → look m' x.rk = some x) := fun x hx hst h2 h3 h7 => by
            have := doS_stays (c := c) HR.out.1.map.1 hx hst h2 h3 h7
            rw [HD.out] at this
            exact G5.out.1.map.1.look this
          obtain ⟨V4, hV4⟩ : ∃ V, wr = V := ⟨_, rfl⟩
          rw [hV4] at hB D6 S6 ⊢
          have G6 : Hid (Db V4 p b c m' ∧ Below w.heap.size w V4 ∧ SlAt V4 a9 z c9 m ∧ m.length = z ∧ Wfs m) := ⟨D6, below_over G5.out.2.1 hB, S6, G5.out.2.2.2.2.1, HR.out.1.map.2.1⟩
          clear hB D6 S6 hV4
          go_wp2_with fail
          go_loopw [14] (fun v14 wr3 => ∃ u : Nat, u ≤ z ∧ v14 = .int .i64 u ∧ Below V4.heap.size V4 wr3) (fun v14 _ => z - (intOf v14).toNat)
          case atStart => exact ⟨0, by omega, rfl, Below.refl _ _⟩
          case round =>
            obtain ⟨u, hu, rfl, hB⟩ := hrel
            clear hkt1 hkt2
            have hu0 : (0 : Int) ≤ (u : Int) := by omega
            have c0 := (HL.out.below (below_over G6.out.2.1 hB)).cell i (by omega) 0 (.int .i64 (gtO l i).kind) rfl
            rw [HX.out, Nat.add_zero] at c0
            have HB4 : Hid (Below V4.heap.size V4 wr) := hB
            clear hB
            by_cases hut : u < z
            · have hut1 : (u : Int) < (z : Int) := by omega
              by_cases k2 : o.kind = 2
              · rw [k2] at c0
                clear k2
                go_wp2
                go_roundw
                case rel => exact ⟨i + 1, m', by omega, by omega, by go_num, G6.out.1.below HB4.out, below_over G6.out.2.1 HB4.out⟩
                case measure => simp [intOf]; omega
              by_cases k3 : o.kind = 3
              · rw [k3] at c0
                clear k2 k3
                go_wp2
                go_roundw
                case rel => exact ⟨i + 1, m', by omega, by omega, by go_num, G6.out.1.below HB4.out, below_over G6.out.2.1 HB4.out⟩
                case measure => simp [intOf]; omega
              by_cases k7 : o.kind = 7
              · rw [k7] at c0
                clear k2 k3 k7
                go_wp2
                go_roundw
                case rel => exact ⟨i + 1, m', by omega, by omega, by go_num, G6.out.1.below HB4.out, below_over G6.out.2.1 HB4.out⟩
                case measure => simp [intOf]; omega
              · have k2' : (o.kind == 2) = false := by simpa using k2
                have k3' : (o.kind == 3) = false := by simpa using k3
                have k3a : (o.kind != 3) = true := by simpa using k3
                have k3b : decide (o.kind = 3) = false := by simpa using k3
                have k3c : decide (¬ o.kind = 3) = true := by simpa using k3
                have k7' : (o.kind == 7) = false := by simpa using k7
                have k7a : (o.kind != 7) = true := by simpa using k7
                have k7b : decide (o.kind = 7) = false := by simpa using k7
                have k7c : decide (¬ o.kind = 7) = true := by simpa using k7
                obtain ⟨g, og, rfl⟩ := G6.out.2.2.1.some' (by omega)
                obtain ⟨x, hx⟩ : ∃ x, m[u]? = some x := ⟨_, List.getElem?_eq_getElem (by have := G6.out.2.2.2.1; omega)⟩
                have hxm := List.mem_of_getElem? hx
                have f0 := fun q : Later wr => ((G6.out.2.2.1.below HB4.out).below q.below).cell (k := 0) hx rfl (by omega)
                simp only [Nat.add_zero] at f0
                have fm : ∀ q : Later wr, (ldS 34 (.pointer (some ⟨g, og + u * 10 + 1, none⟩))).run Try.prog q.val = .ok (.agg x.k.mc) q.val := fun q => ((G6.out.2.2.1.below HB4.out).below q.below).mac hx
                have P17 : Hid (∀ q : Later wr, _) := fun q : Later wr => find_any p b c m' x.k q.val ((G6.out.1.below HB4.out).below q.below) (G6.out.2.2.2.2 x hxm).k
                have HSx : Hid (x.st = true → look m' x.k.rk = some x) := fun h => HS.out x hxm h k2 k3 k7
                go_wp2_with fail
                refine wp_region_later (by kernel_rfl) (by kernel_rfl) ?_
                try simp only [List.append_eq, List.cons_append, List.nil_append]
                repeat (go_big_quiet_step (first | exact rfl | (go_at_call 17; with_reducible exact Calls.later_of (P17.out _))))
                refine wpQuiet_nil ?_
                intro _ hw'
                obtain ⟨q, rfl⟩ := hw'
                have g8 := ((G6.out.2.2.1.below HB4.out).below q.below).cell (k := 8) hx rfl (by omega)
                have g7 := ((G6.out.2.2.1.below HB4.out).below q.below).cell (k := 7) hx rfl (by omega)
                have HQ : Hid (Below V4.heap.size V4 q.val) := below_over HB4.out q.below
                clear f0 fm P17 hxm hx c0
                cases hst : x.st with
                | false =>
                  rw [hst] at g8
                  clear hst
                  go_wp2
                  go_roundw
                  case rel => exact ⟨u + 1, by omega, by go_num, HQ.out⟩
                  case measure => simp [intOf]; omega
                | true =>
                  have hlk := HSx.out hst
                  have e1 : (look m' x.k.rk).isSome = true := by rw [hlk]; rfl
                  have e2 : plP m' x.k.rk = x.port := by unfold plP; rw [hlk]
                  rw [e1, e2]
                  rw [hst] at g8
                  clear hst hlk e1 e2
                  go_wp2
                  go_roundw
                  case rel => exact ⟨u + 1, by omega, by go_num, HQ.out⟩
                  case measure => simp [intOf]; omega
            · have hut1 : ¬ (u : Int) < (z : Int) := by omega
              have hut2 : decide ((u : Int) < (z : Int)) = false := by simpa using hut1
              clear c0
              go_wp2
              go_roundw
              case rel => exact ⟨i + 1, m', by omega, by omega, by go_num, G6.out.1.below HB4.out, below_over G6.out.2.1 HB4.out⟩
              case measure => simp [intOf]; omega
    · have HR : Hid (Below w.heap.size w wr) := hB
      clear hd hB
      by_cases h1 : (i : Int) < (ln : Int)
      · have h2 : ¬ (i : Int) < 80 := by omega
        have h2' : decide ((i : Int) < 80) = false := by simpa using h2
        clear hit
        go_wp2
        go_ret
        exact ⟨rfl, HR.out⟩
      · have h1' : decide ((i : Int) < (ln : Int)) = false := by simpa using h1
        clear hit
        go_wp2
        go_ret
        exact ⟨rfl, HR.out⟩
end Go.Proofs.Ytpbpofmlpbobmaa
