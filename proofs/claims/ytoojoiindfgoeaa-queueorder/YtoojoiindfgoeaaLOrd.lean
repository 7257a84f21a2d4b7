/-
  Frames are taken in the order in which they were put: the walk of the law, for every input.
-/
import Derived.Test.YtoojoiindfgoeaaQy
import Derived.Deep.CutRange
namespace Go.Proofs.Ytoojoiindfgoeaa
set_option linter.unusedVariables false
set_option maxRecDepth 4000
set_option linter.unusedSimpArgs false
open Go.RowKit Go.Conc
theorem stU8 (x y : Value) : Instr.storeAt 5 x y = stS 5 x y := rfl
attribute [local go_sem ↓] apU apL bsU bsL slL slU stU8
attribute [local go_sem] bzU bzL b1S
theorem mod_eight (r : Int) : ∃ n : Nat, 1 + r % 8 = (n : Int) ∧ 1 ≤ n ∧ n ≤ 8 := ⟨(1 + r % 8).toNat, by omega, by omega, by omega⟩
set_option maxHeartbeats 16000000 in
theorem order_law (room : Int) (a : Option Addr) (n k : Nat) (tt : List Oq) (os : List Oa) (w : World) (hroom : 0 ≤ room ∧ room ≤ 255) (h : Ops w a n k tt os) :
    Calls Try.prog 4 #[.int .u8 room, .slice a n k] w fun r w' => r = .returned (.bool true) ∧ Below w.heap.size w w' := by
  have HO : Hid (Ops w a n k tt os) := h
  have hnn := h.sl.int
  clear h
  obtain ⟨cap, hcap, hc1, hc8⟩ := mod_eight room
  have hr0 := hroom.1
  have hr1 := hroom.2
  have hcr : 1 ≤ (cap : Int) ∧ (cap : Int) ≤ 32 := by omega
  go_enter Try.func4, Try.ntmps4
  go_wp2_with fail
  clear hcap
  refine (new_any cap w w (Below.refl _ _)).mono ?_
  rintro _ W1 hN
  obtain ⟨b, c, rfl, q1, _⟩ := hN.yes (by omega)
  rw [Int.toNat_natCast] at q1
  have K1 : Hid (QAt w W1 b c cap [] [] 0 0) := q1
  clear hN q1
  go_wp2_with fail
  refine (awake_any W1).mono ?_
  rintro _ W2 ⟨rfl, b2⟩
  have K2 : Hid (OrS w W2 b c cap [] [] 0 0 ⟨none, 0, 0⟩ []) := ⟨K1.out.below b2, .inl ⟨rfl, rfl⟩, trivial⟩
  clear b2 K1 hcr
  go_wp2_with fail
  go_loopw [8, 9] (fun v8 v9 wr => ∃ (i : Nat) (rr : List Sl) (L : List (List Int)) (s r : Nat) (v : Sl) (uu : List Sl), i ≤ n ∧ i ≤ 80 ∧ v8 = .slice v.a v.n v.c ∧ v9 = .int .i64 i ∧ OrS w wr b c cap rr L s r v uu) (fun _ v _ => n - (intOf v).toNat)
  case atStart => exact ⟨0, _, _, _, _, ⟨none, 0, 0⟩, _, by omega, by omega, rfl, rfl, K2.out⟩
  case round =>
    obtain ⟨i, rr, L, s, r, v, uu, hi, hj, rfl, rfl, hS⟩ := hrel
    have J : Hid (OrS w wr b c cap rr L s r v uu) := hS
    have hi0 : (0 : Int) ≤ (i : Int) := by omega
    clear hS K2
    by_cases hit : i < n ∧ i < 80
    · have hi1 : (i : Int) < (n : Int) := by omega
      have hi2 : (i : Int) < 80 := by omega
      have HI : Hid (i < n ∧ i < 80) := hit
      clear hit
      go_upto_if 44 with fail
      go_step
      go_step
      go_step
      go_step
      go_step
      go_step
      go_step
      obtain ⟨lb, lo, rfl⟩ := HO.out.sl.some' (by omega)
      obtain ⟨x, y0, hx, hy, hop⟩ := HO.out.get (i := i) (by have := HI.out; omega)
      have HX : Hid (tt[i]? = some x ∧ os[i]? = some y0 ∧ IsOp w x y0) := ⟨hx, hy, hop⟩
      clear hx hy hop
      go_cut [8] from 47 to 118 (fun v8 wx => ∃ (rr : List Sl) (L : List (List Int)) (s r : Nat) (v : Sl) (uu : List Sl), v8 = .slice v.a v.n v.c ∧ OrS w wx b c cap rr L s r v uu)
      case first =>
        have f3 := lO0 (HO.out.below J.out.q.bel).sl HX.out.1
        obtain ⟨kk, hkk⟩ : ∃ e, x.k = e := ⟨_, rfl⟩
        rw [hkk] at f3
        clear hkk
        have hvn := J.out.t.len
        have hul := J.out.al.len
        by_cases he : kk.tmod 2 = 0
        · have he' : (kk.tmod 2 == 0) = true := by simp [he]
          go_wp2_with fail
          refine (take_any J.out.q).mono ?_
          rintro _ X2 hT
          cases L with
          | nil =>
            obtain ⟨rfl, s', r', q'⟩ := hT.none rfl
            have ht := J.out.turn q' hT.gr
            have K2 : Hid (OrS w X2 b c cap [] [] s' r' v uu) := ⟨q', ht.1, ht.2⟩
            have hv0 : v.n = 0 := by rw [hvn, hul]; rfl
            clear hT q' ht f3 hvn hul
            go_wp2
            go_meet
            exact ⟨_, _, _, _, v, _, by rw [hv0], K2.out⟩
          | cons l L =>
            obtain ⟨x', rr', _, rfl, ox, s', r', q'⟩ := hT.some l L rfl
            have ht := J.out.turn q' hT.gr
            cases uu with
            | nil => exact absurd hul (by simp)
            | cons u uu =>
              obtain ⟨v', st, tl, _⟩ := ht.1.tail
              have st' : ∀ V : World, (slS 27 (.slice v.a v.n v.c) (some (.int .i64 1)) none none).run Try.prog V = .ok (.slice v'.a v'.n v'.c) V := st
              have K2 : Hid (OrS w X2 b c cap rr' L s' r' v' uu ∧ SrcS X2 x' l ∧ SrcS X2 u l ∧ SlAt eS X2 v.a v.n v.c (u :: uu)) := ⟨⟨q', tl, ht.2.2⟩, ox.src, ht.2.1.src, ht.1.sl⟩
              have hvp : 0 < v.n := by rw [hvn]; simp
              have hv1 : (0 : Int) < (v.n : Int) := by omega
              have hv2 : decide ((v.n : Int) > 0) = true := by simp; omega
              have hv3 : decide ((0 : Int) < (v.n : Int)) = true := by simp; omega
              have hv4 : decide (0 < v.n) = true := by simp; omega
              obtain ⟨tb, tq, hva⟩ := K2.out.2.2.2.some' hvp
              obtain ⟨BB, hBB⟩ : ∃ e, bs l = e := ⟨_, rfl⟩
              have s4 := K2.out.2.2.2
              rw [hva] at s4
              simp only [hva] at st'
              have f4 : ∀ q : Later X2, q.val.cell? ⟨tb, tq, none⟩ = some u.v := fun q => lS (s4.below q.below) (i := 0) rfl
              have f5 : ∀ q : Later X2, (convert 33 9 x'.v).run Try.prog q.val = .ok (.string BB) q.val := fun q => by rw [← hBB]; exact str_sl (SlAt.below K2.out.2.1 q.below)
              have f6 : ∀ q : Later X2, (convert 33 9 u.v).run Try.prog q.val = .ok (.string BB) q.val := fun q => by rw [← hBB]; exact str_sl (SlAt.below K2.out.2.2.1 q.below)
              clear hT q' ht f3 hvn hul st tl ox s4 hBB hvp
              go_wp2_with fail
              refine wp_region_later (by kernel_rfl) (by kernel_rfl) ?_
              repeat (go_big_quiet_step (first | exact rfl))
              refine wpQuiet_nil ?_
              intro _ hw'
              obtain ⟨q, rfl⟩ := hw'
              obtain ⟨X3, hX3⟩ : ∃ e, q.val = e := ⟨_, rfl⟩
              have K3 : Hid (OrS w X3 b c cap rr' L s' r' v' uu) := by rw [← hX3]; exact K2.out.1.below q.below
              rw [hX3]
              clear hX3 f4 f5 f6
              go_wp2
              go_meet
              exact ⟨_, _, _, _, v', _, rfl, K3.out⟩
        · have he' : (kk.tmod 2 == 0) = false := by simp [he]
          obtain ⟨m, hm⟩ : ∃ e : Nat, min x.n 100 = e := ⟨_, rfl⟩
          have hxi := HX.out.2.2.2.int
          have f1 : (if (100 : Int) < (x.n : Int) then (100 : Int) else (x.n : Int)) = (m : Int) := by split <;> omega
          have f2 : ∀ Z : World, (slS 33 (.slice x.a x.n x.c) none (some (.int .i64 m)) none).run Try.prog Z = .ok (.slice x.a m x.c) Z := slU_cut x.a x.n x.c m (by omega) HX.out.2.2.2.cap
          obtain ⟨l, hl⟩ : ∃ e, y0.b.take m = e := ⟨_, rfl⟩
          have HM : Hid (SlAt eU w x.a m x.c l ∧ l.length ≤ 100) := by
            have h0 : SlAt eU w x.a m x.c l := by rw [← hl]; exact sl_take HX.out.2.2.2 (by omega)
            exact ⟨h0, by rw [h0.len]; omega⟩
          clear hl hm hxi hvn hul
          go_wp2_with fail
          obtain ⟨X0, hX0⟩ : ∃ X0, wr.drew = X0 := ⟨_, rfl⟩
          have B0 : Below wr.heap.size wr X0 := by rw [← hX0]; exact (Below.refl _ _).drew
          have J2 : Hid (OrS w X0 b c cap rr L s r v uu) := J.out.below B0
          refine wp_region_noPanic ?_
          refine wp_region_held_drew (S := fun w' => Below w.heap.size w w') (by kernel_rfl) ((J.out.below (Below.refl _ _).drew).q.bel) (fun hHeld => ?_)
          rw [hX0] at hHeld ⊢
          clear hX0 B0 f3
          refine wpAnyH_take (i := 1) (oi := { dst := some 75, op := Op.move (Operand.tmp 1), type := 22, pos := "law.go:96", after := #[], guard := none }) (v := ?_) rfl (by kernel_rfl) (by kernel_rfl) (by kernel_rfl) (fun _ _ _ h => h) (Or.inl ⟨by rfl, ?_⟩) hHeld ?_
          rotate_left
          · intro W_ hSw_
            first | (go_simp; done) | (go_simp; with_reducible rfl)
          rotate_left
          try simp only [Act.put, List.setIfInBounds_toArray, List.set_cons_zero, List.set_cons_succ]
          refine wpAnyH_take (i := 2) (oi := { dst := some 76, op := Op.move (Operand.tmp 9), type := 3, pos := "law.go:96", after := #[], guard := none }) (v := ?_) rfl (by kernel_rfl) (by kernel_rfl) (by kernel_rfl) (fun _ _ _ h => h) (Or.inl ⟨by rfl, ?_⟩) hHeld ?_
          rotate_left
          · intro W_ hSw_
            first | (go_simp; done) | (go_simp; with_reducible rfl)
          rotate_left
          try simp only [Act.put, List.setIfInBounds_toArray, List.set_cons_zero, List.set_cons_succ]
          refine wpAnyH_take (i := 3) (oi := { dst := some 77, op := Op.indexAddr 22 (Operand.tmp 75) (Operand.tmp 76), type := 0, pos := "law.go:96", after := #[{ on := 1, ground := Ground.data }, { on := 2, ground := Ground.data }], guard := none }) (v := ?_) rfl (by kernel_rfl) (by kernel_rfl) (by kernel_rfl) (fun _ _ _ h => h) (Or.inl ⟨by rfl, ?_⟩) hHeld ?_
          rotate_left
          · intro W_ hSw_
            first | (go_simp; done) | (go_simp; with_reducible rfl)
          rotate_left
          try simp only [Act.put, List.setIfInBounds_toArray, List.set_cons_zero, List.set_cons_succ]
          refine wpAnyH_take (i := 4) (oi := { dst := some 78, op := Op.fieldAddr 35 (Operand.tmp 77) 1, type := 0, pos := "law.go:96", after := #[{ on := 3, ground := Ground.data }], guard := none }) (v := ?_) rfl (by kernel_rfl) (by kernel_rfl) (by kernel_rfl) (fun _ _ _ h => h) (Or.inl ⟨by rfl, ?_⟩) hHeld ?_
          rotate_left
          · intro W_ hSw_
            first | (go_simp; done) | (go_simp; with_reducible rfl)
          rotate_left
          try simp only [Act.put, List.setIfInBounds_toArray, List.set_cons_zero, List.set_cons_succ]
          refine wpAnyH_take (i := 5) (oi := { dst := some 79, op := Op.load 33 (Operand.tmp 78), type := 33, pos := "law.go:96", after := #[{ on := 4, ground := Ground.data }], guard := none }) (v := ?_) rfl (by kernel_rfl) (by kernel_rfl) (by kernel_rfl) (fun _ _ _ h => h) (Or.inl ⟨by rfl, ?_⟩) hHeld ?_
          rotate_left
          · intro W_ hSw_
            have l_ := lO1 (HO.out.below hSw_).sl HX.out.1
            first | (go_simp; done) | (go_simp; with_reducible rfl)
          rotate_left
          try simp only [Act.put, List.setIfInBounds_toArray, List.set_cons_zero, List.set_cons_succ]
          refine wpAnyH_take (i := 6) (oi := { dst := some 80, op := Op.move (Operand.tmp 1), type := 22, pos := "law.go:96", after := #[], guard := none }) (v := ?_) rfl (by kernel_rfl) (by kernel_rfl) (by kernel_rfl) (fun _ _ _ h => h) (Or.inl ⟨by rfl, ?_⟩) hHeld ?_
          rotate_left
          · intro W_ hSw_
            first | (go_simp; done) | (go_simp; with_reducible rfl)
          rotate_left
          try simp only [Act.put, List.setIfInBounds_toArray, List.set_cons_zero, List.set_cons_succ]
          refine wpAnyH_take (i := 7) (oi := { dst := some 81, op := Op.move (Operand.tmp 9), type := 3, pos := "law.go:96", after := #[], guard := none }) (v := ?_) rfl (by kernel_rfl) (by kernel_rfl) (by kernel_rfl) (fun _ _ _ h => h) (Or.inl ⟨by rfl, ?_⟩) hHeld ?_
          rotate_left
          · intro W_ hSw_
            first | (go_simp; done) | (go_simp; with_reducible rfl)
          rotate_left
          try simp only [Act.put, List.setIfInBounds_toArray, List.set_cons_zero, List.set_cons_succ]
          refine wpAnyH_take (i := 8) (oi := { dst := some 82, op := Op.indexAddr 22 (Operand.tmp 80) (Operand.tmp 81), type := 0, pos := "law.go:96", after := #[{ on := 6, ground := Ground.data }, { on := 7, ground := Ground.data }], guard := none }) (v := ?_) rfl (by kernel_rfl) (by kernel_rfl) (by kernel_rfl) (fun _ _ _ h => h) (Or.inl ⟨by rfl, ?_⟩) hHeld ?_
          rotate_left
          · intro W_ hSw_
            first | (go_simp; done) | (go_simp; with_reducible rfl)
          rotate_left
          try simp only [Act.put, List.setIfInBounds_toArray, List.set_cons_zero, List.set_cons_succ]
          refine wpAnyH_take (i := 9) (oi := { dst := some 83, op := Op.fieldAddr 35 (Operand.tmp 82) 1, type := 0, pos := "law.go:96", after := #[{ on := 8, ground := Ground.data }], guard := none }) (v := ?_) rfl (by kernel_rfl) (by kernel_rfl) (by kernel_rfl) (fun _ _ _ h => h) (Or.inl ⟨by rfl, ?_⟩) hHeld ?_
          rotate_left
          · intro W_ hSw_
            first | (go_simp; done) | (go_simp; with_reducible rfl)
          rotate_left
          try simp only [Act.put, List.setIfInBounds_toArray, List.set_cons_zero, List.set_cons_succ]
          refine wpAnyH_take (i := 10) (oi := { dst := some 84, op := Op.load 33 (Operand.tmp 83), type := 33, pos := "law.go:96", after := #[{ on := 9, ground := Ground.data }], guard := none }) (v := ?_) rfl (by kernel_rfl) (by kernel_rfl) (by kernel_rfl) (fun _ _ _ h => h) (Or.inl ⟨by rfl, ?_⟩) hHeld ?_
          rotate_left
          · intro W_ hSw_
            have l_ := lO1 (HO.out.below hSw_).sl HX.out.1
            first | (go_simp; done) | (go_simp; with_reducible rfl)
          rotate_left
          try simp only [Act.put, List.setIfInBounds_toArray, List.set_cons_zero, List.set_cons_succ]
          refine wpAnyH_take (i := 11) (oi := { dst := some 85, op := Op.call { callee := Callee.builtin Builtin.len, args := #[Operand.tmp 84], argTypes := #[33] }, type := 3, pos := "law.go:96", after := #[{ on := 10, ground := Ground.data }], guard := none }) (v := ?_) rfl (by kernel_rfl) (by kernel_rfl) (by kernel_rfl) (fun _ _ _ h => h) (Or.inl ⟨by rfl, ?_⟩) hHeld ?_
          rotate_left
          · intro W_ hSw_
            first | (go_simp; done) | (go_simp; with_reducible rfl)
          rotate_left
          try simp only [Act.put, List.setIfInBounds_toArray, List.set_cons_zero, List.set_cons_succ]
          refine wpAnyH_take (i := 12) (oi := { dst := some 86, op := Op.call { callee := Callee.builtin Builtin.min, args := #[Operand.tmp 85, Operand.const (Value.int IntKind.i64 100)], argTypes := #[3, 3] }, type := 3, pos := "law.go:96", after := #[{ on := 11, ground := Ground.data }], guard := none }) (v := ?_) rfl (by kernel_rfl) (by kernel_rfl) (by kernel_rfl) (fun _ _ _ h => h) (Or.inl ⟨by rfl, ?_⟩) hHeld ?_
          rotate_left
          · intro W_ hSw_
            first | (go_simp; done) | (go_simp; with_reducible rfl)
          rotate_left
          try simp only [Act.put, List.setIfInBounds_toArray, List.set_cons_zero, List.set_cons_succ]
          refine wpAnyH_take (i := 13) (oi := { dst := some 87, op := Op.slice 33 (Operand.tmp 79) none (some (Operand.tmp 86)) none, type := 33, pos := "law.go:96", after := #[{ on := 5, ground := Ground.data }, { on := 12, ground := Ground.data }], guard := none }) (v := ?_) rfl (by kernel_rfl) (by kernel_rfl) (by kernel_rfl) (fun _ _ _ h => h) (Or.inl ⟨by rfl, ?_⟩) hHeld ?_
          rotate_left
          · intro W_ hSw_
            first | (go_simp; done) | (go_simp; with_reducible rfl)
          rotate_left
          try simp only [Act.put, List.setIfInBounds_toArray, List.set_cons_zero, List.set_cons_succ]
          refine wpAnyH_ready (rs := [0]) (by kernel_rfl) (by simp) ?_
          refine AllReadyH.cons (o := { dst := some 74, op := Op.buildSlice 33 0 #[], type := 33, pos := "law.go:96", after := #[], guard := none }) rfl (fun K hK => ?_) AllReadyH.nil
          go_simp
          clear hHeld
          refine hK.out _ _ (J2.out.q.bel.alloc (J2.out.q.bel.size) _) (fun hHeld => ?_)
          clear hK K
          try simp only [Act.put, List.setIfInBounds_toArray, List.set_cons_zero, List.set_cons_succ]
          refine wpAnyH_ready (rs := [14]) (by kernel_rfl) (by simp) ?_
          refine AllReadyH.cons (o := { dst := some 88, op := Op.call { callee := Callee.builtin Builtin.append, args := #[Operand.tmp 74, Operand.tmp 87], argTypes := #[33, 33] }, type := 33, pos := "law.go:96", after := #[{ on := 0, ground := Ground.data }, { on := 13, ground := Ground.data }], guard := none }) rfl (fun K hK => ?_) AllReadyH.nil
          obtain ⟨vb, X3, s3, o3, b3⟩ := bytes_copy (HM.out.1.below J2.out.q.bel) (by have := HM.out.1.len; have := HM.out.2; omega) 33
          go_simp
          clear hHeld
          refine hK.out _ _ (below_over J2.out.q.bel b3) (fun hHeld => ?_)
          clear hK K
          try simp only [Act.put, List.setIfInBounds_toArray, List.set_cons_zero, List.set_cons_succ]
          refine wpAnyH_ready (rs := [15]) (by kernel_rfl) (by simp) ?_
          refine AllReadyH.cons (o := { dst := some 12, op := Op.assign (Operand.tmp 88), type := 33, pos := "law.go:96", after := #[{ on := 14, ground := Ground.data }, { on := 14, ground := Ground.chain }, { on := 0, ground := Ground.phase }, { on := 1, ground := Ground.phase }, { on := 2, ground := Ground.phase }, { on := 3, ground := Ground.phase }, { on := 4, ground := Ground.phase }, { on := 5, ground := Ground.phase }, { on := 6, ground := Ground.phase }, { on := 7, ground := Ground.phase }, { on := 8, ground := Ground.phase }, { on := 9, ground := Ground.phase }, { on := 10, ground := Ground.phase }, { on := 11, ground := Ground.phase }, { on := 12, ground := Ground.phase }, { on := 13, ground := Ground.phase }, { on := 14, ground := Ground.phase }], guard := none }) rfl (fun K hK => ?_) AllReadyH.nil
          go_simp
          clear hHeld
          refine hK.out _ _ (below_over J2.out.q.bel b3) (fun hHeld => ?_)
          clear hK K
          try simp only [Act.put, List.setIfInBounds_toArray, List.set_cons_zero, List.set_cons_succ]
          refine wpAnyH_done (by kernel_rfl) ?_ _
          refine NoPanic.normal ?_
          clear hHeld
          obtain ⟨ab, cb, rfl, sb, lob⟩ := Own.form (e := eU) o3
          obtain ⟨nb, hnb⟩ : ∃ e, l.length = e := ⟨_, rfl⟩
          have f0 : ∀ g, ab.map (·.block) = some g → FreeB g rr uu := fun g hg => by
            cases ab with
            | none => cases hg
            | some z =>
              cases hg
              exact J2.out.free (lob z rfl).1
          have lob' : ∀ g, ab.map (·.block) = some g → w.heap.size ≤ g ∧ g < X3.heap.size := fun g hg => by
            cases ab with
            | none => cases hg
            | some z =>
              cases hg
              exact ⟨Nat.le_trans J2.out.q.bel.size (lob z rfl).1, (lob z rfl).2⟩
          have y3 : ByS X3 w.heap.size ⟨ab, nb, cb⟩ := by
            rw [← hnb]
            exact OwnS.by' (y := ⟨ab, l.length, cb⟩) (Own.base (e := eU) o3 J2.out.q.bel.size)
          have o3' : OwnS X3 w.heap.size ⟨ab, l.length, cb⟩ l := Own.base (e := eU) o3 J2.out.q.bel.size
          rw [hnb] at o3'
          rw [hnb]
          have hn100 : nb ≤ 100 := by rw [← hnb]; exact HM.out.2
          have K3 : Hid (OrS w X3 b c cap rr L s r v uu ∧ OwnS X3 w.heap.size ⟨ab, nb, cb⟩ l ∧ ByS X3 w.heap.size ⟨ab, nb, cb⟩ ∧ (∀ g, ab.map (·.block) = some g → FreeB g rr uu) ∧ (∀ g, ab.map (·.block) = some g → w.heap.size ≤ g ∧ g < X3.heap.size)) := ⟨J2.out.below b3, o3', y3, f0, lob'⟩
          clear o3 o3' b3 sb lob y3 f0 lob' f1 f2 s3
          go_wp2_with fail
          refine (put_any K3.out.1.q K3.out.2.1.src).mono ?_
          rintro _ X4 ⟨rfl, ⟨rr', s', r', q', hnew⟩, g'⟩
          have ht := K3.out.1.turn q' g'
          have hvn := K3.out.1.t.len
          have hul := K3.out.1.al.len
          have hLc := K3.out.1.q.cap
          have f4 : ∀ g, ab.map (·.block) = some g → FreeB g rr' uu := fun g hg => ⟨fun x hx e => by
            rcases hnew x hx with h | h
            · exact (K3.out.2.2.2.1 g hg).1 x h e
            · obtain ⟨xa, xn, xc⟩ := x
              cases xa with
              | none => cases e
              | some z =>
                have h1 := h z rfl
                have h2 := (K3.out.2.2.2.2 g hg).2
                have h3 : z.block = g := by simpa [Sl.v, Value.ownBlock] using e
                omega, (K3.out.2.2.2.1 g hg).2⟩
          have y4 : ByS X4 w.heap.size ⟨ab, nb, cb⟩ := K3.out.2.2.1.chan K3.out.1.q.ch g'
          by_cases hf : cap ≤ L.length
          · have hp : putE cap L l = 71 := by unfold putE; rw [if_neg (by omega), if_pos hf]
            have hq : putL cap L l = L := by unfold putL; rw [if_neg (by omega), if_pos hf]
            rw [hp]
            rw [hq] at q'
            have K4 : Hid (OrS w X4 b c cap rr' L s' r' v uu ∧ ByS X4 w.heap.size ⟨ab, nb, cb⟩ ∧ ∀ g, ab.map (·.block) = some g → FreeB g rr' uu) := ⟨⟨q', ht.1, ht.2⟩, y4, f4⟩
            have d1 : ¬ v.n < cap := by omega
            have d2 : decide (v.n < cap) = false := by simp; omega
            have d3 : decide ((v.n : Int) < (cap : Int)) = false := by simp; omega
            have HF : Hid (cap ≤ L.length ∧ v.n = uu.length ∧ uu.length = L.length) := ⟨hf, hvn, hul⟩
            clear ht hnew y4 f4 hf hvn hul q' g' hLc hp hq
            go_wp2_with fail
            go_loopw [14] (fun v14 wx => ∃ j : Nat, j ≤ nb ∧ v14 = .int .i64 j ∧ OrS w wx b c cap rr' L s' r' v uu ∧ ByS wx w.heap.size ⟨ab, nb, cb⟩) (fun v14 _ => nb - (intOf v14).toNat)
            case atStart => exact ⟨0, by omega, rfl, K4.out.1, K4.out.2.1⟩
            case round =>
              obtain ⟨j, hj, rfl, hS, hY⟩ := hrel
              obtain ⟨X5, hX5⟩ : ∃ e, wr = e := ⟨_, rfl⟩
              have J5 : Hid (OrS w X5 b c cap rr' L s' r' v uu ∧ ByS X5 w.heap.size ⟨ab, nb, cb⟩) := by rw [← hX5]; exact ⟨hS, hY⟩
              have hj0 : (0 : Int) ≤ (j : Int) := by omega
              rw [hX5]
              clear hS hY hX5
              by_cases hjn : j < nb
              · have hj1 : (j : Int) < (nb : Int) := by omega
                obtain ⟨g, u, ea, hgB, hgs, hc, hst⟩ := J5.out.2.at' (j := j) hjn
                have ea' : ab = some ⟨g, 0, none⟩ := ea
                subst ea'
                have HG : Hid (w.heap.size ≤ g ∧ g < X5.heap.size ∧ j < nb) := ⟨hgB, hgs, hjn⟩
                have HST : Hid (∀ z : Int, ∃ W', (stS 5 (.pointer (some ⟨g, j, none⟩)) (.int .u8 z)).run Try.prog X5 = .ok () W' ∧ X5.grownBy W' (some g) ∧ ∀ (B' : Nat) (y' : Sl), ByS X5 B' y' → ByS W' B' y') := hst
                clear hst hgB hgs hjn ea
                obtain ⟨X6, s6, g6, y6⟩ := HST.out (bits BinOp.xor IntKind.u8 u 255)
                obtain ⟨_, cur, r6⟩ := J5.out.2.rv (g := g) rfl
                have K6 : Hid (OrS w X6 b c cap rr' L s' r' v uu ∧ ByS X6 w.heap.size ⟨some ⟨g, 0, none⟩, nb, cb⟩) := ⟨J5.out.1.over r6 (K4.out.2.2 g rfl) HG.out.1 g6, y6 _ _ J5.out.2⟩
                clear g6 y6 r6
                go_wp2
                go_roundw
                case rel => exact ⟨j + 1, by have := HG.out; omega, by go_num, K6.out.1, K6.out.2⟩
                case measure => have := HG.out; simp [intOf]; omega
              · have hj2 : j = nb := by omega
                go_wp2
                go_meet
                exact ⟨_, _, _, _, v, _, rfl, J5.out.1⟩
          · have hf' : L.length < cap := by omega
            have hp : putE cap L l = 0 := by unfold putE; rw [if_neg (by omega), if_neg hf]
            have hq : putL cap L l = L ++ [l] := by unfold putL; rw [if_neg (by omega), if_neg hf]
            rw [hp]
            rw [hq] at q'
            have own4 : OwnS X4 w.heap.size ⟨ab, nb, cb⟩ l := Own.chan (e := eU) K3.out.2.1 K3.out.1.q.ch g'
            have hx43 := g'.size
            obtain ⟨vx, X5, s5, o5, b5⟩ := bytes_copy (show SlAt eU X4 ab nb cb l from own4.src) (by omega) 33
            obtain ⟨xa, xc, rfl, _, lox⟩ := Own.form (e := eU) o5
            obtain ⟨x', hx'⟩ : ∃ x' : Sl, x' = ⟨xa, l.length, xc⟩ := ⟨_, rfl⟩
            have ex' : Value.slice xa l.length xc = .slice x'.a x'.n x'.c := by rw [hx']
            have ox' : OwnS X5 w.heap.size x' l := by rw [hx']; exact Own.base (e := eU) o5 q'.bel.size
            have lox' : ∀ g, x'.v.ownBlock = some g → X4.heap.size ≤ g := fun g hg => by
              rw [hx'] at hg
              exact (Own.blk (e := eU) o5 g hg).1
            rw [ex'] at s5
            obtain ⟨v', X6, s6, t6, g6, k6⟩ := (ht.1.below b5).next (Nat.le_trans q'.bel.size b5.size) (by omega) x' 27
            have s6' : (apS 27 27 #[.slice v.a v.n v.c, .slice (some ⟨X5.heap.size, 0, none⟩) 1 1]).run Try.prog (X5.alloc (.cells #[.slice x'.a x'.n x'.c] 33)) = .ok (.slice v'.a v'.n v'.c) X6 := s6
            have y6 : ByS X6 w.heap.size ⟨ab, nb, cb⟩ := (y4.below b5).apartT (ht.1.below b5) g6
            have S6 : OrS w X6 b c cap rr' (L ++ [l]) s' r' v' (uu ++ [x']) := OrS.put (q'.below b5) (ht.1.below b5) (ht.2.mono fun _ _ h => h.below b5) ox' t6 g6
            have f6 : ∀ g, ab.map (·.block) = some g → FreeB g rr' (uu ++ [x']) := fun g hg => ⟨(f4 g hg).1, fun z hz e => by
              rcases List.mem_append.1 hz with h | h
              · exact (f4 g hg).2 z h e
              · rw [List.mem_singleton.1 h] at e
                have h1 := lox' g e
                have h2 := (K3.out.2.2.2.2 g hg).2
                omega⟩
            have K4 : Hid (OrS w X6 b c cap rr' (L ++ [l]) s' r' v' (uu ++ [x']) ∧ ByS X6 w.heap.size ⟨ab, nb, cb⟩ ∧ ∀ g, ab.map (·.block) = some g → FreeB g rr' (uu ++ [x'])) := ⟨S6, y6, f6⟩
            have d1 : v.n < cap := by omega
            have d2 : decide (v.n < cap) = true := by simp; omega
            have d3 : decide ((v.n : Int) < (cap : Int)) = true := by simp; omega
            clear ht hnew y4 f4 hf hf' hvn hul q' g' hLc hp hq own4 hx43 o5 b5 lox ex' ox' lox' s6 t6 g6 k6 y6 S6 f6 hx'
            go_wp2_with fail
            go_loopw [14] (fun v14 wx => ∃ j : Nat, j ≤ nb ∧ v14 = .int .i64 j ∧ OrS w wx b c cap rr' (L ++ [l]) s' r' v' (uu ++ [x']) ∧ ByS wx w.heap.size ⟨ab, nb, cb⟩) (fun v14 _ => nb - (intOf v14).toNat)
            case atStart => exact ⟨0, by omega, rfl, K4.out.1, K4.out.2.1⟩
            case round =>
              obtain ⟨j, hj, rfl, hS, hY⟩ := hrel
              obtain ⟨X5, hX5⟩ : ∃ e, wr = e := ⟨_, rfl⟩
              have J5 : Hid (OrS w X5 b c cap rr' (L ++ [l]) s' r' v' (uu ++ [x']) ∧ ByS X5 w.heap.size ⟨ab, nb, cb⟩) := by rw [← hX5]; exact ⟨hS, hY⟩
              have hj0 : (0 : Int) ≤ (j : Int) := by omega
              rw [hX5]
              clear hS hY hX5
              by_cases hjn : j < nb
              · have hj1 : (j : Int) < (nb : Int) := by omega
                obtain ⟨g, u, ea, hgB, hgs, hc, hst⟩ := J5.out.2.at' (j := j) hjn
                have ea' : ab = some ⟨g, 0, none⟩ := ea
                subst ea'
                have HG : Hid (w.heap.size ≤ g ∧ g < X5.heap.size ∧ j < nb) := ⟨hgB, hgs, hjn⟩
                have HST : Hid (∀ z : Int, ∃ W', (stS 5 (.pointer (some ⟨g, j, none⟩)) (.int .u8 z)).run Try.prog X5 = .ok () W' ∧ X5.grownBy W' (some g) ∧ ∀ (B' : Nat) (y' : Sl), ByS X5 B' y' → ByS W' B' y') := hst
                clear hst hgB hgs hjn ea
                obtain ⟨X6, s6, g6, y6⟩ := HST.out (bits BinOp.xor IntKind.u8 u 255)
                obtain ⟨_, cur, r6⟩ := J5.out.2.rv (g := g) rfl
                have K6 : Hid (OrS w X6 b c cap rr' (L ++ [l]) s' r' v' (uu ++ [x']) ∧ ByS X6 w.heap.size ⟨some ⟨g, 0, none⟩, nb, cb⟩) := ⟨J5.out.1.over r6 (K4.out.2.2 g rfl) HG.out.1 g6, y6 _ _ J5.out.2⟩
                clear g6 y6 r6
                go_wp2
                go_roundw
                case rel => exact ⟨j + 1, by have := HG.out; omega, by go_num, K6.out.1, K6.out.2⟩
                case measure => have := HG.out; simp [intOf]; omega
              · have hj2 : j = nb := by omega
                go_wp2
                go_meet
                exact ⟨_, _, _, _, v', _, rfl, J5.out.1⟩
      case rest =>
        obtain ⟨rr, L, s, r, v, uu, rfl, hS⟩ := hcut
        obtain ⟨X6, hX6⟩ : ∃ e, wc = e := ⟨_, rfl⟩
        rw [hX6] at hS ⊢
        clear hX6
        have K6 : Hid (OrS w X6 b c cap rr L s r v uu) := hS
        clear hS J
        have hk := K6.out.q.cap
        have hL : L.length ≤ cap ∧ cap ≤ 32 := by omega
        have hL1 := hL.1
        have hL2 := hL.2
        have d1 : ¬ cap < L.length := by omega
        have d2 : decide ((cap : Int) < (L.length : Int)) = false := by simp; omega
        have d3 : decide (cap < L.length) = false := by simp; omega
        have pw : (L.length : Int) + ((cap : Int) - (L.length : Int)) = (cap : Int) := by omega
        clear hk hL
        go_wp2_with fail
        refine (len_any K6.out.q).mono ?_
        rintro _ _ ⟨rfl, rfl⟩
        go_wp2_with fail
        refine (len_any K6.out.q).mono ?_
        rintro _ _ ⟨rfl, rfl⟩
        go_wp2_with fail
        refine (room_any K6.out.q).mono ?_
        rintro _ X7 ⟨rfl, b7⟩
        have K7 : Hid (OrS w X7 b c cap rr L s r v uu) := K6.out.below b7
        clear b7 K6
        go_wp2_with fail
        refine (all_any K7.out.q).mono ?_
        rintro _ X8 hA
        obtain ⟨va, xx, rfl, oa, ala⟩ := hA.is
        obtain ⟨s', r', q'⟩ := hA.at_
        have ht := K7.out.turn q' hA.gr
        have x8 : XsS w X8 va xx rr uu := XsS.of oa ala K7.out.q.bel.size fun g hg => K7.out.free hg
        obtain ⟨xa, xc, rfl⟩ := x8.form
        obtain ⟨xn, hxn⟩ : ∃ e, xx.length = e := ⟨_, rfl⟩
        have hxl := ala.len
        rw [hxn] at x8
        rw [hxn]
        have hxs : xn ≤ 32 := by omega
        have K8 : Hid (OrS w X8 b c cap rr L s' r' v uu ∧ XsS w X8 (.slice xa xn xc) xx rr uu ∧ xx.length = xn) := ⟨⟨q', ht.1, ht.2⟩, x8, hxn⟩
        clear hA oa ala q' ht x8 hxn hxl d1 d2 d3 pw hL1 hL2 K7
        go_wp2_with fail
        go_loopw [16] (fun v16 wx => ∃ kk : Nat, kk ≤ xn ∧ v16 = .int .i64 kk ∧ OrS w wx b c cap rr L s' r' v uu ∧ XsS w wx (.slice xa xn xc) xx rr uu) (fun v16 _ => xn - (intOf v16).toNat)
        case atStart => exact ⟨0, by omega, rfl, K8.out.1, K8.out.2.1⟩
        case round =>
          obtain ⟨kk, hkk, rfl, hS, hX⟩ := hrel
          obtain ⟨Y1, hY1⟩ : ∃ e, wr = e := ⟨_, rfl⟩
          have J1 : Hid (OrS w Y1 b c cap rr L s' r' v uu ∧ XsS w Y1 (.slice xa xn xc) xx rr uu) := by rw [← hY1]; exact ⟨hS, hX⟩
          have hk0 : (0 : Int) ≤ (kk : Int) := by omega
          rw [hY1]
          clear hS hX hY1
          by_cases hkn : kk < xn
          · have hk1 : (kk : Int) < (xn : Int) := by omega
            obtain ⟨xb, xo, rfl⟩ := J1.out.2.sl.some' (by omega)
            obtain ⟨x, hx⟩ : ∃ x, xx[kk]? = some x := ⟨_, List.getElem?_eq_getElem (by rw [K8.out.2.2]; exact hkn)⟩
            have HX : Hid (xx[kk]? = some x ∧ x ∈ xx ∧ kk < xn) := ⟨hx, List.mem_of_getElem? hx, hkn⟩
            clear hx hkn
            go_wp2_with fail
            go_loopw [17] (fun v17 wx => ∃ j : Nat, j ≤ x.n ∧ v17 = .int .i64 j ∧ OrS w wx b c cap rr L s' r' v uu ∧ XsS w wx (.slice (some ⟨xb, xo, none⟩) xn xc) xx rr uu) (fun v17 _ => x.n - (intOf v17).toNat)
            case atStart => exact ⟨0, by omega, rfl, J1.out.1, J1.out.2⟩
            case round =>
              obtain ⟨j, hj, rfl, hS, hY⟩ := hrel
              obtain ⟨Y2, hY2⟩ : ∃ e, wr = e := ⟨_, rfl⟩
              have J2 : Hid (OrS w Y2 b c cap rr L s' r' v uu ∧ XsS w Y2 (.slice (some ⟨xb, xo, none⟩) xn xc) xx rr uu) := by rw [← hY2]; exact ⟨hS, hY⟩
              have hj0 : (0 : Int) ≤ (j : Int) := by omega
              rw [hY2]
              clear hS hY hY2
              have c1 := lS J2.out.2.sl HX.out.1
              have hmx := (J2.out.2.y _ HX.out.2.1).max
              obtain ⟨ya, yn, yc⟩ := x
              have hmx' : (yn : Int) ≤ 9223372036854775807 := hmx
              have hj' : j ≤ yn := hj
              clear hmx hj
              by_cases hjn : j < yn
              · have hj1 : (j : Int) < (yn : Int) := by omega
                obtain ⟨g, u, ea, hgB, hgs, hc, hst⟩ := (J2.out.2.y _ HX.out.2.1).at' (j := j) hjn
                have ea' : ya = some ⟨g, 0, none⟩ := ea
                subst ea'
                have HG : Hid (w.heap.size ≤ g ∧ g < Y2.heap.size ∧ j < yn) := ⟨hgB, hgs, hjn⟩
                have HST : Hid (∀ z : Int, ∃ W', (stS 5 (.pointer (some ⟨g, j, none⟩)) (.int .u8 z)).run Try.prog Y2 = .ok () W' ∧ Y2.grownBy W' (some g) ∧ ∀ (B' : Nat) (y' : Sl), ByS Y2 B' y' → ByS W' B' y') := hst
                clear hst hgB hgs hjn ea
                obtain ⟨Y3, s3, g3, y3⟩ := HST.out (bits BinOp.xor IntKind.u8 u 255)
                obtain ⟨_, cur, r3⟩ := (J2.out.2.y _ HX.out.2.1).rv (g := g) rfl
                have K3 : Hid (OrS w Y3 b c cap rr L s' r' v uu ∧ XsS w Y3 (.slice (some ⟨xb, xo, none⟩) xn xc) xx rr uu) := ⟨J2.out.1.over r3 (J2.out.2.f _ HX.out.2.1 g rfl) HG.out.1 g3, J2.out.2.st r3 g3 y3⟩
                have c2 : Y2.cell? ⟨xb, xo + kk, none⟩ = some (.slice (some ⟨g, 0, none⟩) yn yc) := c1
                clear g3 y3 r3 c1
                go_wp2
                go_roundw
                case rel => exact ⟨j + 1, by have := HG.out; show j + 1 ≤ yn; omega, by go_num, K3.out.1, K3.out.2⟩
                case measure => have := HG.out; show yn - _ < yn - _; simp [intOf]; omega
              · have hj2 : ¬ (j : Int) < (yn : Int) := by omega
                have c2 : Y2.cell? ⟨xb, xo + kk, none⟩ = some (.slice ya yn yc) := c1
                clear c1
                go_wp2
                go_roundw
                case rel => exact ⟨kk + 1, by have := HX.out.2.2; omega, by go_num, J2.out.1, J2.out.2⟩
                case measure => have := HX.out.2.2; simp [intOf]; omega
          · have hk2 : ¬ (kk : Int) < (xn : Int) := by omega
            go_wp2
            go_roundw
            case rel => exact ⟨i + 1, _, _, _, _, v, _, by have := HI.out; omega, by have := HI.out; omega, rfl, by go_num, J1.out.1⟩
            case measure => have := HI.out; simp [intOf]; omega
    · have hex : ¬ ((i : Int) < (n : Int)) ∨ ¬ ((i : Int) < 80) := by omega
      by_cases hin : (i : Int) < (n : Int)
      · have h80 : ¬ ((i : Int) < 80) := by omega
        clear hex hit
        go_wp2_with fail
        refine (all_any J.out.q).mono ?_
        rintro _ X8 hA
        obtain ⟨va, xx, rfl, oa, ala⟩ := hA.is
        obtain ⟨s', r', q'⟩ := hA.at_
        have ht := J.out.turn q' hA.gr
        obtain ⟨xa, xc, rfl, sa, _⟩ := Own.form (e := eS) oa
        have rs1 : RowsS X8 xa xx.length xc L := ⟨xx, sa, ala.mono fun _ _ h => h.src⟩
        have rs2 : RowsS X8 v.a v.n v.c L := ⟨uu, ht.1.sl, ht.2.mono fun _ _ h => h.src⟩
        have K8 : Hid (Below w.heap.size w X8) := q'.bel
        clear hA oa ala q' ht sa
        go_wp2_with fail
        refine (rsame_yes rs1 rs2).mono ?_
        rintro _ X9 ⟨rfl, b9⟩
        clear rs1 rs2
        go_wp2
        go_ret
        exact ⟨rfl, below_over K8.out b9⟩
      · clear hex hit
        go_wp2_with fail
        refine (all_any J.out.q).mono ?_
        rintro _ X8 hA
        obtain ⟨va, xx, rfl, oa, ala⟩ := hA.is
        obtain ⟨s', r', q'⟩ := hA.at_
        have ht := J.out.turn q' hA.gr
        obtain ⟨xa, xc, rfl, sa, _⟩ := Own.form (e := eS) oa
        have rs1 : RowsS X8 xa xx.length xc L := ⟨xx, sa, ala.mono fun _ _ h => h.src⟩
        have rs2 : RowsS X8 v.a v.n v.c L := ⟨uu, ht.1.sl, ht.2.mono fun _ _ h => h.src⟩
        have K8 : Hid (Below w.heap.size w X8) := q'.bel
        clear hA oa ala q' ht sa
        go_wp2_with fail
        refine (rsame_yes rs1 rs2).mono ?_
        rintro _ X9 ⟨rfl, b9⟩
        clear rs1 rs2
        go_wp2
        go_ret
        exact ⟨rfl, below_over K8.out b9⟩
end Go.Proofs.Ytoojoiindfgoeaa
