/-
  What any calls make of any queue: the walk of the law, for every input.
-/
import Derived.Test.YtoojoiindfgoeaaQq
import Derived.Deep.CutRange
namespace Go.Proofs.Ytoojoiindfgoeaa
set_option linter.unusedVariables false
set_option maxRecDepth 4000
set_option linter.unusedSimpArgs false
open Go.RowKit Go.Conc
attribute [local go_sem ↓] apU apL bsU bsL ldQ stQ stL slL slU
attribute [local go_sem] bzU bzL b1S
theorem b5U (x1 x2 x3 x4 x5 : Int) (w : World) : (bsS 33 5 #[(0, .int .u8 x1), (1, .int .u8 x2), (2, .int .u8 x3), (3, .int .u8 x4), (4, .int .u8 x5)]).run Try.prog w = .ok (.slice (some ⟨w.heap.size, 0, none⟩) 5 5) (w.alloc (.cells #[.int .u8 x1, .int .u8 x2, .int .u8 x3, .int .u8 x4, .int .u8 x5] 5)) := by kernel_rfl
attribute [local go_sem] b5U
set_option maxHeartbeats 16000000 in
theorem runs_law (room : Int) (a : Option Addr) (n k : Nat) (tt : List Oq) (os : List Oa) (w : World) (h : Ops w a n k tt os) :
    Calls Try.prog 3 #[.int .i64 room, .slice a n k] w fun r w' => r = .returned (.bool true) ∧ Below w.heap.size w w' := by
  have HO : Hid (Ops w a n k tt os) := h
  have hnn := h.sl.int
  clear h
  by_cases hr : 1 ≤ room ∧ room ≤ 32
  · go_enter Try.func3, Try.ntmps3
    go_wp2_with fail
    refine (new_any room w w (Below.refl _ _)).mono ?_
    rintro _ W1 hN
    obtain ⟨b0, c0, rfl, q1, _⟩ := hN.yes hr
    have K1 : Hid (QAt w W1 b0 c0 room.toNat [] [] 0 0) := q1
    clear hN q1
    go_wp2_with fail
    refine (rnew_any room W1).mono ?_
    rintro _ W2 ⟨rfl, b2⟩
    obtain ⟨cap, hcap⟩ : ∃ e, room.toNat = e := ⟨_, rfl⟩
    have e1 : rnN room = (cap : Int) := by unfold rnN; rw [if_pos hr, ← hcap]; omega
    have e2 : rnE room = 0 := by unfold rnE; rw [if_pos hr]
    rw [e1, e2]
    rw [hcap] at K1
    obtain ⟨W3, s3, m3, b3⟩ := RqAt.put W2 cap (.slice none 0 0) rfl
    have hcap2 : 1 ≤ cap ∧ cap ≤ 32 := by omega
    have K3 : Hid (QrS w W3 W2.heap.size b0 c0 cap [] [] 0 0 none 0 0) := ⟨(K1.out.below b2).below b3, m3, ⟨[], SlAt.none' _, trivial⟩, fun y e => (by cases e), (K1.out.below b2).bel.size⟩
    clear b2 m3 b3 e1 e2 hcap K1
    go_wp2_with fail
    refine (awake_any W3).mono ?_
    rintro _ W4 ⟨rfl, b4⟩
    have K4 : Hid (QrS w W4 W2.heap.size b0 c0 cap [] [] 0 0 none 0 0) := K3.out.below b4
    clear b4 K3 s3
    go_wp2_with fail
    obtain ⟨g, hg⟩ : ∃ e, W2.heap.size = e := ⟨_, rfl⟩
    rw [hg] at K4
    rw [hg]
    clear hg
    go_loopw [5, 9] (fun v5 v wr => ∃ (i b c : Nat) (rr : List Sl) (L : List (List Int)) (s r : Nat) (ra : Option Addr) (rn rc : Nat), i ≤ n ∧ i ≤ 80 ∧ v5 = .pointer (some ⟨b, 0, none⟩) ∧ v = .int .i64 i ∧ QrS w wr g b c cap rr L s r ra rn rc) (fun _ v _ => n - (intOf v).toNat)
    case atStart => exact ⟨0, b0, c0, _, _, _, _, _, _, _, by omega, by omega, rfl, rfl, K4.out⟩
    case round =>
      obtain ⟨i, b, c, rr, L, s, r, ra, rn, rc, hi, hj, rfl, rfl, hS⟩ := hrel
      have J : Hid (QrS w wr g b c cap rr L s r ra rn rc) := hS
      have hi0 : (0 : Int) ≤ (i : Int) := by omega
      clear hS K4
      by_cases hit : i < n ∧ i < 80
      · have hi1 : (i : Int) < (n : Int) := by omega
        have hi2 : (i : Int) < 80 := by omega
        have HI : Hid (i < n ∧ i < 80) := hit
        obtain ⟨lb, lo, rfl⟩ := HO.out.sl.some' (by omega)
        obtain ⟨x, y, hx, hy, hop⟩ := HO.out.get (i := i) (by omega)
        have HX : Hid (tt[i]? = some x ∧ os[i]? = some y ∧ IsOp w x y) := ⟨hx, hy, hop⟩
        have hbel := J.out.q.bel
        have f0 := fun q : Later wr => lO1 ((HO.out.below hbel).sl.below q.below) hx
        obtain ⟨m, hm⟩ : ∃ e : Nat, min x.n 2100 = e := ⟨_, rfl⟩
        have hxi := hop.2.int
        have f1 : (if (2100 : Int) < (x.n : Int) then (2100 : Int) else (x.n : Int)) = (m : Int) := by split <;> omega
        have f2 : ∀ Z : World, (slS 33 (.slice x.a x.n x.c) none (some (.int .i64 m)) none).run Try.prog Z = .ok (.slice x.a m x.c) Z := slU_cut x.a x.n x.c m (by omega) hop.2.cap
        have HM : Hid (SlAt eU w x.a m x.c (y.b.take m)) := sl_take hop.2 (by omega)
        clear hx hy hop hbel hit
        go_wp2_with fail
        refine wp_region_later (by kernel_rfl) (by kernel_rfl) ?_
        repeat (go_big_quiet_step (first | exact rfl))
        refine wpQuiet_nil ?_
        intro _ hw'
        obtain ⟨q, rfl⟩ := hw'
        obtain ⟨X1, hX1⟩ : ∃ e, q.val = e := ⟨_, rfl⟩
        have J1 : Hid (QrS w X1 g b c cap rr L s r ra rn rc) := by rw [← hX1]; exact J.out.below q.below
        rw [hX1]
        clear hX1 f0 f1 f2 J
        go_step
        go_step
        go_step
        go_cut [5] from 71 to 137 (fun v5 wx => ∃ (b c : Nat) (rr : List Sl) (L : List (List Int)) (s r : Nat) (ra : Option Addr) (rn rc : Nat), v5 = .pointer (some ⟨b, 0, none⟩) ∧ QrS w wx g b c cap rr L s r ra rn rc)
        case first =>
          have f3 := lO0 (HO.out.below J1.out.q.bel).sl HX.out.1
          obtain ⟨kk, hkk⟩ : ∃ e, x.k = e := ⟨_, rfl⟩
          rw [hkk] at f3
          clear hkk
          by_cases k1 : kk = 1
          · subst k1
            go_wp2_with fail
            refine (put_any J1.out.q (HM.out.below J1.out.q.bel)).mono ?_
            rintro _ X2 ⟨rfl, ⟨rr', s', r', q', _⟩, g'⟩
            have hc' := J1.out.code q' g'
            have K2 : Hid (QAt w X2 b c cap rr' (putL cap L (y.b.take m)) s' r' ∧ RqAt X2 g cap (.slice ra rn rc) ∧ RowsS X2 ra rn rc L) := ⟨q', hc'.1, hc'.2⟩
            clear q' g' hc' f3
            have l0 := K2.out.2.1.ld
            go_wp2_with fail
            refine (rput_any K2.out.2.2 (by have h1 := J1.out.q.cap; have h2 := J1.out.rs.len; omega) (HM.out.below K2.out.1.bel) hcap2.2).mono ?_
            rintro _ X3 ⟨_, rfl, ⟨a', n', c', rfl, rs', hne'⟩, b3⟩
            obtain ⟨PE, hPE⟩ : ∃ e, putE cap L (y.b.take m) = e := ⟨_, rfl⟩
            rw [hPE]
            obtain ⟨X4, s4, m4, b4⟩ := RqAt.put X3 cap (.slice a' n' c') rfl
            have l4 := m4.ld
            have ne' : ∀ y, a' = some y → y.block ≠ g := fun z hz => by
              rcases hne' with e | e
              · subst e
                exact J1.out.ne z hz
              · have h1 := e z hz
                have h2 := RvAt.lt K2.out.2.1
                omega
            obtain ⟨X5, s5, Q5⟩ := QrS.ref ((K2.out.1.below b3).below b4) (RvAt.below (RvAt.below K2.out.2.1 b3) b4) ⟨_, _, _, rfl⟩ J1.out.lo (rs'.below b4) ne'
            have K5 : Hid (QrS w X5 g b c cap rr' (putL cap L (y.b.take m)) s' r' a' n' c') := Q5
            clear rs' hne' b3 m4 b4 ne' Q5 hPE
            have pe : (PE != PE) = false := by simp
            go_wp2
            go_meet
            exact ⟨b, c, _, _, _, _, _, _, _, rfl, K5.out⟩
          by_cases k2 : kk = 2
          · subst k2
            go_wp2_with fail
            refine (put_any J1.out.q (HM.out.below J1.out.q.bel)).mono ?_
            rintro _ X2 ⟨rfl, ⟨rr', s', r', q', _⟩, g'⟩
            have hc' := J1.out.code q' g'
            have K2 : Hid (QAt w X2 b c cap rr' (putL cap L (y.b.take m)) s' r' ∧ RqAt X2 g cap (.slice ra rn rc) ∧ RowsS X2 ra rn rc L) := ⟨q', hc'.1, hc'.2⟩
            clear q' g' hc' f3
            have l0 := K2.out.2.1.ld
            go_wp2_with fail
            refine (rput_any K2.out.2.2 (by have h1 := J1.out.q.cap; have h2 := J1.out.rs.len; omega) (HM.out.below K2.out.1.bel) hcap2.2).mono ?_
            rintro _ X3 ⟨_, rfl, ⟨a', n', c', rfl, rs', hne'⟩, b3⟩
            obtain ⟨PE, hPE⟩ : ∃ e, putE cap L (y.b.take m) = e := ⟨_, rfl⟩
            rw [hPE]
            obtain ⟨X4, s4, m4, b4⟩ := RqAt.put X3 cap (.slice a' n' c') rfl
            have l4 := m4.ld
            have ne' : ∀ y, a' = some y → y.block ≠ g := fun z hz => by
              rcases hne' with e | e
              · subst e
                exact J1.out.ne z hz
              · have h1 := e z hz
                have h2 := RvAt.lt K2.out.2.1
                omega
            obtain ⟨X5, s5, Q5⟩ := QrS.ref ((K2.out.1.below b3).below b4) (RvAt.below (RvAt.below K2.out.2.1 b3) b4) ⟨_, _, _, rfl⟩ J1.out.lo (rs'.below b4) ne'
            have K5 : Hid (QrS w X5 g b c cap rr' (putL cap L (y.b.take m)) s' r' a' n' c') := Q5
            clear rs' hne' b3 m4 b4 ne' Q5 hPE
            have pe : (PE != PE) = false := by simp
            go_wp2
            go_meet
            exact ⟨b, c, _, _, _, _, _, _, _, rfl, K5.out⟩
          have n1 : (kk == 1) = false := by simp [k1]
          have n2 : (kk == 2) = false := by simp [k2]
          by_cases k3 : kk = 3
          · subst k3
            go_wp2_with fail
            refine (take_any J1.out.q).mono ?_
            rintro _ X2 hT
            have ne0 : ∀ (X : World) (a' : Option Addr), X2.heap.size ≤ X.heap.size → (a' = ra ∨ ∀ z, a' = some z → X2.heap.size ≤ z.block) → g < X2.heap.size → ∀ z, a' = some z → z.block ≠ g := fun X a' _ hne hgl z hz => by
              rcases hne with e | e
              · subst e
                exact J1.out.ne z hz
              · have h1 := e z hz
                omega
            cases L with
            | nil =>
              obtain ⟨rfl, s', r', q'⟩ := hT.none rfl
              have hc' := J1.out.code q' hT.gr
              have K2 : Hid (QAt w X2 b c cap [] [] s' r' ∧ RqAt X2 g cap (.slice ra rn rc) ∧ RowsS X2 ra rn rc []) := ⟨q', hc'.1, hc'.2⟩
              clear hT q' hc' f3 ne0
              have l0 := K2.out.2.1.ld
              go_wp2_with fail
              refine (rtake_any (cap := cap) K2.out.2.2 (by have h1 := J1.out.q.cap; have h2 := J1.out.rs.len; omega)).mono ?_
              rintro _ X3 hR
              have eR := hR.none rfl
              subst eR
              have b3 := hR.bel
              clear hR
              obtain ⟨X4, s4, m4, b4⟩ := RqAt.put X3 cap (.slice ra rn rc) rfl
              have l4 := m4.ld
              obtain ⟨X5, s5, Q5⟩ := QrS.ref ((K2.out.1.below b3).below b4) (RvAt.below (RvAt.below K2.out.2.1 b3) b4) ⟨_, _, _, rfl⟩ J1.out.lo ((K2.out.2.2.below b3).below b4) J1.out.ne
              have K5 : Hid (QrS w X5 g b c cap [] [] s' r' ra rn rc) := Q5
              have cz : (convert 33 9 (.slice none 0 0)).run Try.prog X5 = .ok (.string (bs [])) X5 := str_sl (SlAt.none' X5)
              clear b3 m4 b4 Q5
              go_wp2
              go_meet
              exact ⟨b, c, _, _, _, _, _, _, _, rfl, K5.out⟩
            | cons l L =>
              obtain ⟨x', rr', _, rfl, ox, s', r', q'⟩ := hT.some l L rfl
              have hc' := J1.out.code q' hT.gr
              have K2 : Hid (QAt w X2 b c cap rr' L s' r' ∧ RqAt X2 g cap (.slice ra rn rc) ∧ RowsS X2 ra rn rc (l :: L) ∧ SrcS X2 x' l) := ⟨q', hc'.1, hc'.2, ox.src⟩
              clear hT q' hc' f3 ox
              have l0 := K2.out.2.1.ld
              go_wp2_with fail
              refine (rtake_any (cap := cap) K2.out.2.2.1 (by have h1 := J1.out.q.cap; have h2 := J1.out.rs.len; omega)).mono ?_
              rintro _ X3 hR
              obtain ⟨_, y', rfl, ⟨a', n', c', rfl, rs', hne'⟩, sy⟩ := hR.some l L rfl
              have b3 := hR.bel
              clear hR
              obtain ⟨X4, s4, m4, b4⟩ := RqAt.put X3 cap (.slice a' n' c') rfl
              have l4 := m4.ld
              have ne' := ne0 X3 a' b3.size hne' (RvAt.lt K2.out.2.1)
              obtain ⟨X5, t5, m5, g5⟩ := RqAt.st (RvAt.below (RvAt.below K2.out.2.1 b3) b4) cap (.slice a' n' c') rfl
              have v4 : RqAt X4 g cap (.slice ra rn rc) := RvAt.below (RvAt.below K2.out.2.1 b3) b4
              have K5 : Hid (QrS w X5 g b c cap rr' L s' r' a' n' c' ∧ SrcS X5 x' l ∧ SrcS X5 y' l) := ⟨⟨((K2.out.1.below b3).below b4).apartR v4 J1.out.lo g5, m5, (rs'.below b4).apartR v4 ⟨_, _, _, rfl⟩ ne' g5, ne', J1.out.lo⟩, SlAt.apartR (SrcS.below (SrcS.below K2.out.2.2.2 b3) b4) v4 ⟨_, _, _, rfl⟩ g5, SlAt.apartR (SrcS.below sy b4) v4 ⟨_, _, _, rfl⟩ g5⟩
              obtain ⟨BB, hBB⟩ : ∃ e, bs l = e := ⟨_, rfl⟩
              have cx : (convert 33 9 x'.v).run Try.prog X5 = .ok (.string BB) X5 := by rw [← hBB]; exact str_sl K5.out.2.1
              have cy : (convert 33 9 y'.v).run Try.prog X5 = .ok (.string BB) X5 := by rw [← hBB]; exact str_sl K5.out.2.2
              clear b3 m4 b4 m5 g5 v4 rs' hne' ne' sy ne0 hBB
              go_wp2
              go_meet
              exact ⟨b, c, _, _, _, _, _, _, _, rfl, K5.out.1⟩
          have n3 : (kk == 3) = false := by simp [k3]
          by_cases k4 : kk = 4
          · subst k4
            have hgl := RvAt.lt J1.out.v
            go_wp2_with fail
            obtain ⟨X0, hX0⟩ : ∃ X0, X1.drew = X0 := ⟨_, rfl⟩
            have B0 : Below X1.heap.size X1 X0 := by rw [← hX0]; exact (Below.refl _ _).drew
            have J2 : Hid (QrS w X0 g b c cap rr L s r ra rn rc) := J1.out.below B0
            refine wp_region_noPanic ?_
            refine wp_region_held_drew (S := fun w' => RqAt w' g cap (.slice ra rn rc)) (by kernel_rfl) (J1.out.v.below (Below.refl _ _).drew) (fun hHeld => ?_)
            rw [hX0] at hHeld ⊢
            clear hX0 B0 f3
            refine wpAnyH_take (i := 0) (oi := { dst := some 118, op := Op.move (Operand.tmp 5), type := 23, pos := "law.go:55", after := #[], guard := none }) (v := ?_) rfl (by kernel_rfl) (by kernel_rfl) (by kernel_rfl) (fun _ _ _ h => h) (Or.inl ⟨by rfl, ?_⟩) hHeld ?_
            rotate_left
            · intro W_ hSw_
              first | (go_simp; done) | (go_simp; with_reducible rfl)
            rotate_left
            try simp only [Act.put, List.setIfInBounds_toArray, List.set_cons_zero, List.set_cons_succ]
            refine wpAnyH_take (i := 2) (oi := { dst := some 120, op := Op.fieldAddr 29 (Operand.tmp 7) 1, type := 0, pos := "law.go:55", after := #[], guard := none }) (v := ?_) rfl (by kernel_rfl) (by kernel_rfl) (by kernel_rfl) (fun _ _ _ h => h) (Or.inl ⟨by rfl, ?_⟩) hHeld ?_
            rotate_left
            · intro W_ hSw_
              first | (go_simp; done) | (go_simp; with_reducible rfl)
            rotate_left
            try simp only [Act.put, List.setIfInBounds_toArray, List.set_cons_zero, List.set_cons_succ]
            refine wpAnyH_take (i := 3) (oi := { dst := some 121, op := Op.load 27 (Operand.tmp 120), type := 27, pos := "law.go:55", after := #[{ on := 2, ground := Ground.data }], guard := none }) (v := ?_) rfl (by kernel_rfl) (by kernel_rfl) (by kernel_rfl) (fun _ _ _ h => h) (Or.inl ⟨by rfl, ?_⟩) hHeld ?_
            rotate_left
            · intro W_ hSw_
              have l_ : W_.cell? ⟨g, 1, none⟩ = some (.slice ra rn rc) := RvAt.cell hSw_ 1 _ rfl
              first | (go_simp; done) | (go_simp; with_reducible rfl)
            rotate_left
            try simp only [Act.put, List.setIfInBounds_toArray, List.set_cons_zero, List.set_cons_succ]
            refine wpAnyH_take (i := 4) (oi := { dst := some 122, op := Op.call { callee := Callee.builtin Builtin.len, args := #[Operand.tmp 121], argTypes := #[27] }, type := 3, pos := "law.go:55", after := #[{ on := 3, ground := Ground.data }], guard := none }) (v := ?_) rfl (by kernel_rfl) (by kernel_rfl) (by kernel_rfl) (fun _ _ _ h => h) (Or.inl ⟨by rfl, ?_⟩) hHeld ?_
            rotate_left
            · intro W_ hSw_
              first | (go_simp; done) | (go_simp; with_reducible rfl)
            rotate_left
            try simp only [Act.put, List.setIfInBounds_toArray, List.set_cons_zero, List.set_cons_succ]
            refine wpAnyH_ready (rs := [1]) (by kernel_rfl) (by simp) ?_
            refine AllReadyH.cons (o := { dst := some 119, op := Op.call { callee := Callee.value (Operand.func 13), args := #[Operand.tmp 118], argTypes := #[23] }, type := 3, pos := "law.go:55", after := #[{ on := 0, ground := Ground.data }], guard := none }) rfl (fun K hK => ?_) AllReadyH.nil
            go_simp
            refine (clear_any J2.out.q).mono ?_
            rintro _ X2 ⟨rfl, ⟨s', r', q'⟩, g'⟩
            have hc' := J2.out.code q' g'
            have K2 : Hid (QAt w X2 b c cap [] [] s' r' ∧ RqAt X2 g cap (.slice ra rn rc)) := ⟨q', hc'.1⟩
            have hLn := J2.out.rs.len
            have le : ((L.length : Int) != (rn : Int)) = false := by simp [hLn]
            clear hHeld q' g' hc' hLn
            refine hK.out _ _ K2.out.2 (fun hHeld => ?_)
            clear hK K
            try simp only [Act.put, List.setIfInBounds_toArray, List.set_cons_zero, List.set_cons_succ]
            refine wpAnyH_ready (rs := [5]) (by kernel_rfl) (by simp) ?_
            refine AllReadyH.cons (o := { dst := some 123, op := Op.binOp BinOp.neq 3 (Operand.tmp 119) (Operand.tmp 122) 3, type := 4, pos := "law.go:55", after := #[{ on := 1, ground := Ground.data }, { on := 4, ground := Ground.data }], guard := none }) rfl (fun K hK => ?_) AllReadyH.nil
            go_simp
            clear hHeld
            refine hK.out _ _ K2.out.2 (fun hHeld => ?_)
            clear hK K
            try simp only [Act.put, List.setIfInBounds_toArray, List.set_cons_zero, List.set_cons_succ]
            refine wpAnyH_done (by kernel_rfl) ?_ _
            refine NoPanic.normal ?_
            clear hHeld
            obtain ⟨X5, t5, m5, g5⟩ := RqAt.stL K2.out.2 (.slice none 0 0) rfl
            have K5 : Hid (QrS w X5 g b c cap [] [] s' r' none 0 0) := ⟨K2.out.1.apartR K2.out.2 J2.out.lo g5, m5, ⟨[], SlAt.none' _, trivial⟩, fun y e => (by cases e), J2.out.lo⟩
            clear m5 g5
            go_wp2
            go_meet
            exact ⟨b, c, _, _, _, _, _, _, _, rfl, K5.out⟩
          have n4 : (kk == 4) = false := by simp [k4]
          by_cases k5 : kk = 5
          · subst k5
            go_wp2_with fail
            refine (fork_any J1.out.q).mono ?_
            rintro _ X2 ⟨⟨b', c', tt', s', r', rfl, q', lo', al'⟩, ⟨s1, r1, q1⟩, g1⟩
            have hc' := J1.out.code q1 g1
            have hbc := lt_of_block J1.out.q.ch
            have hbb := J1.out.q.pt.lt
            have K2 : Hid (QrS w X2 g b c cap rr L s1 r1 ra rn rc ∧ QAt w X2 b' c' cap tt' L s' r' ∧ c ≠ b' ∧ c ≠ c') := ⟨⟨q1, hc'.1, hc'.2, J1.out.ne, J1.out.lo⟩, q', by omega, by omega⟩
            clear q' lo' al' q1 g1 hc' hbc hbb f3
            obtain ⟨U3, V3, hV3, cV3, s3, b3⟩ := bytes_const X2 #[.int .u8 111, .int .u8 116, .int .u8 104, .int .u8 101, .int .u8 114] [111, 116, 104, 101, 114] 5 rfl rfl (by decide)
            have K3 : Hid (QrS w V3 g b c cap rr L s1 r1 ra rn rc ∧ QAt w V3 b' c' cap tt' L s' r' ∧ ∀ j, some c = some j → w.heap.size ≤ j ∧ j ≠ b' ∧ j ≠ c' ∧ ∀ x ∈ tt', x.v.ownBlock ≠ some j) := ⟨K2.out.1.below b3, K2.out.2.1.below b3, fun j e => by
              cases e
              exact ⟨K2.out.1.q.lo.2, K2.out.2.2.1, K2.out.2.2.2, K2.out.2.1.rne K2.out.1.q.ch⟩⟩
            go_wp2_with fail
            refine (put_any K3.out.1.q s3).mono ?_
            rintro _ X4 ⟨rfl, ⟨rr4, s4, r4, q4, _⟩, g4⟩
            have hc4 := K3.out.1.code q4 g4
            have K5 : Hid (QAt w X4 b c cap rr4 (putL cap L [111, 116, 104, 101, 114]) s4 r4 ∧ RqAt X4 g cap (.slice ra rn rc) ∧ RowsS X4 ra rn rc L ∧ QAt w X4 b' c' cap tt' L s' r') := ⟨q4, hc4.1, hc4.2, K3.out.2.1.keep g4 K3.out.2.2⟩
            clear q4 g4 hc4 s3 b3 hV3 cV3
            go_wp2_with fail
            refine (take_any K5.out.1).mono ?_
            rintro _ X6 hT
            obtain ⟨v1, v2, rfl, _⟩ := hT.any
            have hc6 := rq_code K5.out.1 K5.out.2.1 K5.out.2.2.1 hT.gr
            have K6 : Hid (QrS w X6 g b' c' cap tt' L s' r' ra rn rc) := ⟨K5.out.2.2.2.keep hT.gr K3.out.2.2, hc6.1, hc6.2, J1.out.ne, J1.out.lo⟩
            clear hT hc6
            go_wp2
            go_meet
            exact ⟨b', c', _, _, _, _, _, _, _, rfl, K6.out⟩
          have n5 : (kk == 5) = false := by simp [k5]
          clear k1 k2 k3 k4 k5
          go_wp2
          go_meet
          exact ⟨b, c, _, _, _, _, _, _, _, rfl, J1.out⟩
        case rest =>
          obtain ⟨b, c, rr, L, s, r, ra, rn, rc, rfl, hS⟩ := hcut
          obtain ⟨X6, hX6⟩ : ∃ e, wc = e := ⟨_, rfl⟩
          rw [hX6] at hS ⊢
          clear hX6
          have K6 : Hid (QrS w X6 g b c cap rr L s r ra rn rc) := hS
          clear hS J1
          have hLn := K6.out.rs.len
          have hqc := K6.out.q.cap
          have le : ((L.length : Int) != (rn : Int)) = false := by simp [hLn]
          have p1 : (0 : Int) ≤ (cap : Int) - (rn : Int) := by omega
          have p2 : (cap : Int) - (rn : Int) ≤ 32 := by omega
          have pw : IntKind.i64.wrap ((cap : Int) - (rn : Int)) = (cap : Int) - (rn : Int) := IntWalk.i64_in _ (by omega)
          have HZ : Hid (L.length = rn ∧ rn ≤ 32) := ⟨hLn, by omega⟩
          clear hLn hqc
          go_wp2_with fail
          obtain ⟨X0, hX0⟩ : ∃ X0, X6.drew = X0 := ⟨_, rfl⟩
          have B0 : Below X6.heap.size X6 X0 := by rw [← hX0]; exact (Below.refl _ _).drew
          have J2 : Hid (QrS w X0 g b c cap rr L s r ra rn rc) := K6.out.below B0
          refine wp_region_noPanic ?_
          refine wp_region_held_drew (S := fun w' => RqAt w' g cap (.slice ra rn rc)) (by kernel_rfl) (K6.out.v.below (Below.refl _ _).drew) (fun hHeld => ?_)
          rw [hX0] at hHeld ⊢
          clear hX0 B0
          refine wpAnyH_take (i := 0) (oi := { dst := some 138, op := Op.move (Operand.tmp 5), type := 23, pos := "law.go:68", after := #[], guard := none }) (v := ?_) rfl (by kernel_rfl) (by kernel_rfl) (by kernel_rfl) (fun _ _ _ h => h) (Or.inl ⟨by rfl, ?_⟩) hHeld ?_
          rotate_left
          · intro W_ hSw_
            first | (go_simp; done) | (go_simp; with_reducible rfl)
          rotate_left
          try simp only [Act.put, List.setIfInBounds_toArray, List.set_cons_zero, List.set_cons_succ]
          refine wpAnyH_take (i := 2) (oi := { dst := some 140, op := Op.fieldAddr 29 (Operand.tmp 7) 1, type := 0, pos := "law.go:68", after := #[], guard := none }) (v := ?_) rfl (by kernel_rfl) (by kernel_rfl) (by kernel_rfl) (fun _ _ _ h => h) (Or.inl ⟨by rfl, ?_⟩) hHeld ?_
          rotate_left
          · intro W_ hSw_
            first | (go_simp; done) | (go_simp; with_reducible rfl)
          rotate_left
          try simp only [Act.put, List.setIfInBounds_toArray, List.set_cons_zero, List.set_cons_succ]
          refine wpAnyH_take (i := 3) (oi := { dst := some 141, op := Op.load 27 (Operand.tmp 140), type := 27, pos := "law.go:68", after := #[{ on := 2, ground := Ground.data }], guard := none }) (v := ?_) rfl (by kernel_rfl) (by kernel_rfl) (by kernel_rfl) (fun _ _ _ h => h) (Or.inl ⟨by rfl, ?_⟩) hHeld ?_
          rotate_left
          · intro W_ hSw_
            have l_ : W_.cell? ⟨g, 1, none⟩ = some (.slice ra rn rc) := RvAt.cell hSw_ 1 _ rfl
            first | (go_simp; done) | (go_simp; with_reducible rfl)
          rotate_left
          try simp only [Act.put, List.setIfInBounds_toArray, List.set_cons_zero, List.set_cons_succ]
          refine wpAnyH_take (i := 4) (oi := { dst := some 142, op := Op.call { callee := Callee.builtin Builtin.len, args := #[Operand.tmp 141], argTypes := #[27] }, type := 3, pos := "law.go:68", after := #[{ on := 3, ground := Ground.data }], guard := none }) (v := ?_) rfl (by kernel_rfl) (by kernel_rfl) (by kernel_rfl) (fun _ _ _ h => h) (Or.inl ⟨by rfl, ?_⟩) hHeld ?_
          rotate_left
          · intro W_ hSw_
            first | (go_simp; done) | (go_simp; with_reducible rfl)
          rotate_left
          try simp only [Act.put, List.setIfInBounds_toArray, List.set_cons_zero, List.set_cons_succ]
          refine wpAnyH_ready (rs := [1]) (by kernel_rfl) (by simp) ?_
          refine AllReadyH.cons (o := { dst := some 139, op := Op.call { callee := Callee.value (Operand.func 15), args := #[Operand.tmp 138], argTypes := #[23] }, type := 3, pos := "law.go:68", after := #[{ on := 0, ground := Ground.data }], guard := none }) rfl (fun K hK => ?_) AllReadyH.nil
          go_simp
          refine (len_any J2.out.q).mono ?_
          rintro _ _ ⟨rfl, rfl⟩
          clear hHeld
          refine hK.out _ _ J2.out.v (fun hHeld => ?_)
          clear hK K
          try simp only [Act.put, List.setIfInBounds_toArray, List.set_cons_zero, List.set_cons_succ]
          refine wpAnyH_ready (rs := [5]) (by kernel_rfl) (by simp) ?_
          refine AllReadyH.cons (o := { dst := some 143, op := Op.binOp BinOp.neq 3 (Operand.tmp 139) (Operand.tmp 142) 3, type := 4, pos := "law.go:68", after := #[{ on := 1, ground := Ground.data }, { on := 4, ground := Ground.data }], guard := none }) rfl (fun K hK => ?_) AllReadyH.nil
          go_simp
          clear hHeld
          refine hK.out _ _ J2.out.v (fun hHeld => ?_)
          clear hK K
          try simp only [Act.put, List.setIfInBounds_toArray, List.set_cons_zero, List.set_cons_succ]
          refine wpAnyH_ready (rs := [6]) (by kernel_rfl) (by simp) ?_
          refine AllReadyH.cons (o := { dst := some 144, op := Op.move (Operand.tmp 143), type := 4, pos := "law.go:68", after := #[{ on := 5, ground := Ground.data }, { on := 1, ground := Ground.chain }], guard := none }) rfl (fun K hK => ?_) AllReadyH.nil
          go_simp
          clear hHeld
          refine hK.out _ _ J2.out.v (fun hHeld => ?_)
          clear hK K
          try simp only [Act.put, List.setIfInBounds_toArray, List.set_cons_zero, List.set_cons_succ]
          refine wpAnyH_take (i := 7) (oi := { dst := some 145, op := Op.move (Operand.tmp 5), type := 23, pos := "law.go:68", after := #[{ on := 6, ground := Ground.guard }], guard := some (6, false) }) (v := ?_) rfl (by kernel_rfl) (by kernel_rfl) (by kernel_rfl) (fun _ _ _ h => h) (Or.inl ⟨by rfl, ?_⟩) hHeld ?_
          rotate_left
          · intro W_ hSw_
            first | (go_simp; done) | (go_simp; with_reducible rfl)
          rotate_left
          try simp only [Act.put, List.setIfInBounds_toArray, List.set_cons_zero, List.set_cons_succ]
          refine wpAnyH_take (i := 9) (oi := { dst := some 147, op := Op.fieldAddr 29 (Operand.tmp 7) 0, type := 0, pos := "law.go:68", after := #[{ on := 6, ground := Ground.guard }], guard := some (6, false) }) (v := ?_) rfl (by kernel_rfl) (by kernel_rfl) (by kernel_rfl) (fun _ _ _ h => h) (Or.inl ⟨by rfl, ?_⟩) hHeld ?_
          rotate_left
          · intro W_ hSw_
            first | (go_simp; done) | (go_simp; with_reducible rfl)
          rotate_left
          try simp only [Act.put, List.setIfInBounds_toArray, List.set_cons_zero, List.set_cons_succ]
          refine wpAnyH_take (i := 10) (oi := { dst := some 148, op := Op.load 3 (Operand.tmp 147), type := 3, pos := "law.go:68", after := #[{ on := 9, ground := Ground.data }, { on := 6, ground := Ground.guard }], guard := some (6, false) }) (v := ?_) rfl (by kernel_rfl) (by kernel_rfl) (by kernel_rfl) (fun _ _ _ h => h) (Or.inl ⟨by rfl, ?_⟩) hHeld ?_
          rotate_left
          · intro W_ hSw_
            have l_ : W_.cell? ⟨g, 0, none⟩ = some (.int .i64 cap) := RvAt.cell hSw_ 0 _ rfl
            first | (go_simp; done) | (go_simp; with_reducible rfl)
          rotate_left
          try simp only [Act.put, List.setIfInBounds_toArray, List.set_cons_zero, List.set_cons_succ]
          refine wpAnyH_take (i := 11) (oi := { dst := some 149, op := Op.fieldAddr 29 (Operand.tmp 7) 1, type := 0, pos := "law.go:68", after := #[{ on := 6, ground := Ground.guard }], guard := some (6, false) }) (v := ?_) rfl (by kernel_rfl) (by kernel_rfl) (by kernel_rfl) (fun _ _ _ h => h) (Or.inl ⟨by rfl, ?_⟩) hHeld ?_
          rotate_left
          · intro W_ hSw_
            first | (go_simp; done) | (go_simp; with_reducible rfl)
          rotate_left
          try simp only [Act.put, List.setIfInBounds_toArray, List.set_cons_zero, List.set_cons_succ]
          refine wpAnyH_take (i := 12) (oi := { dst := some 150, op := Op.load 27 (Operand.tmp 149), type := 27, pos := "law.go:68", after := #[{ on := 11, ground := Ground.data }, { on := 6, ground := Ground.guard }], guard := some (6, false) }) (v := ?_) rfl (by kernel_rfl) (by kernel_rfl) (by kernel_rfl) (fun _ _ _ h => h) (Or.inl ⟨by rfl, ?_⟩) hHeld ?_
          rotate_left
          · intro W_ hSw_
            have l_ : W_.cell? ⟨g, 1, none⟩ = some (.slice ra rn rc) := RvAt.cell hSw_ 1 _ rfl
            first | (go_simp; done) | (go_simp; with_reducible rfl)
          rotate_left
          try simp only [Act.put, List.setIfInBounds_toArray, List.set_cons_zero, List.set_cons_succ]
          refine wpAnyH_take (i := 13) (oi := { dst := some 151, op := Op.call { callee := Callee.builtin Builtin.len, args := #[Operand.tmp 150], argTypes := #[27] }, type := 3, pos := "law.go:68", after := #[{ on := 12, ground := Ground.data }, { on := 6, ground := Ground.guard }], guard := some (6, false) }) (v := ?_) rfl (by kernel_rfl) (by kernel_rfl) (by kernel_rfl) (fun _ _ _ h => h) (Or.inl ⟨by rfl, ?_⟩) hHeld ?_
          rotate_left
          · intro W_ hSw_
            first | (go_simp; done) | (go_simp; with_reducible rfl)
          rotate_left
          try simp only [Act.put, List.setIfInBounds_toArray, List.set_cons_zero, List.set_cons_succ]
          refine wpAnyH_take (i := 14) (oi := { dst := some 152, op := Op.binOp BinOp.sub 3 (Operand.tmp 148) (Operand.tmp 151) 3, type := 3, pos := "law.go:68", after := #[{ on := 10, ground := Ground.data }, { on := 13, ground := Ground.data }, { on := 6, ground := Ground.guard }], guard := some (6, false) }) (v := ?_) rfl (by kernel_rfl) (by kernel_rfl) (by kernel_rfl) (fun _ _ _ h => h) (Or.inl ⟨by rfl, ?_⟩) hHeld ?_
          rotate_left
          · intro W_ hSw_
            first | (go_simp; done) | (go_simp; with_reducible rfl)
          rotate_left
          try simp only [Act.put, List.setIfInBounds_toArray, List.set_cons_zero, List.set_cons_succ]
          refine wpAnyH_ready (rs := [8]) (by kernel_rfl) (by simp) ?_
          refine AllReadyH.cons (o := { dst := some 146, op := Op.call { callee := Callee.value (Operand.func 16), args := #[Operand.tmp 145], argTypes := #[23] }, type := 3, pos := "law.go:68", after := #[{ on := 7, ground := Ground.data }, { on := 6, ground := Ground.chain }, { on := 6, ground := Ground.guard }], guard := some (6, false) }) rfl (fun K hK => ?_) AllReadyH.nil
          go_simp
          refine (room_any J2.out.q).mono ?_
          rintro _ X7 ⟨rfl, b7⟩
          rw [HZ.out.1]
          have J3 : Hid (QrS w X7 g b c cap rr L s r ra rn rc) := J2.out.below b7
          clear b7
          clear hHeld
          refine hK.out _ _ J3.out.v (fun hHeld => ?_)
          clear hK K
          try simp only [Act.put, List.setIfInBounds_toArray, List.set_cons_zero, List.set_cons_succ]
          refine wpAnyH_ready (rs := [15]) (by kernel_rfl) (by simp) ?_
          refine AllReadyH.cons (o := { dst := some 153, op := Op.binOp BinOp.neq 3 (Operand.tmp 146) (Operand.tmp 152) 3, type := 4, pos := "law.go:68", after := #[{ on := 8, ground := Ground.data }, { on := 14, ground := Ground.data }, { on := 6, ground := Ground.guard }], guard := some (6, false) }) rfl (fun K hK => ?_) AllReadyH.nil
          go_simp
          clear hHeld
          refine hK.out _ _ J3.out.v (fun hHeld => ?_)
          clear hK K
          try simp only [Act.put, List.setIfInBounds_toArray, List.set_cons_zero, List.set_cons_succ]
          refine wpAnyH_ready (rs := [16]) (by kernel_rfl) (by simp) ?_
          refine AllReadyH.cons (o := { dst := some 154, op := Op.pick (Operand.tmp 144) (Operand.const (Value.bool true)) (Operand.tmp 153), type := 4, pos := "law.go:68", after := #[{ on := 6, ground := Ground.data }, { on := 15, ground := Ground.data }], guard := none }) rfl (fun K hK => ?_) AllReadyH.nil
          go_simp
          clear hHeld
          refine hK.out _ _ J3.out.v (fun hHeld => ?_)
          clear hK K
          try simp only [Act.put, List.setIfInBounds_toArray, List.set_cons_zero, List.set_cons_succ]
          refine wpAnyH_ready (rs := [17]) (by kernel_rfl) (by simp) ?_
          refine AllReadyH.cons (o := { dst := some 155, op := Op.move (Operand.tmp 154), type := 4, pos := "law.go:68", after := #[{ on := 16, ground := Ground.data }, { on := 8, ground := Ground.chain }], guard := none }) rfl (fun K hK => ?_) AllReadyH.nil
          go_simp
          clear hHeld
          refine hK.out _ _ J3.out.v (fun hHeld => ?_)
          clear hK K
          try simp only [Act.put, List.setIfInBounds_toArray, List.set_cons_zero, List.set_cons_succ]
          refine wpAnyH_take (i := 18) (oi := { dst := some 156, op := Op.move (Operand.tmp 5), type := 23, pos := "law.go:68", after := #[{ on := 17, ground := Ground.guard }], guard := some (17, false) }) (v := ?_) rfl (by kernel_rfl) (by kernel_rfl) (by kernel_rfl) (fun _ _ _ h => h) (Or.inl ⟨by rfl, ?_⟩) hHeld ?_
          rotate_left
          · intro W_ hSw_
            first | (go_simp; done) | (go_simp; with_reducible rfl)
          rotate_left
          try simp only [Act.put, List.setIfInBounds_toArray, List.set_cons_zero, List.set_cons_succ]
          refine wpAnyH_take (i := 20) (oi := { dst := some 158, op := Op.fieldAddr 29 (Operand.tmp 7) 1, type := 0, pos := "law.go:68", after := #[{ on := 17, ground := Ground.guard }], guard := some (17, false) }) (v := ?_) rfl (by kernel_rfl) (by kernel_rfl) (by kernel_rfl) (fun _ _ _ h => h) (Or.inl ⟨by rfl, ?_⟩) hHeld ?_
          rotate_left
          · intro W_ hSw_
            first | (go_simp; done) | (go_simp; with_reducible rfl)
          rotate_left
          try simp only [Act.put, List.setIfInBounds_toArray, List.set_cons_zero, List.set_cons_succ]
          refine wpAnyH_take (i := 21) (oi := { dst := some 159, op := Op.load 27 (Operand.tmp 158), type := 27, pos := "law.go:68", after := #[{ on := 20, ground := Ground.data }, { on := 17, ground := Ground.guard }], guard := some (17, false) }) (v := ?_) rfl (by kernel_rfl) (by kernel_rfl) (by kernel_rfl) (fun _ _ _ h => h) (Or.inl ⟨by rfl, ?_⟩) hHeld ?_
          rotate_left
          · intro W_ hSw_
            have l_ : W_.cell? ⟨g, 1, none⟩ = some (.slice ra rn rc) := RvAt.cell hSw_ 1 _ rfl
            first | (go_simp; done) | (go_simp; with_reducible rfl)
          rotate_left
          try simp only [Act.put, List.setIfInBounds_toArray, List.set_cons_zero, List.set_cons_succ]
          refine wpAnyH_ready (rs := [19]) (by kernel_rfl) (by simp) ?_
          refine AllReadyH.cons (o := { dst := some 157, op := Op.call { callee := Callee.value (Operand.func 18), args := #[Operand.tmp 156], argTypes := #[23] }, type := 27, pos := "law.go:68", after := #[{ on := 18, ground := Ground.data }, { on := 17, ground := Ground.chain }, { on := 17, ground := Ground.guard }], guard := some (17, false) }) rfl (fun K hK => ?_) AllReadyH.nil
          go_simp
          refine (all_any J3.out.q).mono ?_
          rintro _ X8 ⟨⟨v8, tt8, rfl, o8, al8⟩, ⟨s8, r8, q8⟩, g8⟩
          have hc8 := J3.out.code q8 g8
          obtain ⟨a8, k8, rfl, t8, _⟩ := o8.form
          obtain ⟨n8, hn8⟩ : ∃ e, tt8.length = e := ⟨_, rfl⟩
          rw [hn8] at t8 ⊢
          have J4 : Hid (QrS w X8 g b c cap rr L s8 r8 ra rn rc) := ⟨q8, hc8.1, hc8.2, J3.out.ne, J3.out.lo⟩
          have R8 : Hid (RowsS X8 a8 n8 k8 L) := ⟨tt8, t8, al8.mono fun _ _ hh => hh.src⟩
          clear o8 al8 q8 g8 hc8 t8 hn8
          clear hHeld
          refine hK.out _ _ J4.out.v (fun hHeld => ?_)
          clear hK K
          try simp only [Act.put, List.setIfInBounds_toArray, List.set_cons_zero, List.set_cons_succ]
          refine wpAnyH_ready (rs := [22]) (by kernel_rfl) (by simp) ?_
          refine AllReadyH.cons (o := { dst := some 160, op := Op.call { callee := Callee.value (Operand.func 17), args := #[Operand.tmp 157, Operand.tmp 159], argTypes := #[27, 27] }, type := 4, pos := "law.go:68", after := #[{ on := 19, ground := Ground.data }, { on := 21, ground := Ground.data }, { on := 19, ground := Ground.chain }, { on := 17, ground := Ground.guard }], guard := some (17, false) }) rfl (fun K hK => ?_) AllReadyH.nil
          go_simp
          refine (rsame_yes R8.out J4.out.rs).mono ?_
          rintro _ X9 ⟨rfl, b9⟩
          have J5 : Hid (QrS w X9 g b c cap rr L s8 r8 ra rn rc) := J4.out.below b9
          clear b9
          clear hHeld
          refine hK.out _ _ J5.out.v (fun hHeld => ?_)
          clear hK K
          try simp only [Act.put, List.setIfInBounds_toArray, List.set_cons_zero, List.set_cons_succ]
          refine wpAnyH_ready (rs := [23]) (by kernel_rfl) (by simp) ?_
          refine AllReadyH.cons (o := { dst := some 161, op := Op.unOp UnOp.not 4 (Operand.tmp 160), type := 4, pos := "law.go:68", after := #[{ on := 22, ground := Ground.data }, { on := 17, ground := Ground.guard }], guard := some (17, false) }) rfl (fun K hK => ?_) AllReadyH.nil
          go_simp
          clear hHeld
          refine hK.out _ _ J5.out.v (fun hHeld => ?_)
          clear hK K
          try simp only [Act.put, List.setIfInBounds_toArray, List.set_cons_zero, List.set_cons_succ]
          refine wpAnyH_ready (rs := [24]) (by kernel_rfl) (by simp) ?_
          refine AllReadyH.cons (o := { dst := some 162, op := Op.pick (Operand.tmp 155) (Operand.const (Value.bool true)) (Operand.tmp 161), type := 4, pos := "law.go:68", after := #[{ on := 17, ground := Ground.data }, { on := 23, ground := Ground.data }], guard := none }) rfl (fun K hK => ?_) AllReadyH.nil
          go_simp
          clear hHeld
          refine hK.out _ _ J5.out.v (fun hHeld => ?_)
          clear hK K
          try simp only [Act.put, List.setIfInBounds_toArray, List.set_cons_zero, List.set_cons_succ]
          refine wpAnyH_done (by kernel_rfl) ?_ _
          refine NoPanic.normal ?_
          clear hHeld
          have hi1 := HI.out.1
          go_wp2
          go_roundw
          case rel => exact ⟨i + 1, b, c, _, _, _, _, _, _, _, by have := HI.out; omega, by have := HI.out; omega, rfl, by go_num, J5.out⟩
          case measure => have := HI.out; simp [intOf]; omega
      · have hex : ¬ ((i : Int) < (n : Int)) ∨ ¬ ((i : Int) < 80) := by omega
        have KB : Hid (Below w.heap.size w wr) := J.out.q.bel
        by_cases hin : (i : Int) < (n : Int)
        · have h80 : ¬ ((i : Int) < 80) := by omega
          clear hex hit
          go_wp2
          go_ret
          exact ⟨rfl, KB.out⟩
        · clear hex hit
          go_wp2
          go_ret
          exact ⟨rfl, KB.out⟩
  · go_enter Try.func3, Try.ntmps3
    go_wp2_with fail
    refine (new_any room w w (Below.refl _ _)).mono ?_
    rintro _ W1 hN
    have eN := hN.no hr
    subst eN
    have K1 : Hid (Below w.heap.size w W1) := hN.bel
    clear hN
    go_wp2_with fail
    refine (rnew_any room W1).mono ?_
    rintro _ W2 ⟨rfl, b2⟩
    have e1 : rnN room = 0 := by unfold rnN; rw [if_neg hr]
    have e2 : rnE room = 210 := by unfold rnE; rw [if_neg hr]
    rw [e1, e2]
    obtain ⟨W3, s3, m3, b3⟩ := RqAt.put W2 0 (.slice none 0 0) rfl
    have K3 : Hid (Below w.heap.size w W3) := below_over K1.out (below_over b2 b3)
    clear b2 m3 b3 e1 e2 K1
    go_wp2_with fail
    refine (awake_any W3).mono ?_
    rintro _ W4 ⟨rfl, b4⟩
    have K4 : Hid (Below w.heap.size w W4) := below_over K3.out b4
    clear b4 K3 s3
    go_wp2_with fail
    go_loopw [5, 9] (fun v5 v wr => v5 = .pointer none ∧ v = .int .i64 0 ∧ Below w.heap.size w wr) (fun _ _ _ => 0)
    case atStart => exact ⟨rfl, rfl, K4.out⟩
    case round =>
      obtain ⟨rfl, rfl, hB⟩ := hrel
      have J : Hid (Below w.heap.size w wr) := hB
      clear hB
      by_cases h0 : (0 : Int) < (n : Int)
      · go_wp2
        go_ret
        exact ⟨rfl, J.out⟩
      · go_wp2
        go_ret
        exact ⟨rfl, J.out⟩
end Go.Proofs.Ytoojoiindfgoeaa
