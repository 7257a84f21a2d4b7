/-
  What any calls make of a tally: the walk of the law, for every input.
-/
import Derived.Test.YtammaaiknjgjbaaTf
namespace Go.Proofs.Ytammaaiknjgjbaa
set_option linter.unusedVariables false
set_option maxRecDepth 4000
set_option linter.unusedSimpArgs false
open Go.RowKit
attribute [local go_sem ↓] apI bsI ldT stT stI ldA stA bsW ldR stR ldO stO
attribute [local go_sem] bzI b3W b2W b1W
set_option maxHeartbeats 16000000 in
theorem runs_law (a : Option Addr) (n c : Nat) (os : List Opt) (a2 : Option Addr) (n2 c2 : Nat) (l : List Int) (w : World) (h : SlAt eO w a n c os) (hd : ∀ x ∈ os, 0 ≤ x.d ∧ x.d ≤ 255) (h2 : SlAt eW w a2 n2 c2 l) :
    Calls Try.prog 3 #[.slice a n c, .slice a2 n2 c2] w fun e w' => e = .returned (.bool true) ∧ Below w.heap.size w w' := by
  have HO : Hid (SlAt eO w a n c os ∧ ∀ x ∈ os, 0 ≤ x.d ∧ x.d ≤ 255) := ⟨h, hd⟩
  have H2 : Hid (SlAt eW w a2 n2 c2 l) := h2
  have hnn := h.int
  clear h h2 hd
  go_enter Try.func3, Try.ntmps3
  go_wp2_with fail
  refine (few_any H2.out).mono ?_
  rintro _ _ ⟨m, hm, rfl, sl, rfl⟩
  obtain ⟨lm, hlm⟩ : ∃ e, l.take m = e := ⟨_, rfl⟩
  rw [hlm] at sl
  have HL : Hid (SlAt eW w a2 m c2 lm ∧ m ≤ 30) := ⟨sl, hm⟩
  clear sl hlm hm H2
  go_wp2_with fail
  refine (new_any w).mono ?_
  rintro _ X1 ⟨g0, rfl, hg, t1, b1⟩
  have K1 : Hid (TyS w X1 g0 zN) := ⟨t1, isZ, rfl, b1, hg⟩
  clear t1 b1 hg
  go_wp2_with fail
  refine (rnew_any X1).mono ?_
  rintro _ X2 ⟨ra0, rc0, rfl, s2, b2, f2⟩
  obtain ⟨X3, s3, v3, b3, z3⟩ := RtAt.put X2 (.slice ra0 15 rc0) rfl
  have K3 : Hid (RuS w X3 g0 X2.heap.size zN ra0 rc0) := by
    have hg := RvAt.lt K1.out.t
    have hz := b2.size
    refine ⟨(K1.out.below b2).below b3, v3, s2.below b3, fun z hz2 => ?_, by omega, Nat.le_trans K1.out.b.size hz⟩
    have h1 := f2 z hz2
    subst hz2
    obtain ⟨b, o, e⟩ := s2.some' (by omega)
    cases e
    have h2 := s2.lt kI (by omega)
    have h1' : X1.heap.size ≤ b := h1
    exact ⟨by show b ≠ g0; omega, by show b ≠ X2.heap.size; omega⟩
  clear s2 b2 f2 v3 b3 z3 K1
  go_wp2_with fail
  refine (awake_any X3).mono ?_
  rintro _ X4 ⟨rfl, b4⟩
  have K4 : Hid (RuS w X4 g0 X2.heap.size zN ra0 rc0) := K3.out.below b4
  clear b4 K3
  go_wp2_with fail
  clear s3
  obtain ⟨r, hr⟩ : ∃ e, X2.heap.size = e := ⟨_, rfl⟩
  rw [hr] at K4 ⊢
  clear hr
  go_loopw [5, 7] (fun v5 v7 wr => ∃ (i : Nat) (N : List Int) (g : Nat) (ra : Option Addr) (rc : Nat), i ≤ n ∧ i ≤ 60 ∧ v5 = .pointer (some ⟨g, 0, none⟩) ∧ v7 = .int .i64 i ∧ RuS w wr g r N ra rc) (fun _ v _ => n - (intOf v).toNat)
  case atStart => exact ⟨0, _, _, _, _, by omega, by omega, rfl, rfl, K4.out⟩
  case round =>
    obtain ⟨i, N, g, ra, rc, hi, hj, rfl, rfl, hS⟩ := hrel
    obtain ⟨X, hX⟩ : ∃ e, wr = e := ⟨_, rfl⟩
    rw [hX] at hS ⊢
    have J : Hid (RuS w X g r N ra rc) := hS
    have hi0 : (0 : Int) ≤ (i : Int) := by omega
    clear hS hX K4
    by_cases hit : i < n ∧ i < 60
    · have hi1 : (i : Int) < (n : Int) := by omega
      have hi2 : (i : Int) < 60 := by omega
      have HI : Hid (i < n ∧ i < 60) := hit
      obtain ⟨lb, lo, rfl⟩ := HO.out.1.some' (by omega)
      obtain ⟨y, hy⟩ : ∃ y, os[i]? = some y := ⟨_, List.getElem?_eq_getElem (by rw [HO.out.1.len]; exact hit.1)⟩
      have l1 : (ldS 34 (.pointer (some ⟨lb, lo + i * 3, none⟩))).run Try.prog X = .ok (.agg #[.int .u8 y.d, .int .i64 y.w, .int .i64 y.n]) X := (HO.out.1.below J.out.t.b).ld kO hy Try.underlying34 rfl rfl
      have hdy := HO.out.2 y (List.mem_of_getElem? hy)
      have hd0 := hdy.1
      have hd1 := hdy.2
      obtain ⟨Y, sY, oY, bY, zY⟩ := OpAt.put X y
      have KY : Hid (RuS w Y g r N ra rc ∧ OpAt Y X.heap.size y ∧ g < X.heap.size ∧ r < X.heap.size) := ⟨J.out.below bY, oY, RvAt.lt J.out.t.t, RvAt.lt J.out.v⟩
      have o0 : Y.cell? ⟨X.heap.size, 0, none⟩ = some (.int .u8 y.d) := KY.out.2.1.cell 0 _ rfl
      have o1 : Y.cell? ⟨X.heap.size, 1, none⟩ = some (.int .i64 y.w) := KY.out.2.1.cell 1 _ rfl
      have o2 : Y.cell? ⟨X.heap.size, 2, none⟩ = some (.int .i64 y.n) := KY.out.2.1.cell 2 _ rfl
      clear hit hy hdy oY bY zY J
      by_cases he : y.d % 6 = 5
      · have he' : (y.d % 6 == 5) = true := by simp [he]
        have he2 : (y.d.tmod 6 == 5) = true := by rw [Int.tmod_eq_emod_of_nonneg hd0]; exact he'
        go_wp2_with fail
        clear sY o0 o1 o2 l1
        obtain ⟨ob, hob⟩ : ∃ e, X.heap.size = e := ⟨_, rfl⟩
        rw [hob] at KY ⊢
        clear hob
        refine (fork_any KY.out.1.t.t KY.out.1.t.n).mono ?_
        rintro _ X5 ⟨g5, rfl, hg5, t5, b5⟩
        have K5 : Hid (RuS w X5 g r N ra rc ∧ TAt X5 g5 N ∧ g < g5 ∧ r < g5 ∧ ∀ z, ra = some z → z.block < g5) := ⟨KY.out.1.below b5, t5, by have := RvAt.lt KY.out.1.t.t; omega, by have := RvAt.lt KY.out.1.v; omega, fun z hz => by have := KY.out.1.lt z hz; omega⟩
        clear t5 b5 hg5 KY
        go_wp2_with fail
        refine (add_any K5.out.1.t.t K5.out.1.t.n 5 1).mono ?_
        rintro _ X6 ⟨_, t6, g6⟩
        have K6 : Hid (RuS w X6 g5 r N ra rc) := by
          have q := K5.out
          have lo := q.1.t.lo
          have gr := q.1.gr
          exact ⟨⟨RvAt.keptBut q.2.1 g6 (by simp; omega), q.1.t.n, q.1.t.z, gro q.1.t.b g6 lo q.1.t.b.size, by omega⟩, RvAt.keptBut q.1.v g6 (by simp; omega), q.1.s.keptBut g6 (fun z hz _ => by have := (q.1.ne z hz).1; simp; omega), fun z hz => ⟨by have := q.2.2.2.2 z hz; omega, (q.1.ne z hz).2⟩, by omega, q.1.lo⟩
        subst_vars
        clear t6 g6 K5
        go_wp2
        go_roundw
        case rel => exact ⟨i + 1, _, _, _, _, by have := HI.out; omega, by have := HI.out; omega, rfl, by go_num, K6.out⟩
        case measure => have := HI.out; simp [intOf]; omega
      · have he' : (y.d % 6 == 5) = false := by simp [he]
        have he2 : (y.d.tmod 6 == 5) = false := by rw [Int.tmod_eq_emod_of_nonneg hd0]; exact he'
        go_wp2_with fail
        clear sY o0 l1
        obtain ⟨ob, hob⟩ : ∃ e, X.heap.size = e := ⟨_, rfl⟩
        rw [hob] at KY ⊢
        clear hob o1 o2
        refine (add_any KY.out.1.t.t KY.out.1.t.n y.w y.n).mono ?_
        rintro _ X5 ⟨rfl, t5, g5⟩
        have K5 : Hid (TyS w X5 g (addN N y.w y.n) ∧ RtAt X5 r (.slice ra 15 rc) ∧ SlAt eI X5 ra 15 rc N ∧ OpAt X5 ob y) := by
          have q := KY.out
          have gr := q.1.gr
          exact ⟨q.1.t.add t5 g5, RvAt.keptBut q.1.v g5 (by simp; omega), q.1.s.keptBut g5 (fun z hz _ => by have := (q.1.ne z hz).1; simp; omega), RvAt.keptBut q.2.1 g5 (by simp; omega)⟩
        have KC : Hid (g < ob ∧ r < ob ∧ g ≠ r ∧ w.heap.size ≤ r ∧ (∀ z, ra = some z → z.block ≠ g ∧ z.block ≠ r) ∧ IsN N) := ⟨KY.out.2.2.1, KY.out.2.2.2, KY.out.1.gr, KY.out.1.lo, KY.out.1.ne, KY.out.1.t.n⟩
        obtain ⟨E, hE⟩ : ∃ e, addE N y.w y.n = e := ⟨_, rfl⟩
        have C6 : Hid (Calls Try.prog 14 #[.agg #[.slice ra 15 rc], .int .i64 y.w, .int .i64 y.n] X5 fun e W' => ∃ a' c', e = .returned (.tuple #[.agg #[.slice a' 15 c'], .int .i64 E]) ∧ SlAt eI W' a' 15 c' (addN N y.w y.n) ∧ Below X5.heap.size X5 W' ∧ (a' = ra ∨ ∀ z, a' = some z → X5.heap.size ≤ z.block)) := by rw [← hE]; exact radd_any K5.out.2.2.1 KC.out.2.2.2.2.2 y.w y.n
        rw [hE]
        clear t5 g5 KY hE
        have l5 := RtAt.ld K5.out.2.1
        have o1 : X5.cell? ⟨ob, 1, none⟩ = some (.int .i64 y.w) := K5.out.2.2.2.cell 1 _ rfl
        have o2 : X5.cell? ⟨ob, 2, none⟩ = some (.int .i64 y.n) := K5.out.2.2.2.cell 2 _ rfl
        go_wp2_with fail
        refine C6.out.mono ?_
        rintro _ X6 ⟨a6, c6, rfl, s6, b6, f6⟩
        obtain ⟨M, hM⟩ : ∃ e, addN N y.w y.n = e := ⟨_, rfl⟩
        rw [hM] at s6 K5
        clear hM
        obtain ⟨X7, t7, v7, b7, z7⟩ := RtAt.put X6 (.slice a6 15 c6) rfl
        have l7 := RtAt.ld v7
        have b67 := below_over b6 b7
        obtain ⟨X8, t8, v8, g8⟩ := RtAt.st (RvAt.below K5.out.2.1 b67) (.slice a6 15 c6) rfl
        have K8 : Hid (RuS w X8 g r M a6 c6 ∧ OpAt X8 ob y) := by
          have q := K5.out
          have k := KC.out
          have hr5 := RvAt.lt q.2.1
          have hg5 := RvAt.lt q.1.t
          have ne6 : ∀ z, a6 = some z → z.block ≠ g ∧ z.block ≠ r := fun z hz => by
            rcases f6 with e | e
            · subst e
              exact k.2.2.2.2.1 z hz
            · have := e z hz
              exact ⟨by omega, by omega⟩
          have tb := q.1.below b67
          exact ⟨⟨⟨RvAt.keptBut tb.t g8 (by have := k.2.2.1; simp; omega), tb.n, tb.z, gro tb.b g8 k.2.2.2.1 tb.b.size, tb.lo⟩, v8, (s6.below b7).keptBut g8 (fun z hz _ => by have := (ne6 z hz).2; simp; omega), ne6, k.2.2.1, k.2.2.2.1⟩, RvAt.keptBut (RvAt.below q.2.2.2 b67) g8 (by have := k.2.1; simp; omega)⟩
        clear s6 b6 f6 v7 b7 z7 b67 v8 g8 C6 o1 o2 l5
        go_wp2_with fail
        clear l7 t7 t8
        obtain ⟨X0, hX0⟩ : ∃ X0, X8.drew = X0 := ⟨_, rfl⟩
        have B0 : Below X8.heap.size X8 X0 := by rw [← hX0]; exact (Below.refl _ _).drew
        have J2 : Hid (RuS w X0 g r M a6 c6 ∧ OpAt X0 ob y) := ⟨K8.out.1.below B0, RvAt.below K8.out.2 B0⟩
        obtain ⟨gv, hgv⟩ : ∃ e, getN M y.w = e := ⟨_, rfl⟩
        obtain ⟨sv, hsv⟩ : ∃ e, sumT M lm m = e := ⟨_, rfl⟩
        have gg : (gv != gv) = false := by simp
        have ss : (sv != sv) = false := by simp
        have ee : (E != E) = false := by simp
        refine wp_region_noPanic ?_
        refine wp_region_held_drew (S := fun w' => RuS w w' g r M a6 c6 ∧ OpAt w' ob y) (by kernel_rfl) ⟨K8.out.1.below (Below.refl _ _).drew, RvAt.below K8.out.2 (Below.refl _ _).drew⟩ (fun hHeld => ?_)
        rw [hX0] at hHeld ⊢
        clear hX0 B0 K8 K5 KC
        refine wpAnyH_take (i := 0) (oi := { dst := some 64, op := Op.move (Operand.tmp 10), type := 35, pos := "law.go:53", after := #[], guard := none }) (v := ?_) rfl (by kernel_rfl) (by kernel_rfl) (by kernel_rfl) (fun _ _ _ h => h) (Or.inl ⟨by rfl, ?_⟩) hHeld ?_
        rotate_left
        · intro W_ hSw_
          first | (go_simp; done) | (go_simp; with_reducible rfl)
        rotate_left
        try simp only [Act.put, List.setIfInBounds_toArray, List.set_cons_zero, List.set_cons_succ]
        refine wpAnyH_take (i := 1) (oi := { dst := some 65, op := Op.move (Operand.tmp 12), type := 35, pos := "law.go:53", after := #[], guard := none }) (v := ?_) rfl (by kernel_rfl) (by kernel_rfl) (by kernel_rfl) (fun _ _ _ h => h) (Or.inl ⟨by rfl, ?_⟩) hHeld ?_
        rotate_left
        · intro W_ hSw_
          first | (go_simp; done) | (go_simp; with_reducible rfl)
        rotate_left
        try simp only [Act.put, List.setIfInBounds_toArray, List.set_cons_zero, List.set_cons_succ]
        refine wpAnyH_take (i := 2) (oi := { dst := some 66, op := Op.binOp BinOp.neq 35 (Operand.tmp 64) (Operand.tmp 65) 35, type := 4, pos := "law.go:53", after := #[{ on := 0, ground := Ground.data }, { on := 1, ground := Ground.data }], guard := none }) (v := ?_) rfl (by kernel_rfl) (by kernel_rfl) (by kernel_rfl) (fun _ _ _ h => h) (Or.inl ⟨by rfl, ?_⟩) hHeld ?_
        rotate_left
        · intro W_ hSw_
          first | (go_simp; done) | (go_simp; with_reducible rfl)
        rotate_left
        try simp only [Act.put, List.setIfInBounds_toArray, List.set_cons_zero, List.set_cons_succ]
        refine wpAnyH_take (i := 3) (oi := { dst := some 67, op := Op.move (Operand.tmp 66), type := 4, pos := "law.go:53", after := #[{ on := 2, ground := Ground.data }], guard := none }) (v := ?_) rfl (by kernel_rfl) (by kernel_rfl) (by kernel_rfl) (fun _ _ _ h => h) (Or.inl ⟨by rfl, ?_⟩) hHeld ?_
        rotate_left
        · intro W_ hSw_
          first | (go_simp; done) | (go_simp; with_reducible rfl)
        rotate_left
        try simp only [Act.put, List.setIfInBounds_toArray, List.set_cons_zero, List.set_cons_succ]
        refine wpAnyH_take (i := 4) (oi := { dst := some 68, op := Op.move (Operand.tmp 5), type := 25, pos := "law.go:53", after := #[{ on := 3, ground := Ground.guard }], guard := some (3, false) }) (v := ?_) rfl (by kernel_rfl) (by kernel_rfl) (by kernel_rfl) (fun _ _ _ h => h) (Or.inl ⟨by rfl, ?_⟩) hHeld ?_
        rotate_left
        · intro W_ hSw_
          first | (go_simp; done) | (go_simp; with_reducible rfl)
        rotate_left
        try simp only [Act.put, List.setIfInBounds_toArray, List.set_cons_zero, List.set_cons_succ]
        refine wpAnyH_take (i := 5) (oi := { dst := some 69, op := Op.fieldAddr 34 (Operand.tmp 8) 1, type := 0, pos := "law.go:53", after := #[{ on := 3, ground := Ground.guard }], guard := some (3, false) }) (v := ?_) rfl (by kernel_rfl) (by kernel_rfl) (by kernel_rfl) (fun _ _ _ h => h) (Or.inl ⟨by rfl, ?_⟩) hHeld ?_
        rotate_left
        · intro W_ hSw_
          first | (go_simp; done) | (go_simp; with_reducible rfl)
        rotate_left
        try simp only [Act.put, List.setIfInBounds_toArray, List.set_cons_zero, List.set_cons_succ]
        refine wpAnyH_take (i := 6) (oi := { dst := some 70, op := Op.load 32 (Operand.tmp 69), type := 32, pos := "law.go:53", after := #[{ on := 5, ground := Ground.data }, { on := 3, ground := Ground.guard }], guard := some (3, false) }) (v := ?_) rfl (by kernel_rfl) (by kernel_rfl) (by kernel_rfl) (fun _ _ _ h => h) (Or.inl ⟨by rfl, ?_⟩) hHeld ?_
        rotate_left
        · intro W_ hSw_
          have l_ : W_.cell? ⟨ob, 1, none⟩ = some (.int .i64 y.w) := RvAt.cell hSw_.2 1 _ rfl
          first | (go_simp; done) | (go_simp; with_reducible rfl)
        rotate_left
        try simp only [Act.put, List.setIfInBounds_toArray, List.set_cons_zero, List.set_cons_succ]
        refine wpAnyH_take (i := 8) (oi := { dst := some 72, op := Op.load 29 (Operand.tmp 6), type := 29, pos := "law.go:53", after := #[{ on := 3, ground := Ground.guard }], guard := some (3, false) }) (v := ?_) rfl (by kernel_rfl) (by kernel_rfl) (by kernel_rfl) (fun _ _ _ h => h) (Or.inl ⟨by rfl, ?_⟩) hHeld ?_
        rotate_left
        · intro W_ hSw_
          have l_ := RtAt.ld hSw_.1.v
          first | (go_simp; done) | (go_simp; with_reducible rfl)
        rotate_left
        try simp only [Act.put, List.setIfInBounds_toArray, List.set_cons_zero, List.set_cons_succ]
        refine wpAnyH_take (i := 9) (oi := { dst := some 73, op := Op.fieldAddr 34 (Operand.tmp 8) 1, type := 0, pos := "law.go:53", after := #[{ on := 3, ground := Ground.guard }], guard := some (3, false) }) (v := ?_) rfl (by kernel_rfl) (by kernel_rfl) (by kernel_rfl) (fun _ _ _ h => h) (Or.inl ⟨by rfl, ?_⟩) hHeld ?_
        rotate_left
        · intro W_ hSw_
          first | (go_simp; done) | (go_simp; with_reducible rfl)
        rotate_left
        try simp only [Act.put, List.setIfInBounds_toArray, List.set_cons_zero, List.set_cons_succ]
        refine wpAnyH_take (i := 10) (oi := { dst := some 74, op := Op.load 32 (Operand.tmp 73), type := 32, pos := "law.go:53", after := #[{ on := 9, ground := Ground.data }, { on := 3, ground := Ground.guard }], guard := some (3, false) }) (v := ?_) rfl (by kernel_rfl) (by kernel_rfl) (by kernel_rfl) (fun _ _ _ h => h) (Or.inl ⟨by rfl, ?_⟩) hHeld ?_
        rotate_left
        · intro W_ hSw_
          have l_ : W_.cell? ⟨ob, 1, none⟩ = some (.int .i64 y.w) := RvAt.cell hSw_.2 1 _ rfl
          first | (go_simp; done) | (go_simp; with_reducible rfl)
        rotate_left
        try simp only [Act.put, List.setIfInBounds_toArray, List.set_cons_zero, List.set_cons_succ]
        refine wpAnyH_ready (rs := [7]) (by kernel_rfl) (by simp) ?_
        refine AllReadyH.cons (o := { dst := some 71, op := Op.call { callee := Callee.value (Operand.func 15), args := #[Operand.tmp 68, Operand.tmp 70], argTypes := #[25, 32] }, type := 3, pos := "law.go:53", after := #[{ on := 4, ground := Ground.data }, { on := 6, ground := Ground.data }, { on := 3, ground := Ground.chain }, { on := 3, ground := Ground.guard }], guard := some (3, false) }) rfl (fun K hK => ?_) AllReadyH.nil
        go_simp
        refine (get_any J2.out.1.t.t J2.out.1.t.n y.w).mono ?_
        rintro _ Z0 ⟨rfl, d0⟩
        rw [hgv]
        have J2n : Hid (RuS w Z0 g r M a6 c6 ∧ OpAt Z0 ob y) := ⟨J2.out.1.below d0, RvAt.below J2.out.2 d0⟩
        clear d0 J2
        have J2 := J2n
        clear J2n
        clear hHeld
        refine hK.out _ _ J2.out (fun hHeld => ?_)
        clear hK K
        try simp only [Act.put, List.setIfInBounds_toArray, List.set_cons_zero, List.set_cons_succ]
        refine wpAnyH_ready (rs := [11]) (by kernel_rfl) (by simp) ?_
        refine AllReadyH.cons (o := { dst := some 75, op := Op.call { callee := Callee.value (Operand.func 16), args := #[Operand.tmp 72, Operand.tmp 74], argTypes := #[29, 32] }, type := 3, pos := "law.go:53", after := #[{ on := 8, ground := Ground.data }, { on := 10, ground := Ground.data }, { on := 7, ground := Ground.chain }, { on := 3, ground := Ground.guard }], guard := some (3, false) }) rfl (fun K hK => ?_) AllReadyH.nil
        go_simp
        refine (rget_any J2.out.1.s J2.out.1.t.n y.w).mono ?_
        rintro _ Z1 ⟨rfl, d1⟩
        rw [hgv]
        have J3 : Hid (RuS w Z1 g r M a6 c6 ∧ OpAt Z1 ob y) := ⟨J2.out.1.below d1, RvAt.below J2.out.2 d1⟩
        clear d1
        clear hHeld
        refine hK.out _ _ J3.out (fun hHeld => ?_)
        clear hK K
        try simp only [Act.put, List.setIfInBounds_toArray, List.set_cons_zero, List.set_cons_succ]
        refine wpAnyH_take (i := 12) (oi := { dst := some 76, op := Op.binOp BinOp.neq 3 (Operand.tmp 71) (Operand.tmp 75) 3, type := 4, pos := "law.go:53", after := #[{ on := 7, ground := Ground.data }, { on := 11, ground := Ground.data }, { on := 3, ground := Ground.guard }], guard := some (3, false) }) (v := ?_) rfl (by kernel_rfl) (by kernel_rfl) (by kernel_rfl) (fun _ _ _ h => h) (Or.inl ⟨by rfl, ?_⟩) hHeld ?_
        rotate_left
        · intro W_ hSw_
          first | (go_simp; done) | (go_simp; with_reducible rfl)
        rotate_left
        try simp only [Act.put, List.setIfInBounds_toArray, List.set_cons_zero, List.set_cons_succ]
        refine wpAnyH_take (i := 13) (oi := { dst := some 77, op := Op.pick (Operand.tmp 67) (Operand.const (Value.bool true)) (Operand.tmp 76), type := 4, pos := "law.go:53", after := #[{ on := 3, ground := Ground.data }, { on := 12, ground := Ground.data }], guard := none }) (v := ?_) rfl (by kernel_rfl) (by kernel_rfl) (by kernel_rfl) (fun _ _ _ h => h) (Or.inl ⟨by rfl, ?_⟩) hHeld ?_
        rotate_left
        · intro W_ hSw_
          first | (go_simp; done) | (go_simp; with_reducible rfl)
        rotate_left
        try simp only [Act.put, List.setIfInBounds_toArray, List.set_cons_zero, List.set_cons_succ]
        refine wpAnyH_take (i := 14) (oi := { dst := some 78, op := Op.move (Operand.tmp 77), type := 4, pos := "law.go:53", after := #[{ on := 13, ground := Ground.data }, { on := 11, ground := Ground.chain }], guard := none }) (v := ?_) rfl (by kernel_rfl) (by kernel_rfl) (by kernel_rfl) (fun _ _ _ h => h) (Or.inl ⟨by rfl, ?_⟩) hHeld ?_
        rotate_left
        · intro W_ hSw_
          first | (go_simp; done) | (go_simp; with_reducible rfl)
        rotate_left
        try simp only [Act.put, List.setIfInBounds_toArray, List.set_cons_zero, List.set_cons_succ]
        refine wpAnyH_take (i := 15) (oi := { dst := some 79, op := Op.move (Operand.tmp 5), type := 25, pos := "law.go:53", after := #[{ on := 14, ground := Ground.guard }], guard := some (14, false) }) (v := ?_) rfl (by kernel_rfl) (by kernel_rfl) (by kernel_rfl) (fun _ _ _ h => h) (Or.inl ⟨by rfl, ?_⟩) hHeld ?_
        rotate_left
        · intro W_ hSw_
          first | (go_simp; done) | (go_simp; with_reducible rfl)
        rotate_left
        try simp only [Act.put, List.setIfInBounds_toArray, List.set_cons_zero, List.set_cons_succ]
        refine wpAnyH_take (i := 17) (oi := { dst := some 81, op := Op.fieldAddr 29 (Operand.tmp 6) 0, type := 0, pos := "law.go:53", after := #[{ on := 14, ground := Ground.guard }], guard := some (14, false) }) (v := ?_) rfl (by kernel_rfl) (by kernel_rfl) (by kernel_rfl) (fun _ _ _ h => h) (Or.inl ⟨by rfl, ?_⟩) hHeld ?_
        rotate_left
        · intro W_ hSw_
          first | (go_simp; done) | (go_simp; with_reducible rfl)
        rotate_left
        try simp only [Act.put, List.setIfInBounds_toArray, List.set_cons_zero, List.set_cons_succ]
        refine wpAnyH_take (i := 18) (oi := { dst := some 82, op := Op.load 27 (Operand.tmp 81), type := 27, pos := "law.go:53", after := #[{ on := 17, ground := Ground.data }, { on := 14, ground := Ground.guard }], guard := some (14, false) }) (v := ?_) rfl (by kernel_rfl) (by kernel_rfl) (by kernel_rfl) (fun _ _ _ h => h) (Or.inl ⟨by rfl, ?_⟩) hHeld ?_
        rotate_left
        · intro W_ hSw_
          have l_ : W_.cell? ⟨r, 0, none⟩ = some (.slice a6 15 c6) := RvAt.cell hSw_.1.v 0 _ rfl
          first | (go_simp; done) | (go_simp; with_reducible rfl)
        rotate_left
        try simp only [Act.put, List.setIfInBounds_toArray, List.set_cons_zero, List.set_cons_succ]
        refine wpAnyH_ready (rs := [16]) (by kernel_rfl) (by simp) ?_
        refine AllReadyH.cons (o := { dst := some 80, op := Op.call { callee := Callee.value (Operand.func 18), args := #[Operand.tmp 79], argTypes := #[25] }, type := 27, pos := "law.go:53", after := #[{ on := 15, ground := Ground.data }, { on := 14, ground := Ground.chain }, { on := 14, ground := Ground.guard }], guard := some (14, false) }) rfl (fun K hK => ?_) AllReadyH.nil
        go_simp
        refine (all_any J3.out.1.t.t J3.out.1.t.n).mono ?_
        rintro _ Z2 ⟨a9, c9, rfl, o9, d2⟩
        have J4 : Hid (RuS w Z2 g r M a6 c6 ∧ OpAt Z2 ob y) := ⟨J3.out.1.below d2, RvAt.below J3.out.2 d2⟩
        have J4s : Hid (SlAt eI Z2 a9 15 c9 M) := o9.sl15
        clear o9 d2
        clear hHeld
        refine hK.out _ _ J4.out (fun hHeld => ?_)
        clear hK K
        try simp only [Act.put, List.setIfInBounds_toArray, List.set_cons_zero, List.set_cons_succ]
        refine wpAnyH_ready (rs := [19]) (by kernel_rfl) (by simp) ?_
        refine AllReadyH.cons (o := { dst := some 83, op := Op.call { callee := Callee.value (Operand.func 17), args := #[Operand.tmp 80, Operand.tmp 82], argTypes := #[27, 27] }, type := 4, pos := "law.go:53", after := #[{ on := 16, ground := Ground.data }, { on := 18, ground := Ground.data }, { on := 16, ground := Ground.chain }, { on := 14, ground := Ground.guard }], guard := some (14, false) }) rfl (fun K hK => ?_) AllReadyH.nil
        go_simp
        refine (rsame_yes J4s.out J4.out.1.s).mono ?_
        rintro _ Z3 ⟨rfl, d3⟩
        have J5 : Hid (RuS w Z3 g r M a6 c6 ∧ OpAt Z3 ob y) := ⟨J4.out.1.below d3, RvAt.below J4.out.2 d3⟩
        clear d3
        clear hHeld
        refine hK.out _ _ J5.out (fun hHeld => ?_)
        clear hK K
        try simp only [Act.put, List.setIfInBounds_toArray, List.set_cons_zero, List.set_cons_succ]
        refine wpAnyH_take (i := 20) (oi := { dst := some 84, op := Op.unOp UnOp.not 4 (Operand.tmp 83), type := 4, pos := "law.go:53", after := #[{ on := 19, ground := Ground.data }, { on := 14, ground := Ground.guard }], guard := some (14, false) }) (v := ?_) rfl (by kernel_rfl) (by kernel_rfl) (by kernel_rfl) (fun _ _ _ h => h) (Or.inl ⟨by rfl, ?_⟩) hHeld ?_
        rotate_left
        · intro W_ hSw_
          first | (go_simp; done) | (go_simp; with_reducible rfl)
        rotate_left
        try simp only [Act.put, List.setIfInBounds_toArray, List.set_cons_zero, List.set_cons_succ]
        refine wpAnyH_take (i := 21) (oi := { dst := some 85, op := Op.pick (Operand.tmp 78) (Operand.const (Value.bool true)) (Operand.tmp 84), type := 4, pos := "law.go:53", after := #[{ on := 14, ground := Ground.data }, { on := 20, ground := Ground.data }], guard := none }) (v := ?_) rfl (by kernel_rfl) (by kernel_rfl) (by kernel_rfl) (fun _ _ _ h => h) (Or.inl ⟨by rfl, ?_⟩) hHeld ?_
        rotate_left
        · intro W_ hSw_
          first | (go_simp; done) | (go_simp; with_reducible rfl)
        rotate_left
        try simp only [Act.put, List.setIfInBounds_toArray, List.set_cons_zero, List.set_cons_succ]
        refine wpAnyH_take (i := 22) (oi := { dst := some 86, op := Op.move (Operand.tmp 85), type := 4, pos := "law.go:53", after := #[{ on := 21, ground := Ground.data }, { on := 19, ground := Ground.chain }], guard := none }) (v := ?_) rfl (by kernel_rfl) (by kernel_rfl) (by kernel_rfl) (fun _ _ _ h => h) (Or.inl ⟨by rfl, ?_⟩) hHeld ?_
        rotate_left
        · intro W_ hSw_
          first | (go_simp; done) | (go_simp; with_reducible rfl)
        rotate_left
        try simp only [Act.put, List.setIfInBounds_toArray, List.set_cons_zero, List.set_cons_succ]
        refine wpAnyH_take (i := 23) (oi := { dst := some 87, op := Op.move (Operand.tmp 5), type := 25, pos := "law.go:53", after := #[{ on := 22, ground := Ground.guard }], guard := some (22, false) }) (v := ?_) rfl (by kernel_rfl) (by kernel_rfl) (by kernel_rfl) (fun _ _ _ h => h) (Or.inl ⟨by rfl, ?_⟩) hHeld ?_
        rotate_left
        · intro W_ hSw_
          first | (go_simp; done) | (go_simp; with_reducible rfl)
        rotate_left
        try simp only [Act.put, List.setIfInBounds_toArray, List.set_cons_zero, List.set_cons_succ]
        refine wpAnyH_take (i := 24) (oi := { dst := some 88, op := Op.move (Operand.tmp 1), type := 23, pos := "law.go:53", after := #[{ on := 22, ground := Ground.guard }], guard := some (22, false) }) (v := ?_) rfl (by kernel_rfl) (by kernel_rfl) (by kernel_rfl) (fun _ _ _ h => h) (Or.inl ⟨by rfl, ?_⟩) hHeld ?_
        rotate_left
        · intro W_ hSw_
          first | (go_simp; done) | (go_simp; with_reducible rfl)
        rotate_left
        try simp only [Act.put, List.setIfInBounds_toArray, List.set_cons_zero, List.set_cons_succ]
        refine wpAnyH_take (i := 26) (oi := { dst := some 90, op := Op.load 29 (Operand.tmp 6), type := 29, pos := "law.go:53", after := #[{ on := 22, ground := Ground.guard }], guard := some (22, false) }) (v := ?_) rfl (by kernel_rfl) (by kernel_rfl) (by kernel_rfl) (fun _ _ _ h => h) (Or.inl ⟨by rfl, ?_⟩) hHeld ?_
        rotate_left
        · intro W_ hSw_
          have l_ := RtAt.ld hSw_.1.v
          first | (go_simp; done) | (go_simp; with_reducible rfl)
        rotate_left
        try simp only [Act.put, List.setIfInBounds_toArray, List.set_cons_zero, List.set_cons_succ]
        refine wpAnyH_take (i := 27) (oi := { dst := some 91, op := Op.move (Operand.tmp 1), type := 23, pos := "law.go:53", after := #[{ on := 22, ground := Ground.guard }], guard := some (22, false) }) (v := ?_) rfl (by kernel_rfl) (by kernel_rfl) (by kernel_rfl) (fun _ _ _ h => h) (Or.inl ⟨by rfl, ?_⟩) hHeld ?_
        rotate_left
        · intro W_ hSw_
          first | (go_simp; done) | (go_simp; with_reducible rfl)
        rotate_left
        try simp only [Act.put, List.setIfInBounds_toArray, List.set_cons_zero, List.set_cons_succ]
        refine wpAnyH_ready (rs := [25]) (by kernel_rfl) (by simp) ?_
        refine AllReadyH.cons (o := { dst := some 89, op := Op.call { callee := Callee.value (Operand.func 19), args := #[Operand.tmp 87, Operand.tmp 88], argTypes := #[25, 23] }, type := 3, pos := "law.go:53", after := #[{ on := 23, ground := Ground.data }, { on := 24, ground := Ground.data }, { on := 22, ground := Ground.chain }, { on := 22, ground := Ground.guard }], guard := some (22, false) }) rfl (fun K hK => ?_) AllReadyH.nil
        go_simp
        refine (sum_any J5.out.1.t.t J5.out.1.t.n (HL.out.1.below J5.out.1.t.b) (by have := HL.out.2; omega)).mono ?_
        rintro _ Z4 ⟨rfl, d4⟩
        rw [hsv]
        have J6 : Hid (RuS w Z4 g r M a6 c6 ∧ OpAt Z4 ob y) := ⟨J5.out.1.below d4, RvAt.below J5.out.2 d4⟩
        clear d4
        clear hHeld
        refine hK.out _ _ J6.out (fun hHeld => ?_)
        clear hK K
        try simp only [Act.put, List.setIfInBounds_toArray, List.set_cons_zero, List.set_cons_succ]
        refine wpAnyH_ready (rs := [28]) (by kernel_rfl) (by simp) ?_
        refine AllReadyH.cons (o := { dst := some 92, op := Op.call { callee := Callee.value (Operand.func 20), args := #[Operand.tmp 90, Operand.tmp 91], argTypes := #[29, 23] }, type := 3, pos := "law.go:53", after := #[{ on := 26, ground := Ground.data }, { on := 27, ground := Ground.data }, { on := 25, ground := Ground.chain }, { on := 22, ground := Ground.guard }], guard := some (22, false) }) rfl (fun K hK => ?_) AllReadyH.nil
        go_simp
        refine (rsum_any J6.out.1.s J6.out.1.t.n (HL.out.1.below J6.out.1.t.b) (by have := HL.out.2; omega)).mono ?_
        rintro _ Z5 ⟨rfl, d5⟩
        rw [hsv]
        have J7 : Hid (RuS w Z5 g r M a6 c6 ∧ OpAt Z5 ob y) := ⟨J6.out.1.below d5, RvAt.below J6.out.2 d5⟩
        clear d5
        clear hHeld
        refine hK.out _ _ J7.out (fun hHeld => ?_)
        clear hK K
        try simp only [Act.put, List.setIfInBounds_toArray, List.set_cons_zero, List.set_cons_succ]
        refine wpAnyH_take (i := 29) (oi := { dst := some 93, op := Op.binOp BinOp.neq 3 (Operand.tmp 89) (Operand.tmp 92) 3, type := 4, pos := "law.go:53", after := #[{ on := 25, ground := Ground.data }, { on := 28, ground := Ground.data }, { on := 22, ground := Ground.guard }], guard := some (22, false) }) (v := ?_) rfl (by kernel_rfl) (by kernel_rfl) (by kernel_rfl) (fun _ _ _ h => h) (Or.inl ⟨by rfl, ?_⟩) hHeld ?_
        rotate_left
        · intro W_ hSw_
          first | (go_simp; done) | (go_simp; with_reducible rfl)
        rotate_left
        try simp only [Act.put, List.setIfInBounds_toArray, List.set_cons_zero, List.set_cons_succ]
        refine wpAnyH_take (i := 30) (oi := { dst := some 94, op := Op.pick (Operand.tmp 86) (Operand.const (Value.bool true)) (Operand.tmp 93), type := 4, pos := "law.go:53", after := #[{ on := 22, ground := Ground.data }, { on := 29, ground := Ground.data }], guard := none }) (v := ?_) rfl (by kernel_rfl) (by kernel_rfl) (by kernel_rfl) (fun _ _ _ h => h) (Or.inl ⟨by rfl, ?_⟩) hHeld ?_
        rotate_left
        · intro W_ hSw_
          first | (go_simp; done) | (go_simp; with_reducible rfl)
        rotate_left
        try simp only [Act.put, List.setIfInBounds_toArray, List.set_cons_zero, List.set_cons_succ]
        refine wpAnyH_done (by kernel_rfl) ?_ _
        refine NoPanic.normal ?_
        clear hHeld
        go_wp2
        go_roundw
        case rel => exact ⟨i + 1, _, _, _, _, by have := HI.out; omega, by have := HI.out; omega, rfl, by go_num, J7.out.1⟩
        case measure => have := HI.out; simp [intOf]; omega
    · have hcond : ¬ ((i : Int) < (n : Int)) ∨ ¬ ((i : Int) < 60) := by omega
      by_cases hin : (i : Int) < (n : Int)
      · have h60 : ¬ ((i : Int) < 60) := by omega
        clear hcond hit
        go_wp2
        go_ret
        exact ⟨rfl, J.out.t.b⟩
      · clear hcond hit
        go_wp2
        go_ret
        exact ⟨rfl, J.out.t.b⟩
end Go.Proofs.Ytammaaiknjgjbaa
