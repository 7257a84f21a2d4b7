/-
  The page's example: its walk.
-/
import Derived.Test.YtnjepjkbmgkdkaaNew
import Derived.Test.YtnjepjkbmgkdkaaSame
import Derived.Test.YtnjepjkbmgkdkaaAsks
import Derived.Test.YtnjepjkbmgkdkaaRTick
namespace Go.Proofs.Ytnjepjkbmgkdkaa
set_option linter.unusedVariables false
set_option maxRecDepth 4000
set_option linter.unusedSimpArgs false
open Go.RowKit

/-- The example's settings. -/
def cX : Cf := ⟨[.int .u64 9223372036854775813, .int .u8 0, .int .u8 20, .int .u8 2, .int .u8 15, .int .u8 6], by
  refine ⟨rfl, fun j k v hk hv => ?_⟩
  match j, hk, hv with
  | 0, hk, hv => cases hk; cases hv; exact ⟨_, rfl, by decide⟩
  | 1, hk, hv => cases hk; cases hv; exact ⟨_, rfl, by decide⟩
  | 2, hk, hv => cases hk; cases hv; exact ⟨_, rfl, by decide⟩
  | 3, hk, hv => cases hk; cases hv; exact ⟨_, rfl, by decide⟩
  | 4, hk, hv => cases hk; cases hv; exact ⟨_, rfl, by decide⟩
  | 5, hk, hv => cases hk; cases hv; exact ⟨_, rfl, by decide⟩
  | j + 6, hk, hv => simp at hv⟩
attribute [local go_sem ↓] ldP stP ldT stT apE st32 st4 st5 st49 ldC stC ldTm
theorem costs_new (W : World) : CsAt (W.alloc (.cells #[.int .u32 20000, .int .u32 20000] 29)) (some ⟨W.heap.size, 0, none⟩) 2 2 [20000, 20000] := by
  refine ⟨rfl, Nat.le_refl _, by unfold maxLen; omega, fun _ => ⟨_, _, rfl⟩, fun x hx => ?_, fun b o e j v hv => ?_⟩
  · simp only [List.mem_cons, List.not_mem_nil, or_false, or_self] at hx
    subst hx
    decide
  · cases e
    have h : RvAt (W.alloc (.cells #[.int .u32 20000, .int .u32 20000] 29)) W.heap.size 29 #[.int .u32 20000, .int .u32 20000] := RvAt.new W _ _
    rw [Nat.zero_add]
    refine h.cell j _ ?_
    match j, hv with
    | 0, hv => cases hv; rfl
    | 1, hv => cases hv; rfl
    | j + 2, hv => simp at hv
set_option maxHeartbeats 4000000 in
theorem conf_any (w : World) : Calls Try.prog 35 #[] w fun r w' => ∃ a k, r = .returned (.agg (cfc cX (.slice a 2 k))) ∧ CsAt w' a 2 k [20000, 20000] ∧ Below w.heap.size w w' := by
  obtain ⟨A, hA⟩ : ∃ A, w.alloc (.cells #[.int .u64 0, .int .u8 0, .int .u8 0, .int .u8 0, .int .u8 0, .int .u8 0, .slice none 0 0] 27) = A := ⟨_, rfl⟩
  have bA : Below w.heap.size w A := by rw [← hA]; exact (Below.refl _ _).alloc (Nat.le_refl _) _
  have rA : RvAt A w.heap.size 27 #[.int .u64 0, .int .u8 0, .int .u8 0, .int .u8 0, .int .u8 0, .int .u8 0, .slice none 0 0] := by rw [← hA]; exact RvAt.new w _ _
  have zA : A.heap.size = w.heap.size + 1 := by rw [← hA]; simp
  obtain ⟨C, hC⟩ : ∃ C, A.alloc (.cells #[.int .u32 20000, .int .u32 20000] 29) = C := ⟨_, rfl⟩
  have bC : Below A.heap.size A C := by rw [← hC]; exact (Below.refl _ _).alloc (Nat.le_refl _) _
  have sC : CsAt C (some ⟨w.heap.size + 1, 0, none⟩) 2 2 [20000, 20000] := by rw [← hC, ← zA]; exact costs_new A
  have rC := rA.below bC
  have ss := rC.st rtC rfl (cfc_size cX (.slice (some ⟨w.heap.size + 1, 0, none⟩) 2 2)) (cfc_one rfl)
  have rD := rC.set (ds := cfc cX (.slice (some ⟨w.heap.size + 1, 0, none⟩) 2 2))
  obtain ⟨D, hD⟩ : ∃ D, C.setRow w.heap.size (cfc cX (.slice (some ⟨w.heap.size + 1, 0, none⟩) 2 2)) = D := ⟨_, rfl⟩
  have gD : C.grownBy D (some w.heap.size) := by rw [← hD]; exact ⟨rfl, rfl, rfl, by simp, fun i hi hne => setRow_other C _ i _ (fun e => hne (by rw [e]))⟩
  rw [hD] at ss rD
  have sD : CsAt D (some ⟨w.heap.size + 1, 0, none⟩) 2 2 [20000, 20000] := ⟨sC.len, sC.cap, sC.max, sC.some', sC.bnd, fun b o e j v hv => by
    refine gD.cell (sC.cells b o e j v hv) ?_
    cases e
    simp⟩
  have F : Hid (RvAt D w.heap.size 27 (cfc cX (.slice (some ⟨w.heap.size + 1, 0, none⟩) 2 2)) ∧ CsAt D (some ⟨w.heap.size + 1, 0, none⟩) 2 2 [20000, 20000] ∧ Below w.heap.size w D) := ⟨rD, sD, gro (below_over bA bC) gD (Nat.le_refl _) (below_over bA bC).size⟩
  change (stS 27 (.pointer (some ⟨w.heap.size, 0, none⟩)) (.agg #[.int .u64 9223372036854775813, .int .u8 0, .int .u8 20, .int .u8 2, .int .u8 15, .int .u8 6, .slice (some ⟨w.heap.size + 1, 0, none⟩) 2 2])).run Try.prog C = _ at ss
  clear bA rA bC sC rC rD hD gD sD
  go_enter Try.func35, Try.ntmps35
  go_wp2
  refine bodyPost_ret (results_row rtC Try.results35 _ _ _ _ rfl F.out.1 (cfc_size _ _)) rfl ?_
  exact ⟨_, _, rfl, F.out.2.1, F.out.2.2⟩
/-! ### the example's ports -/
theorem k30 : kdP[30]? = some (some .i64) := rfl
theorem k31 : kdP[31]? = some (some .i64) := rfl
/-- A designated port. -/
def selP (p : Pt) : Pt := ((p.set 22 (.bool true) (fit_bit rfl)).set 30 (.int .i64 4) (fit_num k30 (by decide))).set 31 (.int .i64 4) (fit_num k31 (by decide))
def aX : Pt := newP 32769 20000
def bX : Pt := newP 32770 20000
def pX : Pt := (selP aX).set 25 (.bool true) (fit_bit rfl)
def qX : Pt := (selP bX).set 65 (.int .u8 7) (fit_num rfl (by decide))
def lX : List Pt := [pX, qX]
def uX : List Pt := (upL lX 1 true).map tickP
theorem x0 : okC cX [20000, 20000] = true := by kernel_rfl
theorem x1 : newPs [20000, 20000] = [aX, bX] := rfl
theorem x2 : bX.nm 0 = 32770 := by kernel_rfl
theorem x3 : allK (okS 0) lX = false := by kernel_rfl
theorem x4 : allK (okS 1) lX = true := by kernel_rfl
theorem x5 : uX = [gtP uX 0, gtP uX 1] := rfl
theorem x6 : (gtP uX 1).bt 2 = true := by kernel_rfl
theorem x7 : (gtP uX 1).nm 65 = 6 := by kernel_rfl
theorem x8 : qX.bt 2 = false := by kernel_rfl
theorem x9 : allK (okR 0) lX = true := by kernel_rfl
theorem x10 (h : Hd) : sameT h h lX uX = false := sameT_not fun e => by
  have := congrArg (fun l => (gtP l 1).bt 2) e.2
  have e1 : (gtP lX 1).bt 2 = false := by kernel_rfl
  simp only [e1, x6] at this
  cases this
theorem x11 : okC (zeroR kdC) [] = false := by kernel_rfl
theorem x12 : (gtP (lX.map syncP) 1).bt 24 = true := by kernel_rfl
theorem x13 : (gtP (lX.map rerP) 0).bt 20 = true := by kernel_rfl
theorem nilC (w : World) : CsAt w none 0 0 [] := ⟨rfl, Nat.le_refl _, by simp, (fun h => by omega), (fun x hx => by cases hx), fun b o e => by cases e⟩
theorem fd7c (c0 c1 c2 c3 c4 c5 c6 c7 c8 c9 c10 c11 c12 c13 c14 c15 v : Value) (w : World) : (Instr.field 34 (.agg #[c0, c1, c2, c3, c4, c5, c6, c7, c8, c9, c10, c11, c12, c13, c14, c15, v]) 7).run Try.prog w = .ok v w := by kernel_rfl
theorem fd7 (h : Hd) (v : Value) (w : World) : (Instr.field 34 (.agg (trc h v)) 7).run Try.prog w = .ok v w := by
  have hl := h.len
  rw [lenH] at hl
  unfold trc
  match h.cl, hl with
  | [c0, c1, c2, c3, c4, c5, c6, c7, c8, c9, c10, c11, c12, c13, c14, c15], _ => exact fd7c c0 c1 c2 c3 c4 c5 c6 c7 c8 c9 c10 c11 c12 c13 c14 c15 v w
/-- Sealed: a field of a tree's value. -/
def fdS (x : Value) (k : Nat) : Sem Value := Instr.field 34 x k
theorem fd34 (x : Value) (k : Nat) : Instr.field 34 x k = fdS x k := rfl
theorem fdS_is (h : Hd) (v : Value) (w : World) : (fdS (.agg (trc h v)) 7).run Try.prog w = .ok v w := fd7 h v w
theorem new_tv (W : World) (h : Hd) (v : Value) (hv : v.oneCell' = true) : ∃ W', (stS 34 (.pointer (some ⟨W.heap.size, 0, none⟩)) (.agg (trc h v))).run Try.prog (W.alloc (.cells #[.int .u64 0, .int .u8 0, .int .u8 0, .int .u8 0, .int .u8 0, .int .u8 0, .bool false, .int .u16 0, .int .u64 0, .int .u32 0, .int .u64 0, .int .u16 0, .int .u8 0, .int .u8 0, .int .u8 0, .int .u8 0, .slice none 0 0] 34)) = .ok () W' ∧ RvAt W' W.heap.size 34 (trc h v) ∧ Below W.heap.size W W' ∧ W'.heap.size = W.heap.size + 1 :=
  row_new rtT W zeroT _ rfl (trc_size _ _) (trc_one hv)
/-- What the example has, when its tree and the later one stand. -/
structure AX (w W : World) (b g cc b2 g2 c2 : Nat) (h : Hd) : Prop where
  t : RvAt W b 34 (trc h (.slice (some ⟨g, 0, none⟩) 2 cc))
  p : PAt W g cc lX
  u : RvAt W b2 34 (trc h (.slice (some ⟨g2, 0, none⟩) 2 c2))
  q : PAt W g2 c2 uX
  bel : Below w.heap.size w W
theorem AX.below {w W V : World} {b g cc b2 g2 c2 : Nat} {h : Hd} (x : AX w W b g cc b2 g2 c2 h) (k : Below W.heap.size W V) : AX w V b g cc b2 g2 c2 h := ⟨x.t.below k, x.p.below k, x.u.below k, x.q.below k, below_over x.bel k⟩
theorem uX_len : uX.length = 2 := rfl
theorem lX_len : lX.length = 2 := rfl
theorem AX.sl {w W : World} {b g cc b2 g2 c2 : Nat} {h : Hd} (x : AX w W b g cc b2 g2 c2 h) : SlAt W (some ⟨g, 0, none⟩) 2 cc lX := x.p.sl
theorem AX.sl2 {w W : World} {b g cc b2 g2 c2 : Nat} {h : Hd} (x : AX w W b g cc b2 g2 c2 h) : SlAt W (some ⟨g2, 0, none⟩) 2 c2 uX := x.q.sl
theorem own_two {W : World} {B : Nat} {v : Value} {l : List Pt} (o : Own W B v l) (hl : l.length = 2) : ∃ g c, v = .slice (some ⟨g, 0, none⟩) 2 c ∧ B ≤ g ∧ PAt W g c l := by
  rcases o.pat with ⟨_, rfl⟩ | ⟨g, c, hv, hg, hp⟩
  · cases hl
  · rw [hl] at hv
    exact ⟨g, c, hv, hg, hp⟩
attribute [local go_sem ↓] fd34
def goalA (w : World) : Ending → World → Prop := fun r w' => r = .returned (.bool true) ∧ Below w.heap.size w w'
set_option maxHeartbeats 8000000 in
theorem awake_any (w : World) : Calls Try.prog 11 #[] w fun r w' => r = .returned (.bool true) ∧ Below w.heap.size w w' := by
  go_enter Try.func11, Try.ntmps11
  go_wp2_with fail
  refine (conf_any w).mono ?_
  rintro _ W1 ⟨a, k, rfl, s1, b1⟩
  have C := new_any cX a 2 k [20000, 20000] W1 s1 (by omega)
  rw [x0] at C
  simp only [hdN, psN, erC] at C
  rw [x1] at C
  obtain ⟨h, hh⟩ : ∃ h, newH cX = h := ⟨_, rfl⟩
  rw [hh] at C
  clear hh
  go_wp2_with fail
  refine C.mono ?_
  rintro _ W2 ⟨v, rfl, o2, b2⟩
  obtain ⟨g, cc, rfl, hg, p2⟩ := own_two o2 rfl
  obtain ⟨W3, s3, r3, b3, z3⟩ := new_tv W2 h (.slice (some ⟨g, 0, none⟩) 2 cc) rfl
  obtain ⟨b, hb⟩ : ∃ b, W2.heap.size = b := ⟨_, rfl⟩
  rw [hb] at s3 r3 z3
  have hgb := p2.lt
  rw [hb] at hgb
  have hwb : w.heap.size ≤ b := by have := b1.size; have := b2.size; omega
  have G : Hid (RvAt W3 b 34 (trc h (.slice (some ⟨g, 0, none⟩) 2 cc)) ∧ PAt W3 g cc [aX, bX] ∧ Below w.heap.size w W3 ∧ g < b ∧ w.heap.size ≤ b ∧ w.heap.size ≤ g) := ⟨r3, p2.below b3, below_over (below_over b1 b2) b3, hgb, hwb, by have := b1.size; omega⟩
  have c16 := r3.t16
  have cid : W3.cell? ⟨g, 77, none⟩ = some (.int .u16 32770) := by
    have := (p2.below b3).num (i := 1) (j := 0) (q := 77) (p := bX) rfl rfl rfl
    rw [x2] at this
    exact this
  clear C s1 b1 b2 o2 hg p2 r3 b3 z3 hgb hwb
  go_wp2_with fail
  clear cid s3 c16
  go_loopw [3] (fun v3 wr => ∃ i : Nat, i ≤ 2 ∧ v3 = .int .i64 i ∧ PAt wr g cc (mapTo selP [aX, bX] i) ∧ W3.grownBy wr (some g)) (fun v3 _ => 2 - (intOf v3).toNat)
  case atStart => exact ⟨0, by omega, rfl, by rw [mapTo_zero]; exact G.out.2.1, World.grownBy.refl _ _⟩
  case round =>
    obtain ⟨i, hi, rfl, hp, hgi⟩ := hrel
    have hin0 : (0 : Int) ≤ (i : Int) := by omega
    have hr := G.out.1.keptBut hgi (by have := G.out.2.2.2.1; simp; omega)
    by_cases hit : i < 2
    · have hin1 : (i : Int) < 2 := by omega
      have hil : i < ([aX, bX] : List Pt).length := hit
      obtain ⟨Y0, hY0⟩ : ∃ Y0, World.drew wr = Y0 := ⟨_, rfl⟩
      have bD : Below wr.heap.size wr Y0 := by rw [← hY0]; exact (Below.refl _ _).drew
      obtain ⟨V1, s1, p1, g1⟩ := (hp.below bD).st1 (q := i * 77 + 22) (j := 22) (v := .bool true) (mapTo_at hil) info1.1 (by omega) rfl (fit_bit rfl) rfl
      have at1 : ∀ (x : Pt), ((mapTo selP [aX, bX] i).set i x)[i]? = some x := fun x => by rw [List.getElem?_set, if_pos rfl, if_pos (by rw [mapTo_len]; exact hil)]
      obtain ⟨V2, s2, p2, g2⟩ := p1.st1 (q := i * 77 + 30) (j := 30) (v := .int .i64 4) (at1 _) info1.2.2.2.1 (by omega) rfl (fit_num k30 (by decide)) rfl
      rw [List.set_set] at p2
      obtain ⟨V3, s3, p3, g3⟩ := p2.st1 (q := i * 77 + 31) (j := 31) (v := .int .i64 4) (at1 _) info1.2.2.2.1 (by omega) rfl (fit_num k31 (by decide)) rfl
      rw [List.set_set] at p3
      have p3' : PAt V3 g cc ((mapTo selP [aX, bX] i).set i (selP (gtP [aX, bX] i))) := p3
      rw [mapTo_next hil] at p3'
      have q0 : wr.grownBy Y0 (some g) := grown_of_below bD _
      have Z : Hid (PAt V3 g cc (mapTo selP [aX, bX] (i + 1)) ∧ W3.grownBy V3 (some g) ∧ wr.grownBy V1 (some g) ∧ wr.grownBy V2 (some g) ∧ wr.grownBy V3 (some g)) := ⟨p3', grown_self (grown_self (grown_self (grown_self hgi q0) g1) g2) g3, grown_self q0 g1, grown_self (grown_self q0 g1) g2, grown_self (grown_self (grown_self q0 g1) g2) g3⟩
      have f16 := fun qq : LaterR wr (some g) => (hr.keptBut qq.grown (by have := G.out.2.2.2.1; simp; omega)).t16
      clear hp hgi hr bD p1 p2 p3 p3' g1 g2 g3 q0 at1 hil
      go_wp2_with fail
      refine wp_region_noPanic ?_
      refine wp_region_held_drew (S := fun w' => ∃ x : LaterR wr (some g), w' = x.val) (by kernel_rfl) ⟨⟨_, grown_of_below (Below.refl _ _).drew _⟩, rfl⟩ (fun hHeld => ?_)
      rw [hY0] at hHeld ⊢
      clear hY0
      refine wpAnyH_take (i := 0) (oi := { dst := some 30, op := Op.fieldAddr 34 (Operand.tmp 1) 7, type := 0, pos := "law.go:22", after := #[], guard := none }) (v := ?_) rfl (by kernel_rfl) (by kernel_rfl) (by kernel_rfl) (fun _ _ _ h => h) (Or.inl ⟨by rfl, ?_⟩) hHeld ?_
      rotate_left
      · intro W_ hSw_
        obtain ⟨qq, rfl⟩ := hSw_
        first | (go_simp; done) | (go_simp; with_reducible rfl)
      rotate_left
      try simp only [Act.put, List.setIfInBounds_toArray, List.set_cons_zero, List.set_cons_succ]
      refine wpAnyH_take (i := 1) (oi := { dst := some 31, op := Op.load 32 (Operand.tmp 30), type := 32, pos := "law.go:22", after := #[{ on := 0, ground := Ground.data }], guard := none }) (v := ?_) rfl (by kernel_rfl) (by kernel_rfl) (by kernel_rfl) (fun _ _ _ h => h) (Or.inl ⟨by rfl, ?_⟩) hHeld ?_
      rotate_left
      · intro W_ hSw_
        obtain ⟨qq, rfl⟩ := hSw_
        first | (go_simp; done) | (go_simp; with_reducible rfl)
      rotate_left
      try simp only [Act.put, List.setIfInBounds_toArray, List.set_cons_zero, List.set_cons_succ]
      refine wpAnyH_take (i := 2) (oi := { dst := some 32, op := Op.move (Operand.tmp 3), type := 3, pos := "law.go:22", after := #[], guard := none }) (v := ?_) rfl (by kernel_rfl) (by kernel_rfl) (by kernel_rfl) (fun _ _ _ h => h) (Or.inl ⟨by rfl, ?_⟩) hHeld ?_
      rotate_left
      · intro W_ hSw_
        obtain ⟨qq, rfl⟩ := hSw_
        first | (go_simp; done) | (go_simp; with_reducible rfl)
      rotate_left
      try simp only [Act.put, List.setIfInBounds_toArray, List.set_cons_zero, List.set_cons_succ]
      refine wpAnyH_take (i := 3) (oi := { dst := some 33, op := Op.fieldAddr 34 (Operand.tmp 1) 7, type := 0, pos := "law.go:22", after := #[{ on := 11, ground := Ground.gcOnly Departure.lateStores }], guard := none }) (v := ?_) rfl (by kernel_rfl) (by kernel_rfl) (by kernel_rfl) (fun _ _ _ h => h) (Or.inl ⟨by rfl, ?_⟩) hHeld ?_
      rotate_left
      · intro W_ hSw_
        obtain ⟨qq, rfl⟩ := hSw_
        first | (go_simp; done) | (go_simp; with_reducible rfl)
      rotate_left
      try simp only [Act.put, List.setIfInBounds_toArray, List.set_cons_zero, List.set_cons_succ]
      refine wpAnyH_take (i := 4) (oi := { dst := some 34, op := Op.load 32 (Operand.tmp 33), type := 32, pos := "law.go:22", after := #[{ on := 3, ground := Ground.data }, { on := 11, ground := Ground.gcOnly Departure.lateStores }], guard := none }) (v := ?_) rfl (by kernel_rfl) (by kernel_rfl) (by kernel_rfl) (fun _ _ _ h => h) (Or.inl ⟨by rfl, ?_⟩) hHeld ?_
      rotate_left
      · intro W_ hSw_
        obtain ⟨qq, rfl⟩ := hSw_
        first | (go_simp; done) | (go_simp; with_reducible rfl)
      rotate_left
      try simp only [Act.put, List.setIfInBounds_toArray, List.set_cons_zero, List.set_cons_succ]
      refine wpAnyH_take (i := 5) (oi := { dst := some 35, op := Op.move (Operand.tmp 3), type := 3, pos := "law.go:22", after := #[{ on := 11, ground := Ground.gcOnly Departure.lateStores }], guard := none }) (v := ?_) rfl (by kernel_rfl) (by kernel_rfl) (by kernel_rfl) (fun _ _ _ h => h) (Or.inl ⟨by rfl, ?_⟩) hHeld ?_
      rotate_left
      · intro W_ hSw_
        obtain ⟨qq, rfl⟩ := hSw_
        first | (go_simp; done) | (go_simp; with_reducible rfl)
      rotate_left
      try simp only [Act.put, List.setIfInBounds_toArray, List.set_cons_zero, List.set_cons_succ]
      refine wpAnyH_take (i := 6) (oi := { dst := some 36, op := Op.fieldAddr 34 (Operand.tmp 1) 7, type := 0, pos := "law.go:22", after := #[{ on := 14, ground := Ground.gcOnly Departure.lateStores }], guard := none }) (v := ?_) rfl (by kernel_rfl) (by kernel_rfl) (by kernel_rfl) (fun _ _ _ h => h) (Or.inl ⟨by rfl, ?_⟩) hHeld ?_
      rotate_left
      · intro W_ hSw_
        obtain ⟨qq, rfl⟩ := hSw_
        first | (go_simp; done) | (go_simp; with_reducible rfl)
      rotate_left
      try simp only [Act.put, List.setIfInBounds_toArray, List.set_cons_zero, List.set_cons_succ]
      refine wpAnyH_take (i := 7) (oi := { dst := some 37, op := Op.load 32 (Operand.tmp 36), type := 32, pos := "law.go:22", after := #[{ on := 6, ground := Ground.data }, { on := 14, ground := Ground.gcOnly Departure.lateStores }], guard := none }) (v := ?_) rfl (by kernel_rfl) (by kernel_rfl) (by kernel_rfl) (fun _ _ _ h => h) (Or.inl ⟨by rfl, ?_⟩) hHeld ?_
      rotate_left
      · intro W_ hSw_
        obtain ⟨qq, rfl⟩ := hSw_
        first | (go_simp; done) | (go_simp; with_reducible rfl)
      rotate_left
      try simp only [Act.put, List.setIfInBounds_toArray, List.set_cons_zero, List.set_cons_succ]
      refine wpAnyH_take (i := 8) (oi := { dst := some 38, op := Op.move (Operand.tmp 3), type := 3, pos := "law.go:22", after := #[{ on := 14, ground := Ground.gcOnly Departure.lateStores }], guard := none }) (v := ?_) rfl (by kernel_rfl) (by kernel_rfl) (by kernel_rfl) (fun _ _ _ h => h) (Or.inl ⟨by rfl, ?_⟩) hHeld ?_
      rotate_left
      · intro W_ hSw_
        obtain ⟨qq, rfl⟩ := hSw_
        first | (go_simp; done) | (go_simp; with_reducible rfl)
      rotate_left
      try simp only [Act.put, List.setIfInBounds_toArray, List.set_cons_zero, List.set_cons_succ]
      refine wpAnyH_take (i := 9) (oi := { dst := some 39, op := Op.indexAddr 32 (Operand.tmp 31) (Operand.tmp 32), type := 0, pos := "law.go:22", after := #[{ on := 1, ground := Ground.data }, { on := 2, ground := Ground.data }, { on := 0, ground := Ground.phase }, { on := 1, ground := Ground.phase }, { on := 2, ground := Ground.phase }, { on := 3, ground := Ground.textOnly Departure.lateStores }, { on := 4, ground := Ground.textOnly Departure.lateStores }, { on := 5, ground := Ground.textOnly Departure.lateStores }, { on := 6, ground := Ground.textOnly Departure.lateStores }, { on := 7, ground := Ground.textOnly Departure.lateStores }, { on := 8, ground := Ground.textOnly Departure.lateStores }], guard := none }) (v := ?_) rfl (by kernel_rfl) (by kernel_rfl) (by kernel_rfl) (fun _ _ _ h => h) (Or.inl ⟨by rfl, ?_⟩) hHeld ?_
      rotate_left
      · intro W_ hSw_
        obtain ⟨qq, rfl⟩ := hSw_
        first | (go_simp; done) | (go_simp; with_reducible rfl)
      rotate_left
      try simp only [Act.put, List.setIfInBounds_toArray, List.set_cons_zero, List.set_cons_succ]
      refine wpAnyH_take (i := 10) (oi := { dst := some 40, op := Op.fieldAddr 55 (Operand.tmp 39) 22, type := 0, pos := "law.go:22", after := #[{ on := 9, ground := Ground.data }, { on := 0, ground := Ground.phase }, { on := 1, ground := Ground.phase }, { on := 2, ground := Ground.phase }, { on := 3, ground := Ground.textOnly Departure.lateStores }, { on := 4, ground := Ground.textOnly Departure.lateStores }, { on := 5, ground := Ground.textOnly Departure.lateStores }, { on := 6, ground := Ground.textOnly Departure.lateStores }, { on := 7, ground := Ground.textOnly Departure.lateStores }, { on := 8, ground := Ground.textOnly Departure.lateStores }], guard := none }) (v := ?_) rfl (by kernel_rfl) (by kernel_rfl) (by kernel_rfl) (fun _ _ _ h => h) (Or.inl ⟨by rfl, ?_⟩) hHeld ?_
      rotate_left
      · intro W_ hSw_
        obtain ⟨qq, rfl⟩ := hSw_
        first | (go_simp; done) | (go_simp; with_reducible rfl)
      rotate_left
      try simp only [Act.put, List.setIfInBounds_toArray, List.set_cons_zero, List.set_cons_succ]
      refine wpAnyH_ready (rs := [11]) (by kernel_rfl) (by simp) ?_
      refine AllReadyH.cons (o := { dst := none, op := Op.store 4 (Operand.tmp 40) (Operand.const (Value.bool true)), type := 0, pos := "law.go:22", after := #[{ on := 10, ground := Ground.data }, { on := 0, ground := Ground.phase }, { on := 1, ground := Ground.phase }, { on := 2, ground := Ground.phase }, { on := 3, ground := Ground.textOnly Departure.lateStores }, { on := 4, ground := Ground.textOnly Departure.lateStores }, { on := 5, ground := Ground.textOnly Departure.lateStores }, { on := 6, ground := Ground.textOnly Departure.lateStores }, { on := 7, ground := Ground.textOnly Departure.lateStores }, { on := 8, ground := Ground.textOnly Departure.lateStores }], guard := none }) rfl (fun K hK => ?_) AllReadyH.nil
      go_simp
      clear hHeld
      refine hK.out _ _ ⟨⟨_, Z.out.2.2.1⟩, rfl⟩ (fun hHeld => ?_)
      clear hK K
      try simp only [Act.put, List.setIfInBounds_toArray, List.set_cons_zero, List.set_cons_succ]
      refine wpAnyH_take (i := 12) (oi := { dst := some 41, op := Op.indexAddr 32 (Operand.tmp 34) (Operand.tmp 35), type := 0, pos := "law.go:22", after := #[{ on := 4, ground := Ground.data }, { on := 5, ground := Ground.data }, { on := 0, ground := Ground.phase }, { on := 1, ground := Ground.phase }, { on := 2, ground := Ground.phase }, { on := 3, ground := Ground.phase }, { on := 4, ground := Ground.phase }, { on := 5, ground := Ground.phase }, { on := 6, ground := Ground.textOnly Departure.lateStores }, { on := 7, ground := Ground.textOnly Departure.lateStores }, { on := 8, ground := Ground.textOnly Departure.lateStores }, { on := 9, ground := Ground.phase }, { on := 10, ground := Ground.phase }, { on := 11, ground := Ground.phase }], guard := none }) (v := ?_) rfl (by kernel_rfl) (by kernel_rfl) (by kernel_rfl) (fun _ _ _ h => h) (Or.inl ⟨by rfl, ?_⟩) hHeld ?_
      rotate_left
      · intro W_ hSw_
        obtain ⟨qq, rfl⟩ := hSw_
        first | (go_simp; done) | (go_simp; with_reducible rfl)
      rotate_left
      try simp only [Act.put, List.setIfInBounds_toArray, List.set_cons_zero, List.set_cons_succ]
      refine wpAnyH_take (i := 13) (oi := { dst := some 42, op := Op.fieldAddr 55 (Operand.tmp 41) 30, type := 0, pos := "law.go:22", after := #[{ on := 12, ground := Ground.data }, { on := 0, ground := Ground.phase }, { on := 1, ground := Ground.phase }, { on := 2, ground := Ground.phase }, { on := 3, ground := Ground.phase }, { on := 4, ground := Ground.phase }, { on := 5, ground := Ground.phase }, { on := 6, ground := Ground.textOnly Departure.lateStores }, { on := 7, ground := Ground.textOnly Departure.lateStores }, { on := 8, ground := Ground.textOnly Departure.lateStores }, { on := 9, ground := Ground.phase }, { on := 10, ground := Ground.phase }, { on := 11, ground := Ground.phase }], guard := none }) (v := ?_) rfl (by kernel_rfl) (by kernel_rfl) (by kernel_rfl) (fun _ _ _ h => h) (Or.inl ⟨by rfl, ?_⟩) hHeld ?_
      rotate_left
      · intro W_ hSw_
        obtain ⟨qq, rfl⟩ := hSw_
        first | (go_simp; done) | (go_simp; with_reducible rfl)
      rotate_left
      try simp only [Act.put, List.setIfInBounds_toArray, List.set_cons_zero, List.set_cons_succ]
      refine wpAnyH_ready (rs := [14]) (by kernel_rfl) (by simp) ?_
      refine AllReadyH.cons (o := { dst := none, op := Op.store 49 (Operand.tmp 42) (Operand.const (Value.int IntKind.i64 4)), type := 0, pos := "law.go:22", after := #[{ on := 13, ground := Ground.data }, { on := 11, ground := Ground.chain }, { on := 0, ground := Ground.phase }, { on := 1, ground := Ground.phase }, { on := 2, ground := Ground.phase }, { on := 3, ground := Ground.phase }, { on := 4, ground := Ground.phase }, { on := 5, ground := Ground.phase }, { on := 6, ground := Ground.textOnly Departure.lateStores }, { on := 7, ground := Ground.textOnly Departure.lateStores }, { on := 8, ground := Ground.textOnly Departure.lateStores }, { on := 9, ground := Ground.phase }, { on := 10, ground := Ground.phase }, { on := 11, ground := Ground.phase }], guard := none }) rfl (fun K hK => ?_) AllReadyH.nil
      go_simp
      clear hHeld
      refine hK.out _ _ ⟨⟨_, Z.out.2.2.2.1⟩, rfl⟩ (fun hHeld => ?_)
      clear hK K
      try simp only [Act.put, List.setIfInBounds_toArray, List.set_cons_zero, List.set_cons_succ]
      refine wpAnyH_take (i := 15) (oi := { dst := some 43, op := Op.indexAddr 32 (Operand.tmp 37) (Operand.tmp 38), type := 0, pos := "law.go:22", after := #[{ on := 7, ground := Ground.data }, { on := 8, ground := Ground.data }, { on := 0, ground := Ground.phase }, { on := 1, ground := Ground.phase }, { on := 2, ground := Ground.phase }, { on := 3, ground := Ground.phase }, { on := 4, ground := Ground.phase }, { on := 5, ground := Ground.phase }, { on := 6, ground := Ground.phase }, { on := 7, ground := Ground.phase }, { on := 8, ground := Ground.phase }, { on := 9, ground := Ground.phase }, { on := 10, ground := Ground.phase }, { on := 11, ground := Ground.phase }, { on := 12, ground := Ground.phase }, { on := 13, ground := Ground.phase }, { on := 14, ground := Ground.phase }], guard := none }) (v := ?_) rfl (by kernel_rfl) (by kernel_rfl) (by kernel_rfl) (fun _ _ _ h => h) (Or.inl ⟨by rfl, ?_⟩) hHeld ?_
      rotate_left
      · intro W_ hSw_
        obtain ⟨qq, rfl⟩ := hSw_
        first | (go_simp; done) | (go_simp; with_reducible rfl)
      rotate_left
      try simp only [Act.put, List.setIfInBounds_toArray, List.set_cons_zero, List.set_cons_succ]
      refine wpAnyH_take (i := 16) (oi := { dst := some 44, op := Op.fieldAddr 55 (Operand.tmp 43) 31, type := 0, pos := "law.go:22", after := #[{ on := 15, ground := Ground.data }, { on := 0, ground := Ground.phase }, { on := 1, ground := Ground.phase }, { on := 2, ground := Ground.phase }, { on := 3, ground := Ground.phase }, { on := 4, ground := Ground.phase }, { on := 5, ground := Ground.phase }, { on := 6, ground := Ground.phase }, { on := 7, ground := Ground.phase }, { on := 8, ground := Ground.phase }, { on := 9, ground := Ground.phase }, { on := 10, ground := Ground.phase }, { on := 11, ground := Ground.phase }, { on := 12, ground := Ground.phase }, { on := 13, ground := Ground.phase }, { on := 14, ground := Ground.phase }], guard := none }) (v := ?_) rfl (by kernel_rfl) (by kernel_rfl) (by kernel_rfl) (fun _ _ _ h => h) (Or.inl ⟨by rfl, ?_⟩) hHeld ?_
      rotate_left
      · intro W_ hSw_
        obtain ⟨qq, rfl⟩ := hSw_
        first | (go_simp; done) | (go_simp; with_reducible rfl)
      rotate_left
      try simp only [Act.put, List.setIfInBounds_toArray, List.set_cons_zero, List.set_cons_succ]
      refine wpAnyH_ready (rs := [17]) (by kernel_rfl) (by simp) ?_
      refine AllReadyH.cons (o := { dst := none, op := Op.store 49 (Operand.tmp 44) (Operand.const (Value.int IntKind.i64 4)), type := 0, pos := "law.go:22", after := #[{ on := 16, ground := Ground.data }, { on := 14, ground := Ground.chain }, { on := 0, ground := Ground.phase }, { on := 1, ground := Ground.phase }, { on := 2, ground := Ground.phase }, { on := 3, ground := Ground.phase }, { on := 4, ground := Ground.phase }, { on := 5, ground := Ground.phase }, { on := 6, ground := Ground.phase }, { on := 7, ground := Ground.phase }, { on := 8, ground := Ground.phase }, { on := 9, ground := Ground.phase }, { on := 10, ground := Ground.phase }, { on := 11, ground := Ground.phase }, { on := 12, ground := Ground.phase }, { on := 13, ground := Ground.phase }, { on := 14, ground := Ground.phase }], guard := none }) rfl (fun K hK => ?_) AllReadyH.nil
      go_simp
      clear hHeld
      refine hK.out _ _ ⟨⟨_, Z.out.2.2.2.2⟩, rfl⟩ (fun hHeld => ?_)
      clear hK K
      try simp only [Act.put, List.setIfInBounds_toArray, List.set_cons_zero, List.set_cons_succ]
      refine wpAnyH_done (by kernel_rfl) ?_ _
      refine NoPanic.normal ?_
      clear hHeld
      clear f16 s1 s2 s3
      go_wp2
      go_roundw
      case rel => exact ⟨i + 1, by omega, by go_num, Z.out.1, Z.out.2.1⟩
      case measure => simp [intOf]; omega
    · have hin : i = 2 := by omega
      subst hin
      have c16 := hr.t16
      obtain ⟨V1, s1, p1, g1⟩ := hp.st1 (i := 0) (p := selP aX) (q := 25) (j := 25) (v := .bool true) rfl info1.1 (by omega) rfl (fit_bit rfl) rfl
      have r1 := hr.keptBut g1 (by have := G.out.2.2.2.1; simp; omega)
      have d16 := r1.t16
      obtain ⟨V2, s2, p2, g2⟩ := p1.st1 (i := 1) (p := selP bX) (q := 142) (j := 65) (v := .int .u8 7) rfl info1.2.1 (by omega) rfl (fit_num rfl (by decide)) rfl
      have r2 := r1.keptBut g2 (by have := G.out.2.2.2.1; simp; omega)
      have p2' : PAt V2 g cc lX := p2
      have bV : Below w.heap.size w V2 := gro (gro (gro G.out.2.2.1 hgi G.out.2.2.2.2.2 G.out.2.2.1.size) g1 G.out.2.2.2.2.2 (by have := hgi.size; have := G.out.2.2.1.size; omega)) g2 G.out.2.2.2.2.2 (by have := hgi.size; have := g1.size; have := G.out.2.2.1.size; omega)
      have l2 := r2.tld
      have K : Hid (RvAt V2 b 34 (trc h (.slice (some ⟨g, 0, none⟩) 2 cc)) ∧ PAt V2 g cc lX ∧ Below w.heap.size w V2) := ⟨r2, p2', bV⟩
      clear hp hgi hr p1 g1 r1 p2 g2 r2 p2' bV
      go_wp2_with fail
      refine (up_any h (some ⟨g, 0, none⟩) 2 cc lX 1 true V2 K.out.2.1.sl (by omega)).mono ?_
      rintro _ V3 ⟨v3, rfl, o3, b3⟩
      obtain ⟨g3, c3, rfl, _, p3⟩ := own_two o3 rfl
      clear c16 d16 s1 s2 l2
      go_wp2_with fail
      refine (tick_any h (some ⟨g3, 0, none⟩) 2 c3 (upL lX 1 true) V3 p3.sl (by omega)).mono ?_
      rintro _ V4 ⟨v4, rfl, o4, b4⟩
      obtain ⟨g4, c4, rfl, _, p4⟩ := own_two o4 rfl
      obtain ⟨V5, s5, r5, b5, z5⟩ := new_tv V4 h (.slice (some ⟨g4, 0, none⟩) 2 c4) rfl
      obtain ⟨d, hd⟩ : ∃ d, V4.heap.size = d := ⟨_, rfl⟩
      rw [hd] at s5 r5 z5
      have bb := below_over (below_over b3 b4) b5
      have A0 : Hid (AX w V5 b g cc d g4 c4 h) := ⟨K.out.1.below bb, K.out.2.1.below bb, r5, p4.below b5, below_over K.out.2.2 bb⟩
      have l5 := A0.out.t.tld
      clear o3 b3 p3 o4 b4 p4 r5 b5 z5 bb K
      go_wp2_with fail
      refine (allS_any h (some ⟨g, 0, none⟩) 2 cc lX 0 V5 A0.out.sl (by omega)).mono ?_
      rintro _ V6 ⟨rfl, b6⟩
      rw [x3]
      have A1 : Hid (AX w V6 b g cc d g4 c4 h) := A0.out.below b6
      have l6 := A1.out.t.tld
      clear b6 A0 l5 s5
      go_wp2_with fail
      refine (allS_any h (some ⟨g, 0, none⟩) 2 cc lX 1 V6 A1.out.sl (by omega)).mono ?_
      rintro _ V7 ⟨rfl, b7⟩
      rw [x4]
      have A2 : Hid (AX w V7 b g cc d g4 c4 h) := A1.out.below b7
      have l7 := A2.out.t.tld
      have c7 := A2.out.t.t16
      have d7 := A2.out.u.t16
      have e1 : V7.cell? ⟨g4, 79, none⟩ = some (.bool true) := by
        have := A2.out.q.bit (i := 1) (j := 2) (q := 79) (p := gtP uX 1) rfl rfl rfl
        rw [x6] at this
        exact this
      have e2 : V7.cell? ⟨g4, 142, none⟩ = some (.int .u8 6) := by
        have := A2.out.q.num (i := 1) (j := 65) (q := 142) (p := gtP uX 1) rfl rfl rfl
        rw [x7] at this
        exact this
      have e3 : V7.cell? ⟨g, 79, none⟩ = some (.bool false) := by
        have := A2.out.p.bit (i := 1) (j := 2) (q := 79) (p := qX) rfl rfl rfl
        rw [x8] at this
        exact this
      clear b7 A1 l6
      go_wp2_with fail
      refine (same_any h h (some ⟨g, 0, none⟩) (some ⟨g, 0, none⟩) 2 2 cc cc lX lX V7 A2.out.sl A2.out.sl (by omega) (by omega)).mono ?_
      rintro _ V8 ⟨rfl, b8⟩
      rw [sameT_self]
      have A3 : Hid (AX w V8 b g cc d g4 c4 h) := A2.out.below b8
      have l8 := A3.out.t.tld
      have m8 := A3.out.u.tld
      clear b8 A2 l7 c7 d7 e1 e2 e3
      go_wp2_with fail
      refine (same_any h h (some ⟨g, 0, none⟩) (some ⟨g4, 0, none⟩) 2 2 cc c4 lX uX V8 A3.out.sl A3.out.sl2 (by omega) (by omega)).mono ?_
      rintro _ V9 ⟨rfl, b9⟩
      rw [x10]
      have A4 : Hid (AX w V9 b g cc d g4 c4 h) := A3.out.below b9
      clear b9 A3 l8 m8
      have CK := checkc_any (zeroR kdC) none 0 0 [] V9 (nilC V9) (by omega)
      rw [x11] at CK
      simp only [erC] at CK
      change Calls Try.prog 10 #[.agg #[.int .u64 0, .int .u8 0, .int .u8 0, .int .u8 0, .int .u8 0, .int .u8 0, .slice none 0 0]] V9 _ at CK
      go_wp2_with fail
      refine CK.mono ?_
      rintro _ V10 ⟨rfl, b10⟩
      have A5 : Hid (AX w V10 b g cc d g4 c4 h) := A4.out.below b10
      have l10 := A5.out.t.tld
      clear b10 A4 CK
      go_wp2_with fail
      refine (sync_any h (some ⟨g, 0, none⟩) 2 cc lX V10 A5.out.sl (by omega)).mono ?_
      rintro _ V11 ⟨v11, rfl, o11, b11⟩
      obtain ⟨g11, c11, rfl, _, p11⟩ := own_two o11 rfl
      have f11 := fdS_is h (.slice (some ⟨g11, 0, none⟩) 2 c11)
      have e11 : V11.cell? ⟨g11, 101, none⟩ = some (.bool true) := by
        have := p11.bit (i := 1) (j := 24) (q := 101) (p := gtP (lX.map syncP) 1) rfl rfl rfl
        rw [x12] at this
        exact this
      have A6 : Hid (AX w V11 b g cc d g4 c4 h) := A5.out.below b11
      have l11 := A6.out.t.tld
      clear b11 A5 l10 o11 p11
      go_wp2_with fail
      refine (rer_any h (some ⟨g, 0, none⟩) 2 cc lX V11 A6.out.sl (by omega)).mono ?_
      rintro _ V12 ⟨v12, rfl, o12, b12⟩
      obtain ⟨g12, c12, rfl, _, p12⟩ := own_two o12 rfl
      have f12 := fdS_is h (.slice (some ⟨g12, 0, none⟩) 2 c12)
      have e12 : V12.cell? ⟨g12, 20, none⟩ = some (.bool true) := by
        have := p12.bit (i := 0) (j := 20) (q := 20) (p := gtP (lX.map rerP) 0) rfl rfl rfl
        rw [x13] at this
        exact this
      have A7 : Hid (AX w V12 b g cc d g4 c4 h) := A6.out.below b12
      have l12 := A7.out.t.tld
      clear b12 A6 l11 o12 p12 f11 e11
      go_wp2_with fail
      refine (allR_any h (some ⟨g, 0, none⟩) 2 cc lX 0 V12 A7.out.sl (by omega)).mono ?_
      rintro _ V13 ⟨rfl, b13⟩
      rw [x9]
      have A8 : Hid (Below w.heap.size w V13) := (A7.out.below b13).bel
      clear b13 A7 l12 f12 e12
      go_wp2
      go_ret
      exact ⟨rfl, A8.out⟩
end Go.Proofs.Ytnjepjkbmgkdkaa
