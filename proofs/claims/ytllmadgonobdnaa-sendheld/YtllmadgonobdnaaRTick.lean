/-
  A second later: Tick, and the definition's less and Tick: their walks, for every tree.
-/
import Derived.Test.YtllmadgonobdnaaKit
import Derived.Test.YtllmadgonobdnaaPh
namespace Go.Proofs.Ytllmadgonobdnaa
set_option linter.unusedVariables false
set_option maxRecDepth 4000
set_option linter.unusedSimpArgs false
open Go.RowKit

/-- The first i ports changed. -/
def mapTo (f : Pt → Pt) (l : List Pt) (i : Nat) : List Pt := (l.take i).map f ++ l.drop i
theorem mapTo_len (f : Pt → Pt) (l : List Pt) (i : Nat) : (mapTo f l i).length = l.length := by
  simp [mapTo]; omega
theorem mapTo_at {f : Pt → Pt} {l : List Pt} {i : Nat} (h : i < l.length) : (mapTo f l i)[i]? = some (gtP l i) := by
  rw [← gtP_at h]
  unfold mapTo
  rw [List.getElem?_append_right (by simp; omega), List.length_map, List.length_take, Nat.min_eq_left (by omega), Nat.sub_self, List.getElem?_drop]
  rfl
theorem mapTo_next {f : Pt → Pt} {l : List Pt} {i : Nat} (h : i < l.length) : (mapTo f l i).set i (f (gtP l i)) = mapTo f l (i + 1) := by
  unfold mapTo
  have e : ((l.take i).map f).length = i := by simp; omega
  have hg : gtP l i = l[i] := by
    have := gtP_at h
    rw [List.getElem?_eq_getElem h] at this
    exact (Option.some.inj this).symm
  rw [List.set_append_right _ _ (by omega), e, Nat.sub_self, List.drop_eq_getElem_cons h, List.set_cons_zero, List.take_add_one, List.getElem?_eq_getElem h, hg, List.map_append, List.append_assoc]
  rfl
theorem mapTo_all (f : Pt → Pt) (l : List Pt) : mapTo f l l.length = l.map f := by simp [mapTo]
theorem mapTo_zero (f : Pt → Pt) (l : List Pt) : mapTo f l 0 = l := by simp [mapTo]
/-- One less, if it is above 0. -/
def dec1 (n : Int) : Int := if 0 < n then n - 1 else n
theorem dec1_in {n : Int} (h : 0 ≤ n ∧ n ≤ 255) : 0 ≤ dec1 n ∧ dec1 n ≤ 255 := by
  unfold dec1
  split <;> omega
/-- The timers' places, in their order. -/
def tm (i : Nat) : Nat := [65, 66, 67, 68, 69, 70, 71, 64].getD i 0
theorem tm_kd {i : Nat} (h : i < 8) : kdP[tm i]? = some (some .u8) := by
  match i, h with
  | 0, _ => rfl
  | 1, _ => rfl
  | 2, _ => rfl
  | 3, _ => rfl
  | 4, _ => rfl
  | 5, _ => rfl
  | 6, _ => rfl
  | 7, _ => rfl
/-- The first i timers run down. -/
def tickTo (p : Pt) : Nat → Pt
  | 0 => p
  | i + 1 => (tickTo p i).setU (tm i) (dec1 ((tickTo p i).nm (tm i)))
def tickP (p : Pt) : Pt := tickTo p 8
attribute [local go_sem ↓] ldP stP ldT stT apE st32 st4 st5 alP
attribute [local go_sem] alP_run
theorem less_any (n : Int) (w : World) (hn : 0 ≤ n ∧ n ≤ 255) : Calls Try.prog 37 #[.int .u8 n] w fun r w' => r = .returned (.int .u8 (dec1 n)) ∧ Below w.heap.size w w' := by
  go_enter Try.func37, Try.ntmps37
  by_cases h0 : n = 0
  · subst h0
    go_wp2
    go_ret
    exact ⟨rfl, Below.refl _ _⟩
  · have hb : (n == 0) = false := by simpa using h0
    have hw : IntKind.u8.wrap (n - 1) = n - 1 := IntWalk.u8_in _ (by omega)
    go_wp2
    go_ret
    exact ⟨by unfold dec1; rw [if_pos (by omega)]; rfl, Below.refl _ _⟩
attribute [local go_sem] zeroPort
theorem RvAt.pU {W : World} {b j : Nat} {n : Int} {p : Pt} (hb : RvAt W b 53 p.cs) (hk : kdP[j]? = some (some .u8)) (hn : 0 ≤ n ∧ n ≤ 255) :
    ∃ W', (stS 5 (.pointer (some ⟨b, j, none⟩)) (.int .u8 n)).run Try.prog W = .ok () W' ∧ RvAt W' b 53 (p.setU j n).cs ∧ W.grownBy W' (some b) := by
  rw [p.setU_is hk (wf8 hn)]
  exact hb.pset info1.2.1 (by rw [← lenP]; exact (List.getElem?_eq_some_iff.1 hk).1) rfl _
def tk (r : Pt) (j : Nat) : Pt := r.setU j (dec1 (r.nm j))
theorem tk4 (r : Pt) (a b c d : Nat) (h1 : a ≠ b) (h2 : a ≠ c) (h3 : a ≠ d) (h4 : b ≠ c) (h5 : b ≠ d) (h6 : c ≠ d) :
    (((r.setU a (dec1 (r.nm a))).setU b (dec1 (r.nm b))).setU c (dec1 (r.nm c))).setU d (dec1 (r.nm d)) = tk (tk (tk (tk r a) b) c) d := by
  unfold tk
  simp only [Row.setU_nm _ h1, Row.setU_nm _ h2, Row.setU_nm _ h3, Row.setU_nm _ h4, Row.setU_nm _ h5, Row.setU_nm _ h6]
theorem gro_below {W A B : World} {row : Option Nat} (h : W.grownBy A row) (k : Below A.heap.size A B) : W.grownBy B row :=
  ⟨k.os.trans h.os, k.tape.trans h.tape, k.output.trans h.output, Nat.le_trans h.size k.size, fun i hi hne => (k.block i (Nat.lt_of_lt_of_le hi h.size)).trans (h.block i hi hne)⟩
theorem gro_new {W A B : World} {row : Option Nat} {b : Nat} (h : W.grownBy A row) (k : A.grownBy B (some b)) (hb : W.heap.size ≤ b) : W.grownBy B row :=
  ⟨k.os.trans h.os, k.tape.trans h.tape, k.output.trans h.output, Nat.le_trans h.size k.size, fun i hi hne => (k.block i (Nat.lt_of_lt_of_le hi h.size) (by simp; omega)).trans (h.block i hi hne)⟩
theorem after4 {W3 V Y Z0 Z1 Z2 Z3 : World} {g cc bb0 a b c d : Nat} {l : List Pt} {r : Pt} (hg : W3.grownBy V (some g)) (hp : PAt V g cc l) (hb : W3.heap.size ≤ bb0) (hgb : g < bb0) (h1 : a ≠ b) (h2 : a ≠ c) (h3 : a ≠ d) (h4 : b ≠ c) (h5 : b ≠ d) (h6 : c ≠ d)
    (D : Below V.heap.size V Y) (g0 : Y.grownBy Z0 (some bb0)) (g1 : Z0.grownBy Z1 (some bb0)) (g2 : Z1.grownBy Z2 (some bb0)) (g3 : Z2.grownBy Z3 (some bb0))
    (e : RvAt Z3 bb0 53 ((((r.setU a (dec1 (r.nm a))).setU b (dec1 (r.nm b))).setU c (dec1 (r.nm c))).setU d (dec1 (r.nm d))).cs) :
    RvAt Z3 bb0 53 (tk (tk (tk (tk r a) b) c) d).cs ∧ W3.grownBy Z3 (some g) ∧ PAt Z3 g cc l := by
  rw [tk4 r a b c d h1 h2 h3 h4 h5 h6] at e
  have gg := grown_self (grown_self (grown_self g0 g1) g2) g3
  exact ⟨e, gro_new (gro_below hg D) gg hb, (hp.below D).keptBut gg (by simp; omega)⟩
set_option maxHeartbeats 8000000 in
theorem rtick_any (h : Hd) (a : Option Addr) (n c : Nat) (l : List Pt) (w : World) (hs : SlAt w a n c l) (hn : n ≤ 1000) :
    Calls Try.prog 21 #[.agg (trc h (.slice a n c))] w fun r w' => ∃ v, r = .returned (.agg (trc h v)) ∧ Own w' w.heap.size v (l.map tickP) ∧ Below w.heap.size w w' := by
  obtain ⟨W, hW, r0, r1, bW, zW⟩ := two_t w h (.slice a n c)
  have l0 := r0.tld
  have H : Hid (SlAt W a n c l ∧ n ≤ 1000 ∧ l.length = n ∧ RvAt W w.heap.size 31 (trc h (.slice a n c)) ∧ RvAt W (w.heap.size + 1) 31 (trc zeroH (.slice none 0 0)) ∧ Below w.heap.size w W ∧ W.heap.size = w.heap.size + 2) := ⟨hs.below bW, hn, hs.len, r0, r1, bW, zW⟩
  clear hs hn r0 r1 bW zW
  go_enter Try.func21, Try.ntmps21
  go_wp2_with fail
  refine (rcopy_any h a n c l W H.out.1 H.out.2.1).mono ?_
  rintro _ W2 ⟨v, rfl, o2, b2⟩
  obtain ⟨W3, s3, r3, g3⟩ := (H.out.2.2.2.1.below b2).tst (g := h) (y := v) o2.one
  have z2 := H.out.2.2.2.2.2.2
  have o3 := o2.keptBut g3 (o2.apart (by omega))
  have q3 := (H.out.2.2.2.2.1.below b2).keptBut g3 (by simp)
  have b3 : Below w.heap.size w W3 := gro (below_over H.out.2.2.2.2.2.1 b2) g3 (Nat.le_refl _) (by have := b2.size; omega)
  clear b2 g3 l0
  rcases o3.pat with ⟨rfl, rfl⟩ | ⟨g, cc, rfl, hg, hp⟩
  · have c16 := r3.t16
    obtain ⟨W4, s4, r4, g4⟩ := q3.tst (g := h) (y := .slice none 0 0) rfl
    have l3 := r3.tld
    have G : Hid (RvAt W4 (w.heap.size + 1) 31 (trc h (.slice none 0 0)) ∧ Below w.heap.size w W4) := ⟨r4, gro b3 g4 (by omega) b3.size⟩
    clear r3 q3 b3 r4 g4 o2 o3 z2
    go_wp2_with fail
    go_rounds 1
    refine bodyPost_ret (results_row rtT Try.results21 _ _ _ _ rfl G.out.1 (trc_size _ _)) rfl ?_
    exact ⟨_, rfl, Own.nil _ _, G.out.2⟩
  · have hl := H.out.2.2.1
    have hn1 := H.out.2.1
    have G : Hid (RvAt W3 w.heap.size 31 (trc h (.slice (some ⟨g, 0, none⟩) l.length cc)) ∧ RvAt W3 (w.heap.size + 1) 31 (trc zeroH (.slice none 0 0)) ∧ Below w.heap.size w W3 ∧ PAt W3 g cc l ∧ w.heap.size + 2 ≤ g) := ⟨r3, q3, b3, hp, by omega⟩
    obtain ⟨X, hX⟩ : ∃ X, X = l.length := ⟨_, rfl⟩
    have hx0 : X ≤ 1000 := by omega
    have GX : Hid (X = l.length) := hX
    clear r3 q3 b3 hp hg hl hn1 o2 o3 z2 hX
    go_wp2_with fail
    go_loopw [3] (fun v3 wr => ∃ i : Nat, i ≤ X ∧ v3 = .int .i64 i ∧ PAt wr g cc (mapTo tickP l i) ∧ W3.grownBy wr (some g)) (fun v3 _ => X - (intOf v3).toNat)
    case atStart => exact ⟨0, by omega, rfl, by rw [mapTo_zero]; exact G.out.2.2.2.1, World.grownBy.refl _ _⟩
    case round =>
      obtain ⟨i, hi, rfl, hpi, hgi⟩ := hrel
      have hr := G.out.1.keptBut hgi (by have := G.out.2.2.2.2; simp; omega)
      have c16 := hr.t16
      rw [← GX.out] at c16
      have hin0 : (0 : Int) ≤ (i : Int) := by omega
      by_cases hit : i < X
      · have hin1 : (i : Int) < (X : Int) := by omega
        have hil : i < l.length := by rw [← GX.out]; exact hit
        have lp : (ldS 53 (.pointer (some ⟨g, i * 77, none⟩))).run Try.prog wr = .ok (.agg (gtP l i).cs) wr := hpi.ld (mapTo_at hil) rfl
        obtain ⟨bb0, hbb⟩ : ∃ b, wr.heap.size = b := ⟨_, rfl⟩
        obtain ⟨V, sV, rV, bV, zV⟩ := row_new rtP wr zeroP.cs (gtP l i).cs (by rw [Row.csize, lenP]) (by rw [Row.csize, lenP]) (Row.one' _)
        have hgw := hpi.lt
        have hgs := hgi.size
        rw [hbb] at rV zV sV hgw hgs
        have R0 : Hid (W3.grownBy V (some g) ∧ PAt V g cc (mapTo tickP l i) ∧ W3.heap.size ≤ bb0 ∧ g < bb0) := ⟨gro_below hgi bV, hpi.below bV, hgs, hgw⟩
        obtain ⟨pp, hpp⟩ : ∃ pp, gtP l i = pp := ⟨_, rfl⟩
        rw [hpp] at rV sV lp
        have HP : Hid (gtP l i = pp) := hpp
        have R1 : Hid (RvAt V bb0 53 pp.cs ∧ ∀ {Y Z0 Z1 Z2 Z3 : World}, Below V.heap.size V Y → Y.grownBy Z0 (some bb0) → Z0.grownBy Z1 (some bb0) → Z1.grownBy Z2 (some bb0) → Z2.grownBy Z3 (some bb0) → RvAt Z3 bb0 53 ((((pp.setU 65 (dec1 (pp.nm 65))).setU 66 (dec1 (pp.nm 66))).setU 67 (dec1 (pp.nm 67))).setU 68 (dec1 (pp.nm 68))).cs → RvAt Z3 bb0 53 (tk (tk (tk (tk pp 65) 66) 67) 68).cs ∧ W3.grownBy Z3 (some g) ∧ PAt Z3 g cc (mapTo tickP l i)) :=
          ⟨rV, fun D g0 g1 g2 g3 e => after4 R0.out.1 R0.out.2.1 R0.out.2.2.1 R0.out.2.2.2 (by decide) (by decide) (by decide) (by decide) (by decide) (by decide) D g0 g1 g2 g3 e⟩
        have q65 := fun q : Later V => (R1.out.1.below q.below).pnum (j := 65) rfl
        have q66 := fun q : Later V => (R1.out.1.below q.below).pnum (j := 66) rfl
        have q67 := fun q : Later V => (R1.out.1.below q.below).pnum (j := 67) rfl
        have q68 := fun q : Later V => (R1.out.1.below q.below).pnum (j := 68) rfl
        clear hpi hgi hr rV bV zV hpp hgw hgs
        go_wp2_with fail
        obtain ⟨Y0, hY0⟩ : ∃ Y0, World.drew V = Y0 := ⟨_, rfl⟩
        have D0 : Hid (Below V.heap.size V Y0) := by rw [← hY0]; exact (Below.refl _ _).drew
        refine wp_region_noPanic ?_
        refine AnyZ.start (z := 13) (S := fun w' => ∃ x : Later V, w' = x.val) (by kernel_rfl) ⟨⟨_, (Below.refl _ _).drew⟩, rfl⟩ (fun hHeld => ?_)
        rw [hY0] at hHeld ⊢
        clear hY0
        refine AnyZ.take (i := 0) (oi := { dst := some 19, op := Op.fieldAddr 53 (Operand.tmp 4) 38, type := 0, pos := "ref.go:78", after := #[], guard := none }) (v := ?_) rfl (by kernel_rfl) (by kernel_rfl) (fun _ _ _ h => h) _ _ _ _ (by kernel_rfl) (by kernel_rfl) (by kernel_rfl) (Or.inl ⟨by rfl, ?_⟩) hHeld ?_
        rotate_left
        · intro W_ hSw_
          obtain ⟨q, rfl⟩ := hSw_
          first | (go_simp; done) | (go_simp; with_reducible rfl)
        rotate_left
        try simp only [Act.put, List.setIfInBounds_toArray, List.set_cons_zero, List.set_cons_succ]
        refine AnyZ.take (i := 1) (oi := { dst := some 20, op := Op.load 5 (Operand.tmp 19), type := 5, pos := "ref.go:78", after := #[{ on := 0, ground := Ground.data }], guard := none }) (v := ?_) rfl (by kernel_rfl) (by kernel_rfl) (fun _ _ _ h => h) _ _ _ _ (by kernel_rfl) (by kernel_rfl) (by kernel_rfl) (Or.inl ⟨by rfl, ?_⟩) hHeld ?_
        rotate_left
        · intro W_ hSw_
          obtain ⟨q, rfl⟩ := hSw_
          first | (go_simp; done) | (go_simp; with_reducible rfl)
        rotate_left
        try simp only [Act.put, List.setIfInBounds_toArray, List.set_cons_zero, List.set_cons_succ]
        refine AnyZ.take (i := 3) (oi := { dst := some 22, op := Op.fieldAddr 53 (Operand.tmp 4) 39, type := 0, pos := "ref.go:78", after := #[], guard := none }) (v := ?_) rfl (by kernel_rfl) (by kernel_rfl) (fun _ _ _ h => h) _ _ _ _ (by kernel_rfl) (by kernel_rfl) (by kernel_rfl) (Or.inl ⟨by rfl, ?_⟩) hHeld ?_
        rotate_left
        · intro W_ hSw_
          obtain ⟨q, rfl⟩ := hSw_
          first | (go_simp; done) | (go_simp; with_reducible rfl)
        rotate_left
        try simp only [Act.put, List.setIfInBounds_toArray, List.set_cons_zero, List.set_cons_succ]
        refine AnyZ.take (i := 4) (oi := { dst := some 23, op := Op.load 5 (Operand.tmp 22), type := 5, pos := "ref.go:78", after := #[{ on := 3, ground := Ground.data }], guard := none }) (v := ?_) rfl (by kernel_rfl) (by kernel_rfl) (fun _ _ _ h => h) _ _ _ _ (by kernel_rfl) (by kernel_rfl) (by kernel_rfl) (Or.inl ⟨by rfl, ?_⟩) hHeld ?_
        rotate_left
        · intro W_ hSw_
          obtain ⟨q, rfl⟩ := hSw_
          first | (go_simp; done) | (go_simp; with_reducible rfl)
        rotate_left
        try simp only [Act.put, List.setIfInBounds_toArray, List.set_cons_zero, List.set_cons_succ]
        refine AnyZ.take (i := 6) (oi := { dst := some 25, op := Op.fieldAddr 53 (Operand.tmp 4) 40, type := 0, pos := "ref.go:78", after := #[], guard := none }) (v := ?_) rfl (by kernel_rfl) (by kernel_rfl) (fun _ _ _ h => h) _ _ _ _ (by kernel_rfl) (by kernel_rfl) (by kernel_rfl) (Or.inl ⟨by rfl, ?_⟩) hHeld ?_
        rotate_left
        · intro W_ hSw_
          obtain ⟨q, rfl⟩ := hSw_
          first | (go_simp; done) | (go_simp; with_reducible rfl)
        rotate_left
        try simp only [Act.put, List.setIfInBounds_toArray, List.set_cons_zero, List.set_cons_succ]
        refine AnyZ.take (i := 7) (oi := { dst := some 26, op := Op.load 5 (Operand.tmp 25), type := 5, pos := "ref.go:78", after := #[{ on := 6, ground := Ground.data }], guard := none }) (v := ?_) rfl (by kernel_rfl) (by kernel_rfl) (fun _ _ _ h => h) _ _ _ _ (by kernel_rfl) (by kernel_rfl) (by kernel_rfl) (Or.inl ⟨by rfl, ?_⟩) hHeld ?_
        rotate_left
        · intro W_ hSw_
          obtain ⟨q, rfl⟩ := hSw_
          first | (go_simp; done) | (go_simp; with_reducible rfl)
        rotate_left
        try simp only [Act.put, List.setIfInBounds_toArray, List.set_cons_zero, List.set_cons_succ]
        refine AnyZ.take (i := 9) (oi := { dst := some 28, op := Op.fieldAddr 53 (Operand.tmp 4) 41, type := 0, pos := "ref.go:78", after := #[], guard := none }) (v := ?_) rfl (by kernel_rfl) (by kernel_rfl) (fun _ _ _ h => h) _ _ _ _ (by kernel_rfl) (by kernel_rfl) (by kernel_rfl) (Or.inl ⟨by rfl, ?_⟩) hHeld ?_
        rotate_left
        · intro W_ hSw_
          obtain ⟨q, rfl⟩ := hSw_
          first | (go_simp; done) | (go_simp; with_reducible rfl)
        rotate_left
        try simp only [Act.put, List.setIfInBounds_toArray, List.set_cons_zero, List.set_cons_succ]
        refine AnyZ.take (i := 10) (oi := { dst := some 29, op := Op.load 5 (Operand.tmp 28), type := 5, pos := "ref.go:78", after := #[{ on := 9, ground := Ground.data }], guard := none }) (v := ?_) rfl (by kernel_rfl) (by kernel_rfl) (fun _ _ _ h => h) _ _ _ _ (by kernel_rfl) (by kernel_rfl) (by kernel_rfl) (Or.inl ⟨by rfl, ?_⟩) hHeld ?_
        rotate_left
        · intro W_ hSw_
          obtain ⟨q, rfl⟩ := hSw_
          first | (go_simp; done) | (go_simp; with_reducible rfl)
        rotate_left
        try simp only [Act.put, List.setIfInBounds_toArray, List.set_cons_zero, List.set_cons_succ]
        refine AnyZ.step (i := 2) (o := { dst := some 21, op := Op.call { callee := Callee.value (Operand.func 37), args := #[Operand.tmp 20], argTypes := #[5] }, type := 5, pos := "ref.go:78", after := #[{ on := 1, ground := Ground.data }], guard := none }) (by kernel_rfl) rfl (fun K hK => ?_)
        go_simp
        refine (less_any _ _ (Row.u8 _ rfl)).mono ?_
        rintro _ Y1 ⟨rfl, bb⟩
        have D1 : Hid (Below V.heap.size V Y1) := below_over D0.out bb
        clear bb hHeld
        refine hK.out _ _ ⟨⟨_, D1.out⟩, rfl⟩ (fun hHeld => ?_)
        clear hK K
        try simp only [Act.put, List.setIfInBounds_toArray, List.set_cons_zero, List.set_cons_succ]
        refine AnyZ.takeT (i := 12) (oi := { dst := some 31, op := Op.fieldAddr 53 (Operand.tmp 4) 38, type := 0, pos := "ref.go:78", after := #[{ on := 0, ground := Ground.phase }, { on := 1, ground := Ground.phase }, { on := 2, ground := Ground.phase }, { on := 3, ground := Ground.phase }, { on := 4, ground := Ground.phase }, { on := 5, ground := Ground.textOnly Departure.lateStoresUnsure }, { on := 6, ground := Ground.phase }, { on := 7, ground := Ground.phase }, { on := 8, ground := Ground.textOnly Departure.lateStoresUnsure }, { on := 9, ground := Ground.phase }, { on := 10, ground := Ground.phase }, { on := 11, ground := Ground.textOnly Departure.lateStoresUnsure }], guard := none }) (v := ?_) rfl (by kernel_rfl) (by decide) (fun _ _ _ h => h) _ _ _ _ (by kernel_rfl) (by kernel_rfl) (Or.inl ⟨by rfl, ?_⟩) (fun e => by first | exact hHeld | exact absurd e (by decide)) ?_
        rotate_left
        · intro W_ _
          first | (go_simp; done) | (go_simp; with_reducible rfl)
        rotate_left
        try simp only [Act.put, List.setIfInBounds_toArray, List.set_cons_zero, List.set_cons_succ]
        refine AnyZ.step (i := 5) (o := { dst := some 24, op := Op.call { callee := Callee.value (Operand.func 37), args := #[Operand.tmp 23], argTypes := #[5] }, type := 5, pos := "ref.go:78", after := #[{ on := 4, ground := Ground.data }, { on := 2, ground := Ground.chain }], guard := none }) (by kernel_rfl) rfl (fun K hK => ?_)
        go_simp
        refine (less_any _ _ (Row.u8 _ rfl)).mono ?_
        rintro _ Y2 ⟨rfl, bb⟩
        have D2 : Hid (Below V.heap.size V Y2) := below_over D1.out bb
        clear bb hHeld
        refine hK.out _ _ ⟨⟨_, D2.out⟩, rfl⟩ (fun hHeld => ?_)
        clear hK K
        try simp only [Act.put, List.setIfInBounds_toArray, List.set_cons_zero, List.set_cons_succ]
        refine AnyZ.step (i := 8) (o := { dst := some 27, op := Op.call { callee := Callee.value (Operand.func 37), args := #[Operand.tmp 26], argTypes := #[5] }, type := 5, pos := "ref.go:78", after := #[{ on := 7, ground := Ground.data }, { on := 5, ground := Ground.chain }], guard := none }) (by kernel_rfl) rfl (fun K hK => ?_)
        go_simp
        refine (less_any _ _ (Row.u8 _ rfl)).mono ?_
        rintro _ Y3 ⟨rfl, bb⟩
        have D3 : Hid (Below V.heap.size V Y3) := below_over D2.out bb
        clear bb hHeld
        refine hK.out _ _ ⟨⟨_, D3.out⟩, rfl⟩ (fun hHeld => ?_)
        clear hK K
        try simp only [Act.put, List.setIfInBounds_toArray, List.set_cons_zero, List.set_cons_succ]
        refine AnyZ.step (i := 11) (o := { dst := some 30, op := Op.call { callee := Callee.value (Operand.func 37), args := #[Operand.tmp 29], argTypes := #[5] }, type := 5, pos := "ref.go:78", after := #[{ on := 10, ground := Ground.data }, { on := 8, ground := Ground.chain }], guard := none }) (by kernel_rfl) rfl (fun K hK => ?_)
        go_simp
        refine (less_any _ _ (Row.u8 _ rfl)).mono ?_
        rintro _ Y4 ⟨rfl, bb⟩
        have D4 : Hid (Below V.heap.size V Y4) := below_over D3.out bb
        clear bb hHeld
        refine hK.out _ _ ⟨⟨_, D4.out⟩, rfl⟩ (fun hHeld => ?_)
        clear hK K
        try simp only [Act.put, List.setIfInBounds_toArray, List.set_cons_zero, List.set_cons_succ]
        clear hHeld
        have e0 := R1.out.1.below D4.out
        obtain ⟨Z0, s0, e1, g0⟩ := e0.pU (j := 65) (n := dec1 (pp.nm 65)) rfl (dec1_in (Row.u8 _ rfl))
        obtain ⟨Z1, s1, e2, g1⟩ := e1.pU (j := 66) (n := dec1 (pp.nm 66)) rfl (dec1_in (Row.u8 _ rfl))
        obtain ⟨Z2, s2, e3, g2⟩ := e2.pU (j := 67) (n := dec1 (pp.nm 67)) rfl (dec1_in (Row.u8 _ rfl))
        obtain ⟨Z3, s3, e4, g3⟩ := e3.pU (j := 68) (n := dec1 (pp.nm 68)) rfl (dec1_in (Row.u8 _ rfl))
        have ZF : Hid (RvAt Z3 bb0 53 (tk (tk (tk (tk pp 65) 66) 67) 68).cs ∧ W3.grownBy Z3 (some g) ∧ PAt Z3 g cc (mapTo tickP l i)) := R1.out.2 D4.out g0 g1 g2 g3 e4
        clear e0 e1 e2 e3 e4 g0 g1 g2 g3
        refine AnyZ.stepF (i := 13) (o := { dst := none, op := Op.store 5 (Operand.tmp 31) (Operand.tmp 21), type := 0, pos := "ref.go:78", after := #[{ on := 12, ground := Ground.data }, { on := 2, ground := Ground.data }, { on := 11, ground := Ground.chain }, { on := 0, ground := Ground.phase }, { on := 1, ground := Ground.phase }, { on := 2, ground := Ground.phase }, { on := 3, ground := Ground.phase }, { on := 4, ground := Ground.phase }, { on := 5, ground := Ground.textOnly Departure.lateStoresUnsure }, { on := 6, ground := Ground.phase }, { on := 7, ground := Ground.phase }, { on := 8, ground := Ground.textOnly Departure.lateStoresUnsure }, { on := 9, ground := Ground.phase }, { on := 10, ground := Ground.phase }, { on := 11, ground := Ground.textOnly Departure.lateStoresUnsure }], guard := none }) (by kernel_rfl) rfl (by kernel_rfl) (fun K hK => ?_)
        go_simp
        refine hK.out _ _ ?_
        clear hK K
        try simp only [Act.put, List.setIfInBounds_toArray, List.set_cons_zero, List.set_cons_succ]
        refine AnyZ.takeT (i := 14) (oi := { dst := some 32, op := Op.fieldAddr 53 (Operand.tmp 4) 39, type := 0, pos := "ref.go:78", after := #[{ on := 0, ground := Ground.phase }, { on := 1, ground := Ground.phase }, { on := 2, ground := Ground.phase }, { on := 3, ground := Ground.phase }, { on := 4, ground := Ground.phase }, { on := 5, ground := Ground.phase }, { on := 6, ground := Ground.phase }, { on := 7, ground := Ground.phase }, { on := 8, ground := Ground.textOnly Departure.lateStoresUnsure }, { on := 9, ground := Ground.phase }, { on := 10, ground := Ground.phase }, { on := 11, ground := Ground.textOnly Departure.lateStoresUnsure }, { on := 12, ground := Ground.phase }, { on := 13, ground := Ground.phase }], guard := none }) (v := ?_) rfl (by kernel_rfl) (by decide) (fun _ _ _ h => h) _ _ _ _ (by kernel_rfl) (by kernel_rfl) (Or.inl ⟨by rfl, ?_⟩) (fun e => by first | exact hHeld | exact absurd e (by decide)) ?_
        rotate_left
        · intro W_ _
          first | (go_simp; done) | (go_simp; with_reducible rfl)
        rotate_left
        try simp only [Act.put, List.setIfInBounds_toArray, List.set_cons_zero, List.set_cons_succ]
        refine AnyZ.stepF (i := 15) (o := { dst := none, op := Op.store 5 (Operand.tmp 32) (Operand.tmp 24), type := 0, pos := "ref.go:78", after := #[{ on := 14, ground := Ground.data }, { on := 5, ground := Ground.data }, { on := 13, ground := Ground.chain }, { on := 0, ground := Ground.phase }, { on := 1, ground := Ground.phase }, { on := 2, ground := Ground.phase }, { on := 3, ground := Ground.phase }, { on := 4, ground := Ground.phase }, { on := 5, ground := Ground.phase }, { on := 6, ground := Ground.phase }, { on := 7, ground := Ground.phase }, { on := 8, ground := Ground.textOnly Departure.lateStoresUnsure }, { on := 9, ground := Ground.phase }, { on := 10, ground := Ground.phase }, { on := 11, ground := Ground.textOnly Departure.lateStoresUnsure }, { on := 12, ground := Ground.phase }, { on := 13, ground := Ground.phase }], guard := none }) (by kernel_rfl) rfl (by kernel_rfl) (fun K hK => ?_)
        go_simp
        refine hK.out _ _ ?_
        clear hK K
        try simp only [Act.put, List.setIfInBounds_toArray, List.set_cons_zero, List.set_cons_succ]
        refine AnyZ.takeT (i := 16) (oi := { dst := some 33, op := Op.fieldAddr 53 (Operand.tmp 4) 40, type := 0, pos := "ref.go:78", after := #[{ on := 0, ground := Ground.phase }, { on := 1, ground := Ground.phase }, { on := 2, ground := Ground.phase }, { on := 3, ground := Ground.phase }, { on := 4, ground := Ground.phase }, { on := 5, ground := Ground.phase }, { on := 6, ground := Ground.phase }, { on := 7, ground := Ground.phase }, { on := 8, ground := Ground.phase }, { on := 9, ground := Ground.phase }, { on := 10, ground := Ground.phase }, { on := 11, ground := Ground.textOnly Departure.lateStoresUnsure }, { on := 12, ground := Ground.phase }, { on := 13, ground := Ground.phase }, { on := 14, ground := Ground.phase }, { on := 15, ground := Ground.phase }], guard := none }) (v := ?_) rfl (by kernel_rfl) (by decide) (fun _ _ _ h => h) _ _ _ _ (by kernel_rfl) (by kernel_rfl) (Or.inl ⟨by rfl, ?_⟩) (fun e => by first | exact hHeld | exact absurd e (by decide)) ?_
        rotate_left
        · intro W_ _
          first | (go_simp; done) | (go_simp; with_reducible rfl)
        rotate_left
        try simp only [Act.put, List.setIfInBounds_toArray, List.set_cons_zero, List.set_cons_succ]
        refine AnyZ.stepF (i := 17) (o := { dst := none, op := Op.store 5 (Operand.tmp 33) (Operand.tmp 27), type := 0, pos := "ref.go:78", after := #[{ on := 16, ground := Ground.data }, { on := 8, ground := Ground.data }, { on := 15, ground := Ground.chain }, { on := 0, ground := Ground.phase }, { on := 1, ground := Ground.phase }, { on := 2, ground := Ground.phase }, { on := 3, ground := Ground.phase }, { on := 4, ground := Ground.phase }, { on := 5, ground := Ground.phase }, { on := 6, ground := Ground.phase }, { on := 7, ground := Ground.phase }, { on := 8, ground := Ground.phase }, { on := 9, ground := Ground.phase }, { on := 10, ground := Ground.phase }, { on := 11, ground := Ground.textOnly Departure.lateStoresUnsure }, { on := 12, ground := Ground.phase }, { on := 13, ground := Ground.phase }, { on := 14, ground := Ground.phase }, { on := 15, ground := Ground.phase }], guard := none }) (by kernel_rfl) rfl (by kernel_rfl) (fun K hK => ?_)
        go_simp
        refine hK.out _ _ ?_
        clear hK K
        try simp only [Act.put, List.setIfInBounds_toArray, List.set_cons_zero, List.set_cons_succ]
        refine AnyZ.takeT (i := 18) (oi := { dst := some 34, op := Op.fieldAddr 53 (Operand.tmp 4) 41, type := 0, pos := "ref.go:78", after := #[{ on := 0, ground := Ground.phase }, { on := 1, ground := Ground.phase }, { on := 2, ground := Ground.phase }, { on := 3, ground := Ground.phase }, { on := 4, ground := Ground.phase }, { on := 5, ground := Ground.phase }, { on := 6, ground := Ground.phase }, { on := 7, ground := Ground.phase }, { on := 8, ground := Ground.phase }, { on := 9, ground := Ground.phase }, { on := 10, ground := Ground.phase }, { on := 11, ground := Ground.phase }, { on := 12, ground := Ground.phase }, { on := 13, ground := Ground.phase }, { on := 14, ground := Ground.phase }, { on := 15, ground := Ground.phase }, { on := 16, ground := Ground.phase }, { on := 17, ground := Ground.phase }], guard := none }) (v := ?_) rfl (by kernel_rfl) (by decide) (fun _ _ _ h => h) _ _ _ _ (by kernel_rfl) (by kernel_rfl) (Or.inl ⟨by rfl, ?_⟩) (fun e => by first | exact hHeld | exact absurd e (by decide)) ?_
        rotate_left
        · intro W_ _
          first | (go_simp; done) | (go_simp; with_reducible rfl)
        rotate_left
        try simp only [Act.put, List.setIfInBounds_toArray, List.set_cons_zero, List.set_cons_succ]
        refine AnyZ.stepF (i := 19) (o := { dst := none, op := Op.store 5 (Operand.tmp 34) (Operand.tmp 30), type := 0, pos := "ref.go:78", after := #[{ on := 18, ground := Ground.data }, { on := 11, ground := Ground.data }, { on := 17, ground := Ground.chain }, { on := 0, ground := Ground.phase }, { on := 1, ground := Ground.phase }, { on := 2, ground := Ground.phase }, { on := 3, ground := Ground.phase }, { on := 4, ground := Ground.phase }, { on := 5, ground := Ground.phase }, { on := 6, ground := Ground.phase }, { on := 7, ground := Ground.phase }, { on := 8, ground := Ground.phase }, { on := 9, ground := Ground.phase }, { on := 10, ground := Ground.phase }, { on := 11, ground := Ground.phase }, { on := 12, ground := Ground.phase }, { on := 13, ground := Ground.phase }, { on := 14, ground := Ground.phase }, { on := 15, ground := Ground.phase }, { on := 16, ground := Ground.phase }, { on := 17, ground := Ground.phase }], guard := none }) (by kernel_rfl) rfl (by kernel_rfl) (fun K hK => ?_)
        go_simp
        refine hK.out _ _ ?_
        clear hK K
        try simp only [Act.put, List.setIfInBounds_toArray, List.set_cons_zero, List.set_cons_succ]
        refine AnyZ.done (by kernel_rfl) ?_ _
        refine NoPanic.normal ?_
        clear s0 s1 s2 s3
        clear sV lp c16 q65 q66 q67 q68
        obtain ⟨T, hT⟩ : ∃ T, Z3 = T := ⟨_, rfl⟩
        rw [hT] at ZF ⊢
        obtain ⟨p2, hp2⟩ : ∃ p2, tk (tk (tk (tk pp 65) 66) 67) 68 = p2 := ⟨_, rfl⟩
        rw [hp2] at ZF
        have HP2 : Hid (tk (tk (tk (tk pp 65) 66) 67) 68 = p2) := hp2
        clear hT hp2
        have R2 : Hid (RvAt T bb0 53 p2.cs ∧ ∀ {Y Z0 Z1 Z2 Z3 : World}, Below T.heap.size T Y → Y.grownBy Z0 (some bb0) → Z0.grownBy Z1 (some bb0) → Z1.grownBy Z2 (some bb0) → Z2.grownBy Z3 (some bb0) → RvAt Z3 bb0 53 ((((p2.setU 69 (dec1 (p2.nm 69))).setU 70 (dec1 (p2.nm 70))).setU 71 (dec1 (p2.nm 71))).setU 64 (dec1 (p2.nm 64))).cs → RvAt Z3 bb0 53 (tk (tk (tk (tk p2 69) 70) 71) 64).cs ∧ W3.grownBy Z3 (some g) ∧ PAt Z3 g cc (mapTo tickP l i)) :=
          ⟨ZF.out.1, fun D g0 g1 g2 g3 e => after4 ZF.out.2.1 ZF.out.2.2 R0.out.2.2.1 R0.out.2.2.2 (by decide) (by decide) (by decide) (by decide) (by decide) (by decide) D g0 g1 g2 g3 e⟩
        have q69 := fun q : Later T => (R2.out.1.below q.below).pnum (j := 69) rfl
        have q70 := fun q : Later T => (R2.out.1.below q.below).pnum (j := 70) rfl
        have q71 := fun q : Later T => (R2.out.1.below q.below).pnum (j := 71) rfl
        have q64 := fun q : Later T => (R2.out.1.below q.below).pnum (j := 64) rfl
        clear ZF
        go_wp2_with fail
        obtain ⟨X0, hX0⟩ : ∃ X0, World.drew T = X0 := ⟨_, rfl⟩
        have E0 : Hid (Below T.heap.size T X0) := by rw [← hX0]; exact (Below.refl _ _).drew
        refine wp_region_noPanic ?_
        refine AnyZ.start (z := 13) (S := fun w' => ∃ x : Later T, w' = x.val) (by kernel_rfl) ⟨⟨_, (Below.refl _ _).drew⟩, rfl⟩ (fun hHeld => ?_)
        rw [hX0] at hHeld ⊢
        clear hX0
        refine AnyZ.take (i := 0) (oi := { dst := some 35, op := Op.fieldAddr 53 (Operand.tmp 4) 42, type := 0, pos := "ref.go:79", after := #[], guard := none }) (v := ?_) rfl (by kernel_rfl) (by kernel_rfl) (fun _ _ _ h => h) _ _ _ _ (by kernel_rfl) (by kernel_rfl) (by kernel_rfl) (Or.inl ⟨by rfl, ?_⟩) hHeld ?_
        rotate_left
        · intro W_ hSw_
          obtain ⟨q, rfl⟩ := hSw_
          first | (go_simp; done) | (go_simp; with_reducible rfl)
        rotate_left
        try simp only [Act.put, List.setIfInBounds_toArray, List.set_cons_zero, List.set_cons_succ]
        refine AnyZ.take (i := 1) (oi := { dst := some 36, op := Op.load 5 (Operand.tmp 35), type := 5, pos := "ref.go:79", after := #[{ on := 0, ground := Ground.data }], guard := none }) (v := ?_) rfl (by kernel_rfl) (by kernel_rfl) (fun _ _ _ h => h) _ _ _ _ (by kernel_rfl) (by kernel_rfl) (by kernel_rfl) (Or.inl ⟨by rfl, ?_⟩) hHeld ?_
        rotate_left
        · intro W_ hSw_
          obtain ⟨q, rfl⟩ := hSw_
          first | (go_simp; done) | (go_simp; with_reducible rfl)
        rotate_left
        try simp only [Act.put, List.setIfInBounds_toArray, List.set_cons_zero, List.set_cons_succ]
        refine AnyZ.take (i := 3) (oi := { dst := some 38, op := Op.fieldAddr 53 (Operand.tmp 4) 43, type := 0, pos := "ref.go:79", after := #[], guard := none }) (v := ?_) rfl (by kernel_rfl) (by kernel_rfl) (fun _ _ _ h => h) _ _ _ _ (by kernel_rfl) (by kernel_rfl) (by kernel_rfl) (Or.inl ⟨by rfl, ?_⟩) hHeld ?_
        rotate_left
        · intro W_ hSw_
          obtain ⟨q, rfl⟩ := hSw_
          first | (go_simp; done) | (go_simp; with_reducible rfl)
        rotate_left
        try simp only [Act.put, List.setIfInBounds_toArray, List.set_cons_zero, List.set_cons_succ]
        refine AnyZ.take (i := 4) (oi := { dst := some 39, op := Op.load 5 (Operand.tmp 38), type := 5, pos := "ref.go:79", after := #[{ on := 3, ground := Ground.data }], guard := none }) (v := ?_) rfl (by kernel_rfl) (by kernel_rfl) (fun _ _ _ h => h) _ _ _ _ (by kernel_rfl) (by kernel_rfl) (by kernel_rfl) (Or.inl ⟨by rfl, ?_⟩) hHeld ?_
        rotate_left
        · intro W_ hSw_
          obtain ⟨q, rfl⟩ := hSw_
          first | (go_simp; done) | (go_simp; with_reducible rfl)
        rotate_left
        try simp only [Act.put, List.setIfInBounds_toArray, List.set_cons_zero, List.set_cons_succ]
        refine AnyZ.take (i := 6) (oi := { dst := some 41, op := Op.fieldAddr 53 (Operand.tmp 4) 44, type := 0, pos := "ref.go:79", after := #[], guard := none }) (v := ?_) rfl (by kernel_rfl) (by kernel_rfl) (fun _ _ _ h => h) _ _ _ _ (by kernel_rfl) (by kernel_rfl) (by kernel_rfl) (Or.inl ⟨by rfl, ?_⟩) hHeld ?_
        rotate_left
        · intro W_ hSw_
          obtain ⟨q, rfl⟩ := hSw_
          first | (go_simp; done) | (go_simp; with_reducible rfl)
        rotate_left
        try simp only [Act.put, List.setIfInBounds_toArray, List.set_cons_zero, List.set_cons_succ]
        refine AnyZ.take (i := 7) (oi := { dst := some 42, op := Op.load 5 (Operand.tmp 41), type := 5, pos := "ref.go:79", after := #[{ on := 6, ground := Ground.data }], guard := none }) (v := ?_) rfl (by kernel_rfl) (by kernel_rfl) (fun _ _ _ h => h) _ _ _ _ (by kernel_rfl) (by kernel_rfl) (by kernel_rfl) (Or.inl ⟨by rfl, ?_⟩) hHeld ?_
        rotate_left
        · intro W_ hSw_
          obtain ⟨q, rfl⟩ := hSw_
          first | (go_simp; done) | (go_simp; with_reducible rfl)
        rotate_left
        try simp only [Act.put, List.setIfInBounds_toArray, List.set_cons_zero, List.set_cons_succ]
        refine AnyZ.take (i := 9) (oi := { dst := some 44, op := Op.fieldAddr 53 (Operand.tmp 4) 37, type := 0, pos := "ref.go:79", after := #[], guard := none }) (v := ?_) rfl (by kernel_rfl) (by kernel_rfl) (fun _ _ _ h => h) _ _ _ _ (by kernel_rfl) (by kernel_rfl) (by kernel_rfl) (Or.inl ⟨by rfl, ?_⟩) hHeld ?_
        rotate_left
        · intro W_ hSw_
          obtain ⟨q, rfl⟩ := hSw_
          first | (go_simp; done) | (go_simp; with_reducible rfl)
        rotate_left
        try simp only [Act.put, List.setIfInBounds_toArray, List.set_cons_zero, List.set_cons_succ]
        refine AnyZ.take (i := 10) (oi := { dst := some 45, op := Op.load 5 (Operand.tmp 44), type := 5, pos := "ref.go:79", after := #[{ on := 9, ground := Ground.data }], guard := none }) (v := ?_) rfl (by kernel_rfl) (by kernel_rfl) (fun _ _ _ h => h) _ _ _ _ (by kernel_rfl) (by kernel_rfl) (by kernel_rfl) (Or.inl ⟨by rfl, ?_⟩) hHeld ?_
        rotate_left
        · intro W_ hSw_
          obtain ⟨q, rfl⟩ := hSw_
          first | (go_simp; done) | (go_simp; with_reducible rfl)
        rotate_left
        try simp only [Act.put, List.setIfInBounds_toArray, List.set_cons_zero, List.set_cons_succ]
        refine AnyZ.step (i := 2) (o := { dst := some 37, op := Op.call { callee := Callee.value (Operand.func 37), args := #[Operand.tmp 36], argTypes := #[5] }, type := 5, pos := "ref.go:79", after := #[{ on := 1, ground := Ground.data }], guard := none }) (by kernel_rfl) rfl (fun K hK => ?_)
        go_simp
        refine (less_any _ _ (Row.u8 _ rfl)).mono ?_
        rintro _ X1 ⟨rfl, bb⟩
        have E1 : Hid (Below T.heap.size T X1) := below_over E0.out bb
        clear bb hHeld
        refine hK.out _ _ ⟨⟨_, E1.out⟩, rfl⟩ (fun hHeld => ?_)
        clear hK K
        try simp only [Act.put, List.setIfInBounds_toArray, List.set_cons_zero, List.set_cons_succ]
        refine AnyZ.takeT (i := 12) (oi := { dst := some 47, op := Op.fieldAddr 53 (Operand.tmp 4) 42, type := 0, pos := "ref.go:79", after := #[{ on := 0, ground := Ground.phase }, { on := 1, ground := Ground.phase }, { on := 2, ground := Ground.phase }, { on := 3, ground := Ground.phase }, { on := 4, ground := Ground.phase }, { on := 5, ground := Ground.textOnly Departure.lateStoresUnsure }, { on := 6, ground := Ground.phase }, { on := 7, ground := Ground.phase }, { on := 8, ground := Ground.textOnly Departure.lateStoresUnsure }, { on := 9, ground := Ground.phase }, { on := 10, ground := Ground.phase }, { on := 11, ground := Ground.textOnly Departure.lateStoresUnsure }], guard := none }) (v := ?_) rfl (by kernel_rfl) (by decide) (fun _ _ _ h => h) _ _ _ _ (by kernel_rfl) (by kernel_rfl) (Or.inl ⟨by rfl, ?_⟩) (fun e => by first | exact hHeld | exact absurd e (by decide)) ?_
        rotate_left
        · intro W_ _
          first | (go_simp; done) | (go_simp; with_reducible rfl)
        rotate_left
        try simp only [Act.put, List.setIfInBounds_toArray, List.set_cons_zero, List.set_cons_succ]
        refine AnyZ.step (i := 5) (o := { dst := some 40, op := Op.call { callee := Callee.value (Operand.func 37), args := #[Operand.tmp 39], argTypes := #[5] }, type := 5, pos := "ref.go:79", after := #[{ on := 4, ground := Ground.data }, { on := 2, ground := Ground.chain }], guard := none }) (by kernel_rfl) rfl (fun K hK => ?_)
        go_simp
        refine (less_any _ _ (Row.u8 _ rfl)).mono ?_
        rintro _ X2 ⟨rfl, bb⟩
        have E2 : Hid (Below T.heap.size T X2) := below_over E1.out bb
        clear bb hHeld
        refine hK.out _ _ ⟨⟨_, E2.out⟩, rfl⟩ (fun hHeld => ?_)
        clear hK K
        try simp only [Act.put, List.setIfInBounds_toArray, List.set_cons_zero, List.set_cons_succ]
        refine AnyZ.step (i := 8) (o := { dst := some 43, op := Op.call { callee := Callee.value (Operand.func 37), args := #[Operand.tmp 42], argTypes := #[5] }, type := 5, pos := "ref.go:79", after := #[{ on := 7, ground := Ground.data }, { on := 5, ground := Ground.chain }], guard := none }) (by kernel_rfl) rfl (fun K hK => ?_)
        go_simp
        refine (less_any _ _ (Row.u8 _ rfl)).mono ?_
        rintro _ X3 ⟨rfl, bb⟩
        have E3 : Hid (Below T.heap.size T X3) := below_over E2.out bb
        clear bb hHeld
        refine hK.out _ _ ⟨⟨_, E3.out⟩, rfl⟩ (fun hHeld => ?_)
        clear hK K
        try simp only [Act.put, List.setIfInBounds_toArray, List.set_cons_zero, List.set_cons_succ]
        refine AnyZ.step (i := 11) (o := { dst := some 46, op := Op.call { callee := Callee.value (Operand.func 37), args := #[Operand.tmp 45], argTypes := #[5] }, type := 5, pos := "ref.go:79", after := #[{ on := 10, ground := Ground.data }, { on := 8, ground := Ground.chain }], guard := none }) (by kernel_rfl) rfl (fun K hK => ?_)
        go_simp
        refine (less_any _ _ (Row.u8 _ rfl)).mono ?_
        rintro _ X4 ⟨rfl, bb⟩
        have E4 : Hid (Below T.heap.size T X4) := below_over E3.out bb
        clear bb hHeld
        refine hK.out _ _ ⟨⟨_, E4.out⟩, rfl⟩ (fun hHeld => ?_)
        clear hK K
        try simp only [Act.put, List.setIfInBounds_toArray, List.set_cons_zero, List.set_cons_succ]
        clear hHeld
        have e0 := R2.out.1.below E4.out
        obtain ⟨Z0, s0, e1, g0⟩ := e0.pU (j := 69) (n := dec1 (p2.nm 69)) rfl (dec1_in (Row.u8 _ rfl))
        obtain ⟨Z1, s1, e2, g1⟩ := e1.pU (j := 70) (n := dec1 (p2.nm 70)) rfl (dec1_in (Row.u8 _ rfl))
        obtain ⟨Z2, s2, e3, g2⟩ := e2.pU (j := 71) (n := dec1 (p2.nm 71)) rfl (dec1_in (Row.u8 _ rfl))
        obtain ⟨Z3, s3, e4, g3⟩ := e3.pU (j := 64) (n := dec1 (p2.nm 64)) rfl (dec1_in (Row.u8 _ rfl))
        have ZF : Hid (RvAt Z3 bb0 53 (tk (tk (tk (tk p2 69) 70) 71) 64).cs ∧ W3.grownBy Z3 (some g) ∧ PAt Z3 g cc (mapTo tickP l i)) := R2.out.2 E4.out g0 g1 g2 g3 e4
        clear e0 e1 e2 e3 e4 g0 g1 g2 g3
        refine AnyZ.stepF (i := 13) (o := { dst := none, op := Op.store 5 (Operand.tmp 47) (Operand.tmp 37), type := 0, pos := "ref.go:79", after := #[{ on := 12, ground := Ground.data }, { on := 2, ground := Ground.data }, { on := 11, ground := Ground.chain }, { on := 0, ground := Ground.phase }, { on := 1, ground := Ground.phase }, { on := 2, ground := Ground.phase }, { on := 3, ground := Ground.phase }, { on := 4, ground := Ground.phase }, { on := 5, ground := Ground.textOnly Departure.lateStoresUnsure }, { on := 6, ground := Ground.phase }, { on := 7, ground := Ground.phase }, { on := 8, ground := Ground.textOnly Departure.lateStoresUnsure }, { on := 9, ground := Ground.phase }, { on := 10, ground := Ground.phase }, { on := 11, ground := Ground.textOnly Departure.lateStoresUnsure }], guard := none }) (by kernel_rfl) rfl (by kernel_rfl) (fun K hK => ?_)
        go_simp
        refine hK.out _ _ ?_
        clear hK K
        try simp only [Act.put, List.setIfInBounds_toArray, List.set_cons_zero, List.set_cons_succ]
        refine AnyZ.takeT (i := 14) (oi := { dst := some 48, op := Op.fieldAddr 53 (Operand.tmp 4) 43, type := 0, pos := "ref.go:79", after := #[{ on := 0, ground := Ground.phase }, { on := 1, ground := Ground.phase }, { on := 2, ground := Ground.phase }, { on := 3, ground := Ground.phase }, { on := 4, ground := Ground.phase }, { on := 5, ground := Ground.phase }, { on := 6, ground := Ground.phase }, { on := 7, ground := Ground.phase }, { on := 8, ground := Ground.textOnly Departure.lateStoresUnsure }, { on := 9, ground := Ground.phase }, { on := 10, ground := Ground.phase }, { on := 11, ground := Ground.textOnly Departure.lateStoresUnsure }, { on := 12, ground := Ground.phase }, { on := 13, ground := Ground.phase }], guard := none }) (v := ?_) rfl (by kernel_rfl) (by decide) (fun _ _ _ h => h) _ _ _ _ (by kernel_rfl) (by kernel_rfl) (Or.inl ⟨by rfl, ?_⟩) (fun e => by first | exact hHeld | exact absurd e (by decide)) ?_
        rotate_left
        · intro W_ _
          first | (go_simp; done) | (go_simp; with_reducible rfl)
        rotate_left
        try simp only [Act.put, List.setIfInBounds_toArray, List.set_cons_zero, List.set_cons_succ]
        refine AnyZ.stepF (i := 15) (o := { dst := none, op := Op.store 5 (Operand.tmp 48) (Operand.tmp 40), type := 0, pos := "ref.go:79", after := #[{ on := 14, ground := Ground.data }, { on := 5, ground := Ground.data }, { on := 13, ground := Ground.chain }, { on := 0, ground := Ground.phase }, { on := 1, ground := Ground.phase }, { on := 2, ground := Ground.phase }, { on := 3, ground := Ground.phase }, { on := 4, ground := Ground.phase }, { on := 5, ground := Ground.phase }, { on := 6, ground := Ground.phase }, { on := 7, ground := Ground.phase }, { on := 8, ground := Ground.textOnly Departure.lateStoresUnsure }, { on := 9, ground := Ground.phase }, { on := 10, ground := Ground.phase }, { on := 11, ground := Ground.textOnly Departure.lateStoresUnsure }, { on := 12, ground := Ground.phase }, { on := 13, ground := Ground.phase }], guard := none }) (by kernel_rfl) rfl (by kernel_rfl) (fun K hK => ?_)
        go_simp
        refine hK.out _ _ ?_
        clear hK K
        try simp only [Act.put, List.setIfInBounds_toArray, List.set_cons_zero, List.set_cons_succ]
        refine AnyZ.takeT (i := 16) (oi := { dst := some 49, op := Op.fieldAddr 53 (Operand.tmp 4) 44, type := 0, pos := "ref.go:79", after := #[{ on := 0, ground := Ground.phase }, { on := 1, ground := Ground.phase }, { on := 2, ground := Ground.phase }, { on := 3, ground := Ground.phase }, { on := 4, ground := Ground.phase }, { on := 5, ground := Ground.phase }, { on := 6, ground := Ground.phase }, { on := 7, ground := Ground.phase }, { on := 8, ground := Ground.phase }, { on := 9, ground := Ground.phase }, { on := 10, ground := Ground.phase }, { on := 11, ground := Ground.textOnly Departure.lateStoresUnsure }, { on := 12, ground := Ground.phase }, { on := 13, ground := Ground.phase }, { on := 14, ground := Ground.phase }, { on := 15, ground := Ground.phase }], guard := none }) (v := ?_) rfl (by kernel_rfl) (by decide) (fun _ _ _ h => h) _ _ _ _ (by kernel_rfl) (by kernel_rfl) (Or.inl ⟨by rfl, ?_⟩) (fun e => by first | exact hHeld | exact absurd e (by decide)) ?_
        rotate_left
        · intro W_ _
          first | (go_simp; done) | (go_simp; with_reducible rfl)
        rotate_left
        try simp only [Act.put, List.setIfInBounds_toArray, List.set_cons_zero, List.set_cons_succ]
        refine AnyZ.stepF (i := 17) (o := { dst := none, op := Op.store 5 (Operand.tmp 49) (Operand.tmp 43), type := 0, pos := "ref.go:79", after := #[{ on := 16, ground := Ground.data }, { on := 8, ground := Ground.data }, { on := 15, ground := Ground.chain }, { on := 0, ground := Ground.phase }, { on := 1, ground := Ground.phase }, { on := 2, ground := Ground.phase }, { on := 3, ground := Ground.phase }, { on := 4, ground := Ground.phase }, { on := 5, ground := Ground.phase }, { on := 6, ground := Ground.phase }, { on := 7, ground := Ground.phase }, { on := 8, ground := Ground.phase }, { on := 9, ground := Ground.phase }, { on := 10, ground := Ground.phase }, { on := 11, ground := Ground.textOnly Departure.lateStoresUnsure }, { on := 12, ground := Ground.phase }, { on := 13, ground := Ground.phase }, { on := 14, ground := Ground.phase }, { on := 15, ground := Ground.phase }], guard := none }) (by kernel_rfl) rfl (by kernel_rfl) (fun K hK => ?_)
        go_simp
        refine hK.out _ _ ?_
        clear hK K
        try simp only [Act.put, List.setIfInBounds_toArray, List.set_cons_zero, List.set_cons_succ]
        refine AnyZ.takeT (i := 18) (oi := { dst := some 50, op := Op.fieldAddr 53 (Operand.tmp 4) 37, type := 0, pos := "ref.go:79", after := #[{ on := 0, ground := Ground.phase }, { on := 1, ground := Ground.phase }, { on := 2, ground := Ground.phase }, { on := 3, ground := Ground.phase }, { on := 4, ground := Ground.phase }, { on := 5, ground := Ground.phase }, { on := 6, ground := Ground.phase }, { on := 7, ground := Ground.phase }, { on := 8, ground := Ground.phase }, { on := 9, ground := Ground.phase }, { on := 10, ground := Ground.phase }, { on := 11, ground := Ground.phase }, { on := 12, ground := Ground.phase }, { on := 13, ground := Ground.phase }, { on := 14, ground := Ground.phase }, { on := 15, ground := Ground.phase }, { on := 16, ground := Ground.phase }, { on := 17, ground := Ground.phase }], guard := none }) (v := ?_) rfl (by kernel_rfl) (by decide) (fun _ _ _ h => h) _ _ _ _ (by kernel_rfl) (by kernel_rfl) (Or.inl ⟨by rfl, ?_⟩) (fun e => by first | exact hHeld | exact absurd e (by decide)) ?_
        rotate_left
        · intro W_ _
          first | (go_simp; done) | (go_simp; with_reducible rfl)
        rotate_left
        try simp only [Act.put, List.setIfInBounds_toArray, List.set_cons_zero, List.set_cons_succ]
        refine AnyZ.stepF (i := 19) (o := { dst := none, op := Op.store 5 (Operand.tmp 50) (Operand.tmp 46), type := 0, pos := "ref.go:79", after := #[{ on := 18, ground := Ground.data }, { on := 11, ground := Ground.data }, { on := 17, ground := Ground.chain }, { on := 0, ground := Ground.phase }, { on := 1, ground := Ground.phase }, { on := 2, ground := Ground.phase }, { on := 3, ground := Ground.phase }, { on := 4, ground := Ground.phase }, { on := 5, ground := Ground.phase }, { on := 6, ground := Ground.phase }, { on := 7, ground := Ground.phase }, { on := 8, ground := Ground.phase }, { on := 9, ground := Ground.phase }, { on := 10, ground := Ground.phase }, { on := 11, ground := Ground.phase }, { on := 12, ground := Ground.phase }, { on := 13, ground := Ground.phase }, { on := 14, ground := Ground.phase }, { on := 15, ground := Ground.phase }, { on := 16, ground := Ground.phase }, { on := 17, ground := Ground.phase }], guard := none }) (by kernel_rfl) rfl (by kernel_rfl) (fun K hK => ?_)
        go_simp
        refine hK.out _ _ ?_
        clear hK K
        try simp only [Act.put, List.setIfInBounds_toArray, List.set_cons_zero, List.set_cons_succ]
        refine AnyZ.done (by kernel_rfl) ?_ _
        refine NoPanic.normal ?_
        clear s0 s1 s2 s3
        clear q69 q70 q71 q64
        have pe : tk (tk (tk (tk p2 69) 70) 71) 64 = tickP (gtP l i) := by rw [← HP2.out, HP.out]; rfl
        rw [pe] at ZF
        obtain ⟨T2, hT2⟩ : ∃ T2, Z3 = T2 := ⟨_, rfl⟩
        rw [hT2] at ZF ⊢
        clear hT2 pe
        have hr2 := G.out.1.keptBut ZF.out.2.1 (by have := G.out.2.2.2.2; simp; omega)
        have c16 := hr2.t16
        rw [← GX.out] at c16
        have lq := ZF.out.1.pld
        obtain ⟨U, sU, pU, gU⟩ := ZF.out.2.2.stp (i := i) (p := tickP (gtP l i)) (by rw [mapTo_len]; exact hil) rfl
        rw [mapTo_next hil] at pU
        have J : Hid (PAt U g cc (mapTo tickP l (i + 1)) ∧ W3.grownBy U (some g)) := ⟨pU, grown_self ZF.out.2.1 gU⟩
        clear hr2 pU gU
        go_wp2
        go_roundw
        case rel => exact ⟨i + 1, by omega, by go_num, J.out.1, J.out.2⟩
        case measure => simp [intOf]; omega
      · have hin : i = X := by omega
        subst hin
        have hin1 : ¬ (i : Int) < (i : Int) := by omega
        have l3 := hr.tld
        have q3 := G.out.2.1.keptBut hgi (by have := G.out.2.2.2.2; simp; omega)
        obtain ⟨W4, s4, r4, g4⟩ := q3.tst (g := h) (y := .slice (some ⟨g, 0, none⟩) l.length cc) rfl
        have pe := hpi.keptBut g4 (by have := G.out.2.2.2.2; simp; omega)
        rw [GX.out, mapTo_all] at pe
        have be : Below w.heap.size w W4 := gro (gro G.out.2.2.1 hgi (by have := G.out.2.2.2.2; omega) G.out.2.2.1.size) g4 (by omega) (by have := G.out.2.2.1.size; have := hgi.size; omega)
        have K : Hid (RvAt W4 (w.heap.size + 1) 31 (trc h (.slice (some ⟨g, 0, none⟩) l.length cc)) ∧ PAt W4 g cc (l.map tickP) ∧ Below w.heap.size w W4) := ⟨r4, pe, be⟩
        clear hpi hgi hr q3 r4 g4 pe be
        go_wp2
        refine bodyPost_ret (results_row rtT Try.results21 _ _ _ _ rfl K.out.1 (trc_size _ _)) rfl ?_
        refine ⟨_, rfl, ?_, K.out.2.2⟩
        have := K.out.2.1.own (B := w.heap.size) (by have := G.out.2.2.2.2; omega)
        rw [List.length_map] at this
        exact this
end Go.Proofs.Ytllmadgonobdnaa
