/-
  A tree as it begins: New, and the definition's: their walks, for all settings.
-/
import Derived.Test.YtllmadgonobdnaaMk
import Derived.Test.YtllmadgonobdnaaRCfg
namespace Go.Proofs.Ytllmadgonobdnaa
set_option linter.unusedVariables false
set_option maxRecDepth 4000
set_option linter.unusedSimpArgs false
open Go.RowKit

theorem results_rowtmp {fn : Func} {k n t : Nat} {ty : TypeId} (T : RowTy ty n) (hr : fn.results = #[.cell k ty, .tmp t]) (tmps : Array Value) (w : World) (b : Nat) (cs : Array Value) (h2 : tmps.getD k undef = .pointer (some ⟨b, 0, none⟩)) (h : RvAt w b ty cs) (hn : cs.size = n) :
    (results fn tmps).run Try.prog w = .ok (.tuple #[.agg cs, tmps.getD t undef]) w := by
  have hl := h.lv T hn
  have h2' : tmps[k]?.getD undef = .pointer (some ⟨b, 0, none⟩) := by simpa using h2
  simp [results, hr, asAddr, hl, h2']
/-- A world that is as W was, but for one row of its own. -/
structure LaterR (W : World) (row : Option Nat) where
  val : World
  grown : W.grownBy val row
def hdN (b : Bool) (c : Cf) : Hd := match b with | true => newH c | false => zeroH
def psN (b : Bool) (l : List Int) : List Pt := match b with | true => newPs l | false => []
theorem two_ct (w : World) (c : Cf) (x : Value) : ∃ W, (w.alloc (.cells (cfc c x) 70)).alloc (.cells #[.int .u64 0, .int .u8 0, .int .u8 0, .int .u8 0, .int .u8 0, .int .u8 0, .bool false, .int .u16 0, .int .u64 0, .int .u32 0, .int .u64 0, .int .u16 0, .int .u8 0, .int .u8 0, .int .u8 0, .int .u8 0, .slice none 0 0] 31) = W ∧ RvAt W w.heap.size 70 (cfc c x) ∧ RvAt W (w.heap.size + 1) 31 (trc zeroH (.slice none 0 0)) ∧ Below w.heap.size w W ∧ W.heap.size = w.heap.size + 2 := by
  obtain ⟨A, hA⟩ : ∃ A, w.alloc (.cells (cfc c x) 70) = A := ⟨_, rfl⟩
  have bA : Below w.heap.size w A := by rw [← hA]; exact (Below.refl _ _).alloc (Nat.le_refl _) _
  have rA : RvAt A w.heap.size 70 (cfc c x) := by rw [← hA]; exact RvAt.new w _ _
  have zA : A.heap.size = w.heap.size + 1 := by rw [← hA]; simp
  rw [hA]
  have bB : Below A.heap.size A (A.alloc (.cells zeroT 31)) := (Below.refl _ _).alloc (Nat.le_refl _) _
  refine ⟨_, rfl, rA.below bB, ?_, below_over bA bB, by simp [zA]⟩
  rw [← zA, ← zeroT_is]
  exact RvAt.new A _ _
/-- A tree's variable, made and stored. -/
theorem new_t (W : World) (h : Hd) : ∃ W', (stS 31 (.pointer (some ⟨W.heap.size, 0, none⟩)) (.agg (trc h (.slice none 0 0)))).run Try.prog (W.alloc (.cells #[.int .u64 0, .int .u8 0, .int .u8 0, .int .u8 0, .int .u8 0, .int .u8 0, .bool false, .int .u16 0, .int .u64 0, .int .u32 0, .int .u64 0, .int .u16 0, .int .u8 0, .int .u8 0, .int .u8 0, .int .u8 0, .slice none 0 0] 31)) = .ok () W' ∧ RvAt W' W.heap.size 31 (trc h (.slice none 0 0)) ∧ Below W.heap.size W W' ∧ W'.heap.size = W.heap.size + 1 :=
  row_new rtT W zeroT _ rfl (trc_size _ _) (trc_one rfl)
attribute [local go_sem ↓] ldP stP ldT stT apE st32 ldC stC ldTm bd55 bd34 bs32
theorem wf16 {n : Int} (h : 0 ≤ n ∧ n ≤ 65535) : (Lit.int .u16 n).wf = true := by simp [Lit.wf, IntKind.min, IntKind.max, IntKind.signed, IntKind.bits]; omega
/-- The state of the loop: the tree's variable, its ports so far. -/
structure NSt (w U : World) (q b : Nat) (h : Hd) (v : Value) (ls : List Pt) : Prop where
  var : RvAt U q 31 (trc h v)
  own : Own U b v ls
  bel : Below w.heap.size w U
  lt : q < b
theorem NSt.app {w U : World} {q b : Nat} {h : Hd} {v : Value} {ls : List Pt} (s : NSt w U q b h v ls) (hw : w.heap.size ≤ q) (hb : b ≤ U.heap.size) (hl : ls.length ≤ 1000) (p : Pt) :
    ∃ v' X Y, (apS 29 #[v, .slice (some ⟨U.heap.size, 0, none⟩) 1 1]).run Try.prog (U.alloc (.cells p.cs 53)) = .ok v' X ∧ (stS 29 (.pointer (some ⟨q, 16, none⟩)) v').run Try.prog X = .ok () Y ∧ NSt w Y q b h v' (ls ++ [p]) ∧ b ≤ Y.heap.size ∧ U.grownBy X v.ownBlock ∧ (∀ z, z < q → Y.heap[z]? = U.heap[z]?) := by
  obtain ⟨A, hA⟩ : ∃ A, U.alloc (.cells p.cs 53) = A := ⟨_, rfl⟩
  have bA : Below U.heap.size U A := by rw [← hA]; exact (Below.refl _ _).alloc (Nat.le_refl _) _
  have sA : SlAt A (some ⟨U.heap.size, 0, none⟩) 1 1 [p] := by rw [← hA]; exact one_new U p
  have zA : b ≤ A.heap.size := Nat.le_trans hb bA.size
  obtain ⟨v', X, ap, o2, g2⟩ := (s.own.below bA).app sA (by simp; omega) zA 29
  have ob : ∀ j, v.ownBlock = some j → b ≤ j := fun j e => by
    rcases s.own.pat with ⟨rfl, _⟩ | ⟨g, cc, rfl, hg, _⟩
    · cases e
    · cases e; exact hg
  have rX := (s.var.below bA).keptBut g2 (fun e => by have := ob _ e.symm; have := s.lt; omega)
  obtain ⟨Y, sY, rY, gY⟩ := rX.tset o2.one
  have oY := o2.keptBut gY (o2.apart s.lt)
  have b1 : Below w.heap.size w X := (below_over s.bel bA).trans (below_of_grown g2 (by have := (below_over s.bel bA).size; omega) (fun j e => by have := ob j e; have := s.lt; omega))
  refine ⟨v', X, Y, by rw [hA]; exact ap, sY, ⟨rY, oY, gro b1 gY hw b1.size, s.lt⟩, by have := g2.size; have := gY.size; omega, ?_, fun z hz => ?_⟩
  rotate_left
  · have hq := (s.var).lt
    rw [gY.block z (by have := g2.size; have := bA.size; omega) (by simp; omega), g2.block z (by have := bA.size; omega) (fun e => by have := ob z e.symm; have := s.lt; omega), bA.block z (by omega)]
  exact ⟨g2.os.trans bA.os, g2.tape.trans bA.tape, g2.output.trans bA.output, Nat.le_trans bA.size g2.size, fun i hi hne => (g2.block i (Nat.lt_of_lt_of_le hi bA.size) hne).trans (bA.block i hi)⟩
theorem NSt.below {w U V : World} {q b : Nat} {h : Hd} {v : Value} {ls : List Pt} (s : NSt w U q b h v ls) (hb : Below U.heap.size U V) : NSt w V q b h v ls := ⟨s.var.below hb, s.own.below hb, below_over s.bel hb, s.lt⟩
theorem grown_then {W A B : World} {row : Option Nat} (h : W.grownBy A row) (k : Below A.heap.size A B) : W.grownBy B row :=
  ⟨k.os.trans h.os, k.tape.trans h.tape, k.output.trans h.output, Nat.le_trans h.size k.size, fun i hi hne => (k.block i (Nat.lt_of_lt_of_le hi h.size)).trans (h.block i hi hne)⟩
theorem then_grown {W A B : World} {row : Option Nat} (h : Below W.heap.size W A) (k : A.grownBy B row) : W.grownBy B row :=
  ⟨k.os.trans h.os, k.tape.trans h.tape, k.output.trans h.output, Nat.le_trans h.size k.size, fun i hi hne => (k.block i (Nat.lt_of_lt_of_le hi h.size) hne).trans (h.block i hi)⟩
theorem own_above {U : World} {b : Nat} {v : Value} {ls : List Pt} (o : Own U b v ls) {z : Nat} (hz : z < b) : some z ≠ v.ownBlock := by
  rcases o.apart hz with e | e
  · rw [e]; simp
  · exact fun h => e h.symm
set_option maxHeartbeats 8000000 in
theorem rnew_any (c : Cf) (a : Option Addr) (n k : Nat) (l : List Int) (w : World) (hs : CsAt w a n k l) (hn : n ≤ 1000) :
    Calls Try.prog 33 #[.agg (cfc c (.slice a n k))] w fun r w' => ∃ v, r = .returned (.tuple #[.agg (trc (hdN (okC c l) c) v), .int .i64 (erC (okC c l))]) ∧ Own w' w.heap.size v (psN (okC c l) l) ∧ Below w.heap.size w w' := by
  obtain ⟨W, hW, r0, r1, bW, zW⟩ := two_ct w c (.slice a n k)
  have H : Hid (CsAt W a n k l ∧ n ≤ 1000 ∧ l.length = n ∧ RvAt W w.heap.size 70 (cfc c (.slice a n k)) ∧ RvAt W (w.heap.size + 1) 31 (trc zeroH (.slice none 0 0)) ∧ Below w.heap.size w W ∧ W.heap.size = w.heap.size + 2) := ⟨hs.below bW, hn, hs.len, r0, r1, bW, zW⟩
  have hnn : (n : Int) ≤ 1000 := by omega
  have l0 := r0.cld
  clear hs hn r0 r1 bW zW
  go_enter Try.func33, Try.ntmps33
  go_wp2_with fail
  refine (isconf_any c a n k l W H.out.1 H.out.2.1).mono ?_
  rintro _ W1 ⟨rfl, b1⟩
  have B1 : Hid (Below W.heap.size W W1) := b1
  clear b1 l0
  obtain ⟨ok, hok⟩ : ∃ z, okC c l = z := ⟨_, rfl⟩
  rw [hok]
  have OK : Hid (okC c l = ok) := hok
  clear hok
  cases ok
  · have q1 := H.out.2.2.2.2.1.below B1.out
    obtain ⟨W2, s2, r2, g2⟩ := q1.tst (g := zeroH) (y := .slice none 0 0) rfl
    have bn := bdT_no
    have F : Hid (RvAt W2 (w.heap.size + 1) 31 (trc zeroH (.slice none 0 0)) ∧ Below w.heap.size w W2) := ⟨r2, gro (below_over H.out.2.2.2.2.2.1 B1.out) g2 (by omega) (below_over H.out.2.2.2.2.2.1 B1.out).size⟩
    clear q1 r2 g2
    go_wp2
    refine bodyPost_ret (results_rowtmp rtT Try.results33 _ _ _ _ rfl F.out.1 (trc_size _ _)) rfl ?_
    exact ⟨.slice none 0 0, by rw [OK.out]; rfl, by rw [OK.out]; exact Own.nil _ _, F.out.2⟩
  · have q0 := H.out.2.2.2.1.below B1.out
    have ci := q0.cnum (j := 0) rfl
    have ct := q0.cT
    have ch := q0.cnum (j := 5) rfl
    have bt := bdT_is c
    obtain ⟨T, sT, rT, bT, zT⟩ := new_t W1 (newH c)
    obtain ⟨q, hq⟩ : ∃ q, W1.heap.size = q := ⟨_, rfl⟩
    rw [hq] at sT rT zT
    have z1 := H.out.2.2.2.2.2.2
    have z2 := B1.out.size
    have c6 := (q0.below bT).c6
    have G : Hid (NSt w T q (q + 1) (newH c) (.slice none 0 0) [] ∧ RvAt T w.heap.size 70 (cfc c (.slice a n k)) ∧ RvAt T (w.heap.size + 1) 31 (trc zeroH (.slice none 0 0)) ∧ CsAt T a n k l ∧ w.heap.size + 2 ≤ q ∧ T.heap.size = q + 1 ∧ Below w.heap.size w T) :=
      ⟨⟨rT, Own.nil _ _, below_over (below_over H.out.2.2.2.2.2.1 B1.out) bT, by omega⟩, q0.below bT, (H.out.2.2.2.2.1.below B1.out).below bT, (H.out.1.below B1.out).below bT, by omega, by omega, below_over (below_over H.out.2.2.2.2.2.1 B1.out) bT⟩
    clear q0 rT bT zT z1 z2
    go_wp2_with fail
    clear ci ct ch bt sT
    go_loopw [5] (fun v24 wr => ∃ i : Nat, i ≤ n ∧ v24 = .int .i64 i ∧ ∃ v, NSt w wr q (q + 1) (newH c) v (newPs (l.take i)) ∧ q + 1 ≤ wr.heap.size ∧ (∀ z, z < q → wr.heap[z]? = T.heap[z]?)) (fun v24 _ => n - (intOf v24).toNat)
    case atStart => exact ⟨0, by omega, rfl, _, G.out.1, by have := G.out.2.2.2.2.2.1; omega, fun _ _ => rfl⟩
    case round =>
      obtain ⟨i, hi, rfl, v, hS, hz, hk⟩ := hrel
      have hin0 : (0 : Int) ≤ (i : Int) := by omega
      have k6 : wr.cell? ⟨w.heap.size, 6, none⟩ = some (.slice a n k) := RvAt.c6 (c := c) ((hk _ (by have := G.out.2.2.2.2.1; omega)).trans G.out.2.1)
      have kc : RvAt wr w.heap.size 70 (cfc c (.slice a n k)) := (hk _ (by have := G.out.2.2.2.2.1; omega)).trans G.out.2.1
      have kr : RvAt wr (w.heap.size + 1) 31 (trc zeroH (.slice none 0 0)) := (hk _ (by have := G.out.2.2.2.2.1; omega)).trans G.out.2.2.1
      have J : Hid (NSt w wr q (q + 1) (newH c) v (newPs (l.take i)) ∧ q + 1 ≤ wr.heap.size ∧ RvAt wr (w.heap.size + 1) 31 (trc zeroH (.slice none 0 0)) ∧ RvAt wr w.heap.size 70 (cfc c (.slice a n k)) ∧ (∀ z, z < q → wr.heap[z]? = T.heap[z]?)) := ⟨hS, hz, kr, kc, hk⟩
      by_cases hit : i < n
      · have hin1 : (i : Int) < (n : Int) := by omega
        have hl : i < l.length := by rw [H.out.2.2.1]; exact hit
        obtain ⟨b, o, rfl⟩ := H.out.1.some' (by omega)
        obtain ⟨x, hx⟩ : ∃ x, l[i] = x := ⟨_, rfl⟩
        have hxw : (Lit.int .u32 x).wf = true := by rw [← hx]; exact H.out.1.bnd _ (List.getElem_mem _)
        have cx := G.out.2.2.2.1.cells b o rfl i x (by rw [List.getElem?_eq_getElem hl, hx])
        have cx2 := H.out.1.cells b o rfl i x (by rw [List.getElem?_eq_getElem hl, hx])
        have hbq : b < W.heap.size := World.block_lt_of_cell? W _ cx2
        have cw : wr.cell? ⟨b, o + i, none⟩ = some (.int .u32 x) := (World.cell?_of_block (hk b (by have := G.out.2.2.2.2.1; have := H.out.2.2.2.2.2.2; omega))).trans cx
        have hw1 : IntKind.u16.wrap (i : Int) = (i : Int) := IntWalk.u16_in _ (by omega)
        have hw2 : IntKind.u16.wrap (32769 + (i : Int)) = 32769 + (i : Int) := IntWalk.u16_in _ (by omega)
        have hw3 : IntKind.i64.wrap (32769 + (i : Int)) = 32769 + (i : Int) := IntWalk.i64_in _ (by omega)
        have bp := bdP_is (wf16 (n := 32769 + (i : Int)) (by omega)) hxw
        have bs := bsP_is (newP (32769 + (i : Int)) x)
        have t16 := hS.var.t16
        obtain ⟨Y0, hY0⟩ : ∃ Y0, World.drew wr = Y0 := ⟨_, rfl⟩
        have bD : Below wr.heap.size wr Y0 := by rw [← hY0]; exact (Below.refl _ _).drew
        have zD : Y0.heap.size = wr.heap.size := by rw [← hY0]; rfl
        obtain ⟨v', X, Y, ap, sY, nY, zY, gX, kY⟩ := (hS.below bD).app (by have := G.out.2.2.2.2.1; omega) (by rw [zD]; exact hz) (by rw [newPs_len, List.length_take]; have := H.out.2.1; have := H.out.2.2.1; omega) (newP (32769 + (i : Int)) x)
        have bY : ∀ z, z < q → Y.heap[z]? = T.heap[z]? := fun z hz' => ((kY z hz').trans (bD.block z (by omega))).trans (hk z hz')
        have N : Hid (NSt w Y q (q + 1) (newH c) v' (newPs (l.take (i + 1))) ∧ q + 1 ≤ Y.heap.size ∧ (∀ z, z < q → Y.heap[z]? = T.heap[z]?)) := ⟨by rw [newPs_next hl, hx]; exact nY, zY, bY⟩
        have GX : Hid (wr.grownBy X v.ownBlock) := then_grown bD gX
        have D0 : Hid (wr.grownBy Y0 v.ownBlock) := grown_then (World.grownBy.refl _ _) bD
        have f16 := fun qq : LaterR wr v.ownBlock => (hS.var.keptBut qq.grown (own_above hS.own (by omega))).t16
        have f6 := fun qq : LaterR wr v.ownBlock => (kc.keptBut qq.grown (own_above hS.own (by have := G.out.2.2.2.2.1; omega))).c6
        have fw := fun qq : LaterR wr v.ownBlock => qq.grown.cell cw (own_above hS.own (by have := G.out.2.2.2.2.1; have := H.out.2.2.2.2.2.2; show b < q + 1; omega))
        rw [zD] at ap
        clear hS hz hk kc kr hl hx cx cx2 hbq nY zY gX kY bY hxw bD t16 cw
        go_wp2_with fail
        refine wp_region_noPanic ?_
        refine AnyZ.start (z := 14) (S := fun w' => ∃ x : LaterR wr v.ownBlock, w' = x.val) (by kernel_rfl) ⟨⟨_, grown_then (World.grownBy.refl _ _) (Below.refl _ _).drew⟩, rfl⟩ (fun hHeld => ?_)
        rw [hY0] at hHeld ⊢
        clear hY0
        refine AnyZ.take (i := 0) (oi := { dst := some 24, op := Op.fieldAddr 31 (Operand.tmp 4) 7, type := 0, pos := "ref.go:35", after := #[], guard := none }) (v := ?_) rfl (by kernel_rfl) (by kernel_rfl) (fun _ _ _ h => h) _ _ _ _ (by kernel_rfl) (by kernel_rfl) (by kernel_rfl) (Or.inl ⟨by rfl, ?_⟩) hHeld ?_
        rotate_left
        · intro W_ hSw_
          obtain ⟨qq, rfl⟩ := hSw_
          first | (go_simp; done) | (go_simp; with_reducible rfl)
        rotate_left
        try simp only [Act.put, List.setIfInBounds_toArray, List.set_cons_zero, List.set_cons_succ]
        refine AnyZ.take (i := 1) (oi := { dst := some 25, op := Op.load 29 (Operand.tmp 24), type := 29, pos := "ref.go:35", after := #[{ on := 0, ground := Ground.data }], guard := none }) (v := ?_) rfl (by kernel_rfl) (by kernel_rfl) (fun _ _ _ h => h) _ _ _ _ (by kernel_rfl) (by kernel_rfl) (by kernel_rfl) (Or.inl ⟨by rfl, ?_⟩) hHeld ?_
        rotate_left
        · intro W_ hSw_
          obtain ⟨qq, rfl⟩ := hSw_
          first | (go_simp; done) | (go_simp; with_reducible rfl)
        rotate_left
        try simp only [Act.put, List.setIfInBounds_toArray, List.set_cons_zero, List.set_cons_succ]
        refine AnyZ.take (i := 2) (oi := { dst := some 26, op := Op.move (Operand.tmp 5), type := 3, pos := "ref.go:35", after := #[], guard := none }) (v := ?_) rfl (by kernel_rfl) (by kernel_rfl) (fun _ _ _ h => h) _ _ _ _ (by kernel_rfl) (by kernel_rfl) (by kernel_rfl) (Or.inl ⟨by rfl, ?_⟩) hHeld ?_
        rotate_left
        · intro W_ hSw_
          obtain ⟨qq, rfl⟩ := hSw_
          first | (go_simp; done) | (go_simp; with_reducible rfl)
        rotate_left
        try simp only [Act.put, List.setIfInBounds_toArray, List.set_cons_zero, List.set_cons_succ]
        refine AnyZ.take (i := 3) (oi := { dst := some 27, op := Op.binOp BinOp.add 3 (Operand.const (Value.int IntKind.i64 32769)) (Operand.tmp 26) 3, type := 3, pos := "ref.go:35", after := #[{ on := 2, ground := Ground.data }], guard := none }) (v := ?_) rfl (by kernel_rfl) (by kernel_rfl) (fun _ _ _ h => h) _ _ _ _ (by kernel_rfl) (by kernel_rfl) (by kernel_rfl) (Or.inl ⟨by rfl, ?_⟩) hHeld ?_
        rotate_left
        · intro W_ hSw_
          obtain ⟨qq, rfl⟩ := hSw_
          first | (go_simp; done) | (go_simp; with_reducible rfl)
        rotate_left
        try simp only [Act.put, List.setIfInBounds_toArray, List.set_cons_zero, List.set_cons_succ]
        refine AnyZ.take (i := 4) (oi := { dst := some 28, op := Op.convert 3 25 (Operand.tmp 27), type := 25, pos := "ref.go:35", after := #[{ on := 3, ground := Ground.data }], guard := none }) (v := ?_) rfl (by kernel_rfl) (by kernel_rfl) (fun _ _ _ h => h) _ _ _ _ (by kernel_rfl) (by kernel_rfl) (by kernel_rfl) (Or.inl ⟨by rfl, ?_⟩) hHeld ?_
        rotate_left
        · intro W_ hSw_
          obtain ⟨qq, rfl⟩ := hSw_
          first | (go_simp; done) | (go_simp; with_reducible rfl)
        rotate_left
        try simp only [Act.put, List.setIfInBounds_toArray, List.set_cons_zero, List.set_cons_succ]
        refine AnyZ.take (i := 5) (oi := { dst := some 29, op := Op.fieldAddr 70 (Operand.tmp 1) 3, type := 0, pos := "ref.go:35", after := #[], guard := none }) (v := ?_) rfl (by kernel_rfl) (by kernel_rfl) (fun _ _ _ h => h) _ _ _ _ (by kernel_rfl) (by kernel_rfl) (by kernel_rfl) (Or.inl ⟨by rfl, ?_⟩) hHeld ?_
        rotate_left
        · intro W_ hSw_
          obtain ⟨qq, rfl⟩ := hSw_
          first | (go_simp; done) | (go_simp; with_reducible rfl)
        rotate_left
        try simp only [Act.put, List.setIfInBounds_toArray, List.set_cons_zero, List.set_cons_succ]
        refine AnyZ.take (i := 6) (oi := { dst := some 30, op := Op.load 68 (Operand.tmp 29), type := 68, pos := "ref.go:35", after := #[{ on := 5, ground := Ground.data }], guard := none }) (v := ?_) rfl (by kernel_rfl) (by kernel_rfl) (fun _ _ _ h => h) _ _ _ _ (by kernel_rfl) (by kernel_rfl) (by kernel_rfl) (Or.inl ⟨by rfl, ?_⟩) hHeld ?_
        rotate_left
        · intro W_ hSw_
          obtain ⟨qq, rfl⟩ := hSw_
          first | (go_simp; done) | (go_simp; with_reducible rfl)
        rotate_left
        try simp only [Act.put, List.setIfInBounds_toArray, List.set_cons_zero, List.set_cons_succ]
        refine AnyZ.take (i := 7) (oi := { dst := some 31, op := Op.move (Operand.tmp 5), type := 3, pos := "ref.go:35", after := #[], guard := none }) (v := ?_) rfl (by kernel_rfl) (by kernel_rfl) (fun _ _ _ h => h) _ _ _ _ (by kernel_rfl) (by kernel_rfl) (by kernel_rfl) (Or.inl ⟨by rfl, ?_⟩) hHeld ?_
        rotate_left
        · intro W_ hSw_
          obtain ⟨qq, rfl⟩ := hSw_
          first | (go_simp; done) | (go_simp; with_reducible rfl)
        rotate_left
        try simp only [Act.put, List.setIfInBounds_toArray, List.set_cons_zero, List.set_cons_succ]
        refine AnyZ.take (i := 8) (oi := { dst := some 32, op := Op.indexAddr 68 (Operand.tmp 30) (Operand.tmp 31), type := 0, pos := "ref.go:35", after := #[{ on := 6, ground := Ground.data }, { on := 7, ground := Ground.data }], guard := none }) (v := ?_) rfl (by kernel_rfl) (by kernel_rfl) (fun _ _ _ h => h) _ _ _ _ (by kernel_rfl) (by kernel_rfl) (by kernel_rfl) (Or.inl ⟨by rfl, ?_⟩) hHeld ?_
        rotate_left
        · intro W_ hSw_
          obtain ⟨qq, rfl⟩ := hSw_
          first | (go_simp; done) | (go_simp; with_reducible rfl)
        rotate_left
        try simp only [Act.put, List.setIfInBounds_toArray, List.set_cons_zero, List.set_cons_succ]
        refine AnyZ.take (i := 9) (oi := { dst := some 33, op := Op.load 26 (Operand.tmp 32), type := 26, pos := "ref.go:35", after := #[{ on := 8, ground := Ground.data }], guard := none }) (v := ?_) rfl (by kernel_rfl) (by kernel_rfl) (fun _ _ _ h => h) _ _ _ _ (by kernel_rfl) (by kernel_rfl) (by kernel_rfl) (Or.inl ⟨by rfl, ?_⟩) hHeld ?_
        rotate_left
        · intro W_ hSw_
          obtain ⟨qq, rfl⟩ := hSw_
          first | (go_simp; done) | (go_simp; with_reducible rfl)
        rotate_left
        try simp only [Act.put, List.setIfInBounds_toArray, List.set_cons_zero, List.set_cons_succ]
        refine AnyZ.take (i := 10) (oi := { dst := some 34, op := Op.build 53 #[(0, Operand.tmp 28), (1, Operand.tmp 33)], type := 53, pos := "ref.go:35", after := #[{ on := 4, ground := Ground.data }, { on := 9, ground := Ground.data }], guard := none }) (v := ?_) rfl (by kernel_rfl) (by kernel_rfl) (fun _ _ _ h => h) _ _ _ _ (by kernel_rfl) (by kernel_rfl) (by kernel_rfl) (Or.inl ⟨by rfl, ?_⟩) hHeld ?_
        rotate_left
        · intro W_ hSw_
          obtain ⟨qq, rfl⟩ := hSw_
          first | (go_simp; done) | (go_simp; with_reducible rfl)
        rotate_left
        try simp only [Act.put, List.setIfInBounds_toArray, List.set_cons_zero, List.set_cons_succ]
        refine AnyZ.step (i := 11) (o := { dst := some 35, op := Op.buildSlice 29 1 #[(0, Operand.tmp 34)], type := 29, pos := "ref.go:35", after := #[{ on := 10, ground := Ground.data }], guard := none }) (by kernel_rfl) rfl (fun K hK => ?_)
        go_simp
        clear hHeld
        refine hK.out _ _ ⟨⟨_, grown_then D0.out ((Below.refl _ _).alloc (Nat.le_refl _) _)⟩, rfl⟩ (fun hHeld => ?_)
        clear hK K
        try simp only [Act.put, List.setIfInBounds_toArray, List.set_cons_zero, List.set_cons_succ]
        refine AnyZ.step (i := 12) (o := { dst := some 36, op := Op.call { callee := Callee.builtin Builtin.append, args := #[Operand.tmp 25, Operand.tmp 35], argTypes := #[29, 29] }, type := 29, pos := "ref.go:35", after := #[{ on := 1, ground := Ground.data }, { on := 11, ground := Ground.data }], guard := none }) (by kernel_rfl) rfl (fun K hK => ?_)
        go_simp
        clear hHeld
        refine hK.out _ _ ⟨⟨_, GX.out⟩, rfl⟩ (fun hHeld => ?_)
        clear hK K
        try simp only [Act.put, List.setIfInBounds_toArray, List.set_cons_zero, List.set_cons_succ]
        refine AnyZ.take (i := 13) (oi := { dst := some 37, op := Op.fieldAddr 31 (Operand.tmp 4) 7, type := 0, pos := "ref.go:35", after := #[{ on := 0, ground := Ground.phase }, { on := 1, ground := Ground.phase }, { on := 2, ground := Ground.phase }, { on := 3, ground := Ground.phase }, { on := 4, ground := Ground.phase }, { on := 5, ground := Ground.phase }, { on := 6, ground := Ground.phase }, { on := 7, ground := Ground.phase }, { on := 8, ground := Ground.phase }, { on := 9, ground := Ground.phase }, { on := 10, ground := Ground.phase }, { on := 11, ground := Ground.phase }, { on := 12, ground := Ground.phase }], guard := none }) (v := ?_) rfl (by kernel_rfl) (by kernel_rfl) (fun _ _ _ h => h) _ _ _ _ (by kernel_rfl) (by kernel_rfl) (by kernel_rfl) (Or.inl ⟨by rfl, ?_⟩) hHeld ?_
        rotate_left
        · intro W_ hSw_
          obtain ⟨qq, rfl⟩ := hSw_
          first | (go_simp; done) | (go_simp; with_reducible rfl)
        rotate_left
        try simp only [Act.put, List.setIfInBounds_toArray, List.set_cons_zero, List.set_cons_succ]
        refine AnyZ.stepF (i := 14) (o := { dst := none, op := Op.store 29 (Operand.tmp 37) (Operand.tmp 36), type := 0, pos := "ref.go:35", after := #[{ on := 13, ground := Ground.data }, { on := 12, ground := Ground.data }, { on := 12, ground := Ground.chain }, { on := 0, ground := Ground.phase }, { on := 1, ground := Ground.phase }, { on := 2, ground := Ground.phase }, { on := 3, ground := Ground.phase }, { on := 4, ground := Ground.phase }, { on := 5, ground := Ground.phase }, { on := 6, ground := Ground.phase }, { on := 7, ground := Ground.phase }, { on := 8, ground := Ground.phase }, { on := 9, ground := Ground.phase }, { on := 10, ground := Ground.phase }, { on := 11, ground := Ground.phase }, { on := 12, ground := Ground.phase }], guard := none }) (by kernel_rfl) rfl (by kernel_rfl) (fun K hK => ?_)
        go_simp
        refine hK.out _ _ ?_
        clear hK K
        try simp only [Act.put, List.setIfInBounds_toArray, List.set_cons_zero, List.set_cons_succ]
        refine AnyZ.done (by kernel_rfl) ?_ _
        refine NoPanic.normal ?_
        clear ap sY f16 f6 fw bp bs k6
        go_wp2
        go_roundw
        case rel => exact ⟨i + 1, by omega, by go_num, v', N.out.1, N.out.2.1, N.out.2.2⟩
        case measure => simp [intOf]; omega
      · have hin : i = n := by omega
        subst hin
        have hin1 : ¬ (i : Int) < (i : Int) := by omega
        have lt := hS.var.tld
        obtain ⟨Y, sY, rY, gY⟩ := kr.tst (g := newH c) (y := v) hS.own.one
        have oY := hS.own.keptBut gY (hS.own.apart (by have := G.out.2.2.2.2.1; omega))
        have bY := gro hS.bel gY (by omega) hS.bel.size
        rw [List.take_of_length_le (by rw [H.out.2.2.1]; omega)] at oY
        have F : Hid (RvAt Y (w.heap.size + 1) 31 (trc (newH c) v) ∧ Own Y w.heap.size v (newPs l) ∧ Below w.heap.size w Y) := ⟨rY, oY.base (by have := G.out.2.2.2.2.1; omega), bY⟩
        clear hS hz hk kc kr rY gY oY bY
        go_wp2
        refine bodyPost_ret (results_rowtmp rtT Try.results33 _ _ _ _ rfl F.out.1 (trc_size _ _)) rfl ?_
        exact ⟨v, by rw [OK.out]; rfl, by rw [OK.out]; exact F.out.2.1, F.out.2.2⟩
end Go.Proofs.Ytllmadgonobdnaa
