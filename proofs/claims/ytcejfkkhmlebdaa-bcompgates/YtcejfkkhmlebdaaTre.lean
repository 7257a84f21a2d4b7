/-
  Trees and their ports in memory; the gates of a tree: walks of Gates of the code and of the definition, each for every input.
-/
import Derived.Test.YtcejfkkhmlebdaaCut
namespace Go.Proofs.Ytcejfkkhmlebdaa
set_option linter.unusedVariables false
set_option maxRecDepth 4000
set_option linter.unusedSimpArgs false
open Go.RowKit

def kdT : List (Option IntKind) := [some .u8, some .u8, some .u8, some .u8]
def kdV : List (Option IntKind) := [some .u64, some .u32, some .u64, some .u16]
def kdM : List (Option IntKind) := [some .i64, none, none, none, none, none, none, some .i64] ++ kdV ++ kdT
/-- The kinds of a port's cells, and of a tree's, its ports aside. -/
def kdP : List (Option IntKind) := [some .u16, some .u32] ++ [none, none, none, none, none, none, none, none, none, none, none, none, none, none, none, none, none, none, none, none, none, none, none, none, none, none, none] ++ [some .i64, some .i64, some .i64] ++ kdV ++ kdV ++ kdT ++ kdT ++ kdM ++ kdT ++ kdT ++ [some .i64, some .i64, some .i64, some .i64, some .i64]
def kdH : List (Option IntKind) := [some .u64] ++ kdT ++ [some .u8, none, some .u16] ++ kdV ++ kdT
abbrev Pt := Row kdP
abbrev Hd := Row kdH
theorem lenP : kdP.length = 77 := by kernel_rfl
theorem lenH : kdH.length = 16 := by kernel_rfl
theorem infoT : (Try.prog.info? 31).map (·.size) = some 17 := by kernel_rfl
theorem rtT : RowTy 31 17 := ⟨infoT, _, Try.underlying31, rfl⟩
theorem infoQ : (Try.prog.info? 82).map (·.size) = some 77 := by kernel_rfl
theorem rtQ : RowTy 82 77 := ⟨infoQ, _, Try.underlying82, rfl⟩
theorem infoQs : (Try.prog.info? 29).map (·.size) = some 1 := by kernel_rfl
theorem ldT (x : Value) : Instr.loadAt 31 x = ldS 31 x := rfl
theorem ldQ (x : Value) : Instr.loadAt 82 x = ldS 82 x := rfl
theorem stQ (x y : Value) : Instr.storeAt 82 x y = stS 82 x y := rfl
theorem stQs (x y : Value) : Instr.storeAt 29 x y = stS 29 x y := rfl
def zeroV (k : Option IntKind) : Value := match k with | none => .bool false | some k => .int k 0
theorem fitz (k : Option IntKind) : Fit k (zeroV k) := by
  cases k with
  | none => exact ⟨_, rfl⟩
  | some k => exact ⟨0, rfl, by cases k <;> decide⟩
def zeroR (ks : List (Option IntKind)) : Row ks := ⟨ks.map zeroV, by
  refine ⟨by simp, fun j k v hk hv => ?_⟩
  rw [List.getElem?_map, hk] at hv
  cases hv
  exact fitz k⟩
def zeroP : Pt := zeroR kdP
theorem zeroPort (w : World) : (zeroValue 82).run Try.prog w = .ok (.agg zeroP.cs) w := by kernel_rfl
/-- Room for a port, sealed. -/
def alS (t : TypeId) : Sem Value := Instr.alloc t true (.tuple #[])
theorem alP : Instr.alloc 82 true (.tuple #[]) = alS 82 := rfl
theorem alP_run (w : World) : (alS 82).run Try.prog w = .ok (.pointer (some ⟨w.heap.size, 0, none⟩)) (w.alloc (.cells zeroP.cs 82)) := by
  unfold alS Instr.alloc
  rw [Sem.run_bind, zeroPort]
  rfl
theorem Pt.put (W : World) (p : Pt) : ∃ V, (stS 82 (.pointer (some ⟨W.heap.size, 0, none⟩)) (.agg p.cs)).run Try.prog (W.alloc (.cells zeroP.cs 82)) = .ok () V ∧ RvAt V W.heap.size 82 p.cs ∧ Below W.heap.size W V ∧ V.heap.size = W.heap.size + 1 :=
  row_new rtQ W zeroP.cs p.cs (by rw [Row.csize, lenP]) (by rw [Row.csize, lenP]) p.one'
theorem RvAt.pbit {W : World} {b j : Nat} {p : Pt} (hb : RvAt W b 82 p.cs) (hk : kdP[j]? = some none) : W.cell? ⟨b, j, none⟩ = some (.bool (p.bt j)) := hb.cell j _ (by rw [Row.cget]; exact p.bit hk)
def eQ : El Pt := ⟨Row.cs, 82, 29, 77, 248⟩
theorem kQ : eQ.Ok := ⟨fun p => by show (Row.cs p).size = 77; rw [Row.csize, lenP], by decide, fun p => p.one', Try.underlying29, ⟨.agg zeroP.cs, by kernel_rfl, by show zeroP.cs.size = 77; rw [Row.csize, lenP]⟩, by decide⟩
theorem lQ {W : World} {b o n c i : Nat} {l : List Pt} {x : Pt} (h : SlAt eQ W (some ⟨b, o, none⟩) n c l) (hx : l[i]? = some x) : (ldS 82 (.pointer (some ⟨b, o + i * 77, none⟩))).run Try.prog W = .ok (.agg x.cs) W := h.ld kQ hx Try.underlying82 rfl rfl
theorem lQb {W : World} {b o n c i : Nat} {l : List Pt} {x : Pt} (h : SlAt eQ W (some ⟨b, o, none⟩) n c l) (hx : l[i]? = some x) {j : Nat} (hk : kdP[j]? = some none) : W.cell? ⟨b, o + i * 77 + j, none⟩ = some (.bool (x.bt j)) := h.cell kQ (j := j) hx (by show (Row.cs x)[j]? = _; rw [Row.cget]; exact x.bit hk) (by show o + i * 77 + j = o + (i * 77 + j); omega)
/-! ### trees -/
/-- A tree's cells: its head's and the slice of its ports. -/
def trc (h : Hd) (x : Value) : Array Value := (h.cl ++ [x]).toArray
theorem trc_size (h : Hd) (x : Value) : (trc h x).size = 17 := by simp [trc, h.len, lenH]
theorem trc_16 (h : Hd) (x : Value) : (trc h x)[16]? = some x := by
  have := h.len
  rw [lenH] at this
  simp only [trc, List.getElem?_toArray]
  rw [List.getElem?_append_right (by omega), this]
  rfl
theorem trc_set (h : Hd) (x y : Value) : ((trc h x).toList.set 16 y).toArray = trc h y := by
  have := h.len
  rw [lenH] at this
  simp only [trc]
  rw [List.set_append_right _ _ (by omega), this]
  rfl
def TrAt (W : World) (b : Nat) (h : Hd) (x : Value) : Prop := RvAt W b 31 (trc h x)
theorem TrAt.below {W W' : World} {b : Nat} {h : Hd} {x : Value} (t : TrAt W b h x) (hb : Below W.heap.size W W') : TrAt W' b h x := RvAt.below t hb
theorem TrAt.ld {W : World} {b : Nat} {h : Hd} {x : Value} (t : TrAt W b h x) : (ldS 31 (.pointer (some ⟨b, 0, none⟩))).run Try.prog W = .ok (.agg (trc h x)) W := RvAt.ld rtT t (trc_size h x)
theorem TrAt.p {W : World} {b : Nat} {h : Hd} {x : Value} (t : TrAt W b h x) : W.cell? ⟨b, 16, none⟩ = some x := RvAt.cell t 16 _ (trc_16 h x)
theorem TrAt.new (W : World) (h : Hd) (x : Value) : ∃ V, W.alloc (.cells (trc h x) 31) = V ∧ TrAt V W.heap.size h x ∧ Below W.heap.size W V ∧ V.heap.size = W.heap.size + 1 := ⟨_, rfl, RvAt.new W _ _, (Below.refl _ _).alloc (Nat.le_refl _) _, by simp⟩
theorem TrAt.stP {W : World} {b : Nat} {h : Hd} {x : Value} (t : TrAt W b h x) (y : Value) (hy : y.oneCell' = true) : ∃ V, (stS 29 (.pointer (some ⟨b, 16, none⟩)) y).run Try.prog W = .ok () V ∧ TrAt V b h y ∧ W.grownBy V (some b) := by
  refine ⟨_, RvAt.st1 t infoQs (by rw [trc_size]; omega) hy, ?_, grown_row _ _ _⟩
  rw [trc_set]
  exact RvAt.set t
/-! ### gates -/
def gtP (p : Pt) : Gt := ⟨p.bt 10, p.bt 8⟩
def gatL (l : List Pt) : List Gt := l.map gtP
theorem gat_at {l : List Pt} {i : Nat} {p : Pt} (h : l[i]? = some p) : (gatL l)[i]? = some (gtP p) := by
  unfold gatL
  rw [List.getElem?_map, h]
  rfl
theorem gat_len (l : List Pt) : (gatL l).length = l.length := by simp [gatL]
/-- The first i, the others nothing yet. -/
def gtTo (l : List Gt) (n i : Nat) : List Gt := l.take i ++ List.replicate (n - i) zG
theorem gtTo_zero (l : List Gt) (n : Nat) : gtTo l n 0 = List.replicate n zG := by simp [gtTo]
theorem gtTo_all {l : List Gt} {n : Nat} (h : l.length = n) : gtTo l n n = l := by subst h; simp [gtTo]
theorem gtTo_len {l : List Gt} {n i : Nat} (h : l.length = n) (hi : i ≤ n) : (gtTo l n i).length = n := by simp [gtTo]; omega
theorem gtTo_set {l : List Gt} {n i : Nat} {x : Gt} (h : l.length = n) (hx : l[i]? = some x) : (gtTo l n i).set i x = gtTo l n (i + 1) := by
  have hi := (List.getElem?_eq_some_iff.1 hx).1
  unfold gtTo
  have e1 : (l.take i).length = i := by rw [List.length_take]; omega
  rw [List.set_append_right _ _ (by omega), e1, Nat.sub_self, show n - i = (n - (i + 1)) + 1 by omega, List.replicate_succ, List.set_cons_zero, List.take_add_one, hx, List.append_assoc]
  rfl
theorem mkG (x y : Value) : Instr.makeSlice 32 x y = mkS 32 x y := rfl
theorem made_G (n : Nat) (hn : n ≤ 1000) (w : World) : ∃ V, (mkS 32 (.int .i64 (n : Int)) (.int .i64 (n : Int))).run Try.prog w = .ok (.slice (some ⟨w.heap.size, 0, none⟩) n n) V ∧ PAt eG V w.heap.size n (List.replicate n zG) ∧ Below w.heap.size w V ∧ V.heap.size = w.heap.size + 1 :=
  full_new kG zG (.agg zG.cs) (by kernel_rfl) rfl n hn w
attribute [local go_sem ↓] ldT ldQ stQ stQs alP ldG stG bdG bdH apH bsH mkG
attribute [local go_sem] alP_run
set_option maxHeartbeats 8000000 in
theorem gates_any (h : Hd) (a : Option Addr) (n c : Nat) (l : List Pt) (w : World) (hs : SlAt eQ w a n c l) (hn : n ≤ 1000) :
    Calls Try.prog 6 #[.agg (trc h (.slice a n c))] w fun r w' => (∃ g, r = .returned (.slice (some ⟨g, 0, none⟩) n n) ∧ SlAt eG w' (some ⟨g, 0, none⟩) n n (gatL l)) ∧ Below w.heap.size w w' := by
  obtain ⟨W, hW, r0, bW, zW⟩ := TrAt.new w h (.slice a n c)
  have hnn := hs.int
  have hlen := hs.len
  have c0 := r0.p
  obtain ⟨V, mk, pV, bV, zV⟩ := made_G n hn W
  have c1 := (r0.below bV).p
  have H : Hid (SlAt eQ w a n c l ∧ (gatL l).length = n ∧ PAt eG V W.heap.size n (gtTo (gatL l) n 0) ∧ Below w.heap.size w V ∧ w.heap.size ≤ W.heap.size ∧ W.heap.size < V.heap.size ∧ Below w.heap.size w W) := ⟨hs, by rw [gat_len]; exact hlen, by rw [gtTo_zero]; exact pV, below_over bW bV, bW.size, by omega, bW⟩
  clear hs hn hlen r0 bW zW pV bV zV
  go_enter Try.func6, Try.ntmps6
  go_wp2_with fail
  clear c0 c1 mk
  go_loopw [13] (fun v wr => ∃ i : Nat, i ≤ n ∧ v = .int .i64 i ∧ PAt eG wr W.heap.size n (gtTo (gatL l) n i) ∧ Below w.heap.size w wr) (fun v _ => n - (intOf v).toNat)
  case atStart => exact ⟨0, by omega, rfl, H.out.2.2.1, H.out.2.2.2.1⟩
  case round =>
    obtain ⟨i, hi, rfl, hp, hB⟩ := hrel
    have J : Hid (PAt eG wr W.heap.size n (gtTo (gatL l) n i) ∧ Below w.heap.size w wr) := ⟨hp, hB⟩
    have hi0 : (0 : Int) ≤ (i : Int) := by omega
    clear hp hB
    by_cases hit : i < n
    · have hi1 : (i : Int) < (n : Int) := by omega
      obtain ⟨b, o, rfl⟩ := H.out.1.some' (by omega)
      obtain ⟨y, hy⟩ := lt_nth (l := l) (i := i) (by rw [H.out.1.len]; exact hit)
      have l0 := lQ (H.out.1.below J.out.2) hy
      obtain ⟨U, s1, rU, bU, _⟩ := Pt.put wr y
      have u8 := rU.pbit (j := 8) rfl
      have u10 := rU.pbit (j := 10) rfl
      have bb := fun q : World => bdG_is (y.bt 10) (y.bt 8) q
      obtain ⟨Z, sZ0, pZ, gZ⟩ := (J.out.1.below bU).stp kG (i := i) (q := i * 2) (y := gtP y) (by rw [gtTo_len H.out.2.1 hi]; exact hit) rfl
      have sZ : (stS 37 (.pointer (some ⟨W.heap.size, i * 2, none⟩)) (.agg (Gt.mk (y.bt 10) (y.bt 8)).cs)).run Try.prog U = .ok () Z := sZ0
      rw [gtTo_set H.out.2.1 (gat_at hy)] at pZ
      have G : Hid (PAt eG Z W.heap.size n (gtTo (gatL l) n (i + 1)) ∧ Below w.heap.size w Z) := ⟨pZ, gro (below_over J.out.2 bU) gZ H.out.2.2.2.2.1 (below_over J.out.2 bU).size⟩
      clear hy rU bU sZ0 pZ gZ
      go_wp2
      go_roundw
      case rel => exact ⟨i + 1, by omega, by go_num, G.out.1, G.out.2⟩
      case measure => simp [intOf]; omega
    · have hin : i = n := by omega
      subst hin
      have hi1 : ¬ (i : Int) < (i : Int) := by omega
      have S := J.out.1.sl kG
      rw [gtTo_all H.out.2.1, H.out.2.1] at S
      have G : Hid (SlAt eG wr (some ⟨W.heap.size, 0, none⟩) i i (gatL l)) := S
      clear S
      go_wp2
      go_ret
      exact ⟨⟨_, rfl, G.out⟩, J.out.2⟩
set_option maxHeartbeats 8000000 in
theorem rgates_any (h : Hd) (a : Option Addr) (n c : Nat) (l : List Pt) (w : World) (hs : SlAt eQ w a n c l) (hn : n ≤ 1000) :
    Calls Try.prog 7 #[.agg (trc h (.slice a n c))] w fun r w' => (∃ v, r = .returned v ∧ Own eH w' w.heap.size v (gatL l)) ∧ Below w.heap.size w w' := by
  obtain ⟨W, hW, r0, bW, zW⟩ := TrAt.new w h (.slice a n c)
  have hnn := hs.int
  have H : Hid (SlAt eQ W a n c l ∧ l.length = n ∧ n ≤ 1000 ∧ TrAt W w.heap.size h (.slice a n c) ∧ Below w.heap.size w W) := ⟨hs.below bW, hs.len, hn, r0, bW⟩
  clear hs hn r0 bW zW
  go_enter Try.func7, Try.ntmps7
  go_wp2_with fail
  go_loopw [3, 4] (fun u v wr => ∃ i : Nat, i ≤ n ∧ v = .int .i64 i ∧ Own eH wr W.heap.size u ((gatL l).take i) ∧ Below W.heap.size W wr) (fun u v _ => n - (intOf v).toNat)
  case atStart => exact ⟨0, by omega, rfl, Own.nil _ _, Below.refl _ _⟩
  case round =>
    obtain ⟨i, hi, rfl, hO, hB⟩ := hrel
    have J : Hid (Own eH wr W.heap.size u3 ((gatL l).take i) ∧ Below W.heap.size W wr) := ⟨hO, hB⟩
    have hi0 : (0 : Int) ≤ (i : Int) := by omega
    have c0 := (H.out.2.2.2.1.below hB).p
    clear hO hB
    by_cases hit : i < n
    · have hi1 : (i : Int) < (n : Int) := by omega
      obtain ⟨b, o, rfl⟩ := H.out.1.some' (by omega)
      obtain ⟨y, hy⟩ := lt_nth (l := l) (i := i) (by rw [H.out.2.1]; exact hit)
      have d0 := fun q : Later W => (H.out.2.2.2.1.below q.below).p
      have l0 := fun q : Later W => lQb (H.out.1.below q.below) hy (j := 10) rfl
      have l1 := fun q : Later W => lQb (H.out.1.below q.below) hy (j := 8) rfl
      have bb : ∀ q : World, (bdS 38 #[(0, .bool (y.bt 10)), (1, .bool (y.bt 8))]).run Try.prog q = .ok (.agg (gtP y).cs) q := fun q => bdH_is (y.bt 10) (y.bt 8) q
      obtain ⟨Y, hY⟩ : ∃ X0, World.drew wr = X0 := ⟨_, rfl⟩
      have bY : Below wr.heap.size wr Y := by rw [← hY]; exact (Below.refl _ _).drew
      obtain ⟨v', U, aU, oU, bU⟩ := nH (J.out.1.below bY) (below_over J.out.2 bY).size (by rw [List.length_take]; have := H.out.2.2.1; omega) (gtP y)
      have G : Hid (Own eH U W.heap.size v' ((gatL l).take (i + 1)) ∧ Below W.heap.size W U) := by
        refine ⟨?_, (below_over J.out.2 bY).trans bU⟩
        rw [List.take_add_one, gat_at hy]
        exact oU
      have B0 : Hid (Below W.heap.size W Y) := below_over J.out.2 bY
      clear hit hy
      go_wp2_with fail
      refine wp_region_noPanic ?_
      refine wp_region_held_drew (S := fun w' => ∃ x : Later W, w' = x.val) (by kernel_rfl) (by rw [hY]; exact ⟨⟨_, B0.out⟩, rfl⟩) (fun hHeld => ?_)
      rw [hY] at hHeld ⊢
      clear hY oU bU bY c0
      refine wpAnyH_take (i := 0) (oi := { dst := some 12, op := Op.move (Operand.tmp 3), type := 34, pos := "ref.go:19", after := #[], guard := none }) (v := ?_) rfl (by kernel_rfl) (by kernel_rfl) (by kernel_rfl) (fun _ _ _ h => h) (Or.inl ⟨by rfl, ?_⟩) hHeld ?_
      rotate_left
      · intro W_ hSw_
        obtain ⟨q, rfl⟩ := hSw_
        first | (go_simp; done) | (go_simp; with_reducible rfl)
      rotate_left
      try simp only [Act.put, List.setIfInBounds_toArray, List.set_cons_zero, List.set_cons_succ]
      refine wpAnyH_take (i := 1) (oi := { dst := some 13, op := Op.fieldAddr 31 (Operand.tmp 1) 7, type := 0, pos := "ref.go:19", after := #[], guard := none }) (v := ?_) rfl (by kernel_rfl) (by kernel_rfl) (by kernel_rfl) (fun _ _ _ h => h) (Or.inl ⟨by rfl, ?_⟩) hHeld ?_
      rotate_left
      · intro W_ hSw_
        obtain ⟨q, rfl⟩ := hSw_
        first | (go_simp; done) | (go_simp; with_reducible rfl)
      rotate_left
      try simp only [Act.put, List.setIfInBounds_toArray, List.set_cons_zero, List.set_cons_succ]
      refine wpAnyH_take (i := 2) (oi := { dst := some 14, op := Op.load 29 (Operand.tmp 13), type := 29, pos := "ref.go:19", after := #[{ on := 1, ground := Ground.data }], guard := none }) (v := ?_) rfl (by kernel_rfl) (by kernel_rfl) (by kernel_rfl) (fun _ _ _ h => h) (Or.inl ⟨by rfl, ?_⟩) hHeld ?_
      rotate_left
      · intro W_ hSw_
        obtain ⟨q, rfl⟩ := hSw_
        first | (go_simp; done) | (go_simp; with_reducible rfl)
      rotate_left
      try simp only [Act.put, List.setIfInBounds_toArray, List.set_cons_zero, List.set_cons_succ]
      refine wpAnyH_take (i := 3) (oi := { dst := some 15, op := Op.move (Operand.tmp 4), type := 3, pos := "ref.go:19", after := #[], guard := none }) (v := ?_) rfl (by kernel_rfl) (by kernel_rfl) (by kernel_rfl) (fun _ _ _ h => h) (Or.inl ⟨by rfl, ?_⟩) hHeld ?_
      rotate_left
      · intro W_ hSw_
        obtain ⟨q, rfl⟩ := hSw_
        first | (go_simp; done) | (go_simp; with_reducible rfl)
      rotate_left
      try simp only [Act.put, List.setIfInBounds_toArray, List.set_cons_zero, List.set_cons_succ]
      refine wpAnyH_take (i := 4) (oi := { dst := some 16, op := Op.indexAddr 29 (Operand.tmp 14) (Operand.tmp 15), type := 0, pos := "ref.go:19", after := #[{ on := 2, ground := Ground.data }, { on := 3, ground := Ground.data }], guard := none }) (v := ?_) rfl (by kernel_rfl) (by kernel_rfl) (by kernel_rfl) (fun _ _ _ h => h) (Or.inl ⟨by rfl, ?_⟩) hHeld ?_
      rotate_left
      · intro W_ hSw_
        obtain ⟨q, rfl⟩ := hSw_
        first | (go_simp; done) | (go_simp; with_reducible rfl)
      rotate_left
      try simp only [Act.put, List.setIfInBounds_toArray, List.set_cons_zero, List.set_cons_succ]
      refine wpAnyH_take (i := 5) (oi := { dst := some 17, op := Op.fieldAddr 82 (Operand.tmp 16) 10, type := 0, pos := "ref.go:19", after := #[{ on := 4, ground := Ground.data }], guard := none }) (v := ?_) rfl (by kernel_rfl) (by kernel_rfl) (by kernel_rfl) (fun _ _ _ h => h) (Or.inl ⟨by rfl, ?_⟩) hHeld ?_
      rotate_left
      · intro W_ hSw_
        obtain ⟨q, rfl⟩ := hSw_
        first | (go_simp; done) | (go_simp; with_reducible rfl)
      rotate_left
      try simp only [Act.put, List.setIfInBounds_toArray, List.set_cons_zero, List.set_cons_succ]
      refine wpAnyH_take (i := 6) (oi := { dst := some 18, op := Op.load 4 (Operand.tmp 17), type := 4, pos := "ref.go:19", after := #[{ on := 5, ground := Ground.data }], guard := none }) (v := ?_) rfl (by kernel_rfl) (by kernel_rfl) (by kernel_rfl) (fun _ _ _ h => h) (Or.inl ⟨by rfl, ?_⟩) hHeld ?_
      rotate_left
      · intro W_ hSw_
        obtain ⟨q, rfl⟩ := hSw_
        first | (go_simp; done) | (go_simp; with_reducible rfl)
      rotate_left
      try simp only [Act.put, List.setIfInBounds_toArray, List.set_cons_zero, List.set_cons_succ]
      refine wpAnyH_take (i := 7) (oi := { dst := some 19, op := Op.fieldAddr 31 (Operand.tmp 1) 7, type := 0, pos := "ref.go:19", after := #[], guard := none }) (v := ?_) rfl (by kernel_rfl) (by kernel_rfl) (by kernel_rfl) (fun _ _ _ h => h) (Or.inl ⟨by rfl, ?_⟩) hHeld ?_
      rotate_left
      · intro W_ hSw_
        obtain ⟨q, rfl⟩ := hSw_
        first | (go_simp; done) | (go_simp; with_reducible rfl)
      rotate_left
      try simp only [Act.put, List.setIfInBounds_toArray, List.set_cons_zero, List.set_cons_succ]
      refine wpAnyH_take (i := 8) (oi := { dst := some 20, op := Op.load 29 (Operand.tmp 19), type := 29, pos := "ref.go:19", after := #[{ on := 7, ground := Ground.data }], guard := none }) (v := ?_) rfl (by kernel_rfl) (by kernel_rfl) (by kernel_rfl) (fun _ _ _ h => h) (Or.inl ⟨by rfl, ?_⟩) hHeld ?_
      rotate_left
      · intro W_ hSw_
        obtain ⟨q, rfl⟩ := hSw_
        first | (go_simp; done) | (go_simp; with_reducible rfl)
      rotate_left
      try simp only [Act.put, List.setIfInBounds_toArray, List.set_cons_zero, List.set_cons_succ]
      refine wpAnyH_take (i := 9) (oi := { dst := some 21, op := Op.move (Operand.tmp 4), type := 3, pos := "ref.go:19", after := #[], guard := none }) (v := ?_) rfl (by kernel_rfl) (by kernel_rfl) (by kernel_rfl) (fun _ _ _ h => h) (Or.inl ⟨by rfl, ?_⟩) hHeld ?_
      rotate_left
      · intro W_ hSw_
        obtain ⟨q, rfl⟩ := hSw_
        first | (go_simp; done) | (go_simp; with_reducible rfl)
      rotate_left
      try simp only [Act.put, List.setIfInBounds_toArray, List.set_cons_zero, List.set_cons_succ]
      refine wpAnyH_take (i := 10) (oi := { dst := some 22, op := Op.indexAddr 29 (Operand.tmp 20) (Operand.tmp 21), type := 0, pos := "ref.go:19", after := #[{ on := 8, ground := Ground.data }, { on := 9, ground := Ground.data }], guard := none }) (v := ?_) rfl (by kernel_rfl) (by kernel_rfl) (by kernel_rfl) (fun _ _ _ h => h) (Or.inl ⟨by rfl, ?_⟩) hHeld ?_
      rotate_left
      · intro W_ hSw_
        obtain ⟨q, rfl⟩ := hSw_
        first | (go_simp; done) | (go_simp; with_reducible rfl)
      rotate_left
      try simp only [Act.put, List.setIfInBounds_toArray, List.set_cons_zero, List.set_cons_succ]
      refine wpAnyH_take (i := 11) (oi := { dst := some 23, op := Op.fieldAddr 82 (Operand.tmp 22) 8, type := 0, pos := "ref.go:19", after := #[{ on := 10, ground := Ground.data }], guard := none }) (v := ?_) rfl (by kernel_rfl) (by kernel_rfl) (by kernel_rfl) (fun _ _ _ h => h) (Or.inl ⟨by rfl, ?_⟩) hHeld ?_
      rotate_left
      · intro W_ hSw_
        obtain ⟨q, rfl⟩ := hSw_
        first | (go_simp; done) | (go_simp; with_reducible rfl)
      rotate_left
      try simp only [Act.put, List.setIfInBounds_toArray, List.set_cons_zero, List.set_cons_succ]
      refine wpAnyH_take (i := 12) (oi := { dst := some 24, op := Op.load 4 (Operand.tmp 23), type := 4, pos := "ref.go:19", after := #[{ on := 11, ground := Ground.data }], guard := none }) (v := ?_) rfl (by kernel_rfl) (by kernel_rfl) (by kernel_rfl) (fun _ _ _ h => h) (Or.inl ⟨by rfl, ?_⟩) hHeld ?_
      rotate_left
      · intro W_ hSw_
        obtain ⟨q, rfl⟩ := hSw_
        first | (go_simp; done) | (go_simp; with_reducible rfl)
      rotate_left
      try simp only [Act.put, List.setIfInBounds_toArray, List.set_cons_zero, List.set_cons_succ]
      refine wpAnyH_take (i := 13) (oi := { dst := some 25, op := Op.build 38 #[(0, Operand.tmp 18), (1, Operand.tmp 24)], type := 38, pos := "ref.go:19", after := #[{ on := 6, ground := Ground.data }, { on := 12, ground := Ground.data }], guard := none }) (v := ?_) rfl (by kernel_rfl) (by kernel_rfl) (by kernel_rfl) (fun _ _ _ h => h) (Or.inl ⟨by rfl, ?_⟩) hHeld ?_
      rotate_left
      · intro W_ hSw_
        obtain ⟨q, rfl⟩ := hSw_
        first | (go_simp; done) | (go_simp; with_reducible rfl)
      rotate_left
      try simp only [Act.put, List.setIfInBounds_toArray, List.set_cons_zero, List.set_cons_succ]
      refine wpAnyH_ready (rs := [14]) (by kernel_rfl) (by simp) ?_
      refine AllReadyH.cons (o := { dst := some 26, op := Op.buildSlice 34 1 #[(0, Operand.tmp 25)], type := 34, pos := "ref.go:19", after := #[{ on := 13, ground := Ground.data }], guard := none }) rfl (fun K hK => ?_) AllReadyH.nil
      have bs0 := bsH_is (gtP y) Y
      go_simp
      clear hHeld
      refine hK.out _ _ ⟨⟨_, B0.out.alloc B0.out.size _⟩, rfl⟩ (fun hHeld => ?_)
      clear hK K
      try simp only [Act.put, List.setIfInBounds_toArray, List.set_cons_zero, List.set_cons_succ]
      refine wpAnyH_ready (rs := [15]) (by kernel_rfl) (by simp) ?_
      refine AllReadyH.cons (o := { dst := some 27, op := Op.call { callee := Callee.builtin Builtin.append, args := #[Operand.tmp 12, Operand.tmp 26], argTypes := #[34, 34] }, type := 34, pos := "ref.go:19", after := #[{ on := 0, ground := Ground.data }, { on := 14, ground := Ground.data }], guard := none }) rfl (fun K hK => ?_) AllReadyH.nil
      go_simp
      clear hHeld
      refine hK.out _ _ ⟨⟨_, G.out.2⟩, rfl⟩ (fun hHeld => ?_)
      clear hK K
      try simp only [Act.put, List.setIfInBounds_toArray, List.set_cons_zero, List.set_cons_succ]
      refine wpAnyH_take (i := 16) (oi := { dst := some 3, op := Op.assign (Operand.tmp 27), type := 34, pos := "ref.go:19", after := #[{ on := 15, ground := Ground.data }, { on := 15, ground := Ground.chain }, { on := 0, ground := Ground.phase }, { on := 1, ground := Ground.phase }, { on := 2, ground := Ground.phase }, { on := 3, ground := Ground.phase }, { on := 4, ground := Ground.phase }, { on := 5, ground := Ground.phase }, { on := 6, ground := Ground.phase }, { on := 7, ground := Ground.phase }, { on := 8, ground := Ground.phase }, { on := 9, ground := Ground.phase }, { on := 10, ground := Ground.phase }, { on := 11, ground := Ground.phase }, { on := 12, ground := Ground.phase }, { on := 13, ground := Ground.phase }, { on := 14, ground := Ground.phase }, { on := 15, ground := Ground.phase }], guard := none }) (v := ?_) rfl (by kernel_rfl) (by kernel_rfl) (by kernel_rfl) (fun _ _ _ h => h) (Or.inl ⟨by rfl, ?_⟩) hHeld ?_
      rotate_left
      · intro W_ hSw_
        obtain ⟨q, rfl⟩ := hSw_
        first | (go_simp; done) | (go_simp; with_reducible rfl)
      rotate_left
      try simp only [Act.put, List.setIfInBounds_toArray, List.set_cons_zero, List.set_cons_succ]
      refine wpAnyH_done (by kernel_rfl) ?_ _
      refine NoPanic.normal ?_
      clear hHeld
      clear d0 l0 l1 bb aU bs0
      go_wp2
      go_roundw
      case rel => exact ⟨i + 1, by omega, by go_num, G.out.1, G.out.2⟩
      case measure => simp [intOf]; omega
    · have hin : i = n := by omega
      subst hin
      have hi1 : ¬ (i : Int) < (i : Int) := by omega
      have E : Hid ((gatL l).take i = gatL l) := List.take_of_length_le (by rw [gat_len, H.out.2.1]; exact Nat.le_refl _)
      go_wp2
      go_ret
      exact ⟨⟨_, rfl, by have := J.out.1; rw [E.out] at this; exact this.mono H.out.2.2.2.2.size⟩, below_over H.out.2.2.2.2 J.out.2⟩
end Go.Proofs.Ytcejfkkhmlebdaa
