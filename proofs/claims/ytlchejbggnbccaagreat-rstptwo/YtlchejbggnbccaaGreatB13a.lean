/-
  Trees whose ports are changed: each with its three changes; Up; the definition's Has and Up. Their walks. And what follows from it here.
-/
import Derived.Test.YtlchejbggnbccaaGreatBbb
import Derived.Test.YtlchejbggnbccaaGreatBba
import Derived.Deep.Cut
import Derived.Deep.CutRange
namespace Go.Proofs.YtlchejbggnbccaaGreat
set_option linter.unusedVariables false
set_option linter.unusedSimpArgs false
set_option maxRecDepth 4000
section
namespace S13
open Go.RowKit

def gtP (l : List Pt) (i : Nat) : Pt := l.getD i zeroP
theorem gtP_at {l : List Pt} {i : Nat} (h : i < l.length) : l[i]? = some (gtP l i) := by
  simp [gtP, List.getD_eq_getElem?_getD, List.getElem?_eq_getElem h]
def mapTo (f : Pt → Pt) (l : List Pt) (i : Nat) : List Pt := (l.take i).map f ++ l.drop i
theorem mapTo_at {f : Pt → Pt} {l : List Pt} {i : Nat} (h : i < l.length) : (mapTo f l i)[i]? = some (gtP l i) := by
  rw [← gtP_at h]
  unfold mapTo
  rw [List.getElem?_append_right (by simp; omega), List.length_map, List.length_take, Nat.min_eq_left (by omega), Nat.sub_self, List.getElem?_drop]
  rfl
theorem mapTo_next {f : Pt → Pt} {l : List Pt} {i : Nat} (h : i < l.length) : (mapTo f l i).set i (f (gtP l i)) = mapTo f l (i + 1) := by
  unfold mapTo
  have e : ((l.take i).map f).length = i := by simp; omega
  have hg : gtP l i = l[i] := by
    have := gtP_at h
    rw [List.getElem?_eq_getElem h] at this
    exact (Option.some.inj this).symm
  rw [List.set_append_right _ _ (by omega), e, Nat.sub_self, List.drop_eq_getElem_cons h, List.set_cons_zero, List.take_add_one, List.getElem?_eq_getElem h, hg, List.map_append, List.append_assoc]
  rfl
theorem mapTo_all (f : Pt → Pt) (l : List Pt) : mapTo f l l.length = l.map f := by simp [mapTo]
theorem mapTo_zero (f : Pt → Pt) (l : List Pt) : mapTo f l 0 = l := by simp [mapTo]
attribute [local go_sem ↓] ldP stP ldT stT apE st32 st4
def syncP (p : Pt) : Pt := p.setB 24 kb24 true
def rerP (p : Pt) : Pt := p.setB 20 kb20 true
def Chg (F : Nat) (f : Pt → Pt) : Prop := ∀ (W : World) (g c i q : Nat) (l : List Pt) (p : Pt), PAt W g c l → l[i]? = some p → q = i * 77 →
  Calls Tryz.prog F #[.pointer (some ⟨g, q, none⟩)] W fun r W' => r = .returned (.tuple #[]) ∧ PAt W' g c (l.set i (f p)) ∧ W.grownBy W' (some g)
theorem chg_sync : Chg 314 syncP := by
  intro W g c i q l p hp hi hq
  obtain ⟨V, s, hV, gV⟩ := hp.st1 (q := q + 24) (j := 24) (v := .bool true) hi info1.1 (by omega) rfl (fit_bit rfl) (by rw [hq])
  have F : Hid (PAt V g c (l.set i (syncP p)) ∧ W.grownBy V (some g)) := ⟨hV, gV⟩
  clear hV gV hp hi hq
  go_enter Tryz.func314, Tryz.ntmps314
  go_wp2
  go_end0
  exact ⟨rfl, F.out.1, F.out.2⟩
theorem chg_rer : Chg 310 rerP := by
  intro W g c i q l p hp hi hq
  obtain ⟨V, s, hV, gV⟩ := hp.st1 (q := q + 20) (j := 20) (v := .bool true) hi info1.1 (by omega) rfl (fit_bit rfl) (by rw [hq])
  have F : Hid (PAt V g c (l.set i (rerP p)) ∧ W.grownBy V (some g)) := ⟨hV, gV⟩
  clear hV gV hp hi hq
  go_enter Tryz.func310, Tryz.ntmps310
  go_wp2
  go_end0
  exact ⟨rfl, F.out.1, F.out.2⟩
set_option maxHeartbeats 4000000 in
theorem each_any (F : Nat) (f : Pt → Pt) (hF : Chg F f) (hc : ∀ (x : Value) (V : World), (callFunc F #[x]).run Tryz.prog V = .ok (.enter F #[x]) V) (h : Hd) (a : Option Addr) (n c : Nat) (l : List Pt) (w : World) (hs : SlAt w a n c l) (hn : n ≤ 1000) :
    Calls Tryz.prog 70 #[.agg (trc h (.slice a n c)), .func (.func F) #[] #[]] w fun r w' => ∃ v, r = .returned (.agg (trc h v)) ∧ Own w' w.heap.size v (l.map f) ∧ Below w.heap.size w w' := by
  obtain ⟨W, hW, r0, r1, bW, zW⟩ := two_t w h (.slice a n c)
  have l0 := r0.tld
  have H : Hid (SlAt W a n c l ∧ n ≤ 1000 ∧ l.length = n ∧ RvAt W w.heap.size 39 (trc h (.slice a n c)) ∧ RvAt W (w.heap.size + 1) 39 (trc zeroH (.slice none 0 0)) ∧ Below w.heap.size w W ∧ W.heap.size = w.heap.size + 2) := ⟨hs.below bW, hn, hs.len, r0, r1, bW, zW⟩
  clear hs hn r0 r1 bW zW
  go_enter Tryz.func70, Tryz.ntmps70
  go_wp2_with fail
  refine (copy_any h a n c l W H.out.1 H.out.2.1).mono ?_
  rintro _ W2 ⟨v, rfl, o2, b2⟩
  obtain ⟨W3, s3, r3, g3⟩ := (H.out.2.2.2.1.below b2).tst (g := h) (y := v) o2.one
  have z2 := H.out.2.2.2.2.2.2
  have o3 := o2.keptBut g3 (o2.apart (by omega))
  have q3 := (H.out.2.2.2.2.1.below b2).keptBut g3 (by simp)
  have b3 : Below w.heap.size w W3 := gro (below_over H.out.2.2.2.2.2.1 b2) g3 (Nat.le_refl _) (by have := b2.size; omega)
  clear b2 g3 l0
  rcases o3.pat with ⟨rfl, rfl⟩ | ⟨g, cc, rfl, hg, hp⟩
  · have c16 := r3.t16
    obtain ⟨W4, s4, r4, g4⟩ := q3.tst (g := h) (y := .slice none 0 0) rfl
    have l3 := r3.tld
    have G : Hid (RvAt W4 (w.heap.size + 1) 39 (trc h (.slice none 0 0)) ∧ Below w.heap.size w W4) := ⟨r4, gro b3 g4 (by omega) b3.size⟩
    clear r3 q3 b3 r4 g4 o2 o3 z2
    go_wp2_with fail
    go_rounds 1
    refine bodyPost_ret (results_row rtT Tryz.results70 _ _ _ _ rfl G.out.1 (trc_size _ _)) rfl ?_
    exact ⟨_, rfl, Own.nil _ _, G.out.2⟩
  · have hl := H.out.2.2.1
    have hn1 := H.out.2.1
    have G : Hid (RvAt W3 w.heap.size 39 (trc h (.slice (some ⟨g, 0, none⟩) l.length cc)) ∧ RvAt W3 (w.heap.size + 1) 39 (trc zeroH (.slice none 0 0)) ∧ Below w.heap.size w W3 ∧ PAt W3 g cc l ∧ w.heap.size + 2 ≤ g) := ⟨r3, q3, b3, hp, by omega⟩
    have c16 := r3.t16
    obtain ⟨X, hX⟩ : ∃ X, X = l.length := ⟨_, rfl⟩
    rw [← hX] at c16
    have hx0 : X ≤ 1000 := by omega
    have GX : Hid (X = l.length) := hX
    clear r3 q3 b3 hp hg hl hn1 o2 o3 z2 hX
    go_wp2_with fail
    go_loopw [5, 11] (fun v5 v11 wr => ∃ i : Nat, i ≤ X ∧ v11 = .int .i64 i ∧ PAt wr g cc (mapTo f l i) ∧ W3.grownBy wr (some g)) (fun _ v11 _ => X - (intOf v11).toNat)
    case atStart => exact ⟨0, by omega, rfl, by rw [mapTo_zero]; exact G.out.2.2.2.1, World.grownBy.refl _ _⟩
    case round =>
      obtain ⟨i, hi, rfl, hpi, hgi⟩ := hrel
      have J : Hid (PAt wr g cc (mapTo f l i) ∧ W3.grownBy wr (some g)) := ⟨hpi, hgi⟩
      have hr := G.out.1.keptBut hgi (by have := G.out.2.2.2.2; simp; omega)
      by_cases hit : i < X
      · have hin0 : (0 : Int) ≤ (i : Int) := by omega
        have hin1 : (i : Int) < (X : Int) := by omega
        have c16 := hr.t16
        rw [← GX.out] at c16
        clear hpi hgi hr
        go_wp2_with fail
        refine (hF wr g cc i (i * 77) (mapTo f l i) (gtP l i) J.out.1 (mapTo_at (by rw [← GX.out]; exact hit)) rfl).mono ?_
        rintro _ V ⟨rfl, pV, gV⟩
        rw [mapTo_next (by rw [← GX.out]; exact hit)] at pV
        go_wp2
        go_roundw
        case rel => exact ⟨i + 1, by omega, by go_num, pV, grown_self J.out.2 gV⟩
        case measure => simp [intOf]; omega
      · have hin : i = X := by omega
        subst hin
        have hin1 : ¬ (i : Int) < (i : Int) := by omega
        have l3 := hr.tld
        have q3 := G.out.2.1.keptBut hgi (by have := G.out.2.2.2.2; simp; omega)
        obtain ⟨W4, s4, r4, g4⟩ := q3.tst (g := h) (y := .slice (some ⟨g, 0, none⟩) l.length cc) rfl
        have pe := hpi.keptBut g4 (by have := G.out.2.2.2.2; simp; omega)
        rw [GX.out, mapTo_all] at pe
        have be : Below w.heap.size w W4 := gro (gro G.out.2.2.1 hgi (by have := G.out.2.2.2.2; omega) G.out.2.2.1.size) g4 (by omega) (by have := G.out.2.2.1.size; have := hgi.size; omega)
        have K : Hid (RvAt W4 (w.heap.size + 1) 39 (trc h (.slice (some ⟨g, 0, none⟩) l.length cc)) ∧ PAt W4 g cc (l.map f) ∧ Below w.heap.size w W4) := ⟨r4, pe, be⟩
        clear hpi hgi hr q3 r4 g4 pe be
        go_wp2
        refine bodyPost_ret (results_row rtT Tryz.results70 _ _ _ _ rfl K.out.1 (trc_size _ _)) rfl ?_
        refine ⟨_, rfl, ?_, K.out.2.2⟩
        have := K.out.2.1.own (B := w.heap.size) (by have := G.out.2.2.2.2; omega)
        rw [List.length_map] at this
        exact this
theorem ent42 (x : Value) (V : World) : (callFunc 314 #[x]).run Tryz.prog V = .ok (.enter 314 #[x]) V := by go_simp
theorem ent43 (x : Value) (V : World) : (callFunc 310 #[x]).run Tryz.prog V = .ok (.enter 310 #[x]) V := by go_simp
end S13
end
section
namespace S13
open Go.RowKit

attribute [local go_sem ↓] ldP stP ldT stT apE st32 st4
theorem one_t (w : World) (h : Hd) (x : Value) : ∃ W, w.alloc (.cells (trc h x) 39) = W ∧ RvAt W w.heap.size 39 (trc h x) ∧ Below w.heap.size w W ∧ W.heap.size = w.heap.size + 1 :=
  ⟨_, rfl, RvAt.new w _ _, (Below.refl _ _).alloc (Nat.le_refl _) _, by simp⟩
set_option maxHeartbeats 4000000 in
theorem sync_any (h : Hd) (a : Option Addr) (n c : Nat) (l : List Pt) (w : World) (hs : SlAt w a n c l) (hn : n ≤ 1000) :
    Calls Tryz.prog 309 #[.agg (trc h (.slice a n c))] w fun r w' => ∃ v, r = .returned (.agg (trc h v)) ∧ Own w' w.heap.size v (l.map syncP) ∧ Below w.heap.size w w' := by
  obtain ⟨W, hW, r0, r1, bW, zW⟩ := two_t w h (.slice a n c)
  have l0 := r0.tld
  have H : Hid (SlAt W a n c l ∧ n ≤ 1000 ∧ RvAt W (w.heap.size + 1) 39 (trc zeroH (.slice none 0 0)) ∧ Below w.heap.size w W ∧ W.heap.size = w.heap.size + 2) := ⟨hs.below bW, hn, r1, bW, zW⟩
  clear hs hn r0 r1 bW zW
  go_enter Tryz.func309, Tryz.ntmps309
  go_wp2_with fail
  refine (each_any 314 syncP chg_sync ent42 h a n c l W H.out.1 H.out.2.1).mono ?_
  rintro _ W2 ⟨v, rfl, o2, b2⟩
  obtain ⟨W3, s3, r3, g3⟩ := (H.out.2.2.1.below b2).tst (g := h) (y := v) o2.one
  have z2 := H.out.2.2.2.2
  have o3 := o2.keptBut g3 (o2.apart (by omega))
  have b3 : Below w.heap.size w W3 := gro (below_over H.out.2.2.2.1 b2) g3 (by omega) (by have := b2.size; omega)
  have F : Hid (RvAt W3 (w.heap.size + 1) 39 (trc h v) ∧ Own W3 w.heap.size v (l.map syncP) ∧ Below w.heap.size w W3) := ⟨r3, o3.base (by omega), b3⟩
  clear b2 g3 l0 o2 o3 z2 b3 r3
  go_wp2
  refine bodyPost_ret (results_row rtT Tryz.results309 _ _ _ _ rfl F.out.1 (trc_size _ _)) rfl ?_
  exact ⟨v, rfl, F.out.2.1, F.out.2.2⟩
set_option maxHeartbeats 4000000 in
theorem rer_any (h : Hd) (a : Option Addr) (n c : Nat) (l : List Pt) (w : World) (hs : SlAt w a n c l) (hn : n ≤ 1000) :
    Calls Tryz.prog 294 #[.agg (trc h (.slice a n c))] w fun r w' => ∃ v, r = .returned (.agg (trc h v)) ∧ Own w' w.heap.size v (l.map rerP) ∧ Below w.heap.size w w' := by
  obtain ⟨W, hW, r0, r1, bW, zW⟩ := two_t w h (.slice a n c)
  have l0 := r0.tld
  have H : Hid (SlAt W a n c l ∧ n ≤ 1000 ∧ RvAt W (w.heap.size + 1) 39 (trc zeroH (.slice none 0 0)) ∧ Below w.heap.size w W ∧ W.heap.size = w.heap.size + 2) := ⟨hs.below bW, hn, r1, bW, zW⟩
  clear hs hn r0 r1 bW zW
  go_enter Tryz.func294, Tryz.ntmps294
  go_wp2_with fail
  refine (each_any 310 rerP chg_rer ent43 h a n c l W H.out.1 H.out.2.1).mono ?_
  rintro _ W2 ⟨v, rfl, o2, b2⟩
  obtain ⟨W3, s3, r3, g3⟩ := (H.out.2.2.1.below b2).tst (g := h) (y := v) o2.one
  have z2 := H.out.2.2.2.2
  have o3 := o2.keptBut g3 (o2.apart (by omega))
  have b3 : Below w.heap.size w W3 := gro (below_over H.out.2.2.2.1 b2) g3 (by omega) (by have := b2.size; omega)
  have F : Hid (RvAt W3 (w.heap.size + 1) 39 (trc h v) ∧ Own W3 w.heap.size v (l.map rerP) ∧ Below w.heap.size w W3) := ⟨r3, o3.base (by omega), b3⟩
  clear b2 g3 l0 o2 o3 z2 b3 r3
  go_wp2
  refine bodyPost_ret (results_row rtT Tryz.results294 _ _ _ _ rfl F.out.1 (trc_size _ _)) rfl ?_
  exact ⟨v, rfl, F.out.2.1, F.out.2.2⟩
end S13
end
section
namespace S13
open Go.RowKit

theorem wi0 : (Lit.int .i64 0).wf = true := by decide
theorem wi1 : (Lit.int .i64 1).wf = true := by decide
theorem wi2 : (Lit.int .i64 2).wf = true := by decide
theorem wi3 : (Lit.int .i64 3).wf = true := by decide
theorem stW (x y : Value) : Instr.storeAt 72 x y = stS 72 x y := rfl
theorem infoS : (Tryz.prog.info? 72).map (·.size) = some 1 := by kernel_rfl
theorem set_self {l : List Pt} {k : Nat} (h : k < l.length) : l.set k (gtP l k) = l := by
  have : gtP l k = l[k] := by
    have := gtP_at h
    rw [List.getElem?_eq_getElem h] at this
    exact (Option.some.inj this).symm
  rw [this, List.set_getElem_self]
theorem gtP_put {l : List Pt} {k : Nat} {q : Pt} (hk : k < l.length) : gtP (l.set k q) k = q := by
  have := gtP_at (l := l.set k q) (i := k) (by rw [List.length_set]; exact hk)
  rw [List.getElem?_set, if_pos rfl, if_pos hk] at this
  exact (Option.some.inj this).symm
attribute [local go_sem ↓] ldP stP ldT stT apE st32
end S13
end
section
namespace S13
open Go.RowKit

def gd (G want : Bool) (v : Value) : Value := bif G == want then v else undef
theorem gd_on {G want : Bool} {v : Value} (h : G = want) : gd G want v = v := by subst h; simp [gd]
theorem gd_off {G want : Bool} {v : Value} (h : G ≠ want) : gd G want v = undef := by
  have : (G == want) = false := by simpa using h
  simp [gd, this]
theorem on {a : Act} {x : Operand} {G want : Bool} {V : Value} (e : G = want) (h : a.eval x = gd G want V) : a.eval x = V := h.trans (gd_on e)
theorem pk_and (X Y : Bool) : (if X = true then gd X true (.bool Y) else .bool false) = Value.bool (X && Y) := by
  cases X
  · rfl
  · rw [if_pos rfl, gd_on rfl]; rfl
theorem pk_or (X Y : Bool) : (if X = true then Value.bool true else gd X false (.bool Y)) = Value.bool (X || Y) := by
  cases X
  · rw [if_neg (by decide), gd_on rfl]; rfl
  · rfl
theorem pkA {a : Act} {x y : Operand} {X Y : Bool} (hx : a.eval x = gd X true (.bool Y)) (hy : a.eval y = .bool false) : (if X = true then a.eval x else a.eval y) = Value.bool (X && Y) := by
  rw [hx, hy]
  exact pk_and X Y
theorem pkO {a : Act} {x y : Operand} {X Y : Bool} (hx : a.eval x = .bool true) (hy : a.eval y = gd X false (.bool Y)) : (if X = true then a.eval x else a.eval y) = Value.bool (X || Y) := by
  rw [hx, hy]
  exact pk_or X Y
theorem Act.eval_func (a : Act) (F : Nat) : a.eval (.func F) = .func (.func F) #[] #[] := rfl
section
variable {ops : Array Oper} {C : World → Prop} {a : Act} {o : Oper} {v : Value}
def Qt (C : World → Prop) (o : Oper) (v : Value) (a : Act) : Prop := ∀ w, C w → o.quietAt Tryz.prog a C w v
theorem q_put (hy : YieldsIn Tryz.prog ops C o v a) {Q : Act → Prop} {rest : List Oper} (h : wpQuiet Tryz.prog ops C Q rest (a.put o.dst v)) : wpQuiet Tryz.prog ops C Q (o :: rest) a := by
  unfold wpQuiet
  rcases hy with ⟨hw, hv⟩ | ⟨hw, rfl⟩
  · rw [if_pos hw]; exact ⟨v, hv, h⟩
  · rw [if_neg (by rw [hw]; exact Bool.false_ne_true)]; exact h
theorem yq (hg : o.guard = none) (h : Qt C o v a) : YieldsIn Tryz.prog ops C o v a := Or.inl ⟨by unfold Region.wanted; rw [hg], h⟩
theorem yq1 {j : Nat} {want G : Bool} (hg : o.guard = some (j, want)) (hj : ((ops[j]?).bind (·.dst)).bind (a.tmps[·]?) = some (.bool G)) (h : G = want → Qt C o v a) : YieldsIn Tryz.prog ops C o (gd G want v) a := by
  have hy : yielded ops a.tmps j = some G := by unfold yielded; rw [hj]
  by_cases e : G = want
  · rw [gd_on e]
    exact Or.inl ⟨by unfold Region.wanted; rw [hg]; simp [hy, e], h e⟩
  · rw [gd_off e]
    exact Or.inr ⟨by unfold Region.wanted; rw [hg]; simp [hy, e], rfl⟩
theorem yq2 {j : Nat} {want G1 w1 G2 : Bool} (hg : o.guard = some (j, want)) (hj : ((ops[j]?).bind (·.dst)).bind (a.tmps[·]?) = some (gd G1 w1 (.bool G2))) (h : G1 = w1 → G2 = want → Qt C o v a) : YieldsIn Tryz.prog ops C o (gd G1 w1 (gd G2 want v)) a := by
  by_cases e1 : G1 = w1
  · rw [gd_on e1] at hj ⊢
    exact yq1 hg hj (h e1)
  · rw [gd_off e1] at hj ⊢
    have hy : yielded ops a.tmps j = none := by unfold yielded; rw [hj]; rfl
    exact Or.inr ⟨by unfold Region.wanted; rw [hg]; simp [hy], rfl⟩
def Rn (C : World → Prop) (o : Oper) (v : Value) (a : Act) : Prop := ∀ w, C w → (execOp a.eval o).run Tryz.prog w = .ok (.value v) w
theorem Rn.qt (h : Rn C o v a) : Qt C o v a := fun w hw => by
  unfold Oper.quietAt
  rw [h w hw]
  exact ⟨rfl, rfl⟩
theorem qmove {x : Operand} (h : o.op = .move x) (hx : a.eval x = v) : Rn C o v a := fun w _ => by unfold execOp; rw [h, ← hx]; rfl
theorem qassign {x : Operand} (h : o.op = .assign x) (hx : a.eval x = v) : Rn C o v a := fun w _ => by unfold execOp; rw [h, ← hx]; rfl
theorem qnil {x : Operand} {A : Addr} (h : o.op = .nilCheck x) (hx : a.eval x = .pointer (some A)) : Rn C o (.pointer (some A)) a := fun w _ => by
  unfold execOp
  simp only [h, hx]
  rfl
def FAt (t : TypeId) (k d : Nat) : Prop := ∀ (b q : Nat) (w : World), (Instr.fieldAt t (.pointer (some ⟨b, q, none⟩)) k).run Tryz.prog w = .ok (.pointer (some ⟨b, q + d, none⟩)) w
theorem qfield {t : TypeId} {x : Operand} {k b q d : Nat} (h : o.op = .fieldAddr t x k) (hx : a.eval x = .pointer (some ⟨b, q, none⟩)) (hf : FAt t k d) : Rn C o (.pointer (some ⟨b, q + d, none⟩)) a := fun w _ => by
  unfold execOp
  simp only [h, hx]
  rw [Sem.run_bind, hf]
  rfl
theorem qload {t : TypeId} {x : Operand} {A : Addr} (h : o.op = .load t x) (hx : a.eval x = .pointer (some A)) (hl : ∀ w, C w → (Instr.loadAt t (.pointer (some A))).run Tryz.prog w = .ok v w) : Rn C o v a := fun w hw => by
  unfold execOp
  simp only [h, hx]
  rw [Sem.run_bind, hl w hw]
  rfl
theorem qnot {t : TypeId} {x : Operand} {B : Bool} (h : o.op = .unOp .not t x) (hx : a.eval x = .bool B) : Rn C o (.bool (!B)) a := fun w _ => by
  unfold execOp
  simp only [h, hx]
  rfl
theorem qbin {op : BinOp} {t t' : TypeId} {x y : Operand} {X Y : Value} (h : o.op = .binOp op t x y t') (hx : a.eval x = X) (hy : a.eval y = Y) (he : ∀ w, (eqGuard op t x y X Y).run Tryz.prog w = .ok () w) (hv : ∀ w, (binOp op t X Y).run Tryz.prog w = .ok v w) : Rn C o v a := fun w _ => by
  unfold execOp
  simp only [h, hx, hy]
  simp only [Sem.run_bind, he, hv, Result.andThen_ok]
  rfl
theorem qpick {c x y : Operand} {B : Bool} (h : o.op = .pick c x y) (hc : a.eval c = .bool B) (hv : (if B = true then a.eval x else a.eval y) = v) : Rn C o v a := fun w _ => by
  unfold execOp
  simp only [h, hc]
  rw [← hv]
  rfl
theorem qfn {F : Nat} {x : Operand} {X : Value} (h : o.op = .makeFunc (.func F) #[x] #[]) (hx : a.eval x = X) : Rn C o (.func (.func F) #[X] #[]) a := fun w _ => by
  unfold execOp
  simp only [h]
  simp [hx, Instr.makeFunc]
theorem bdR (B : Bool) (f : Fn) (x : Value) (w : World) : (Instr.build 186 #[(0, .bool B), (1, .func f #[x] #[])]).run Tryz.prog w = .ok (.agg #[.bool B, .func f #[x] #[]]) w := by kernel_rfl
theorem qrule {x y : Operand} {B : Bool} {f : Fn} {z : Value} (h : o.op = .build 186 #[(0, x), (1, y)]) (hx : a.eval x = .bool B) (hy : a.eval y = .func f #[z] #[]) : Rn C o (.agg #[.bool B, .func f #[z] #[]]) a := fun w _ => by
  have := bdR B f z w
  unfold execOp
  simp only [h]
  simp only [List.map_toArray, List.map_cons, List.map_nil, hx, hy]
  rw [Sem.run_bind, this]
  rfl
theorem qcall {c : Call} {F : Nat} {args : Array Value} (h : o.op = .call c) (hr : ∀ w, (do let d ← resolve a.eval c o.type; invoke d.target d.args).run Tryz.prog w = .ok (.enter F args) w) (hc : ∀ w, C w → Calls Tryz.prog F args w fun e w' => e = .returned v ∧ C w') : Qt C o v a := fun w hw => by
  unfold Oper.quietAt execOp
  simp only [h]
  rw [hr w]
  exact ⟨rfl, hc w hw⟩
theorem qcall1 {F : Nat} {x : Operand} {X : Value} {ts : Array TypeId} (h : o.op = .call { callee := .value (.func F), args := #[x], argTypes := ts }) (hx : a.eval x = X) (he : ∀ V, (callFunc F #[X]).run Tryz.prog V = .ok (.enter F #[X]) V) (hc : ∀ w, C w → Calls Tryz.prog F #[X] w fun e w' => e = .returned v ∧ C w') : Qt C o v a :=
  qcall h (fun w => by simp [resolve, Deferred.ofValue, invoke, hx, Act.eval_func]; exact he w) hc
theorem wp_plain {id : Nat} {Q : Exit → Act → World → Prop} {w : World} {l : List Oper} (hC : C w) (h : wpQuiet Tryz.prog l.toArray C (fun a' => ∀ w', C w' → Q .normal a' w') l a) : (Code.region id l.toArray false).wp Tryz.prog Q a w := by
  refine wp_region ?_
  have key : ∀ (m : List Oper) (k : Nat) (a : Act) (w : World), (∀ j, m[j]? = l[k + j]?) → C w → wpQuiet Tryz.prog l.toArray C (fun a' => ∀ w', C w' → Q .normal a' w') m a → wpOps Tryz.prog l.toArray Q (List.range' k m.length) a w := by
    intro m
    induction m with
    | nil => intro k a w _ hw h; exact h w hw
    | cons o m ih =>
      intro k a w hm hw h
      have h0 : l.toArray[k]? = some o := by simpa using (hm 0).symm
      rw [List.length_cons, List.range'_succ]
      unfold wpOps
      simp only [h0]
      unfold wpQuiet at h
      split
      · rename_i hq
        rw [if_pos hq] at h
        exact Or.inl (Oper.wp_of_quiet hw (fun a' w' hw' h' => ih (k + 1) a' w' (fun j => by have := hm (j + 1); simpa [Nat.add_assoc, Nat.add_comm 1 j] using this) hw' h') h)
      · rename_i hq
        rw [if_neg hq] at h
        exact ih (k + 1) _ w (fun j => by have := hm (j + 1); simpa [Nat.add_assoc, Nat.add_comm 1 j] using this) hw h
  have := key l 0 a w (fun j => by simp) hC h
  rw [List.range_eq_range']
  simpa using this
theorem wp_plain_tail {id : Nat} {Q : Exit → Act → World → Prop} {w : World} {l : List Oper} (n : Nat) (hn : n ≤ l.length) (hC : C w) (h : wpQuiet Tryz.prog l.toArray C (fun a' => ∀ w', C w' → wpList Tryz.prog l.toArray Q (l.drop n) a' w') (l.take n) a) : (Code.region id l.toArray false).wp Tryz.prog Q a w := by
  refine wp_region ?_
  have key : ∀ (m : List Oper) (k : Nat) (a : Act) (w : World), (∀ j, j < m.length → m[j]? = l[k + j]?) → k + m.length = n → C w → wpQuiet Tryz.prog l.toArray C (fun a' => ∀ w', C w' → wpList Tryz.prog l.toArray Q (l.drop n) a' w') m a → wpOps Tryz.prog l.toArray Q (List.range' k (l.length - k)) a w := by
    intro m
    induction m with
    | nil =>
      intro k a w _ hk hw h
      have : k = n := by simpa using hk
      subst this
      have e := wpOps_eq_wpList (P := Tryz.prog) (ops := l.toArray) (Q := Q) (l.drop k) k (fun j => by simp)
      rw [List.length_drop] at e
      rw [e]
      exact h w hw
    | cons o m ih =>
      intro k a w hm hk hw h
      simp only [List.length_cons] at hk
      have h0 : l.toArray[k]? = some o := by simpa using (hm 0 (by simp)).symm
      rw [show l.length - k = (l.length - (k + 1)) + 1 by omega, List.range'_succ]
      unfold wpOps
      simp only [h0]
      have hm' : ∀ j, j < m.length → m[j]? = l[k + 1 + j]? := fun j hj => by have := hm (j + 1) (by simp; omega); simpa [Nat.add_assoc, Nat.add_comm 1 j] using this
      unfold wpQuiet at h
      split
      · rename_i hq
        rw [if_pos hq] at h
        exact Or.inl (Oper.wp_of_quiet hw (fun a' w' hw' h' => ih (k + 1) a' w' hm' (by omega) hw' h') h)
      · rename_i hq
        rw [if_neg hq] at h
        exact ih (k + 1) _ w hm' (by omega) hw h
  have htl : (l.take n).length = n := by simp; omega
  have := key (l.take n) 0 a w (fun j hj => by rw [htl] at hj; simp [hj]) (by omega) hC h
  rw [List.range_eq_range']
  simpa using this
end
structure Prd (C : World → Prop) (g q : Nat) (p : Pt) : Prop where
  cell : ∀ (j : Nat) (v : Value), p.cl[j]? = some v → ∀ w, C w → w.cell? ⟨g, q + j, none⟩ = some v
theorem ldb (A : Addr) (x : Bool) (w : World) (h : w.cell? A = some (.bool x)) : (Instr.loadAt 4 (.pointer (some A))).run Tryz.prog w = .ok (.bool x) w := by go_simp
theorem ldu (A : Addr) (x : Int) (w : World) (h : w.cell? A = some (.int .u8 x)) : (Instr.loadAt 5 (.pointer (some A))).run Tryz.prog w = .ok (.int .u8 x) w := by go_simp
theorem ldr (A : Addr) (x : Int) (w : World) (h : w.cell? A = some (.int .i64 x)) : (Instr.loadAt 44 (.pointer (some A))).run Tryz.prog w = .ok (.int .i64 x) w := by go_simp
theorem lds (A : Addr) (x : Int) (w : World) (h : w.cell? A = some (.int .i64 x)) : (Instr.loadAt 72 (.pointer (some A))).run Tryz.prog w = .ok (.int .i64 x) w := by go_simp
theorem Prd.bit {C : World → Prop} {g q j : Nat} {p : Pt} (r : Prd C g q p) (h : kdP[j]? = some none) : ∀ w, C w → (Instr.loadAt 4 (.pointer (some ⟨g, q + j, none⟩))).run Tryz.prog w = .ok (.bool (p.bt j)) w := fun w hw => ldb _ _ w (r.cell j _ (p.bit h) w hw)
theorem Prd.u8 {C : World → Prop} {g q j : Nat} {p : Pt} (r : Prd C g q p) (h : kdP[j]? = some (some .u8)) : ∀ w, C w → (Instr.loadAt 5 (.pointer (some ⟨g, q + j, none⟩))).run Tryz.prog w = .ok (.int .u8 (p.nm j)) w := fun w hw => ldu _ _ w (r.cell j _ (p.num h) w hw)
theorem Prd.role {C : World → Prop} {g q j : Nat} {p : Pt} (r : Prd C g q p) (h : kdP[j]? = some (some .i64)) : ∀ w, C w → (Instr.loadAt 44 (.pointer (some ⟨g, q + j, none⟩))).run Tryz.prog w = .ok (.int .i64 (p.nm j)) w := fun w hw => ldr _ _ w (r.cell j _ (p.num h) w hw)
theorem Prd.state {C : World → Prop} {g q j : Nat} {p : Pt} (r : Prd C g q p) (h : kdP[j]? = some (some .i64)) : ∀ w, C w → (Instr.loadAt 72 (.pointer (some ⟨g, q + j, none⟩))).run Tryz.prog w = .ok (.int .i64 (p.nm j)) w := fun w hw => lds _ _ w (r.cell j _ (p.num h) w hw)
theorem Prd.dt {C : World → Prop} {g q d j : Nat} {p : Pt} (r : Prd C g q p) (e : 40 + d = j) (h : kdP[j]? = some (some .u8)) : ∀ w, C w → (Instr.loadAt 5 (.pointer (some ⟨g, q + 40 + d, none⟩))).run Tryz.prog w = .ok (.int .u8 (p.nm j)) w := fun w hw => by
  rw [Nat.add_assoc, e]
  exact r.u8 h w hw
theorem eg_u8 (op : BinOp) (x y : Operand) (a b : Int) (w : World) : (eqGuard op 5 x y (.int .u8 a) (.int .u8 b)).run Tryz.prog w = .ok () w := by go_simp
theorem eg_role (op : BinOp) (x y : Operand) (a b : Int) (w : World) : (eqGuard op 44 x y (.int .i64 a) (.int .i64 b)).run Tryz.prog w = .ok () w := by go_simp
theorem eg_state (op : BinOp) (x y : Operand) (a b : Int) (w : World) : (eqGuard op 72 x y (.int .i64 a) (.int .i64 b)).run Tryz.prog w = .ok () w := by go_simp
theorem eq_u8 (a b : Int) (w : World) : (binOp .eql 5 (.int .u8 a) (.int .u8 b)).run Tryz.prog w = .ok (.bool (a == b)) w := by go_simp
theorem ne_u8 (a b : Int) (w : World) : (binOp .neq 5 (.int .u8 a) (.int .u8 b)).run Tryz.prog w = .ok (.bool (a != b)) w := by go_simp
theorem eq_role (a b : Int) (w : World) : (binOp .eql 44 (.int .i64 a) (.int .i64 b)).run Tryz.prog w = .ok (.bool (a == b)) w := by go_simp
theorem ne_role (a b : Int) (w : World) : (binOp .neq 44 (.int .i64 a) (.int .i64 b)).run Tryz.prog w = .ok (.bool (a != b)) w := by go_simp
theorem le_state (a b : Int) (w : World) : (binOp .leq 72 (.int .i64 a) (.int .i64 b)).run Tryz.prog w = .ok (.bool (decide (a ≤ b))) w := by go_simp
theorem fp3 : FAt 74 3 3 := fun b q w => by go_simp
theorem fp4 : FAt 74 4 4 := fun b q w => by go_simp
theorem fp5 : FAt 74 5 5 := fun b q w => by go_simp
theorem fp7 : FAt 74 7 7 := fun b q w => by go_simp
theorem fp8 : FAt 74 8 8 := fun b q w => by go_simp
theorem fp9 : FAt 74 9 9 := fun b q w => by go_simp
theorem fp10 : FAt 74 10 10 := fun b q w => by go_simp
theorem fp12 : FAt 74 12 12 := fun b q w => by go_simp
theorem fp13 : FAt 74 13 13 := fun b q w => by go_simp
theorem fp20 : FAt 74 20 20 := fun b q w => by go_simp
theorem fp22 : FAt 74 22 22 := fun b q w => by go_simp
theorem fp24 : FAt 74 24 24 := fun b q w => by go_simp
theorem fp25 : FAt 74 25 25 := fun b q w => by go_simp
theorem fp28 : FAt 74 28 28 := fun b q w => by go_simp
theorem fp30 : FAt 74 30 30 := fun b q w => by go_simp
theorem fp31 : FAt 74 31 31 := fun b q w => by go_simp
theorem fp34 : FAt 74 34 40 := fun b q w => by go_simp
theorem fp38 : FAt 74 38 65 := fun b q w => by go_simp
theorem fp41 : FAt 74 41 68 := fun b q w => by go_simp
theorem fp43 : FAt 74 43 70 := fun b q w => by go_simp
theorem fp46 : FAt 74 46 73 := fun b q w => by go_simp
theorem ft1 : FAt 24 1 1 := fun b q w => by go_simp
theorem ft2 : FAt 24 2 2 := fun b q w => by go_simp
theorem ft3 : FAt 24 3 3 := fun b q w => by go_simp
end S13
end
section
namespace S13
open Go.RowKit

def setlP (p : Pt) : Bool := p.bt 22 && !p.bt 28 && decide (p.nm 30 = p.nm 31)
def okS (i : Int) (k : Nat) (p : Pt) : Bool := setlP p && (decide ((k : Int) = i) || p.bt 25 || decide (p.nm 30 = 3))
def okR (i : Int) (k : Nat) (p : Pt) : Bool := decide ((k : Int) = i) || decide (p.nm 70 = 0)
def allK (f : Nat → Pt → Bool) (l : List Pt) : Bool := (List.range l.length).all fun k => f k (gtP l k)
theorem allK_yes {f : Nat → Pt → Bool} {l : List Pt} (h : ∀ k, k < l.length → f k (gtP l k) = true) : allK f l = true := by
  unfold allK
  rw [List.all_eq_true]
  intro k hk
  exact h k (by simpa using hk)
theorem allK_no {f : Nat → Pt → Bool} {l : List Pt} {k : Nat} (hk : k < l.length) (h : f k (gtP l k) = false) : allK f l = false := by
  cases e : allK f l with
  | false => rfl
  | true =>
    unfold allK at e
    rw [List.all_eq_true] at e
    have := e k (by simpa using hk)
    rw [h] at this
    cases this
def delayP (p : Pt) : Int := if p.bt 23 = true then p.nm 42 else p.nm 43
attribute [local go_sem ↓] ldP stP ldT stT
theorem zeroPortA (w : World) : (zeroValue 74).run Tryz.prog w = .ok (.agg zeroP.cs) w := by kernel_rfl
attribute [local go_sem] zeroPortA
attribute [local go_sem ↓] alP
attribute [local go_sem] alP_run
theorem one_p (w : World) (p : Pt) : ∃ W, w.alloc (.cells p.cs 74) = W ∧ RvAt W w.heap.size 74 p.cs ∧ Below w.heap.size w W :=
  ⟨_, rfl, RvAt.new w _ _, (Below.refl _ _).alloc (Nat.le_refl _) _⟩
set_option maxHeartbeats 4000000 in
theorem settled_any (p : Pt) (w : World) : Calls Tryz.prog 308 #[.agg p.cs] w fun r w' => r = .returned (.bool (setlP p)) ∧ Below w.heap.size w w' := by
  obtain ⟨W, hW, r0, bW⟩ := one_p w p
  have c22 := r0.pbit (j := 22) rfl
  have c28 := r0.pbit (j := 28) rfl
  have c30 := r0.pnum (j := 30) rfl
  have c31 := r0.pnum (j := 31) rfl
  have H : Hid (Below w.heap.size w W) := bW
  have E : Hid (setlP p = (p.bt 22 && !p.bt 28 && decide (p.nm 30 = p.nm 31))) := rfl
  generalize p.nm 30 = x at c30 E
  generalize p.nm 31 = y at c31 E
  clear r0 bW
  go_enter Tryz.func308, Tryz.ntmps308
  cases h22 : p.bt 22 <;> rw [h22] at c22 E
  · go_wp2
    go_ret
    exact ⟨by rw [E.out]; rfl, H.out⟩
  · cases h28 : p.bt 28 <;> rw [h28] at c28 E
    · by_cases hx : x = y
      · subst hx
        go_wp2
        go_ret
        exact ⟨by rw [E.out]; simp, H.out⟩
      · have hxb : (x == y) = false := by simpa using hx
        have hxn : (x != y) = true := by simpa using hx
        go_wp2
        go_ret
        exact ⟨by rw [E.out]; simp [hx], H.out⟩
    · go_wp2
      go_ret
      exact ⟨by rw [E.out]; rfl, H.out⟩
set_option maxHeartbeats 4000000 in
theorem delay_any (p : Pt) (w : World) : Calls Tryz.prog 295 #[.agg p.cs] w fun r w' => r = .returned (.int .u8 (delayP p)) ∧ Below w.heap.size w w' := by
  obtain ⟨W, hW, r0, bW⟩ := one_p w p
  have c23 := r0.pbit (j := 23) rfl
  have c42 := r0.pnum (j := 42) rfl
  have c43 := r0.pnum (j := 43) rfl
  have H : Hid (Below w.heap.size w W) := bW
  clear r0 bW
  go_enter Tryz.func295, Tryz.ntmps295
  cases h23 : p.bt 23 <;> rw [h23] at c23
  · go_wp2
    go_ret
    exact ⟨by unfold delayP; rw [h23]; rfl, H.out⟩
  · go_wp2
    go_ret
    exact ⟨by unfold delayP; rw [h23]; rfl, H.out⟩
@[go_sem] theorem ixB0 (a b c : Bool) (w : World) : (Instr.index 221 (.agg #[.bool a, .bool b, .bool c]) (.int .i64 0)).run Tryz.prog w = .ok (.bool a) w := by kernel_rfl
@[go_sem] theorem ixB1 (a b c : Bool) (w : World) : (Instr.index 221 (.agg #[.bool a, .bool b, .bool c]) (.int .i64 1)).run Tryz.prog w = .ok (.bool b) w := by kernel_rfl
@[go_sem] theorem ixB2 (a b c : Bool) (w : World) : (Instr.index 221 (.agg #[.bool a, .bool b, .bool c]) (.int .i64 2)).run Tryz.prog w = .ok (.bool c) w := by kernel_rfl
set_option maxHeartbeats 8000000 in
theorem allS_any (h : Hd) (a : Option Addr) (n c : Nat) (l : List Pt) (i : Int) (w : World) (hs : SlAt w a n c l) (hn : n ≤ 1000) :
    Calls Tryz.prog 292 #[.agg (trc h (.slice a n c)), .int .i64 i] w fun r w' => r = .returned (.bool (allK (okS i) l)) ∧ Below w.heap.size w w' := by
  obtain ⟨W, hW, r0, bW, zW⟩ := one_t w h (.slice a n c)
  have H : Hid (SlAt W a n c l ∧ n ≤ 1000 ∧ l.length = n ∧ Below w.heap.size w W) := ⟨hs.below bW, hn, hs.len, bW⟩
  have c16 := r0.t16
  have hnn : (n : Int) ≤ 1000 := by omega
  clear hs hn r0 bW zW
  go_enter Tryz.func292, Tryz.ntmps292
  go_wp2_with fail
  go_step3
  go_wp2_with fail
  go_step3
  go_wp2_with fail
  go_loopw [12] (fun v12 wr => ∃ k : Nat, k ≤ n ∧ v12 = .int .i64 k ∧ (∀ j, j < k → okS i j (gtP l j) = true) ∧ Below W.heap.size W wr) (fun v12 _ => n - (intOf v12).toNat)
  case atStart => exact ⟨0, by omega, rfl, fun j hj => by omega, by first | exact Below.refl _ _ | (rw [← hW]; exact Below.refl _ _)⟩
  case round =>
    obtain ⟨k, hk, rfl, ht, hB⟩ := hrel
    have J : Hid ((∀ j, j < k → okS i j (gtP l j) = true) ∧ Below W.heap.size W wr) := ⟨ht, hB⟩
    have hin0 : (0 : Int) ≤ (k : Int) := by omega
    by_cases hit : k < n
    · have hin1 : (k : Int) < (n : Int) := by omega
      have hkl : k < l.length := by rw [H.out.2.2.1]; exact hit
      obtain ⟨b, o, rfl⟩ := H.out.1.some' (by omega)
      obtain ⟨x, hx⟩ : ∃ x, gtP l k = x := ⟨_, rfl⟩
      have lp := (H.out.1.below hB).ld (gtP_at hkl)
      rw [hx] at lp
      obtain ⟨V, sV, rV, bV, zV⟩ := row_new rtP wr zeroP.cs x.cs (by rw [Row.csize, lenP]) (by rw [Row.csize, lenP]) (Row.one' _)
      have lv := rV.pld
      have HK : Hid (k < l.length ∧ gtP l k = x) := ⟨hkl, hx⟩
      have R : Hid (RvAt V wr.heap.size 74 x.cs ∧ Below W.heap.size W V) := ⟨rV, below_over hB bV⟩
      clear ht hB rV bV zV hkl hx
      go_wp2_with fail
      refine (settled_any x V).mono ?_
      rintro _ V2 ⟨rfl, b2⟩
      have J4 : Hid (Below W.heap.size W V2) := below_over R.out.2 b2
      have r2 := R.out.1.below b2
      have c25 := r2.pbit (j := 25) rfl
      have c30 := r2.pnum (j := 30) rfl
      have E : Hid (okS i k (gtP l k) = (setlP x && (decide ((k : Int) = i) || x.bt 25 || decide (x.nm 30 = 3)))) := by rw [HK.out.2]; exact rfl
      generalize x.nm 30 = y at c30 E
      clear sV lv lp b2 r2
      have NX0 : okS i k (gtP l k) = true → ∀ j, j < k + 1 → okS i j (gtP l j) = true := fun e j hj => by
        by_cases hjk : j = k
        · rw [hjk]; exact e
        · exact J.out.1 j (by omega)
      cases h1 : setlP x <;> rw [h1] at E
      · have NO : Hid (allK (okS i) l = false) := allK_no HK.out.1 (by rw [E.out]; rfl)
        clear NX0
        go_wp2
        rw [Exit.noGoto_ret]
        go_ret
        exact ⟨by rw [NO.out]; rfl, below_over H.out.2.2.2 J4.out⟩
      · by_cases h2 : (k : Int) = i
        · have NX : Hid (∀ j, j < k + 1 → okS i j (gtP l j) = true) := NX0 (by rw [E.out]; simp [h2])
          clear NX0
          subst h2
          go_wp2_with fail
          go_rounds 4
          go_roundw
          case rel => exact ⟨k + 1, by omega, by go_num, NX.out, J4.out⟩
          case measure => simp [intOf]; omega
        · have h2b : ((k : Int) == i) = false := by simpa using h2
          have h2n : ((k : Int) != i) = true := by simpa using h2
          cases h3 : x.bt 25 <;> rw [h3] at c25 E
          · by_cases h4 : y = 3
            · have NX : Hid (∀ j, j < k + 1 → okS i j (gtP l j) = true) := NX0 (by rw [E.out]; simp [h4])
              clear NX0
              subst h4
              go_wp2_with fail
              go_rounds 4
              go_roundw
              case rel => exact ⟨k + 1, by omega, by go_num, NX.out, J4.out⟩
              case measure => simp [intOf]; omega
            · have h4b : (y == 3) = false := by simpa using h4
              have h4n : (y != 3) = true := by simpa using h4
              have NO : Hid (allK (okS i) l = false) := allK_no HK.out.1 (by rw [E.out]; simp [h2, h4])
              clear NX0
              go_wp2_with fail
              go_rounds 4
              rw [Exit.noGoto_ret]
              go_ret
              exact ⟨by rw [NO.out]; rfl, below_over H.out.2.2.2 J4.out⟩
          · have NX : Hid (∀ j, j < k + 1 → okS i j (gtP l j) = true) := NX0 (by rw [E.out]; simp)
            clear NX0
            go_wp2_with fail
            go_rounds 4
            go_roundw
            case rel => exact ⟨k + 1, by omega, by go_num, NX.out, J4.out⟩
            case measure => simp [intOf]; omega
    · have hin : k = n := by omega
      subst hin
      have hin1 : ¬ (k : Int) < (k : Int) := by omega
      clear ht hB
      go_wp2
      try rw [Exit.noGoto_ret]
      go_ret
      exact ⟨by rw [allK_yes (fun j hj => J.out.1 j (by rw [H.out.2.2.1] at hj; exact hj))]; rfl, below_over H.out.2.2.2 J.out.2⟩
set_option maxHeartbeats 8000000 in
theorem allR_any (h : Hd) (a : Option Addr) (n c : Nat) (l : List Pt) (i : Int) (w : World) (hs : SlAt w a n c l) (hn : n ≤ 1000) :
    Calls Tryz.prog 291 #[.agg (trc h (.slice a n c)), .int .i64 i] w fun r w' => r = .returned (.bool (allK (okR i) l)) ∧ Below w.heap.size w w' := by
  obtain ⟨W, hW, r0, bW, zW⟩ := one_t w h (.slice a n c)
  have H : Hid (SlAt W a n c l ∧ n ≤ 1000 ∧ l.length = n ∧ Below w.heap.size w W ∧ RvAt W w.heap.size 39 (trc h (.slice a n c))) := ⟨hs.below bW, hn, hs.len, bW, r0⟩
  have c16 := r0.t16
  have hnn : (n : Int) ≤ 1000 := by omega
  clear hs hn r0 bW zW
  go_enter Tryz.func291, Tryz.ntmps291
  go_wp2_with fail
  go_step3
  go_wp2_with fail
  go_step3
  go_wp2_with fail
  clear c16
  go_loopw [10] (fun v5 wr => ∃ k : Nat, k ≤ n ∧ v5 = .int .i64 k ∧ (∀ j, j < k → okR i j (gtP l j) = true) ∧ Below W.heap.size W wr) (fun v5 _ => n - (intOf v5).toNat)
  case atStart => exact ⟨0, by omega, rfl, fun j hj => by omega, by first | exact Below.refl _ _ | (rw [← hW]; exact Below.refl _ _)⟩
  case round =>
    obtain ⟨k, hk, rfl, ht, hB⟩ := hrel
    have J : Hid ((∀ j, j < k → okR i j (gtP l j) = true) ∧ Below W.heap.size W wr) := ⟨ht, hB⟩
    have hin0 : (0 : Int) ≤ (k : Int) := by omega
    have c16 := (H.out.2.2.2.2.below hB).t16
    have NX0 : okR i k (gtP l k) = true → ∀ j, j < k + 1 → okR i j (gtP l j) = true := fun e j hj => by
      by_cases hjk : j = k
      · rw [hjk]; exact e
      · exact J.out.1 j (by omega)
    by_cases hit : k < n
    · have hin1 : (k : Int) < (n : Int) := by omega
      have hkl : k < l.length := by rw [H.out.2.2.1]; exact hit
      obtain ⟨b, o, rfl⟩ := H.out.1.some' (by omega)
      obtain ⟨x, hx⟩ : ∃ x, gtP l k = x := ⟨_, rfl⟩
      have HK : Hid (k < l.length ∧ gtP l k = x) := ⟨hkl, hx⟩
      have lp := (H.out.1.below hB).ld (gtP_at hkl)
      rw [hx] at lp
      obtain ⟨V, sV, rV, bV, zV⟩ := row_new rtP wr zeroP.cs x.cs (by rw [Row.csize, lenP]) (by rw [Row.csize, lenP]) (Row.one' _)
      have R : Hid (Below W.heap.size W V) := below_over hB bV
      have c70 := rV.pnum (j := 70) rfl
      have E : Hid (okR i k (gtP l k) = (decide ((k : Int) = i) || decide (x.nm 70 = 0))) := by rw [HK.out.2]; exact rfl
      generalize x.nm 70 = y at c70 E
      clear ht hB rV bV zV hkl hx
      by_cases h4 : (k : Int) = i
      · subst h4
        have NX : Hid (∀ j, j < k + 1 → okR (k : Int) j (gtP l j) = true) := NX0 (by rw [E.out]; simp)
        clear NX0
        go_wp2
        go_roundw
        case rel => exact ⟨k + 1, by omega, by go_num, NX.out, R.out⟩
        case measure => simp [intOf]; omega
      · have h4b : ((k : Int) == i) = false := by simpa using h4
        have h4n : ((k : Int) != i) = true := by simpa using h4
        by_cases h6 : y = 0
        · subst h6
          have NX : Hid (∀ j, j < k + 1 → okR i j (gtP l j) = true) := NX0 (by rw [E.out]; simp)
          clear NX0
          go_wp2
          go_roundw
          case rel => exact ⟨k + 1, by omega, by go_num, NX.out, R.out⟩
          case measure => simp [intOf]; omega
        · have h6b : (y == 0) = false := by simpa using h6
          have h6n : (y != 0) = true := by simpa using h6
          have NO : Hid (allK (okR i) l = false) := allK_no HK.out.1 (by rw [E.out]; simp [h4, h6])
          clear NX0
          go_wp2
          try rw [Exit.noGoto_ret]
          go_ret
          exact ⟨by rw [NO.out]; rfl, below_over H.out.2.2.2.1 R.out⟩
    · have hin : k = n := by omega
      subst hin
      have hin1 : ¬ (k : Int) < (k : Int) := by omega
      clear ht hB
      go_wp2
      try rw [Exit.noGoto_ret]
      go_ret
      exact ⟨by rw [allK_yes (fun j hj => J.out.1 j (by rw [H.out.2.2.1] at hj; exact hj))]; rfl, below_over H.out.2.2.2.1 J.out.2⟩
end S13
end
section
namespace S13
open Go.RowKit

def chc (h : Hd) (x : Value) (k : Int) : Array Value := (h.cl ++ [x, .int .i64 k]).toArray
theorem chc_size (h : Hd) (x : Value) (k : Int) : (chc h x k).size = 18 := by simp [chc, h.len, lenH]
theorem chc_16 (h : Hd) (x : Value) (k : Int) : (chc h x k)[16]? = some x := by
  have := h.len
  rw [lenH] at this
  simp only [chc, List.getElem?_toArray]
  rw [List.getElem?_append_right (by omega), this]
  rfl
theorem chc_17 (h : Hd) (x : Value) (k : Int) : (chc h x k)[17]? = some (.int .i64 k) := by
  have := h.len
  rw [lenH] at this
  simp only [chc, List.getElem?_toArray]
  rw [List.getElem?_append_right (by omega), this]
  rfl
theorem chc_get {h : Hd} {x v : Value} {k : Int} {j : Nat} (hv : (trc h x)[j]? = some v) : (chc h x k)[j]? = some v := by
  have hl := h.len
  rw [lenH] at hl
  have hj := (Array.getElem?_eq_some_iff.1 hv).1
  rw [trc_size] at hj
  simp only [trc, List.getElem?_toArray] at hv
  simp only [chc, List.getElem?_toArray]
  rw [show h.cl ++ [x, .int .i64 k] = (h.cl ++ [x]) ++ [.int .i64 k] by simp, List.getElem?_append_left (by simp; omega)]
  exact hv
theorem _root_.Go.Proofs.YtlchejbggnbccaaGreat.RvAt.h16 {W : World} {b : Nat} {h : Hd} {x : Value} {k : Int} (hb : RvAt W b 182 (chc h x k)) : W.cell? ⟨b, 16, none⟩ = some x := hb.cell 16 _ (chc_16 h x k)
theorem _root_.Go.Proofs.YtlchejbggnbccaaGreat.RvAt.h17 {W : World} {b : Nat} {h : Hd} {x : Value} {k : Int} (hb : RvAt W b 182 (chc h x k)) : W.cell? ⟨b, 17, none⟩ = some (.int .i64 k) := hb.cell 17 _ (chc_17 h x k)
theorem _root_.Go.Proofs.YtlchejbggnbccaaGreat.RvAt.htree {W : World} {b : Nat} {h : Hd} {x : Value} {k : Int} (hb : RvAt W b 182 (chc h x k)) : (ldS 39 (.pointer (some ⟨b, 0, none⟩))).run Tryz.prog W = .ok (.agg (trc h x)) W :=
  run_loadAt_mid W b 0 39 (trc h x).toList _ (fun j v hv => by
    rw [Nat.zero_add]
    exact hb.cell j v (chc_get (by simpa using hv))) Tryz.underlying39 rfl (by rw [Array.length_toList, trc_size]; exact infoT)
theorem chc_tree (h g : Hd) (x y : Value) (k : Int) : ((chc h x k).toList.take 0 ++ (trc g y).toList ++ (chc h x k).toList.drop (0 + (trc g y).size)).toArray = chc g y k := by
  have hl := h.len
  rw [lenH] at hl
  rw [trc_size]
  simp only [chc, trc, List.take_zero, List.nil_append, Nat.zero_add]
  rw [show h.cl ++ [x, .int .i64 k] = (h.cl ++ [x]) ++ [.int .i64 k] by simp, List.drop_append_of_le_length (by simp; omega), List.drop_eq_nil_of_le (by simp; omega)]
  simp
theorem _root_.Go.Proofs.YtlchejbggnbccaaGreat.RvAt.hst {W : World} {b : Nat} {h g : Hd} {x y : Value} {k : Int} (hb : RvAt W b 182 (chc h x k)) (hy : y.oneCell' = true) :
    ∃ W', (stS 39 (.pointer (some ⟨b, 0, none⟩)) (.agg (trc g y))).run Tryz.prog W = .ok () W' ∧ RvAt W' b 182 (chc g y k) ∧ W.grownBy W' (some b) := by
  have hs := store_cells (ty := 39) (o := 0) (cs := trc g y) hb (by rw [trc_size]; exact infoT) (by rw [trc_size, chc_size]; omega) (trc_one hy)
  rw [chc_tree] at hs
  exact ⟨_, hs, hb.set, grown_row _ _ _⟩
structure CS (W : World) (b : Nat) (h : Hd) (g o n c k : Nat) (l : List Pt) : Prop where
  var : RvAt W b 182 (chc h (.slice (some ⟨g, o, none⟩) n c) k)
  sl : SlAt W (some ⟨g, o, none⟩) n c l
  hk : k < n
  hn : n ≤ 1000
theorem CS.below {W V : World} {b g o n c k : Nat} {h : Hd} {l : List Pt} (s : CS W b h g o n c k l) (e : Below W.heap.size W V) : CS V b h g o n c k l := ⟨s.var.below e, s.sl.below e, s.hk, s.hn⟩
theorem CS.lt {W : World} {b g o n c k : Nat} {h : Hd} {l : List Pt} (s : CS W b h g o n c k l) : k < l.length := by rw [s.sl.len]; exact s.hk
theorem CS.cell {W : World} {b g o n c k : Nat} {h : Hd} {l : List Pt} (s : CS W b h g o n c k l) {j : Nat} {v : Value} (hv : (gtP l k).cl[j]? = some v) : W.cell? ⟨g, o + k * 77 + j, none⟩ = some v :=
  s.sl.cell (gtP_at s.lt) hv (by rw [← Pt.len (gtP l k)]; exact (List.getElem?_eq_some_iff.1 hv).1)
theorem CS.rd {W : World} {b g o n c k : Nat} {h : Hd} {l : List Pt} (s : CS W b h g o n c k l) : Prd (fun w' => ∃ x : Later W, w' = x.val) g (o + k * 77) (gtP l k) := ⟨fun j v hv w hw => by
  obtain ⟨x, rfl⟩ := hw
  exact (s.below x.below).cell hv⟩
attribute [local go_sem ↓] ldP stP ldT stT
set_option maxHeartbeats 2000000 in
theorem port_any {W : World} {b g o n c k : Nat} {h : Hd} {l : List Pt} (s : CS W b h g o n c k l) :
    Calls Tryz.prog 204 #[.pointer (some ⟨b, 0, none⟩)] W fun r W' => r = .returned (.pointer (some ⟨g, o + k * 77, none⟩)) ∧ Below W.heap.size W W' := by
  have f16 := fun x : Later W => (s.below x.below).var.h16
  have f17 := fun x : Later W => (s.below x.below).var.h17
  have hk := s.hk
  have hin0 : (0 : Int) ≤ (k : Int) := by omega
  have hin1 : (k : Int) < (n : Int) := by omega
  clear s hk
  go_enter Tryz.func204, Tryz.ntmps204
  go_wp2_with fail
  refine wp_region_later (by kernel_rfl) (by kernel_rfl) ?_
  repeat (go_big_quiet_step (first | exact rfl))
  refine wpQuiet_nil ?_
  intro _ hw'
  obtain ⟨y, rfl⟩ := hw'
  go_wp2
  go_ret
  exact ⟨rfl, y.below⟩
end S13
end
section
namespace S13
open Go.RowKit

def mayP (p : Pt) : Bool := ((p.nm 65 == 0) || p.bt 4) && ((p.nm 70 == 0) || !p.bt 20) && !p.bt 24
def askP (p : Pt) : Bool := p.bt 24 || p.bt 20 || !p.bt 25
set_option maxHeartbeats 4000000 in
theorem may_any {W : World} {b g o n c k : Nat} {h : Hd} {l : List Pt} (s : CS W b h g o n c k l) :
    Calls Tryz.prog 271 #[.pointer (some ⟨b, 0, none⟩)] W fun r W' => r = .returned (.bool (mayP (gtP l k))) ∧ Below W.heap.size W W' := by
  have H : Hid (CS W b h g o n c k l) := s
  obtain ⟨p, hp⟩ : ∃ p, gtP l k = p := ⟨_, rfl⟩
  rw [hp]
  have R0 : ∀ V, Below W.heap.size W V → Prd (fun w' => ∃ x : Later V, w' = x.val) g (o + k * 77) p := fun V hV => by rw [← hp]; exact (H.out.below hV).rd
  obtain ⟨q, hq⟩ : ∃ q, o + k * 77 = q := ⟨_, rfl⟩
  rw [hq] at R0
  clear s hp
  go_enter Tryz.func271, Tryz.ntmps271
  go_wp2_with fail
  refine (port_any H.out).mono ?_
  rintro _ V ⟨rfl, b1⟩
  rw [hq]
  have R := R0 V b1
  have B : Hid (Below W.heap.size W V) := b1
  clear R0 b1 hq
  go_upto_region 2 with fail
  refine wp_plain (C := fun w' => ∃ x : Later V, w' = x.val) ⟨⟨_, Below.refl _ _⟩, rfl⟩ ?_
  refine q_put (v := .pointer (some ⟨g, q, none⟩)) (yq rfl (Rn.qt (qmove rfl rfl))) ?_
  try simp only [Act.put, List.setIfInBounds_toArray, List.set_cons_zero, List.set_cons_succ]
  refine q_put (v := .pointer (some ⟨g, q, none⟩)) (yq rfl (Rn.qt (qnil rfl rfl))) ?_
  try simp only [Act.put, List.setIfInBounds_toArray, List.set_cons_zero, List.set_cons_succ]
  refine q_put (v := .pointer (some ⟨g, q + 65, none⟩)) (yq rfl (Rn.qt (qfield rfl rfl fp38))) ?_
  try simp only [Act.put, List.setIfInBounds_toArray, List.set_cons_zero, List.set_cons_succ]
  refine q_put (v := .int .u8 (p.nm 65)) (yq rfl (Rn.qt (qload rfl rfl (R.u8 rfl)))) ?_
  try simp only [Act.put, List.setIfInBounds_toArray, List.set_cons_zero, List.set_cons_succ]
  refine q_put (v := .bool ((p.nm 65) == 0)) (yq rfl (Rn.qt (qbin rfl rfl rfl (eg_u8 _ _ _ _ _) (eq_u8 _ _)))) ?_
  try simp only [Act.put, List.setIfInBounds_toArray, List.set_cons_zero, List.set_cons_succ]
  refine q_put (v := .bool ((p.nm 65) == 0)) (yq rfl (Rn.qt (qmove rfl rfl))) ?_
  try simp only [Act.put, List.setIfInBounds_toArray, List.set_cons_zero, List.set_cons_succ]
  refine q_put (v := gd ((p.nm 65) == 0) false (.pointer (some ⟨g, q, none⟩))) (yq1 rfl rfl (fun e => Rn.qt (qmove rfl rfl))) ?_
  try simp only [Act.put, List.setIfInBounds_toArray, List.set_cons_zero, List.set_cons_succ]
  refine q_put (v := gd ((p.nm 65) == 0) false (.pointer (some ⟨g, q, none⟩))) (yq1 rfl rfl (fun e => Rn.qt (qnil rfl (on e rfl)))) ?_
  try simp only [Act.put, List.setIfInBounds_toArray, List.set_cons_zero, List.set_cons_succ]
  refine q_put (v := gd ((p.nm 65) == 0) false (.pointer (some ⟨g, q + 4, none⟩))) (yq1 rfl rfl (fun e => Rn.qt (qfield rfl (on e rfl) fp4))) ?_
  try simp only [Act.put, List.setIfInBounds_toArray, List.set_cons_zero, List.set_cons_succ]
  refine q_put (v := gd ((p.nm 65) == 0) false (.bool (p.bt 4))) (yq1 rfl rfl (fun e => Rn.qt (qload rfl (on e rfl) (R.bit rfl)))) ?_
  try simp only [Act.put, List.setIfInBounds_toArray, List.set_cons_zero, List.set_cons_succ]
  refine q_put (v := .bool (((p.nm 65) == 0) || (p.bt 4))) (yq rfl (Rn.qt (qpick rfl rfl (pkO rfl rfl)))) ?_
  try simp only [Act.put, List.setIfInBounds_toArray, List.set_cons_zero, List.set_cons_succ]
  refine q_put (v := .bool (((p.nm 65) == 0) || (p.bt 4))) (yq rfl (Rn.qt (qmove rfl rfl))) ?_
  try simp only [Act.put, List.setIfInBounds_toArray, List.set_cons_zero, List.set_cons_succ]
  refine q_put (v := gd (((p.nm 65) == 0) || (p.bt 4)) true (.pointer (some ⟨g, q, none⟩))) (yq1 rfl rfl (fun e => Rn.qt (qmove rfl rfl))) ?_
  try simp only [Act.put, List.setIfInBounds_toArray, List.set_cons_zero, List.set_cons_succ]
  refine q_put (v := gd (((p.nm 65) == 0) || (p.bt 4)) true (.pointer (some ⟨g, q, none⟩))) (yq1 rfl rfl (fun e => Rn.qt (qnil rfl (on e rfl)))) ?_
  try simp only [Act.put, List.setIfInBounds_toArray, List.set_cons_zero, List.set_cons_succ]
  refine q_put (v := gd (((p.nm 65) == 0) || (p.bt 4)) true (.pointer (some ⟨g, q + 70, none⟩))) (yq1 rfl rfl (fun e => Rn.qt (qfield rfl (on e rfl) fp43))) ?_
  try simp only [Act.put, List.setIfInBounds_toArray, List.set_cons_zero, List.set_cons_succ]
  refine q_put (v := gd (((p.nm 65) == 0) || (p.bt 4)) true (.int .u8 (p.nm 70))) (yq1 rfl rfl (fun e => Rn.qt (qload rfl (on e rfl) (R.u8 rfl)))) ?_
  try simp only [Act.put, List.setIfInBounds_toArray, List.set_cons_zero, List.set_cons_succ]
  refine q_put (v := gd (((p.nm 65) == 0) || (p.bt 4)) true (.bool ((p.nm 70) == 0))) (yq1 rfl rfl (fun e => Rn.qt (qbin rfl (on e rfl) rfl (eg_u8 _ _ _ _ _) (eq_u8 _ _)))) ?_
  try simp only [Act.put, List.setIfInBounds_toArray, List.set_cons_zero, List.set_cons_succ]
  refine q_put (v := gd (((p.nm 65) == 0) || (p.bt 4)) true (.bool ((p.nm 70) == 0))) (yq1 rfl rfl (fun e => Rn.qt (qmove rfl (on e rfl)))) ?_
  try simp only [Act.put, List.setIfInBounds_toArray, List.set_cons_zero, List.set_cons_succ]
  refine q_put (v := gd (((p.nm 65) == 0) || (p.bt 4)) true (gd ((p.nm 70) == 0) false (.pointer (some ⟨g, q, none⟩)))) (yq2 rfl rfl (fun e1 e2 => Rn.qt (qmove rfl rfl))) ?_
  try simp only [Act.put, List.setIfInBounds_toArray, List.set_cons_zero, List.set_cons_succ]
  refine q_put (v := gd (((p.nm 65) == 0) || (p.bt 4)) true (gd ((p.nm 70) == 0) false (.pointer (some ⟨g, q, none⟩)))) (yq2 rfl rfl (fun e1 e2 => Rn.qt (qnil rfl (on e2 (on e1 rfl))))) ?_
  try simp only [Act.put, List.setIfInBounds_toArray, List.set_cons_zero, List.set_cons_succ]
  refine q_put (v := gd (((p.nm 65) == 0) || (p.bt 4)) true (gd ((p.nm 70) == 0) false (.pointer (some ⟨g, q + 20, none⟩)))) (yq2 rfl rfl (fun e1 e2 => Rn.qt (qfield rfl (on e2 (on e1 rfl)) fp20))) ?_
  try simp only [Act.put, List.setIfInBounds_toArray, List.set_cons_zero, List.set_cons_succ]
  refine q_put (v := gd (((p.nm 65) == 0) || (p.bt 4)) true (gd ((p.nm 70) == 0) false (.bool (p.bt 20)))) (yq2 rfl rfl (fun e1 e2 => Rn.qt (qload rfl (on e2 (on e1 rfl)) (R.bit rfl)))) ?_
  try simp only [Act.put, List.setIfInBounds_toArray, List.set_cons_zero, List.set_cons_succ]
  refine q_put (v := gd (((p.nm 65) == 0) || (p.bt 4)) true (gd ((p.nm 70) == 0) false (.bool (!(p.bt 20))))) (yq2 rfl rfl (fun e1 e2 => Rn.qt (qnot rfl (on e2 (on e1 rfl))))) ?_
  try simp only [Act.put, List.setIfInBounds_toArray, List.set_cons_zero, List.set_cons_succ]
  refine q_put (v := gd (((p.nm 65) == 0) || (p.bt 4)) true (.bool (((p.nm 70) == 0) || (!(p.bt 20))))) (yq1 rfl rfl (fun e => Rn.qt (qpick rfl (on e rfl) (pkO rfl (on e rfl))))) ?_
  try simp only [Act.put, List.setIfInBounds_toArray, List.set_cons_zero, List.set_cons_succ]
  refine q_put (v := .bool ((((p.nm 65) == 0) || (p.bt 4)) && (((p.nm 70) == 0) || (!(p.bt 20))))) (yq rfl (Rn.qt (qpick rfl rfl (pkA rfl rfl)))) ?_
  try simp only [Act.put, List.setIfInBounds_toArray, List.set_cons_zero, List.set_cons_succ]
  refine q_put (v := .bool ((((p.nm 65) == 0) || (p.bt 4)) && (((p.nm 70) == 0) || (!(p.bt 20))))) (yq rfl (Rn.qt (qmove rfl rfl))) ?_
  try simp only [Act.put, List.setIfInBounds_toArray, List.set_cons_zero, List.set_cons_succ]
  refine q_put (v := gd ((((p.nm 65) == 0) || (p.bt 4)) && (((p.nm 70) == 0) || (!(p.bt 20)))) true (.pointer (some ⟨g, q, none⟩))) (yq1 rfl rfl (fun e => Rn.qt (qmove rfl rfl))) ?_
  try simp only [Act.put, List.setIfInBounds_toArray, List.set_cons_zero, List.set_cons_succ]
  refine q_put (v := gd ((((p.nm 65) == 0) || (p.bt 4)) && (((p.nm 70) == 0) || (!(p.bt 20)))) true (.pointer (some ⟨g, q, none⟩))) (yq1 rfl rfl (fun e => Rn.qt (qnil rfl (on e rfl)))) ?_
  try simp only [Act.put, List.setIfInBounds_toArray, List.set_cons_zero, List.set_cons_succ]
  refine q_put (v := gd ((((p.nm 65) == 0) || (p.bt 4)) && (((p.nm 70) == 0) || (!(p.bt 20)))) true (.pointer (some ⟨g, q + 24, none⟩))) (yq1 rfl rfl (fun e => Rn.qt (qfield rfl (on e rfl) fp24))) ?_
  try simp only [Act.put, List.setIfInBounds_toArray, List.set_cons_zero, List.set_cons_succ]
  refine q_put (v := gd ((((p.nm 65) == 0) || (p.bt 4)) && (((p.nm 70) == 0) || (!(p.bt 20)))) true (.bool (p.bt 24))) (yq1 rfl rfl (fun e => Rn.qt (qload rfl (on e rfl) (R.bit rfl)))) ?_
  try simp only [Act.put, List.setIfInBounds_toArray, List.set_cons_zero, List.set_cons_succ]
  refine q_put (v := gd ((((p.nm 65) == 0) || (p.bt 4)) && (((p.nm 70) == 0) || (!(p.bt 20)))) true (.bool (!(p.bt 24)))) (yq1 rfl rfl (fun e => Rn.qt (qnot rfl (on e rfl)))) ?_
  try simp only [Act.put, List.setIfInBounds_toArray, List.set_cons_zero, List.set_cons_succ]
  refine q_put (v := .bool (((((p.nm 65) == 0) || (p.bt 4)) && (((p.nm 70) == 0) || (!(p.bt 20)))) && (!(p.bt 24)))) (yq rfl (Rn.qt (qpick rfl rfl (pkA rfl rfl)))) ?_
  try simp only [Act.put, List.setIfInBounds_toArray, List.set_cons_zero, List.set_cons_succ]
  refine q_put (v := .bool (((((p.nm 65) == 0) || (p.bt 4)) && (((p.nm 70) == 0) || (!(p.bt 20)))) && (!(p.bt 24)))) (yq rfl (Rn.qt (qassign rfl rfl))) ?_
  try simp only [Act.put, List.setIfInBounds_toArray, List.set_cons_zero, List.set_cons_succ]
  refine wpQuiet_nil ?_
  intro _ hw'
  obtain ⟨y, rfl⟩ := hw'
  go_wp2
  go_ret
  exact ⟨rfl, below_over B.out y.below⟩
set_option maxHeartbeats 4000000 in
theorem ask_any {W : World} {b g o n c k : Nat} {h : Hd} {l : List Pt} (s : CS W b h g o n c k l) :
    Calls Tryz.prog 262 #[.pointer (some ⟨b, 0, none⟩)] W fun r W' => r = .returned (.bool (askP (gtP l k))) ∧ Below W.heap.size W W' := by
  have H : Hid (CS W b h g o n c k l) := s
  obtain ⟨p, hp⟩ : ∃ p, gtP l k = p := ⟨_, rfl⟩
  rw [hp]
  have R0 : ∀ V, Below W.heap.size W V → Prd (fun w' => ∃ x : Later V, w' = x.val) g (o + k * 77) p := fun V hV => by rw [← hp]; exact (H.out.below hV).rd
  obtain ⟨q, hq⟩ : ∃ q, o + k * 77 = q := ⟨_, rfl⟩
  rw [hq] at R0
  clear s hp
  go_enter Tryz.func262, Tryz.ntmps262
  go_wp2_with fail
  refine (port_any H.out).mono ?_
  rintro _ V ⟨rfl, b1⟩
  rw [hq]
  have R := R0 V b1
  have B : Hid (Below W.heap.size W V) := b1
  clear R0 b1 hq
  go_upto_region 2 with fail
  refine wp_plain (C := fun w' => ∃ x : Later V, w' = x.val) ⟨⟨_, Below.refl _ _⟩, rfl⟩ ?_
  refine q_put (v := .pointer (some ⟨g, q, none⟩)) (yq rfl (Rn.qt (qmove rfl rfl))) ?_
  try simp only [Act.put, List.setIfInBounds_toArray, List.set_cons_zero, List.set_cons_succ]
  refine q_put (v := .pointer (some ⟨g, q, none⟩)) (yq rfl (Rn.qt (qnil rfl rfl))) ?_
  try simp only [Act.put, List.setIfInBounds_toArray, List.set_cons_zero, List.set_cons_succ]
  refine q_put (v := .pointer (some ⟨g, q + 24, none⟩)) (yq rfl (Rn.qt (qfield rfl rfl fp24))) ?_
  try simp only [Act.put, List.setIfInBounds_toArray, List.set_cons_zero, List.set_cons_succ]
  refine q_put (v := .bool (p.bt 24)) (yq rfl (Rn.qt (qload rfl rfl (R.bit rfl)))) ?_
  try simp only [Act.put, List.setIfInBounds_toArray, List.set_cons_zero, List.set_cons_succ]
  refine q_put (v := .bool (p.bt 24)) (yq rfl (Rn.qt (qmove rfl rfl))) ?_
  try simp only [Act.put, List.setIfInBounds_toArray, List.set_cons_zero, List.set_cons_succ]
  refine q_put (v := gd (p.bt 24) false (.pointer (some ⟨g, q, none⟩))) (yq1 rfl rfl (fun e => Rn.qt (qmove rfl rfl))) ?_
  try simp only [Act.put, List.setIfInBounds_toArray, List.set_cons_zero, List.set_cons_succ]
  refine q_put (v := gd (p.bt 24) false (.pointer (some ⟨g, q, none⟩))) (yq1 rfl rfl (fun e => Rn.qt (qnil rfl (on e rfl)))) ?_
  try simp only [Act.put, List.setIfInBounds_toArray, List.set_cons_zero, List.set_cons_succ]
  refine q_put (v := gd (p.bt 24) false (.pointer (some ⟨g, q + 20, none⟩))) (yq1 rfl rfl (fun e => Rn.qt (qfield rfl (on e rfl) fp20))) ?_
  try simp only [Act.put, List.setIfInBounds_toArray, List.set_cons_zero, List.set_cons_succ]
  refine q_put (v := gd (p.bt 24) false (.bool (p.bt 20))) (yq1 rfl rfl (fun e => Rn.qt (qload rfl (on e rfl) (R.bit rfl)))) ?_
  try simp only [Act.put, List.setIfInBounds_toArray, List.set_cons_zero, List.set_cons_succ]
  refine q_put (v := .bool ((p.bt 24) || (p.bt 20))) (yq rfl (Rn.qt (qpick rfl rfl (pkO rfl rfl)))) ?_
  try simp only [Act.put, List.setIfInBounds_toArray, List.set_cons_zero, List.set_cons_succ]
  refine q_put (v := .bool ((p.bt 24) || (p.bt 20))) (yq rfl (Rn.qt (qmove rfl rfl))) ?_
  try simp only [Act.put, List.setIfInBounds_toArray, List.set_cons_zero, List.set_cons_succ]
  refine q_put (v := gd ((p.bt 24) || (p.bt 20)) false (.pointer (some ⟨g, q, none⟩))) (yq1 rfl rfl (fun e => Rn.qt (qmove rfl rfl))) ?_
  try simp only [Act.put, List.setIfInBounds_toArray, List.set_cons_zero, List.set_cons_succ]
  refine q_put (v := gd ((p.bt 24) || (p.bt 20)) false (.pointer (some ⟨g, q, none⟩))) (yq1 rfl rfl (fun e => Rn.qt (qnil rfl (on e rfl)))) ?_
  try simp only [Act.put, List.setIfInBounds_toArray, List.set_cons_zero, List.set_cons_succ]
  refine q_put (v := gd ((p.bt 24) || (p.bt 20)) false (.pointer (some ⟨g, q + 25, none⟩))) (yq1 rfl rfl (fun e => Rn.qt (qfield rfl (on e rfl) fp25))) ?_
  try simp only [Act.put, List.setIfInBounds_toArray, List.set_cons_zero, List.set_cons_succ]
  refine q_put (v := gd ((p.bt 24) || (p.bt 20)) false (.bool (p.bt 25))) (yq1 rfl rfl (fun e => Rn.qt (qload rfl (on e rfl) (R.bit rfl)))) ?_
  try simp only [Act.put, List.setIfInBounds_toArray, List.set_cons_zero, List.set_cons_succ]
  refine q_put (v := gd ((p.bt 24) || (p.bt 20)) false (.bool (!(p.bt 25)))) (yq1 rfl rfl (fun e => Rn.qt (qnot rfl (on e rfl)))) ?_
  try simp only [Act.put, List.setIfInBounds_toArray, List.set_cons_zero, List.set_cons_succ]
  refine q_put (v := .bool (((p.bt 24) || (p.bt 20)) || (!(p.bt 25)))) (yq rfl (Rn.qt (qpick rfl rfl (pkO rfl rfl)))) ?_
  try simp only [Act.put, List.setIfInBounds_toArray, List.set_cons_zero, List.set_cons_succ]
  refine q_put (v := .bool (((p.bt 24) || (p.bt 20)) || (!(p.bt 25)))) (yq rfl (Rn.qt (qassign rfl rfl))) ?_
  try simp only [Act.put, List.setIfInBounds_toArray, List.set_cons_zero, List.set_cons_succ]
  refine wpQuiet_nil ?_
  intro _ hw'
  obtain ⟨y, rfl⟩ := hw'
  go_wp2
  go_ret
  exact ⟨rfl, below_over B.out y.below⟩
end S13
end
section
namespace S13
open Go.RowKit

def dv (b F : Nat) : Value := .func (.func F) #[.pointer (some ⟨b, 0, none⟩)] #[]
def rc (b : Nat) (x : Bool × Nat) : List Value := [.bool x.1, dv b x.2]
def rcs (b : Nat) (rs : List (Bool × Nat)) : List Value := rs.flatMap (rc b)
theorem rcs_len (b : Nat) (rs : List (Bool × Nat)) : (rcs b rs).length = rs.length * 2 := by
  induction rs with
  | nil => rfl
  | cons x r ih => rw [rcs, List.flatMap_cons, List.length_append, ← rcs, ih, List.length_cons]; simp [rc]; omega
theorem rcs_one (b : Nat) (rs : List (Bool × Nat)) : ∀ v ∈ rcs b rs, v.oneCell' = true := by
  intro v hv
  obtain ⟨x, _, hx⟩ := List.mem_flatMap.1 hv
  simp only [rc, List.mem_cons, List.not_mem_nil, or_false] at hx
  rcases hx with rfl | rfl <;> rfl
theorem rcs_at {b i : Nat} {rs : List (Bool × Nat)} {x : Bool × Nat} (h : rs[i]? = some x) : (rcs b rs)[i * 2]? = some (.bool x.1) ∧ (rcs b rs)[i * 2 + 1]? = some (dv b x.2) := by
  induction rs generalizing i with
  | nil => simp at h
  | cons y r ih =>
    rw [rcs, List.flatMap_cons]
    cases i with
    | zero =>
      simp only [List.getElem?_cons_zero, Option.some.injEq] at h
      subst h
      exact ⟨rfl, rfl⟩
    | succ i =>
      rw [List.getElem?_cons_succ] at h
      obtain ⟨h1, h2⟩ := ih h
      have e : (rc b y).length = 2 := rfl
      rw [List.getElem?_append_right (by rw [e]; omega), List.getElem?_append_right (by rw [e]; omega), e, show (i + 1) * 2 - 2 = i * 2 by omega, show (i + 1) * 2 + 1 - 2 = i * 2 + 1 by omega]
      exact ⟨h1, h2⟩
theorem rcs_app (b : Nat) (r s : List (Bool × Nat)) : rcs b (r ++ s) = rcs b r ++ rcs b s := List.flatMap_append
def OwnR (W : World) (B : Nat) (v : Value) (b : Nat) (rs : List (Bool × Nat)) : Prop := W.ownsRow B 186 2 v rs.length (rcs b rs)
theorem OwnR.nil (W : World) (B b : Nat) : OwnR W B (.slice none 0 0) b [] := World.ownsRow_nil W B _ _
theorem OwnR.keptBut {W W' : World} {B b : Nat} {v : Value} {rs : List (Bool × Nat)} {row : Option Nat} (h : OwnR W B v b rs) (hg : W.grownBy W' row) (hne : v.ownBlock = none ∨ v.ownBlock ≠ row) : OwnR W' B v b rs := World.ownsRow.kept h hg hne
theorem OwnR.below {W W' : World} {B b : Nat} {v : Value} {rs : List (Bool × Nat)} (h : OwnR W B v b rs) (hb : Below W.heap.size W W') : OwnR W' B v b rs := by
  refine h.keptBut (grown_of_below hb none) ?_
  cases v.ownBlock <;> simp
structure RsAt (W : World) (a : Option Addr) (n c b : Nat) (rs : List (Bool × Nat)) : Prop where
  len : rs.length = n
  cap : n ≤ c
  max : c ≤ maxLen
  nil : a = none → n = 0 ∧ c = 0
  form : ∀ x, a = some x → ∃ g, x = ⟨g, 0, none⟩
  cells : ∀ g, a = some ⟨g, 0, none⟩ → ∀ j u, (rcs b rs)[j]? = some u → W.cell? ⟨g, j, none⟩ = some u
theorem RsAt.below {W W' : World} {a : Option Addr} {n c b : Nat} {rs : List (Bool × Nat)} (h : RsAt W a n c b rs) (hb : Below W.heap.size W W') : RsAt W' a n c b rs :=
  ⟨h.len, h.cap, h.max, h.nil, h.form, fun g e j u hj => (hb.cell (World.block_lt_of_cell? W _ (h.cells g e j u hj))).trans (h.cells g e j u hj)⟩
theorem OwnR.form {W : World} {B b : Nat} {v : Value} {rs : List (Bool × Nat)} (h : OwnR W B v b rs) : ∃ a c, v = .slice a rs.length c ∧ RsAt W a rs.length c b rs ∧ ∀ x, a = some x → B ≤ x.block ∧ x.block < W.heap.size := by
  rcases h.2 with ⟨rfl, h0⟩ | ⟨g, cap, cur, rfl, hB, hb, h1, h2, h3, h4⟩
  · have : rs = [] := List.eq_nil_of_length_eq_zero h0
    subst this
    exact ⟨none, 0, rfl, ⟨rfl, Nat.le_refl _, by simp, fun _ => ⟨rfl, rfl⟩, (fun x e => by cases e), (fun g e => by cases e)⟩, fun x e => by cases e⟩
  · refine ⟨some ⟨g, 0, none⟩, cap, rfl, ⟨rfl, h1, h2, (fun e => by cases e), (fun x e => ⟨g, by cases e; rfl⟩), fun g' e j u hj => ?_⟩, fun x e => ?_⟩
    · cases e
      refine cell_at hb j u ?_
      rw [← h4, List.getElem?_take] at hj
      split at hj
      · rw [← Array.getElem?_toList]; exact hj
      · cases hj
    · cases e
      exact ⟨hB, lt_of_block hb⟩
theorem OwnR.base {W : World} {B B' b : Nat} {v : Value} {rs : List (Bool × Nat)} (h : OwnR W B v b rs) (hb : B' ≤ B) : OwnR W B' v b rs := by
  refine ⟨h.1, ?_⟩
  rcases h.2 with h0 | ⟨g, cap, cur, e, hB, hr⟩
  · exact Or.inl h0
  · exact Or.inr ⟨g, cap, cur, e, by omega, hr⟩
theorem OwnR.new (W : World) (b : Nat) (rs : List (Bool × Nat)) (hl : rs.length ≤ 1000) : OwnR (W.alloc (.cells (rcs b rs).toArray 186)) W.heap.size (.slice (some ⟨W.heap.size, 0, none⟩) rs.length rs.length) b rs :=
  ⟨rcs_len b rs, Or.inr ⟨W.heap.size, rs.length, _, rfl, Nat.le_refl _, alloc_at W _, Nat.le_refl _, by unfold maxLen; omega, by simp [rcs_len], by rw [← rcs_len b rs]; simp⟩⟩
theorem infoR3 : (Tryz.prog.info? 186).map (fun i => (i.zero, i.size, i.bytes)) = some (some (.agg #[.bool false, .nilFunc]), 2, 16) := by kernel_rfl
def apR (ty : TypeId) (xs : Array Value) : Sem Value := Builtin.append_ #[183, 183] ty xs
theorem apRE (ty : TypeId) (xs : Array Value) : Builtin.append_ #[183, 183] ty xs = apR ty xs := rfl
theorem OwnR.app {W : World} {B b : Nat} {v : Value} {rs ss : List (Bool × Nat)} {a : Option Addr} {n c : Nat} (h : OwnR W B v b rs) (hs : RsAt W a n c b ss) (hl : rs.length + ss.length ≤ 1000) (hB : B ≤ W.heap.size) (ty : TypeId) :
    ∃ v' W', (apR ty #[v, .slice a n c]).run Tryz.prog W = .ok v' W' ∧ OwnR W' B v' b (rs ++ ss) ∧ W.grownBy W' v.ownBlock := by
  obtain ⟨i0, hi, hz0, hz1, hz2⟩ := info_parts infoR3
  unfold apR
  cases a with
  | none =>
    obtain ⟨rfl, rfl⟩ := hs.nil rfl
    have hm : ss = [] := List.eq_nil_of_length_eq_zero hs.len
    subst hm
    have hrun := run_append_owned_none (P := Tryz.prog) (w := W) B 183 ty 186 i0 2 Tryz.underlying183 hi v rs.length _ h
    exact ⟨v, W, hrun, by rw [List.append_nil]; exact h, World.grownBy.refl _ _⟩
  | some x =>
    obtain ⟨g, rfl⟩ := hs.form x rfl
    obtain ⟨v', W', hrun, h1, h2, _⟩ := run_append_own (P := Tryz.prog) W B 183 ty 186 i0 _ 2 16 Tryz.underlying183 hi hz0 hz1 hz2 rfl (by decide) v rs.length _ h ⟨g, 0, none⟩ n c (rcs b ss) (by rw [rcs_len, hs.len])
      (fun j u hj => by rw [Addr.add_lit, Nat.zero_add]; exact hs.cells g rfl j u hj) (rcs_one b ss) (by have := hs.len; unfold maxLen; omega) (by have := hs.len; omega) hB
    refine ⟨v', W', hrun, ?_, h2⟩
    unfold OwnR
    rw [rcs_app, List.length_append, hs.len]
    exact h1
def rcC (b : Nat) (x : Bool × Nat) : Array Value := #[.bool x.1, dv b x.2]
theorem infoRu : (Tryz.prog.info? 186).map (·.size) = some 2 := by kernel_rfl
theorem rtRu : RowTy 186 2 := ⟨infoRu, _, Tryz.underlying186, rfl⟩
theorem ldRu (x : Value) : Instr.loadAt 186 x = ldS 186 x := rfl
theorem stRu (x y : Value) : Instr.storeAt 186 x y = stS 186 x y := rfl
theorem RsAt.ld {W : World} {g n c b i : Nat} {rs : List (Bool × Nat)} {x : Bool × Nat} (h : RsAt W (some ⟨g, 0, none⟩) n c b rs) (hi : rs[i]? = some x) : (ldS 186 (.pointer (some ⟨g, i * 2, none⟩))).run Tryz.prog W = .ok (.agg (rcC b x)) W := by
  obtain ⟨h1, h2⟩ := rcs_at (b := b) hi
  refine run_loadAt_mid W g (i * 2) 186 (rcC b x).toList _ (fun j v hv => h.cells g rfl _ _ ?_) Tryz.underlying186 rfl infoRu
  match j, hv with
  | 0, hv => cases hv; exact h1
  | 1, hv => cases hv; exact h2
  | j + 2, hv => simp [rcC] at hv
theorem rcC_one (b : Nat) (x : Bool × Nat) : ∀ v ∈ (rcC b x).toList, v.oneCell' = true := by
  intro v hv
  simp only [rcC, List.mem_cons, List.not_mem_nil, or_false] at hv
  rcases hv with rfl | rfl <;> rfl
def bsR (n : Nat) (ps : Array (Nat × Value)) : Sem Value := Instr.buildSlice 183 n ps
theorem bsRE (n : Nat) (ps : Array (Nat × Value)) : Instr.buildSlice 183 n ps = bsR n ps := rfl
theorem bsR1 (b : Nat) (x1 : Bool) (f1 : Nat) (w : World) : (bsR 1 #[(0, .agg #[.bool x1, .func (.func f1) #[.pointer (some ⟨b, 0, none⟩)] #[]])]).run Tryz.prog w = .ok (.slice (some ⟨w.heap.size, 0, none⟩) 1 1) (w.alloc (.cells (rcs b [(x1, f1)]).toArray 186)) := by kernel_rfl
theorem bsR2 (b : Nat) (x1 x2 : Bool) (f1 f2 : Nat) (w : World) : (bsR 2 #[(0, .agg #[.bool x1, .func (.func f1) #[.pointer (some ⟨b, 0, none⟩)] #[]]), (1, .agg #[.bool x2, .func (.func f2) #[.pointer (some ⟨b, 0, none⟩)] #[]])]).run Tryz.prog w = .ok (.slice (some ⟨w.heap.size, 0, none⟩) 2 2) (w.alloc (.cells (rcs b [(x1, f1), (x2, f2)]).toArray 186)) := by kernel_rfl
theorem bsR5 (b : Nat) (x1 x2 x3 x4 x5 : Bool) (f1 f2 f3 f4 f5 : Nat) (w : World) : (bsR 5 #[(0, .agg #[.bool x1, .func (.func f1) #[.pointer (some ⟨b, 0, none⟩)] #[]]), (1, .agg #[.bool x2, .func (.func f2) #[.pointer (some ⟨b, 0, none⟩)] #[]]), (2, .agg #[.bool x3, .func (.func f3) #[.pointer (some ⟨b, 0, none⟩)] #[]]), (3, .agg #[.bool x4, .func (.func f4) #[.pointer (some ⟨b, 0, none⟩)] #[]]), (4, .agg #[.bool x5, .func (.func f5) #[.pointer (some ⟨b, 0, none⟩)] #[]])]).run Tryz.prog w = .ok (.slice (some ⟨w.heap.size, 0, none⟩) 5 5) (w.alloc (.cells (rcs b [(x1, f1), (x2, f2), (x3, f3), (x4, f4), (x5, f5)]).toArray 186)) := by kernel_rfl
theorem bsR6 (b : Nat) (x1 x2 x3 x4 x5 x6 : Bool) (f1 f2 f3 f4 f5 f6 : Nat) (w : World) : (bsR 6 #[(0, .agg #[.bool x1, .func (.func f1) #[.pointer (some ⟨b, 0, none⟩)] #[]]), (1, .agg #[.bool x2, .func (.func f2) #[.pointer (some ⟨b, 0, none⟩)] #[]]), (2, .agg #[.bool x3, .func (.func f3) #[.pointer (some ⟨b, 0, none⟩)] #[]]), (3, .agg #[.bool x4, .func (.func f4) #[.pointer (some ⟨b, 0, none⟩)] #[]]), (4, .agg #[.bool x5, .func (.func f5) #[.pointer (some ⟨b, 0, none⟩)] #[]]), (5, .agg #[.bool x6, .func (.func f6) #[.pointer (some ⟨b, 0, none⟩)] #[]])]).run Tryz.prog w = .ok (.slice (some ⟨w.heap.size, 0, none⟩) 6 6) (w.alloc (.cells (rcs b [(x1, f1), (x2, f2), (x3, f3), (x4, f4), (x5, f5), (x6, f6)]).toArray 186)) := by kernel_rfl
theorem run_apR {o : Oper} {a : Act} {x y : Operand} {X Y v : Value} {w w' : World} (h : o.op = .call { callee := .builtin .append, args := #[x, y], argTypes := #[183, 183] }) (ht : o.type = 183) (hx : a.eval x = X) (hy : a.eval y = Y) (hr : (apR 183 #[X, Y]).run Tryz.prog w = .ok v w') : (execOp a.eval o).run Tryz.prog w = .ok (.value v) w' := by
  unfold execOp
  simp only [h, ht]
  simp only [resolve, invoke, builtin, List.map_toArray, List.map_cons, List.map_nil, hx, hy, apRE, Sem.run_bind, Sem.run_pure, Result.andThen_ok, hr]
theorem run_bsR {o : Oper} {a : Act} {n : Nat} {ps : Array (Nat × Operand)} {qs : Array (Nat × Value)} {v : Value} {w w' : World} (h : o.op = .buildSlice 183 n ps) (hq : (ps.map fun (i, x) => (i, a.eval x)) = qs) (hr : (bsR n qs).run Tryz.prog w = .ok v w') : (execOp a.eval o).run Tryz.prog w = .ok (.value v) w' := by
  unfold execOp
  simp only [h]
  rw [hq, Sem.run_bind, bsRE, hr]
  rfl
theorem run_enter2 {o : Oper} {a : Act} {F : Nat} {x y : Operand} {X Y : Value} {ts : Array TypeId} {w : World} (h : o.op = .call { callee := .value (.func F), args := #[x, y], argTypes := ts }) (hx : a.eval x = X) (hy : a.eval y = Y) (he : ∀ V, (callFunc F #[X, Y]).run Tryz.prog V = .ok (.enter F #[X, Y]) V) : (execOp a.eval o).run Tryz.prog w = .ok (.enter F #[X, Y]) w := by
  unfold execOp
  simp only [h]
  simp [resolve, Deferred.ofValue, invoke, hx, hy, Act.eval_func]
  exact he w
end S13
end
end Go.Proofs.YtlchejbggnbccaaGreat
