/-
  Ports of lists and trees' variables: what is stored, what stays. Plain laws over the program's types; the walks of the library's Clone and of Few.
-/
import Derived.Test.YtllmadgonobdnaaCopy
namespace Go.Proofs.Ytllmadgonobdnaa
set_option linter.unusedVariables false
set_option maxRecDepth 4000
set_option linter.unusedSimpArgs false
open Go.RowKit

def gtP (l : List Pt) (i : Nat) : Pt := l.getD i zeroP
theorem gtP_at {l : List Pt} {i : Nat} (h : i < l.length) : l[i]? = some (gtP l i) := by
  simp [gtP, List.getD_eq_getElem?_getD, List.getElem?_eq_getElem h]
theorem one_t (w : World) (h : Hd) (x : Value) : ∃ W, w.alloc (.cells (trc h x) 31) = W ∧ RvAt W w.heap.size 31 (trc h x) ∧ Below w.heap.size w W ∧ W.heap.size = w.heap.size + 1 :=
  ⟨_, rfl, RvAt.new w _ _, (Below.refl _ _).alloc (Nat.le_refl _) _, by simp⟩
theorem bt_of {ks ks' : List (Option IntKind)} {r : Row ks} {q : Row ks'} {i j : Nat} (h : r.cl[i]? = q.cl[j]?) : r.bt i = q.bt j := by unfold Row.bt; rw [h]
theorem nm_of {ks ks' : List (Option IntKind)} {r : Row ks} {q : Row ks'} {i j : Nat} (h : r.cl[i]? = q.cl[j]?) : r.nm i = q.nm j := by unfold Row.nm; rw [h]
theorem setB_bt {ks : List (Option IntKind)} (r : Row ks) {i j : Nat} (h : ks[j]? = some none) (b : Bool) (hn : i ≠ j) : (r.setB j h b).bt i = r.bt i := bt_of (by rw [r.setB_get, if_neg hn])
theorem setB_nm {ks : List (Option IntKind)} (r : Row ks) {i j : Nat} (h : ks[j]? = some none) (b : Bool) (hn : i ≠ j) : (r.setB j h b).nm i = r.nm i := nm_of (by rw [r.setB_get, if_neg hn])
theorem setB_at {ks : List (Option IntKind)} (r : Row ks) {j : Nat} (h : ks[j]? = some none) (b : Bool) : (r.setB j h b).bt j = b := r.bset _ (List.getElem?_eq_some_iff.1 h).1
/-- A row of ports is no tree's variable. -/
theorem SlAt.off {W : World} {b n c : Nat} {h : Hd} {x : Value} {a : Option Addr} {l : List Pt} (s : SlAt W a n c l) (r : RvAt W b 31 (trc h x)) (hn : 0 < n) : ∀ y, a = some y → y.block ≠ b := by
  intro y hy e
  obtain ⟨b', o, e', hc⟩ := s.cells y hy hn
  subst e'
  simp only at e
  subst e
  have hl := s.len
  have hf := hc 76 _ (List.getElem?_eq_getElem (by rw [flat_len]; omega))
  have hsz := trc_size h x
  unfold World.cell? at hf
  rw [show W.heap[b']? = some (.cells (trc h x) 31 (0, 0)) from r] at hf
  simp only at hf
  rw [Array.getElem?_eq_none (by omega)] at hf
  simp at hf
theorem SlAt.keptT {W V : World} {b n c : Nat} {h : Hd} {x : Value} {a : Option Addr} {l : List Pt} (s : SlAt W a n c l) (r : RvAt W b 31 (trc h x)) (g : W.grownBy V (some b)) : SlAt V a n c l := by
  by_cases hn : 0 < n
  · exact s.keptBut g (fun y hy e => s.off r hn y hy (by simpa using e))
  · exact ⟨s.len, s.cap, s.max, s.nil, fun y _ h1 => absurd h1 hn⟩
/-- A tree in a variable. -/
structure TQ (w W : World) (b : Nat) (h : Hd) (a : Option Addr) (n c : Nat) (l : List Pt) : Prop where
  var : RvAt W b 31 (trc h (.slice a n c))
  sl : SlAt W a n c l
  bel : Below w.heap.size w W
  hb : w.heap.size ≤ b
theorem TQ.below {w W V : World} {b n c : Nat} {h : Hd} {a : Option Addr} {l : List Pt} (t : TQ w W b h a n c l) (k : Below W.heap.size W V) : TQ w V b h a n c l := ⟨t.var.below k, t.sl.below k, below_over t.bel k, t.hb⟩
theorem TQ.ld {w W : World} {b n c : Nat} {h : Hd} {a : Option Addr} {l : List Pt} (t : TQ w W b h a n c l) : (ldS 31 (.pointer (some ⟨b, 0, none⟩))).run Try.prog W = .ok (.agg (trc h (.slice a n c))) W := t.var.tld
/-- A cell of a port of it. -/
theorem TQ.cell {w W : World} {b n c g o k : Nat} {h : Hd} {l : List Pt} {p : Pt} (t : TQ w W b h (some ⟨g, o, none⟩) n c l) (hk : l[k]? = some p) {j : Nat} {v : Value} (hv : p.cl[j]? = some v) (hj : j < 77) : W.cell? ⟨g, o + k * 77 + j, none⟩ = some v := t.sl.cell hk hv hj
def Row.setN {ks : List (Option IntKind)} (r : Row ks) (j : Nat) (h : ks[j]? = some (some .i64)) (n : Int) (hw : (Lit.int .i64 n).wf = true) : Row ks := r.set j (.int .i64 n) (fit_num h hw)
theorem Row.setN_get {ks : List (Option IntKind)} (r : Row ks) {j : Nat} (h : ks[j]? = some (some .i64)) (n : Int) (hw : (Lit.int .i64 n).wf = true) (i : Nat) : (r.setN j h n hw).cl[i]? = if i = j then some (.int .i64 n) else r.cl[i]? := r.set_get _ (List.getElem?_eq_some_iff.1 h).1 i
theorem wi0 : (Lit.int .i64 0).wf = true := by decide
theorem wi1 : (Lit.int .i64 1).wf = true := by decide
theorem wi2 : (Lit.int .i64 2).wf = true := by decide
theorem wi3 : (Lit.int .i64 3).wf = true := by decide
/-- A row of ports is no small variable. -/
theorem SlAt.offZ {W : World} {b n c : Nat} {ty : TypeId} {cs : Array Value} {a : Option Addr} {l : List Pt} (s : SlAt W a n c l) (r : RvAt W b ty cs) (hz : cs.size ≤ 76) (hn : 0 < n) : ∀ y, a = some y → y.block ≠ b := by
  intro y hy e
  obtain ⟨b', o, e', hc⟩ := s.cells y hy hn
  subst e'
  simp only at e
  subst e
  have hl := s.len
  have hf := hc 76 _ (List.getElem?_eq_getElem (by rw [flat_len]; omega))
  unfold World.cell? at hf
  rw [show W.heap[b']? = some (.cells cs ty (0, 0)) from r] at hf
  simp only at hf
  rw [Array.getElem?_eq_none (by omega)] at hf
  simp at hf
theorem SlAt.keptZ {W V : World} {b n c : Nat} {ty : TypeId} {cs : Array Value} {a : Option Addr} {l : List Pt} (s : SlAt W a n c l) (r : RvAt W b ty cs) (hz : cs.size ≤ 76) (g : W.grownBy V (some b)) : SlAt V a n c l := by
  by_cases hn : 0 < n
  · exact s.keptBut g (fun y hy e => s.offZ r hz hn y hy (by simpa using e))
  · exact ⟨s.len, s.cap, s.max, s.nil, fun y _ h1 => absurd h1 hn⟩
theorem wi4 : (Lit.int .i64 4).wf = true := by decide
/-- The block of a slice. -/
def blk (a : Option Addr) : Option Nat := a.map (·.block)
/-- Ports of a block of one's own, or none. -/
structure PA (W : World) (a : Option Addr) (n c : Nat) (l : List Pt) : Prop where
  len : l.length = n
  nil : a = none → n = 0 ∧ c = 0
  pat : ∀ x, a = some x → ∃ g, x = ⟨g, 0, none⟩ ∧ PAt W g c l
theorem PA.sl {W : World} {a : Option Addr} {n c : Nat} {l : List Pt} (h : PA W a n c l) : SlAt W a n c l := by
  cases a with
  | none =>
    obtain ⟨rfl, rfl⟩ := h.nil rfl
    have : l = [] := List.eq_nil_of_length_eq_zero h.len
    subst this
    exact SlAt.none' W
  | some x =>
    obtain ⟨g, rfl, hp⟩ := h.pat x rfl
    have := hp.sl
    rw [h.len] at this
    exact this
theorem PA.lt {W : World} {a : Option Addr} {n c : Nat} {l : List Pt} (h : PA W a n c l) : ∀ g, blk a = some g → g < W.heap.size := by
  intro g hg
  cases a with
  | none => cases hg
  | some x =>
    obtain ⟨g', rfl, hp⟩ := h.pat x rfl
    cases hg
    exact hp.lt
theorem PA.of {W : World} {B : Nat} {v : Value} {l : List Pt} (h : Own W B v l) : ∃ a c, v = .slice a l.length c ∧ PA W a l.length c l ∧ ∀ g, blk a = some g → B ≤ g := by
  rcases h.pat with ⟨rfl, rfl⟩ | ⟨g, c, rfl, hB, hp⟩
  · exact ⟨none, 0, rfl, ⟨rfl, fun _ => ⟨rfl, rfl⟩, fun x e => by cases e⟩, fun g e => by cases e⟩
  · exact ⟨some ⟨g, 0, none⟩, c, rfl, ⟨rfl, (fun e => by cases e), fun x e => by cases e; exact ⟨g, rfl, hp⟩⟩, fun g e => by cases e; exact hB⟩
theorem PA.kept {W V : World} {a : Option Addr} {n c : Nat} {l : List Pt} {row : Option Nat} (h : PA W a n c l) (g : W.grownBy V row) (hne : ∀ b, blk a = some b → some b ≠ row) : PA V a n c l :=
  ⟨h.len, h.nil, fun x e => by
    obtain ⟨b, rfl, hp⟩ := h.pat x e
    exact ⟨b, rfl, hp.keptBut g (hne b (by rw [e]; rfl))⟩⟩
theorem PA.below {W V : World} {a : Option Addr} {n c : Nat} {l : List Pt} (h : PA W a n c l) (k : Below W.heap.size W V) : PA V a n c l :=
  h.kept (grown_of_below k none) (fun b _ => by simp)
/-- The first i ports changed, each by its place. -/
def mapI (f : Nat → Pt → Pt) (l : List Pt) (i : Nat) : List Pt := (l.take i).mapIdx f ++ l.drop i
theorem mapI_len (f : Nat → Pt → Pt) (l : List Pt) (i : Nat) : (mapI f l i).length = l.length := by
  simp [mapI]; omega
theorem mapI_at {f : Nat → Pt → Pt} {l : List Pt} {i : Nat} (h : i < l.length) : (mapI f l i)[i]? = some (gtP l i) := by
  rw [← gtP_at h]
  unfold mapI
  rw [List.getElem?_append_right (by simp; omega), List.length_mapIdx, List.length_take, Nat.min_eq_left (by omega), Nat.sub_self, List.getElem?_drop]
  rfl
theorem mapI_next {f : Nat → Pt → Pt} {l : List Pt} {i : Nat} (h : i < l.length) : (mapI f l i).set i (f i (gtP l i)) = mapI f l (i + 1) := by
  unfold mapI
  have e : ((l.take i).mapIdx f).length = i := by simp; omega
  have hg : gtP l i = l[i] := by
    have := gtP_at h
    rw [List.getElem?_eq_getElem h] at this
    exact (Option.some.inj this).symm
  have e3 : (l.take i).length = i := by simp; omega
  rw [List.set_append_right _ _ (by omega), e, Nat.sub_self, List.drop_eq_getElem_cons h, List.set_cons_zero, List.take_add_one, List.getElem?_eq_getElem h, hg]
  simp only [Option.toList_some, List.mapIdx_append, List.mapIdx_cons, List.mapIdx_nil, e3, Nat.zero_add, List.append_assoc]
  rfl
theorem mapI_all (f : Nat → Pt → Pt) (l : List Pt) : mapI f l l.length = l.mapIdx f := by simp [mapI]
theorem mapI_zero (f : Nat → Pt → Pt) (l : List Pt) : mapI f l 0 = l := by simp [mapI]
theorem mapI_set {f : Nat → Pt → Pt} {l : List Pt} {i : Nat} {x y : Pt} : ((mapI f l i).set i x).set i y = (mapI f l i).set i y := List.set_set ..
theorem gtP_idx {f : Nat → Pt → Pt} {l : List Pt} {i : Nat} (h : i < l.length) : gtP (l.mapIdx f) i = f i (gtP l i) := by
  have h1 := gtP_at (l := l.mapIdx f) (i := i) (by simpa using h)
  have h2 := gtP_at h
  rw [List.getElem?_mapIdx, h2] at h1
  exact (Option.some.inj h1).symm
theorem idx_next {f : Nat → Pt → Pt} {l : List Pt} {i : Nat} (h : i < l.length) : (l.take (i + 1)).mapIdx f = (l.take i).mapIdx f ++ [f i (gtP l i)] := by
  have hg := gtP_at h
  have e3 : (l.take i).length = i := by simp; omega
  rw [List.take_add_one, hg]
  simp only [Option.toList_some, List.mapIdx_append, List.mapIdx_cons, List.mapIdx_nil, e3, Nat.zero_add]
theorem Row.setU_ne {ks : List (Option IntKind)} (r : Row ks) {j i : Nat} {n : Int} (h : j ≠ i) : (r.setU j n).cl[i]? = r.cl[i]? := by
  unfold Row.setU
  split
  · show (r.cl.set j (.int .u8 n))[i]? = _
    rw [List.getElem?_set, if_neg h]
  · rfl
theorem Row.setU_nm {ks : List (Option IntKind)} (r : Row ks) {j i : Nat} {n : Int} (h : j ≠ i) : (r.setU j n).nm i = r.nm i := by
  unfold Row.nm
  rw [r.setU_ne h]
theorem Row.setU_at {ks : List (Option IntKind)} (r : Row ks) {j : Nat} {n : Int} (h : ks[j]? = some (some .u8)) (hw : (Lit.int .u8 n).wf = true) : (r.setU j n).nm j = n := by
  rw [r.setU_is h hw]
  exact r.nset _ (List.getElem?_eq_some_iff.1 h).1
theorem gtP_set {l : List Pt} {i : Nat} {p : Pt} (h : i < l.length) : (l.set i p)[i]? = some p := by
  rw [List.getElem?_set, if_pos rfl, if_pos h]
theorem stW (x y : Value) : Instr.storeAt 51 x y = stS 51 x y := rfl
theorem infoS : (Try.prog.info? 51).map (·.size) = some 1 := by kernel_rfl
/-- A port's variable, and the result's. -/
structure PS (w W : World) (b d : Nat) (q : Pt) : Prop where
  var : RvAt W b 53 q.cs
  out : RvAt W d 53 zeroP.cs
  bel : Below w.heap.size w W
  hb : w.heap.size ≤ b
  hd : w.heap.size ≤ d
  ne : d ≠ b
theorem PS.start (w : World) (p : Pt) : ∃ W, (w.alloc (.cells p.cs 53)).alloc (.cells zeroP.cs 53) = W ∧ PS w W w.heap.size (w.heap.size + 1) p := by
  obtain ⟨W, hW, r0, r1, bW, zW⟩ := two_p w p
  exact ⟨W, hW, r0, r1, bW, Nat.le_refl _, by omega, by omega⟩
theorem PS.go {w W V : World} {b d : Nat} {q r : Pt} (s : PS w W b d q) (h : RvAt V b 53 r.cs) (g : W.grownBy V (some b)) : PS w V b d r :=
  ⟨h, s.out.keptBut g (by have := s.ne; simpa using this), gro s.bel g s.hb s.bel.size, s.hb, s.hd, s.ne⟩
theorem PS.below {w W V : World} {b d : Nat} {q : Pt} (s : PS w W b d q) (k : Below W.heap.size W V) : PS w V b d q := ⟨s.var.below k, s.out.below k, below_over s.bel k, s.hb, s.hd, s.ne⟩
theorem PS.setB {w W : World} {b d j : Nat} {q : Pt} (s : PS w W b d q) (h : kdP[j]? = some none) (x : Bool) : ∃ V, (stS 4 (.pointer (some ⟨b, j, none⟩)) (.bool x)).run Try.prog W = .ok () V ∧ PS w V b d (q.setB j h x) := by
  obtain ⟨V, e, h1, g⟩ := s.var.setB h x
  exact ⟨V, e, s.go h1 g⟩
theorem PS.setU {w W : World} {b d j : Nat} {q : Pt} (s : PS w W b d q) (h : kdP[j]? = some (some .u8)) {n : Int} (hn : 0 ≤ n ∧ n ≤ 255) : ∃ V, (stS 5 (.pointer (some ⟨b, j, none⟩)) (.int .u8 n)).run Try.prog W = .ok () V ∧ PS w V b d (q.setU j n) := by
  obtain ⟨V, e, h1, g⟩ := s.var.setU h hn
  exact ⟨V, e, s.go h1 g⟩
theorem PS.setN {w W : World} {b d j : Nat} {q : Pt} (s : PS w W b d q) {t : TypeId} (ht : (Try.prog.info? t).map (·.size) = some 1) (h : kdP[j]? = some (some .i64)) {n : Int} (hn : (Lit.int .i64 n).wf = true) : ∃ V, (stS t (.pointer (some ⟨b, j, none⟩)) (.int .i64 n)).run Try.prog W = .ok () V ∧ PS w V b d (q.setN j h n hn) := by
  obtain ⟨V, e, h1, g⟩ := s.var.rset (v := .int .i64 n) ht (List.getElem?_eq_some_iff.1 h).1 rfl (fit_num h hn)
  exact ⟨V, e, s.go h1 g⟩
theorem PS.st {w W : World} {b d : Nat} {q : Pt} (s : PS w W b d q) (r : Pt) : ∃ V, (stS 53 (.pointer (some ⟨b, 0, none⟩)) (.agg r.cs)).run Try.prog W = .ok () V ∧ PS w V b d r := by
  obtain ⟨V, e, h1, g⟩ := s.var.pst (q := r)
  exact ⟨V, e, s.go h1 g⟩
/-- What is told. -/
theorem PS.tell {w W : World} {b d : Nat} {q : Pt} (s : PS w W b d q) (r : Pt) : ∃ U, (stS 53 (.pointer (some ⟨d, 0, none⟩)) (.agg r.cs)).run Try.prog W = .ok () U ∧ RvAt U d 53 r.cs ∧ Below w.heap.size w U := by
  obtain ⟨U, e, h1, g⟩ := s.out.pst (q := r)
  exact ⟨U, e, h1, gro s.bel g s.hd s.bel.size⟩
theorem PS.ld {w W : World} {b d : Nat} {q : Pt} (s : PS w W b d q) : (ldS 53 (.pointer (some ⟨b, 0, none⟩))).run Try.prog W = .ok (.agg q.cs) W := s.var.pld
theorem results_pb {fn : Func} {k t : Nat} (hr : fn.results = #[.cell k 53, .tmp t]) (tmps : Array Value) (w : World) (b : Nat) (p : Pt) (h2 : tmps.getD k undef = .pointer (some ⟨b, 0, none⟩)) (h : RvAt w b 53 p.cs) :
    (results fn tmps).run Try.prog w = .ok (.tuple #[.agg p.cs, tmps.getD t undef]) w := by
  have hl := h.lv rtP (by rw [Row.csize, lenP])
  have h2' : tmps[k]?.getD undef = .pointer (some ⟨b, 0, none⟩) := by simpa using h2
  simp [results, hr, asAddr, hl, h2']
/-- A function that tells a port and a bool, at its end. -/
theorem ret_pb {fn : Func} {k t : Nat} (hr : fn.results = #[.cell k 53, .tmp t]) {R : Ending → World → Prop} {a : Act} {w : World} {b : Nat} {p : Pt} {x : Bool} (hd : a.defers = []) (h2 : a.tmps.getD k undef = .pointer (some ⟨b, 0, none⟩)) (h3 : a.tmps.getD t undef = .bool x) (h : RvAt w b 53 p.cs) (hR : R (.returned (.tuple #[.agg p.cs, .bool x])) w) : bodyPost Try.prog fn R .ret a w :=
  bodyPost_ret (results_pb hr _ _ _ _ h2 h) hd (by rw [h3]; exact hR)
theorem setB_eq {ks : List (Option IntKind)} (r : Row ks) {j : Nat} (h : ks[j]? = some none) {x y : Bool} (e : x = y) : r.setB j h x = r.setB j h y := by rw [e]
theorem set_self {l : List Pt} {k : Nat} (h : k < l.length) : l.set k (gtP l k) = l := by
  have : gtP l k = l[k] := by
    have := gtP_at h
    rw [List.getElem?_eq_getElem h] at this
    exact (Option.some.inj this).symm
  rw [this, List.set_getElem_self]
theorem var_p (W : World) (p : Pt) : ∃ W', (stS 53 (.pointer (some ⟨W.heap.size, 0, none⟩)) (.agg p.cs)).run Try.prog (W.alloc (.cells zeroP.cs 53)) = .ok () W' ∧ RvAt W' W.heap.size 53 p.cs ∧ Below W.heap.size W W' ∧ W'.heap.size = W.heap.size + 1 :=
  row_new rtP W zeroP.cs p.cs (by rw [Row.csize, lenP]) (by rw [Row.csize, lenP]) p.one'
/-- A tree's variable and the result's. -/
structure TS (w W : World) (b d : Nat) (h : Hd) (x : Value) : Prop where
  var : RvAt W b 31 (trc h x)
  out : RvAt W d 31 (trc zeroH (.slice none 0 0))
  bel : Below w.heap.size w W
  hd : w.heap.size ≤ d
theorem TS.below {w W V : World} {b d : Nat} {h : Hd} {x : Value} (s : TS w W b d h x) (k : Below W.heap.size W V) : TS w V b d h x := ⟨s.var.below k, s.out.below k, below_over s.bel k, s.hd⟩
theorem TS.tell {w W : World} {b d : Nat} {h : Hd} {x : Value} (s : TS w W b d h x) {y : Value} (hy : y.oneCell' = true) : ∃ U, (stS 31 (.pointer (some ⟨d, 0, none⟩)) (.agg (trc h y))).run Try.prog W = .ok () U ∧ RvAt U d 31 (trc h y) ∧ Below w.heap.size w U ∧ W.grownBy U (some d) := by
  obtain ⟨U, e, h1, g⟩ := s.out.tst (g := h) (y := y) hy
  exact ⟨U, e, h1, gro s.bel g s.hd s.bel.size, g⟩
theorem gtP_put {l : List Pt} {k : Nat} {q : Pt} (hk : k < l.length) : gtP (l.set k q) k = q := by
  have := gtP_at (l := l.set k q) (i := k) (by rw [List.length_set]; exact hk)
  rw [List.getElem?_set, if_pos rfl, if_pos hk] at this
  exact (Option.some.inj this).symm
theorem RvAt.apart {W : World} {b d : Nat} {ty ty' : TypeId} {cs ds : Array Value} (h : RvAt W b ty cs) (k : RvAt W d ty' ds) (hn : ty ≠ ty') : b ≠ d := by
  rintro rfl
  have := h.symm.trans k
  simp only [Option.some.injEq, Obj.cells.injEq] at this
  exact hn this.2.1
/-- A tree and a port handed in, and room for a tree. -/
theorem three_t (w : World) (h : Hd) (x : Value) (p : Pt) : ∃ W, ((w.alloc (.cells (trc h x) 31)).alloc (.cells p.cs 53)).alloc (.cells #[.int .u64 0, .int .u8 0, .int .u8 0, .int .u8 0, .int .u8 0, .int .u8 0, .bool false, .int .u16 0, .int .u64 0, .int .u32 0, .int .u64 0, .int .u16 0, .int .u8 0, .int .u8 0, .int .u8 0, .int .u8 0, .slice none 0 0] 31) = W ∧ RvAt W w.heap.size 31 (trc h x) ∧ RvAt W (w.heap.size + 1) 53 p.cs ∧ RvAt W (w.heap.size + 1 + 1) 31 (trc zeroH (.slice none 0 0)) ∧ Below w.heap.size w W ∧ W.heap.size = w.heap.size + 3 := by
  obtain ⟨A, hA, rA, bA, zA⟩ := one_t w h x
  obtain ⟨D, hD, rD, bD, zD⟩ := new_p A p
  have hC : RvAt (D.alloc (.cells zeroT 31)) D.heap.size 31 zeroT := RvAt.new D _ _
  have bC : Below D.heap.size D (D.alloc (.cells zeroT 31)) := (Below.refl _ _).alloc (Nat.le_refl _) _
  rw [zeroT_is, zD, zA] at hC
  rw [zA] at rD
  rw [hA, hD]
  rw [zeroT_is] at bC
  refine ⟨_, rfl, ?_⟩
  change RvAt (D.alloc (.cells zeroT 31)) _ _ _ ∧ RvAt (D.alloc (.cells zeroT 31)) _ _ _ ∧ RvAt (D.alloc (.cells zeroT 31)) _ _ _ ∧ Below _ _ (D.alloc (.cells zeroT 31)) ∧ (D.alloc (.cells zeroT 31)).heap.size = _
  rw [zeroT_is]
  exact ⟨(rA.below bD).below bC, rD.below bC, hC, below_over (below_over bA bD) bC, by simp; omega⟩
def bsP (n : Nat) (ps : Array (Nat × Value)) : Sem Value := Instr.buildSlice 29 n ps
theorem bs32 (n : Nat) (ps : Array (Nat × Value)) : Instr.buildSlice 29 n ps = bsP n ps := rfl
/-- A row into which another of the same length is laid is that other. -/
theorem fill_all : ∀ (l m : List Value) (k : Nat) (pre : List Value), l.length = m.length → pre.length = k → ((l.zipIdx k).foldl (fun (cs : Array Value) (x : Value × Nat) => cs.setIfInBounds (0 + x.2) x.1) (pre ++ m).toArray) = (pre ++ l).toArray
  | [], [], k, pre, _, _ => by simp
  | x :: l, y :: m, k, pre, h, hp => by
    rw [List.zipIdx_cons, List.foldl_cons]
    have e : ((pre ++ y :: m).toArray.setIfInBounds (0 + k) x) = ((pre ++ [x]) ++ m).toArray := by
      rw [Nat.zero_add, List.setIfInBounds_toArray, List.set_append_right _ _ (by omega), hp, Nat.sub_self, List.set_cons_zero]
      simp
    simp only
    rw [e, fill_all l m (k + 1) (pre ++ [x]) (by simpa using h) (by simp [hp])]
    simp
theorem bsP_is (p : Pt) (w : World) : (bsP 1 #[(0, .agg p.cs)]).run Try.prog w = .ok (.slice (some ⟨w.heap.size, 0, none⟩) 1 1) (w.alloc (.cells p.cs 53)) := by
  have hz : ∀ V : World, (sizeOf 53).run Try.prog V = .ok 77 V := Try.sizeOf53
  have hv : (zeroValue 53).run Try.prog w = .ok (.agg zeroP.cs) w := by kernel_rfl
  have hu : Try.prog.underlying 29 = some (.slice 53) := Try.underlying29
  have hf : Instr.fill (fun i => some (i * 77, 77)) ((Array.range (1 * 77)).map (zeroP.cs[· % zeroP.cs.size]!)) [(0, .agg p.cs)] = some p.cs := by
    have hps : p.cs.size = 77 := by rw [Row.csize, lenP]
    have e : ((Array.range (1 * 77)).map (zeroP.cs[· % zeroP.cs.size]!)).size = 77 := by simp
    unfold Instr.fill
    simp only [Value.cells, hps, e]
    rw [if_neg (by simp)]
    unfold Instr.fill
    have q := fill_all p.cl ((Array.range (1 * 77)).map (zeroP.cs[· % zeroP.cs.size]!)).toList 0 [] (by rw [Array.length_toList, e, Pt.len]) rfl
    simp only [List.nil_append, Array.toArray_toList] at q
    have e2 : p.cs = p.cl.toArray := rfl
    have e3 : p.cs.zipIdx.toList = p.cl.zipIdx := by rw [e2]; simp
    rw [← Array.foldl_toList, e3, e2, Nat.zero_mul]
    exact congrArg some q
  unfold bsP Instr.buildSlice
  simp only [Sem.run_bind, run_underlying hu, Result.andThen_ok, hz]
  simp [hv, hf, Value.cells]
  rfl
/-- A port's variable that is new. -/
structure PN (w W : World) (b : Nat) (q : Pt) : Prop where
  var : RvAt W b 53 q.cs
  bel : Below w.heap.size w W
  hb : w.heap.size ≤ b
theorem PN.go {w W V : World} {b : Nat} {q r : Pt} (s : PN w W b q) (h : RvAt V b 53 r.cs) (g : W.grownBy V (some b)) : PN w V b r := ⟨h, gro s.bel g s.hb s.bel.size, s.hb⟩
theorem PN.below {w W V : World} {b : Nat} {q : Pt} (s : PN w W b q) (k : Below W.heap.size W V) : PN w V b q := ⟨s.var.below k, below_over s.bel k, s.hb⟩
theorem PN.setB {w W : World} {b j : Nat} {q : Pt} (s : PN w W b q) (h : kdP[j]? = some none) (x : Bool) : ∃ V, (stS 4 (.pointer (some ⟨b, j, none⟩)) (.bool x)).run Try.prog W = .ok () V ∧ PN w V b (q.setB j h x) := by
  obtain ⟨V, e, h1, g⟩ := s.var.setB h x
  exact ⟨V, e, s.go h1 g⟩
theorem PN.new (W : World) (p : Pt) : ∃ V, (stS 53 (.pointer (some ⟨W.heap.size, 0, none⟩)) (.agg p.cs)).run Try.prog (W.alloc (.cells zeroP.cs 53)) = .ok () V ∧ PN W V W.heap.size p := by
  obtain ⟨V, e, r, b, z⟩ := var_p W p
  exact ⟨V, e, r, b, Nat.le_refl _⟩
theorem RvAt.belowB {W V : World} {b B : Nat} {ty : TypeId} {cs : Array Value} (h : RvAt W b ty cs) (hb : Below B W V) (hlt : b < B) : RvAt V b ty cs := (hb.block b hlt).trans h
/-- A port appended to ports of one's own. -/
theorem Own.next {W : World} {B : Nat} {v : Value} {l : List Pt} (o : Own W B v l) (hB : B ≤ W.heap.size) (hl : l.length ≤ 1000) (p : Pt) :
    ∃ v' W', (apS 29 #[v, .slice (some ⟨W.heap.size, 0, none⟩) 1 1]).run Try.prog (W.alloc (.cells p.cs 53)) = .ok v' W' ∧ Own W' B v' (l ++ [p]) ∧ Below B W W' := by
  have bA : Below W.heap.size W (W.alloc (.cells p.cs 53)) := (Below.refl _ _).alloc (Nat.le_refl _) _
  obtain ⟨v', W', ap, o2, g2⟩ := (o.below bA).app (one_new W p) (by simp; omega) (Nat.le_trans hB bA.size) 29
  refine ⟨v', W', ap, o2, (bA.mono hB).trans (below_of_grown g2 (Nat.le_trans hB bA.size) (fun j e => ?_))⟩
  rcases o.pat with ⟨rfl, rfl⟩ | ⟨g, c, rfl, hg, _⟩
  · cases e
  · cases e; exact hg
theorem results_tb {fn : Func} {k t : Nat} (hr : fn.results = #[.cell k 31, .tmp t]) (tmps : Array Value) (w : World) (b : Nat) (h : Hd) (x : Value) (h2 : tmps.getD k undef = .pointer (some ⟨b, 0, none⟩)) (r : RvAt w b 31 (trc h x)) :
    (results fn tmps).run Try.prog w = .ok (.tuple #[.agg (trc h x), tmps.getD t undef]) w := by
  have hl := r.lv rtT (trc_size h x)
  have h2' : tmps[k]?.getD undef = .pointer (some ⟨b, 0, none⟩) := by simpa using h2
  simp [results, hr, asAddr, hl, h2']
/-- A function that tells a tree and a bool, at its end. -/
theorem ret_tb {fn : Func} {k t : Nat} (hr : fn.results = #[.cell k 31, .tmp t]) {R : Ending → World → Prop} {a : Act} {w : World} {b : Nat} {h : Hd} {y : Value} {x : Value} (hd : a.defers = []) (h2 : a.tmps.getD k undef = .pointer (some ⟨b, 0, none⟩)) (h3 : a.tmps.getD t undef = x) (r : RvAt w b 31 (trc h y)) (hR : R (.returned (.tuple #[.agg (trc h y), x])) w) : bodyPost Try.prog fn R .ret a w :=
  bodyPost_ret (results_tb hr _ _ _ _ _ h2 r) hd (by rw [h3]; exact hR)
theorem SlAt.low {W : World} {g o n c : Nat} {l : List Pt} (hs : SlAt W (some ⟨g, o, none⟩) n c l) (hn : 0 < n) : g < W.heap.size := by
  obtain ⟨b, o', e, hc⟩ := hs.cells _ rfl hn
  cases e
  have hl := hs.len
  exact World.block_lt_of_cell? W _ (hc 0 _ (List.getElem?_eq_getElem (by rw [flat_len]; omega)))
/-- A tree's variable, the result's, and a port's. -/
structure TP (w W : World) (t d z : Nat) (h : Hd) (g o n c : Nat) (l : List Pt) (p : Pt) : Prop where
  tre : TS w W t d h (.slice (some ⟨g, o, none⟩) n c)
  sl : SlAt W (some ⟨g, o, none⟩) n c l
  pv : RvAt W z 53 p.cs
  hz : w.heap.size ≤ z
  lt : g < w.heap.size
theorem TP.below {w W V : World} {t d z g o n c : Nat} {h : Hd} {l : List Pt} {p : Pt} (s : TP w W t d z h g o n c l p) (e : Below W.heap.size W V) : TP w V t d z h g o n c l p := ⟨s.tre.below e, s.sl.below e, s.pv.below e, s.hz, s.lt⟩
theorem TP.go {w W V : World} {t d z g o n c : Nat} {h : Hd} {l : List Pt} {p q : Pt} (s : TP w W t d z h g o n c l p) (r : RvAt V z 53 q.cs) (e : W.grownBy V (some z)) : TP w V t d z h g o n c l q :=
  have n1 : t ≠ z := s.tre.var.apart s.pv (by decide)
  have n2 : d ≠ z := s.tre.out.apart s.pv (by decide)
  ⟨⟨s.tre.var.keptBut e (by simpa using n1), s.tre.out.keptBut e (by simpa using n2), gro s.tre.bel e s.hz s.tre.bel.size, s.tre.hd⟩, s.sl.keptBut e (fun x hx e' => by cases hx; have := s.lt; have := s.hz; simp only [Option.some.injEq] at e'; omega), r, s.hz, s.lt⟩
theorem TP.setB {w W : World} {t d z g o n c j : Nat} {h : Hd} {l : List Pt} {p : Pt} (s : TP w W t d z h g o n c l p) (hk : kdP[j]? = some none) (x : Bool) : ∃ V, (stS 4 (.pointer (some ⟨z, j, none⟩)) (.bool x)).run Try.prog W = .ok () V ∧ TP w V t d z h g o n c l (p.setB j hk x) := by
  obtain ⟨V, e, h1, g⟩ := s.pv.setB hk x
  exact ⟨V, e, s.go h1 g⟩
theorem TP.setU {w W : World} {t d z g o n c j : Nat} {h : Hd} {l : List Pt} {p : Pt} (s : TP w W t d z h g o n c l p) (hk : kdP[j]? = some (some .u8)) {x : Int} (hx : 0 ≤ x ∧ x ≤ 255) : ∃ V, (stS 5 (.pointer (some ⟨z, j, none⟩)) (.int .u8 x)).run Try.prog W = .ok () V ∧ TP w V t d z h g o n c l (p.setU j x) := by
  obtain ⟨V, e, h1, g⟩ := s.pv.setU hk hx
  exact ⟨V, e, s.go h1 g⟩
/-- Room for a tree, filled. -/
theorem new_tr (w : World) (h : Hd) (x : Value) (hx : x.oneCell' = true) : ∃ W', (stS 31 (.pointer (some ⟨w.heap.size, 0, none⟩)) (.agg (trc h x))).run Try.prog (w.alloc (.cells #[.int .u64 0, .int .u8 0, .int .u8 0, .int .u8 0, .int .u8 0, .int .u8 0, .bool false, .int .u16 0, .int .u64 0, .int .u32 0, .int .u64 0, .int .u16 0, .int .u8 0, .int .u8 0, .int .u8 0, .int .u8 0, .slice none 0 0] 31)) = .ok () W' ∧ RvAt W' w.heap.size 31 (trc h x) ∧ Below w.heap.size w W' ∧ W'.heap.size = w.heap.size + 1 := by
  have h0 := row_new rtT w zeroT (trc h x) rfl (trc_size h x) (trc_one hx)
  exact h0
/-- Behind Few: the first ports are in the variable. -/
theorem TQ.few {w W W1 : World} {b m c : Nat} {h : Hd} {x : Value} {a : Option Addr} {l : List Pt} (r : RvAt W b 31 (trc h x)) (hB : Below w.heap.size w W) (hb : w.heap.size ≤ b) (b1 : Below W.heap.size W W1) (s : SlAt W1 a m c l) :
    ∃ V, (stS 31 (.pointer (some ⟨b, 0, none⟩)) (.agg (trc h (.slice a m c)))).run Try.prog W1 = .ok () V ∧ TQ w V b h a m c l := by
  obtain ⟨V, e, rV, g⟩ := (r.below b1).tst (g := h) (y := .slice a m c) rfl
  exact ⟨V, e, rV, s.keptT (r.below b1) g, gro (below_over hB b1) g hb (below_over hB b1).size, hb⟩
/-- A new one. -/
theorem TQ.new {w W : World} {n c : Nat} {h : Hd} {a : Option Addr} {l : List Pt} (s : SlAt W a n c l) (hB : Below w.heap.size w W) : ∃ V, (stS 31 (.pointer (some ⟨W.heap.size, 0, none⟩)) (.agg (trc h (.slice a n c)))).run Try.prog (W.alloc (.cells #[.int .u64 0, .int .u8 0, .int .u8 0, .int .u8 0, .int .u8 0, .int .u8 0, .bool false, .int .u16 0, .int .u64 0, .int .u32 0, .int .u64 0, .int .u16 0, .int .u8 0, .int .u8 0, .int .u8 0, .int .u8 0, .slice none 0 0] 31)) = .ok () V ∧ TQ w V W.heap.size h a n c l ∧ Below W.heap.size W V := by
  obtain ⟨V, e, r, b, z⟩ := new_tr W h (.slice a n c) rfl
  exact ⟨V, e, ⟨r, s.below b, below_over hB b, hB.size⟩, b⟩
attribute [local go_sem ↓] ldP stP ldT stT apE st32
attribute [local go_sem ↓] slP
theorem has_any (h : Hd) (a : Option Addr) (n c : Nat) (i : Int) (w : World) (hn : n ≤ 1000) :
    Calls Try.prog 18 #[.agg (trc h (.slice a n c)), .int .i64 i] w fun r w' => r = .returned (.bool (decide (0 ≤ i) && decide (i < n))) ∧ Below w.heap.size w w' := by
  obtain ⟨W, hW, r0, bW, zW⟩ := one_t w h (.slice a n c)
  have c16 := r0.t16
  have F : Hid (Below w.heap.size w W) := bW
  clear r0 bW zW
  go_enter Try.func18, Try.ntmps18
  by_cases h1 : 0 ≤ i
  · by_cases h2 : i < (n : Int)
    · go_wp2
      go_ret
      exact ⟨by simp [h1, h2], F.out⟩
    · go_wp2
      go_ret
      exact ⟨by simp [h1, h2], F.out⟩
  · go_wp2
    go_ret
    exact ⟨by simp; omega, F.out⟩
set_option maxHeartbeats 4000000 in
theorem with_any (h : Hd) (a : Option Addr) (n c : Nat) (l : List Pt) (k : Nat) (p : Pt) (w : World) (hs : SlAt w a n c l) (hn : n ≤ 1000) (hk : k < n) :
    Calls Try.prog 19 #[.agg (trc h (.slice a n c)), .int .i64 (k : Int), .agg p.cs] w fun r w' => ∃ g c', r = .returned (.agg (trc h (.slice (some ⟨g, 0, none⟩) n c'))) ∧ w.heap.size ≤ g ∧ SlAt w' (some ⟨g, 0, none⟩) n c' (l.set k p) ∧ Below w.heap.size w w' := by
  obtain ⟨W, hW, r0, rp, r1, bW, zW⟩ := three_t w h (.slice a n c) p
  have l0 := r0.tld
  have H : Hid (SlAt W a n c l ∧ n ≤ 1000 ∧ l.length = n ∧ RvAt W w.heap.size 31 (trc h (.slice a n c)) ∧ RvAt W (w.heap.size + 1 + 1) 31 (trc zeroH (.slice none 0 0)) ∧ Below w.heap.size w W ∧ W.heap.size = w.heap.size + 3 ∧ RvAt W (w.heap.size + 1) 53 p.cs) := ⟨hs.below bW, hn, hs.len, r0, r1, bW, zW, rp⟩
  clear hs hn r0 r1 bW zW rp
  go_enter Try.func19, Try.ntmps19
  go_wp2_with fail
  refine (rcopy_any h a n c l W H.out.1 H.out.2.1).mono ?_
  rintro _ W2 ⟨v, rfl, o2, b2⟩
  have z2 := H.out.2.2.2.2.2.2.1
  have hl := H.out.2.2.1
  obtain ⟨W3, s3, r3, g3⟩ := (H.out.2.2.2.1.below b2).tst (g := h) (y := v) o2.one
  have o3 := o2.keptBut g3 (o2.apart (by omega))
  have q3 := (H.out.2.2.2.2.1.below b2).keptBut g3 (by simp only [ne_eq, Option.some.injEq]; omega)
  have p3 := (H.out.2.2.2.2.2.2.2.below b2).keptBut g3 (by simp only [ne_eq, Option.some.injEq]; omega)
  have b3 : Below w.heap.size w W3 := gro (below_over H.out.2.2.2.2.2.1 b2) g3 (Nat.le_refl _) (by have := b2.size; omega)
  have lp := p3.pld
  have hin0 : (0 : Int) ≤ (k : Int) := by omega
  have hin1 : (k : Int) < (n : Int) := by omega
  clear b2 g3 o2 l0 hW
  rcases o3.pat with ⟨hv, hle⟩ | ⟨g, cc, hv, hg, hp⟩
  · rw [hle] at hl; simp at hl; omega
  · rw [hl] at hv
    subst hv
    have c16 := r3.t16
    obtain ⟨V, sV, pV, gV⟩ := hp.stp (i := k) (p := p) (by omega) rfl
    have r5 := r3.keptBut gV (by simp; omega)
    have q5 := q3.keptBut gV (by simp; omega)
    have l5 := r5.tld
    obtain ⟨W6, s6, r6, g6⟩ := q5.tst (g := h) (y := .slice (some ⟨g, 0, none⟩) n cc) rfl
    have p6 := pV.keptBut g6 (by simp; omega)
    have b6 : Below w.heap.size w W6 := gro (gro b3 gV (by omega) b3.size) g6 (by omega) (by have := b3.size; have := gV.size; omega)
    have s6' := p6.sl
    rw [List.length_set, hl] at s6'
    have F : Hid (RvAt W6 (w.heap.size + 1 + 1) 31 (trc h (.slice (some ⟨g, 0, none⟩) n cc)) ∧ w.heap.size ≤ g ∧ SlAt W6 (some ⟨g, 0, none⟩) n cc (l.set k p) ∧ Below w.heap.size w W6) := ⟨r6, by omega, s6', b6⟩
    clear hp pV gV r5 q5 r6 g6 p6 b6 s6' hg r3 q3 p3 b3 o3 hl z2 hk
    go_wp2
    refine bodyPost_ret (results_row rtT Try.results19 _ _ _ _ rfl F.out.1 (trc_size _ _)) rfl ?_
    exact ⟨g, cc, rfl, F.out.2⟩
end Go.Proofs.Ytllmadgonobdnaa
