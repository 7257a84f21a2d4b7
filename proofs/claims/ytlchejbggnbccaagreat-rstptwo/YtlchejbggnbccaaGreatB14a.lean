/-
  Ports of lists and trees' variables: what is stored, what stays. Plain laws over the program's types; the walks of the library's Clone and of Few. And what follows from it here.
-/
import Derived.Test.YtlchejbggnbccaaGreatBbb
import Derived.Test.YtlchejbggnbccaaGreatBba
namespace Go.Proofs.YtlchejbggnbccaaGreat
set_option linter.unusedVariables false
set_option linter.unusedSimpArgs false
set_option maxRecDepth 4000
section
namespace S14
open Go.RowKit

def gtP (l : List Pt) (i : Nat) : Pt := l.getD i zeroP
theorem gtP_at {l : List Pt} {i : Nat} (h : i < l.length) : l[i]? = some (gtP l i) := by
  simp [gtP, List.getD_eq_getElem?_getD, List.getElem?_eq_getElem h]
theorem one_t (w : World) (h : Hd) (x : Value) : ∃ W, w.alloc (.cells (trc h x) 39) = W ∧ RvAt W w.heap.size 39 (trc h x) ∧ Below w.heap.size w W ∧ W.heap.size = w.heap.size + 1 :=
  ⟨_, rfl, RvAt.new w _ _, (Below.refl _ _).alloc (Nat.le_refl _) _, by simp⟩
theorem bt_of {ks ks' : List (Option IntKind)} {r : Row ks} {q : Row ks'} {i j : Nat} (h : r.cl[i]? = q.cl[j]?) : r.bt i = q.bt j := by unfold Row.bt; rw [h]
theorem nm_of {ks ks' : List (Option IntKind)} {r : Row ks} {q : Row ks'} {i j : Nat} (h : r.cl[i]? = q.cl[j]?) : r.nm i = q.nm j := by unfold Row.nm; rw [h]
theorem setB_bt {ks : List (Option IntKind)} (r : Row ks) {i j : Nat} (h : ks[j]? = some none) (b : Bool) (hn : i ≠ j) : (r.setB j h b).bt i = r.bt i := bt_of (by rw [r.setB_get, if_neg hn])
theorem setB_nm {ks : List (Option IntKind)} (r : Row ks) {i j : Nat} (h : ks[j]? = some none) (b : Bool) (hn : i ≠ j) : (r.setB j h b).nm i = r.nm i := nm_of (by rw [r.setB_get, if_neg hn])
theorem wi1 : (Lit.int .i64 1).wf = true := by decide
theorem wi2 : (Lit.int .i64 2).wf = true := by decide
theorem wi3 : (Lit.int .i64 3).wf = true := by decide
structure PA (W : World) (a : Option Addr) (n c : Nat) (l : List Pt) : Prop where
  len : l.length = n
  nil : a = none → n = 0 ∧ c = 0
  pat : ∀ x, a = some x → ∃ g, x = ⟨g, 0, none⟩ ∧ PAt W g c l
def mapI (f : Nat → Pt → Pt) (l : List Pt) (i : Nat) : List Pt := (l.take i).mapIdx f ++ l.drop i
theorem mapI_len (f : Nat → Pt → Pt) (l : List Pt) (i : Nat) : (mapI f l i).length = l.length := by
  simp [mapI]; omega
theorem mapI_at {f : Nat → Pt → Pt} {l : List Pt} {i : Nat} (h : i < l.length) : (mapI f l i)[i]? = some (gtP l i) := by
  rw [← gtP_at h]
  unfold mapI
  rw [List.getElem?_append_right (by simp; omega), List.length_mapIdx, List.length_take, Nat.min_eq_left (by omega), Nat.sub_self, List.getElem?_drop]
  rfl
theorem mapI_next {f : Nat → Pt → Pt} {l : List Pt} {i : Nat} (h : i < l.length) : (mapI f l i).set i (f i (gtP l i)) = mapI f l (i + 1) := by
  unfold mapI
  have e : ((l.take i).mapIdx f).length = i := by simp; omega
  have hg : gtP l i = l[i] := by
    have := gtP_at h
    rw [List.getElem?_eq_getElem h] at this
    exact (Option.some.inj this).symm
  have e3 : (l.take i).length = i := by simp; omega
  rw [List.set_append_right _ _ (by omega), e, Nat.sub_self, List.drop_eq_getElem_cons h, List.set_cons_zero, List.take_add_one, List.getElem?_eq_getElem h, hg]
  simp only [Option.toList_some, List.mapIdx_append, List.mapIdx_cons, List.mapIdx_nil, e3, Nat.zero_add, List.append_assoc]
  rfl
theorem mapI_all (f : Nat → Pt → Pt) (l : List Pt) : mapI f l l.length = l.mapIdx f := by simp [mapI]
theorem mapI_zero (f : Nat → Pt → Pt) (l : List Pt) : mapI f l 0 = l := by simp [mapI]
theorem gtP_idx {f : Nat → Pt → Pt} {l : List Pt} {i : Nat} (h : i < l.length) : gtP (l.mapIdx f) i = f i (gtP l i) := by
  have h1 := gtP_at (l := l.mapIdx f) (i := i) (by simpa using h)
  have h2 := gtP_at h
  rw [List.getElem?_mapIdx, h2] at h1
  exact (Option.some.inj h1).symm
theorem stW (x y : Value) : Instr.storeAt 72 x y = stS 72 x y := rfl
theorem infoS : (Tryz.prog.info? 72).map (·.size) = some 1 := by kernel_rfl
structure PS (w W : World) (b d : Nat) (q : Pt) : Prop where
  var : RvAt W b 74 q.cs
  out : RvAt W d 74 zeroP.cs
  bel : Below w.heap.size w W
  hb : w.heap.size ≤ b
  hd : w.heap.size ≤ d
  ne : d ≠ b
theorem PS.start (w : World) (p : Pt) : ∃ W, (w.alloc (.cells p.cs 74)).alloc (.cells zeroP.cs 74) = W ∧ PS w W w.heap.size (w.heap.size + 1) p := by
  obtain ⟨W, hW, r0, r1, bW, zW⟩ := two_p w p
  exact ⟨W, hW, r0, r1, bW, Nat.le_refl _, by omega, by omega⟩
theorem PS.tell {w W : World} {b d : Nat} {q : Pt} (s : PS w W b d q) (r : Pt) : ∃ U, (stS 74 (.pointer (some ⟨d, 0, none⟩)) (.agg r.cs)).run Tryz.prog W = .ok () U ∧ RvAt U d 74 r.cs ∧ Below w.heap.size w U := by
  obtain ⟨U, e, h1, g⟩ := s.out.pst (q := r)
  exact ⟨U, e, h1, gro s.bel g s.hd s.bel.size⟩
theorem PS.ld {w W : World} {b d : Nat} {q : Pt} (s : PS w W b d q) : (ldS 74 (.pointer (some ⟨b, 0, none⟩))).run Tryz.prog W = .ok (.agg q.cs) W := s.var.pld
theorem results_pb {fn : Func} {k t : Nat} (hr : fn.results = #[.cell k 74, .tmp t]) (tmps : Array Value) (w : World) (b : Nat) (p : Pt) (h2 : tmps.getD k undef = .pointer (some ⟨b, 0, none⟩)) (h : RvAt w b 74 p.cs) :
    (results fn tmps).run Tryz.prog w = .ok (.tuple #[.agg p.cs, tmps.getD t undef]) w := by
  have hl := h.lv rtP (by rw [Row.csize, lenP])
  have h2' : tmps[k]?.getD undef = .pointer (some ⟨b, 0, none⟩) := by simpa using h2
  simp [results, hr, asAddr, hl, h2']
theorem ret_pb {fn : Func} {k t : Nat} (hr : fn.results = #[.cell k 74, .tmp t]) {R : Ending → World → Prop} {a : Act} {w : World} {b : Nat} {p : Pt} {x : Bool} (hd : a.defers = []) (h2 : a.tmps.getD k undef = .pointer (some ⟨b, 0, none⟩)) (h3 : a.tmps.getD t undef = .bool x) (h : RvAt w b 74 p.cs) (hR : R (.returned (.tuple #[.agg p.cs, .bool x])) w) : bodyPost Tryz.prog fn R .ret a w :=
  bodyPost_ret (results_pb hr _ _ _ _ h2 h) hd (by rw [h3]; exact hR)
theorem set_self {l : List Pt} {k : Nat} (h : k < l.length) : l.set k (gtP l k) = l := by
  have : gtP l k = l[k] := by
    have := gtP_at h
    rw [List.getElem?_eq_getElem h] at this
    exact (Option.some.inj this).symm
  rw [this, List.set_getElem_self]
theorem var_p (W : World) (p : Pt) : ∃ W', (stS 74 (.pointer (some ⟨W.heap.size, 0, none⟩)) (.agg p.cs)).run Tryz.prog (W.alloc (.cells zeroP.cs 74)) = .ok () W' ∧ RvAt W' W.heap.size 74 p.cs ∧ Below W.heap.size W W' ∧ W'.heap.size = W.heap.size + 1 :=
  row_new rtP W zeroP.cs p.cs (by rw [Row.csize, lenP]) (by rw [Row.csize, lenP]) p.one'
structure TS (w W : World) (b d : Nat) (h : Hd) (x : Value) : Prop where
  var : RvAt W b 39 (trc h x)
  out : RvAt W d 39 (trc zeroH (.slice none 0 0))
  bel : Below w.heap.size w W
  hd : w.heap.size ≤ d
theorem TS.below {w W V : World} {b d : Nat} {h : Hd} {x : Value} (s : TS w W b d h x) (k : Below W.heap.size W V) : TS w V b d h x := ⟨s.var.below k, s.out.below k, below_over s.bel k, s.hd⟩
theorem TS.tell {w W : World} {b d : Nat} {h : Hd} {x : Value} (s : TS w W b d h x) {y : Value} (hy : y.oneCell' = true) : ∃ U, (stS 39 (.pointer (some ⟨d, 0, none⟩)) (.agg (trc h y))).run Tryz.prog W = .ok () U ∧ RvAt U d 39 (trc h y) ∧ Below w.heap.size w U ∧ W.grownBy U (some d) := by
  obtain ⟨U, e, h1, g⟩ := s.out.tst (g := h) (y := y) hy
  exact ⟨U, e, h1, gro s.bel g s.hd s.bel.size, g⟩
theorem gtP_put {l : List Pt} {k : Nat} {q : Pt} (hk : k < l.length) : gtP (l.set k q) k = q := by
  have := gtP_at (l := l.set k q) (i := k) (by rw [List.length_set]; exact hk)
  rw [List.getElem?_set, if_pos rfl, if_pos hk] at this
  exact (Option.some.inj this).symm
theorem results_tb {fn : Func} {k t : Nat} (hr : fn.results = #[.cell k 39, .tmp t]) (tmps : Array Value) (w : World) (b : Nat) (h : Hd) (x : Value) (h2 : tmps.getD k undef = .pointer (some ⟨b, 0, none⟩)) (r : RvAt w b 39 (trc h x)) :
    (results fn tmps).run Tryz.prog w = .ok (.tuple #[.agg (trc h x), tmps.getD t undef]) w := by
  have hl := r.lv rtT (trc_size h x)
  have h2' : tmps[k]?.getD undef = .pointer (some ⟨b, 0, none⟩) := by simpa using h2
  simp [results, hr, asAddr, hl, h2']
structure TP (w W : World) (t d z : Nat) (h : Hd) (g o n c : Nat) (l : List Pt) (p : Pt) : Prop where
  tre : TS w W t d h (.slice (some ⟨g, o, none⟩) n c)
  sl : SlAt W (some ⟨g, o, none⟩) n c l
  pv : RvAt W z 74 p.cs
  hz : w.heap.size ≤ z
  lt : g < w.heap.size
theorem TP.below {w W V : World} {t d z g o n c : Nat} {h : Hd} {l : List Pt} {p : Pt} (s : TP w W t d z h g o n c l p) (e : Below W.heap.size W V) : TP w V t d z h g o n c l p := ⟨s.tre.below e, s.sl.below e, s.pv.below e, s.hz, s.lt⟩
attribute [local go_sem ↓] ldP stP ldT stT apE st32
theorem nil_yes (w : World) : (binOp .eql 37 (.slice none 0 0) (.slice none 0 0)).run Tryz.prog w = .ok (.bool true) w := by kernel_rfl
theorem nil_no (x : Addr) (n c : Nat) (w : World) : (binOp .eql 37 (.slice (some x) n c) (.slice none 0 0)).run Tryz.prog w = .ok (.bool false) w := by kernel_rfl
attribute [local go_sem] nil_yes nil_no
set_option maxHeartbeats 2000000 in
theorem clone_any (a : Option Addr) (n c : Nat) (l : List Pt) (w : World) (hs : SlAt w a n c l) (hn : n ≤ 1000) :
    Calls Tryz.prog 88 #[.slice a n c] w fun r w' => ∃ v, r = .returned v ∧ Own w' w.heap.size v l ∧ Below w.heap.size w w' := by
  cases a with
  | none =>
    obtain ⟨rfl, rfl⟩ := hs.nil rfl
    have hl : l = [] := List.eq_nil_of_length_eq_zero hs.len
    subst hl
    go_enter Tryz.func88, Tryz.ntmps88
    go_wp2
    go_ret
    exact ⟨_, rfl, Own.nil _ _, Below.refl _ _⟩
  | some x =>
    obtain ⟨W1, hW1⟩ : ∃ W1, w.alloc (.cells #[] 74) = W1 := ⟨_, rfl⟩
    have b1 : Below w.heap.size w W1 := by rw [← hW1]; exact (Below.refl _ _).alloc (Nat.le_refl _) _
    have o1 : Own W1 w.heap.size (.slice (some ⟨w.heap.size, 0, none⟩) 0 0) [] := by rw [← hW1]; exact zero_new w _ (Nat.le_refl _)
    obtain ⟨v, W2, ap, o2, g2⟩ := o1.app (hs.below b1) (by have := hs.len; simp; omega) b1.size 37
    rw [List.nil_append] at o2
    have b2 : Below w.heap.size w W2 := b1.trans (below_of_grown g2 b1.size (fun j e => by cases e; exact Nat.le_refl _))
    have F : Hid (Own W2 w.heap.size v l ∧ Below w.heap.size w W2) := ⟨o2, b2⟩
    clear hs b1 o1 o2 g2 b2 hn
    go_enter Tryz.func88, Tryz.ntmps88
    go_wp2
    go_ret
    exact ⟨v, rfl, F.out.1, F.out.2⟩
attribute [local go_sem ↓] slP
end S14
end
section
namespace S14
open Go.RowKit

theorem kb6 : kdP[6]? = some none := rfl
theorem kb8 : kdP[8]? = some none := rfl
theorem kb10 : kdP[10]? = some none := rfl
theorem kb26 : kdP[26]? = some none := rfl
theorem kb27 : kdP[27]? = some none := rfl
theorem kn74 : kdP[74]? = some (some .i64) := rfl
theorem ku71 : kdP[71]? = some (some .u8) := rfl
theorem u0 : (0 : Int) ≤ 0 ∧ (0 : Int) ≤ 255 := by decide
/-! ### a port's state -/
def doesP (x y : Bool) (p : Pt) : Pt := (p.setB 10 kb10 x).setB 8 kb8 y
def pstO (p : Pt) : Option Pt :=
  if ((p.bt 10 || p.bt 8) && !(p.bt 9)) = true then some (doesP false false p)
  else if (p.bt 8 && !(p.bt 7)) = true then some (doesP (p.bt 10) false p)
  else if (p.bt 9 && !(p.bt 10)) = true then some (doesP true (p.bt 8) p)
  else if ((p.bt 10 && p.bt 7) && !(p.bt 8)) = true then some (doesP true true p)
  else none
/-! ### changes -/
def hasB (p : Pt) : Bool := (p.nm 30 == 3) || (p.nm 30 == 4)
def tldB (p : Pt) : Bool := ((p.bt 17 || p.bt 19) || p.bt 18) || p.bt 27
def sumN (a b : Int) : Int := if 255 < a + b then 255 else a + b
theorem sumN_ok {a b : Int} (ha : 0 ≤ a) (hb : 0 ≤ b) : 0 ≤ sumN a b ∧ sumN a b ≤ 255 := by
  unfold sumN
  split <;> omega
theorem hu13 : kdH[13]? = some (some .u8) := rfl
theorem hu14 : kdH[14]? = some (some .u8) := rfl
theorem hu15 : kdH[15]? = some (some .u8) := rfl
def nwP (h : Hd) (p : Pt) : Pt :=
  if p.nm 71 = 0 then (if p.bt 23 = true then (p.setU 71 (sumN (h.nm 14) 1)).setB 11 kb11 true else p.setU 71 (sumN (h.nm 13) (h.nm 15))) else p
theorem sumA (h : Hd) : 0 ≤ sumN (h.nm 14) 1 ∧ sumN (h.nm 14) 1 ≤ 255 := sumN_ok (h.u8 hu14).1 (by decide)
theorem sumB (h : Hd) : 0 ≤ sumN (h.nm 13) (h.nm 15) ∧ sumN (h.nm 13) (h.nm 15) ≤ 255 := sumN_ok (h.u8 hu13).1 (h.u8 hu15).1
def sprL (l : List Pt) (k : Nat) (q : Pt) : List Pt := l.mapIdx (fun j p => if j = k then q else p.setB 27 kb27 true)
def tcP (k : Nat) (j : Nat) (p : Pt) : Pt := if j = k then p else p.setB 27 kb27 true
def prpL (l : List Pt) (k : Nat) : List Pt := l.mapIdx (tcP k)
theorem prpL_len (l : List Pt) (k : Nat) : (prpL l k).length = l.length := by simp [prpL]
theorem spr_at {l : List Pt} {k : Nat} (q : Pt) {j : Nat} (hj : j < l.length) : gtP (sprL l k q) j = if j = k then q else (gtP l j).setB 27 kb27 true := gtP_idx hj
theorem prp_set (l : List Pt) (k : Nat) (q : Pt) : prpL (l.set k q) k = sprL l k q := by
  refine List.ext_getElem? fun j => ?_
  unfold prpL sprL
  rw [List.getElem?_mapIdx, List.getElem?_mapIdx, List.getElem?_set]
  by_cases hj : k = j
  · subst hj
    rw [if_pos rfl]
    split
    · rename_i hl
      rw [List.getElem?_eq_getElem hl]
      simp [tcP]
    · rename_i hl
      rw [List.getElem?_eq_none (by omega)]
      rfl
  · rw [if_neg hj]
    cases l[j]? with
    | none => rfl
    | some p =>
      simp only [Option.map_some, tcP]
      rw [if_neg (fun e => hj e.symm), if_neg (fun e => hj e.symm)]
theorem spr_set (l : List Pt) (k : Nat) (q r : Pt) : (sprL l k q).set k r = sprL l k r := by
  refine List.ext_getElem? fun j => ?_
  unfold sprL
  rw [List.getElem?_set, List.getElem?_mapIdx, List.getElem?_mapIdx, List.length_mapIdx]
  by_cases hj : k = j
  · subst hj
    rw [if_pos rfl]
    split
    · rename_i hl
      rw [List.getElem?_eq_getElem hl]
      simp
    · rename_i hl
      rw [List.getElem?_eq_none (by omega)]
      rfl
  · rw [if_neg hj]
    cases l[j]? with
    | none => rfl
    | some p =>
      simp only [Option.map_some]
      rw [if_neg (fun e => hj e.symm), if_neg (fun e => hj e.symm)]
theorem prp_spr {l : List Pt} {k : Nat} (hk : k < l.length) : prpL l k = sprL l k (gtP l k) := by
  have := prp_set l k (gtP l k)
  rw [set_self hk] at this
  exact this
def quiP (p : Pt) : Pt := (((p.setB 6 kb6 true).setB 26 kb26 false).setU 71 0).setN 74 kn74 1 wi1
def lrnP (p : Pt) : Pt := ((((p.setB 17 kb17 false).setB 19 kb19 false).setB 18 kb18 false).setB 27 kb27 false).setN 74 kn74 2 wi2
def actP (p : Pt) : Pt := (p.setB 11 kb11 true).setN 74 kn74 3 wi3
def detP (h : Hd) (p : Pt) : Pt := actP (nwP h p)
def heaQ (h : Hd) (p : Pt) : Pt := if p.bt 19 = true then nwP h p else p
def heaP (q : Pt) : Pt := ((q.setB 19 kb19 false).setB 17 kb17 false).setB 26 kb26 (q.bt 26 || (q.nm 30 == 4))
def ntfP (h : Hd) (p : Pt) : Pt := heaP (heaQ h p)
def flsP (p : Pt) : Pt := (p.setB 6 kb6 true).setB 27 kb27 false
def prgP (h : Hd) (p : Pt) : Pt := flsP (nwP h p)
def ackP (p : Pt) : Pt := (p.setU 71 0).setB 18 kb18 false
def inaO (l : List Pt) (k : Nat) : Option (List Pt) := if ((gtP l k).bt 9 && !((gtP l k).bt 6)) = true then some (l.set k (lrnP (gtP l k))) else none
def leaO (h : Hd) (l : List Pt) (k : Nat) : Option (List Pt) :=
  if (hasB (gtP l k) && (gtP l k).bt 7) = true then some (sprL l k (detP h (gtP l k)))
  else if (((!(hasB (gtP l k)) && !((gtP l k).bt 9)) && !((gtP l k).bt 10)) && !(tldB (gtP l k))) = true then some (l.set k (quiP (gtP l k)))
  else if tldB (gtP l k) = true then some (l.set k (lrnP (gtP l k))) else none
def actO (h : Hd) (l : List Pt) (k : Nat) : Option (List Pt) :=
  if hasB (gtP l k) = false then some (l.set k (lrnP (gtP l k)))
  else if ((gtP l k).bt 19 || (gtP l k).bt 17) = true then some (sprL l k (ntfP h (gtP l k)))
  else if (gtP l k).bt 27 = true then some (l.set k (prgP h (gtP l k)))
  else if (gtP l k).bt 18 = true then some (l.set k (ackP (gtP l k))) else none
def tcmO (h : Hd) (l : List Pt) (k : Nat) : Option (List Pt) :=
  if (gtP l k).nm 74 = 1 then inaO l k
  else if (gtP l k).nm 74 = 2 then leaO h l k
  else if (gtP l k).nm 74 = 3 then actO h l k
  else some (l.set k (quiP (gtP l k)))
end S14
end
section
namespace S14
open Go.RowKit

attribute [local go_sem ↓] ldP stP stB alP
attribute [local go_sem] alP_run
set_option maxHeartbeats 1000000 in
theorem does_any (W : World) (b : Nat) (p : Pt) (x y : Bool) (hb : RvAt W b 74 p.cs) :
    Calls Tryz.prog 167 #[.bool x, .bool y, .pointer (some ⟨b, 0, none⟩)] W fun r W' => r = .returned (.tuple #[.agg (doesP x y p).cs, .bool true]) ∧ W.grownBy W' (some b) := by
  obtain ⟨W1, hW1, r1, b1, z1⟩ := new_p W zeroP
  obtain ⟨d, hd⟩ : ∃ d, W.heap.size = d := ⟨_, rfl⟩
  have hlt : b < d := by rw [← hd]; exact hb.lt
  rw [hd] at r1
  obtain ⟨V1, e1, p1, g1⟩ := (hb.below b1).setB kb10 x
  obtain ⟨V2, e2, p2, g2⟩ := p1.setB kb8 y
  have r2 := (r1.keptBut g1 (by simp; omega)).keptBut g2 (by simp; omega)
  have p2 : RvAt V2 b 74 (doesP x y p).cs := p2
  have lp := p2.pld
  obtain ⟨U, e3, r3, g3⟩ := r2.pst (q := doesP x y p)
  have gU : W.grownBy U (some b) := by
    have k1 : W.grownBy V2 (some b) := grown_self (grown_self (grown_of_below b1 _) g1) g2
    refine ⟨g3.os.trans k1.os, g3.tape.trans k1.tape, g3.output.trans k1.output, Nat.le_trans k1.size g3.size, fun i hi hne => ?_⟩
    rw [g3.block i (Nat.lt_of_lt_of_le hi k1.size) (by simp; omega), k1.block i hi hne]
  have F : Hid (RvAt U d 74 (doesP x y p).cs ∧ W.grownBy U (some b)) := ⟨r3, gU⟩
  clear hb r1 b1 z1 hlt p1 g1 p2 g2 r2 r3 g3 gU
  go_enter Tryz.func167, Tryz.ntmps167
  go_wp2_with (with_reducible exact ret_pb Tryz.results167 (by with_unfolding_all rfl) (by with_unfolding_all rfl) (by with_unfolding_all rfl) F.out.1 ⟨rfl, F.out.2⟩)
abbrev PRes (w : World) (p : Pt) (O : Option Pt) (r : Ending) (w' : World) : Prop := r = .returned (.tuple #[.agg (O.getD p).cs, .bool O.isSome]) ∧ Below w.heap.size w w'
set_option maxHeartbeats 4000000 in
theorem pst_any (p : Pt) (w : World) : Calls Tryz.prog 133 #[.agg p.cs] w fun r w' => PRes w p (pstO p) r w' := by
  obtain ⟨OO, hOO⟩ : ∃ z, pstO p = z := ⟨_, rfl⟩
  rw [hOO]
  have EO : Hid (pstO p = OO) := hOO
  obtain ⟨W, hW, s0⟩ := PS.start w p
  have S : Hid (PS w W w.heap.size (w.heap.size + 1) p) := s0
  obtain ⟨b10, h10⟩ : ∃ z, p.bt 10 = z := ⟨_, rfl⟩
  have H10 : Hid (p.bt 10 = b10) := h10
  clear h10
  obtain ⟨b8, h8⟩ : ∃ z, p.bt 8 = z := ⟨_, rfl⟩
  have H8 : Hid (p.bt 8 = b8) := h8
  clear h8
  obtain ⟨b9, h9⟩ : ∃ z, p.bt 9 = z := ⟨_, rfl⟩
  have H9 : Hid (p.bt 9 = b9) := h9
  clear h9
  obtain ⟨b7, h7⟩ : ∃ z, p.bt 7 = z := ⟨_, rfl⟩
  have H7 : Hid (p.bt 7 = b7) := h7
  clear h7
  clear s0 hOO
  cases b10
  · cases b8
    · cases b9
      · have E : OO = none := by
          rw [← EO.out]
          unfold pstO
          rw [if_neg (by rw [H10.out, H8.out, H9.out]; simp), if_neg (by rw [H8.out, H7.out]; simp), if_neg (by rw [H9.out, H10.out]; simp), if_neg (by rw [H10.out, H7.out, H8.out]; simp)]
        have E9 : Hid (Ending.returned (.tuple #[.agg (p).cs, .bool false]) = .returned (.tuple #[.agg (OO.getD p).cs, .bool OO.isSome])) := by rw [E]; exact rfl
        clear E
        have c10 := S.out.var.pbit (j := 10) rfl
        rw [H10.out] at c10
        have c8 := S.out.var.pbit (j := 8) rfl
        rw [H8.out] at c8
        have c9 := S.out.var.pbit (j := 9) rfl
        rw [H9.out] at c9
        have c7 := S.out.var.pbit (j := 7) rfl
        rw [H7.out] at c7
        have lp := S.out.ld
        obtain ⟨U, sU, rU, bU⟩ := S.out.tell p
        have G : Hid (RvAt U (w.heap.size + 1) 74 p.cs ∧ Below w.heap.size w U) := ⟨rU, bU⟩
        clear rU bU
        go_enter Tryz.func133, Tryz.ntmps133
        go_wp2_with (with_reducible exact ret_pb Tryz.results133 (by with_unfolding_all rfl) (by with_unfolding_all rfl) (by with_unfolding_all rfl) G.out.1 ⟨E9.out, G.out.2⟩)
      · have E : OO = some (doesP true false p) := by
          rw [← EO.out]
          unfold pstO
          rw [if_neg (by rw [H10.out, H8.out, H9.out]; simp), if_neg (by rw [H8.out, H7.out]; simp), if_pos (by rw [H9.out, H10.out]; simp)]
          rw [H8.out]
        have E9 : Hid (Ending.returned (.tuple #[.agg (doesP true false p).cs, .bool true]) = .returned (.tuple #[.agg (OO.getD p).cs, .bool OO.isSome])) := by rw [E]; exact rfl
        clear E
        have c10 := S.out.var.pbit (j := 10) rfl
        rw [H10.out] at c10
        have c8 := S.out.var.pbit (j := 8) rfl
        rw [H8.out] at c8
        have c9 := S.out.var.pbit (j := 9) rfl
        rw [H9.out] at c9
        have c7 := S.out.var.pbit (j := 7) rfl
        rw [H7.out] at c7
        have C : Hid _ := does_any W w.heap.size p true false S.out.var
        go_enter Tryz.func133, Tryz.ntmps133
        go_wp2_with fail
        refine Calls.mono C.out ?_
        rintro _ X ⟨rfl, gX⟩
        obtain ⟨U, sU, rU, gU⟩ := (S.out.out.keptBut gX (by simp)).pst (q := doesP true false p)
        have bX := gro S.out.bel gX (Nat.le_refl _) S.out.bel.size
        have G : Hid (RvAt U (w.heap.size + 1) 74 (doesP true false p).cs ∧ Below w.heap.size w U) := ⟨rU, gro bX gU (by omega) bX.size⟩
        clear gX rU gU bX C
        go_wp2_with (with_reducible exact ret_pb Tryz.results133 (by with_unfolding_all rfl) (by with_unfolding_all rfl) (by with_unfolding_all rfl) G.out.1 ⟨E9.out, G.out.2⟩)
    · cases b9
      · have E : OO = some (doesP false false p) := by
          rw [← EO.out]
          unfold pstO
          rw [if_pos (by rw [H10.out, H8.out, H9.out]; simp)]
        have E9 : Hid (Ending.returned (.tuple #[.agg (doesP false false p).cs, .bool true]) = .returned (.tuple #[.agg (OO.getD p).cs, .bool OO.isSome])) := by rw [E]; exact rfl
        clear E
        have c10 := S.out.var.pbit (j := 10) rfl
        rw [H10.out] at c10
        have c8 := S.out.var.pbit (j := 8) rfl
        rw [H8.out] at c8
        have c9 := S.out.var.pbit (j := 9) rfl
        rw [H9.out] at c9
        have c7 := S.out.var.pbit (j := 7) rfl
        rw [H7.out] at c7
        have C : Hid _ := does_any W w.heap.size p false false S.out.var
        go_enter Tryz.func133, Tryz.ntmps133
        go_wp2_with fail
        refine Calls.mono C.out ?_
        rintro _ X ⟨rfl, gX⟩
        obtain ⟨U, sU, rU, gU⟩ := (S.out.out.keptBut gX (by simp)).pst (q := doesP false false p)
        have bX := gro S.out.bel gX (Nat.le_refl _) S.out.bel.size
        have G : Hid (RvAt U (w.heap.size + 1) 74 (doesP false false p).cs ∧ Below w.heap.size w U) := ⟨rU, gro bX gU (by omega) bX.size⟩
        clear gX rU gU bX C
        go_wp2_with (with_reducible exact ret_pb Tryz.results133 (by with_unfolding_all rfl) (by with_unfolding_all rfl) (by with_unfolding_all rfl) G.out.1 ⟨E9.out, G.out.2⟩)
      · cases b7
        · have E : OO = some (doesP false false p) := by
            rw [← EO.out]
            unfold pstO
            rw [if_neg (by rw [H10.out, H8.out, H9.out]; simp), if_pos (by rw [H8.out, H7.out]; simp)]
            rw [H10.out]
          have E9 : Hid (Ending.returned (.tuple #[.agg (doesP false false p).cs, .bool true]) = .returned (.tuple #[.agg (OO.getD p).cs, .bool OO.isSome])) := by rw [E]; exact rfl
          clear E
          have c10 := S.out.var.pbit (j := 10) rfl
          rw [H10.out] at c10
          have c8 := S.out.var.pbit (j := 8) rfl
          rw [H8.out] at c8
          have c9 := S.out.var.pbit (j := 9) rfl
          rw [H9.out] at c9
          have c7 := S.out.var.pbit (j := 7) rfl
          rw [H7.out] at c7
          have C : Hid _ := does_any W w.heap.size p false false S.out.var
          go_enter Tryz.func133, Tryz.ntmps133
          go_wp2_with fail
          refine Calls.mono C.out ?_
          rintro _ X ⟨rfl, gX⟩
          obtain ⟨U, sU, rU, gU⟩ := (S.out.out.keptBut gX (by simp)).pst (q := doesP false false p)
          have bX := gro S.out.bel gX (Nat.le_refl _) S.out.bel.size
          have G : Hid (RvAt U (w.heap.size + 1) 74 (doesP false false p).cs ∧ Below w.heap.size w U) := ⟨rU, gro bX gU (by omega) bX.size⟩
          clear gX rU gU bX C
          go_wp2_with (with_reducible exact ret_pb Tryz.results133 (by with_unfolding_all rfl) (by with_unfolding_all rfl) (by with_unfolding_all rfl) G.out.1 ⟨E9.out, G.out.2⟩)
        · have E : OO = some (doesP true true p) := by
            rw [← EO.out]
            unfold pstO
            rw [if_neg (by rw [H10.out, H8.out, H9.out]; simp), if_neg (by rw [H8.out, H7.out]; simp), if_pos (by rw [H9.out, H10.out]; simp)]
            rw [H8.out]
          have E9 : Hid (Ending.returned (.tuple #[.agg (doesP true true p).cs, .bool true]) = .returned (.tuple #[.agg (OO.getD p).cs, .bool OO.isSome])) := by rw [E]; exact rfl
          clear E
          have c10 := S.out.var.pbit (j := 10) rfl
          rw [H10.out] at c10
          have c8 := S.out.var.pbit (j := 8) rfl
          rw [H8.out] at c8
          have c9 := S.out.var.pbit (j := 9) rfl
          rw [H9.out] at c9
          have c7 := S.out.var.pbit (j := 7) rfl
          rw [H7.out] at c7
          have C : Hid _ := does_any W w.heap.size p true true S.out.var
          go_enter Tryz.func133, Tryz.ntmps133
          go_wp2_with fail
          refine Calls.mono C.out ?_
          rintro _ X ⟨rfl, gX⟩
          obtain ⟨U, sU, rU, gU⟩ := (S.out.out.keptBut gX (by simp)).pst (q := doesP true true p)
          have bX := gro S.out.bel gX (Nat.le_refl _) S.out.bel.size
          have G : Hid (RvAt U (w.heap.size + 1) 74 (doesP true true p).cs ∧ Below w.heap.size w U) := ⟨rU, gro bX gU (by omega) bX.size⟩
          clear gX rU gU bX C
          go_wp2_with (with_reducible exact ret_pb Tryz.results133 (by with_unfolding_all rfl) (by with_unfolding_all rfl) (by with_unfolding_all rfl) G.out.1 ⟨E9.out, G.out.2⟩)
  · cases b9
    · have E : OO = some (doesP false false p) := by
        rw [← EO.out]
        unfold pstO
        rw [if_pos (by rw [H10.out, H8.out, H9.out]; simp)]
      have E9 : Hid (Ending.returned (.tuple #[.agg (doesP false false p).cs, .bool true]) = .returned (.tuple #[.agg (OO.getD p).cs, .bool OO.isSome])) := by rw [E]; exact rfl
      clear E
      have c10 := S.out.var.pbit (j := 10) rfl
      rw [H10.out] at c10
      have c8 := S.out.var.pbit (j := 8) rfl
      rw [H8.out] at c8
      have c9 := S.out.var.pbit (j := 9) rfl
      rw [H9.out] at c9
      have c7 := S.out.var.pbit (j := 7) rfl
      rw [H7.out] at c7
      have C : Hid _ := does_any W w.heap.size p false false S.out.var
      go_enter Tryz.func133, Tryz.ntmps133
      go_wp2_with fail
      refine Calls.mono C.out ?_
      rintro _ X ⟨rfl, gX⟩
      obtain ⟨U, sU, rU, gU⟩ := (S.out.out.keptBut gX (by simp)).pst (q := doesP false false p)
      have bX := gro S.out.bel gX (Nat.le_refl _) S.out.bel.size
      have G : Hid (RvAt U (w.heap.size + 1) 74 (doesP false false p).cs ∧ Below w.heap.size w U) := ⟨rU, gro bX gU (by omega) bX.size⟩
      clear gX rU gU bX C
      go_wp2_with (with_reducible exact ret_pb Tryz.results133 (by with_unfolding_all rfl) (by with_unfolding_all rfl) (by with_unfolding_all rfl) G.out.1 ⟨E9.out, G.out.2⟩)
    · cases b8
      · cases b7
        · have E : OO = none := by
            rw [← EO.out]
            unfold pstO
            rw [if_neg (by rw [H10.out, H8.out, H9.out]; simp), if_neg (by rw [H8.out, H7.out]; simp), if_neg (by rw [H9.out, H10.out]; simp), if_neg (by rw [H10.out, H7.out, H8.out]; simp)]
          have E9 : Hid (Ending.returned (.tuple #[.agg (p).cs, .bool false]) = .returned (.tuple #[.agg (OO.getD p).cs, .bool OO.isSome])) := by rw [E]; exact rfl
          clear E
          have c10 := S.out.var.pbit (j := 10) rfl
          rw [H10.out] at c10
          have c8 := S.out.var.pbit (j := 8) rfl
          rw [H8.out] at c8
          have c9 := S.out.var.pbit (j := 9) rfl
          rw [H9.out] at c9
          have c7 := S.out.var.pbit (j := 7) rfl
          rw [H7.out] at c7
          have lp := S.out.ld
          obtain ⟨U, sU, rU, bU⟩ := S.out.tell p
          have G : Hid (RvAt U (w.heap.size + 1) 74 p.cs ∧ Below w.heap.size w U) := ⟨rU, bU⟩
          clear rU bU
          go_enter Tryz.func133, Tryz.ntmps133
          go_wp2_with (with_reducible exact ret_pb Tryz.results133 (by with_unfolding_all rfl) (by with_unfolding_all rfl) (by with_unfolding_all rfl) G.out.1 ⟨E9.out, G.out.2⟩)
        · have E : OO = some (doesP true true p) := by
            rw [← EO.out]
            unfold pstO
            rw [if_neg (by rw [H10.out, H8.out, H9.out]; simp), if_neg (by rw [H8.out, H7.out]; simp), if_neg (by rw [H9.out, H10.out]; simp), if_pos (by rw [H10.out, H7.out, H8.out]; simp)]
          have E9 : Hid (Ending.returned (.tuple #[.agg (doesP true true p).cs, .bool true]) = .returned (.tuple #[.agg (OO.getD p).cs, .bool OO.isSome])) := by rw [E]; exact rfl
          clear E
          have c10 := S.out.var.pbit (j := 10) rfl
          rw [H10.out] at c10
          have c8 := S.out.var.pbit (j := 8) rfl
          rw [H8.out] at c8
          have c9 := S.out.var.pbit (j := 9) rfl
          rw [H9.out] at c9
          have c7 := S.out.var.pbit (j := 7) rfl
          rw [H7.out] at c7
          have C : Hid _ := does_any W w.heap.size p true true S.out.var
          go_enter Tryz.func133, Tryz.ntmps133
          go_wp2_with fail
          refine Calls.mono C.out ?_
          rintro _ X ⟨rfl, gX⟩
          obtain ⟨U, sU, rU, gU⟩ := (S.out.out.keptBut gX (by simp)).pst (q := doesP true true p)
          have bX := gro S.out.bel gX (Nat.le_refl _) S.out.bel.size
          have G : Hid (RvAt U (w.heap.size + 1) 74 (doesP true true p).cs ∧ Below w.heap.size w U) := ⟨rU, gro bX gU (by omega) bX.size⟩
          clear gX rU gU bX C
          go_wp2_with (with_reducible exact ret_pb Tryz.results133 (by with_unfolding_all rfl) (by with_unfolding_all rfl) (by with_unfolding_all rfl) G.out.1 ⟨E9.out, G.out.2⟩)
      · cases b7
        · have E : OO = some (doesP true false p) := by
            rw [← EO.out]
            unfold pstO
            rw [if_neg (by rw [H10.out, H8.out, H9.out]; simp), if_pos (by rw [H8.out, H7.out]; simp)]
            rw [H10.out]
          have E9 : Hid (Ending.returned (.tuple #[.agg (doesP true false p).cs, .bool true]) = .returned (.tuple #[.agg (OO.getD p).cs, .bool OO.isSome])) := by rw [E]; exact rfl
          clear E
          have c10 := S.out.var.pbit (j := 10) rfl
          rw [H10.out] at c10
          have c8 := S.out.var.pbit (j := 8) rfl
          rw [H8.out] at c8
          have c9 := S.out.var.pbit (j := 9) rfl
          rw [H9.out] at c9
          have c7 := S.out.var.pbit (j := 7) rfl
          rw [H7.out] at c7
          have C : Hid _ := does_any W w.heap.size p true false S.out.var
          go_enter Tryz.func133, Tryz.ntmps133
          go_wp2_with fail
          refine Calls.mono C.out ?_
          rintro _ X ⟨rfl, gX⟩
          obtain ⟨U, sU, rU, gU⟩ := (S.out.out.keptBut gX (by simp)).pst (q := doesP true false p)
          have bX := gro S.out.bel gX (Nat.le_refl _) S.out.bel.size
          have G : Hid (RvAt U (w.heap.size + 1) 74 (doesP true false p).cs ∧ Below w.heap.size w U) := ⟨rU, gro bX gU (by omega) bX.size⟩
          clear gX rU gU bX C
          go_wp2_with (with_reducible exact ret_pb Tryz.results133 (by with_unfolding_all rfl) (by with_unfolding_all rfl) (by with_unfolding_all rfl) G.out.1 ⟨E9.out, G.out.2⟩)
        · have E : OO = none := by
            rw [← EO.out]
            unfold pstO
            rw [if_neg (by rw [H10.out, H8.out, H9.out]; simp), if_neg (by rw [H8.out, H7.out]; simp), if_neg (by rw [H9.out, H10.out]; simp), if_neg (by rw [H10.out, H7.out, H8.out]; simp)]
          have E9 : Hid (Ending.returned (.tuple #[.agg (p).cs, .bool false]) = .returned (.tuple #[.agg (OO.getD p).cs, .bool OO.isSome])) := by rw [E]; exact rfl
          clear E
          have c10 := S.out.var.pbit (j := 10) rfl
          rw [H10.out] at c10
          have c8 := S.out.var.pbit (j := 8) rfl
          rw [H8.out] at c8
          have c9 := S.out.var.pbit (j := 9) rfl
          rw [H9.out] at c9
          have c7 := S.out.var.pbit (j := 7) rfl
          rw [H7.out] at c7
          have lp := S.out.ld
          obtain ⟨U, sU, rU, bU⟩ := S.out.tell p
          have G : Hid (RvAt U (w.heap.size + 1) 74 p.cs ∧ Below w.heap.size w U) := ⟨rU, bU⟩
          clear rU bU
          go_enter Tryz.func133, Tryz.ntmps133
          go_wp2_with (with_reducible exact ret_pb Tryz.results133 (by with_unfolding_all rfl) (by with_unfolding_all rfl) (by with_unfolding_all rfl) G.out.1 ⟨E9.out, G.out.2⟩)
end S14
end
section
namespace S14
open Go.RowKit

structure PQ (w W : World) (g c i q : Nat) (l : List Pt) (p : Pt) : Prop where
  pat : PAt W g c (l.set i p)
  gr : w.grownBy W (some g)
  hi : i < l.length
  hq : q = i * 77
theorem PQ.start {W : World} {g c i q : Nat} {l : List Pt} {p : Pt} (h : PAt W g c l) (hp : l[i]? = some p) (hq : q = i * 77) : PQ W W g c i q l p := by
  have hi : i < l.length := (List.getElem?_eq_some_iff.1 hp).1
  refine ⟨?_, World.grownBy.refl _ _, hi, hq⟩
  have e : gtP l i = p := by
    have := gtP_at hi
    rw [hp] at this
    exact (Option.some.inj this).symm
  rw [← e, set_self hi]
  exact h
theorem PQ.at' {w W : World} {g c i q : Nat} {l : List Pt} {p : Pt} (s : PQ w W g c i q l p) : (l.set i p)[i]? = some p := by
  rw [List.getElem?_set, if_pos rfl, if_pos s.hi]
theorem PQ.go {w W V : World} {g c i q : Nat} {l : List Pt} {p r : Pt} (s : PQ w W g c i q l p) (hp : PAt V g c ((l.set i p).set i r)) (e : W.grownBy V (some g)) : PQ w V g c i q l r :=
  ⟨by rw [List.set_set] at hp; exact hp, grown_self s.gr e, s.hi, s.hq⟩
theorem PQ.below {w W V : World} {g c i q : Nat} {l : List Pt} {p : Pt} (s : PQ w W g c i q l p) (e : Below W.heap.size W V) : PQ w V g c i q l p := ⟨s.pat.below e, grown_self s.gr (grown_of_below e _), s.hi, s.hq⟩
theorem PQ.setB {w W : World} {g c i q j : Nat} {l : List Pt} {p : Pt} (s : PQ w W g c i q l p) (hk : kdP[j]? = some none) (x : Bool) : ∃ V, (stS 4 (.pointer (some ⟨g, q + j, none⟩)) (.bool x)).run Tryz.prog W = .ok () V ∧ PQ w V g c i q l (p.setB j hk x) := by
  obtain ⟨V, e, h1, g1⟩ := s.pat.st1 (q := q + j) (v := .bool x) s.at' info2.1 (by rw [← lenP]; exact (List.getElem?_eq_some_iff.1 hk).1) rfl (fit_bit hk) (by rw [s.hq])
  exact ⟨V, e, s.go h1 g1⟩
theorem PQ.setU {w W : World} {g c i q j : Nat} {l : List Pt} {p : Pt} (s : PQ w W g c i q l p) (hk : kdP[j]? = some (some .u8)) {x : Int} (hx : 0 ≤ x ∧ x ≤ 255) : ∃ V, (stS 5 (.pointer (some ⟨g, q + j, none⟩)) (.int .u8 x)).run Tryz.prog W = .ok () V ∧ PQ w V g c i q l (p.setU j x) := by
  obtain ⟨V, e, h1, g1⟩ := s.pat.st1 (q := q + j) (v := .int .u8 x) s.at' info2.2 (by rw [← lenP]; exact (List.getElem?_eq_some_iff.1 hk).1) rfl (fit_num hk (wf8 hx)) (by rw [s.hq])
  rw [p.setU_is hk (wf8 hx)]
  exact ⟨V, e, s.go h1 g1⟩
theorem PQ.setN {w W : World} {g c i q j : Nat} {l : List Pt} {p : Pt} (s : PQ w W g c i q l p) {t : TypeId} (ht : (Tryz.prog.info? t).map (·.size) = some 1) (hk : kdP[j]? = some (some .i64)) {x : Int} (hx : (Lit.int .i64 x).wf = true) : ∃ V, (stS t (.pointer (some ⟨g, q + j, none⟩)) (.int .i64 x)).run Tryz.prog W = .ok () V ∧ PQ w V g c i q l (p.setN j hk x hx) := by
  obtain ⟨V, e, h1, g1⟩ := s.pat.st1 (q := q + j) (v := .int .i64 x) s.at' ht (by rw [← lenP]; exact (List.getElem?_eq_some_iff.1 hk).1) rfl (fit_num hk hx) (by rw [s.hq])
  exact ⟨V, e, s.go h1 g1⟩
theorem PQ.num {w W : World} {g c i q j : Nat} {l : List Pt} {p : Pt} {k : IntKind} (s : PQ w W g c i q l p) (hk : kdP[j]? = some (some k)) : W.cell? ⟨g, q + j, none⟩ = some (.int k (p.nm j)) := s.pat.num s.at' hk (by rw [s.hq])
theorem PQ.bit {w W : World} {g c i q j : Nat} {l : List Pt} {p : Pt} (s : PQ w W g c i q l p) (hk : kdP[j]? = some none) : W.cell? ⟨g, q + j, none⟩ = some (.bool (p.bt j)) := s.pat.bit s.at' hk (by rw [s.hq])
def Chg (F : Nat) (f : Pt → Pt) : Prop := ∀ (W : World) (g c i q : Nat) (l : List Pt) (p : Pt), PAt W g c l → l[i]? = some p → q = i * 77 →
  Calls Tryz.prog F #[.pointer (some ⟨g, q, none⟩)] W fun r W' => r = .returned (.tuple #[]) ∧ PAt W' g c (l.set i (f p)) ∧ W.grownBy W' (some g)
attribute [local go_sem ↓] ldP stP stB stU stW ldT stT st32
set_option maxHeartbeats 1000000 in
theorem chg_quiet : Chg 216 quiP := by
  intro W g c i q l p hp hi hq
  have s0 := PQ.start hp hi hq
  obtain ⟨V1, e1, s1⟩ := s0.setB kb6 true
  obtain ⟨V2, e2, s2⟩ := s1.setB kb26 false
  obtain ⟨V3, e3, s3⟩ := s2.setU ku71 u0
  obtain ⟨V4, e4, s4⟩ := s3.setN infoS kn74 wi1
  have F : Hid (PAt V4 g c (l.set i (quiP p)) ∧ W.grownBy V4 (some g)) := ⟨s4.pat, s4.gr⟩
  clear hp hi hq s0 s1 s2 s3 s4
  go_enter Tryz.func216, Tryz.ntmps216
  go_wp2
  go_end0
  exact ⟨rfl, F.out.1, F.out.2⟩
set_option maxHeartbeats 1000000 in
theorem chg_learns : Chg 247 lrnP := by
  intro W g c i q l p hp hi hq
  have s0 := PQ.start hp hi hq
  obtain ⟨V1, e1, s1⟩ := s0.setB kb17 false
  obtain ⟨V2, e2, s2⟩ := s1.setB kb19 false
  obtain ⟨V3, e3, s3⟩ := s2.setB kb18 false
  obtain ⟨V4, e4, s4⟩ := s3.setB kb27 false
  obtain ⟨V5, e5, s5⟩ := s4.setN infoS kn74 wi2
  have F : Hid (PAt V5 g c (l.set i (lrnP p)) ∧ W.grownBy V5 (some g)) := ⟨s5.pat, s5.gr⟩
  clear hp hi hq s0 s1 s2 s3 s4 s5
  go_enter Tryz.func247, Tryz.ntmps247
  go_wp2
  go_end0
  exact ⟨rfl, F.out.1, F.out.2⟩
set_option maxHeartbeats 1000000 in
theorem chg_detected : Chg 250 actP := by
  intro W g c i q l p hp hi hq
  have s0 := PQ.start hp hi hq
  obtain ⟨V1, e1, s1⟩ := s0.setB kb11 true
  obtain ⟨V2, e2, s2⟩ := s1.setN infoS kn74 wi3
  have F : Hid (PAt V2 g c (l.set i (actP p)) ∧ W.grownBy V2 (some g)) := ⟨s2.pat, s2.gr⟩
  clear hp hi hq s0 s1 s2
  go_enter Tryz.func250, Tryz.ntmps250
  go_wp2
  go_end0
  exact ⟨rfl, F.out.1, F.out.2⟩
set_option maxHeartbeats 1000000 in
theorem chg_propagating : Chg 252 flsP := by
  intro W g c i q l p hp hi hq
  have s0 := PQ.start hp hi hq
  obtain ⟨V1, e1, s1⟩ := s0.setB kb6 true
  obtain ⟨V2, e2, s2⟩ := s1.setB kb27 false
  have F : Hid (PAt V2 g c (l.set i (flsP p)) ∧ W.grownBy V2 (some g)) := ⟨s2.pat, s2.gr⟩
  clear hp hi hq s0 s1 s2
  go_enter Tryz.func252, Tryz.ntmps252
  go_wp2
  go_end0
  exact ⟨rfl, F.out.1, F.out.2⟩
set_option maxHeartbeats 1000000 in
theorem chg_acknowledged : Chg 253 ackP := by
  intro W g c i q l p hp hi hq
  have s0 := PQ.start hp hi hq
  obtain ⟨V1, e1, s1⟩ := s0.setU ku71 u0
  obtain ⟨V2, e2, s2⟩ := s1.setB kb18 false
  have F : Hid (PAt V2 g c (l.set i (ackP p)) ∧ W.grownBy V2 (some g)) := ⟨s2.pat, s2.gr⟩
  clear hp hi hq s0 s1 s2
  go_enter Tryz.func253, Tryz.ntmps253
  go_wp2
  go_end0
  exact ⟨rfl, F.out.1, F.out.2⟩
set_option maxHeartbeats 1000000 in
theorem chg_notified : Chg 251 heaP := by
  intro W g c i q l p hp hi hq
  have s0 := PQ.start hp hi hq
  obtain ⟨V1, e1, s1⟩ := s0.setB kb19 false
  obtain ⟨V2, e2, s2⟩ := s1.setB kb17 false
  have c26 := s2.bit (j := 26) rfl
  have c30 := s2.num (j := 30) (k := .i64) rfl
  rw [setB_bt _ _ _ (by decide), setB_bt _ _ _ (by decide)] at c26
  rw [setB_nm _ _ _ (by decide), setB_nm _ _ _ (by decide)] at c30
  obtain ⟨A, hA⟩ : ∃ z, p.bt 26 = z := ⟨_, rfl⟩
  obtain ⟨B, hB⟩ : ∃ z, (p.nm 30 == 4) = z := ⟨_, rfl⟩
  obtain ⟨V3, e3, s3⟩ := s2.setB kb26 (A || B)
  have F : Hid (PAt V3 g c (l.set i (heaP p)) ∧ W.grownBy V3 (some g)) := by
    unfold heaP
    rw [hA, hB]
    exact ⟨s3.pat, s3.gr⟩
  rw [hA] at c26
  clear hp hi hq s0 s1 s2 s3
  cases A
  · cases B
    · simp only [Bool.or_self] at e3
      clear hA
      go_enter Tryz.func251, Tryz.ntmps251
      go_wp2
      go_end0
      exact ⟨rfl, F.out.1, F.out.2⟩
    · have h4 : p.nm 30 = 4 := by simpa using hB
      rw [h4] at c30
      simp only [Bool.false_or] at e3
      clear hA hB h4
      go_enter Tryz.func251, Tryz.ntmps251
      go_wp2
      go_end0
      exact ⟨rfl, F.out.1, F.out.2⟩
  · simp only [Bool.true_or] at e3
    clear hA hB
    go_enter Tryz.func251, Tryz.ntmps251
    go_wp2
    go_end0
    exact ⟨rfl, F.out.1, F.out.2⟩
theorem sum_any (a b : Int) (ha : 0 ≤ a ∧ a ≤ 255) (hb : 0 ≤ b ∧ b ≤ 255) (w : World) : Calls Tryz.prog 280 #[.int .u8 a, .int .u8 b] w fun r w' => r = .returned (.int .u8 (sumN a b)) ∧ Below w.heap.size w w' := by
  by_cases h : 255 < a + b
  · have e : sumN a b = 255 := by unfold sumN; rw [if_pos h]
    rw [e]
    have h' : ¬ a + b ≤ 255 := by omega
    clear e
    go_enter Tryz.func280, Tryz.ntmps280
    go_wp2
    go_ret
    exact ⟨rfl, Below.refl _ _⟩
  · have e : sumN a b = a + b := by unfold sumN; rw [if_neg h]
    rw [e]
    have h' : a + b ≤ 255 := by omega
    clear e
    go_enter Tryz.func280, Tryz.ntmps280
    go_wp2
    go_ret
    exact ⟨rfl, Below.refl _ _⟩
set_option maxHeartbeats 1000000 in
theorem chg_new (W : World) (g c i q tb : Nat) (l : List Pt) (p : Pt) (h : Hd) (x : Value) (hp : PAt W g c l) (hi : l[i]? = some p) (hq : q = i * 77) (ht : RvAt W tb 39 (trc h x)) :
    Calls Tryz.prog 279 #[.pointer (some ⟨g, q, none⟩), .pointer (some ⟨tb, 0, none⟩)] W fun r W' => r = .returned (.tuple #[]) ∧ PAt W' g c (l.set i (nwP h p)) ∧ W.grownBy W' (some g) := by
  have s0 := PQ.start hp hi hq
  have c71 := s0.num (j := 71) (k := .u8) rfl
  have c23 := s0.bit (j := 23) rfl
  have c13 := ht.tnum (j := 13) (k := .u8) rfl
  have c14 := ht.tnum (j := 14) (k := .u8) rfl
  have c15 := ht.tnum (j := 15) (k := .u8) rfl
  have H : Hid (PQ W W g c i q l p) := s0
  obtain ⟨N, hN⟩ : ∃ z, nwP h p = z := ⟨_, rfl⟩
  rw [hN]
  have EN : Hid (nwP h p = N) := hN
  clear hp hi hq ht s0 hN
  by_cases h0 : p.nm 71 = 0
  · have E0 : Hid (p.nm 71 = 0) := h0
    rw [h0] at c71
    cases h1 : p.bt 23
    · have E : Hid (N = p.setU 71 (sumN (h.nm 13) (h.nm 15))) := by
        rw [← EN.out]
        unfold nwP
        rw [if_pos E0.out, if_neg (by rw [h1]; decide)]
        exact rfl
      rw [h1] at c23
      clear h0 h1 EN E0
      go_enter Tryz.func279, Tryz.ntmps279
      go_wp2_with fail
      refine (sum_any _ _ (h.u8 hu13) (h.u8 hu15) W).mono ?_
      rintro _ V ⟨rfl, bV⟩
      obtain ⟨V1, e1, s1⟩ := (H.out.below bV).setU ku71 (sumB h)
      have F : Hid (PAt V1 g c (l.set i N) ∧ W.grownBy V1 (some g)) := by
        rw [E.out]
        exact ⟨s1.pat, s1.gr⟩
      clear s1 bV E
      go_wp2
      go_end0
      exact ⟨rfl, F.out.1, F.out.2⟩
    · have E : Hid (N = (p.setU 71 (sumN (h.nm 14) 1)).setB 11 kb11 true) := by
        rw [← EN.out]
        unfold nwP
        rw [if_pos E0.out, if_pos h1]
        exact rfl
      rw [h1] at c23
      clear h0 h1 EN E0
      go_enter Tryz.func279, Tryz.ntmps279
      go_wp2_with fail
      refine (sum_any _ _ (h.u8 hu14) (by decide) W).mono ?_
      rintro _ V ⟨rfl, bV⟩
      obtain ⟨V1, e1, s1⟩ := (H.out.below bV).setU ku71 (sumA h)
      obtain ⟨V2, e2, s2⟩ := s1.setB kb11 true
      have F : Hid (PAt V2 g c (l.set i N) ∧ W.grownBy V2 (some g)) := by
        rw [E.out]
        exact ⟨s2.pat, s2.gr⟩
      clear s1 s2 bV E
      go_wp2
      go_end0
      exact ⟨rfl, F.out.1, F.out.2⟩
  · have E : Hid (N = p) := by
      rw [← EN.out]
      unfold nwP
      rw [if_neg h0]
      exact rfl
    have x0 : (p.nm 71 == 0) = false := beq_eq_false_iff_ne.2 h0
    have F : Hid (PAt W g c (l.set i N) ∧ W.grownBy W (some g)) := by
      rw [E.out]
      exact ⟨H.out.pat, H.out.gr⟩
    clear EN E H
    go_enter Tryz.func279, Tryz.ntmps279
    go_wp2
    go_end0
    exact ⟨rfl, F.out.1, F.out.2⟩
abbrev TRes (w : World) (h : Hd) (n : Nat) (L : List Pt) (r : Ending) (w' : World) : Prop := ∃ a' c', r = .returned (.agg (trc h (.slice a' n c'))) ∧ SlAt w' a' n c' L ∧ Below w.heap.size w w' ∧ Nw w a'
abbrev TBf (w : World) (h : Hd) (a : Option Addr) (n : Nat) (l : List Pt) (O : Option (List Pt)) (r : Ending) (w' : World) : Prop := ∃ a' c', r = .returned (.tuple #[.agg (trc h (.slice a' n c')), .bool O.isSome]) ∧ SlAt w' a' n c' (O.getD l) ∧ Below w.heap.size w w' ∧ Fro w a a'
set_option maxHeartbeats 4000000 in
theorem changed_any (F : Nat) (f : Pt → Pt) (hF : Chg F f) (hc : ∀ (x : Value) (V : World), (callFunc F #[x]).run Tryz.prog V = .ok (.enter F #[x]) V) (h : Hd) (a : Option Addr) (n c : Nat) (l : List Pt) (k : Nat) (w : World) (hs : SlAt w a n c l) (hn : n ≤ 1000) (hk : k < n) :
    Calls Tryz.prog 215 #[.agg (trc h (.slice a n c)), .int .i64 (k : Int), .func (.func F) #[] #[]] w fun r w' => TRes w h n (l.set k (f (gtP l k))) r w' := by
  obtain ⟨W, hW, r0, r1, bW, zW⟩ := two_t w h (.slice a n c)
  have c16 := r0.t16
  have H : Hid (SlAt W a n c l ∧ n ≤ 1000 ∧ l.length = n ∧ RvAt W w.heap.size 39 (trc h (.slice a n c)) ∧ RvAt W (w.heap.size + 1) 39 (trc zeroH (.slice none 0 0)) ∧ Below w.heap.size w W ∧ W.heap.size = w.heap.size + 2) := ⟨hs.below bW, hn, hs.len, r0, r1, bW, zW⟩
  clear hs hn r0 r1 bW zW
  go_enter Tryz.func215, Tryz.ntmps215
  go_wp2_with fail
  refine (clone_any a n c l W H.out.1 H.out.2.1).mono ?_
  rintro _ W2 ⟨v, rfl, o2, b2⟩
  have z2 := H.out.2.2.2.2.2.2
  have hl := H.out.2.2.1
  obtain ⟨W3, s3, r3, g3⟩ := (H.out.2.2.2.1.below b2).tset o2.one
  have o3 := o2.keptBut g3 (o2.apart (by omega))
  have q3 := (H.out.2.2.2.2.1.below b2).keptBut g3 (by simp only [ne_eq, Option.some.injEq]; omega)
  have b3 : Below w.heap.size w W3 := gro (below_over H.out.2.2.2.2.2.1 b2) g3 (Nat.le_refl _) (by have := b2.size; omega)
  have hin0 : (0 : Int) ≤ (k : Int) := by omega
  have hin1 : (k : Int) < (n : Int) := by omega
  clear b2 g3 o2 c16 hW
  rcases o3.pat with ⟨hv, hle⟩ | ⟨g, cc, hv, hg, hp⟩
  · rw [hle] at hl; simp at hl; omega
  · rw [hl] at hv
    subst hv
    have c16 := r3.t16
    have K : Hid (RvAt W3 w.heap.size 39 (trc h (.slice (some ⟨g, 0, none⟩) n cc)) ∧ RvAt W3 (w.heap.size + 1) 39 (trc zeroH (.slice none 0 0)) ∧ Below w.heap.size w W3 ∧ w.heap.size + 2 ≤ g ∧ l.length = n) := ⟨r3, q3, b3, by omega, hl⟩
    have C : Hid _ := (hF W3 g cc k (k * 77) l (gtP l k) hp (gtP_at (by rw [hl]; exact hk)) rfl)
    clear hp hg r3 q3 b3 o3 hl z2 hk
    go_wp2_with fail
    refine Calls.mono C.out ?_
    rintro _ V ⟨rfl, pV, gV⟩
    have hg := K.out.2.2.2.1
    have r5 := K.out.1.keptBut gV (by simp; omega)
    have q5 := K.out.2.1.keptBut gV (by simp; omega)
    have l5 := r5.tld
    obtain ⟨W6, s6, r6, g6⟩ := q5.tst (g := h) (y := .slice (some ⟨g, 0, none⟩) n cc) rfl
    have p6 := pV.keptBut g6 (by simp; omega)
    have b6 : Below w.heap.size w W6 := gro (gro K.out.2.2.1 gV (by omega) K.out.2.2.1.size) g6 (by omega) (by have := K.out.2.2.1.size; have := gV.size; omega)
    have s6' := p6.sl
    rw [List.length_set, K.out.2.2.2.2] at s6'
    have F : Hid (RvAt W6 (w.heap.size + 1) 39 (trc h (.slice (some ⟨g, 0, none⟩) n cc)) ∧ SlAt W6 (some ⟨g, 0, none⟩) n cc (l.set k (f (gtP l k))) ∧ Below w.heap.size w W6) := ⟨r6, s6', b6⟩
    have FR : Hid (w.heap.size ≤ g) := (show w.heap.size ≤ g by have := K.out.2.2.2.1; omega)
    clear pV gV r5 q5 r6 g6 p6 b6 s6' hg C K
    go_wp2
    refine bodyPost_ret (results_row rtT Tryz.results215 _ _ _ _ rfl F.out.1 (trc_size _ _)) rfl ?_
    exact ⟨some ⟨g, 0, none⟩, cc, rfl, F.out.2.1, F.out.2.2, Nw.of FR.out⟩
set_option maxHeartbeats 4000000 in
theorem changed_new (tb : Nat) (hc : ∀ (x y : Value) (V : World), (callFunc 279 #[x, y]).run Tryz.prog V = .ok (.enter 279 #[x, y]) V) (h : Hd) (a : Option Addr) (n c : Nat) (l : List Pt) (k : Nat) (w : World) (hs : SlAt w a n c l) (hn : n ≤ 1000) (hk : k < n) (x : Value) (ht : RvAt w tb 39 (trc h x)) :
    Calls Tryz.prog 215 #[.agg (trc h (.slice a n c)), .int .i64 (k : Int), .func (.func 279) #[] #[.pointer (some ⟨tb, 0, none⟩)]] w fun r w' => TRes w h n (l.set k (nwP h (gtP l k))) r w' := by
  obtain ⟨W, hW, r0, r1, bW, zW⟩ := two_t w h (.slice a n c)
  have c16 := r0.t16
  have H : Hid (SlAt W a n c l ∧ n ≤ 1000 ∧ l.length = n ∧ RvAt W w.heap.size 39 (trc h (.slice a n c)) ∧ RvAt W (w.heap.size + 1) 39 (trc zeroH (.slice none 0 0)) ∧ Below w.heap.size w W ∧ W.heap.size = w.heap.size + 2) := ⟨hs.below bW, hn, hs.len, r0, r1, bW, zW⟩
  clear hs hn r0 r1 bW zW
  go_enter Tryz.func215, Tryz.ntmps215
  go_wp2_with fail
  refine (clone_any a n c l W H.out.1 H.out.2.1).mono ?_
  rintro _ W2 ⟨v, rfl, o2, b2⟩
  have z2 := H.out.2.2.2.2.2.2
  have hl := H.out.2.2.1
  obtain ⟨W3, s3, r3, g3⟩ := (H.out.2.2.2.1.below b2).tset o2.one
  have o3 := o2.keptBut g3 (o2.apart (by omega))
  have q3 := (H.out.2.2.2.2.1.below b2).keptBut g3 (by simp only [ne_eq, Option.some.injEq]; omega)
  have b3 : Below w.heap.size w W3 := gro (below_over H.out.2.2.2.2.2.1 b2) g3 (Nat.le_refl _) (by have := b2.size; omega)
  have T3 : RvAt W3 tb 39 (trc h x) := ((ht.below H.out.2.2.2.2.2.1).below b2).keptBut g3 (by have := ht.lt; simp; omega)
  have hin0 : (0 : Int) ≤ (k : Int) := by omega
  have hin1 : (k : Int) < (n : Int) := by omega
  clear b2 g3 o2 c16 hW
  rcases o3.pat with ⟨hv, hle⟩ | ⟨g, cc, hv, hg, hp⟩
  · rw [hle] at hl; simp at hl; omega
  · rw [hl] at hv
    subst hv
    have c16 := r3.t16
    have K : Hid (RvAt W3 w.heap.size 39 (trc h (.slice (some ⟨g, 0, none⟩) n cc)) ∧ RvAt W3 (w.heap.size + 1) 39 (trc zeroH (.slice none 0 0)) ∧ Below w.heap.size w W3 ∧ w.heap.size + 2 ≤ g ∧ l.length = n) := ⟨r3, q3, b3, by omega, hl⟩
    have C : Hid _ := (chg_new W3 g cc k (k * 77) tb l (gtP l k) h x hp (gtP_at (by rw [hl]; exact hk)) rfl T3)
    clear hp hg r3 q3 b3 o3 hl z2 hk
    go_wp2_with fail
    refine Calls.mono C.out ?_
    rintro _ V ⟨rfl, pV, gV⟩
    have hg := K.out.2.2.2.1
    have r5 := K.out.1.keptBut gV (by simp; omega)
    have q5 := K.out.2.1.keptBut gV (by simp; omega)
    have l5 := r5.tld
    obtain ⟨W6, s6, r6, g6⟩ := q5.tst (g := h) (y := .slice (some ⟨g, 0, none⟩) n cc) rfl
    have p6 := pV.keptBut g6 (by simp; omega)
    have b6 : Below w.heap.size w W6 := gro (gro K.out.2.2.1 gV (by omega) K.out.2.2.1.size) g6 (by omega) (by have := K.out.2.2.1.size; have := gV.size; omega)
    have s6' := p6.sl
    rw [List.length_set, K.out.2.2.2.2] at s6'
    have F : Hid (RvAt W6 (w.heap.size + 1) 39 (trc h (.slice (some ⟨g, 0, none⟩) n cc)) ∧ SlAt W6 (some ⟨g, 0, none⟩) n cc (l.set k (nwP h (gtP l k))) ∧ Below w.heap.size w W6) := ⟨r6, s6', b6⟩
    have FR : Hid (w.heap.size ≤ g) := (show w.heap.size ≤ g by have := K.out.2.2.2.1; omega)
    clear pV gV r5 q5 r6 g6 p6 b6 s6' hg C K
    go_wp2
    refine bodyPost_ret (results_row rtT Tryz.results215 _ _ _ _ rfl F.out.1 (trc_size _ _)) rfl ?_
    exact ⟨some ⟨g, 0, none⟩, cc, rfl, F.out.2.1, F.out.2.2, Nw.of FR.out⟩
end S14
end
end Go.Proofs.YtlchejbggnbccaaGreat
