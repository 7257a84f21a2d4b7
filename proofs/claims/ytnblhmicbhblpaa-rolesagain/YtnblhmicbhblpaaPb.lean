/-
  Ports changed in place: a part of a port stored through a pointer; a tree's head stored into; lists changed one after another. Plain laws over the program's types.
-/
import Derived.Test.YtnblhmicbhblpaaRt
namespace Go.Proofs.Ytnblhmicbhblpaa
set_option linter.unusedVariables false
set_option maxRecDepth 4000
set_option linter.unusedSimpArgs false
open Go.RowKit

/-- A part of a port of a block, stored. -/
theorem PAt.rput {W : World} {g c i o q : Nat} {tv : TypeId} {ks' : List (Option IntKind)} {l : List Pt} {p : Pt} (h : PAt W g c l) (hp : l[i]? = some p) (s : Row ks') (hk : (kdP.drop o).take ks'.length = ks') (hl : o + ks'.length ≤ kdP.length) (hi : (Try.prog.info? tv).map (·.size) = some ks'.length) (hq : q = i * 77 + o) :
    ∃ W', (stS tv (.pointer (some ⟨g, q, none⟩)) (.agg s.cs)).run Try.prog W = .ok () W' ∧ PAt W' g c (l.set i (p.put o s hk hl)) ∧ W.grownBy W' (some g) := by
  obtain ⟨cur, hb, h1, h2, h3, h4⟩ := h
  subst hq
  have hil : i < l.length := (List.getElem?_eq_some_iff.1 hp).1
  have hss : s.cs.size = ks'.length := s.csize
  have hsl : s.cl.length = ks'.length := s.len
  have hl' := hl
  rw [lenP] at hl'
  have hs := store_cells (ty := tv) (o := i * 77 + o) (cs := s.cs) hb (by rw [hss]; exact hi) (by omega) s.one'
  refine ⟨_, hs, ⟨_, hb.set, by rw [List.length_set]; exact h1, h2, by simp [hss, h3]; omega, ?_⟩, ⟨rfl, rfl, rfl, by simp, fun k hk hne => setRow_other W g k _ (fun e => hne (by rw [e]))⟩⟩
  have e : (l.set i (p.put o s hk hl)).length = l.length := List.length_set ..
  refine flat_is (by simp [hss, h3]; omega) fun t ht => ?_
  rw [e] at ht
  show ((cur.toList.take (i * 77 + o) ++ s.cs.toList ++ cur.toList.drop (i * 77 + o + s.cs.size)))[t]? = _
  rw [hss, List.getElem?_set]
  have hcl : cur.toList.length = c * 77 := by rw [Array.length_toList, h3]
  have e1 : (cur.toList.take (i * 77 + o)).length = i * 77 + o := by rw [List.length_take]; omega
  have e2 : s.cs.toList = s.cl := by simp [Row.cs]
  rw [e2]
  by_cases hti : i = t / 77
  · rw [if_pos hti, if_pos hil]
    show _ = (p.put o s hk hl).cl[t % 77]?
    rw [p.put_get]
    by_cases h0 : t < i * 77 + o
    · rw [List.append_assoc, List.getElem?_append_left (by rw [e1]; exact h0), List.getElem?_take, if_pos h0, if_neg (by omega), take_at h4 ht, ← hti, hp]
      rfl
    · by_cases h5 : t < i * 77 + o + ks'.length
      · rw [List.getElem?_append_left (by rw [List.length_append, e1, hsl]; omega), List.getElem?_append_right (by rw [e1]; omega), e1, if_pos (by omega)]
        rw [show t - (i * 77 + o) = t % 77 - o by omega]
      · rw [List.getElem?_append_right (by rw [List.length_append, e1, hsl]; omega), List.length_append, e1, hsl, List.getElem?_drop, if_neg (by omega)]
        rw [show i * 77 + o + ks'.length + (t - (i * 77 + o + ks'.length)) = t by omega, take_at h4 ht, ← hti, hp]
        rfl
  · rw [if_neg hti, ← take_at h4 ht]
    by_cases h0 : t < i * 77 + o
    · rw [List.append_assoc, List.getElem?_append_left (by rw [e1]; exact h0), List.getElem?_take, if_pos h0]
    · rw [List.getElem?_append_right (by rw [List.length_append, e1, hsl]; omega), List.length_append, e1, hsl, List.getElem?_drop]
      rw [show i * 77 + o + ks'.length + (t - (i * 77 + o + ks'.length)) = t by omega]
/-- A part of a port of a row, loaded. -/
theorem SlAt.part {W : World} {b o n c j m : Nat} {l : List Pt} {t : TypeId} {ks' : List (Option IntKind)} {q : Row ks'} (h : SlAt W (some ⟨b, o, none⟩) n c l) {i : Nat} {x : Pt} (hx : l[i]? = some x) (e : q.cl = (x.cl.drop j).take m) (hn : ks'.length = m) (hj : j + m ≤ 77) {d : TypeDesc} (hu : Try.prog.underlying t = some d) (hr : d.isRow = true) (hi : (Try.prog.info? t).map (·.size) = some m) :
    (ldS t (.pointer (some ⟨b, o + i * 77 + j, none⟩))).run Try.prog W = .ok (.agg q.cs) W :=
  run_loadAt_mid W b (o + i * 77 + j) t q.cs.toList _ (fun k v hv => by
    have hq := Row.idx hv
    have hk : k < m := by rw [← hn, ← q.len]; exact (List.getElem?_eq_some_iff.1 hq).1
    have := h.cell hx (sub_get (r := x) (q := q) e hq) (by omega)
    rw [← Nat.add_assoc] at this
    exact this) hu hr (by rw [Array.length_toList, Row.csize, hn]; exact hi)
/-- The block of a slice. -/
def blk (a : Option Addr) : Option Nat := a.map (·.block)
/-- Ports of a block of one's own, or none. -/
structure PA (W : World) (a : Option Addr) (n c : Nat) (l : List Pt) : Prop where
  len : l.length = n
  nil : a = none → n = 0 ∧ c = 0
  pat : ∀ x, a = some x → ∃ g, x = ⟨g, 0, none⟩ ∧ PAt W g c l
theorem PA.sl {W : World} {a : Option Addr} {n c : Nat} {l : List Pt} (h : PA W a n c l) : SlAt W a n c l := by
  cases a with
  | none =>
    obtain ⟨rfl, rfl⟩ := h.nil rfl
    have : l = [] := List.eq_nil_of_length_eq_zero h.len
    subst this
    exact SlAt.none' W
  | some x =>
    obtain ⟨g, rfl, hp⟩ := h.pat x rfl
    have := hp.sl
    rw [h.len] at this
    exact this
theorem PA.lt {W : World} {a : Option Addr} {n c : Nat} {l : List Pt} (h : PA W a n c l) : ∀ g, blk a = some g → g < W.heap.size := by
  intro g hg
  cases a with
  | none => cases hg
  | some x =>
    obtain ⟨g', rfl, hp⟩ := h.pat x rfl
    cases hg
    exact hp.lt
theorem PA.of {W : World} {B : Nat} {v : Value} {l : List Pt} (h : Own W B v l) : ∃ a c, v = .slice a l.length c ∧ PA W a l.length c l ∧ ∀ g, blk a = some g → B ≤ g := by
  rcases h.pat with ⟨rfl, rfl⟩ | ⟨g, c, rfl, hB, hp⟩
  · exact ⟨none, 0, rfl, ⟨rfl, fun _ => ⟨rfl, rfl⟩, fun x e => by cases e⟩, fun g e => by cases e⟩
  · exact ⟨some ⟨g, 0, none⟩, c, rfl, ⟨rfl, (fun e => by cases e), fun x e => by cases e; exact ⟨g, rfl, hp⟩⟩, fun g e => by cases e; exact hB⟩
theorem PA.kept {W V : World} {a : Option Addr} {n c : Nat} {l : List Pt} {row : Option Nat} (h : PA W a n c l) (g : W.grownBy V row) (hne : ∀ b, blk a = some b → some b ≠ row) : PA V a n c l :=
  ⟨h.len, h.nil, fun x e => by
    obtain ⟨b, rfl, hp⟩ := h.pat x e
    exact ⟨b, rfl, hp.keptBut g (hne b (by rw [e]; rfl))⟩⟩
theorem PA.below {W V : World} {a : Option Addr} {n c : Nat} {l : List Pt} (h : PA W a n c l) (k : Below W.heap.size W V) : PA V a n c l :=
  h.kept (grown_of_below k none) (fun b _ => by simp)
/-! ### lists changed one after another -/
/-- The first i ports changed, each by its place. -/
def mapI (f : Nat → Pt → Pt) (l : List Pt) (i : Nat) : List Pt := (l.take i).mapIdx f ++ l.drop i
theorem mapI_len (f : Nat → Pt → Pt) (l : List Pt) (i : Nat) : (mapI f l i).length = l.length := by
  simp [mapI]; omega
theorem mapI_at {f : Nat → Pt → Pt} {l : List Pt} {i : Nat} (h : i < l.length) : (mapI f l i)[i]? = some (gtP l i) := by
  rw [← gtP_at h]
  unfold mapI
  rw [List.getElem?_append_right (by simp; omega), List.length_mapIdx, List.length_take, Nat.min_eq_left (by omega), Nat.sub_self, List.getElem?_drop]
  rfl
theorem mapI_next {f : Nat → Pt → Pt} {l : List Pt} {i : Nat} (h : i < l.length) : (mapI f l i).set i (f i (gtP l i)) = mapI f l (i + 1) := by
  unfold mapI
  have e : ((l.take i).mapIdx f).length = i := by simp; omega
  have hg : gtP l i = l[i] := by
    have := gtP_at h
    rw [List.getElem?_eq_getElem h] at this
    exact (Option.some.inj this).symm
  have e3 : (l.take i).length = i := by simp; omega
  rw [List.set_append_right _ _ (by omega), e, Nat.sub_self, List.drop_eq_getElem_cons h, List.set_cons_zero, List.take_add_one, List.getElem?_eq_getElem h, hg]
  simp only [Option.toList_some, List.mapIdx_append, List.mapIdx_cons, List.mapIdx_nil, e3, Nat.zero_add, List.append_assoc]
  rfl
theorem mapI_all (f : Nat → Pt → Pt) (l : List Pt) : mapI f l l.length = l.mapIdx f := by simp [mapI]
theorem mapI_zero (f : Nat → Pt → Pt) (l : List Pt) : mapI f l 0 = l := by simp [mapI]
theorem mapI_set {f : Nat → Pt → Pt} {l : List Pt} {i : Nat} {x y : Pt} : ((mapI f l i).set i x).set i y = (mapI f l i).set i y := List.set_set ..
theorem gtP_idx {f : Nat → Pt → Pt} {l : List Pt} {i : Nat} (h : i < l.length) : gtP (l.mapIdx f) i = f i (gtP l i) := by
  have h1 := gtP_at (l := l.mapIdx f) (i := i) (by simpa using h)
  have h2 := gtP_at h
  rw [List.getElem?_mapIdx, h2] at h1
  exact (Option.some.inj h1).symm
theorem idx_next {f : Nat → Pt → Pt} {l : List Pt} {i : Nat} (h : i < l.length) : (l.take (i + 1)).mapIdx f = (l.take i).mapIdx f ++ [f i (gtP l i)] := by
  have hg := gtP_at h
  have e3 : (l.take i).length = i := by simp; omega
  rw [List.take_add_one, hg]
  simp only [Option.toList_some, List.mapIdx_append, List.mapIdx_cons, List.mapIdx_nil, e3, Nat.zero_add]
/-! ### a tree's head -/
theorem trc_put {ks' : List (Option IntKind)} (h : Hd) (x : Value) (o : Nat) (s : Row ks') (hk : (kdH.drop o).take ks'.length = ks') (hl : o + ks'.length ≤ kdH.length) :
    ((trc h x).toList.take o ++ s.cs.toList ++ (trc h x).toList.drop (o + s.cs.size)).toArray = trc (h.put o s hk hl) x := by
  have h1 := h.len
  have e2 : s.cs.toList = s.cl := by simp [Row.cs]
  rw [lenH] at h1 hl
  unfold trc Row.put
  rw [e2, s.csize]
  simp only
  rw [List.take_append_of_le_length (by omega), List.drop_append_of_le_length (by omega)]
  simp
theorem RvAt.tput {W : World} {b o : Nat} {tv : TypeId} {ks' : List (Option IntKind)} {h : Hd} {x : Value} (hb : RvAt W b 31 (trc h x)) (s : Row ks') (hk : (kdH.drop o).take ks'.length = ks') (hl : o + ks'.length ≤ kdH.length) (hi : (Try.prog.info? tv).map (·.size) = some ks'.length) :
    ∃ W', (stS tv (.pointer (some ⟨b, o, none⟩)) (.agg s.cs)).run Try.prog W = .ok () W' ∧ RvAt W' b 31 (trc (h.put o s hk hl) x) ∧ W.grownBy W' (some b) := by
  have hl' := hl
  rw [lenH] at hl'
  have hs := store_cells (ty := tv) (o := o) (cs := s.cs) hb (by rw [Row.csize]; exact hi) (by rw [Row.csize, trc_size]; omega) s.one'
  rw [trc_put h x o s hk hl] at hs
  exact ⟨_, hs, hb.set, grown_row _ _ _⟩
theorem trc_set1 (h : Hd) (x : Value) {j : Nat} {v : Value} (hf : ∀ k, kdH[j]? = some k → Fit k v) (hj : j < 16) : ((trc h x).toList.set j v).toArray = trc (h.set j v hf) x := by
  have h1 := h.len
  rw [lenH] at h1
  unfold trc Row.set
  simp only
  rw [List.set_append_left _ _ (by omega)]
theorem RvAt.tset1 {W : World} {b j : Nat} {tv : TypeId} {v : Value} {h : Hd} {x : Value} (hb : RvAt W b 31 (trc h x)) (hi : (Try.prog.info? tv).map (·.size) = some 1) (hj : j < 16) (hv : v.oneCell' = true) (hf : ∀ k, kdH[j]? = some k → Fit k v) :
    ∃ W', (stS tv (.pointer (some ⟨b, j, none⟩)) v).run Try.prog W = .ok () W' ∧ RvAt W' b 31 (trc (h.set j v hf) x) ∧ W.grownBy W' (some b) := by
  have hs := hb.st1 hi (k := j) (by rw [trc_size]; omega) hv
  rw [trc_set1 h x hf hj] at hs
  exact ⟨_, hs, hb.set, grown_row _ _ _⟩
theorem hq8 : (kdH.drop 8).take kdV.length = kdV := rfl
theorem hl8 : 8 + kdV.length ≤ kdH.length := by decide
theorem hq12 : (kdH.drop 12).take kdT.length = kdT := rfl
theorem hl12 : 12 + kdT.length ≤ kdH.length := by decide
theorem kh7 : kdH[7]? = some (some .u16) := rfl
theorem kh6 : kdH[6]? = some none := rfl
theorem inf16 : (Try.prog.info? 25).map (·.size) = some 1 := by kernel_rfl
theorem st16 (x y : Value) : Instr.storeAt 25 x y = stS 25 x y := rfl
/-- A number set in a row, where it may be. -/
def Row.setH {ks : List (Option IntKind)} (r : Row ks) (j : Nat) (n : Int) : Row ks :=
  if h : ks[j]? = some (some .u16) ∧ (Lit.int .u16 n).wf = true then r.set j (.int .u16 n) (fit_num h.1 h.2) else r
theorem Row.setH_is {ks : List (Option IntKind)} (r : Row ks) {j : Nat} {n : Int} (h : ks[j]? = some (some .u16)) (hw : (Lit.int .u16 n).wf = true) : r.setH j n = r.set j (.int .u16 n) (fit_num h hw) := by
  unfold Row.setH
  rw [dif_pos ⟨h, hw⟩]
theorem Row.setH_get {ks : List (Option IntKind)} (r : Row ks) {j : Nat} {n : Int} (h : ks[j]? = some (some .u16)) (hw : (Lit.int .u16 n).wf = true) (i : Nat) : (r.setH j n).cl[i]? = if i = j then some (.int .u16 n) else r.cl[i]? := by
  rw [r.setH_is h hw]
  exact r.set_get _ (List.getElem?_eq_some_iff.1 h).1 i
theorem RvAt.tsetH {W : World} {b : Nat} {h : Hd} {x : Value} (hb : RvAt W b 31 (trc h x)) {n : Int} (hw : (Lit.int .u16 n).wf = true) :
    ∃ W', (stS 25 (.pointer (some ⟨b, 7, none⟩)) (.int .u16 n)).run Try.prog W = .ok () W' ∧ RvAt W' b 31 (trc (h.setH 7 n) x) ∧ W.grownBy W' (some b) := by
  rw [h.setH_is kh7 hw]
  exact hb.tset1 inf16 (by omega) rfl _
theorem RvAt.tsetB {W : World} {b : Nat} {h : Hd} {x : Value} (hb : RvAt W b 31 (trc h x)) (y : Bool) :
    ∃ W', (stS 4 (.pointer (some ⟨b, 6, none⟩)) (.bool y)).run Try.prog W = .ok () W' ∧ RvAt W' b 31 (trc (h.setB 6 kh6 y) x) ∧ W.grownBy W' (some b) := hb.tset1 info2.1 (by omega) rfl _
end Go.Proofs.Ytnblhmicbhblpaa
