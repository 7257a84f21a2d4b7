/-
  Ports of a list, rows of four numbers, what stays. Plain laws over the program's types.
-/
import Derived.Test.YtnblhmicbhblpabCopy
namespace Go.Proofs.Ytnblhmicbhblpab
set_option linter.unusedVariables false
set_option maxRecDepth 4000
set_option linter.unusedSimpArgs false
open Go.RowKit

def gtP (l : List Pt) (i : Nat) : Pt := l.getD i zeroP
theorem gtP_at {l : List Pt} {i : Nat} (h : i < l.length) : l[i]? = some (gtP l i) := by
  simp [gtP, List.getD_eq_getElem?_getD, List.getElem?_eq_getElem h]
/-- The first i ports changed. -/
def mapTo (f : Pt → Pt) (l : List Pt) (i : Nat) : List Pt := (l.take i).map f ++ l.drop i
theorem mapTo_len (f : Pt → Pt) (l : List Pt) (i : Nat) : (mapTo f l i).length = l.length := by
  simp [mapTo]; omega
theorem mapTo_at {f : Pt → Pt} {l : List Pt} {i : Nat} (h : i < l.length) : (mapTo f l i)[i]? = some (gtP l i) := by
  rw [← gtP_at h]
  unfold mapTo
  rw [List.getElem?_append_right (by simp; omega), List.length_map, List.length_take, Nat.min_eq_left (by omega), Nat.sub_self, List.getElem?_drop]
  rfl
theorem mapTo_next {f : Pt → Pt} {l : List Pt} {i : Nat} (h : i < l.length) : (mapTo f l i).set i (f (gtP l i)) = mapTo f l (i + 1) := by
  unfold mapTo
  have e : ((l.take i).map f).length = i := by simp; omega
  have hg : gtP l i = l[i] := by
    have := gtP_at h
    rw [List.getElem?_eq_getElem h] at this
    exact (Option.some.inj this).symm
  rw [List.set_append_right _ _ (by omega), e, Nat.sub_self, List.drop_eq_getElem_cons h, List.set_cons_zero, List.take_add_one, List.getElem?_eq_getElem h, hg, List.map_append, List.append_assoc]
  rfl
theorem mapTo_all (f : Pt → Pt) (l : List Pt) : mapTo f l l.length = l.map f := by simp [mapTo]
theorem mapTo_zero (f : Pt → Pt) (l : List Pt) : mapTo f l 0 = l := by simp [mapTo]
theorem one_t (w : World) (h : Hd) (x : Value) : ∃ W, w.alloc (.cells (trc h x) 31) = W ∧ RvAt W w.heap.size 31 (trc h x) ∧ Below w.heap.size w W ∧ W.heap.size = w.heap.size + 1 :=
  ⟨_, rfl, RvAt.new w _ _, (Below.refl _ _).alloc (Nat.le_refl _) _, by simp⟩
theorem bt_of {ks ks' : List (Option IntKind)} {r : Row ks} {q : Row ks'} {i j : Nat} (h : r.cl[i]? = q.cl[j]?) : r.bt i = q.bt j := by unfold Row.bt; rw [h]
theorem nm_of {ks ks' : List (Option IntKind)} {r : Row ks} {q : Row ks'} {i j : Nat} (h : r.cl[i]? = q.cl[j]?) : r.nm i = q.nm j := by unfold Row.nm; rw [h]
theorem setB_bt {ks : List (Option IntKind)} (r : Row ks) {i j : Nat} (h : ks[j]? = some none) (b : Bool) (hn : i ≠ j) : (r.setB j h b).bt i = r.bt i := bt_of (by rw [r.setB_get, if_neg hn])
theorem setB_nm {ks : List (Option IntKind)} (r : Row ks) {i j : Nat} (h : ks[j]? = some none) (b : Bool) (hn : i ≠ j) : (r.setB j h b).nm i = r.nm i := nm_of (by rw [r.setB_get, if_neg hn])
theorem setB_at {ks : List (Option IntKind)} (r : Row ks) {j : Nat} (h : ks[j]? = some none) (b : Bool) : (r.setB j h b).bt j = b := r.bset _ (List.getElem?_eq_some_iff.1 h).1
theorem put_nm {ks ks' : List (Option IntKind)} (r : Row ks) (o : Nat) (s : Row ks') (h : (ks.drop o).take ks'.length = ks') (hl : o + ks'.length ≤ ks.length) {i : Nat} (hi : i < o ∨ o + ks'.length ≤ i) : (r.put o s h hl).nm i = r.nm i := nm_of (by rw [r.put_get, if_neg (by omega)])
theorem put_bt {ks ks' : List (Option IntKind)} (r : Row ks) (o : Nat) (s : Row ks') (h : (ks.drop o).take ks'.length = ks') (hl : o + ks'.length ≤ ks.length) {i : Nat} (hi : i < o ∨ o + ks'.length ≤ i) : (r.put o s h hl).bt i = r.bt i := bt_of (by rw [r.put_get, if_neg (by omega)])
theorem put_in {ks ks' : List (Option IntKind)} (r : Row ks) (o : Nat) (s : Row ks') (h : (ks.drop o).take ks'.length = ks') (hl : o + ks'.length ≤ ks.length) {i : Nat} (hi : i < ks'.length) : (r.put o s h hl).nm (o + i) = s.nm i := nm_of (by rw [r.put_get, if_pos (by omega), Nat.add_sub_cancel_left])
/-- A row of ports is no tree's variable. -/
theorem SlAt.off {W : World} {b n c : Nat} {h : Hd} {x : Value} {a : Option Addr} {l : List Pt} (s : SlAt W a n c l) (r : RvAt W b 31 (trc h x)) (hn : 0 < n) : ∀ y, a = some y → y.block ≠ b := by
  intro y hy e
  obtain ⟨b', o, e', hc⟩ := s.cells y hy hn
  subst e'
  simp only at e
  subst e
  have hl := s.len
  have hf := hc 76 _ (List.getElem?_eq_getElem (by rw [flat_len]; omega))
  have hsz := trc_size h x
  unfold World.cell? at hf
  rw [show W.heap[b']? = some (.cells (trc h x) 31 (0, 0)) from r] at hf
  simp only at hf
  rw [Array.getElem?_eq_none (by omega)] at hf
  simp at hf
theorem SlAt.keptT {W V : World} {b n c : Nat} {h : Hd} {x : Value} {a : Option Addr} {l : List Pt} (s : SlAt W a n c l) (r : RvAt W b 31 (trc h x)) (g : W.grownBy V (some b)) : SlAt V a n c l := by
  by_cases hn : 0 < n
  · exact s.keptBut g (fun y hy e => s.off r hn y hy (by simpa using e))
  · exact ⟨s.len, s.cap, s.max, s.nil, fun y _ h1 => absurd h1 hn⟩
/-- A tree in a variable. -/
structure TQ (w W : World) (b : Nat) (h : Hd) (a : Option Addr) (n c : Nat) (l : List Pt) : Prop where
  var : RvAt W b 31 (trc h (.slice a n c))
  sl : SlAt W a n c l
  bel : Below w.heap.size w W
  hb : w.heap.size ≤ b
theorem TQ.below {w W V : World} {b n c : Nat} {h : Hd} {a : Option Addr} {l : List Pt} (t : TQ w W b h a n c l) (k : Below W.heap.size W V) : TQ w V b h a n c l := ⟨t.var.below k, t.sl.below k, below_over t.bel k, t.hb⟩
theorem TQ.ld {w W : World} {b n c : Nat} {h : Hd} {a : Option Addr} {l : List Pt} (t : TQ w W b h a n c l) : (ldS 31 (.pointer (some ⟨b, 0, none⟩))).run Try.prog W = .ok (.agg (trc h (.slice a n c))) W := t.var.tld
/-- A cell of a port of it. -/
theorem TQ.cell {w W : World} {b n c g o k : Nat} {h : Hd} {l : List Pt} {p : Pt} (t : TQ w W b h (some ⟨g, o, none⟩) n c l) (hk : l[k]? = some p) {j : Nat} {v : Value} (hv : p.cl[j]? = some v) (hj : j < 77) : W.cell? ⟨g, o + k * 77 + j, none⟩ = some v := t.sl.cell hk hv hj
def Row.setN {ks : List (Option IntKind)} (r : Row ks) (j : Nat) (h : ks[j]? = some (some .i64)) (n : Int) (hw : (Lit.int .i64 n).wf = true) : Row ks := r.set j (.int .i64 n) (fit_num h hw)
theorem Row.setN_get {ks : List (Option IntKind)} (r : Row ks) {j : Nat} (h : ks[j]? = some (some .i64)) (n : Int) (hw : (Lit.int .i64 n).wf = true) (i : Nat) : (r.setN j h n hw).cl[i]? = if i = j then some (.int .i64 n) else r.cl[i]? := r.set_get _ (List.getElem?_eq_some_iff.1 h).1 i
theorem wi0 : (Lit.int .i64 0).wf = true := by decide
theorem wi1 : (Lit.int .i64 1).wf = true := by decide
theorem wi2 : (Lit.int .i64 2).wf = true := by decide
theorem wi3 : (Lit.int .i64 3).wf = true := by decide
def dsgT (p : Pt) : Tm := ⟨(p.cl.drop 40).take 4, (p.sub 40 4).ok⟩
theorem RvAt.pdsT {W : World} {b : Nat} {p : Pt} (hb : RvAt W b 40 p.cs) : (ldS 24 (.pointer (some ⟨b, 40, none⟩))).run Try.prog W = .ok (.agg (dsgT p).cs) W := hb.part rfl rfl Try.underlying24 rfl infoTm
/-- A row of ports is no small variable. -/
theorem SlAt.offZ {W : World} {b n c : Nat} {ty : TypeId} {cs : Array Value} {a : Option Addr} {l : List Pt} (s : SlAt W a n c l) (r : RvAt W b ty cs) (hz : cs.size ≤ 76) (hn : 0 < n) : ∀ y, a = some y → y.block ≠ b := by
  intro y hy e
  obtain ⟨b', o, e', hc⟩ := s.cells y hy hn
  subst e'
  simp only at e
  subst e
  have hl := s.len
  have hf := hc 76 _ (List.getElem?_eq_getElem (by rw [flat_len]; omega))
  unfold World.cell? at hf
  rw [show W.heap[b']? = some (.cells cs ty (0, 0)) from r] at hf
  simp only at hf
  rw [Array.getElem?_eq_none (by omega)] at hf
  simp at hf
theorem SlAt.keptZ {W V : World} {b n c : Nat} {ty : TypeId} {cs : Array Value} {a : Option Addr} {l : List Pt} (s : SlAt W a n c l) (r : RvAt W b ty cs) (hz : cs.size ≤ 76) (g : W.grownBy V (some b)) : SlAt V a n c l := by
  by_cases hn : 0 < n
  · exact s.keptBut g (fun y hy e => s.offZ r hz hn y hy (by simpa using e))
  · exact ⟨s.len, s.cap, s.max, s.nil, fun y _ h1 => absurd h1 hn⟩
theorem wi4 : (Lit.int .i64 4).wf = true := by decide
theorem kn31 : kdP[31]? = some (some .i64) := rfl
theorem kq32 : (kdP.drop 32).take kdV.length = kdV := rfl
theorem kl32 : 32 + kdV.length ≤ kdP.length := by decide
theorem kq40 : (kdP.drop 40).take kdT.length = kdT := rfl
theorem kl40 : 40 + kdT.length ≤ kdP.length := by decide
/-- A vector's four numbers, as its cells. -/
theorem vc_cl (v : Vc) : v.cl = [.int .u64 (v.nm 0), .int .u32 (v.nm 1), .int .u64 (v.nm 2), .int .u16 (v.nm 3)] := by
  have h := congrArg Array.toList (v4_cs v)
  simpa [V4.cs, v4, Row.cs] using h.symm
theorem tm_cl (v : Tm) : v.cl = [.int .u8 (v.nm 0), .int .u8 (v.nm 1), .int .u8 (v.nm 2), .int .u8 (v.nm 3)] := by
  have h0 := v.num (j := 0) (k := .u8) rfl
  have h1 := v.num (j := 1) (k := .u8) rfl
  have h2 := v.num (j := 2) (k := .u8) rfl
  have h3 := v.num (j := 3) (k := .u8) rfl
  have hl := v.len
  rw [lenT] at hl
  refine List.ext_getElem? fun j => ?_
  match j with
  | 0 => rw [h0]; rfl
  | 1 => rw [h1]; rfl
  | 2 => rw [h2]; rfl
  | 3 => rw [h3]; rfl
  | j + 4 => rw [List.getElem?_eq_none (by omega)]; rfl
theorem fits4 {k0 k1 k2 k3 : Option IntKind} {x0 x1 x2 x3 : Value} (h0 : Fit k0 x0) (h1 : Fit k1 x1) (h2 : Fit k2 x2) (h3 : Fit k3 x3) : Fits [k0, k1, k2, k3] [x0, x1, x2, x3] := by
  refine ⟨rfl, fun j k v hk hv => ?_⟩
  match j, hk, hv with
  | 0, hk, hv => cases hk; cases hv; exact h0
  | 1, hk, hv => cases hk; cases hv; exact h1
  | 2, hk, hv => cases hk; cases hv; exact h2
  | 3, hk, hv => cases hk; cases hv; exact h3
  | j + 4, hk, hv => simp at hk
theorem Row.fit {ks : List (Option IntKind)} (r : Row ks) {j : Nat} {k : IntKind} (h : ks[j]? = some (some k)) : Fit (some k) (.int k (r.nm j)) := ⟨_, rfl, r.nwf h⟩
theorem wrap32 (n : Int) : IntKind.u32.wrap n = n % 4294967296 := rfl
theorem fit32 (n : Int) : Fit (some .u32) (.int .u32 (n % 4294967296)) := ⟨_, rfl, by simp [Lit.wf, IntKind.min, IntKind.max, IntKind.signed, IntKind.bits]; omega⟩
/-- What a bridge would be by itself. -/
def ownV (h : Hd) : Vc := ⟨[.int .u64 (h.nm 0), .int .u32 0, .int .u64 (h.nm 0), .int .u16 0], fits4 (h.fit (j := 0) rfl) ⟨0, rfl, by decide⟩ (h.fit (j := 0) rfl) ⟨0, rfl, by decide⟩⟩
/-- What a port has, with its cost. -/
def addV (p : Pt) : Vc := ⟨[.int .u64 (p.nm 36), .int .u32 ((p.nm 37 + p.nm 1) % 4294967296), .int .u64 (p.nm 38), .int .u16 (p.nm 39)], fits4 (p.fit (j := 36) rfl) (fit32 _) (p.fit (j := 38) rfl) (p.fit (j := 39) rfl)⟩
/-- What it would tell. -/
def desV (h : Hd) (v : Vc) (p : Pt) : Vc := ⟨[.int .u64 (v.nm 0), .int .u32 (v.nm 1), .int .u64 (h.nm 0), .int .u16 (p.nm 0)], fits4 (v.fit (j := 0) rfl) (v.fit (j := 1) rfl) (h.fit (j := 0) rfl) (p.fit (j := 0) rfl)⟩
/-- A second older. -/
def oldN (a : Int) : Int := if a < 255 then a + 1 else 255
theorem oldN_fit {a : Int} (h : 0 ≤ a ∧ a ≤ 255) : Fit (some .u8) (.int .u8 (oldN a)) := ⟨_, rfl, wf8 (by unfold oldN; split <;> omega)⟩
def oldT (t : Tm) : Tm := ⟨[.int .u8 (oldN (t.nm 0)), .int .u8 (t.nm 1), .int .u8 (t.nm 2), .int .u8 (t.nm 3)], fits4 (oldN_fit (t.u8 rfl)) (t.fit (j := 1) rfl) (t.fit (j := 2) rfl) (t.fit (j := 3) rfl)⟩
/-- Times with the bridge's own Hello. -/
def desT (h : Hd) (t : Tm) : Tm := ⟨[.int .u8 (t.nm 0), .int .u8 (t.nm 1), .int .u8 (h.nm 3), .int .u8 (t.nm 3)], fits4 (t.fit (j := 0) rfl) (t.fit (j := 1) rfl) (h.fit (j := 3) rfl) (t.fit (j := 3) rfl)⟩
theorem pri_nm (p : Pt) (j : Nat) (hj : j < 4) : (pri p).nm j = p.nm (36 + j) := p.nm_sub 36 4 j hj
theorem pri_cs (p : Pt) : (pri p).cs = #[.int .u64 (p.nm 36), .int .u32 (p.nm 37), .int .u64 (p.nm 38), .int .u16 (p.nm 39)] := by
  show (pri p).cl.toArray = _
  rw [vc_cl, pri_nm p 0 (by omega), pri_nm p 1 (by omega), pri_nm p 2 (by omega), pri_nm p 3 (by omega)]
end Go.Proofs.Ytnblhmicbhblpab
