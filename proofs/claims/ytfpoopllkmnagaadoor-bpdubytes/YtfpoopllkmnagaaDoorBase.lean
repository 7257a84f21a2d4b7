/-
  What the walks lean on: rows in memory, cuts of slices, strings of bytes. Plain laws over the program's types.
-/
import Derived.Test.YtfpoopllkmnagaaDoorBytes
import Derived.Deep.MidRow
import Derived.Laws.CopyRow
import Derived.Laws.Tables
import Derived.Laws.CopyOwn
import Derived.Deep.RegionHeld3
namespace Go.Proofs.YtfpoopllkmnagaaDoor
set_option linter.unusedVariables false
set_option maxRecDepth 4000
set_option linter.unusedSimpArgs false
open Go.RowKit

theorem alloc_at (w : World) (o : Obj) : (w.alloc o).heap[w.heap.size]? = some o := by
  show (w.heap.push o)[w.heap.size]? = _
  simp
theorem RowAt.new (w : World) (cur : Array Value) (cp : Nat) (f : Nat → Int) (hcur : cur.size = cp) (hz : ∀ j, j < cp → cur[j]? = some (.int .u8 (f j))) : RowAt (w.alloc (.cells cur 5)) w.heap.size cp f :=
  ⟨cur, alloc_at w _, hcur, hz⟩
theorem cell_new (w : World) (v : Value) (t : TypeId) : (w.alloc (.cells #[v] t)).cell? ⟨w.heap.size, 0, none⟩ = some v := cell_of_one (t := t) (alloc_at w _)
theorem ret_int {k : IntKind} {a b : Int} (h : a = b) : Ending.returned (.int k a) = .returned (.int k b) := by rw [h]
theorem ret_bool {a b : Bool} (h : a = b) : Ending.returned (.bool a) = .returned (.bool b) := by rw [h]
theorem own_new (W : World) (l : List Int) (k B : Nat) (cs : Array Value) (hcs : cs = (l.map (Value.int .u8)).toArray) (hk : W.heap.size = k) (hB : B ≤ k) (hl : l.length ≤ 100000) : Own (W.alloc (.cells cs 5)) B (.slice (some ⟨k, 0, none⟩) l.length l.length) l := by
  subst hcs hk
  exact ⟨by simp, .inr ⟨_, _, _, rfl, hB, alloc_at W _, Nat.le_refl _, by unfold maxLen; omega, by simp, List.take_of_length_le (by simp)⟩⟩
theorem below_dn {B : Nat} {a w : World} (h : Below B a w) (n : Nat) : Below B a (w.drewN n) := ⟨h.os, h.tape, h.output, h.size, h.block⟩
theorem own_nil (w : World) (B : Nat) : Own w B (.slice none 0 0) [] := World.ownsRow_nil _ _ _ _
theorem src_short {w : World} {a : Option Addr} {n c : Nat} {l : List Int} (h : Src w (.slice a n c) l) : n = l.length ∧ n ≤ c ∧ c ≤ maxLen := by
  obtain ⟨a', c', e, h2, h3, _, _⟩ := h
  cases e
  exact ⟨rfl, h2, h3⟩
theorem src_some {w : World} {a : Option Addr} {n c : Nat} {l : List Int} (h : Src w (.slice a n c) l) (hn : 0 < l.length) :
    ∃ b o, a = some ⟨b, o, none⟩ ∧ b < w.heap.size ∧ ∀ j, j < l.length → w.cell? ⟨b, o + j, none⟩ = some (.int .u8 (l.getD j 0)) := by
  obtain ⟨a', c', e, h2, h3, h4, h5⟩ := h
  cases e
  cases a with
  | none => rw [(h4 rfl).1] at hn; simp at hn
  | some ad =>
    obtain ⟨b, o, sp⟩ := ad
    have h0 := h5 _ rfl 0 hn
    have hsp : sp = none := by simpa [Addr.add] using World.cell?_spot h0
    subst hsp
    have hj : ∀ j, j < l.length → w.cell? ⟨b, o + j, none⟩ = some (.int .u8 (l.getD j 0)) := fun j hj => by
      have := h5 _ rfl j hj
      rwa [Addr.add_lit] at this
    exact ⟨b, o, rfl, World.block_lt_of_cell? w _ (hj 0 hn), hj⟩
/-- A slice of bytes, cut at its head. -/
theorem src_drop {w : World} {b o n c : Nat} {l : List Int} (h : Src w (.slice (some ⟨b, o, none⟩) n c) l) (k : Nat) (hk : k ≤ n) :
    Src w (.slice (some ⟨b, o + k, none⟩) (n - k) (c - k)) (l.drop k) := by
  obtain ⟨a', c', e, h2, h3, h4, h5⟩ := h
  cases e
  have hl : (l.drop k).length = l.length - k := by simp
  refine ⟨some ⟨b, o + k, none⟩, c - k, by rw [hl], by rw [hl]; omega, by omega, (fun e => by cases e), (fun ad e j hj => ?_)⟩
  cases e
  rw [hl] at hj
  have := h5 _ rfl (k + j) (by omega)
  rw [Addr.add_lit] at this ⊢
  rw [Nat.add_assoc, this]
  simp [List.getD]
theorem src_drop' {w : World} {b o n c : Nat} {l : List Int} (h : Src w (.slice (some ⟨b, o, none⟩) n c) l) (k : Nat) (hk : k ≤ n) :
    Src w (.slice (if c = k then some ⟨b, o, none⟩ else some ⟨b, o + k, none⟩) (n - k) (c - k)) (l.drop k) := by
  obtain ⟨hn, hc, hm⟩ := src_short h
  by_cases e : c = k
  · rw [if_pos e]
    have e1 : l.drop k = [] := by apply List.drop_eq_nil_of_le; omega
    rw [e1]
    exact ⟨_, c - k, by rw [show n - k = 0 by omega]; rfl, by simp, by omega, (fun e => by cases e), (fun ad e j hj => by simp at hj)⟩
  · rw [if_neg e]
    exact src_drop h k hk
/-- A slice, cut at its head. -/
def dropV (b o n c k : Nat) : Value := .slice (if c = k then some ⟨b, o, none⟩ else some ⟨b, o + k, none⟩) (n - k) (c - k)
/-- A cut of a slice. -/
def slS (x : Value) (lo hi mx : Option Value) : Sem Value := Instr.sliceAt 33 x lo hi mx
theorem slS_eq (x : Value) (lo hi mx : Option Value) : Instr.sliceAt 33 x lo hi mx = slS x lo hi mx := rfl
theorem slS_drop (b o n c k : Nat) (hk : k ≤ n) (hc : n ≤ c) (hm : c ≤ maxLen) (w : World) : (slS (.slice (some ⟨b, o, none⟩) n c) (some (.int .i64 (k : Nat))) none none).run Tryd.prog w = .ok (dropV b o n c k) w := by
  unfold slS dropV maxLen at *
  have h1 : (k : Int) ≤ (n : Int) := by omega
  have h2 : (n : Int) ≤ (c : Int) := by omega
  go_simp
theorem src_dropV {w : World} {b o n c : Nat} {l : List Int} (h : Src w (.slice (some ⟨b, o, none⟩) n c) l) (k : Nat) (hk : k ≤ n) : Src w (dropV b o n c k) (l.drop k) := src_drop' h k hk
theorem cell_at {w : World} {b : Nat} {cs : Array Value} {t : TypeId} (h : w.heap[b]? = some (.cells cs t (0, 0))) (k : Nat) (v : Value) (hk : cs[k]? = some v) : w.cell? ⟨b, k, none⟩ = some v := by simp [World.cell?, h, hk]
/-- Byte k. -/
def gt (l : List Int) (k : Nat) : Int := l.getD k 0
/-- An address of a station. -/
structure M6 where
  a : Int
  b : Int
  c : Int
  d : Int
  e : Int
  f : Int
/-- .. as a value. -/
def M6.v (m : M6) : Value := .agg #[.int .u8 m.a, .int .u8 m.b, .int .u8 m.c, .int .u8 m.d, .int .u8 m.e, .int .u8 m.f]
def M6.l (m : M6) : List Int := [m.a, m.b, m.c, m.d, m.e, m.f]
/-- Is it bytes? -/
def M6.ok (m : M6) : Prop := ∀ x ∈ m.l, 0 ≤ x ∧ x ≤ 255
/-- A value of many cells, loaded. -/
def ldS (t : TypeId) (x : Value) : Sem Value := Instr.loadAt t x
/-- A whole frame, stored. -/
def stS (t : TypeId) (x y : Value) : Sem Unit := Instr.storeAt t x y
theorem slice_one (a : Option Addr) (n c : Nat) : (Value.slice a n c).oneCell' = true := rfl
theorem src_form {W : World} {x : Value} {l : List Int} (h : Src W x l) : ∃ a n c, x = .slice a n c := by
  obtain ⟨a, c, e, _⟩ := h
  exact ⟨_, _, _, e⟩
theorem src_one {W : World} {x : Value} {l : List Int} (h : Src W x l) : x.oneCell' = true := by
  obtain ⟨a, c, rfl, _⟩ := h
  rfl
theorem Src.take {w : World} {a : Option Addr} {n c : Nat} {l : List Int} (h : Src w (.slice a n c) l) (k : Nat) (hk : k ≤ n) (ha : a ≠ none) : Src w (.slice a k c) (l.take k) := by
  obtain ⟨a', c', e, h2, h3, h4, h5⟩ := h
  cases e
  have hl : (l.take k).length = k := by simp; omega
  refine ⟨a, c, by rw [hl], by rw [hl]; omega, h3, (fun e => absurd e ha), (fun ad e j hj => ?_)⟩
  rw [hl] at hj
  rw [h5 ad e j (by omega)]
  simp [List.getD, List.getElem?_take_of_lt hj]
theorem Src.cap {w : World} {a : Option Addr} {n c c' : Nat} {l : List Int} (h : Src w (.slice a n c) l) (ha : a ≠ none) (h1 : n ≤ c') (h2 : c' ≤ maxLen) : Src w (.slice a n c') l := by
  obtain ⟨a', c0, e, _, _, _, h5⟩ := h
  cases e
  exact ⟨a, c', rfl, h1, h2, (fun e => absurd e ha), h5⟩
/-- A row of cells, stored into a row. -/
theorem store_cells {ty : TypeId} {W : World} {b o t : Nat} {cur cs : Array Value} (h : W.heap[b]? = some (.cells cur t (0, 0))) (hi : (Tryd.prog.info? ty).map (·.size) = some cs.size) (hl : o + cs.size ≤ cur.size) (h1 : ∀ v ∈ cs.toList, v.oneCell' = true) :
    (stS ty (.pointer (some ⟨b, o, none⟩)) (.agg cs)).run Tryd.prog W = .ok () (W.setRow b (cur.toList.take o ++ cs.toList ++ cur.toList.drop (o + cs.size)).toArray) := by
  have hs := run_storeCells_at Tryd.prog b o t cs.toList 0 cur W h (by simpa using hl) h1
  have hi' : ∃ i, Tryd.prog.info? ty = some i ∧ i.size = cs.size := by
    cases hq : Tryd.prog.info? ty with
    | none => rw [hq] at hi; cases hi
    | some i => rw [hq] at hi; exact ⟨i, rfl, by simpa using hi⟩
  obtain ⟨i, hi1, hi2⟩ := hi'
  simp only [Nat.add_zero, Array.length_toList] at hs
  unfold stS
  simp [Instr.storeAt, Instr.sureAddr, storeVar, sizeOf, typeInfo, hi1, hi2, Value.cells, hs]
/-- Six bytes from the k-th on. -/
def m6 (l : List Int) (k : Nat) : M6 := ⟨gt l k, gt l (k + 1), gt l (k + 2), gt l (k + 3), gt l (k + 4), gt l (k + 5)⟩
theorem gt_ok {l : List Int} (hb : ∀ x ∈ l, 0 ≤ x ∧ x ≤ 255) (k : Nat) : 0 ≤ gt l k ∧ gt l k ≤ 255 := by
  unfold gt
  by_cases h : k < l.length
  · rw [List.getD_eq_getElem?_getD, List.getElem?_eq_getElem h]
    exact hb _ (List.getElem_mem h)
  · rw [List.getD_eq_getElem?_getD, List.getElem?_eq_none (by omega)]
    simp
theorem m6_ok {l : List Int} (hb : ∀ x ∈ l, 0 ≤ x ∧ x ≤ 255) (k : Nat) : (m6 l k).ok := by
  intro x hx
  simp only [M6.l, m6, List.mem_cons, List.not_mem_nil, or_false] at hx
  rcases hx with rfl | rfl | rfl | rfl | rfl | rfl <;> exact gt_ok hb _
theorem list6 {l : List Int} {k : Nat} (h : k + 6 ≤ l.length) : (l.drop k).take 6 = (m6 l k).l := by
  apply List.ext_getElem?
  intro j
  by_cases hj : j < 6
  · have e : (m6 l k).l[j]? = some (gt l (k + j)) := by
      have hj' : j = 0 ∨ j = 1 ∨ j = 2 ∨ j = 3 ∨ j = 4 ∨ j = 5 := by omega
      rcases hj' with rfl | rfl | rfl | rfl | rfl | rfl <;> rfl
    rw [e, List.getElem?_take_of_lt hj, List.getElem?_drop]
    unfold gt
    rw [List.getD_eq_getElem?_getD, List.getElem?_eq_getElem (by omega)]
    rfl
  · rw [List.getElem?_eq_none (by simp; omega), List.getElem?_eq_none (by simp [M6.l]; omega)]
/-- A type whose values are rows of n cells. -/
structure RowTy (ty n : Nat) : Prop where
  info : (Tryd.prog.info? ty).map (·.size) = some n
  und : ∃ d, Tryd.prog.underlying ty = some d ∧ d.isRow = true
/-- Block b is the variable of such a value. -/
def RvAt (W : World) (b : Nat) (ty : TypeId) (cs : Array Value) : Prop := W.heap[b]? = some (.cells cs ty (0, 0))
theorem RvAt.lt {W : World} {b : Nat} {ty : TypeId} {cs : Array Value} (h : RvAt W b ty cs) : b < W.heap.size := lt_of_block h
theorem RvAt.below {W W' : World} {b : Nat} {ty : TypeId} {cs : Array Value} (h : RvAt W b ty cs) (hb : Below W.heap.size W W') : RvAt W' b ty cs := (hb.block b h.lt).trans h
theorem RvAt.lv {W : World} {b n : Nat} {ty : TypeId} {cs : Array Value} (t : RowTy ty n) (h : RvAt W b ty cs) (hn : cs.size = n) : (loadVar ty ⟨b, 0, none⟩).run Tryd.prog W = .ok (.agg cs) W := by
  obtain ⟨d, hd, hr⟩ := t.und
  cases d <;> first | exact run_loadVar_row (P := Tryd.prog) W b ty ty cs (0, 0) _ h hd rfl (by rw [hn]; exact t.info) | (cases hr; done)
theorem RvAt.ld {W : World} {b n : Nat} {ty : TypeId} {cs : Array Value} (t : RowTy ty n) (h : RvAt W b ty cs) (hn : cs.size = n) : (ldS ty (.pointer (some ⟨b, 0, none⟩))).run Tryd.prog W = .ok (.agg cs) W := by
  have := h.lv t hn
  unfold ldS
  simp only [Instr.loadAt, Instr.sureAddr, Sem.run_bind, Sem.run_pure, Result.andThen_ok, this]
theorem RvAt.st {W : World} {b n : Nat} {ty : TypeId} {cs ds : Array Value} (t : RowTy ty n) (h : RvAt W b ty cs) (hn : cs.size = n) (hd : ds.size = n) (h1 : ∀ v ∈ ds.toList, v.oneCell' = true) :
    (stS ty (.pointer (some ⟨b, 0, none⟩)) (.agg ds)).run Tryd.prog W = .ok () (W.setRow b ds) := by
  have := store_cells (ty := ty) (o := 0) (cs := ds) h (by rw [hd]; exact t.info) (by omega) h1
  rw [this]
  have e : cs.toList.drop (0 + ds.size) = [] := List.drop_eq_nil_of_le (by simp; omega)
  rw [e]
  simp
theorem RvAt.set {W : World} {b : Nat} {ty : TypeId} {cs ds : Array Value} (h : RvAt W b ty cs) : RvAt (W.setRow b ds) b ty ds := setRow_heap W b cs ds ty (0, 0) h
theorem row_new {ty : TypeId} {n : Nat} (t : RowTy ty n) (W : World) (z cs : Array Value) (hz : z.size = n) (hn : cs.size = n) (h1 : ∀ v ∈ cs.toList, v.oneCell' = true) :
    ∃ W', (stS ty (.pointer (some ⟨W.heap.size, 0, none⟩)) (.agg cs)).run Tryd.prog (W.alloc (.cells z ty)) = .ok () W' ∧ RvAt W' W.heap.size ty cs ∧ Below W.heap.size W W' ∧ W'.heap.size = W.heap.size + 1 :=
  have h : RvAt (W.alloc (.cells z ty)) W.heap.size ty z := alloc_at W _
  ⟨_, h.st t hz hn h1, h.set, below_setRow ((Below.refl _ _).alloc (Nat.le_refl _) _) (Nat.le_refl _) _, by simp⟩
theorem results_row {fn : Func} {k n : Nat} {ty : TypeId} (t : RowTy ty n) (hr : fn.results = #[.cell k ty]) (tmps : Array Value) (w : World) (b : Nat) (cs : Array Value) (h2 : tmps.getD k undef = .pointer (some ⟨b, 0, none⟩)) (h : RvAt w b ty cs) (hn : cs.size = n) :
    (results fn tmps).run Tryd.prog w = .ok (.agg cs) w := by
  have hl := h.lv t hn
  have h2' : tmps[k]?.getD undef = .pointer (some ⟨b, 0, none⟩) := by simpa using h2
  simp [results, hr, asAddr, hl, h2']
/-- Are bytes the same? -/
def beqL (l m : List Int) : Bool := (bs l).toList == (bs m).toList
theorem beqL_self (l : List Int) : beqL l l = true := by simp [beqL]
theorem fold_data (l : List Int) : ∀ r : ByteArray, (l.foldl (fun r n => r.push (UInt8.ofNat n.toNat)) r).data.toList = r.data.toList ++ l.map (fun n => UInt8.ofNat n.toNat) := by
  induction l with
  | nil => intro r; simp
  | cons x l ih => intro r; rw [List.foldl_cons, ih]; simp [ByteArray.push]
theorem bs_data (l : List Int) : (bs l).data.toList = l.map (fun n => UInt8.ofNat n.toNat) := by
  unfold bs
  rw [fold_data]
  rfl
theorem map_inj {l m : List Int} (hl : ∀ x ∈ l, 0 ≤ x ∧ x ≤ 255) (hm : ∀ x ∈ m, 0 ≤ x ∧ x ≤ 255) (h : l.map (fun n => UInt8.ofNat n.toNat) = m.map (fun n => UInt8.ofNat n.toNat)) : l = m := by
  induction l generalizing m with
  | nil => cases m with
    | nil => rfl
    | cons y m => simp at h
  | cons x l ih => cases m with
    | nil => simp at h
    | cons y m =>
      simp only [List.map_cons, List.cons.injEq] at h
      have hx := hl x (by simp)
      have hy := hm y (by simp)
      have e : x.toNat = y.toNat := by
        have := congrArg UInt8.toNat h.1
        simp only [UInt8.toNat_ofNat'] at this
        omega
      have : x = y := by omega
      subst this
      rw [ih (fun z hz => hl z (by simp [hz])) (fun z hz => hm z (by simp [hz])) h.2]
theorem loop_list (b : ByteArray) : ∀ (n i : Nat) (r : List UInt8), b.size - i = n → i ≤ b.size → ByteArray.toList.loop b i r = r.reverse ++ b.data.toList.drop i := by
  intro n
  induction n with
  | zero =>
    intro i r h hi
    have : i = b.size := by omega
    subst this
    unfold ByteArray.toList.loop
    rw [if_neg (by omega), List.drop_eq_nil_of_le (by rw [Array.length_toList]; exact Nat.le_refl _)]
    simp
  | succ n ih =>
    intro i r h hi
    have hlt : i < b.size := by omega
    unfold ByteArray.toList.loop
    rw [if_pos hlt, ih (i + 1) _ (by omega) (by omega)]
    have h2 : i < b.data.toList.length := by rw [Array.length_toList]; exact hlt
    rw [List.drop_eq_getElem_cons h2]
    have e : b.get! i = b.data.toList[i] := by
      show b.data[i]! = _
      rw [getElem!_pos b.data i hlt]
      simp
    rw [e]
    simp
theorem toList_data (b : ByteArray) : b.toList = b.data.toList := by
  unfold ByteArray.toList
  rw [loop_list b _ 0 [] rfl (by omega)]
  simp
theorem beqL_iff {l m : List Int} (hl : ∀ x ∈ l, 0 ≤ x ∧ x ≤ 255) (hm : ∀ x ∈ m, 0 ≤ x ∧ x ≤ 255) : beqL l m = true ↔ l = m := by
  constructor
  · intro h
    unfold beqL at h
    have h' := eq_of_beq h
    rw [toList_data, toList_data, bs_data, bs_data] at h'
    exact map_inj hl hm h'
  · rintro rfl
    exact beqL_self l
theorem take_le (l : List Int) (k : Nat) : (l.take k).length ≤ k := by simp; omega
theorem take_b {l : List Int} (hb : ∀ x ∈ l, 0 ≤ x ∧ x ≤ 255) (k : Nat) : ∀ x ∈ l.take k, 0 ≤ x ∧ x ≤ 255 := fun x hx => hb x (List.mem_of_mem_take hx)
theorem src_nil (w : World) : Src w (.slice none 0 0) [] := ⟨none, 0, rfl, Nat.le_refl _, by simp, (fun _ => ⟨rfl, rfl⟩), (fun ad e => by cases e)⟩
end Go.Proofs.YtfpoopllkmnagaaDoor
