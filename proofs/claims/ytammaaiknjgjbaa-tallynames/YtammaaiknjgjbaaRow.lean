/-
  Rows of plain cells (bools and integers) and the types whose values they are: read from what is handed in, held against each other. Plain laws.
-/
import Derived.Test.YtammaaiknjgjbaaRv
import Derived.DeepKeys
import Derived.ChangeArms
namespace Go.Proofs.Ytammaaiknjgjbaa
set_option linter.unusedVariables false
set_option maxRecDepth 4000
set_option linter.unusedSimpArgs false
open Go.RowKit

/-- Is a value of that kind (none: a bool)? -/
def Fit : Option IntKind → Value → Prop
  | none, v => ∃ b, v = .bool b
  | some k, v => ∃ n, v = .int k n ∧ (Lit.int k n).wf = true
structure Fits (ks : List (Option IntKind)) (l : List Value) : Prop where
  len : l.length = ks.length
  at' : ∀ (j : Nat) (k : Option IntKind) (v : Value), ks[j]? = some k → l[j]? = some v → Fit k v
structure Row (ks : List (Option IntKind)) where
  cl : List Value
  ok : Fits ks cl
theorem Row.ext' {ks : List (Option IntKind)} {a b : Row ks} (h : a.cl = b.cl) : a = b := by
  cases a; cases b; cases h; rfl
def Row.cs {ks : List (Option IntKind)} (r : Row ks) : Array Value := r.cl.toArray
theorem Row.csize {ks : List (Option IntKind)} (r : Row ks) : r.cs.size = ks.length := by simp [Row.cs, r.ok.len]
theorem Row.len {ks : List (Option IntKind)} (r : Row ks) : r.cl.length = ks.length := r.ok.len
theorem Fit.one {k : Option IntKind} {v : Value} (h : Fit k v) : v.oneCell' = true := by
  cases k with
  | none => obtain ⟨b, rfl⟩ := h; rfl
  | some k => obtain ⟨n, rfl, _⟩ := h; rfl
theorem Fits.one {ks : List (Option IntKind)} {l : List Value} (h : Fits ks l) : ∀ v ∈ l, v.oneCell' = true := by
  intro v hv
  obtain ⟨j, hj, e⟩ := List.mem_iff_getElem.1 hv
  have hj' : j < ks.length := by rw [← h.len]; exact hj
  exact (h.at' j ks[j] v (List.getElem?_eq_getElem hj') (by rw [List.getElem?_eq_getElem hj, e])).one
theorem Row.one {ks : List (Option IntKind)} (r : Row ks) : ∀ v ∈ r.cl, v.oneCell' = true := r.ok.one
theorem Row.one' {ks : List (Option IntKind)} (r : Row ks) : ∀ v ∈ r.cs.toList, v.oneCell' = true := r.ok.one
/-- The number in a cell. -/
def Row.nm {ks : List (Option IntKind)} (r : Row ks) (j : Nat) : Int := match r.cl[j]? with | some (.int _ n) => n | _ => 0
/-- The bool in a cell. -/
def Row.bt {ks : List (Option IntKind)} (r : Row ks) (j : Nat) : Bool := match r.cl[j]? with | some (.bool b) => b | _ => false
theorem Row.get {ks : List (Option IntKind)} (r : Row ks) {j : Nat} {k : Option IntKind} (h : ks[j]? = some k) : ∃ v, r.cl[j]? = some v ∧ Fit k v := by
  have hj : j < r.cl.length := by rw [r.len]; exact (List.getElem?_eq_some_iff.1 h).1
  exact ⟨_, List.getElem?_eq_getElem hj, r.ok.at' j k _ h (List.getElem?_eq_getElem hj)⟩
theorem Row.num {ks : List (Option IntKind)} (r : Row ks) {j : Nat} {k : IntKind} (h : ks[j]? = some (some k)) : r.cl[j]? = some (.int k (r.nm j)) := by
  obtain ⟨v, h1, n, rfl, _⟩ := r.get h
  simp [Row.nm, h1]
theorem Row.nwf {ks : List (Option IntKind)} (r : Row ks) {j : Nat} {k : IntKind} (h : ks[j]? = some (some k)) : (Lit.int k (r.nm j)).wf = true := by
  obtain ⟨v, h1, n, rfl, hw⟩ := r.get h
  simpa [Row.nm, h1] using hw
theorem Row.bit {ks : List (Option IntKind)} (r : Row ks) {j : Nat} (h : ks[j]? = some none) : r.cl[j]? = some (.bool (r.bt j)) := by
  obtain ⟨v, h1, b, rfl⟩ := r.get h
  simp [Row.bt, h1]
theorem Row.cget {ks : List (Option IntKind)} (r : Row ks) (j : Nat) : r.cs[j]? = r.cl[j]? := by simp [Row.cs]
/-- A row with another value in a cell. -/
def Row.set {ks : List (Option IntKind)} (r : Row ks) (j : Nat) (v : Value) (h : ∀ k, ks[j]? = some k → Fit k v) : Row ks :=
  ⟨r.cl.set j v, by
    refine ⟨by rw [List.length_set, r.len], fun i k x hk hx => ?_⟩
    rw [List.getElem?_set] at hx
    split at hx
    · rename_i e
      subst e
      split at hx
      · cases hx; exact h k hk
      · cases hx
    · exact r.ok.at' i k x hk hx⟩
/-- A part of a row. -/
def Row.sub {ks : List (Option IntKind)} (r : Row ks) (o n : Nat) : Row ((ks.drop o).take n) :=
  ⟨(r.cl.drop o).take n, by
    refine ⟨by rw [List.length_take, List.length_take, List.length_drop, List.length_drop, r.len], fun i k x hk hx => ?_⟩
    rw [List.getElem?_take] at hk hx
    split at hk
    · rename_i hi
      rw [if_pos hi, List.getElem?_drop] at hx
      rw [List.getElem?_drop] at hk
      exact r.ok.at' _ k x hk hx
    · cases hk⟩
theorem Row.nm_sub {ks : List (Option IntKind)} (r : Row ks) (o n j : Nat) (hj : j < n) : (r.sub o n).nm j = r.nm (o + j) := by
  unfold Row.nm Row.sub
  rw [List.getElem?_take, if_pos hj, List.getElem?_drop]
theorem Row.bt_sub {ks : List (Option IntKind)} (r : Row ks) (o n j : Nat) (hj : j < n) : (r.sub o n).bt j = r.bt (o + j) := by
  unfold Row.bt Row.sub
  rw [List.getElem?_take, if_pos hj, List.getElem?_drop]
/-- Two rows with the same in each cell are one. -/
theorem Row.same {ks : List (Option IntKind)} {a b : Row ks} (h : ∀ j, j < ks.length → a.cl[j]? = b.cl[j]?) : a = b := by
  refine Row.ext' (List.ext_getElem? fun j => ?_)
  by_cases hj : j < ks.length
  · exact h j hj
  · rw [List.getElem?_eq_none (by rw [a.len]; omega), List.getElem?_eq_none (by rw [b.len]; omega)]
theorem Row.nset {ks : List (Option IntKind)} (r : Row ks) {j : Nat} {k : IntKind} {n : Int} (h : ∀ k', ks[j]? = some k' → Fit k' (.int k n)) (hj : j < ks.length) : (r.set j (.int k n) h).nm j = n := by
  have : j < r.cl.length := by rw [r.len]; exact hj
  simp [Row.nm, Row.set, List.getElem?_set, this]
theorem Row.bset {ks : List (Option IntKind)} (r : Row ks) {j : Nat} {b : Bool} (h : ∀ k', ks[j]? = some k' → Fit k' (.bool b)) (hj : j < ks.length) : (r.set j (.bool b) h).bt j = b := by
  have : j < r.cl.length := by rw [r.len]; exact hj
  simp [Row.bt, Row.set, List.getElem?_set, this]
theorem Row.nset_ne {ks : List (Option IntKind)} (r : Row ks) {j i : Nat} {v : Value} (h : ∀ k', ks[j]? = some k' → Fit k' v) (hj : j ≠ i) : (r.set j v h).nm i = r.nm i := by
  simp [Row.nm, Row.set, List.getElem?_set, hj]
theorem Row.bset_ne {ks : List (Option IntKind)} (r : Row ks) {j i : Nat} {v : Value} (h : ∀ k', ks[j]? = some k' → Fit k' v) (hj : j ≠ i) : (r.set j v h).bt i = r.bt i := by
  simp [Row.bt, Row.set, List.getElem?_set, hj]
/-! ### the types whose values are such rows -/
def fieldKinds (P : Program) (g : TypeId → Option (List (Option IntKind))) : Nat → List Field → Option (List (Option IntKind))
  | _, [] => some []
  | o, f :: fs => if f.offset = o ∧ (f.name != "_") = true then (g f.type).bind fun k => if P.cellsOf f.type = k.length then (fieldKinds P g (o + k.length) fs).map (k ++ ·) else none else none
def kindsOf (P : Program) : Nat → TypeId → Option (List (Option IntKind))
  | 0, _ => none
  | d + 1, t =>
    match P.underlying t with
    | some .bool => some [none]
    | some (.int q) => some [some q]
    | some (.struct fs) => (fieldKinds P (kindsOf P d) 0 fs.toList).bind fun ks => if P.cellsOf t = ks.length ∧ fs.all (·.name != "_") = true then some ks else none
    | _ => none
def litOf : Value → Lit
  | .int k n => .int k n
  | .bool b => .bool b
  | _ => .bool false
theorem Fits.app {a b : List (Option IntKind)} {l : List Value} (h : Fits (a ++ b) l) : Fits a (l.take a.length) ∧ Fits b (l.drop a.length) := by
  have hl := h.len
  rw [List.length_append] at hl
  refine ⟨⟨by rw [List.length_take]; omega, fun j k v hk hv => ?_⟩, ⟨by rw [List.length_drop]; omega, fun j k v hk hv => ?_⟩⟩
  · have hj := (List.getElem?_eq_some_iff.1 hk).1
    rw [List.getElem?_take, if_pos hj] at hv
    exact h.at' j k v (by rw [List.getElem?_append_left hj]; exact hk) hv
  · rw [List.getElem?_drop] at hv
    exact h.at' _ k v (by rw [List.getElem?_append_right (by omega)]; rw [Nat.add_sub_cancel_left]; exact hk) hv
theorem Fits.join {a b : List (Option IntKind)} {l : List Value} (h1 : Fits a (l.take a.length)) (h2 : Fits b (l.drop a.length)) : Fits (a ++ b) l := by
  have e1 := h1.len
  have e2 := h2.len
  rw [List.length_take] at e1
  rw [List.length_drop] at e2
  refine ⟨by rw [List.length_append]; omega, fun j k v hk hv => ?_⟩
  by_cases hj : j < a.length
  · rw [List.getElem?_append_left hj] at hk
    exact h1.at' j k v hk (by rw [List.getElem?_take, if_pos hj]; exact hv)
  · rw [List.getElem?_append_right (by omega)] at hk
    exact h2.at' _ k v hk (by rw [List.getElem?_drop, Nat.add_sub_cancel' (by omega)]; exact hv)
theorem keyFields (P : Program) (d : Nat) (g : TypeId → Option (List (Option IntKind))) (ih : ∀ t ks cs, g t = some ks → Fits ks cs → P.keyLits d t cs = some (cs.map litOf)) (cs : List Value) :
    ∀ (fs : List Field) (o : Nat) (ks : List (Option IntKind)), fieldKinds P g o fs = some ks → Fits ks (cs.drop o) → ∃ L, (fs.mapM fun f => P.keyLits d f.type ((cs.drop f.offset).take (P.cellsOf f.type))) = some L ∧ L.flatten = (cs.drop o).map litOf
  | [], o, ks, h, hf => by
    cases h
    have := hf.len
    have e : cs.drop o = [] := List.eq_nil_of_length_eq_zero this
    exact ⟨[], rfl, by simp [e]⟩
  | f :: fs, o, ks, h, hf => by
    unfold fieldKinds at h
    split at h
    · rename_i ho
      rw [Option.bind_eq_some_iff] at h
      obtain ⟨k, hk, h⟩ := h
      split at h
      · rename_i hc
        rw [Option.map_eq_some_iff] at h
        obtain ⟨r, hr, rfl⟩ := h
        obtain ⟨h1, h2⟩ := hf.app
        rw [List.drop_drop] at h2
        obtain ⟨L, hL, eL⟩ := keyFields P d g ih cs fs _ r hr h2
        have q := ih f.type k _ hk h1
        refine ⟨((cs.drop o).take k.length).map litOf :: L, ?_, ?_⟩
        · rw [List.mapM_cons, ho.1, hc, q, hL]
          rfl
        · rw [List.flatten_cons, eL, ← List.map_append, ← List.drop_drop, List.take_append_drop]
      · cases h
    · cases h
theorem keyLits_of (P : Program) : ∀ (d : Nat) (t : TypeId) (ks : List (Option IntKind)) (cs : List Value), kindsOf P d t = some ks → Fits ks cs → P.keyLits d t cs = some (cs.map litOf)
  | 0, t, ks, cs, h, _ => by cases h
  | d + 1, t, ks, cs, h, hf => by
    unfold kindsOf at h
    split at h
    · rename_i hu
      cases h
      have hl := hf.len
      match cs, hl with
      | [c], _ =>
        obtain ⟨b, rfl⟩ := hf.at' 0 none c rfl rfl
        simp [Program.keyLits, hu, litOf]
    · rename_i q hu
      cases h
      have hl := hf.len
      match cs, hl with
      | [c], _ =>
        obtain ⟨n, rfl, hw⟩ := hf.at' 0 (some q) c rfl rfl
        simp [Program.keyLits, hu, litOf, hw]
    · rename_i fs hu
      rw [Option.bind_eq_some_iff] at h
      obtain ⟨ks', hk, h⟩ := h
      split at h
      · rename_i hc
        cases h
        obtain ⟨L, hL, e⟩ := keyFields P d (kindsOf P d) (keyLits_of P d) cs fs.toList 0 ks hk (by rw [List.drop_zero]; exact hf)
        rw [List.drop_zero] at e
        simp only [Program.keyLits, hu]
        rw [if_pos ⟨by rw [hf.len, hc.1], hc.2⟩, hL]
        simp [e]
      · cases h
    · cases h
theorem trodFields {H : Type} (enc : TypeId × Value → H) (P : Program) (W : World) (b : Nat) (sp : Nat → Bool) (m : Nat) (g : TypeId → Option (List (Option IntKind))) (ih : ∀ t ks cs r, g t = some ks → DataW.trod enc P W b sp true m t cs = some r → Fits ks cs) (cs : List Value) :
    ∀ (fs : List Field) (o : Nat) (ks : List (Option IntKind)), fieldKinds P g o fs = some ks → cs.length = o + ks.length → (∀ f ∈ fs, ∃ r, DataW.trod enc P W b sp true m f.type ((cs.drop f.offset).take (P.cellsOf f.type)) = some r) → Fits ks (cs.drop o)
  | [], o, ks, h, hl, _ => by
    cases h
    exact ⟨by rw [List.length_drop, hl]; simp, fun j k v hk => by simp at hk⟩
  | f :: fs, o, ks, h, hl, hs => by
    unfold fieldKinds at h
    split at h
    · rename_i ho
      rw [Option.bind_eq_some_iff] at h
      obtain ⟨k, hk, h⟩ := h
      split at h
      · rename_i hc
        rw [Option.map_eq_some_iff] at h
        obtain ⟨r, hr, rfl⟩ := h
        obtain ⟨x, hx⟩ := hs f (by simp)
        rw [ho.1, hc] at hx
        have h2 := trodFields enc P W b sp m g ih cs fs _ r hr (by rw [hl, List.length_append]; omega) (fun f hf => hs f (by simp [hf]))
        exact Fits.join (ih f.type k _ x hk hx) (by rw [List.drop_drop]; exact h2)
      · cases h
    · cases h
theorem fits_of_trod {H : Type} (enc : TypeId × Value → H) (P : Program) (W : World) (b : Nat) (sp : Nat → Bool) : ∀ (d m : Nat) (t : TypeId) (ks : List (Option IntKind)) (cs : List Value) (r : DataW H × List MemPlace), kindsOf P d t = some ks → DataW.trod enc P W b sp true m t cs = some r → Fits ks cs
  | 0, m, t, ks, cs, r, h, _ => by cases h
  | d + 1, m, t, ks, cs, r, h, hf => by
    unfold kindsOf at h
    split at h
    · rename_i hu
      cases h
      obtain ⟨x, rfl, _⟩ := DataW.trod_bool hu hf
      refine ⟨rfl, fun j k v hk hv => ?_⟩
      match j, hk, hv with
      | 0, hk, hv => cases hk; cases hv; exact ⟨x, rfl⟩
      | j + 1, hk, hv => simp at hk
    · rename_i q hu
      cases h
      obtain ⟨x, rfl, _, hw⟩ := DataW.trod_int hu hf
      refine ⟨rfl, fun j k v hk hv => ?_⟩
      match j, hk, hv with
      | 0, hk, hv => cases hk; cases hv; exact ⟨x, rfl, hw⟩
      | j + 1, hk, hv => simp at hk
    · rename_i fs hu
      rw [Option.bind_eq_some_iff] at h
      obtain ⟨ks', hk, h⟩ := h
      split at h
      · rename_i hc
        cases h
        obtain ⟨xs, n, rfl, _, hl, hxl, hg⟩ := DataW.trod_struct hu hf
        have := trodFields enc P W b sp n (kindsOf P d) (fun t ks cs r => fits_of_trod enc P W b sp d n t ks cs r) cs fs.toList 0 ks hk (by rw [hl, hc.1]; omega) (fun f hf => by
          obtain ⟨i, hi, e⟩ := List.mem_iff_getElem.1 hf
          have hi' : i < fs.size := by simpa using hi
          have q := hg i f (by rw [Array.getElem?_eq_getElem hi']; simpa using e)
          rw [List.getElem?_eq_getElem (by omega)] at q
          exact ⟨_, q⟩)
        rw [List.drop_zero] at this
        exact this
      · cases h
    · cases h
theorem lit_inj {k : Option IntKind} {a b : Value} (ha : Fit k a) (hb : Fit k b) (h : litOf a = litOf b) : a = b := by
  cases k with
  | none =>
    obtain ⟨x, rfl⟩ := ha
    obtain ⟨y, rfl⟩ := hb
    simp [litOf] at h
    rw [h]
  | some k =>
    obtain ⟨x, rfl, _⟩ := ha
    obtain ⟨y, rfl, _⟩ := hb
    simp [litOf] at h
    rw [h]
/-- Are two plain values one? -/
def Row.veq : Value → Value → Bool
  | .int _ a, .int _ b => a == b
  | .bool a, .bool b => a == b
  | _, _ => false
theorem Row.veq_iff {k : Option IntKind} {a b : Value} (ha : Fit k a) (hb : Fit k b) : Row.veq a b = true ↔ a = b := by
  cases k with
  | none =>
    obtain ⟨x, rfl⟩ := ha
    obtain ⟨y, rfl⟩ := hb
    simp [Row.veq]
  | some k =>
    obtain ⟨x, rfl, _⟩ := ha
    obtain ⟨y, rfl, _⟩ := hb
    simp [Row.veq]
/-- Are two rows of plain values one? -/
def Row.leq : List Value → List Value → Bool
  | [], [] => true
  | a :: l, b :: m => Row.veq a b && Row.leq l m
  | _, _ => false
theorem Row.leq_iff : ∀ (ks : List (Option IntKind)) (l m : List Value), Fits ks l → Fits ks m → (Row.leq l m = true ↔ l = m)
  | [], [], [], _, _ => by simp [Row.leq]
  | k :: ks, a :: l, b :: m, h, g => by
    have t1 : Fits ks l := ⟨by have := h.len; simp at this; exact this, fun j k' v hk hv => h.at' (j + 1) k' v (by simpa using hk) (by simpa using hv)⟩
    have t2 : Fits ks m := ⟨by have := g.len; simp at this; exact this, fun j k' v hk hv => g.at' (j + 1) k' v (by simpa using hk) (by simpa using hv)⟩
    have e1 := Row.veq_iff (h.at' 0 k a rfl rfl) (g.at' 0 k b rfl rfl)
    have e2 := Row.leq_iff ks l m t1 t2
    simp only [Row.leq, Bool.and_eq_true, List.cons.injEq]
    rw [e1, e2]
  | [], _ :: _, _, h, _ => by have := h.len; simp at this
  | [], [], _ :: _, _, g => by have := g.len; simp at this
  | _ :: _, [], _, h, _ => by have := h.len; simp at this
  | _ :: _, _ :: _, [], _, g => by have := g.len; simp at this
/-- Are two rows one? -/
def Row.eq {ks : List (Option IntKind)} (a b : Row ks) : Bool := Row.leq a.cl b.cl
theorem Row.eq_iff {ks : List (Option IntKind)} {a b : Row ks} : a.eq b = true ↔ a = b := by
  unfold Row.eq
  rw [Row.leq_iff ks a.cl b.cl a.ok b.ok]
  exact ⟨Row.ext', fun e => by rw [e]⟩
theorem Row.eq_self {ks : List (Option IntKind)} (a : Row ks) : a.eq a = true := Row.eq_iff.2 rfl
/-- A type whose values are rows of those kinds. -/
structure PlainTy (t : TypeId) (ks : List (Option IntKind)) : Prop where
  kinds : kindsOf Try.prog 6 t = some ks
  key : Try.prog.keyTypeAt 6 t = true
  form : ∃ fs, Try.prog.underlying t = some (.struct fs)
  cells : Try.prog.cellsOf t = ks.length
theorem run_eqRow {t : TypeId} {ks : List (Option IntKind)} (p : PlainTy t ks) (a b : Row ks) (w : World) : (Op.equalIn 10000 t (.agg a.cs) (.agg b.cs)).run Try.prog w = .ok (a.eq b) w := by
  obtain ⟨fs, hu⟩ := p.form
  have ha := keyLits_of Try.prog 6 t ks a.cl p.kinds a.ok
  have hb := keyLits_of Try.prog 6 t ks b.cl p.kinds b.ok
  obtain ⟨r, hr, hi⟩ := run_equalIn_deep (P := Try.prog) 9994 6 t p.key w 6 6 (.agg a.cs) (.agg b.cs) _ _ (by simp [Value.formed, hu, p.cells, a.csize]) (by simp [Value.formed, hu, p.cells, b.csize]) (by simpa [Value.cells, Row.cs] using ha) (by simpa [Value.cells, Row.cs] using hb)
  rw [hr]
  have e : r = a.eq b := by
    rw [Bool.eq_iff_iff, hi, Row.eq_iff]
    constructor
    · intro e
      refine Row.same fun j hj => ?_
      have h1 : j < a.cl.length := by rw [a.len]; exact hj
      have h2 : j < b.cl.length := by rw [b.len]; exact hj
      rw [List.getElem?_eq_getElem h1, List.getElem?_eq_getElem h2]
      have q := congrArg (fun l => l[j]?) e
      simp only [List.getElem?_map, List.getElem?_eq_getElem h1, List.getElem?_eq_getElem h2, Option.map_some, Option.some.injEq] at q
      rw [lit_inj (a.ok.at' j ks[j] _ (List.getElem?_eq_getElem hj) (List.getElem?_eq_getElem h1)) (b.ok.at' j ks[j] _ (List.getElem?_eq_getElem hj) (List.getElem?_eq_getElem h2)) q]
    · rintro rfl
      rfl
  rw [e]
end Go.Proofs.Ytammaaiknjgjbaa
