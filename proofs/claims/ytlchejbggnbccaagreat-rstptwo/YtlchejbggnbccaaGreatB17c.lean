/-
  The library's sort and its dropping of doubles at rows of numbers: what the row holds behind the calls, and that it is what the definition notes. And what follows from it here.
-/
import Derived.Test.YtlchejbggnbccaaGreatB17b
import Derived.Test.YtlchejbggnbccaaGreatBbb
import Derived.Test.YtlchejbggnbccaaGreatB12b
import Derived.Test.YtlchejbggnbccaaGreatB12a
import Derived.Test.YtlchejbggnbccaaGreatB17a
import Derived.Test.YtlchejbggnbccaaGreatB9a
import Derived.Test.YtlchejbggnbccaaGreatB9b
namespace Go.Proofs.YtlchejbggnbccaaGreat
set_option linter.unusedVariables false
set_option linter.unusedSimpArgs false
set_option maxRecDepth 4000
section
namespace S17
open Go.RowKit Go.Sort
open S14 (gtP gtP_at set_self)

theorem fl_int (l : List Int) : eI.fl l = l.map (Value.int .i64) := by
  induction l with
  | nil => rfl
  | cons x r ih =>
    unfold S16.El.fl at ih ⊢
    rw [List.flatMap_cons, ih]
    rfl
theorem holdsI {W : World} {g c : Nat} {l : List Int} (p : S16.PAt eI W g c l) : Holds (Value.int .i64) W g 0 l.toArray := by
  intro j hj
  have hj' : j < l.length := by simpa using hj
  obtain ⟨cur, hb, _, _, _, ht⟩ := p
  refine ⟨?_, by simp [World.frozen?, show W.heap[g]? = some (.cells cur 3 (0, 0)) from hb]⟩
  rw [Nat.zero_add]
  refine hb.cell j _ ?_
  rw [← Array.getElem?_toList]
  have h1 : (cur.toList.take (l.length * 1))[j]? = (l.map (Value.int .i64))[j]? := by rw [show cur.toList.take (l.length * 1) = eI.fl l from ht, fl_int]
  rw [List.getElem?_take_of_lt (by omega)] at h1
  rw [h1, List.getElem?_map, List.getElem?_eq_getElem hj', getElem!_pos l.toArray j hj]
  rfl
theorem put_take (cur : Array Value) (d : List Int) (h : d.length ≤ cur.size) : (putCells (Value.int .i64) 0 d.toArray cur).toList.take d.length = d.map (Value.int .i64) := by
  apply List.ext_getElem?
  intro j
  by_cases hj : j < d.length
  · rw [List.getElem?_take_of_lt hj, Array.getElem?_toList]
    simp [putCells, hj, show j < cur.size by omega]
  · rw [List.getElem?_take_eq_none (by omega), List.getElem?_eq_none (by simp; omega)]
theorem put_pat {W : World} {g c n : Nat} {l d : List Int} {os : Array Obj} (p : S16.PAt eI W g c l) (hd : d.length = l.length) :
    S16.PAt eI (grow (putRow (Value.int .i64) (Sort.ahead W n) g 0 d.toArray) os) g c d ∧ W.grownBy (grow (putRow (Value.int .i64) (Sort.ahead W n) g 0 d.toArray) os) (some g) := by
  obtain ⟨cur, hb, h1, h2, h3, h4⟩ := p
  have hg := hb.lt
  have h3' : cur.size = c := by simpa [eI] using h3
  refine ⟨⟨putCells (Value.int .i64) 0 d.toArray cur, ?_, by omega, h2, by simpa [putCells] using h3, ?_⟩, rfl, rfl, rfl, by simp, fun k hk hne => ?_⟩
  · show (grow (putRow (Value.int .i64) (Sort.ahead W n) g 0 d.toArray) os).heap[g]? = _
    rw [heap_grow_old _ _ (by simpa using hg)]
    simp [putRow, mapBlock, Sort.ahead, Array.getElem?_modify, show W.heap[g]? = some (.cells cur 3 (0, 0)) from hb, onCells, eI]
  · rw [fl_int]
    have := put_take cur d (by omega)
    simpa [eI] using this
  · rw [heap_grow_old _ _ (by simpa using hk)]
    have : g ≠ k := fun e => hne (by rw [e])
    simp [putRow, mapBlock, Sort.ahead, Array.getElem?_modify, this]
theorem pat_cut {W : World} {g c : Nat} {l m : List Int} (p : S16.PAt eI W g c (l ++ m)) : S16.PAt eI W g c l := by
  obtain ⟨cur, hb, h1, h2, h3, h4⟩ := p
  have hl : (l ++ m).length = l.length + m.length := List.length_append
  refine ⟨cur, hb, by omega, h2, h3, ?_⟩
  have e : cur.toList.take (l.length * eI.K) = (cur.toList.take ((l ++ m).length * eI.K)).take (l.length * eI.K) := by
    rw [List.take_take, Nat.min_eq_left (Nat.mul_le_mul_right _ (by omega))]
  rw [e, h4, S16.El.fl_app, List.take_left']
  rw [S16.El.fl_len kI]
theorem sort_any {W : World} {B : Nat} {v : Value} {l : List Int} (o : S16.Own eI W B v l) (hl : l.length ≤ 100000) :
    Calls Tryz.prog 55 #[v] W fun r V => r = .returned (.tuple #[]) ∧ S16.Own eI V B v (l.mergeSort fun x y => decide (x ≤ y)) ∧ W.grownBy V v.ownBlock := by
  rcases o.pat with ⟨rfl, rfl⟩ | ⟨g, c, rfl, hB, p⟩
  · have := AnyM.slices_Sort_int_none sortI none 0 W
    exact this.mono fun r V ⟨e, ew⟩ => ⟨e, by rw [ew]; simpa using o, by rw [ew]; exact World.grownBy.refl _ _⟩
  · have := AnyM.slices_Sort_int sortI g 0 c l W (holdsI p) p.lt (by omega)
    refine Calls.mono this fun r V ⟨e, n, os, ew⟩ => ?_
    have hlen : (l.mergeSort fun x y => decide (x ≤ y)).length = l.length := List.length_mergeSort _
    have q := put_pat (n := n) (os := os) (d := l.mergeSort fun x y => decide (x ≤ y)) p hlen
    rw [← ew] at q
    refine ⟨e, ?_, q.2⟩
    have := q.1.own kI hB
    rw [hlen] at this
    exact this
theorem compact_len (d : Array Int) : (Lib.compactUpTo d d.size).length ≤ d.size := by
  unfold Lib.compactUpTo
  rw [List.length_map]
  have := List.length_filter_le (Lib.keeps d) (List.range d.size)
  simpa using this
set_option maxHeartbeats 1000000 in
theorem comp_any {W : World} {B : Nat} {v : Value} {l : List Int} (o : S16.Own eI W B v l) (hl : l.length ≤ 100000) :
    Calls Tryz.prog 56 #[v] W fun r V => ∃ v', r = .returned v' ∧ S16.Own eI V B v' (Lib.compactUpTo l.toArray l.length) ∧ W.grownBy V v.ownBlock := by
  rcases o.pat with ⟨rfl, rfl⟩ | ⟨g, c, rfl, hB, p⟩
  · have F : Hid (S16.Own eI W B (.slice none 0 0) []) := o
    clear o
    go_enter Tryz.func56, Tryz.ntmps56
    go_wp2
    go_ret
    exact ⟨_, rfl, F.out, World.grownBy.refl _ _⟩
  · have hc : l.length ≤ c := by obtain ⟨_, _, h1, _⟩ := p; exact h1
    have := AnyE.slices_Compact compI (Value.int .i64) (fun _ => rfl) (EqlAt.intD _ _ _) (NeqAt.intD _ _ _) 0 (fun w => by kernel_rfl) g 0 c l.toArray W (holdsI p) (by simp; omega) (by simpa using hc)
    have hsz : l.toArray.size = l.length := rfl
    rw [hsz] at this
    refine Calls.mono this fun r V ⟨e, n, ew⟩ => ?_
    have hk := compact_len l.toArray
    rw [hsz] at hk
    have q := put_pat (n := n) (os := #[]) (d := Lib.compactUpTo l.toArray l.length ++ List.replicate (l.length - (Lib.compactUpTo l.toArray l.length).length) 0) p (by simp; omega)
    rw [grow_empty, ← ew] at q
    exact ⟨_, e, (pat_cut q.1).own kI hB, q.2⟩
/-! ### what is noted -/
theorem note_mem (l : List Int) (i : Int) : ∀ x, x ∈ noteL l i ↔ x ∈ l ∨ x = i := by
  induction l with
  | nil => intro x; simp [noteL]
  | cons y r ih =>
    intro x
    unfold noteL
    split
    · rw [List.mem_cons, ih, List.mem_cons, or_assoc]
    · split
      · next h1 h2 =>
        rw [List.mem_cons]
        constructor
        · exact fun h => Or.inl h
        · rintro (h | rfl)
          · exact h
          · exact Or.inl h2.symm
      · simp only [List.mem_cons]
        constructor
        · rintro (h | h | h)
          · exact Or.inr h
          · exact Or.inl (Or.inl h)
          · exact Or.inl (Or.inr h)
        · rintro ((h | h) | h)
          · exact Or.inr (Or.inl h)
          · exact Or.inr (Or.inr h)
          · exact Or.inl h
theorem note_sorted (l : List Int) (i : Int) (h : l.Pairwise (· < ·)) : (noteL l i).Pairwise (· < ·) := by
  induction l with
  | nil => simp [noteL]
  | cons y r ih =>
    rw [List.pairwise_cons] at h
    unfold noteL
    split
    · next h1 =>
      rw [List.pairwise_cons]
      refine ⟨fun x hx => ?_, ih h.2⟩
      rcases (note_mem r i x).1 hx with q | q
      · exact h.1 x q
      · rw [q]; exact h1
    · split
      · exact List.pairwise_cons.2 h
      · next h1 h2 =>
        rw [List.pairwise_cons]
        refine ⟨fun x hx => ?_, List.pairwise_cons.2 h⟩
        rcases List.mem_cons.1 hx with q | q
        · rw [q]; omega
        · have := h.1 x q; omega
theorem noted_fold (l : List Int) : ∀ (a : List Int), a.Pairwise (· < ·) → (l.foldl noteL a).Pairwise (· < ·) ∧ ∀ x, x ∈ l.foldl noteL a ↔ x ∈ a ∨ x ∈ l := by
  induction l with
  | nil => intro a h; exact ⟨h, by simp⟩
  | cons y r ih =>
    intro a h
    obtain ⟨h1, h2⟩ := ih (noteL a y) (note_sorted a y h)
    refine ⟨h1, fun x => ?_⟩
    rw [List.foldl_cons, h2, note_mem, List.mem_cons, or_assoc]
theorem sorted_ext : ∀ (a b : List Int), a.Pairwise (· < ·) → b.Pairwise (· < ·) → (∀ x, x ∈ a ↔ x ∈ b) → a = b
  | [], [], _, _, _ => rfl
  | [], y :: r, _, _, h => by have := (h y).2 (by simp); simp at this
  | x :: r, [], _, _, h => by have := (h x).1 (by simp); simp at this
  | x :: r, y :: s, ha, hb, h => by
    rw [List.pairwise_cons] at ha hb
    have e : x = y := by
      have h1 := (h x).1 (by simp)
      have h2 := (h y).2 (by simp)
      rcases List.mem_cons.1 h1 with q | q
      · exact q
      · rcases List.mem_cons.1 h2 with p | p
        · exact p.symm
        · have := hb.1 x q
          have := ha.1 y p
          omega
    subst e
    congr 1
    refine sorted_ext r s ha.2 hb.2 fun z => ?_
    have hz := h z
    simp only [List.mem_cons] at hz
    constructor
    · intro q
      rcases hz.1 (Or.inr q) with p | p
      · have := ha.1 z q; omega
      · exact p
    · intro q
      rcases hz.2 (Or.inr q) with p | p
      · have := hb.1 z q; omega
      · exact p
theorem compact_succ (d : Array Int) (m : Nat) : Lib.compactUpTo d (m + 1) = Lib.compactUpTo d m ++ (if Lib.keeps d m = true then [d[m]!] else []) := by
  unfold Lib.compactUpTo
  rw [List.range_succ, List.filter_append, List.map_append]
  congr 1
  cases h : Lib.keeps d m <;> simp [h]
theorem compact_is (s : List Int) (hs : s.Pairwise (· ≤ ·)) : ∀ m, m ≤ s.length → (Lib.compactUpTo s.toArray m).Pairwise (· < ·) ∧ ∀ x, x ∈ Lib.compactUpTo s.toArray m ↔ x ∈ s.take m
  | 0, _ => by simp [Lib.compactUpTo]
  | m + 1, hm => by
    obtain ⟨h1, h2⟩ := compact_is s hs m (by omega)
    have em : s.toArray[m]! = s[m]'(by omega) := by rw [getElem!_pos s.toArray m (by simp; omega)]; rfl
    have et : s.take (m + 1) = s.take m ++ [s[m]'(by omega)] := by rw [List.take_add_one, List.getElem?_eq_getElem (by omega)]; rfl
    have hle : ∀ x ∈ s.take m, x ≤ s[m]'(by omega) := fun x hx => by
      obtain ⟨k, hk, rfl⟩ := List.mem_iff_getElem.1 hx
      rw [List.getElem_take]
      rw [List.length_take] at hk
      exact List.pairwise_iff_getElem.1 hs k m (by omega) (by omega) (by omega)
    rw [compact_succ, et]
    by_cases hk : Lib.keeps s.toArray m = true
    · rw [if_pos hk, em]
      refine ⟨?_, fun x => by rw [List.mem_append, List.mem_append, h2]⟩
      rw [List.pairwise_append]
      refine ⟨h1, by simp, fun x hx y hy => ?_⟩
      simp only [List.mem_cons, List.not_mem_nil, or_false] at hy
      subst hy
      have hx' := (h2 x).1 hx
      have := hle x hx'
      by_cases h0 : m = 0
      · subst h0; simp at hx'
      · have hne : s.toArray[m]! ≠ s.toArray[m - 1]! := fun e => by
          have := Lib.keeps_neg (d := s.toArray) (m := m) (by omega) e
          rw [this] at hk
          cases hk
        have em1 : s.toArray[m - 1]! = s[m - 1]'(by omega) := by rw [getElem!_pos s.toArray (m - 1) (by simp; omega)]; rfl
        rw [em, em1] at hne
        obtain ⟨k, hk', rfl⟩ := List.mem_iff_getElem.1 hx'
        rw [List.getElem_take]
        rw [List.length_take] at hk'
        have a1 : s[k]'(by omega) ≤ s[m - 1]'(by omega) := by
          rcases Nat.lt_or_ge k (m - 1) with q | q
          · exact List.pairwise_iff_getElem.1 hs k (m - 1) (by omega) (by omega) q
          · have : k = m - 1 := by omega
            subst this
            exact Int.le_refl _
        have a2 := List.pairwise_iff_getElem.1 hs (m - 1) m (by omega) (by omega) (by omega)
        omega
    · rw [if_neg hk, List.append_nil]
      refine ⟨h1, fun x => ?_⟩
      rw [h2, List.mem_append]
      constructor
      · exact fun h => Or.inl h
      · rintro (h | h)
        · exact h
        · simp only [List.mem_cons, List.not_mem_nil, or_false] at h
          subst h
          have h0 : m ≠ 0 := fun e => hk (Lib.keeps_lt_one s.toArray m (by omega))
          have he : s.toArray[m]! = s.toArray[m - 1]! := Classical.byContradiction fun q => hk (Lib.keeps_pos q)
          have em1 : s.toArray[m - 1]! = s[m - 1]'(by omega) := by rw [getElem!_pos s.toArray (m - 1) (by simp; omega)]; rfl
          rw [em, em1] at he
          rw [he]
          refine List.mem_iff_getElem.2 ⟨m - 1, by rw [List.length_take]; omega, ?_⟩
          rw [List.getElem_take]
theorem noted_is (l : List Int) : Lib.compactUpTo (l.mergeSort fun x y => decide (x ≤ y)).toArray (l.mergeSort fun x y => decide (x ≤ y)).length = noted l := by
  have hs : (l.mergeSort fun x y => decide (x ≤ y)).Pairwise (· ≤ ·) := (List.pairwise_mergeSort (le := fun x y : Int => decide (x ≤ y)) (fun a b c h1 h2 => by simp at *; omega) (fun a b => by simp; omega) l).imp fun h => by simpa using h
  have hp := List.mergeSort_perm l (fun x y : Int => decide (x ≤ y))
  obtain ⟨h1, h2⟩ := compact_is _ hs _ (Nat.le_refl _)
  obtain ⟨n1, n2⟩ := noted_fold l [] List.Pairwise.nil
  refine sorted_ext _ _ h1 n1 fun x => ?_
  rw [h2, List.take_length, hp.mem_iff]
  show x ∈ l ↔ x ∈ l.foldl noteL []
  rw [n2]
  simp
end S17
end
section
namespace S17
open Go.RowKit
open S14 (gtP gtP_at set_self)
abbrev q31_5_0 : Oper := { dst := some 27, op := Op.move (Operand.tmp 4), type := 107, pos := "lead.go:21", after := #[], guard := none }
abbrev q31_5_1 : Oper := { dst := some 28, op := Op.nilCheck (Operand.tmp 27), type := 0, pos := "lead.go:21", after := #[{ on := 0, ground := Ground.data }], guard := none }
abbrev q31_5_2 : Oper := { dst := some 29, op := Op.fieldAddr 109 (Operand.tmp 28) 0, type := 0, pos := "lead.go:21", after := #[{ on := 1, ground := Ground.data }], guard := none }
abbrev q31_5_3 : Oper := { dst := some 30, op := Op.load 39 (Operand.tmp 29), type := 39, pos := "lead.go:21", after := #[{ on := 2, ground := Ground.data }], guard := none }
abbrev q31_5_4 : Oper := { dst := some 31, op := Op.move (Operand.tmp 4), type := 107, pos := "lead.go:21", after := #[{ on := 8, ground := Ground.gcOnly Departure.lateStores }], guard := none }
abbrev q31_5_5 : Oper := { dst := some 32, op := Op.nilCheck (Operand.tmp 31), type := 0, pos := "lead.go:21", after := #[{ on := 4, ground := Ground.data }, { on := 8, ground := Ground.gcOnly Departure.lateStores }], guard := none }
abbrev q31_5_6 : Oper := { dst := some 33, op := Op.fieldAddr 109 (Operand.tmp 32) 1, type := 0, pos := "lead.go:21", after := #[{ on := 5, ground := Ground.data }, { on := 8, ground := Ground.gcOnly Departure.lateStores }], guard := none }
abbrev q31_5_7 : Oper := { dst := some 34, op := Op.load 52 (Operand.tmp 33), type := 52, pos := "lead.go:21", after := #[{ on := 6, ground := Ground.data }, { on := 8, ground := Ground.gcOnly Departure.lateStores }], guard := none }
abbrev q31_5_8 : Oper := { dst := none, op := Op.store 39 (Operand.tmp 2) (Operand.tmp 30), type := 0, pos := "lead.go:21", after := #[{ on := 3, ground := Ground.data }, { on := 0, ground := Ground.phase }, { on := 1, ground := Ground.phase }, { on := 2, ground := Ground.phase }, { on := 3, ground := Ground.phase }, { on := 4, ground := Ground.textOnly Departure.lateStores }, { on := 5, ground := Ground.textOnly Departure.lateStores }, { on := 6, ground := Ground.textOnly Departure.lateStores }, { on := 7, ground := Ground.textOnly Departure.lateStores }], guard := none }
abbrev q31_5_9 : Oper := { dst := none, op := Op.store 52 (Operand.tmp 3) (Operand.tmp 34), type := 0, pos := "lead.go:21", after := #[{ on := 7, ground := Ground.data }, { on := 8, ground := Ground.chain }, { on := 0, ground := Ground.phase }, { on := 1, ground := Ground.phase }, { on := 2, ground := Ground.phase }, { on := 3, ground := Ground.phase }, { on := 4, ground := Ground.phase }, { on := 5, ground := Ground.phase }, { on := 6, ground := Ground.phase }, { on := 7, ground := Ground.phase }, { on := 8, ground := Ground.phase }], guard := none }

theorem bdLc (c0 c1 c2 c3 c4 c5 c6 c7 c8 c9 c10 c11 c12 c13 c14 c15 v : Value) (w : World) : (Instr.build 109 #[(0, .agg #[c0, c1, c2, c3, c4, c5, c6, c7, c8, c9, c10, c11, c12, c13, c14, c15, v])]).run Tryz.prog w = .ok (.agg #[c0, c1, c2, c3, c4, c5, c6, c7, c8, c9, c10, c11, c12, c13, c14, c15, v, .slice none 0 0, .slice none 0 0]) w := by kernel_rfl
def bdL (x : Array (Nat × Value)) : Sem Value := Instr.build 109 x
theorem bdLE (x : Array (Nat × Value)) : Instr.build 109 x = bdL x := rfl
theorem bdL_is (h : Hd) (v : Value) (w : World) : (bdL #[(0, .agg (trc h v))]).run Tryz.prog w = .ok (.agg (ldc h v (.slice none 0 0) (.slice none 0 0))) w := by
  have hl := h.len
  rw [lenH] at hl
  unfold bdL trc ldc
  match h.cl, hl with
  | [c0, c1, c2, c3, c4, c5, c6, c7, c8, c9, c10, c11, c12, c13, c14, c15], _ => exact bdLc c0 c1 c2 c3 c4 c5 c6 c7 c8 c9 c10 c11 c12 c13 c14 c15 v w
theorem three_td (w : World) (h : Hd) (x : Value) : ∃ W, ((w.alloc (.cells (trc h x) 39)).alloc (.cells #[.int .u64 0, .int .u8 0, .int .u8 0, .int .u8 0, .int .u8 0, .int .u8 0, .bool false, .int .u16 0, .int .u64 0, .int .u32 0, .int .u64 0, .int .u16 0, .int .u8 0, .int .u8 0, .int .u8 0, .int .u8 0, .slice none 0 0] 39)).alloc (.cells #[.slice none 0 0, .slice none 0 0] 52) = W ∧ RvAt W w.heap.size 39 (trc h x) ∧ RvAt W (w.heap.size + 1) 39 (trc zeroH (.slice none 0 0)) ∧ RvAt W (w.heap.size + 2) 52 #[.slice none 0 0, .slice none 0 0] ∧ Below w.heap.size w W ∧ W.heap.size = w.heap.size + 3 := by
  obtain ⟨A, hA, r0, r1, bA, zA⟩ := two_t w h x
  refine ⟨_, rfl, ?_⟩
  rw [hA]
  have b : Below A.heap.size A (A.alloc (.cells #[.slice none 0 0, .slice none 0 0] 52)) := (Below.refl _ _).alloc (Nat.le_refl _) _
  refine ⟨r0.below b, r1.below b, ?_, below_over bA b, by simp [zA]⟩
  have := RvAt.new A 52 #[.slice none 0 0, .slice none 0 0]
  rw [zA] at this
  exact this
theorem results_td {fn : Func} {k m : Nat} {td : TypeId} (hd : RowTy td 2) (hr : fn.results = #[.cell k 39, .cell m td]) (tmps : Array Value) (w : World) (b d : Nat) (h : Hd) (x vo vf : Value) (h2 : tmps.getD k undef = .pointer (some ⟨b, 0, none⟩)) (h3 : tmps.getD m undef = .pointer (some ⟨d, 0, none⟩)) (r : RvAt w b 39 (trc h x)) (q : RvAt w d td #[vo, vf]) :
    (results fn tmps).run Tryz.prog w = .ok (.tuple #[.agg (trc h x), .agg #[vo, vf]]) w := by
  have hl := r.lv rtT (trc_size h x)
  have hq := q.lv hd rfl
  have h2' : tmps[k]?.getD undef = .pointer (some ⟨b, 0, none⟩) := by simpa using h2
  have h3' : tmps[m]?.getD undef = .pointer (some ⟨d, 0, none⟩) := by simpa using h3
  simp [results, hr, asAddr, hl, hq, h2', h3']
theorem ld_tree {W : World} {L : Nat} {h : Hd} {x vo vf : Value} (r : RvAt W L 109 (ldc h x vo vf)) : (ldS 39 (.pointer (some ⟨L, 0, none⟩))).run Tryz.prog W = .ok (.agg (trc h x)) W :=
  run_loadAt_mid W L 0 39 (trc h x).toList _ (fun j v hv => by
    rw [Nat.zero_add]
    exact r.cell j v (ldc_tree (by simpa using hv))) Tryz.underlying39 rfl (by rw [Array.length_toList, trc_size]; exact infoT)
theorem ld_done {W : World} {L : Nat} {h : Hd} {x vo vf : Value} (r : RvAt W L 109 (ldc h x vo vf)) : (ldS 52 (.pointer (some ⟨L, 17, none⟩))).run Tryz.prog W = .ok (.agg #[vo, vf]) W :=
  run_loadAt_mid W L 17 52 [vo, vf] _ (fun j v hv => by
    have := ldc_get h x vo vf
    match j, hv with
    | 0, hv => cases hv; exact r.cell 17 _ this.2.1
    | 1, hv => cases hv; exact r.cell 18 _ this.2.2) Tryz.underlying52 rfl infoD
theorem LS.flu0 {w W X : World} {L n c : Nat} {h : Hd} {a : Option Addr} {l : List Pt} {vo vf : Value} {os : List Ot} {fs fs' : List Int} (s : LS w W L h a n c l vo vf os fs) (g : W.grownBy X vf.ownBlock) (ho : S16.Own eI X w.heap.size vf fs') : LS w X L h a n c l vo vf os fs' ∧ Kp W X := by
  have hv : RvAt X L 109 (ldc h (.slice a n c) vo vf) := s.var.keptBut g (by rcases s.lf with e | e <;> simp_all [Ne.symm])
  have hsl : SlAt X a n c l := by
    by_cases h0 : 0 < n
    · refine s.sl.keptBut g (fun x hx e => ?_)
      obtain ⟨cs, r⟩ := s.sl.soft x hx h0
      rcases own_type s.fl r (by decide) with q | q
      · rw [q] at e; cases e
      · exact q e.symm
    · exact ⟨⟨s.sl.len, s.sl.cap, s.sl.max, s.sl.nil, fun y _ h1 => absurd h1 h0⟩, fun y _ h1 => absurd h1 h0⟩
  have hf : S16.Own eO X w.heap.size vo os := by
    refine s.ou.keptBut g ?_
    rcases s.fl.pat with ⟨e, _⟩ | ⟨gg, cc, rfl, _, p⟩
    · subst e
      exact (Classical.em (vo.ownBlock = none)).imp id fun q e => q e
    · obtain ⟨cur, hc, _⟩ := p
      exact own_type s.ou hc (by decide)
  have hb : Below w.heap.size w X := s.bel.trans (below_of_grown g s.bel.size (fun j e => (s.fl.blk j e).1))
  exact ⟨⟨hv, hsl, s.nw, hf, ho, hb, s.hL⟩, Kp.own s.fl g (Or.inr rfl)⟩
theorem run_len (n : Nat) : ∀ (m : Nat) (t : Ts), (runN n m t).s.f.length ≤ t.s.f.length + m * n
  | 0, t => by simp [runN]
  | m + 1, t => by
    have h1 : (pass n t).s.f.length ≤ t.s.f.length + n := (psN_o (S12.stpH t.h t.s.l) ⟨S12.stpL t.h t.s.l, S12.stpB t.h t.s.l, t.s.o, t.s.f⟩ n).2
    unfold runN
    split
    · have := run_len n m (pass n t)
      rw [Nat.succ_mul]
      omega
    · rw [Nat.succ_mul]
      omega
attribute [local go_sem ↓] ldP stP ldT stT ldDn stDn stLO stLI bdLE
set_option maxHeartbeats 4000000 in
theorem run_any (h : Hd) (a : Option Addr) (n c : Nat) (l : List Pt) (w : World) (hs : SlAt w a n c l) (hn : n ≤ 100) :
    Calls Tryz.prog 31 #[.agg (trc h (.slice a n c))] w fun r V => ∃ a' c' vo vf, r = .returned (.tuple #[.agg (trc (runT h l).h (.slice a' n c')), .agg #[vo, vf]]) ∧ SlAt V a' n c' (runT h l).s.l ∧ Nw w a' ∧ S16.Own eO V w.heap.size vo (runT h l).s.o ∧ S16.Own eI V w.heap.size vf (noted (runT h l).s.f) ∧ Below w.heap.size w V := by
  obtain ⟨T, hT⟩ : ∃ z, runT h l = z := ⟨_, rfl⟩
  have HT : Hid (runN n 100 (start h l) = T ∧ T.s.f.length ≤ 10000) := by
    have e : runN n 100 (start h l) = T := by rw [← hT, ← hs.len]; rfl
    refine ⟨e, ?_⟩
    have := run_len n 100 (start h l)
    rw [e] at this
    have h0 : (start h l).s.f.length = 0 := rfl
    omega
  rw [hT]
  clear hT
  obtain ⟨W, hW, r0, r1, r2, bW, zW⟩ := three_td w h (.slice a n c)
  have l0 := r0.tld
  have H : Hid (SlAt W a n c l ∧ l.length = n ∧ RvAt W (w.heap.size + 1) 39 (trc zeroH (.slice none 0 0)) ∧ RvAt W (w.heap.size + 2) 52 #[.slice none 0 0, .slice none 0 0] ∧ Below w.heap.size w W) := ⟨hs.below bW, hs.len, r1, r2, bW⟩
  clear hs r0 r1 r2 bW zW
  go_enter Tryz.func31, Tryz.ntmps31
  go_wp2_with fail
  refine (copy_any h a n c l W H.out.1 (by omega)).mono ?_
  rintro _ X ⟨v, rfl, oX, bX⟩
  obtain ⟨a0, c0, rfl, s0, p0⟩ := oX.form
  rw [H.out.2.1] at s0
  have bd := bdL_is h (.slice a0 n c0)
  rw [← H.out.2.1] at bd
  obtain ⟨Y, hY⟩ : ∃ Y, X.alloc (.cells (ldc h (.slice a0 l.length c0) (.slice none 0 0) (.slice none 0 0)) 109) = Y := ⟨_, rfl⟩
  have bY : Below X.heap.size X Y := by rw [← hY]; exact (Below.refl _ _).alloc (Nat.le_refl _) _
  have rY : RvAt Y X.heap.size 109 (ldc h (.slice a0 l.length c0) (.slice none 0 0) (.slice none 0 0)) := by rw [← hY]; exact RvAt.new _ _ _
  have bw : Below w.heap.size w Y := below_over (below_over H.out.2.2.2.2 bX) bY
  have S : Hid (LS w Y X.heap.size h a0 n c0 l (.slice none 0 0) (.slice none 0 0) [] []) := by
    refine ⟨by rw [← H.out.2.1]; exact rY, s0.below bY, fun x hx => Nat.le_trans H.out.2.2.2.2.size (p0 x hx).1, S16.Own.nil _ _, S16.Own.nil _ _, bw, Nat.le_trans H.out.2.2.2.2.size bX.size⟩
  have R : Hid (RvAt Y (w.heap.size + 1) 39 (trc zeroH (.slice none 0 0)) ∧ RvAt Y (w.heap.size + 2) 52 #[.slice none 0 0, .slice none 0 0]) := ⟨(H.out.2.2.1.below bX).below bY, (H.out.2.2.2.1.below bX).below bY⟩
  obtain ⟨L, hL⟩ : ∃ L, X.heap.size = L := ⟨_, rfl⟩
  rw [hL] at S
  clear l0 oX bX s0 p0 bY rY bw
  go_wp2_with fail
  refine (rest_any S.out hn).mono ?_
  rintro _ V1 ⟨rfl, ⟨a1, c1, vo, vf, q1⟩, k1⟩
  rw [HT.out.1] at q1
  have c18 := q1.c18
  have R1 : Hid (RvAt V1 (w.heap.size + 1) 39 (trc zeroH (.slice none 0 0)) ∧ RvAt V1 (w.heap.size + 2) 52 #[.slice none 0 0, .slice none 0 0] ∧ LS w V1 L T.h a1 n c1 T.s.l vo vf T.s.o T.s.f) := ⟨k1 _ _ _ R.out.1 (by decide) (by decide) (by decide) (by decide), k1 _ _ _ R.out.2 (by decide) (by decide) (by decide) (by decide), q1⟩
  clear q1 k1 S R bd hY
  go_wp2_with fail
  refine (sort_any R1.out.2.2.fl (by have := HT.out.2; omega)).mono ?_
  rintro _ V2 ⟨rfl, o2, g2⟩
  obtain ⟨q2, k2⟩ := R1.out.2.2.flu0 g2 o2
  have d18 := q2.c18
  have R2 : Hid (RvAt V2 (w.heap.size + 1) 39 (trc zeroH (.slice none 0 0)) ∧ RvAt V2 (w.heap.size + 2) 52 #[.slice none 0 0, .slice none 0 0] ∧ LS w V2 L T.h a1 n c1 T.s.l vo vf T.s.o (T.s.f.mergeSort fun x y => decide (x ≤ y))) := ⟨k2 _ _ _ R1.out.1 (by decide) (by decide) (by decide) (by decide), k2 _ _ _ R1.out.2.1 (by decide) (by decide) (by decide) (by decide), q2⟩
  clear o2 g2 q2 k2 R1 c18
  go_wp2_with fail
  refine (comp_any R2.out.2.2.fl (by have := HT.out.2; rw [List.length_mergeSort]; omega)).mono ?_
  rintro _ V3 ⟨v', rfl, o3, g3⟩
  rw [noted_is] at o3
  obtain ⟨V4, s4, q4, k4⟩ := R2.out.2.2.flus g3 o3
  have R4 : Hid (RvAt V4 (w.heap.size + 1) 39 (trc zeroH (.slice none 0 0)) ∧ RvAt V4 (w.heap.size + 2) 52 #[.slice none 0 0, .slice none 0 0] ∧ LS w V4 L T.h a1 n c1 T.s.l vo v' T.s.o (noted T.s.f)) := ⟨k4 _ _ _ R2.out.1 (by decide) (by decide) (by decide) (by decide), k4 _ _ _ R2.out.2.1 (by decide) (by decide) (by decide) (by decide), q4⟩
  clear o3 g3 q4 k4 R2 d18
  go_upto_region 5 with fail
  clear s4
  obtain ⟨X9, hX⟩ : ∃ X0, World.drew V4 = X0 := ⟨_, rfl⟩
  have b9 : Below V4.heap.size V4 X9 := by rw [← hX]; exact (Below.refl _ _).drew
  have QU := R4.out.2.2.below b9
  have r9 := R4.out.1.below b9
  obtain ⟨U, sU, rU, gU⟩ := r9.tst (g := T.h) (y := .slice a1 n c1) rfl
  have dU := (R4.out.2.1.below b9).keptBut gU (by simp)
  have lU : RvAt U L 109 (ldc T.h (.slice a1 n c1) vo v') := QU.var.keptBut gU (by have := ne_type QU.var r9 (by decide); simpa using this)
  have sZ := dU.st (ds := #[vo, v']) rtD rfl rfl (by
    intro x hx
    simp only [List.mem_cons, List.not_mem_nil, or_false] at hx
    rcases hx with rfl | rfl
    · exact own_one QU.ou
    · exact own_one QU.fl)
  have gZ := grown_row U (w.heap.size + 2) #[vo, v']
  obtain ⟨Z, hZ⟩ : ∃ Z, U.setRow (w.heap.size + 2) #[vo, v'] = Z := ⟨_, rfl⟩
  rw [hZ] at sZ gZ
  have lZ := lU.keptBut gZ (by have := ne_type lU dU (by decide); simpa using this)
  have D : Hid (RvAt X9 L 109 (ldc T.h (.slice a1 n c1) vo v') ∧ RvAt U L 109 (ldc T.h (.slice a1 n c1) vo v') ∧ RvAt Z L 109 (ldc T.h (.slice a1 n c1) vo v')) := ⟨QU.var, lU, lZ⟩
  have F : Hid (RvAt Z (w.heap.size + 1) 39 (trc T.h (.slice a1 n c1)) ∧ RvAt Z (w.heap.size + 2) 52 #[vo, v'] ∧ SlAt Z a1 n c1 T.s.l ∧ Nw w a1 ∧ S16.Own eO Z w.heap.size vo T.s.o ∧ S16.Own eI Z w.heap.size v' (noted T.s.f) ∧ Below w.heap.size w Z) := by
    have o1 := QU.ou.keptBut gU (own_type QU.ou r9 (by decide))
    have o2 := QU.fl.keptBut gU (own_type QU.fl r9 (by decide))
    refine ⟨rU.keptBut gZ (by simp), by rw [← hZ]; exact dU.set, (QU.sl.keptT r9 gU).keptZ dU (by simp) gZ, QU.nw, o1.keptBut gZ (own_type o1 dU (by decide)), o2.keptBut gZ (own_type o2 dU (by decide)), gro (gro QU.bel gU (by omega) QU.bel.size) gZ (by omega) (Nat.le_trans QU.bel.size gU.size)⟩
  clear rU gU dU QU gZ hZ lU lZ r9 b9 R4
  refine wp_region_noPanic ?_
  refine wp_region_held_drew (S := fun w' => RvAt w' L 109 (ldc T.h (.slice a1 n c1) vo v')) (by kernel_rfl) (by rw [hX]; exact D.out.1) (fun hHeld => ?_)
  rw [hX] at hHeld ⊢
  clear hX
  refine wpAnyH_take (i := 0) (oi := q31_5_0) (v := ?_) rfl (by kernel_rfl) (by kernel_rfl) (by kernel_rfl) (fun _ _ _ h => h) (Or.inl ⟨by rfl, ?_⟩) hHeld ?_
  rotate_left
  · intro W_ hSw_
    have xt := ld_tree hSw_; have xd := ld_done hSw_; clear hSw_
    first | (go_simp; done) | (go_simp; with_reducible rfl)
  rotate_left
  refine wpAnyH_take (i := 1) (oi := q31_5_1) (v := ?_) rfl (by kernel_rfl) (by kernel_rfl) (by kernel_rfl) (fun _ _ _ h => h) (Or.inl ⟨by rfl, ?_⟩) hHeld ?_
  rotate_left
  · intro W_ hSw_
    have xt := ld_tree hSw_; have xd := ld_done hSw_; clear hSw_
    first | (go_simp; done) | (go_simp; with_reducible rfl)
  rotate_left
  refine wpAnyH_take (i := 2) (oi := q31_5_2) (v := ?_) rfl (by kernel_rfl) (by kernel_rfl) (by kernel_rfl) (fun _ _ _ h => h) (Or.inl ⟨by rfl, ?_⟩) hHeld ?_
  rotate_left
  · intro W_ hSw_
    have xt := ld_tree hSw_; have xd := ld_done hSw_; clear hSw_
    first | (go_simp; done) | (go_simp; with_reducible rfl)
  rotate_left
  refine wpAnyH_take (i := 3) (oi := q31_5_3) (v := ?_) rfl (by kernel_rfl) (by kernel_rfl) (by kernel_rfl) (fun _ _ _ h => h) (Or.inl ⟨by rfl, ?_⟩) hHeld ?_
  rotate_left
  · intro W_ hSw_
    have xt := ld_tree hSw_; have xd := ld_done hSw_; clear hSw_
    first | (go_simp; done) | (go_simp; with_reducible rfl)
  rotate_left
  refine wpAnyH_take (i := 4) (oi := q31_5_4) (v := ?_) rfl (by kernel_rfl) (by kernel_rfl) (by kernel_rfl) (fun _ _ _ h => h) (Or.inl ⟨by rfl, ?_⟩) hHeld ?_
  rotate_left
  · intro W_ hSw_
    have xt := ld_tree hSw_; have xd := ld_done hSw_; clear hSw_
    first | (go_simp; done) | (go_simp; with_reducible rfl)
  rotate_left
  refine wpAnyH_take (i := 5) (oi := q31_5_5) (v := ?_) rfl (by kernel_rfl) (by kernel_rfl) (by kernel_rfl) (fun _ _ _ h => h) (Or.inl ⟨by rfl, ?_⟩) hHeld ?_
  rotate_left
  · intro W_ hSw_
    have xt := ld_tree hSw_; have xd := ld_done hSw_; clear hSw_
    first | (go_simp; done) | (go_simp; with_reducible rfl)
  rotate_left
  refine wpAnyH_take (i := 6) (oi := q31_5_6) (v := ?_) rfl (by kernel_rfl) (by kernel_rfl) (by kernel_rfl) (fun _ _ _ h => h) (Or.inl ⟨by rfl, ?_⟩) hHeld ?_
  rotate_left
  · intro W_ hSw_
    have xt := ld_tree hSw_; have xd := ld_done hSw_; clear hSw_
    first | (go_simp; done) | (go_simp; with_reducible rfl)
  rotate_left
  refine wpAnyH_take (i := 7) (oi := q31_5_7) (v := ?_) rfl (by kernel_rfl) (by kernel_rfl) (by kernel_rfl) (fun _ _ _ h => h) (Or.inl ⟨by rfl, ?_⟩) hHeld ?_
  rotate_left
  · intro W_ hSw_
    have xt := ld_tree hSw_; have xd := ld_done hSw_; clear hSw_
    first | (go_simp; done) | (go_simp; with_reducible rfl)
  rotate_left
  try simp only [Act.put, List.setIfInBounds_toArray, List.set_cons_zero, List.set_cons_succ]
  refine wpAnyH_ready (rs := [8]) (by kernel_rfl) (by simp) ?_
  refine AllReadyH.cons (o := q31_5_8) rfl (fun K hK => ?_) AllReadyH.nil
  go_simp
  clear hHeld
  refine hK.out _ _ D.out.2.1 (fun hHeld => ?_)
  clear hK K
  try simp only [Act.put, List.setIfInBounds_toArray, List.set_cons_zero, List.set_cons_succ]
  refine wpAnyH_ready (rs := [9]) (by kernel_rfl) (by simp) ?_
  refine AllReadyH.cons (o := q31_5_9) rfl (fun K hK => ?_) AllReadyH.nil
  go_simp
  clear hHeld
  refine hK.out _ _ D.out.2.2 (fun hHeld => ?_)
  clear hK K
  try simp only [Act.put, List.setIfInBounds_toArray, List.set_cons_zero, List.set_cons_succ]
  refine wpAnyH_done (by kernel_rfl) ?_ _
  refine NoPanic.normal ?_
  clear hHeld
  clear sU sZ D
  go_wp2
  refine bodyPost_ret (results_td rtD Tryz.results31 _ _ _ _ _ _ _ _ rfl rfl F.out.1 F.out.2.1) rfl ?_
  exact ⟨a1, c1, vo, v', rfl, F.out.2.2⟩
end S17
end
section
namespace S17
open Go.RowKit
open S14 (gtP gtP_at set_self)
section
variable {w W V X : World} {h h' : Hd} {a a' : Option Addr} {n c c' : Nat} {l l' : List Pt} {vo vf vo' vf' : Value} {os os' : List Ot} {fs fs' : List Int}
theorem two_one {vo vf : Value} (h1 : vo.oneCell' = true) (h2 : vf.oneCell' = true) : ∀ v ∈ (#[vo, vf] : Array Value).toList, v.oneCell' = true := by
  intro x hx
  simp only [List.mem_cons, List.not_mem_nil, or_false] at hx
  rcases hx with rfl | rfl
  · exact h1
  · exact h2
end
theorem nilO (W : World) : isO W (.slice none 0 0) [] := ⟨none, 0, 0, rfl, S16.SlAt.none' W⟩
theorem nilI (W : World) : isI W (.slice none 0 0) [] := ⟨none, 0, 0, rfl, S16.SlAt.none' W⟩
attribute [local go_sem ↓] ldT stT ldEn stEn
end S17
end
section
namespace S17
open Go.RowKit
open S14 (gtP gtP_at set_self)

theorem ldO (x : Value) : Instr.loadAt 91 x = ldS 91 x := rfl
attribute [local go_sem ↓] ldO
structure DnAt (W : World) (v : Value) (os : List Ot) (fs : List Int) : Prop where
  out : ∃ vo vf, v = .agg #[vo, vf] ∧ isO W vo os ∧ isI W vf fs
theorem isO.len {W : World} {v : Value} {os : List Ot} (h : isO W v os) : ∃ a c, v = .slice a os.length c ∧ S16.SlAt eO W a os.length c os := by
  obtain ⟨a, n, c, rfl, s⟩ := h
  have e := s.len
  subst e
  exact ⟨a, c, rfl, s⟩
attribute [local go_sem ↓] ldDn ldEn
end S17
end
section
namespace S17
open Go.RowKit
open S14 (gtP gtP_at set_self)
attribute [local go_sem ↓] ldT stT ldEn stEn ldDn stDn
/-! ### a bridge -/
theorem b_ld {W : World} {B : Nat} {h : Hd} {x : Value} (r : RvAt W B 94 (trc h x)) : (ldS 39 (.pointer (some ⟨B, 0, none⟩))).run Tryz.prog W = .ok (.agg (trc h x)) W :=
  run_loadAt_mid W B 0 39 (trc h x).toList _ (fun j v hv => by
    rw [Nat.zero_add]
    exact r.cell j v (by simpa using hv)) Tryz.underlying39 rfl (by rw [Array.length_toList, trc_size]; exact infoT)
theorem b_16 {W : World} {B : Nat} {h : Hd} {x : Value} (r : RvAt W B 94 (trc h x)) : W.cell? ⟨B, 16, none⟩ = some x := r.cell 16 _ (trc_16 h x)
theorem b_st {W : World} {B : Nat} {h g : Hd} {x y : Value} (r : RvAt W B 94 (trc h x)) (hy : y.oneCell' = true) : ∃ V, (stS 39 (.pointer (some ⟨B, 0, none⟩)) (.agg (trc g y))).run Tryz.prog W = .ok () V ∧ RvAt V B 94 (trc g y) ∧ W.grownBy V (some B) := by
  have hs := store_cells (ty := 39) (o := 0) (cs := trc g y) r (by rw [trc_size]; exact infoT) (by rw [trc_size, trc_size]; omega) (trc_one hy)
  have e : ((trc h x).toList.take 0 ++ (trc g y).toList ++ (trc h x).toList.drop (0 + (trc g y).size)).toArray = trc g y := by
    rw [List.drop_eq_nil_of_le (by rw [Array.length_toList, trc_size, trc_size]; omega)]
    simp
  rw [e] at hs
  exact ⟨_, hs, r.set, grown_row _ _ _⟩
structure BrAt (W : World) (B : Nat) (h : Hd) (a : Option Addr) (n c : Nat) (l : List Pt) : Prop where
  var : RvAt W B 94 (trc h (.slice a n c))
  sl : SlAt W a n c l
theorem BrAt.below {W V : World} {B n c : Nat} {h : Hd} {a : Option Addr} {l : List Pt} (s : BrAt W B h a n c l) (k : Below W.heap.size W V) : BrAt V B h a n c l := ⟨s.var.below k, s.sl.below k⟩
theorem BrAt.kept {W V : World} {B n c b : Nat} {h : Hd} {a : Option Addr} {l : List Pt} {t : TypeId} {cs : Array Value} (s : BrAt W B h a n c l) (r : RvAt W b t cs) (h1 : t ≠ 94) (h2 : cs.size ≤ 76) (g : W.grownBy V (some b)) : BrAt V B h a n c l :=
  ⟨s.var.keptBut g (by have := ne_type s.var r (Ne.symm h1); simpa using this), s.sl.keptZ r h2 g⟩
theorem BrAt.other {W V : World} {B B' n c : Nat} {h : Hd} {a : Option Addr} {l : List Pt} {h' : Hd} {x : Value} (s : BrAt W B h a n c l) (r : RvAt W B' 94 (trc h' x)) (ne : B ≠ B') (g : W.grownBy V (some B')) : BrAt V B h a n c l :=
  ⟨s.var.keptBut g (by simpa using ne), s.sl.keptZ r (by rw [trc_size]; omega) g⟩
theorem lead_td (w : World) (h : Hd) (x : Value) : ∃ W, ((w.alloc (.cells (trc h x) 39)).alloc (.cells #[.slice none 0 0, .slice none 0 0] 52)).alloc (.cells #[.slice none 0 0, .slice none 0 0] 52) = W ∧ RvAt W w.heap.size 39 (trc h x) ∧ RvAt W (w.heap.size + 1) 52 #[.slice none 0 0, .slice none 0 0] ∧ RvAt W (w.heap.size + 2) 52 #[.slice none 0 0, .slice none 0 0] ∧ Below w.heap.size w W ∧ W.heap.size = w.heap.size + 3 := by
  refine ⟨_, rfl, ?_⟩
  obtain ⟨A, hA⟩ : ∃ A, w.alloc (.cells (trc h x) 39) = A := ⟨_, rfl⟩
  have rA : RvAt A w.heap.size 39 (trc h x) := by rw [← hA]; exact RvAt.new _ _ _
  have bA : Below w.heap.size w A := by rw [← hA]; exact (Below.refl _ _).alloc (Nat.le_refl _) _
  have zA : A.heap.size = w.heap.size + 1 := by rw [← hA]; simp
  rw [hA]
  obtain ⟨B, hB⟩ : ∃ B, A.alloc (.cells #[.slice none 0 0, .slice none 0 0] 52) = B := ⟨_, rfl⟩
  have rB : RvAt B (w.heap.size + 1) 52 #[.slice none 0 0, .slice none 0 0] := by rw [← hB, ← zA]; exact RvAt.new _ _ _
  have bB : Below A.heap.size A B := by rw [← hB]; exact (Below.refl _ _).alloc (Nat.le_refl _) _
  have zB : B.heap.size = w.heap.size + 2 := by rw [← hB]; simp [zA]
  rw [hB]
  have b : Below B.heap.size B (B.alloc (.cells #[.slice none 0 0, .slice none 0 0] 52)) := (Below.refl _ _).alloc (Nat.le_refl _) _
  refine ⟨(rA.below bB).below b, rB.below b, ?_, below_over (below_over bA bB) b, by simp [zB]⟩
  have := RvAt.new B 52 #[.slice none 0 0, .slice none 0 0]
  rw [zB] at this
  exact this
theorem own_isO {W : World} {B : Nat} {v : Value} {l : List Ot} (o : S16.Own eO W B v l) : isO W v l := by
  obtain ⟨a, c, e, s, _⟩ := o.form
  exact ⟨a, _, c, e, s⟩
theorem own_isI {W : World} {B : Nat} {v : Value} {l : List Int} (o : S16.Own eI W B v l) : isI W v l := by
  obtain ⟨a, c, e, s, _⟩ := o.form
  exact ⟨a, _, c, e, s⟩
set_option maxHeartbeats 4000000 in
theorem lead_any {W : World} {B n c : Nat} {h0 : Hd} {x0 : Value} (h : Hd) (a : Option Addr) (l : List Pt) (rb : RvAt W B 94 (trc h0 x0)) (hs : SlAt W a n c l) (hn : n ≤ 100) :
    Calls Tryz.prog 40 #[.pointer (some ⟨B, 0, none⟩), .agg (trc h (.slice a n c))] W fun r V => ∃ v a' c', r = .returned v ∧ BrAt V B (runT h l).h a' n c' (runT h l).s.l ∧ DnAt V v (runT h l).s.o (noted (runT h l).s.f) ∧ W.grownBy V (some B) := by
  obtain ⟨A, hA, r0, r1, r2, bA, zA⟩ := lead_td W h (.slice a n c)
  have l0 := r0.tld
  have P : Hid _ := run_any h a n c l A (hs.below bA) hn
  have H : Hid (RvAt A (W.heap.size + 1) 52 #[.slice none 0 0, .slice none 0 0] ∧ RvAt A (W.heap.size + 2) 52 #[.slice none 0 0, .slice none 0 0] ∧ RvAt A B 94 (trc h0 x0) ∧ Below W.heap.size W A ∧ B < W.heap.size) := ⟨r1, r2, rb.below bA, bA, rb.lt⟩
  obtain ⟨T, hT⟩ : ∃ z, runT h l = z := ⟨_, rfl⟩
  rw [hT] at P ⊢
  clear hT hs rb r0 r1 r2 bA zA
  go_enter Tryz.func40, Tryz.ntmps40
  go_wp2_with fail
  refine Calls.mono P.out ?_
  rintro _ X ⟨a1, c1, vo, vf, rfl, s1, n1, o1, f1, b1⟩
  have rX := H.out.2.2.1.below b1
  obtain ⟨V, eV, rV, gV⟩ := b_st (g := T.h) (y := .slice a1 n c1) rX rfl
  have hB := H.out.2.2.2.2
  have d1 := (H.out.1.below b1).keptBut gV (by simp; omega)
  have d2 := (H.out.2.1.below b1).keptBut gV (by simp; omega)
  have sV := s1.keptZ rX (by rw [trc_size]; omega) gV
  have oV := (own_isO o1).row rX (by decide) gV
  have fV := (own_isI f1).row rX (by decide) gV
  have sU := d2.st (ds := #[vo, vf]) rtD rfl rfl (two_one oV.one fV.one)
  have gU := grown_row V (W.heap.size + 2) #[vo, vf]
  obtain ⟨U, hU⟩ : ∃ U, V.setRow (W.heap.size + 2) #[vo, vf] = U := ⟨_, rfl⟩
  rw [hU] at sU gU
  have dU : RvAt U (W.heap.size + 2) 52 #[vo, vf] := by rw [← hU]; exact d2.set
  have lU := dU.ld rtD rfl
  have e1 := d1.keptBut gU (by simp)
  have sZ := e1.st (ds := #[vo, vf]) rtD rfl rfl (two_one oV.one fV.one)
  have gZ := grown_row U (W.heap.size + 1) #[vo, vf]
  obtain ⟨Z, hZ⟩ : ∃ Z, U.setRow (W.heap.size + 1) #[vo, vf] = Z := ⟨_, rfl⟩
  rw [hZ] at sZ gZ
  have F : Hid (RvAt Z (W.heap.size + 1) 52 #[vo, vf] ∧ BrAt Z B T.h a1 n c1 T.s.l ∧ isO Z vo T.s.o ∧ isI Z vf (noted T.s.f) ∧ W.grownBy Z (some B)) := by
    have b2 : BrAt U B T.h a1 n c1 T.s.l := BrAt.kept ⟨rV, sV⟩ d2 (by decide) (by simp) gU
    refine ⟨by rw [← hZ]; exact e1.set, b2.kept e1 (by decide) (by simp) gZ, (oV.row d2 (by decide) gU).row e1 (by decide) gZ, (fV.row d2 (by decide) gU).row e1 (by decide) gZ, ?_⟩
    have k1 : W.grownBy V (some B) := grown_self (grown_of_below (below_over H.out.2.2.2.1 b1) _) gV
    refine ⟨gZ.os.trans (gU.os.trans k1.os), gZ.tape.trans (gU.tape.trans k1.tape), gZ.output.trans (gU.output.trans k1.output), Nat.le_trans k1.size (Nat.le_trans gU.size gZ.size), fun i hi hne => ?_⟩
    rw [gZ.block i (Nat.lt_of_lt_of_le hi (Nat.le_trans k1.size gU.size)) (by simp; omega), gU.block i (Nat.lt_of_lt_of_le hi k1.size) (by simp; omega), k1.block i hi hne]
  clear l0 P s1 n1 o1 f1 b1 rX rV gV d1 d2 sV oV fV gU hU dU e1 gZ hZ hB
  go_wp2
  refine bodyPost_ret (results_row rtD Tryz.results40 _ _ _ _ rfl F.out.1 rfl) rfl ?_
  exact ⟨.agg #[vo, vf], a1, c1, rfl, F.out.2.1, ⟨vo, vf, rfl, F.out.2.2.1, F.out.2.2.2.1⟩, F.out.2.2.2.2⟩
end S17
end
section
namespace S17
open Go.RowKit
open S14 (gtP gtP_at set_self)

abbrev BRes (W : World) (B n : Nat) (E : Ev) (r : Ending) (V : World) : Prop := ∃ v a' c', r = .returned (.tuple #[v, .int .i64 E.e]) ∧ BrAt V B E.h a' n c' E.l ∧ DnAt V v E.o E.f ∧ W.grownBy V (some B)
attribute [local go_sem ↓] ldT stT ldDn stDn
set_option maxHeartbeats 1000000 in
theorem made_any {W : World} {B n c : Nat} {h : Hd} {a : Option Addr} {l : List Pt} (s : BrAt W B h a n c l) :
    Calls Tryz.prog 45 #[.pointer (some ⟨B, 0, none⟩)] W fun r V => r = .returned (.bool (decide (0 < n))) ∧ V = W := by
  have c16 := b_16 s.var
  clear s
  by_cases h0 : 0 < n
  · have e : decide (0 < n) = true := by simp [h0]
    have h1 : (0 : Int) < (n : Int) := by omega
    rw [e]
    clear e
    go_enter Tryz.func45, Tryz.ntmps45
    go_wp2
    go_ret
    exact ⟨by simp [h1, h0], rfl⟩
  · have e : n = 0 := by omega
    subst e
    go_enter Tryz.func45, Tryz.ntmps45
    go_wp2
    go_ret
    exact ⟨by simp, rfl⟩
set_option maxHeartbeats 2000000 in
theorem there_any {W : World} {B n c : Nat} {h : Hd} {a : Option Addr} {l : List Pt} (s : BrAt W B h a n c l) (i : Int) (h0 : 0 < n) (hn : n ≤ 1000) :
    Calls Tryz.prog 65 #[.pointer (some ⟨B, 0, none⟩), .int .i64 i] W fun r V => r = .returned (.bool (decide (0 ≤ i) && decide (i < n))) ∧ V = W := by
  have c16 := b_16 s.var
  have P : Hid _ := made_any s
  rw [show decide (0 < n) = true by simp [h0]] at P
  clear s
  by_cases h1 : 0 ≤ i
  · by_cases h2 : i < (n : Int)
    · go_enter Tryz.func65, Tryz.ntmps65
      go_wp2_with fail
      refine Calls.mono P.out ?_
      rintro _ V ⟨rfl, rfl⟩
      go_wp2
      go_ret
      exact ⟨by simp [h1, h2], rfl⟩
    · go_enter Tryz.func65, Tryz.ntmps65
      go_wp2_with fail
      refine Calls.mono P.out ?_
      rintro _ V ⟨rfl, rfl⟩
      go_wp2
      go_ret
      exact ⟨by simp [h1, h2], rfl⟩
  · go_enter Tryz.func65, Tryz.ntmps65
    go_wp2_with fail
    refine Calls.mono P.out ?_
    rintro _ V ⟨rfl, rfl⟩
    go_wp2
    go_ret
    exact ⟨by have h1 : ¬ 0 ≤ i := by omega
              simp [h1], rfl⟩
def lackN (n : Nat) (i : Int) : Int := if 0 ≤ i ∧ i < (n : Int) then 0 else 5
set_option maxHeartbeats 2000000 in
theorem lacks_any {W : World} {B n c : Nat} {h : Hd} {a : Option Addr} {l : List Pt} (s : BrAt W B h a n c l) (i : Int) (h0 : 0 < n) (hn : n ≤ 1000) :
    Calls Tryz.prog 42 #[.pointer (some ⟨B, 0, none⟩), .int .i64 i] W fun r V => r = .returned (.int .i64 (lackN n i)) ∧ V = W := by
  have P : Hid _ := made_any s
  rw [show decide (0 < n) = true by simp [h0]] at P
  have Q : Hid _ := there_any s i h0 hn
  clear s
  by_cases hi : 0 ≤ i ∧ i < (n : Int)
  · have e : (decide (0 ≤ i) && decide (i < (n : Int))) = true := by simp [hi.1, hi.2]
    have e2 : lackN n i = 0 := if_pos hi
    rw [e] at Q
    rw [e2]
    clear e e2 hi
    go_enter Tryz.func42, Tryz.ntmps42
    go_wp2_with fail
    refine Calls.mono P.out ?_
    rintro _ V ⟨rfl, rfl⟩
    go_wp2_with fail
    refine Calls.mono Q.out ?_
    rintro _ V ⟨rfl, rfl⟩
    go_wp2
    go_ret
    exact ⟨rfl, rfl⟩
  · have e : (decide (0 ≤ i) && decide (i < (n : Int))) = false := by
      rcases Classical.em (0 ≤ i) with q | q
      · have : ¬ i < (n : Int) := fun z => hi ⟨q, z⟩
        simp [this]
      · simp [q]
    have e2 : lackN n i = 5 := if_neg hi
    rw [e] at Q
    rw [e2]
    clear e e2 hi
    go_enter Tryz.func42, Tryz.ntmps42
    go_wp2_with fail
    refine Calls.mono P.out ?_
    rintro _ V ⟨rfl, rfl⟩
    go_wp2_with fail
    refine Calls.mono Q.out ?_
    rintro _ V ⟨rfl, rfl⟩
    go_wp2
    go_ret
    exact ⟨rfl, rfl⟩
theorem one_dn (w : World) : ∃ W, w.alloc (.cells #[.slice none 0 0, .slice none 0 0] 52) = W ∧ RvAt W w.heap.size 52 #[.slice none 0 0, .slice none 0 0] ∧ Below w.heap.size w W := ⟨_, rfl, RvAt.new _ _ _, (Below.refl _ _).alloc (Nat.le_refl _) _⟩
theorem dn_nil (W : World) : DnAt W (.agg #[.slice none 0 0, .slice none 0 0]) [] [] := ⟨_, _, rfl, nilO W, nilI W⟩
theorem none_end {w W : World} {B n c : Nat} {h : Hd} {a : Option Addr} {l : List Pt} (s : BrAt W B h a n c l) (b : Below w.heap.size w W) (r : RvAt W w.heap.size 52 #[.slice none 0 0, .slice none 0 0]) (hB : B ≠ w.heap.size) :
    ∃ V, (stS 52 (.pointer (some ⟨w.heap.size, 0, none⟩)) (.agg #[.slice none 0 0, .slice none 0 0])).run Tryz.prog W = .ok () V ∧ RvAt V w.heap.size 52 #[.slice none 0 0, .slice none 0 0] ∧ BrAt V B h a n c l ∧ w.grownBy V (some B) := by
  have e := r.st (ds := #[.slice none 0 0, .slice none 0 0]) rtD rfl rfl (two_one rfl rfl)
  have g := grown_row W w.heap.size #[.slice none 0 0, .slice none 0 0]
  refine ⟨_, e, r.set, s.kept r (by decide) (by simp) g, ?_⟩
  have k := gro b g (Nat.le_refl _) b.size
  exact grown_of_below k _
theorem some_end {w W X : World} {B n c : Nat} {h : Hd} {a : Option Addr} {l : List Pt} {v : Value} {os : List Ot} {fs : List Int} (s : BrAt X B h a n c l) (b : Below w.heap.size w W) (g : W.grownBy X (some B)) (r : RvAt X w.heap.size 52 #[.slice none 0 0, .slice none 0 0]) (hB : B < w.heap.size) (d : DnAt X v os fs) :
    ∃ V vo vf, v = .agg #[vo, vf] ∧ (stS 52 (.pointer (some ⟨w.heap.size, 0, none⟩)) v).run Tryz.prog X = .ok () V ∧ RvAt V w.heap.size 52 #[vo, vf] ∧ BrAt V B h a n c l ∧ DnAt V v os fs ∧ w.grownBy V (some B) := by
  obtain ⟨vo, vf, rfl, o1, f1⟩ := d.out
  have e := r.st (ds := #[vo, vf]) rtD rfl rfl (two_one o1.one f1.one)
  have k := grown_row X w.heap.size #[vo, vf]
  refine ⟨_, vo, vf, rfl, e, r.set, s.kept r (by decide) (by simp) k, ⟨vo, vf, rfl, o1.row r (by decide) k, f1.row r (by decide) k⟩, ?_⟩
  have q : w.grownBy X (some B) := grown_self (grown_of_below b _) g
  refine ⟨k.os.trans q.os, k.tape.trans q.tape, k.output.trans q.output, Nat.le_trans q.size k.size, fun i hi hne => ?_⟩
  rw [k.block i (Nat.lt_of_lt_of_le hi q.size) (by simp; omega), q.block i hi hne]
theorem lack_in {n : Nat} {i : Int} (h : 0 ≤ i ∧ i < (n : Int)) : lackN n i = 0 := if_pos h
theorem lack_out {n : Nat} {i : Int} (h : ¬ (0 ≤ i ∧ i < (n : Int))) : lackN n i = 5 := if_neg h
set_option maxHeartbeats 4000000 in
theorem up_any {w : World} {B n c : Nat} {h : Hd} {a : Option Addr} {l : List Pt} (s : BrAt w B h a n c l) (i : Int) (on : Bool) (h0 : 0 < n) (hn : n ≤ 100) :
    Calls Tryz.prog 12 #[.pointer (some ⟨B, 0, none⟩), .int .i64 i, .bool on] w fun r V => BRes w B n (evUp h l i on) r V := by
  have hlen := s.sl.len
  obtain ⟨W, hW, rW, bW⟩ := one_dn w
  have S : Hid (BrAt W B h a n c l ∧ RvAt W w.heap.size 52 #[.slice none 0 0, .slice none 0 0] ∧ Below w.heap.size w W ∧ B < w.heap.size) := ⟨s.below bW, rW, bW, s.var.lt⟩
  have P : Hid _ := lacks_any (s.below bW) i h0 (by omega)
  clear s rW bW
  by_cases hi : 0 ≤ i ∧ i < (n : Int)
  rotate_left
  · rw [lack_out hi] at P
    have E : Hid (evUp h l i on = Ev.no h l 5) := evUp_out (fun q => hi ⟨q.1, by have := q.2; omega⟩)
    rw [E.out]
    obtain ⟨V, eV, rV, sV, gV⟩ := none_end S.out.1 S.out.2.2.1 S.out.2.1 (by have := S.out.2.2.2; omega)
    have F : Hid (RvAt V w.heap.size 52 #[.slice none 0 0, .slice none 0 0] ∧ BrAt V B h a n c l ∧ w.grownBy V (some B)) := ⟨rV, sV, gV⟩
    clear rV sV gV hi E
    go_enter Tryz.func12, Tryz.ntmps12
    go_wp2_with fail
    refine Calls.mono P.out ?_
    rintro _ V' ⟨rfl, rfl⟩
    go_wp2
    refine bodyPost_ret (results_rowtmp rtD Tryz.results12 _ _ _ _ rfl F.out.1 rfl) rfl ?_
    exact ⟨_, a, c, rfl, F.out.2.1, dn_nil _, F.out.2.2⟩
  rw [lack_in hi] at P
  obtain ⟨k, rfl⟩ : ∃ k : Nat, i = (k : Int) := ⟨i.toNat, by omega⟩
  have hkl : k < l.length := by omega
  have hi0 := hi.1
  have hi1 := hi.2
  clear hi
  obtain ⟨pb, po, rfl⟩ := S.out.1.sl.some' h0
  have c16 := b_16 S.out.1.var
  have c2 := S.out.1.sl.cell (gtP_at hkl) ((gtP l k).bit (j := 2) rfl) (by omega)
  obtain ⟨bb, hbb⟩ : ∃ z, (gtP l k).bt 2 = z := ⟨_, rfl⟩
  rw [hbb] at c2
  by_cases he : bb = on
  · have E : Hid (evUp h l (k : Int) on = Ev.no h l 0) := evUp_same hkl (by rw [hbb]; exact he)
    rw [E.out]
    obtain ⟨V, eV, rV, sV, gV⟩ := none_end S.out.1 S.out.2.2.1 S.out.2.1 (by have := S.out.2.2.2; omega)
    have F : Hid (RvAt V w.heap.size 52 #[.slice none 0 0, .slice none 0 0] ∧ BrAt V B h (some ⟨pb, po, none⟩) n c l ∧ w.grownBy V (some B)) := ⟨rV, sV, gV⟩
    clear rV sV gV E hbb
    subst he
    go_enter Tryz.func12, Tryz.ntmps12
    go_wp2_with fail
    refine Calls.mono P.out ?_
    rintro _ V' ⟨rfl, rfl⟩
    go_wp2
    refine bodyPost_ret (results_rowtmp rtD Tryz.results12 _ _ _ _ rfl F.out.1 rfl) rfl ?_
    exact ⟨_, _, c, rfl, F.out.2.1, dn_nil _, F.out.2.2⟩
  · have E : Hid (evUp h l (k : Int) on = Ev.of (runT h (S9.upL l (k : Int) on))) := evUp_go hkl (by rw [hbb]; exact he)
    rw [E.out]
    obtain ⟨ll, hll⟩ : ∃ z, S9.upL l (k : Int) on = z := ⟨_, rfl⟩
    have HLL : Hid (S9.upL l (k : Int) on = ll ∧ ll.length = n) := ⟨hll, by rw [← hll, ← hlen]; exact upL_len l (k : Int) on⟩
    rw [hll]
    have hx : (bb == on) = false := by simpa using he
    clear hll
    have lt := b_ld S.out.1.var
    clear E hbb he
    go_enter Tryz.func12, Tryz.ntmps12
    go_wp2_with fail
    refine Calls.mono P.out ?_
    rintro _ V' ⟨rfl, rfl⟩
    go_wp2_with fail
    refine (S9.up_any h (some ⟨pb, po, none⟩) n c l (k : Int) on V' S.out.1.sl (by omega)).mono ?_
    rintro _ X ⟨v, rfl, oX, bX⟩
    rw [HLL.out.1] at oX
    obtain ⟨a1, c1, hv, s1, _⟩ := oX.form
    rw [HLL.out.2] at hv s1
    subst hv
    have G : Hid (SlAt X a1 n c1 ll ∧ RvAt X B 94 (trc h (.slice (some ⟨pb, po, none⟩) n c)) ∧ RvAt X w.heap.size 52 #[.slice none 0 0, .slice none 0 0] ∧ Below w.heap.size w X ∧ B < w.heap.size) := ⟨s1, S.out.1.var.below bX, S.out.2.1.below bX, below_over S.out.2.2.1 bX, S.out.2.2.2⟩
    clear oX bX s1 S P c16 c2 lt
    go_wp2_with fail
    refine (lead_any h a1 ll G.out.2.1 G.out.1 hn).mono ?_
    rintro _ Y ⟨v, a2, c2, rfl, bY, dY, gY⟩
    obtain ⟨V, vo, vf, rfl, eV, rV, sV, dV, gV⟩ := some_end bY G.out.2.2.2.1 gY (G.out.2.2.1.keptBut gY (by have := G.out.2.2.2.2; simp; omega)) G.out.2.2.2.2 dY
    have F : Hid (RvAt V w.heap.size 52 #[vo, vf] ∧ BrAt V B (runT h ll).h a2 n c2 (runT h ll).s.l ∧ DnAt V (.agg #[vo, vf]) (runT h ll).s.o (noted (runT h ll).s.f) ∧ w.grownBy V (some B)) := ⟨rV, sV, dV, gV⟩
    clear bY dY gY rV sV dV gV G
    go_wp2
    refine bodyPost_ret (results_rowtmp rtD Tryz.results12 _ _ _ _ rfl F.out.1 rfl) rfl ?_
    exact ⟨_, a2, c2, rfl, F.out.2.1, F.out.2.2.1, F.out.2.2.2⟩
end S17
end
section
namespace S17
open Go.RowKit
open S14 (gtP gtP_at set_self)
abbrev q14_8_0 : Oper := { dst := some 22, op := Op.move (Operand.tmp 0), type := 29, pos := "rstp.go:79", after := #[], guard := none }
abbrev q14_8_1 : Oper := { dst := some 23, op := Op.move (Operand.tmp 0), type := 29, pos := "rstp.go:79", after := #[], guard := none }
abbrev q14_8_2 : Oper := { dst := some 24, op := Op.nilCheck (Operand.tmp 23), type := 0, pos := "rstp.go:79", after := #[{ on := 1, ground := Ground.data }], guard := none }
abbrev q14_8_3 : Oper := { dst := some 25, op := Op.fieldAddr 94 (Operand.tmp 24) 0, type := 0, pos := "rstp.go:79", after := #[{ on := 2, ground := Ground.data }], guard := none }
abbrev q14_8_4 : Oper := { dst := some 26, op := Op.load 39 (Operand.tmp 25), type := 39, pos := "rstp.go:79", after := #[{ on := 3, ground := Ground.data }], guard := none }
abbrev q14_8_7 : Oper := { dst := some 29, op := Op.call { callee := Callee.value (Operand.func 44), args := #[Operand.tmp 26, Operand.tmp 27, Operand.tmp 28], argTypes := #[39, 3, 46] }, type := 39, pos := "rstp.go:79", after := #[{ on := 4, ground := Ground.data }, { on := 5, ground := Ground.data }, { on := 6, ground := Ground.data }], guard := none }
abbrev q14_8_5 : Oper := { dst := some 27, op := Op.move (Operand.tmp 1), type := 3, pos := "rstp.go:79", after := #[], guard := none }
abbrev q14_8_6 : Oper := { dst := some 28, op := Op.load 46 (Operand.tmp 5), type := 46, pos := "rstp.go:79", after := #[], guard := none }
abbrev q14_8_8 : Oper := { dst := some 30, op := Op.call { callee := Callee.value (Operand.func 40), args := #[Operand.tmp 22, Operand.tmp 29], argTypes := #[29, 39] }, type := 52, pos := "rstp.go:79", after := #[{ on := 0, ground := Ground.data }, { on := 7, ground := Ground.data }, { on := 7, ground := Ground.chain }], guard := none }
abbrev q14_8_9 : Oper := { dst := none, op := Op.store 52 (Operand.tmp 6) (Operand.tmp 30), type := 0, pos := "rstp.go:79", after := #[{ on := 8, ground := Ground.data }, { on := 8, ground := Ground.chain }, { on := 0, ground := Ground.phase }, { on := 1, ground := Ground.phase }, { on := 2, ground := Ground.phase }, { on := 3, ground := Ground.phase }, { on := 4, ground := Ground.phase }, { on := 5, ground := Ground.phase }, { on := 6, ground := Ground.phase }, { on := 7, ground := Ground.phase }, { on := 8, ground := Ground.phase }], guard := none }
abbrev q14_8_10 : Oper := { dst := some 7, op := Op.assign (Operand.const (Value.int IntKind.i64 0)), type := 30, pos := "rstp.go:79", after := #[{ on := 9, ground := Ground.chain }, { on := 0, ground := Ground.phase }, { on := 1, ground := Ground.phase }, { on := 2, ground := Ground.phase }, { on := 3, ground := Ground.phase }, { on := 4, ground := Ground.phase }, { on := 5, ground := Ground.phase }, { on := 6, ground := Ground.phase }, { on := 7, ground := Ground.phase }, { on := 8, ground := Ground.phase }, { on := 9, ground := Ground.phase }], guard := none }

attribute [local go_sem ↓] ldT stT ldDn stDn
set_option maxHeartbeats 4000000 in
theorem tick_any {w : World} {B n c : Nat} {h : Hd} {a : Option Addr} {l : List Pt} (s : BrAt w B h a n c l) (h0 : 0 < n) (hn : n ≤ 100) :
    Calls Tryz.prog 16 #[.pointer (some ⟨B, 0, none⟩)] w fun r V => BRes w B n (evTick h l) r V := by
  have hlen := s.sl.len
  obtain ⟨W, hW, rW, bW⟩ := one_dn w
  have S : Hid (BrAt W B h a n c l ∧ RvAt W w.heap.size 52 #[.slice none 0 0, .slice none 0 0] ∧ Below w.heap.size w W ∧ B < w.heap.size) := ⟨s.below bW, rW, bW, s.var.lt⟩
  have P : Hid _ := made_any (s.below bW)
  rw [decide_eq_true h0] at P
  clear s rW bW
  have E : evTick h l = Ev.of (runT h (l.map S9.tickP)) := rfl
  rw [E]
  clear E
  obtain ⟨ll, hll⟩ : ∃ z, l.map S9.tickP = z := ⟨_, rfl⟩
  have HLL : Hid (l.map S9.tickP = ll ∧ ll.length = n) := ⟨hll, by rw [← hll, ← hlen]; simp⟩
  rw [hll]
  clear hll
  have lt := b_ld S.out.1.var
  go_enter Tryz.func16, Tryz.ntmps16
  go_wp2_with fail
  refine Calls.mono P.out ?_
  rintro _ V' ⟨rfl, rfl⟩
  go_wp2_with fail
  refine (S9.tick_any h a n c l V' S.out.1.sl (by omega)).mono ?_
  rintro _ X ⟨v, rfl, oX, bX⟩
  rw [HLL.out.1] at oX
  obtain ⟨a1, c1, hv, s1, _⟩ := oX.form
  rw [HLL.out.2] at hv s1
  subst hv
  have G : Hid (SlAt X a1 n c1 ll ∧ RvAt X B 94 (trc h (.slice a n c)) ∧ RvAt X w.heap.size 52 #[.slice none 0 0, .slice none 0 0] ∧ Below w.heap.size w X ∧ B < w.heap.size) := ⟨s1, S.out.1.var.below bX, S.out.2.1.below bX, below_over S.out.2.2.1 bX, S.out.2.2.2⟩
  clear oX bX s1 S P lt
  go_wp2_with fail
  refine (lead_any h a1 ll G.out.2.1 G.out.1 hn).mono ?_
  rintro _ Y ⟨v, a2, c2, rfl, bY, dY, gY⟩
  obtain ⟨V, vo, vf, rfl, eV, rV, sV, dV, gV⟩ := some_end bY G.out.2.2.2.1 gY (G.out.2.2.1.keptBut gY (by have := G.out.2.2.2.2; simp; omega)) G.out.2.2.2.2 dY
  have F : Hid (RvAt V w.heap.size 52 #[vo, vf] ∧ BrAt V B (runT h ll).h a2 n c2 (runT h ll).s.l ∧ DnAt V (.agg #[vo, vf]) (runT h ll).s.o (noted (runT h ll).s.f) ∧ w.grownBy V (some B)) := ⟨rV, sV, dV, gV⟩
  clear bY dY gY rV sV dV gV G
  go_wp2
  refine bodyPost_ret (results_rowtmp rtD Tryz.results16 _ _ _ _ rfl F.out.1 rfl) rfl ?_
  exact ⟨_, a2, c2, rfl, F.out.2.1, F.out.2.2.1, F.out.2.2.2⟩
theorem one_ms (w : World) (m : Mg) : ∃ A, w.alloc (.cells m.cs 46) = A ∧ RvAt A w.heap.size 46 m.cs ∧ Below w.heap.size w A ∧ A.heap.size = w.heap.size + 1 := ⟨_, rfl, RvAt.new _ _ _, (Below.refl _ _).alloc (Nat.le_refl _) _, by simp⟩
attribute [local go_sem ↓] ldM stM
set_option maxHeartbeats 8000000 in
theorem hear_any {w : World} {B n c : Nat} {h : Hd} {a : Option Addr} {l : List Pt} (s : BrAt w B h a n c l) (i : Int) (m : Mg) (h0 : 0 < n) (hn : n ≤ 100) :
    Calls Tryz.prog 14 #[.pointer (some ⟨B, 0, none⟩), .int .i64 i, .agg m.cs] w fun r V => BRes w B n (evHear h l i m) r V := by
  have hlen := s.sl.len
  obtain ⟨A, hA, mA, bA, zA⟩ := one_ms w m
  obtain ⟨W, hW, rW, bW⟩ := one_dn A
  have S : Hid (BrAt W B h a n c l ∧ RvAt W A.heap.size 52 #[.slice none 0 0, .slice none 0 0] ∧ Below A.heap.size A W ∧ B < A.heap.size ∧ Below w.heap.size w A) := ⟨(s.below bA).below bW, rW, bW, (s.below bA).var.lt, bA⟩
  have P : Hid _ := lacks_any ((s.below bA).below bW) i h0 (by omega)
  have mW := mA.below bW
  have c0 := mW.num (j := 0) (k := .i64) rfl
  have mW : Hid (RvAt W w.heap.size 46 m.cs) := mW
  obtain ⟨K, hK⟩ : ∃ z, m.nm 0 = z := ⟨_, rfl⟩
  rw [hK] at c0
  clear s rW bW mA bA zA
  by_cases hi : 0 ≤ i ∧ i < (n : Int)
  rotate_left
  · rw [lack_out hi] at P
    have E : Hid (evHear h l i m = Ev.no h l 5) := evHear_out (fun q => hi ⟨q.1, by have := q.2; omega⟩)
    rw [E.out]
    obtain ⟨V, eV, rV, sV, gV⟩ := none_end S.out.1 S.out.2.2.1 S.out.2.1 (by have := S.out.2.2.2.1; omega)
    have F : Hid (RvAt V A.heap.size 52 #[.slice none 0 0, .slice none 0 0] ∧ BrAt V B h a n c l ∧ w.grownBy V (some B)) := ⟨rV, sV, grown_self (grown_of_below S.out.2.2.2.2 _) gV⟩
    clear rV sV gV hi E
    go_enter Tryz.func14, Tryz.ntmps14
    go_wp2_with fail
    refine Calls.mono P.out ?_
    rintro _ V' ⟨rfl, rfl⟩
    go_wp2
    refine bodyPost_ret (results_rowtmp rtD Tryz.results14 _ _ _ _ rfl F.out.1 rfl) rfl ?_
    exact ⟨_, a, c, rfl, F.out.2.1, dn_nil _, F.out.2.2⟩
  rw [lack_in hi] at P
  have hin : Hid (inP l i) := ⟨hi.1, by have := hi.2; omega⟩
  clear hi
  by_cases hm : K = 1 ∨ K = 2 ∨ K = 3
  rotate_left
  · have E : Hid (evHear h l i m = Ev.no h l 170) := evHear_no hin.out (by rw [hK]; exact hm)
    rw [E.out]
    obtain ⟨V, eV, rV, sV, gV⟩ := none_end S.out.1 S.out.2.2.1 S.out.2.1 (by have := S.out.2.2.2.1; omega)
    have F : Hid (RvAt V A.heap.size 52 #[.slice none 0 0, .slice none 0 0] ∧ BrAt V B h a n c l ∧ w.grownBy V (some B)) := ⟨rV, sV, grown_self (grown_of_below S.out.2.2.2.2 _) gV⟩
    have k1 : (K == 1) = false := by simpa using fun e => hm (Or.inl e)
    have k2 : (K == 2) = false := by simpa using fun e => hm (Or.inr (Or.inl e))
    have k3 : (K == 3) = false := by simpa using fun e => hm (Or.inr (Or.inr e))
    clear rV sV gV E hm hin hK
    go_enter Tryz.func14, Tryz.ntmps14
    go_wp2_with fail
    refine Calls.mono P.out ?_
    rintro _ V' ⟨rfl, rfl⟩
    go_wp2
    refine bodyPost_ret (results_rowtmp rtD Tryz.results14 _ _ _ _ rfl F.out.1 rfl) rfl ?_
    exact ⟨_, a, c, rfl, F.out.2.1, dn_nil _, F.out.2.2⟩
  have E : Hid (evHear h l i m = Ev.of (runT h (S11.hearL l i m))) := evHear_go hin.out (by rw [hK]; exact hm)
  rw [E.out]
  obtain ⟨ll, hll⟩ : ∃ z, S11.hearL l i m = z := ⟨_, rfl⟩
  have HLL : Hid (S11.hearL l i m = ll) := hll
  rw [hll]
  have ft := fun q : Later W => b_ld (S.out.1.below q.below).var
  have fm := fun q : Later W => (mW.out.below q.below).mld
  clear hll E hin hK
  rcases hm with rfl | rfl | rfl
  all_goals
    go_enter Tryz.func14, Tryz.ntmps14
    go_wp2_with fail
    refine Calls.mono P.out ?_
    rintro _ V' ⟨rfl, rfl⟩
    go_wp2_with fail
    obtain ⟨Y0, hY0⟩ : ∃ Y0, World.drew V' = Y0 := ⟨_, rfl⟩
    have D0 : Hid (Below V'.heap.size V' Y0) := by rw [← hY0]; exact (Below.refl _ _).drew
    refine wp_region_noPanic ?_
    refine S9.AnyZ.start (z := 8) (S := fun w' => ∃ x : Later V', w' = x.val) (by kernel_rfl) ⟨⟨_, (Below.refl _ _).drew⟩, rfl⟩ (fun hHeld => ?_)
    rw [hY0] at hHeld ⊢
    clear hY0
    refine S9.AnyZ.take (i := 0) (oi := q14_8_0) (v := ?_) rfl (by kernel_rfl) (by kernel_rfl) (fun _ _ _ h => h) _ _ _ _ (by kernel_rfl) (by kernel_rfl) (by kernel_rfl) (Or.inl ⟨by rfl, ?_⟩) hHeld ?_
    rotate_left
    · intro W_ hSw_
      obtain ⟨q, rfl⟩ := hSw_
      first | (go_simp; done) | (go_simp; with_reducible rfl)
    rotate_left
    try simp only [Act.put, List.setIfInBounds_toArray, List.set_cons_zero, List.set_cons_succ]
    refine S9.AnyZ.takeT (i := 1) (oi := q14_8_1) (v := ?_) rfl (by kernel_rfl) (by decide) (fun _ _ _ h => h) _ _ _ _ (by kernel_rfl) (by kernel_rfl) (Or.inl ⟨by rfl, ?_⟩) (fun e => by first | exact hHeld | exact absurd e (by decide)) ?_
    rotate_left
    · intro W_ _
      first | (go_simp; done) | (go_simp; with_reducible rfl)
    rotate_left
    try simp only [Act.put, List.setIfInBounds_toArray, List.set_cons_zero, List.set_cons_succ]
    refine S9.AnyZ.takeT (i := 2) (oi := q14_8_2) (v := ?_) rfl (by kernel_rfl) (by decide) (fun _ _ _ h => h) _ _ _ _ (by kernel_rfl) (by kernel_rfl) (Or.inl ⟨by rfl, ?_⟩) (fun e => by first | exact hHeld | exact absurd e (by decide)) ?_
    rotate_left
    · intro W_ _
      first | (go_simp; done) | (go_simp; with_reducible rfl)
    rotate_left
    try simp only [Act.put, List.setIfInBounds_toArray, List.set_cons_zero, List.set_cons_succ]
    refine S9.AnyZ.takeT (i := 3) (oi := q14_8_3) (v := ?_) rfl (by kernel_rfl) (by decide) (fun _ _ _ h => h) _ _ _ _ (by kernel_rfl) (by kernel_rfl) (Or.inl ⟨by rfl, ?_⟩) (fun e => by first | exact hHeld | exact absurd e (by decide)) ?_
    rotate_left
    · intro W_ _
      first | (go_simp; done) | (go_simp; with_reducible rfl)
    rotate_left
    try simp only [Act.put, List.setIfInBounds_toArray, List.set_cons_zero, List.set_cons_succ]
    refine S9.AnyZ.take2 (i := 4) (m := 7) (oi := q14_8_4) (v := ?_) rfl (by kernel_rfl) (by kernel_rfl) (by kernel_rfl) (fun _ _ _ h => h) _ _ _ _ (by kernel_rfl) (by kernel_rfl) (by kernel_rfl) (by kernel_rfl) (Or.inl ⟨by rfl, ?_⟩) hHeld ?_
    rotate_left
    · intro W_ hSw_
      obtain ⟨q, rfl⟩ := hSw_
      first | (go_simp; done) | (go_simp; with_reducible rfl)
    rotate_left
    try simp only [Act.put, List.setIfInBounds_toArray, List.set_cons_zero, List.set_cons_succ]
    refine S9.AnyZ.takeT (i := 5) (oi := q14_8_5) (v := ?_) rfl (by kernel_rfl) (by decide) (fun _ _ _ h => h) _ _ _ _ (by kernel_rfl) (by kernel_rfl) (Or.inl ⟨by rfl, ?_⟩) (fun e => by first | exact hHeld | exact absurd e (by decide)) ?_
    rotate_left
    · intro W_ _
      first | (go_simp; done) | (go_simp; with_reducible rfl)
    rotate_left
    try simp only [Act.put, List.setIfInBounds_toArray, List.set_cons_zero, List.set_cons_succ]
    refine S9.AnyZ.take2 (i := 6) (m := 7) (oi := q14_8_6) (v := ?_) rfl (by kernel_rfl) (by kernel_rfl) (by kernel_rfl) (fun _ _ _ h => h) _ _ _ _ (by kernel_rfl) (by kernel_rfl) (by kernel_rfl) (by kernel_rfl) (Or.inl ⟨by rfl, ?_⟩) hHeld ?_
    rotate_left
    · intro W_ hSw_
      obtain ⟨q, rfl⟩ := hSw_
      first | (go_simp; done) | (go_simp; with_reducible rfl)
    rotate_left
    try simp only [Act.put, List.setIfInBounds_toArray, List.set_cons_zero, List.set_cons_succ]
    refine S9.AnyZ.step (i := 7) (o := q14_8_7) (by kernel_rfl) rfl (fun K hK => ?_)
    go_simp
    refine (S11.phear_any h a n c l i m Y0 (S.out.1.below D0.out).sl (by omega)).mono ?_
    rintro _ X ⟨a1, c1, rfl, s1, bX⟩
    rw [HLL.out] at s1
    have G : Hid (SlAt X a1 n c1 ll ∧ RvAt X B 94 (trc h (.slice a n c)) ∧ RvAt X A.heap.size 52 #[.slice none 0 0, .slice none 0 0] ∧ Below A.heap.size A X ∧ B < A.heap.size ∧ Below w.heap.size w A) := ⟨s1, (S.out.1.below D0.out).var.below bX, (S.out.2.1.below D0.out).below bX, below_over (below_over S.out.2.2.1 D0.out) bX, S.out.2.2.2.1, S.out.2.2.2.2⟩
    have D1 : Below V'.heap.size V' X := below_over D0.out bX
    clear bX s1 hHeld
    refine hK.out _ _ ⟨⟨_, D1⟩, rfl⟩ (fun hHeld => ?_)
    clear hK K D1
    try simp only [Act.put, List.setIfInBounds_toArray, List.set_cons_zero, List.set_cons_succ]
    clear ft fm
    refine S9.AnyZ.stepF (i := 8) (o := q14_8_8) (by kernel_rfl) rfl (by kernel_rfl) (fun K hK => ?_)
    go_simp
    refine (lead_any h a1 ll G.out.2.1 G.out.1 hn).mono ?_
    rintro _ Y ⟨v, a2, c2, rfl, bY, dY, gY⟩
    obtain ⟨V, vo, vf, rfl, eV, rV, sV, dV, gV⟩ := some_end bY G.out.2.2.2.1 gY (G.out.2.2.1.keptBut gY (by have := G.out.2.2.2.2.1; simp; omega)) G.out.2.2.2.2.1 dY
    have F : Hid (RvAt V A.heap.size 52 #[vo, vf] ∧ BrAt V B (runT h ll).h a2 n c2 (runT h ll).s.l ∧ DnAt V (.agg #[vo, vf]) (runT h ll).s.o (noted (runT h ll).s.f) ∧ w.grownBy V (some B)) := ⟨rV, sV, dV, grown_self (grown_of_below G.out.2.2.2.2.2 _) gV⟩
    clear bY dY gY rV sV dV gV G hHeld
    refine hK.out _ _ ?_
    clear hK K
    try simp only [Act.put, List.setIfInBounds_toArray, List.set_cons_zero, List.set_cons_succ]
    refine S9.AnyZ.stepF (i := 9) (o := q14_8_9) (by kernel_rfl) rfl (by kernel_rfl) (fun K hK => ?_)
    go_simp
    refine hK.out _ _ ?_
    clear hK K
    try simp only [Act.put, List.setIfInBounds_toArray, List.set_cons_zero, List.set_cons_succ]
    refine S9.AnyZ.stepF (i := 10) (o := q14_8_10) (by kernel_rfl) rfl (by kernel_rfl) (fun K hK => ?_)
    go_simp
    refine hK.out _ _ ?_
    clear hK K
    try simp only [Act.put, List.setIfInBounds_toArray, List.set_cons_zero, List.set_cons_succ]
    refine S9.AnyZ.done (by kernel_rfl) ?_ _
    refine NoPanic.normal ?_
    go_wp2
    refine bodyPost_ret (results_rowtmp rtD Tryz.results14 _ _ _ _ rfl F.out.1 rfl) rfl ?_
    exact ⟨_, a2, c2, rfl, F.out.2.1, F.out.2.2.1, F.out.2.2.2⟩
end S17
end
section
namespace S17
open Go.RowKit

def fdP (x : Value) (k : Nat) : Sem Value := Instr.field 74 x k
theorem fdPE (x : Value) (k : Nat) : Instr.field 74 x k = fdP x k := rfl
theorem fdP_30 (cs : Array Value) (v : Value) (h : cs[30]? = some v) (w : World) : (fdP (.agg cs) 30).run Tryz.prog w = .ok v w := by
  unfold fdP Instr.field
  simp [run_underlying Tryz.underlying74, part, asAgg, h, Tryz.isAgg44]
theorem fdP_8 (cs : Array Value) (v : Value) (h : cs[8]? = some v) (w : World) : (fdP (.agg cs) 8).run Tryz.prog w = .ok v w := by
  unfold fdP Instr.field
  simp [run_underlying Tryz.underlying74, part, asAgg, h, Tryz.isAgg4]
end S17
end
end Go.Proofs.YtlchejbggnbccaaGreat
