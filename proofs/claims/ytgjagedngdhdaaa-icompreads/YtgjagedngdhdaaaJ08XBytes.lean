/-
  Slices of bytes: what one owns, what one leads to; append and the turn into a string, by what they are good for. The walks of the functions that make the closures, and of those that tell which tags may be, for every input. The walk of a tag's bytes, for every tag.
-/
import Derived.Test.YtgjagedngdhdaaaJ06Put
import Derived.Maps.AppendAt
import Derived.Laws.OwnMore
import Derived.Laws.BytesString
import Derived.Laws.Cells
import Derived.Test.YtgjagedngdhdaaaJ07XArith
namespace Go.Proofs.Ytgjagedngdhdaaa

section
namespace S4
set_option linter.unusedVariables false
open Go.RowKit

theorem info_uint8 : (Try.prog.info? 5).map (fun i => (i.zero, i.size, i.bytes)) = some (some (.int .u8 0), 1, 1) := by kernel_rfl

/-- The bytes l as a string. -/
def bs (l : List Int) : ByteArray := l.foldl (fun r n => r.push (UInt8.ofNat n.toNat)) ByteArray.empty

/-- The slice v, of block B or a later one, owns the bytes l. -/
def Own (w : World) (B : Nat) (v : Value) (l : List Int) : Prop := w.ownsRow B 5 1 v l.length (l.map (Value.int .u8))

/-- The slice v leads to the bytes l. -/
def Src (w : World) (v : Value) (l : List Int) : Prop :=
  ∃ a c, v = .slice a l.length c ∧ l.length ≤ c ∧ c ≤ maxLen ∧ (a = none → l = [] ∧ c = 0) ∧ ∀ ad, a = some ad → ∀ j, j < l.length → w.cell? (ad.add j) = some (.int .u8 (l.getD j 0))

theorem Own.src {w : World} {B : Nat} {v : Value} {l : List Int} (h : Own w B v l) : Src w v l := by
  obtain ⟨h1, ⟨rfl, h2⟩ | ⟨g, cap, cur, rfl, hB, hg, hn, hc, hcur, ht⟩⟩ := h
  · have : l = [] := List.eq_nil_of_length_eq_zero h2
    subst this
    exact ⟨none, 0, rfl, Nat.le_refl _, by simp, (fun _ => ⟨rfl, rfl⟩), (fun ad e => by cases e)⟩
  · refine ⟨some ⟨g, 0, none⟩, cap, rfl, hn, hc, (fun e => by cases e), (fun ad e j hj => ?_)⟩
    cases e
    have hj' : (cur.toList.take (l.length * 1))[j]? = (l.map (Value.int .u8))[j]? := by rw [ht]
    rw [List.getElem?_take_of_lt (by omega), List.getElem?_map, List.getElem?_eq_getElem hj] at hj'
    have e : (⟨g, 0, none⟩ : Addr).add j = ⟨g, j, none⟩ := by unfold Addr.add; split <;> simp_all
    rw [e]
    simp only [World.cell?, hg]
    simp at hj'
    simp [hj', hj]

theorem Own.block {w : World} {B : Nat} {v : Value} {l : List Int} (h : Own w B v l) (k : Nat) (hk : v.ownBlock = some k) : B ≤ k ∧ k < w.heap.size := by
  obtain ⟨h1, ⟨rfl, h2⟩ | ⟨g, cap, cur, rfl, hB, hg, _⟩⟩ := h
  · cases hk
  · cases hk
    exact ⟨hB, lt_of_block hg⟩

theorem Src.below {w w' : World} {v : Value} {l : List Int} (h : Src w v l) (hb : Below w.heap.size w w') : Src w' v l := by
  obtain ⟨a, c, h1, h2, h3, h4, h5⟩ := h
  exact ⟨a, c, h1, h2, h3, h4, fun ad e j hj => (hb.cell (World.block_lt_of_cell? w _ (h5 ad e j hj))).trans (h5 ad e j hj)⟩

theorem Own.of_block {w w' : World} {B : Nat} {v : Value} {l : List Int} (h : Own w B v l) (hb : ∀ k, v.ownBlock = some k → w'.heap[k]? = w.heap[k]?) : Own w' B v l := by
  obtain ⟨h1, h2 | ⟨g, cap, cur, rfl, hB, hg, r⟩⟩ := h
  · exact ⟨h1, .inl h2⟩
  · exact ⟨h1, .inr ⟨g, cap, cur, rfl, hB, (hb g rfl).trans hg, r⟩⟩

theorem Own.below {w w' : World} {B : Nat} {v : Value} {l : List Int} (h : Own w B v l) (hb : Below w.heap.size w w') : Own w' B v l :=
  h.of_block fun k hk => hb.block k (h.block k hk).2

theorem Own.base {w : World} {B B' : Nat} {v : Value} {l : List Int} (h : Own w B v l) (hb : B' ≤ B) : Own w B' v l := by
  obtain ⟨h1, h2 | ⟨g, cap, cur, rfl, hB, r⟩⟩ := h
  · exact ⟨h1, .inl h2⟩
  · exact ⟨h1, .inr ⟨g, cap, cur, rfl, Nat.le_trans hb hB, r⟩⟩

theorem RowAt.own {w : World} {b cp : Nat} {f : Nat → Int} (h : RowAt w b cp f) (B n : Nat) (hB : B ≤ b) (hn : n ≤ cp) (hc : cp ≤ maxLen) : Own w B (.slice (some ⟨b, 0, none⟩) n cp) ((List.range n).map f) := by
  obtain ⟨cur, h1, h2, h3⟩ := h
  refine ⟨by simp, .inr ⟨b, cp, cur, by simp, hB, h1, by simpa using hn, hc, by omega, ?_⟩⟩
  apply List.ext_getElem?
  intro j
  by_cases hj : j < n
  · have := h3 j (by omega)
    rw [List.getElem?_take_of_lt (by simpa using hj)]
    simp [hj, this]
  · rw [List.getElem?_eq_none (by simp; omega), List.getElem?_eq_none (by simp; omega)]

/-- A string of the bytes. -/
theorem Src.string {w : World} {v : Value} {l : List Int} (h : Src w v l) : (convert 30 9 v).run Try.prog w = .ok (.string (bs l)) w := by
  obtain ⟨a, c, rfl, h2, h3, h4, h5⟩ := h
  rw [run_convert_bytes_string w 30 9 5 _ _ _ Try.underlying30 Try.underlying5 Try.underlying9]
  match a, h4, h5 with
  | none, h4, _ =>
    obtain ⟨rfl, rfl⟩ := h4 rfl
    rfl
  | some ad, _, h5 =>
    unfold bs
    rw [run_bytesToString w ad _ _ l ?_]
    rw [run_loadCells w ad _ (fun j => .int .u8 (l.getD j 0)) (h5 ad rfl)]
    congr 1
    apply congrArg
    apply List.ext_getElem?
    intro j
    by_cases hj : j < l.length
    · simp [hj]
    · rw [List.getElem?_eq_none (by simp; omega), List.getElem?_eq_none (by simp; omega)]

/-- append. -/
theorem run_app {w : World} {B : Nat} {v u : Value} {l m : List Int} (ty : TypeId) (hown : Own w B v l) (hsrc : Src w u m) (hlen : l.length + m.length ≤ 100000) (hB : B ≤ w.heap.size) :
    ∃ v' w', (Builtin.append_ #[30, 30] ty #[v, u]).run Try.prog w = .ok v' w' ∧ Own w' B v' (l ++ m) ∧ w.grownBy w' v.ownBlock ∧ (v'.ownBlock = v.ownBlock ∨ v'.ownBlock = some w.heap.size) := by
  obtain ⟨i0, hi, hz0, hz1, hz2⟩ := info_parts info_uint8
  obtain ⟨a, c, rfl, h2, h3, h4, h5⟩ := hsrc
  match a, h4, h5 with
  | none, h4, _ =>
    obtain ⟨rfl, rfl⟩ := h4 rfl
    have := run_append_owned_none (P := Try.prog) (w := w) B 30 ty 5 i0 1 Try.underlying30 hi v l.length _ hown
    refine ⟨v, w, this, by simpa using hown, ⟨rfl, rfl, rfl, Nat.le_refl _, fun _ _ _ => rfl⟩, .inl rfl⟩
  | some ad, _, h5 =>
    obtain ⟨v', w', hr, ho, hg, _, hat⟩ := run_append_own_at (P := Try.prog) w B 30 ty 5 i0 (.int .u8 0) 1 1 Try.underlying30 hi hz0 hz1 hz2 rfl (by omega) v l.length _ hown ad m.length c (m.map (Value.int .u8)) (by simp)
      (fun j x hj => by
        by_cases hjm : j < m.length
        · have := h5 ad rfl j hjm
          simp [hjm] at hj this
          rw [this, hj]
        · rw [List.getElem?_eq_none (by simp; omega)] at hj; cases hj)
      (fun x hx => by simp at hx; obtain ⟨y, _, rfl⟩ := hx; rfl) (by unfold maxLen; omega) (by omega) hB
    refine ⟨v', w', hr, ?_, hg, hat⟩
    unfold Own
    rw [List.length_append, List.map_append]
    exact ho

theorem wp_app {w : World} {o : Oper} {a : Act} {K : Act → World → Prop} {Q : Exit → Act → World → Prop} (s x : Operand)
    (ho : o.op = .call { callee := .builtin .append, args := #[s, x], argTypes := #[30, 30] })
    {B : Nat} {v u : Value} {l m : List Int} (hs : a.eval s = v) (hx : a.eval x = u) (hown : Own w B v l) (hsrc : Src w u m) (hlen : l.length + m.length ≤ 100000) (hB : B ≤ w.heap.size)
    (h : ∀ v' w', Own w' B v' (l ++ m) → w.grownBy w' v.ownBlock → (v'.ownBlock = v.ownBlock ∨ v'.ownBlock = some w.heap.size) → K (a.put o.dst v') w') : o.wp Try.prog a w K Q := by
  obtain ⟨v', w', hr, h2, h3, h4⟩ := run_app o.type hown hsrc hlen hB
  unfold Oper.wp execOp
  simp only [ho, resolve, invoke, builtin, Sem.run_bind, Sem.run_pure, Result.andThen_ok, List.map_toArray, List.map_cons, List.map_nil, hs, hx, hr]
  exact h v' w' h2 h3 h4

theorem wpList_app {w : World} {ops : Array Oper} {rest : List Oper} {o : Oper} {a : Act} {Q : Exit → Act → World → Prop} (hgd : o.guard = none) (s x : Operand)
    (ho : o.op = .call { callee := .builtin .append, args := #[s, x], argTypes := #[30, 30] })
    {B : Nat} {v u : Value} {l m : List Int} (hs : a.eval s = v) (hx : a.eval x = u) (hown : Own w B v l) (hsrc : Src w u m) (hlen : l.length + m.length ≤ 100000) (hB : B ≤ w.heap.size)
    (h : ∀ v' w', Own w' B v' (l ++ m) → w.grownBy w' v.ownBlock → (v'.ownBlock = v.ownBlock ∨ v'.ownBlock = some w.heap.size) → wpList Try.prog ops Q rest (a.put o.dst v') w') : wpList Try.prog ops Q (o :: rest) a w :=
  wpList_plain hgd fun _ hK => wp_app s x ho hs hx hown hsrc hlen hB fun v' w' h2 h3 h4 => hK _ _ (h v' w' h2 h3 h4)

theorem step_app {w : World} {ops : Array Oper} {o : Oper} {a : Act} {K : Act → World → Prop} {Q : Exit → Act → World → Prop} {E : Prop} (hgd : o.guard = none) (s x : Operand)
    (ho : o.op = .call { callee := .builtin .append, args := #[s, x], argTypes := #[30, 30] })
    {B : Nat} {v u : Value} {l m : List Int} (hs : a.eval s = v) (hx : a.eval x = u) (hown : Own w B v l) (hsrc : Src w u m) (hlen : l.length + m.length ≤ 100000) (hB : B ≤ w.heap.size)
    (h : ∀ v' w', Own w' B v' (l ++ m) → w.grownBy w' v.ownBlock → (v'.ownBlock = v.ownBlock ∨ v'.ownBlock = some w.heap.size) → K (a.put o.dst v') w') :
    if Region.wanted o (yielded ops a.tmps) = true then Oper.wp Try.prog o a w K Q else E := by
  have hw : Region.wanted o (yielded ops a.tmps) = true := by simp [Region.wanted, hgd]
  rw [if_pos hw]
  exact wp_app s x ho hs hx hown hsrc hlen hB h

theorem grown_below {w w' : World} {B : Nat} {v : Value} {l : List Int} (hown : Own w B v l) (hg : w.grownBy w' v.ownBlock) (hB : B ≤ w.heap.size) : Below B w w' :=
  (Below.refl B w).grown hg hB fun k hk => (hown.block k hk).1
end S4
end

section
namespace S4
set_option linter.unusedVariables false
open Go.RowKit

theorem byN_zero (n j : Nat) : byN n 0 j = 0 := by unfold byN; split <;> simp

theorem alloc_at (w : World) (o : Obj) : (w.alloc o).heap[w.heap.size]? = some o := by
  show (w.heap.push o)[w.heap.size]? = _
  simp

theorem RowAt.new (w : World) (cur : Array Value) (cp : Nat) (f : Nat → Int) (hcur : cur.size = cp) (hz : ∀ j, j < cp → cur[j]? = some (.int .u8 (f j))) : RowAt (w.alloc (.cells cur 5)) w.heap.size cp f :=
  ⟨cur, alloc_at w _, hcur, hz⟩

theorem cell_new (w : World) (v : Value) (t : TypeId) : (w.alloc (.cells #[v] t)).cell? ⟨w.heap.size, 0, none⟩ = some v := cell_of_one (t := t) (alloc_at w _)

theorem writer_any (W w : World) (b n cp : Nat) (hw : Below W.heap.size W w) (hb : W.heap.size ≤ b) (hr : RowAt w b cp (byN n 0)) :
    Calls Try.prog 116 #[.slice (some ⟨b, 0, none⟩) n cp] w fun r w' => ∃ x g, r = .returned (.func (.func 118) #[] #[.pointer (some ⟨x, 0, none⟩), .pointer (some ⟨g, 0, none⟩)]) ∧ WAt W w' b g x n cp (byN n 0) 0 := by
  have hlt := hr.lt
  have hs := hw.size
  go_enter Try.func116, Try.ntmps116
  go_wp2
  go_ret
  refine ⟨_, _, rfl, ?_⟩
  refine ⟨(hw.alloc hs _).alloc (by simp; omega) _, hb, by omega, by omega, by omega, by omega, ?_, ?_, ?_⟩
  · exact (hr.of_block (Below.heap_alloc _ _ _ hlt)).of_block (Below.heap_alloc _ _ _ (by simp; omega))
  · have := alloc_at (w.alloc (.cells #[.slice (some ⟨b, 0, none⟩) n cp] 30)) (.cells #[.int .i64 0] 3)
    simpa using this
  · rw [World.cell?_alloc_lt _ _ _ (by simp)]
    exact cell_new _ _ _

theorem reader_any (a : Option Addr) (n c : Nat) (w : World) :
    Calls Try.prog 91 #[.slice a n c] w fun r w' => r = .returned (.func (.func 113) #[] #[.pointer (some ⟨w.heap.size, 0, none⟩), .pointer (some ⟨w.heap.size + 1, 0, none⟩)]) ∧ RAt (w.alloc (.cells #[.slice a n c] 30)) w' (w.heap.size + 1) 0 := by
  go_enter Try.func91, Try.ntmps91
  go_wp2
  go_ret
  refine ⟨rfl, (Below.refl _ _).alloc (Nat.le_refl _) _, by simp, ?_⟩
  have := alloc_at (w.alloc (.cells #[.slice a n c] 30)) (.cells #[.int .i64 0] 3)
  simpa using this

/-- May a tag be? -/
def tagOk (p v : Int) : Bool := decide (0 ≤ p ∧ p ≤ 7 ∧ 1 ≤ v ∧ v ≤ 4094)
/-- May a service's tag be? -/
def itagOk (p i : Int) : Bool := decide (0 ≤ p ∧ p ≤ 7 ∧ 0 ≤ i ∧ i ≤ 16777215)
/-- The answer of a check. -/
def chk (b : Bool) : Int := if b then 0 else 20

theorem tagOk_iff {p v : Int} : tagOk p v = true ↔ (0 ≤ p ∧ p ≤ 7 ∧ 1 ≤ v ∧ v ≤ 4094) := by simp [tagOk]
theorem itagOk_iff {p i : Int} : itagOk p i = true ↔ (0 ≤ p ∧ p ≤ 7 ∧ 0 ≤ i ∧ i ≤ 16777215) := by simp [itagOk]
theorem ret_int {k : IntKind} {a b : Int} (h : a = b) : Ending.returned (.int k a) = .returned (.int k b) := by rw [h]
theorem ret_bool {a b : Bool} (h : a = b) : Ending.returned (.bool a) = .returned (.bool b) := by rw [h]

/-- A flag as a number. -/
def bitN (b : Bool) : Nat := if b then 1 else 0
theorem bitN_lt (b : Bool) : bitN b < 2 := by cases b <;> decide

theorem bit_any (b : Bool) (w : World) :
    Calls Try.prog 117 #[.bool b] w fun r w' => r = .returned (.int .i64 (bitN b : Nat)) ∧ w' = w := by
  cases b
  all_goals
    go_enter Try.func117, Try.ntmps117
    go_wp2
    go_ret
    exact ⟨rfl, rfl⟩

theorem bit_ref (b : Bool) (n : Int) (w : World) :
    Calls Try.prog 112 #[.bool b, .int .i64 n] w fun r w' => r = .returned (.int .i64 ((bitN b : Nat) * n)) ∧ w' = w := by
  cases b
  all_goals
    go_enter Try.func112, Try.ntmps112
    go_wp2
    go_ret
    exact ⟨ret_int (by simp [bitN]), rfl⟩

set_option maxHeartbeats 400000 in
theorem check_any (p v : Int) (d : Bool) (w : World) :
    Calls Try.prog 81 #[.agg #[.int .i64 p, .bool d, .int .i64 v]] w fun r w' => r = .returned (.int .i64 (chk (tagOk p v))) ∧ Below w.heap.size w w' := by
  go_enter Try.func81, Try.ntmps81
  go_wp2
  all_goals
    go_ret
    refine ⟨ret_int ?_, by go_grown⟩
    first | (simp_all [chk, tagOk]; done) | (simp_all [chk, tagOk]; omega)

set_option maxHeartbeats 400000 in
theorem is_any (p v : Int) (d : Bool) (w : World) :
    Calls Try.prog 86 #[.agg #[.int .i64 p, .bool d, .int .i64 v]] w fun r w' => r = .returned (.bool (tagOk p v)) ∧ Below w.heap.size w w' := by
  go_enter Try.func86, Try.ntmps86
  go_wp2
  all_goals
    go_ret
    refine ⟨ret_bool ?_, by go_grown⟩
    first | (simp_all [tagOk]; done) | (simp_all [tagOk]; omega)

set_option maxHeartbeats 400000 in
theorem checki_any (p : Int) (d u : Bool) (i : Int) (a0 a1 a2 a3 a4 a5 s0 s1 s2 s3 s4 s5 : Int) (w : World) :
    Calls Try.prog 108 #[.agg #[.int .i64 p, .bool d, .bool u, .int .i64 i, .int .u8 a0, .int .u8 a1, .int .u8 a2, .int .u8 a3, .int .u8 a4, .int .u8 a5, .int .u8 s0, .int .u8 s1, .int .u8 s2, .int .u8 s3, .int .u8 s4, .int .u8 s5]] w fun r w' => r = .returned (.int .i64 (chk (itagOk p i))) ∧ Below w.heap.size w w' := by
  go_enter Try.func108, Try.ntmps108
  go_wp2
  all_goals
    go_ret
    refine ⟨ret_int ?_, by go_grown⟩
    first | (simp_all [chk, itagOk]; done) | (simp_all [chk, itagOk]; omega)

set_option maxHeartbeats 400000 in
theorem isi_any (p : Int) (d u : Bool) (i : Int) (a0 a1 a2 a3 a4 a5 s0 s1 s2 s3 s4 s5 : Int) (w : World) :
    Calls Try.prog 96 #[.agg #[.int .i64 p, .bool d, .bool u, .int .i64 i, .int .u8 a0, .int .u8 a1, .int .u8 a2, .int .u8 a3, .int .u8 a4, .int .u8 a5, .int .u8 s0, .int .u8 s1, .int .u8 s2, .int .u8 s3, .int .u8 s4, .int .u8 s5]] w fun r w' => r = .returned (.bool (itagOk p i)) ∧ Below w.heap.size w w' := by
  go_enter Try.func96, Try.ntmps96
  go_wp2
  all_goals
    go_ret
    refine ⟨ret_bool ?_, by go_grown⟩
    first | (simp_all [itagOk]; done) | (simp_all [itagOk]; omega)

set_option maxHeartbeats 400000 in
theorem check_ref (p v : Int) (d : Bool) (w : World) :
    Calls Try.prog 61 #[.agg #[.int .i64 p, .bool d, .int .i64 v]] w fun r w' => r = .returned (.int .i64 (chk (tagOk p v))) ∧ Below w.heap.size w w' := by
  have hx := @Later.cell
  cases hb : tagOk p v
  all_goals
    go_enter Try.func61, Try.ntmps61
    go_wp2_with fail
    refine Calls.on_later (is_any p v d _) ?_
    intro y
    go_wp2
    go_ret
    exact ⟨rfl, below_later (by go_grown) y⟩

end S4
end

section
namespace S4
set_option linter.unusedVariables false
open Go.RowKit

/-- A tag as a number. -/
def tagN (p : Int) (d : Bool) (v : Int) : Int := p * 8192 + (bitN d : Nat) * 4096 + v
/-- A tag's bytes. -/
def tagL (p : Int) (d : Bool) (v : Int) : List Int := [tagN p d v / 256, tagN p d v % 256]

theorem make2 (w : World) : (Instr.makeSlice 30 (.int .i64 2) (.int .i64 2)).run Try.prog w = .ok (.slice (some ⟨w.heap.size, 0, none⟩) 2 2) (w.alloc (.cells #[.int .u8 0, .int .u8 0] 5)) := by kernel_rfl

theorem check_yes (p v : Int) (d : Bool) (w : World) (h : tagOk p v = true) : Calls Try.prog 81 #[.agg #[.int .i64 p, .bool d, .int .i64 v]] w fun r w' => r = .returned (.int .i64 0) ∧ Below w.heap.size w w' := by
  have := check_any p v d w
  rw [h] at this
  exact this
theorem check_no (p v : Int) (d : Bool) (w : World) (h : tagOk p v = false) : Calls Try.prog 81 #[.agg #[.int .i64 p, .bool d, .int .i64 v]] w fun r w' => r = .returned (.int .i64 20) ∧ Below w.heap.size w w' := by
  have := check_any p v d w
  rw [h] at this
  exact this

/-- A writing, met in the walk. -/
theorem Calls.on_write {f : FuncId} {args : Array Value} {W w : World} {b g x n cp k : Nat} {F : Nat → Int} {v : Value} {K : Ending → World → Prop}
    (h : Calls Try.prog f args w fun r w' => r = .returned v ∧ WAt W w' b g x n cp F k) (k' : ∀ z : Later W, WAt W z.val b g x n cp F k → K (.returned v) z.val) : Calls Try.prog f args w K :=
  h.mono fun _ w' ⟨he, hb⟩ => by subst he; exact k' (Later.mk w' hb.below) hb

theorem Calls.on_writer {args : Array Value} {W w : World} {b n cp : Nat} {K : Ending → World → Prop}
    (h : Calls Try.prog 116 args w fun r w' => ∃ x g, r = .returned (.func (.func 118) #[] #[.pointer (some ⟨x, 0, none⟩), .pointer (some ⟨g, 0, none⟩)]) ∧ WAt W w' b g x n cp (byN n 0) 0)
    (k' : ∀ (z : Later W) (x g : Nat), WAt W z.val b g x n cp (byN n 0) 0 → K (.returned (.func (.func 118) #[] #[.pointer (some ⟨x, 0, none⟩), .pointer (some ⟨g, 0, none⟩)])) z.val) : Calls Try.prog 116 args w K :=
  h.mono fun _ w' ⟨x, g, he, hb⟩ => by subst he; exact k' (Later.mk w' hb.below) x g hb

set_option maxHeartbeats 400000 in
theorem put_no (p v : Int) (d : Bool) (w : World) (h : tagOk p v = false) :
    Calls Try.prog 114 #[.agg #[.int .i64 p, .bool d, .int .i64 v]] w fun r w' => r = .returned (.tuple #[.slice none 0 0, .int .i64 20]) ∧ Below w.heap.size w w' := by
  have hx := @Later.cell
  go_enter Try.func114, Try.ntmps114
  go_wp2_with fail
  refine Calls.on_later (check_no p v d _ h) ?_
  intro y
  go_wp2
  go_ret2
  exact ⟨rfl, below_later (by go_grown) y⟩

set_option maxHeartbeats 800000 in
theorem put_nat (p v : Nat) (d : Bool) (w : World) (hp : p ≤ 7) (hv1 : 1 ≤ v) (hv2 : v ≤ 4094) :
    Calls Try.prog 114 #[.agg #[.int .i64 p, .bool d, .int .i64 v]] w fun r w' => ∃ s, r = .returned (.tuple #[s, .int .i64 0]) ∧ Own w' w.heap.size s [byN 2 (p * 8192 + bitN d * 4096 + v) 0, byN 2 (p * 8192 + bitN d * 4096 + v) 1] ∧ Below w.heap.size w w' := by
  have hx := @Later.cell
  have hm := make2
  have h : tagOk p v = true := tagOk_iff.2 (by omega)
  obtain ⟨e, he⟩ : ∃ e, bitN d = e := ⟨_, rfl⟩
  have he2 : e < 2 := by rw [← he]; exact bitN_lt d
  go_enter Try.func114, Try.ntmps114
  go_wp2_with fail
  refine Calls.on_later (check_yes p v d _ h) ?_
  intro y
  have hbl : Hid (Below w.heap.size w y.val) := below_later (by go_grown) y
  have hz := y.below.size
  simp only [World.size_alloc] at hz
  have z1 : w.heap.size < y.val.heap.size := by omega
  go_wp2_with fail
  refine Calls.on_writer (writer_any y.val _ _ 2 2 ((Below.refl _ _).alloc (Nat.le_refl _) _) (Nat.le_refl _) (RowAt.new _ _ 2 _ rfl (by intro j hj; match j, hj with | 0, _ => rfl | 1, _ => rfl))) ?_
  intro y1 x g h1
  have H1 : Hid (WAt _ _ _ _ _ _ _ _ _) := h1
  clear h1
  go_wp2_with fail
  refine Calls.on_write (write_any 3 p 0 2 2 _ g x 0 _ y.val (by omega) (by omega) (by omega) (by omega) (by omega) (by simp) H1.out) ?_
  clear H1 y1
  intro y2 h2
  have H2 : Hid (WAt _ _ _ _ _ _ _ _ _) := h2
  clear h2
  go_wp2_with fail
  refine (bit_any d _).mono ?_
  rintro _ _ ⟨rfl, rfl⟩
  rw [he]
  go_wp2_with fail
  refine Calls.on_write (write_any 1 e 3 2 2 _ g x _ _ y.val (by omega) (by omega) (by omega) (by omega) (by omega) (by first | (simp; done) | (simp; omega)) H2.out) ?_
  clear H2 y2
  intro y3 h3
  have H3 : Hid (WAt _ _ _ _ _ _ _ _ _) := h3
  clear h3
  go_wp2_with fail
  refine Calls.on_write (write_any 12 v 4 2 2 _ g x _ _ y.val (by omega) (by omega) (by omega) (by omega) (by omega) (by first | (simp; done) | (simp; omega)) H3.out) ?_
  clear H3 y3
  intro y4 h4
  have H4 : Hid (WAt _ _ _ _ _ _ _ _ _) := h4
  clear h4
  go_wp2
  go_ret2
  have h4 := H4.out
  refine ⟨_, rfl, ?_, below_over hbl.out y4.below⟩
  have ho := h4.row.own w.heap.size 2 (by have := h4.hb; omega) (by omega) (by unfold maxLen; omega)
  have e4 : 0 + p * 2 ^ (8 * 2 - 0 - 3) + e * 2 ^ (8 * 2 - 3 - 1) + v * 2 ^ (8 * 2 - 4 - 12) = p * 8192 + bitN d * 4096 + v := by rw [he]; simp
  rw [e4] at ho
  exact ho

theorem put_yes (p v : Int) (d : Bool) (w : World) (h : tagOk p v = true) :
    Calls Try.prog 114 #[.agg #[.int .i64 p, .bool d, .int .i64 v]] w fun r w' => ∃ s, r = .returned (.tuple #[s, .int .i64 0]) ∧ Own w' w.heap.size s (tagL p d v) ∧ Below w.heap.size w w' := by
  have hb := tagOk_iff.1 h
  have hd := bitN_lt d
  obtain ⟨P, rfl⟩ := Int.eq_ofNat_of_zero_le hb.1
  obtain ⟨V, rfl⟩ := Int.eq_ofNat_of_zero_le (show 0 ≤ v by omega)
  have := put_nat P V d w (by omega) (by omega) (by omega)
  have e : [byN 2 (P * 8192 + bitN d * 4096 + V) 0, byN 2 (P * 8192 + bitN d * 4096 + V) 1] = tagL P d V := by
    unfold tagL tagN byN
    simp
    omega
  rw [e] at this
  exact this
end S4
end

end Go.Proofs.Ytgjagedngdhdaaa
