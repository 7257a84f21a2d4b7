/-
  The walks of the methods that go over the bytes of a frame of the backbone.
-/
import Derived.Test.YteljcgdenagcmaaBInside
import Derived.Test.YteljcgdenagcmaaTakeI
namespace Go.Proofs.Yteljcgdenagcmaa
set_option linter.unusedVariables false
set_option maxRecDepth 4000
set_option linter.unusedSimpArgs false
open Go.RowKit

/-- Six bytes from the k-th on. -/
def m6 (l : List Int) (k : Nat) : M6 := ⟨gt l k, gt l (k + 1), gt l (k + 2), gt l (k + 3), gt l (k + 4), gt l (k + 5)⟩
theorem gt_ok {l : List Int} (hb : ∀ x ∈ l, 0 ≤ x ∧ x ≤ 255) (k : Nat) : 0 ≤ gt l k ∧ gt l k ≤ 255 := by
  unfold gt
  by_cases h : k < l.length
  · rw [List.getD_eq_getElem?_getD, List.getElem?_eq_getElem h]
    exact hb _ (List.getElem_mem h)
  · rw [List.getD_eq_getElem?_getD, List.getElem?_eq_none (by omega)]
    simp
theorem m6_ok {l : List Int} (hb : ∀ x ∈ l, 0 ≤ x ∧ x ≤ 255) (k : Nat) : (m6 l k).ok := by
  intro x hx
  simp only [M6.l, m6, List.mem_cons, List.not_mem_nil, or_false] at hx
  rcases hx with rfl | rfl | rfl | rfl | rfl | rfl <;> exact gt_ok hb _
theorem list6 {l : List Int} {k : Nat} (h : k + 6 ≤ l.length) : (l.drop k).take 6 = (m6 l k).l := by
  apply List.ext_getElem?
  intro j
  by_cases hj : j < 6
  · have e : (m6 l k).l[j]? = some (gt l (k + j)) := by
      have hj' : j = 0 ∨ j = 1 ∨ j = 2 ∨ j = 3 ∨ j = 4 ∨ j = 5 := by omega
      rcases hj' with rfl | rfl | rfl | rfl | rfl | rfl <;> rfl
    rw [e, List.getElem?_take_of_lt hj, List.getElem?_drop]
    unfold gt
    rw [List.getD_eq_getElem?_getD, List.getElem?_eq_getElem (by omega)]
    rfl
  · rw [List.getElem?_eq_none (by simp; omega), List.getElem?_eq_none (by simp [M6.l]; omega)]

/-- A type whose values are rows of n cells. -/
structure RowTy (ty n : Nat) : Prop where
  info : (Try.prog.info? ty).map (·.size) = some n
  und : ∃ d, Try.prog.underlying ty = some d ∧ d.isRow = true
theorem rt23 : RowTy 23 6 := ⟨info23, _, Try.underlying23, rfl⟩
theorem rt25 : RowTy 25 3 := ⟨info25, _, Try.underlying25, rfl⟩
theorem rt27 : RowTy 27 16 := ⟨info27, _, Try.underlying27, rfl⟩
theorem rt70 : RowTy 70 2 := ⟨by kernel_rfl, _, Try.underlying70, rfl⟩

/-- Block b is the variable of such a value. -/
def RvAt (W : World) (b : Nat) (ty : TypeId) (cs : Array Value) : Prop := W.heap[b]? = some (.cells cs ty (0, 0))
theorem RvAt.lt {W : World} {b : Nat} {ty : TypeId} {cs : Array Value} (h : RvAt W b ty cs) : b < W.heap.size := lt_of_block h
theorem RvAt.below {W W' : World} {b : Nat} {ty : TypeId} {cs : Array Value} (h : RvAt W b ty cs) (hb : Below W.heap.size W W') : RvAt W' b ty cs := (hb.block b h.lt).trans h
theorem RvAt.lv {W : World} {b n : Nat} {ty : TypeId} {cs : Array Value} (t : RowTy ty n) (h : RvAt W b ty cs) (hn : cs.size = n) : (loadVar ty ⟨b, 0, none⟩).run Try.prog W = .ok (.agg cs) W := by
  obtain ⟨d, hd, hr⟩ := t.und
  cases d <;> first | exact run_loadVar_row (P := Try.prog) W b ty ty cs (0, 0) _ h hd rfl (by rw [hn]; exact t.info) | (cases hr; done)
theorem RvAt.ld {W : World} {b n : Nat} {ty : TypeId} {cs : Array Value} (t : RowTy ty n) (h : RvAt W b ty cs) (hn : cs.size = n) : (ldS ty (.pointer (some ⟨b, 0, none⟩))).run Try.prog W = .ok (.agg cs) W := by
  have := h.lv t hn
  unfold ldS
  simp only [Instr.loadAt, Instr.sureAddr, Sem.run_bind, Sem.run_pure, Result.andThen_ok, this]
theorem RvAt.st {W : World} {b n : Nat} {ty : TypeId} {cs ds : Array Value} (t : RowTy ty n) (h : RvAt W b ty cs) (hn : cs.size = n) (hd : ds.size = n) (h1 : ∀ v ∈ ds.toList, v.oneCell' = true) :
    (stS ty (.pointer (some ⟨b, 0, none⟩)) (.agg ds)).run Try.prog W = .ok () (W.setRow b ds) := by
  have := store_cells (ty := ty) (o := 0) (cs := ds) h (by rw [hd]; exact t.info) (by omega) h1
  rw [this]
  have e : cs.toList.drop (0 + ds.size) = [] := List.drop_eq_nil_of_le (by simp; omega)
  rw [e]
  simp
theorem RvAt.set {W : World} {b : Nat} {ty : TypeId} {cs ds : Array Value} (h : RvAt W b ty cs) : RvAt (W.setRow b ds) b ty ds := setRow_heap W b cs ds ty (0, 0) h
theorem row_new {ty : TypeId} {n : Nat} (t : RowTy ty n) (W : World) (z cs : Array Value) (hz : z.size = n) (hn : cs.size = n) (h1 : ∀ v ∈ cs.toList, v.oneCell' = true) :
    ∃ W', (stS ty (.pointer (some ⟨W.heap.size, 0, none⟩)) (.agg cs)).run Try.prog (W.alloc (.cells z ty)) = .ok () W' ∧ RvAt W' W.heap.size ty cs ∧ Below W.heap.size W W' ∧ W'.heap.size = W.heap.size + 1 :=
  have h : RvAt (W.alloc (.cells z ty)) W.heap.size ty z := alloc_at W _
  ⟨_, h.st t hz hn h1, h.set, below_setRow ((Below.refl _ _).alloc (Nat.le_refl _) _) (Nat.le_refl _) _, by simp⟩
theorem results_row {fn : Func} {k n : Nat} {ty : TypeId} (t : RowTy ty n) (hr : fn.results = #[.cell k ty]) (tmps : Array Value) (w : World) (b : Nat) (cs : Array Value) (h2 : tmps.getD k undef = .pointer (some ⟨b, 0, none⟩)) (h : RvAt w b ty cs) (hn : cs.size = n) :
    (results fn tmps).run Try.prog w = .ok (.agg cs) w := by
  have hl := h.lv t hn
  have h2' : tmps[k]?.getD undef = .pointer (some ⟨b, 0, none⟩) := by simpa using h2
  simp [results, hr, asAddr, hl, h2']

theorem stS70 (x y : Value) : Instr.storeAt 70 x y = stS 70 x y := rfl

/-- W' is W but for block b and what is new. -/
structure Wk (W : World) (b : Nat) (W' : World) : Prop where
  lo : Below b W W'
  hi : ∀ k, b < k → k < W.heap.size → W'.heap[k]? = W.heap[k]?
theorem Wk.of {W W' : World} {b : Nat} (h : Below W.heap.size W W') (hb : b < W.heap.size) : Wk W b W' := ⟨h.mono (by omega), fun k _ hk => h.block k hk⟩
theorem Wk.trans {W W1 W2 : World} {b : Nat} (h : Wk W b W1) (k : Wk W1 b W2) : Wk W b W2 := ⟨h.lo.trans k.lo, fun i hi hs => (k.hi i hi (by have := h.lo.size; omega)).trans (h.hi i hi hs)⟩
theorem Wk.cell (W : World) (b o : Nat) (v : Value) : Wk W b (W.setCell ⟨b, o, none⟩ v) := ⟨(Below.refl _ _).setCell (by simp) _, fun k hk _ => heap_setCell_other _ _ _ _ (by simp; omega)⟩
theorem Wk.below {w W W' : World} {b : Nat} (h : Wk W b W') (hw : w.heap.size ≤ b) (hb : Below w.heap.size w W) : Below w.heap.size w W' := hb.trans (h.lo.mono hw)
theorem Wk.block {W W' : World} {b k : Nat} (h : Wk W b W') (hk : k < W.heap.size) (hn : k ≠ b) : W'.heap[k]? = W.heap[k]? := by
  rcases Nat.lt_or_ge k b with h1 | h1
  · exact h.lo.block k h1
  · exact h.hi k (by omega) hk
theorem Wk.row {W W' : World} {b k : Nat} {ty : TypeId} {cs : Array Value} (h : Wk W b W') (r : RvAt W k ty cs) (hn : k ≠ b) : RvAt W' k ty cs := (h.block r.lt hn).trans r
theorem Wk.bf {W W' : World} {b k : Nat} {f : Bf} {z : Value} (h : Wk W b W') (r : BfAt W k f z) (hn : k ≠ b) : BfAt W' k f z := (h.block r.lt hn).trans r
theorem Wk.own {W W' : World} {b B : Nat} {v : Value} {l : List Int} (h : Wk W b W') (r : Own W B v l) (hn : b < B) : Own W' B v l :=
  r.of_block fun k hk => h.block (r.block k hk).2 (by have := (r.block k hk).1; omega)

/-- The walk's variable, block b: what is left of bytes that w had, and whether they are wrong. -/
structure Wst (w W : World) (b : Nat) (l : List Int) (g : Bool) (B o n c : Nat) : Prop where
  at' : RvAt W b 70 #[.slice (some ⟨B, o, none⟩) n c, .bool g]
  src : Src w (.slice (some ⟨B, o, none⟩) n c) l
  below : Below w.heap.size w W
  le : w.heap.size ≤ b
theorem Wst.c0 {w W : World} {b : Nat} {l : List Int} {g : Bool} {B o n c : Nat} (h : Wst w W b l g B o n c) : W.cell? ⟨b, 0, none⟩ = some (.slice (some ⟨B, o, none⟩) n c) := cell_at h.at' 0 _ rfl
theorem Wst.c1 {w W : World} {b : Nat} {l : List Int} {g : Bool} {B o n c : Nat} (h : Wst w W b l g B o n c) : W.cell? ⟨b, 1, none⟩ = some (.bool g) := cell_at h.at' 1 _ rfl
theorem Wst.live {w W : World} {b : Nat} {l : List Int} {g : Bool} {B o n c : Nat} (h : Wst w W b l g B o n c) (k : Nat) : W.frozen? ⟨b, k, none⟩ = false := by
  have := h.at'
  unfold RvAt at this
  simp [World.frozen?, this]
theorem Wst.later {w W W' : World} {b : Nat} {l : List Int} {g : Bool} {B o n c : Nat} (h : Wst w W b l g B o n c) (hb : Below W.heap.size W W') : Wst w W' b l g B o n c := ⟨h.at'.below hb, h.src, below_over h.below hb, h.le⟩
theorem Wst.other {w W W' : World} {b k : Nat} {l : List Int} {g : Bool} {B o n c : Nat} (h : Wst w W b l g B o n c) (hk : Wk W k W') (hn : b ≠ k) (hw : w.heap.size ≤ k) : Wst w W' b l g B o n c := ⟨hk.row h.at' hn, h.src, hk.below hw h.below, h.le⟩

attribute [local go_sem ↓] slS_eq ldS23 ldS25 ldI27 ldS30 stS30 stS23 stS25 stI27 stS70

set_option maxHeartbeats 400000 in
theorem next_any (w W : World) (b : Nat) (l : List Int) (g : Bool) (B o n c k : Nat) (h : Wst w W b l g B o n c) (hk : k < l.length) :
    Calls Try.prog 57 #[.pointer (some ⟨b, 0, none⟩), .int .i64 (k : Nat)] W fun r w' => r = .returned (.slice (some ⟨B, o, none⟩) k k) ∧ Wst w w' b (l.drop k) g B (o + k) (n - k) (c - k) ∧ Wk W b w' ∧ Src w (.slice (some ⟨B, o, none⟩) k k) (l.take k) := by
  obtain ⟨hn, hc, hm⟩ := src_short h.src
  have hs1 : ∀ W, (slS (.slice (some ⟨B, o, none⟩) n c) none (some (.int .i64 (k : Nat))) (some (.int .i64 (k : Nat)))).run Try.prog W = .ok (.slice (some ⟨B, o, none⟩) k k) W := fun W => slS_front B o n c k (by omega) hc hm W
  have e : dropV B o n c k = .slice (some ⟨B, o + k, none⟩) (n - k) (c - k) := by unfold dropV; rw [if_neg (by omega)]
  have hs2 : ∀ W, (slS (.slice (some ⟨B, o, none⟩) n c) (some (.int .i64 (k : Nat))) none none).run Try.prog W = .ok (.slice (some ⟨B, o + k, none⟩) (n - k) (c - k)) W := fun W => by rw [← e]; exact slS_drop B o n c k (by omega) hc hm W
  have H1 : Hid (Src w (.slice (some ⟨B, o, none⟩) k k) (l.take k)) := (h.src.take k (by omega) (by simp)).cap (by simp) (Nat.le_refl _) (by omega)
  have h2 : Src w (.slice (some ⟨B, o + k, none⟩) (n - k) (c - k)) (l.drop k) := by rw [← e]; exact src_dropV h.src k (by omega)
  have H2 : Hid (Wst w (W.setCell ⟨b, 0, none⟩ (.slice (some ⟨B, o + k, none⟩) (n - k) (c - k))) b (l.drop k) g B (o + k) (n - k) (c - k)) := ⟨heap_setCell_same W b 0 _ 70 _ h.at', h2, h.below.setCell (by have := h.le; simp; omega) _, h.le⟩
  have c0 := h.c0
  have lv := h.live
  clear h h2 hk hn hc hm e
  go_enter Try.func57, Try.ntmps57
  go_wp2
  go_ret
  exact ⟨rfl, H2.out, Wk.cell _ _ _ _, H1.out⟩

set_option maxHeartbeats 400000 in
theorem doubt_any (w W : World) (b : Nat) (l : List Int) (g v : Bool) (B o n c : Nat) (h : Wst w W b l g B o n c) :
    Calls Try.prog 59 #[.pointer (some ⟨b, 0, none⟩), .bool v] W fun r w' => r = .returned (.tuple #[]) ∧ Wst w w' b l (g || v) B o n c ∧ Wk W b w' := by
  have H2 : Hid (Wst w (W.setCell ⟨b, 1, none⟩ (.bool (g || v))) b l (g || v) B o n c) := ⟨heap_setCell_same W b 1 _ 70 _ h.at', h.src, h.below.setCell (by have := h.le; simp; omega) _, h.le⟩
  have c1 := h.c1
  have lv := h.live
  clear h
  cases g
  all_goals
    go_enter Try.func59, Try.ntmps59
    go_wp2
    go_end0
    exact ⟨rfl, H2.out, Wk.cell _ _ _ _⟩

/-- Six bytes are copied into an address's variable. -/
theorem copy_m {W : World} {t : Nat} {cs : Array Value} {v : Value} {m : M6} (h : RvAt W t 23 cs) (hc : cs.size = 6) (hs : Src W v m.l) (ty : TypeId) :
    (Builtin.copy_ #[28, 28] ty #[.slice (some ⟨t, 0, none⟩) 6 6, v]).run Try.prog W = .ok (goInt 6) (W.setRow t #[.int .u8 m.a, .int .u8 m.b, .int .u8 m.c, .int .u8 m.d, .int .u8 m.e, .int .u8 m.f]) := by
  obtain ⟨a, c, rfl, _, _, h4, h5⟩ := hs
  match a, h4, h5 with
  | none, h4, _ => have := (h4 rfl).1; simp [M6.l] at this
  | some ad, _, h5 =>
    have := run_copy_row (P := Try.prog) W 28 28 ty 5 t 0 6 6 ad m.l.length c cs 23 (m.l.map (Value.int .u8)) Try.underlying28 (by kernel_rfl) h (by simp [M6.l]) (fun j y hy => by
      have hj : j < m.l.length := by
        rcases Nat.lt_or_ge j m.l.length with h | h
        · exact h
        · rw [List.getElem?_eq_none (by simpa using h)] at hy; cases hy
      rw [h5 ad rfl j hj]
      simp [hj] at hy ⊢
      exact hy) (by simp [M6.l, hc]) (by intro y hy; simp at hy; obtain ⟨z, _, rfl⟩ := hy; rfl)
    rw [this]
    have e : cs.toList.drop (0 + (m.l.map (Value.int .u8)).length) = [] := List.drop_eq_nil_of_le (by simp [M6.l, hc])
    rw [e]
    rfl

set_option maxHeartbeats 1000000 in
theorem address_any (w W : World) (b : Nat) (l : List Int) (g : Bool) (B o n c : Nat) (h : Wst w W b l g B o n c) (hk : 6 < l.length) :
    Calls Try.prog 38 #[.pointer (some ⟨b, 0, none⟩)] W fun r w' => r = .returned (m6 l 0).v ∧ Wst w w' b (l.drop 6) g B (o + 6) (n - 6) (c - 6) ∧ Wk W b w' := by
  have hlt := h.at'.lt
  have z0 : RvAt (W.alloc (.cells #[.int .u8 0, .int .u8 0, .int .u8 0, .int .u8 0, .int .u8 0, .int .u8 0] 23)) W.heap.size 23 #[.int .u8 0, .int .u8 0, .int .u8 0, .int .u8 0, .int .u8 0, .int .u8 0] := alloc_at W _
  have hB : Below W.heap.size W ((W.alloc (.cells #[.int .u8 0, .int .u8 0, .int .u8 0, .int .u8 0, .int .u8 0, .int .u8 0] 23)).alloc (.cells #[.int .u8 0, .int .u8 0, .int .u8 0, .int .u8 0, .int .u8 0, .int .u8 0] 23)) := ((Below.refl _ _).alloc (Nat.le_refl _) _).alloc (by simp) _
  have z1 : RvAt ((W.alloc (.cells #[.int .u8 0, .int .u8 0, .int .u8 0, .int .u8 0, .int .u8 0, .int .u8 0] 23)).alloc (.cells #[.int .u8 0, .int .u8 0, .int .u8 0, .int .u8 0, .int .u8 0, .int .u8 0] 23)) W.heap.size 23 #[.int .u8 0, .int .u8 0, .int .u8 0, .int .u8 0, .int .u8 0, .int .u8 0] := z0.below ((Below.refl _ _).alloc (Nat.le_refl _) _)
  have y1 : RvAt ((W.alloc (.cells #[.int .u8 0, .int .u8 0, .int .u8 0, .int .u8 0, .int .u8 0, .int .u8 0] 23)).alloc (.cells #[.int .u8 0, .int .u8 0, .int .u8 0, .int .u8 0, .int .u8 0, .int .u8 0] 23)) (W.heap.size + 1) 23 #[.int .u8 0, .int .u8 0, .int .u8 0, .int .u8 0, .int .u8 0, .int .u8 0] := by have := alloc_at (W.alloc (.cells #[.int .u8 0, .int .u8 0, .int .u8 0, .int .u8 0, .int .u8 0, .int .u8 0] 23)) (.cells #[.int .u8 0, .int .u8 0, .int .u8 0, .int .u8 0, .int .u8 0, .int .u8 0] 23); simpa [RvAt] using this
  obtain ⟨V, hV⟩ : ∃ V, ((W.alloc (.cells #[.int .u8 0, .int .u8 0, .int .u8 0, .int .u8 0, .int .u8 0, .int .u8 0] 23)).alloc (.cells #[.int .u8 0, .int .u8 0, .int .u8 0, .int .u8 0, .int .u8 0, .int .u8 0] 23)).drew = V := ⟨_, rfl⟩
  have bV : Below W.heap.size W V := by rw [← hV]; exact hB.drew
  have zV : RvAt V W.heap.size 23 #[.int .u8 0, .int .u8 0, .int .u8 0, .int .u8 0, .int .u8 0, .int .u8 0] := by rw [← hV]; exact z1
  have yV : RvAt V (W.heap.size + 1) 23 #[.int .u8 0, .int .u8 0, .int .u8 0, .int .u8 0, .int .u8 0, .int .u8 0] := by rw [← hV]; exact y1
  have HV : Hid (Below W.heap.size W V ∧ RvAt V W.heap.size 23 #[.int .u8 0, .int .u8 0, .int .u8 0, .int .u8 0, .int .u8 0, .int .u8 0] ∧ RvAt V (W.heap.size + 1) 23 #[.int .u8 0, .int .u8 0, .int .u8 0, .int .u8 0, .int .u8 0, .int .u8 0]) := ⟨bV, zV, yV⟩
  have HW : Hid (Wst w V b l g B o n c) := h.later bV
  have HL : Hid (6 < l.length ∧ b < W.heap.size) := ⟨hk, hlt⟩
  clear h hlt z0 hB z1 y1 bV zV yV hk
  go_enter Try.func38, Try.ntmps38
  go_wp2
  refine wp_region_noPanic ?_
  refine wp_region_held_drew (S := fun _ => True) (by kernel_rfl) trivial (fun hHeld => ?_)
  refine wpAnyH_take (i := 0) (oi := { dst := some 4, op := Op.slice 23 (Operand.tmp 3) none none none, type := 28, pos := "walk.go:28", after := #[], guard := none }) (v := ?_) rfl (by kernel_rfl) (by kernel_rfl) (by kernel_rfl) (fun _ _ _ h => h) (Or.inl ⟨by rfl, ?_⟩) hHeld ?_
  rotate_left
  · intro W hSw
    first | (go_simp; done) | (go_simp; with_reducible rfl)
  rotate_left
  try simp only [Act.put, List.setIfInBounds_toArray, List.set_cons_zero, List.set_cons_succ]
  refine wpAnyH_take (i := 1) (oi := { dst := some 5, op := Op.move (Operand.tmp 0), type := 89, pos := "walk.go:28", after := #[], guard := none }) (v := ?_) rfl (by kernel_rfl) (by kernel_rfl) (by kernel_rfl) (fun _ _ _ h => h) (Or.inl ⟨by rfl, ?_⟩) hHeld ?_
  rotate_left
  · intro W hSw
    first | (go_simp; done) | (go_simp; with_reducible rfl)
  rotate_left
  try simp only [Act.put, List.setIfInBounds_toArray, List.set_cons_zero, List.set_cons_succ]
  refine wpAnyH_take (i := 2) (oi := { dst := some 6, op := Op.nilCheck (Operand.tmp 5), type := 0, pos := "walk.go:28", after := #[{ on := 1, ground := Ground.data }], guard := none }) (v := ?_) rfl (by kernel_rfl) (by kernel_rfl) (by kernel_rfl) (fun _ _ _ h => h) (Or.inl ⟨by rfl, ?_⟩) hHeld ?_
  rotate_left
  · intro W hSw
    first | (go_simp; done) | (go_simp; with_reducible rfl)
  rotate_left
  try simp only [Act.put, List.setIfInBounds_toArray, List.set_cons_zero, List.set_cons_succ]
  refine wpAnyH_take (i := 3) (oi := { dst := some 7, op := Op.fieldAddr 70 (Operand.tmp 6) 0, type := 0, pos := "walk.go:28", after := #[{ on := 2, ground := Ground.data }], guard := none }) (v := ?_) rfl (by kernel_rfl) (by kernel_rfl) (by kernel_rfl) (fun _ _ _ h => h) (Or.inl ⟨by rfl, ?_⟩) hHeld ?_
  rotate_left
  · intro W hSw
    first | (go_simp; done) | (go_simp; with_reducible rfl)
  rotate_left
  try simp only [Act.put, List.setIfInBounds_toArray, List.set_cons_zero, List.set_cons_succ]
  rw [hV]
  clear hV
  refine wpAnyH_ready (rs := [4]) (by kernel_rfl) (by simp) ?_
  refine AllReadyH.cons (o := { dst := some 8, op := Op.call { callee := Callee.value (Operand.func 57), args := #[Operand.tmp 7, Operand.const (Value.int IntKind.i64 6)], argTypes := #[68, 3] }, type := 28, pos := "walk.go:28", after := #[{ on := 3, ground := Ground.data }], guard := none }) rfl (fun K hK => ?_) AllReadyH.nil
  go_simp
  refine (next_any w V b l g B o n c 6 HW.out HL.out.1).mono ?_
  rintro _ W2 ⟨rfl, s2, k2, q2⟩
  have S2 : Hid (Wst w W2 b (l.drop 6) g B (o + 6) (n - 6) (c - 6)) := s2
  have r2 := k2.row HV.out.2.1 (by have := HL.out.2; omega)
  have t2 := k2.row HV.out.2.2 (by have := HL.out.2; omega)
  have R2 : Hid (RvAt W2 W.heap.size 23 #[.int .u8 0, .int .u8 0, .int .u8 0, .int .u8 0, .int .u8 0, .int .u8 0] ∧ RvAt W2 (W.heap.size + 1) 23 #[.int .u8 0, .int .u8 0, .int .u8 0, .int .u8 0, .int .u8 0, .int .u8 0] ∧ Wk V b W2) := ⟨r2, t2, k2⟩
  have e6 : l.take 6 = (m6 l 0).l := by have := list6 (l := l) (k := 0) (by have := HL.out.1; omega); simpa using this
  rw [e6] at q2
  have cp := copy_m t2 rfl (q2.below s2.below)
  clear s2 k2 q2 r2 t2 e6
  clear hHeld
  refine hK.out _ _ trivial (fun hHeld => ?_)
  clear hK K
  try simp only [Act.put, List.setIfInBounds_toArray, List.set_cons_zero, List.set_cons_succ]
  refine wpAnyH_ready (rs := [5]) (by kernel_rfl) (by simp) ?_
  refine AllReadyH.cons (o := { dst := some 9, op := Op.call { callee := Callee.builtin Builtin.copy, args := #[Operand.tmp 4, Operand.tmp 8], argTypes := #[28, 28] }, type := 3, pos := "walk.go:28", after := #[{ on := 0, ground := Ground.data }, { on := 4, ground := Ground.data }, { on := 4, ground := Ground.chain }], guard := none }) rfl (fun K hK => ?_) AllReadyH.nil
  go_simp
  clear hHeld
  refine hK.out _ _ trivial (fun hHeld => ?_)
  clear hK K
  try simp only [Act.put, List.setIfInBounds_toArray, List.set_cons_zero, List.set_cons_succ]
  refine wpAnyH_done (by kernel_rfl) ?_ _
  refine NoPanic.normal ?_
  clear hHeld
  clear cp
  obtain ⟨m, hm⟩ : ∃ m, m6 l 0 = m := ⟨_, rfl⟩
  rw [hm]
  have k3 : Wk W b (W2.setRow (W.heap.size + 1) #[.int .u8 m.a, .int .u8 m.b, .int .u8 m.c, .int .u8 m.d, .int .u8 m.e, .int .u8 m.f]) := by
    have h1 := R2.out.2.2
    have h2 := HL.out.2
    have h3 := HV.out.1.size
    refine ⟨(HV.out.1.mono (by omega)).trans (h1.lo.trans ((below_setRow (Below.refl _ _) (by omega) _))), fun k hk hs => ?_⟩
    rw [setRow_other _ _ _ _ (by omega), h1.hi k hk (by omega)]
    exact HV.out.1.block k hs
  have s3 : Wst w (W2.setRow (W.heap.size + 1) #[.int .u8 m.a, .int .u8 m.b, .int .u8 m.c, .int .u8 m.d, .int .u8 m.e, .int .u8 m.f]) b (l.drop 6) g B (o + 6) (n - 6) (c - 6) := ⟨(setRow_other _ _ _ _ (by have := HL.out.2; omega)).trans S2.out.at', S2.out.src, below_setRow S2.out.below (by have := HL.out.2; have := S2.out.le; omega) _, S2.out.le⟩
  have y3 : RvAt (W2.setRow (W.heap.size + 1) #[.int .u8 m.a, .int .u8 m.b, .int .u8 m.c, .int .u8 m.d, .int .u8 m.e, .int .u8 m.f]) (W.heap.size + 1) 23 #[.int .u8 m.a, .int .u8 m.b, .int .u8 m.c, .int .u8 m.d, .int .u8 m.e, .int .u8 m.f] := R2.out.2.1.set
  have z3 : RvAt (W2.setRow (W.heap.size + 1) #[.int .u8 m.a, .int .u8 m.b, .int .u8 m.c, .int .u8 m.d, .int .u8 m.e, .int .u8 m.f]) W.heap.size 23 #[.int .u8 0, .int .u8 0, .int .u8 0, .int .u8 0, .int .u8 0, .int .u8 0] := (setRow_other _ _ _ _ (by omega)).trans R2.out.1
  obtain ⟨W3, hW3⟩ : ∃ V, W2.setRow (W.heap.size + 1) #[.int .u8 m.a, .int .u8 m.b, .int .u8 m.c, .int .u8 m.d, .int .u8 m.e, .int .u8 m.f] = V := ⟨_, rfl⟩
  have HM : Hid (m6 l 0 = m) := hm
  clear hm
  rw [hW3] at k3 s3 y3 z3 ⊢
  have ld3 := y3.ld rt23 rfl
  have st3 := z3.st (ds := #[.int .u8 m.a, .int .u8 m.b, .int .u8 m.c, .int .u8 m.d, .int .u8 m.e, .int .u8 m.f]) rt23 rfl rfl m.one
  have HZ : Hid (RvAt (W3.setRow W.heap.size #[.int .u8 m.a, .int .u8 m.b, .int .u8 m.c, .int .u8 m.d, .int .u8 m.e, .int .u8 m.f]) W.heap.size 23 #[.int .u8 m.a, .int .u8 m.b, .int .u8 m.c, .int .u8 m.d, .int .u8 m.e, .int .u8 m.f] ∧ Wk W b (W3.setRow W.heap.size #[.int .u8 m.a, .int .u8 m.b, .int .u8 m.c, .int .u8 m.d, .int .u8 m.e, .int .u8 m.f]) ∧ Wst w (W3.setRow W.heap.size #[.int .u8 m.a, .int .u8 m.b, .int .u8 m.c, .int .u8 m.d, .int .u8 m.e, .int .u8 m.f]) b (l.drop 6) g B (o + 6) (n - 6) (c - 6)) := ⟨z3.set, ⟨k3.lo.trans (below_setRow (Below.refl _ _) (by have := HL.out.2; omega) _), fun k hk hs => by rw [setRow_other _ _ _ _ (by omega)]; exact k3.hi k hk hs⟩, ⟨(setRow_other _ _ _ _ (by have := HL.out.2; omega)).trans s3.at', s3.src, below_setRow s3.below (by have := HL.out.2; have := s3.le; omega) _, s3.le⟩⟩
  clear k3 s3 y3 z3 hW3 R2 S2 HV HW HL
  go_wp2
  refine bodyPost_ret (results_row rt23 Try.results38 _ _ _ _ rfl HZ.out.1 rfl) rfl ?_
  exact ⟨by rw [HM.out]; rfl, HZ.out.2.2, HZ.out.2.1⟩
end Go.Proofs.Yteljcgdenagcmaa
