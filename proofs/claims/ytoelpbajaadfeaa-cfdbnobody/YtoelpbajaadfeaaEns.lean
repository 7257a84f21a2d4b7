/-
  Entries in memory: variables, slices of them; the order that All sorts by. Plain laws over the program's types.
-/
import Derived.Test.YtoelpbajaadfeaaAge
import Derived.Laws.AppendOwnNone
namespace Go.Proofs.Ytoelpbajaadfeaa
set_option linter.unusedVariables false
set_option maxRecDepth 4000
set_option linter.unusedSimpArgs false
open Go.RowKit

/-- An entry's cells. -/
def En.cl (x : En) : List Value := [.int .i64 x.k.vid, .int .u8 x.k.a, .int .u8 x.k.b, .int .u8 x.k.c, .int .u8 x.k.d, .int .u8 x.k.e, .int .u8 x.k.f, .int .u8 x.bm.a, .int .u8 x.bm.b, .int .u8 x.bm.c, .int .u8 x.bm.d, .int .u8 x.bm.e, .int .u8 x.bm.f, .int .i64 x.seen]
def En.cs (x : En) : Array Value := #[.int .i64 x.k.vid, .int .u8 x.k.a, .int .u8 x.k.b, .int .u8 x.k.c, .int .u8 x.k.d, .int .u8 x.k.e, .int .u8 x.k.f, .int .u8 x.bm.a, .int .u8 x.bm.b, .int .u8 x.bm.c, .int .u8 x.bm.d, .int .u8 x.bm.e, .int .u8 x.bm.f, .int .i64 x.seen]
theorem En.cl_cs (x : En) : x.cl.toArray = x.cs := rfl
theorem En.len (x : En) : x.cl.length = 14 := rfl
theorem En.csize (x : En) : x.cs.size = 14 := rfl
theorem En.one (x : En) : ∀ v ∈ x.cl, v.oneCell' = true := by
  intro v hv
  simp only [En.cl, List.mem_cons, List.not_mem_nil, or_false] at hv
  rcases hv with rfl | rfl | rfl | rfl | rfl | rfl | rfl | rfl | rfl | rfl | rfl | rfl | rfl | rfl <;> rfl
theorem infoE : (Try.prog.info? 51).map (·.size) = some 14 := by kernel_rfl
theorem rtE : RowTy 51 14 := ⟨infoE, _, Try.underlying51, rfl⟩
theorem ldE (x : Value) : Instr.loadAt 51 x = ldS 51 x := rfl
theorem stE (x y : Value) : Instr.storeAt 51 x y = stS 51 x y := rfl
/-- The address in an entry's variable. -/
theorem RvAt.emac {W : World} {b : Nat} {x : En} (h : RvAt W b 51 x.cs) : (ldS 38 (.pointer (some ⟨b, 1, none⟩))).run Try.prog W = .ok (.agg #[.int .u8 x.k.a, .int .u8 x.k.b, .int .u8 x.k.c, .int .u8 x.k.d, .int .u8 x.k.e, .int .u8 x.k.f]) W :=
  run_loadAt_mid W b 1 38 x.k.mc.toList _ (fun j v hv => h.cell _ _ (by
    match j, hv with
    | 0, hx => cases hx; rfl
    | 1, hx => cases hx; rfl
    | 2, hx => cases hx; rfl
    | 3, hx => cases hx; rfl
    | 4, hx => cases hx; rfl
    | 5, hx => cases hx; rfl
    | j + 6, hx => simp [Ky.mc] at hx)) Try.underlying38 rfl infoM
theorem RvAt.ebmac {W : World} {b : Nat} {x : En} (h : RvAt W b 51 x.cs) : (ldS 38 (.pointer (some ⟨b, 7, none⟩))).run Try.prog W = .ok (.agg x.bm.cs) W :=
  run_loadAt_mid W b 7 38 x.bm.cs.toList _ (fun j v hv => h.cell _ _ (by
    match j, hv with
    | 0, hx => cases hx; rfl
    | 1, hx => cases hx; rfl
    | 2, hx => cases hx; rfl
    | 3, hx => cases hx; rfl
    | 4, hx => cases hx; rfl
    | 5, hx => cases hx; rfl
    | j + 6, hx => simp [Ad.cs] at hx)) Try.underlying38 rfl infoM
theorem RvAt.kmac {W : World} {b : Nat} {k : Ky} (h : RvAt W b 74 k.cs) : (ldS 38 (.pointer (some ⟨b, 1, none⟩))).run Try.prog W = .ok (.agg #[.int .u8 k.a, .int .u8 k.b, .int .u8 k.c, .int .u8 k.d, .int .u8 k.e, .int .u8 k.f]) W := h.mac
/-! ### rows of entries, flat -/
theorem flat_get : ∀ (l : List En) (t : Nat), (l.flatMap En.cl)[t]? = (l[t / 14]?).bind (fun x => x.cl[t % 14]?)
  | [], t => by simp
  | x :: r, t => by
    rw [List.flatMap_cons]
    by_cases h : t < 14
    · rw [List.getElem?_append_left (by rw [En.len]; exact h), Nat.div_eq_of_lt h, Nat.mod_eq_of_lt h]
      rfl
    · rw [List.getElem?_append_right (by rw [En.len]; omega), En.len, flat_get r (t - 14)]
      have h1 : t / 14 = (t - 14) / 14 + 1 := by omega
      have h2 : (t - 14) % 14 = t % 14 := by omega
      rw [h1, h2, List.getElem?_cons_succ]
theorem flat_len (l : List En) : (l.flatMap En.cl).length = l.length * 14 := by
  induction l with
  | nil => rfl
  | cons x r ih => rw [List.flatMap_cons, List.length_append, ih, En.len, List.length_cons]; omega
theorem flat_one (l : List En) : ∀ v ∈ l.flatMap En.cl, v.oneCell' = true := by
  intro v hv
  obtain ⟨x, _, hx⟩ := List.mem_flatMap.1 hv
  exact x.one v hx
theorem flat_at {l : List En} {i k : Nat} {x : En} {v : Value} (hx : l[i]? = some x) (hv : x.cl[k]? = some v) (hk : k < 14) : (l.flatMap En.cl)[i * 14 + k]? = some v := by
  rw [flat_get, show (i * 14 + k) / 14 = i by omega, show (i * 14 + k) % 14 = k by omega, hx]
  exact hv
/-- The slice leads to the entries l. -/
structure SlAt (W : World) (a : Option Addr) (n c : Nat) (l : List En) : Prop where
  len : l.length = n
  cap : n ≤ c
  max : c ≤ maxLen
  nil : a = none → n = 0 ∧ c = 0
  blk : ∀ x, a = some x → x.block < W.heap.size
  cells : ∀ x, a = some x → ∃ b o, x = ⟨b, o, none⟩ ∧ ∀ j u, (l.flatMap En.cl)[j]? = some u → W.cell? ⟨b, o + j, none⟩ = some u
theorem SlAt.below {W W' : World} {a : Option Addr} {n c : Nat} {l : List En} (h : SlAt W a n c l) (hb : Below W.heap.size W W') : SlAt W' a n c l := by
  refine ⟨h.len, h.cap, h.max, h.nil, fun x hx => Nat.lt_of_lt_of_le (h.blk x hx) hb.size, fun x hx => ?_⟩
  obtain ⟨b, o, e, hc⟩ := h.cells x hx
  exact ⟨b, o, e, fun j u hj => (hb.cell (World.block_lt_of_cell? W _ (hc j u hj))).trans (hc j u hj)⟩
theorem SlAt.keptBut {W W' : World} {a : Option Addr} {n c : Nat} {l : List En} {row : Option Nat} (h : SlAt W a n c l) (hg : W.grownBy W' row) (hn : ∀ x, a = some x → some x.block ≠ row) : SlAt W' a n c l := by
  refine ⟨h.len, h.cap, h.max, h.nil, fun x hx => Nat.lt_of_lt_of_le (h.blk x hx) hg.size, fun x hx => ?_⟩
  obtain ⟨b, o, e, hc⟩ := h.cells x hx
  refine ⟨b, o, e, fun j u hj => ?_⟩
  subst e
  exact hg.cell (hc j u hj) (hn ⟨b, o, none⟩ hx)
theorem SlAt.none' (W : World) : SlAt W none 0 0 [] := ⟨rfl, Nat.le_refl _, by simp, fun _ => ⟨rfl, rfl⟩, (fun x h => by cases h), fun x h => by cases h⟩
theorem SlAt.some' {W : World} {a : Option Addr} {n c : Nat} {l : List En} (h : SlAt W a n c l) (hn : 0 < n) : ∃ b o, a = some ⟨b, o, none⟩ := by
  cases a with
  | none => have := (h.nil rfl).1; omega
  | some x =>
    obtain ⟨b, o, e, _⟩ := h.cells x rfl
    exact ⟨b, o, by rw [e]⟩
theorem SlAt.cell {W : World} {b o n c : Nat} {l : List En} (h : SlAt W (some ⟨b, o, none⟩) n c l) {i k : Nat} {x : En} {v : Value} (hx : l[i]? = some x) (hv : x.cl[k]? = some v) (hk : k < 14) : W.cell? ⟨b, o + i * 14 + k, none⟩ = some v := by
  obtain ⟨b', o', e, hc⟩ := h.cells _ rfl
  cases e
  rw [Nat.add_assoc]
  exact hc _ _ (flat_at hx hv hk)
theorem SlAt.ld {W : World} {b o n c : Nat} {l : List En} (h : SlAt W (some ⟨b, o, none⟩) n c l) {i : Nat} {x : En} (hx : l[i]? = some x) : (ldS 51 (.pointer (some ⟨b, o + i * 14, none⟩))).run Try.prog W = .ok (.agg x.cs) W :=
  run_loadAt_mid W b (o + i * 14) 51 x.cl _ (fun j v hv => h.cell hx hv (by
    rcases Nat.lt_or_ge j 14 with hj | hj
    · exact hj
    · rw [List.getElem?_eq_none (by rw [En.len]; exact hj)] at hv; cases hv)) Try.underlying51 rfl infoE
theorem SlAt.mac {W : World} {b o n c : Nat} {l : List En} (h : SlAt W (some ⟨b, o, none⟩) n c l) {i : Nat} {x : En} (hx : l[i]? = some x) : (ldS 38 (.pointer (some ⟨b, o + i * 14 + 1, none⟩))).run Try.prog W = .ok (.agg #[.int .u8 x.k.a, .int .u8 x.k.b, .int .u8 x.k.c, .int .u8 x.k.d, .int .u8 x.k.e, .int .u8 x.k.f]) W :=
  run_loadAt_mid W b (o + i * 14 + 1) 38 x.k.mc.toList _ (fun j v hv => by
    rw [Nat.add_assoc (o + i * 14) 1 j]
    refine h.cell hx (k := 1 + j) ?_ ?_
    · match j, hv with
      | 0, hx => cases hx; rfl
      | 1, hx => cases hx; rfl
      | 2, hx => cases hx; rfl
      | 3, hx => cases hx; rfl
      | 4, hx => cases hx; rfl
      | 5, hx => cases hx; rfl
      | j + 6, hx => simp [Ky.mc] at hx
    · rcases Nat.lt_or_ge j 6 with hj | hj
      · omega
      · rw [List.getElem?_eq_none (by simp [Ky.mc]; omega)] at hv; cases hv) Try.underlying38 rfl infoM
theorem SlAt.bmac {W : World} {b o n c : Nat} {l : List En} (h : SlAt W (some ⟨b, o, none⟩) n c l) {i : Nat} {x : En} (hx : l[i]? = some x) : (ldS 38 (.pointer (some ⟨b, o + i * 14 + 7, none⟩))).run Try.prog W = .ok (.agg x.bm.cs) W :=
  run_loadAt_mid W b (o + i * 14 + 7) 38 x.bm.cs.toList _ (fun j v hv => by
    rw [Nat.add_assoc (o + i * 14) 7 j]
    refine h.cell hx (k := 7 + j) ?_ ?_
    · match j, hv with
      | 0, hx => cases hx; rfl
      | 1, hx => cases hx; rfl
      | 2, hx => cases hx; rfl
      | 3, hx => cases hx; rfl
      | 4, hx => cases hx; rfl
      | 5, hx => cases hx; rfl
      | j + 6, hx => simp [Ad.cs] at hx
    · rcases Nat.lt_or_ge j 6 with hj | hj
      · omega
      · rw [List.getElem?_eq_none (by simp [Ad.cs]; omega)] at hv; cases hv) Try.underlying38 rfl infoM
/-- A slice of the call's own that holds the entries l. -/
def Own (W : World) (B : Nat) (v : Value) (l : List En) : Prop := W.ownsRow B 51 14 v l.length (l.flatMap En.cl)
theorem Own.form {W : World} {B : Nat} {v : Value} {l : List En} (h : Own W B v l) : ∃ a c, v = .slice a l.length c ∧ SlAt W a l.length c l ∧ ∀ x, a = some x → B ≤ x.block ∧ x.block < W.heap.size := by
  rcases h.2 with ⟨rfl, h0⟩ | ⟨g, cap, cur, rfl, hB, hb, h1, h2, h3, h4⟩
  · have : l = [] := List.eq_nil_of_length_eq_zero h0
    subst this
    exact ⟨none, 0, rfl, SlAt.none' W, fun x e => by cases e⟩
  · refine ⟨some ⟨g, 0, none⟩, cap, rfl, ⟨rfl, h1, h2, (fun e => by cases e), (fun x e => by cases e; exact lt_of_block hb), fun x e => ?_⟩, fun x e => ?_⟩
    · cases e
      refine ⟨g, 0, rfl, fun j u hj => ?_⟩
      rw [Nat.zero_add]
      refine cell_at hb j u ?_
      rw [← h4, List.getElem?_take] at hj
      split at hj
      · rw [← Array.getElem?_toList]; exact hj
      · cases hj
    · cases e
      exact ⟨hB, lt_of_block hb⟩
theorem Own.nil (W : World) (B : Nat) : Own W B (.slice none 0 0) [] := World.ownsRow_nil W B _ _
theorem Own.keptBut {W W' : World} {B : Nat} {v : Value} {l : List En} {row : Option Nat} (h : Own W B v l) (hg : W.grownBy W' row) (hne : v.ownBlock = none ∨ v.ownBlock ≠ row) : Own W' B v l := World.ownsRow.kept h hg hne
theorem Own.below {W W' : World} {B : Nat} {v : Value} {l : List En} (h : Own W B v l) (hb : Below W.heap.size W W') : Own W' B v l := by
  refine h.keptBut (grown_of_below hb none) ?_
  cases v.ownBlock <;> simp
theorem infoE3 : (Try.prog.info? 51).map (fun i => (i.zero, i.size, i.bytes)) = some (some (.agg #[.int .i64 0, .int .u8 0, .int .u8 0, .int .u8 0, .int .u8 0, .int .u8 0, .int .u8 0, .int .u8 0, .int .u8 0, .int .u8 0, .int .u8 0, .int .u8 0, .int .u8 0, .int .i64 0]), 14, 32) := by kernel_rfl
/-- append, at entries. -/
def apS (ty : TypeId) (xs : Array Value) : Sem Value := Builtin.append_ #[27, 27] ty xs
theorem apE (ty : TypeId) (xs : Array Value) : Builtin.append_ #[27, 27] ty xs = apS ty xs := rfl
/-- Entries appended to a slice of the call's own. -/
theorem Own.app {W : World} {B : Nat} {v : Value} {l m : List En} {a : Option Addr} {n c : Nat} (h : Own W B v l) (hs : SlAt W a n c m) (hl : l.length + m.length ≤ 100000) (hB : B ≤ W.heap.size) (ty : TypeId) :
    ∃ v' W', (apS ty #[v, .slice a n c]).run Try.prog W = .ok v' W' ∧ Own W' B v' (l ++ m) ∧ W.grownBy W' v.ownBlock := by
  obtain ⟨i0, hi, hz0, hz1, hz2⟩ := info_parts infoE3
  unfold apS
  cases a with
  | none =>
    obtain ⟨rfl, rfl⟩ := hs.nil rfl
    have hm : m = [] := List.eq_nil_of_length_eq_zero hs.len
    subst hm
    have hrun := run_append_owned_none (P := Try.prog) (w := W) B 27 ty 51 i0 14 Try.underlying27 hi v l.length _ h
    exact ⟨v, W, hrun, by rw [List.append_nil]; exact h, World.grownBy.refl _ _⟩
  | some x =>
    obtain ⟨b, o, rfl, hc⟩ := hs.cells x rfl
    obtain ⟨v', W', hrun, h1, h2, _⟩ := run_append_own (P := Try.prog) W B 27 ty 51 i0 _ 14 32 Try.underlying27 hi hz0 hz1 hz2 rfl (by decide) v l.length _ h ⟨b, o, none⟩ n c (m.flatMap En.cl) (by rw [flat_len, hs.len])
      (fun j u hj => by rw [Addr.add_lit]; exact hc j u hj) (flat_one m) (by have := hs.len; unfold maxLen; omega) (by have := hs.len; omega) hB
    refine ⟨v', W', hrun, ?_, h2⟩
    unfold Own
    rw [List.flatMap_append, List.length_append, hs.len]
    exact h1
/-- An entry alone in a new row. -/
theorem one_new (W : World) (x : En) : SlAt (W.alloc (.cells x.cs 51)) (some ⟨W.heap.size, 0, none⟩) 1 1 [x] := by
  refine ⟨rfl, Nat.le_refl _, by unfold maxLen; omega, (fun e => by cases e), (fun y e => by cases e; simp), fun y e => ?_⟩
  cases e
  refine ⟨_, _, rfl, fun j u hj => ?_⟩
  rw [Nat.zero_add]
  refine RvAt.cell (RvAt.new W 51 x.cs) j u ?_
  have : [x].flatMap En.cl = x.cl := by simp
  rw [this] at hj
  rw [← Array.getElem?_toList]
  exact hj
end Go.Proofs.Ytoelpbajaadfeaa
