/-
  What the statements themselves do: short, few, the example, rows held against each other: the walks, for every input.
-/
import Derived.Test.YtcagdfdhpbeolaaEns
import Derived.Test.YtcagdfdhpbeolaaRTr
namespace Go.Proofs.Ytcagdfdhpbeolaa
set_option linter.unusedVariables false
set_option maxRecDepth 8000
set_option linter.unusedSimpArgs false
open Go.RowKit

/-- A part of a slice. -/
def slS (t : TypeId) (x : Value) (lo hi mx : Option Value) : Sem Value := Instr.sliceAt t x lo hi mx
theorem slU (x : Value) (lo hi mx : Option Value) : Instr.sliceAt 22 x lo hi mx = slS 22 x lo hi mx := rfl
theorem slE (x : Value) (lo hi mx : Option Value) : Instr.sliceAt 23 x lo hi mx = slS 23 x lo hi mx := rfl
theorem SlAt.cut {α : Type} {e : El α} (k : e.Ok) {W : World} {a : Option Addr} {n c : Nat} {l : List α} (h : SlAt e W a n c l) {m : Nat} (hm : m ≤ n) : SlAt e W a m c (l.take m) := by
  refine ⟨by rw [List.length_take, h.len]; omega, by have := h.cap; omega, h.max, fun e => ⟨by have := (h.nil e).1; omega, (h.nil e).2⟩, fun x hx h0 => ?_⟩
  obtain ⟨b, o, e', hc⟩ := h.cells x hx (by omega)
  refine ⟨b, o, e', fun j u hj => hc j u ?_⟩
  rw [El.fl_get k] at hj ⊢
  rw [List.getElem?_take] at hj
  split at hj
  · exact hj
  · cases hj
theorem slU_cut (a : Option Addr) (n c m : Nat) (hm : m ≤ n) (hc : n ≤ c) (V : World) : (slS 22 (.slice a n c) none (some (.int .i64 m)) none).run Try.prog V = .ok (.slice a m c) V := by
  have hin : (m : Int) ≤ (c : Int) := by omega
  have hz := Try.sizeOf53
  have hu : Try.prog.underlying 22 = some (.slice 53) := Try.underlying22
  unfold slS
  simp only [Instr.sliceAt, Sem.run_bind, run_underlying hu, Result.andThen_ok]
  simp only [Instr.slice, Sem.run_bind, run_underlying hu, Result.andThen_ok, Instr.sliceBounds, Sem.run_pure]
  rw [run_sliceBound V .i64 (m : Int) c _ (by omega) hin]
  simp only [Result.andThen_ok, Sem.run_pure, hz V, Int.toNat_natCast]
  cases a <;> simp [Addr.add]
theorem slE_cut (a : Option Addr) (n c m : Nat) (hm : m ≤ n) (hc : n ≤ c) (V : World) : (slS 23 (.slice a n c) none (some (.int .i64 m)) none).run Try.prog V = .ok (.slice a m c) V := by
  have hin : (m : Int) ≤ (c : Int) := by omega
  have hz := Try.sizeOf50
  have hu : Try.prog.underlying 23 = some (.slice 50) := Try.underlying23
  unfold slS
  simp only [Instr.sliceAt, Sem.run_bind, run_underlying hu, Result.andThen_ok]
  simp only [Instr.slice, Sem.run_bind, run_underlying hu, Result.andThen_ok, Instr.sliceBounds, Sem.run_pure]
  rw [run_sliceBound V .i64 (m : Int) c _ (by omega) hin]
  simp only [Result.andThen_ok, Sem.run_pure, hz V, Int.toNat_natCast]
  cases a <;> simp [Addr.add]
attribute [local go_sem ↓] slU slE
set_option maxHeartbeats 1000000 in
theorem short_any (a : Option Addr) (n c : Nat) (l : List Nat) (w : World) (hs : SlAt eU w a n c l) :
    Calls Try.prog 9 #[.slice a n c] w fun r w' => (∃ m, r = .returned (.slice a m c) ∧ m ≤ 9 ∧ SlAt eU w' a m c (l.take 9)) ∧ Below w.heap.size w w' := by
  have hnn := hs.int
  by_cases hn : n ≤ 9
  · have F : Hid (SlAt eU w a n c (l.take 9) ∧ n ≤ 9) := ⟨by rw [List.take_of_length_le (by rw [hs.len]; exact hn)]; exact hs, hn⟩
    have hni : ¬ (9 : Int) < (n : Int) := by omega
    clear hs hn
    go_enter Try.func9, Try.ntmps9
    go_wp2
    go_ret
    exact ⟨⟨_, rfl, F.out.2, F.out.1⟩, Below.refl _ _⟩
  · have sl : ∀ V : World, (slS 22 (.slice a n c) none (some (.int .i64 9)) none).run Try.prog V = .ok (.slice a 9 c) V := slU_cut a n c 9 (by omega) hs.cap
    have F : Hid (SlAt eU w a 9 c (l.take 9)) := hs.cut kU (by omega)
    have hni : (9 : Int) < (n : Int) := by omega
    clear hs hn
    go_enter Try.func9, Try.ntmps9
    go_wp2
    go_ret
    exact ⟨⟨_, rfl, by omega, F.out⟩, Below.refl _ _⟩
set_option maxHeartbeats 1000000 in
theorem few_any (a : Option Addr) (n c : Nat) (l : List Eg) (w : World) (hs : SlAt eE w a n c l) :
    Calls Try.prog 10 #[.slice a n c] w fun r w' => (∃ m, r = .returned (.slice a m c) ∧ m ≤ 26 ∧ SlAt eE w' a m c (l.take 26)) ∧ Below w.heap.size w w' := by
  have hnn := hs.int
  by_cases hn : n ≤ 26
  · have F : Hid (SlAt eE w a n c (l.take 26) ∧ n ≤ 26) := ⟨by rw [List.take_of_length_le (by rw [hs.len]; exact hn)]; exact hs, hn⟩
    have hni : ¬ (26 : Int) < (n : Int) := by omega
    clear hs hn
    go_enter Try.func10, Try.ntmps10
    go_wp2
    go_ret
    exact ⟨⟨_, rfl, F.out.2, F.out.1⟩, Below.refl _ _⟩
  · have sl : ∀ V : World, (slS 23 (.slice a n c) none (some (.int .i64 26)) none).run Try.prog V = .ok (.slice a 26 c) V := slE_cut a n c 26 (by omega) hs.cap
    have F : Hid (SlAt eE w a 26 c (l.take 26)) := hs.cut kE (by omega)
    have hni : (26 : Int) < (n : Int) := by omega
    clear hs hn
    go_enter Try.func10, Try.ntmps10
    go_wp2
    go_ret
    exact ⟨⟨_, rfl, by omega, F.out⟩, Below.refl _ _⟩
/-! ### the example -/
set_option maxHeartbeats 400000 in
theorem edge_any (a pa b pb : Int) (w : World) : Calls Try.prog 37 #[.int .i64 a, .int .i64 pa, .int .i64 b, .int .i64 pb] w fun r w' => r = .returned (.agg (Eg.mk a pa b pb 10 10).cs) ∧ Below w.heap.size w w' := by
  show Calls Try.prog 37 #[.int .i64 a, .int .i64 pa, .int .i64 b, .int .i64 pb] w fun r w' => r = .returned (.agg #[.int .i64 a, .int .i64 pa, .int .i64 b, .int .i64 pb, .int .u32 10, .int .u32 10]) ∧ _
  go_enter Try.func37, Try.ntmps37
  go_wp2
  go_returns
  exact ⟨rfl, by go_grown⟩
def L0 : List Ne := [⟨0, 0, 1, 0, 10, 10⟩, ⟨1, 1, 2, 0, 10, 10⟩, ⟨2, 1, 0, 1, 10, 10⟩]
theorem tree0 : treeF [1, 2, 3] L0 = [0, 2] := by decide +kernel
theorem chk0 : chkI [1, 2, 3] (L0.map Ne.eg) = true := by decide +kernel
theorem bsU (n : Nat) (ps : Array (Nat × Value)) : Instr.buildSlice 22 n ps = bsS 22 n ps := rfl
theorem bsU3 (w : World) : (bsS 22 3 #[(0, .int .u64 1), (1, .int .u64 2), (2, .int .u64 3)]).run Try.prog w = .ok (.slice (some ⟨w.heap.size, 0, none⟩) 3 3) (w.alloc (.cells #[.int .u64 1, .int .u64 2, .int .u64 3] 53)) := by kernel_rfl
theorem bsE3 (x y z : Eg) (w : World) : (bsS 23 3 #[(0, .agg x.cs), (1, .agg y.cs), (2, .agg z.cs)]).run Try.prog w = .ok (.slice (some ⟨w.heap.size, 0, none⟩) 3 3) (w.alloc (.cells (x.cs ++ y.cs ++ z.cs) 50)) := by kernel_rfl
theorem sl_new {α : Type} {e : El α} (k : e.Ok) (W : World) (l : List α) (cs : Array Value) (h : cs.toList = e.fl l) (hl : l.length ≤ 100) : SlAt e (W.alloc (.cells cs e.ty)) (some ⟨W.heap.size, 0, none⟩) l.length l.length l := by
  refine ⟨rfl, Nat.le_refl _, by unfold maxLen; omega, (fun e => by cases e), fun y e' _ => ?_⟩
  cases e'
  refine ⟨_, _, rfl, fun j u hj => ?_⟩
  rw [Nat.zero_add]
  refine RvAt.cell (RvAt.new W e.ty cs) j u ?_
  rw [← h] at hj
  rw [← Array.getElem?_toList]
  exact hj
attribute [local go_sem ↓] bsU bsE
set_option maxHeartbeats 4000000 in
theorem awake_any (w : World) : Calls Try.prog 16 #[] w fun r w' => r = .returned (.bool true) ∧ Below w.heap.size w w' := by
  have u3 := bsU3 w
  obtain ⟨W, hW⟩ : ∃ W, w.alloc (.cells #[.int .u64 1, .int .u64 2, .int .u64 3] 53) = W := ⟨_, rfl⟩
  have bW : Below w.heap.size w W := by rw [← hW]; exact (Below.refl _ _).alloc (Nat.le_refl _) _
  have hU : SlAt eU W (some ⟨w.heap.size, 0, none⟩) 3 3 [1, 2, 3] := by rw [← hW]; exact sl_new kU w [1, 2, 3] _ rfl (by decide)
  have H : Hid (SlAt eU W (some ⟨w.heap.size, 0, none⟩) 3 3 [1, 2, 3] ∧ Below w.heap.size w W) := ⟨hU, bW⟩
  rw [hW] at u3
  clear bW hU hW
  go_enter Try.func16, Try.ntmps16
  go_wp2_with fail
  refine (edge_any 0 0 1 0 W).mono ?_
  rintro _ W1 ⟨rfl, b1⟩
  have B1 : Hid (Below W.heap.size W W1) := b1
  clear b1
  go_wp2_with fail
  refine (edge_any 1 1 2 0 W1).mono ?_
  rintro _ W2 ⟨rfl, b2⟩
  have B2 : Hid (Below W.heap.size W W2) := below_over B1.out b2
  clear b2
  go_wp2_with fail
  refine (edge_any 2 1 0 1 W2).mono ?_
  rintro _ W3 ⟨rfl, b3⟩
  have e3 := bsE3 ⟨0, 0, 1, 0, 10, 10⟩ ⟨1, 1, 2, 0, 10, 10⟩ ⟨2, 1, 0, 1, 10, 10⟩ W3
  obtain ⟨W4, hW4⟩ : ∃ V, W3.alloc (.cells ((Eg.mk 0 0 1 0 10 10).cs ++ (Eg.mk 1 1 2 0 10 10).cs ++ (Eg.mk 2 1 0 1 10 10).cs) 50) = V := ⟨_, rfl⟩
  have b4 : Below W3.heap.size W3 W4 := by rw [← hW4]; exact (Below.refl _ _).alloc (Nat.le_refl _) _
  have hE : SlAt eE W4 (some ⟨W3.heap.size, 0, none⟩) 3 3 (L0.map Ne.eg) := by rw [← hW4]; exact sl_new kE W3 (L0.map Ne.eg) _ rfl (by decide)
  have B4 : Hid (Below W.heap.size W W4 ∧ SlAt eE W4 (some ⟨W3.heap.size, 0, none⟩) 3 3 (L0.map Ne.eg)) := ⟨below_over (below_over B2.out b3) b4, hE⟩
  rw [hW4] at e3
  obtain ⟨z, hz⟩ : ∃ z, W3.heap.size = z := ⟨_, rfl⟩
  rw [hz] at B4 e3
  clear b3 b4 hE hW4 hz
  go_wp2_with fail
  refine (tree_any (some ⟨w.heap.size, 0, none⟩) 3 3 [1, 2, 3] (some ⟨z, 0, none⟩) 3 3 (L0.map Ne.eg) W4 (H.out.1.below B4.out.1) B4.out.2 (by decide +kernel) (by decide) (by decide)).mono ?_
  rintro _ W5 ⟨⟨a2, n2, c2, N, rfl, hN, hO⟩, b5⟩
  have hT : N = [0, 2] := by
    rcases hO with ⟨h0, _⟩ | ⟨L', hL', _, _, hN'⟩
    · rw [chk0] at h0; cases h0
    · have : L0 = L' := by
        have inj : ∀ (x y : Ne), x.eg = y.eg → x = y := fun x y e => by
          cases x; cases y
          simp only [Ne.eg, Eg.mk.injEq] at e
          simp only [Ne.mk.injEq]
          omega
        refine List.ext_getElem? fun i => ?_
        have := congrArg (fun l => l[i]?) hL'
        simp only [List.getElem?_map] at this
        cases h1 : L0[i]? with
        | none =>
          rw [h1] at this
          cases h2 : L'[i]? with
          | none => rfl
          | some y => rw [h2] at this; cases this
        | some x =>
          rw [h1] at this
          cases h2 : L'[i]? with
          | none => rw [h2] at this; cases this
          | some y =>
            rw [h2] at this
            simp only [Option.map_some, Option.some.injEq] at this
            rw [inj x y this]
      rw [hN', ← this]
      exact tree0
  subst hT
  have hn2 : n2 = 2 := hN.len.symm
  subst hn2
  rw [err_ok chk0]
  obtain ⟨b, o, rfl⟩ := hN.some' (by omega)
  have c0 := hN.cell kI (i := 0) (j := 0) (q := o) (x := 0) (v := .int .i64 0) rfl rfl (by show o = o + (0 * 1 + 0); omega)
  have c1 := hN.cell kI (i := 1) (j := 0) (q := o + 1) (x := 2) (v := .int .i64 2) rfl rfl (by show o + 1 = o + (1 * 1 + 0); omega)
  have B5 : Hid (Below w.heap.size w W5) := below_over (below_over H.out.2 B4.out.1) b5
  clear hN hO b5 e3 u3
  go_wp2
  go_ret
  exact ⟨rfl, B5.out⟩
theorem cN0 {W : World} {b o n c i : Nat} {l : List Nd} {x : Nd} (h : SlAt eN W (some ⟨b, o, none⟩) n c l) (hx : l[i]? = some x) : W.cell? ⟨b, o + i * 3, none⟩ = some (.int .u64 (x.r : Int)) := h.cell kN (j := 0) hx rfl (by show o + i * 3 = o + (i * 3 + 0); omega)
theorem cN1 {W : World} {b o n c i : Nat} {l : List Nd} {x : Nd} (h : SlAt eN W (some ⟨b, o, none⟩) n c l) (hx : l[i]? = some x) : W.cell? ⟨b, o + i * 3 + 1, none⟩ = some (.int .u32 (x.c : Int)) := h.cell kN (j := 1) hx rfl (by show o + i * 3 + 1 = o + (i * 3 + 1); omega)
theorem cN2 {W : World} {b o n c i : Nat} {l : List Nd} {x : Nd} (h : SlAt eN W (some ⟨b, o, none⟩) n c l) (hx : l[i]? = some x) : W.cell? ⟨b, o + i * 3 + 2, none⟩ = some (.int .i64 x.p) := h.cell kN (j := 2) hx rfl (by show o + i * 3 + 2 = o + (i * 3 + 2); omega)
theorem cX0 {W : World} {b o n c i : Nat} {l : List En} {x : En} (h : SlAt eX W (some ⟨b, o, none⟩) n c l) (hx : l[i]? = some x) : W.cell? ⟨b, o + i * 7, none⟩ = some (.int .i64 x.b) := h.cell kX (j := 0) hx rfl (by show o + i * 7 = o + (i * 7 + 0); omega)
theorem cX1 {W : World} {b o n c i : Nat} {l : List En} {x : En} (h : SlAt eX W (some ⟨b, o, none⟩) n c l) (hx : l[i]? = some x) : W.cell? ⟨b, o + i * 7 + 1, none⟩ = some (.int .i64 x.p) := h.cell kX (j := 1) hx rfl (by show o + i * 7 + 1 = o + (i * 7 + 1); omega)
theorem cX2 {W : World} {b o n c i : Nat} {l : List En} {x : En} (h : SlAt eX W (some ⟨b, o, none⟩) n c l) (hx : l[i]? = some x) : W.cell? ⟨b, o + i * 7 + 2, none⟩ = some (.int .i64 x.o) := h.cell kX (j := 2) hx rfl (by show o + i * 7 + 2 = o + (i * 7 + 2); omega)
theorem vX {W : World} {b o n c i : Nat} {l : List En} {x : En} (h : SlAt eX W (some ⟨b, o, none⟩) n c l) (hx : l[i]? = some x) : (ldS 56 (.pointer (some ⟨b, o + i * 7 + 3, none⟩))).run Try.prog W = .ok (.agg x.v.cs) W := h.part kX (j := 3) hx (fun r v hv => by match r, hv with | 0, hv => exact hv | 1, hv => exact hv | 2, hv => exact hv | 3, hv => exact hv | r + 4, hv => exact absurd hv (by simp [V4.cs])) Try.underlying56 rfl infoV (by show o + i * 7 + 3 = o + (i * 7 + 3); omega)
theorem cI0 {W : World} {b o n c i : Nat} {l : List Int} {x : Int} (h : SlAt eI W (some ⟨b, o, none⟩) n c l) (hx : l[i]? = some x) : W.cell? ⟨b, o + i, none⟩ = some (.int .i64 x) := h.cell kI (j := 0) hx rfl (by show o + i = o + (i * 1 + 0); omega)
theorem take_u {ids : List Nat} (h : ∀ x ∈ ids, x < 18446744073709551616) (m : Nat) : ∀ x ∈ ids.take m, x < 18446744073709551616 := fun x hx => h x (List.mem_of_mem_take hx)
/-- What every statement begins with: a few numbers, a few edges. -/
structure GS (W0 W : World) (a : Option Addr) (n c : Nat) (a' : Option Addr) (n' c' : Nat) (ids : List Nat) (es : List Eg) : Prop where
  sl : SlAt eU W a n c ids
  ed : SlAt eE W a' n' c' es
  u64 : ∀ x ∈ ids, x < 18446744073709551616
  n9 : n ≤ 9
  m26 : n' ≤ 26
  bel : Below W0.heap.size W0 W
theorem GS.below {W0 W V : World} {a : Option Addr} {n c : Nat} {a' : Option Addr} {n' c' : Nat} {ids : List Nat} {es : List Eg} (h : GS W0 W a n c a' n' c' ids es) (k : Below W.heap.size W V) : GS W0 V a n c a' n' c' ids es := ⟨h.sl.below k, h.ed.below k, h.u64, h.n9, h.m26, below_over h.bel k⟩
/-! ### rows held against each other -/
theorem nodO_one {ids : List Nat} {es : List Eg} {N M : List Nd} (h : nodO ids es N) (k : nodO ids es M) : N = M := by
  rcases h with ⟨h0, rfl⟩ | ⟨L, rfl, _, hc, rfl⟩
  · rcases k with ⟨_, rfl⟩ | ⟨L, rfl, _, hc, rfl⟩
    · rfl
    · rw [hc] at h0; cases h0
  · exact (nodO_is k hc).symm
theorem endO_one {ids : List Nat} {es : List Eg} {N M : List En} (h : endO ids es N) (k : endO ids es M) : N = M := by
  rcases h with ⟨h0, rfl⟩ | ⟨L, rfl, _, hc, rfl⟩
  · rcases k with ⟨_, rfl⟩ | ⟨L, rfl, _, hc, rfl⟩
    · rfl
    · rw [hc] at h0; cases h0
  · exact (endO_is k hc).symm
theorem treO_one {ids : List Nat} {es : List Eg} {N M : List Int} (h : treO ids es N) (k : treO ids es M) : N = M := by
  rcases h with ⟨h0, rfl⟩ | ⟨L, rfl, _, hc, rfl⟩
  · rcases k with ⟨_, rfl⟩ | ⟨L, rfl, _, hc, rfl⟩
    · rfl
    · rw [hc] at h0; cases h0
  · exact (treO_is k hc).symm
theorem cM0 {W : World} {b o n c i : Nat} {l : List Nd} {x : Nd} (h : SlAt eM W (some ⟨b, o, none⟩) n c l) (hx : l[i]? = some x) : W.cell? ⟨b, o + i * 3, none⟩ = some (.int .u64 (x.r : Int)) := h.cell kM (j := 0) hx rfl (by show o + i * 3 = o + (i * 3 + 0); omega)
theorem cM1 {W : World} {b o n c i : Nat} {l : List Nd} {x : Nd} (h : SlAt eM W (some ⟨b, o, none⟩) n c l) (hx : l[i]? = some x) : W.cell? ⟨b, o + i * 3 + 1, none⟩ = some (.int .u32 (x.c : Int)) := h.cell kM (j := 1) hx rfl (by show o + i * 3 + 1 = o + (i * 3 + 1); omega)
theorem cM2 {W : World} {b o n c i : Nat} {l : List Nd} {x : Nd} (h : SlAt eM W (some ⟨b, o, none⟩) n c l) (hx : l[i]? = some x) : W.cell? ⟨b, o + i * 3 + 2, none⟩ = some (.int .i64 x.p) := h.cell kM (j := 2) hx rfl (by show o + i * 3 + 2 = o + (i * 3 + 2); omega)
theorem cY0 {W : World} {b o n c i : Nat} {l : List En} {x : En} (h : SlAt eY W (some ⟨b, o, none⟩) n c l) (hx : l[i]? = some x) : W.cell? ⟨b, o + i * 7, none⟩ = some (.int .i64 x.b) := h.cell kY (j := 0) hx rfl (by show o + i * 7 = o + (i * 7 + 0); omega)
theorem cY1 {W : World} {b o n c i : Nat} {l : List En} {x : En} (h : SlAt eY W (some ⟨b, o, none⟩) n c l) (hx : l[i]? = some x) : W.cell? ⟨b, o + i * 7 + 1, none⟩ = some (.int .i64 x.p) := h.cell kY (j := 1) hx rfl (by show o + i * 7 + 1 = o + (i * 7 + 1); omega)
theorem cY2 {W : World} {b o n c i : Nat} {l : List En} {x : En} (h : SlAt eY W (some ⟨b, o, none⟩) n c l) (hx : l[i]? = some x) : W.cell? ⟨b, o + i * 7 + 2, none⟩ = some (.int .i64 x.o) := h.cell kY (j := 2) hx rfl (by show o + i * 7 + 2 = o + (i * 7 + 2); omega)
theorem vY {W : World} {b o n c i : Nat} {l : List En} {x : En} (h : SlAt eY W (some ⟨b, o, none⟩) n c l) (hx : l[i]? = some x) : (ldS 56 (.pointer (some ⟨b, o + i * 7 + 3, none⟩))).run Try.prog W = .ok (.agg x.v.cs) W := h.part kY (j := 3) hx (fun r v hv => by match r, hv with | 0, hv => exact hv | 1, hv => exact hv | 2, hv => exact hv | 3, hv => exact hv | r + 4, hv => exact absurd hv (by simp [V4.cs])) Try.underlying56 rfl infoV (by show o + i * 7 + 3 = o + (i * 7 + 3); omega)
set_option maxHeartbeats 4000000 in
theorem sameNodes_any (a : Option Addr) (n c : Nat) (a2 : Option Addr) (c2 : Nat) (l : List Nd) (w : World) (hs : SlAt eN w a n c l) (ht : SlAt eM w a2 n c2 l) :
    Calls Try.prog 15 #[.slice a n c, .slice a2 n c2] w fun r w' => r = .returned (.bool true) ∧ Below w.heap.size w w' := by
  have hnn := hs.int
  have H : Hid (SlAt eN w a n c l ∧ SlAt eM w a2 n c2 l ∧ l.length = n) := ⟨hs, ht, hs.len⟩
  clear hs ht
  go_enter Try.func15, Try.ntmps15
  go_wp2_with fail
  go_loopw [5] (fun v5 wr => ∃ i : Nat, i ≤ n ∧ v5 = .int .i64 i ∧ Below w.heap.size w wr) (fun v5 _ => n - (intOf v5).toNat)
  case atStart => exact ⟨0, by omega, rfl, Below.refl _ _⟩
  case round =>
    obtain ⟨i, hi, rfl, hB⟩ := hrel
    have J : Hid (Below w.heap.size w wr) := hB
    have hi0 : (0 : Int) ≤ (i : Int) := by omega
    by_cases hit : i < n
    · have hi1 : (i : Int) < (n : Int) := by omega
      have hil : i < l.length := by rw [H.out.2.2]; exact hit
      obtain ⟨b, o, rfl⟩ := H.out.1.some' (by omega)
      obtain ⟨b2, o2, rfl⟩ := H.out.2.1.some' (by omega)
      obtain ⟨x, hx⟩ := lt_nth hil
      have l0 := fun q : Later wr => cN0 ((H.out.1.below hB).below q.below) hx
      have l1 := fun q : Later wr => cN1 ((H.out.1.below hB).below q.below) hx
      have l2 := fun q : Later wr => cN2 ((H.out.1.below hB).below q.below) hx
      have r0 := fun q : Later wr => cM0 ((H.out.2.1.below hB).below q.below) hx
      have r1 := fun q : Later wr => cM1 ((H.out.2.1.below hB).below q.below) hx
      have r2 := fun q : Later wr => cM2 ((H.out.2.1.below hB).below q.below) hx
      clear hB hx hil
      go_wp2_with fail
      refine wp_region_later (by kernel_rfl) (by kernel_rfl) ?_
      repeat (go_big_quiet_step (first | exact rfl))
      refine wpQuiet_nil ?_
      intro _ hw'
      obtain ⟨q, rfl⟩ := hw'
      go_wp2
      go_roundw
      case rel => exact ⟨i + 1, by omega, by go_num, below_later J.out q⟩
      case measure => simp [intOf]; omega
    · have hin : i = n := by omega
      subst hin
      have hi1 : ¬ (i : Int) < (i : Int) := by omega
      clear hB
      go_wp2
      go_ret
      exact ⟨rfl, J.out⟩
attribute [local go_sem ↓] ldV eqgV neqV
set_option maxHeartbeats 4000000 in
theorem sameEnds_any (a : Option Addr) (n c : Nat) (a2 : Option Addr) (c2 : Nat) (l : List En) (w : World) (hs : SlAt eX w a n c l) (ht : SlAt eY w a2 n c2 l) :
    Calls Try.prog 21 #[.slice a n c, .slice a2 n c2] w fun r w' => r = .returned (.bool true) ∧ Below w.heap.size w w' := by
  have hnn := hs.int
  have H : Hid (SlAt eX w a n c l ∧ SlAt eY w a2 n c2 l ∧ l.length = n) := ⟨hs, ht, hs.len⟩
  clear hs ht
  go_enter Try.func21, Try.ntmps21
  go_wp2_with fail
  go_loopw [5] (fun v5 wr => ∃ i : Nat, i ≤ n ∧ v5 = .int .i64 i ∧ Below w.heap.size w wr) (fun v5 _ => n - (intOf v5).toNat)
  case atStart => exact ⟨0, by omega, rfl, Below.refl _ _⟩
  case round =>
    obtain ⟨i, hi, rfl, hB⟩ := hrel
    have J : Hid (Below w.heap.size w wr) := hB
    have hi0 : (0 : Int) ≤ (i : Int) := by omega
    by_cases hit : i < n
    · have hi1 : (i : Int) < (n : Int) := by omega
      have hil : i < l.length := by rw [H.out.2.2]; exact hit
      obtain ⟨b, o, rfl⟩ := H.out.1.some' (by omega)
      obtain ⟨b2, o2, rfl⟩ := H.out.2.1.some' (by omega)
      obtain ⟨x, hx⟩ := lt_nth hil
      have l0 := fun q : Later wr => cX0 ((H.out.1.below hB).below q.below) hx
      have l1 := fun q : Later wr => cX1 ((H.out.1.below hB).below q.below) hx
      have l2 := fun q : Later wr => cX2 ((H.out.1.below hB).below q.below) hx
      have r0 := fun q : Later wr => cY0 ((H.out.2.1.below hB).below q.below) hx
      have r1 := fun q : Later wr => cY1 ((H.out.2.1.below hB).below q.below) hx
      have r2 := fun q : Later wr => cY2 ((H.out.2.1.below hB).below q.below) hx
      have lv := fun q : Later wr => vX ((H.out.1.below hB).below q.below) hx
      have rv := fun q : Later wr => vY ((H.out.2.1.below hB).below q.below) hx
      have ev : eqV x.v x.v = true := eqV_iff.2 rfl
      clear hB hx hil
      go_wp2_with fail
      refine wp_region_later (by kernel_rfl) (by kernel_rfl) ?_
      repeat (go_big_quiet_step (first | exact rfl))
      refine wpQuiet_nil ?_
      intro _ hw'
      obtain ⟨q, rfl⟩ := hw'
      go_wp2
      go_roundw
      case rel => exact ⟨i + 1, by omega, by go_num, below_later J.out q⟩
      case measure => simp [intOf]; omega
    · have hin : i = n := by omega
      subst hin
      have hi1 : ¬ (i : Int) < (i : Int) := by omega
      clear hB
      go_wp2
      go_ret
      exact ⟨rfl, J.out⟩
set_option maxHeartbeats 4000000 in
theorem sameInts_any (a : Option Addr) (n c : Nat) (a2 : Option Addr) (c2 : Nat) (l : List Int) (w : World) (hs : SlAt eI w a n c l) (ht : SlAt eI w a2 n c2 l) :
    Calls Try.prog 22 #[.slice a n c, .slice a2 n c2] w fun r w' => r = .returned (.bool true) ∧ Below w.heap.size w w' := by
  have hnn := hs.int
  have H : Hid (SlAt eI w a n c l ∧ SlAt eI w a2 n c2 l ∧ l.length = n) := ⟨hs, ht, hs.len⟩
  clear hs ht
  go_enter Try.func22, Try.ntmps22
  go_wp2_with fail
  go_loopw [5] (fun v5 wr => ∃ i : Nat, i ≤ n ∧ v5 = .int .i64 i ∧ Below w.heap.size w wr) (fun v5 _ => n - (intOf v5).toNat)
  case atStart => exact ⟨0, by omega, rfl, Below.refl _ _⟩
  case round =>
    obtain ⟨i, hi, rfl, hB⟩ := hrel
    have J : Hid (Below w.heap.size w wr) := hB
    have hi0 : (0 : Int) ≤ (i : Int) := by omega
    by_cases hit : i < n
    · have hi1 : (i : Int) < (n : Int) := by omega
      have hil : i < l.length := by rw [H.out.2.2]; exact hit
      obtain ⟨b, o, rfl⟩ := H.out.1.some' (by omega)
      obtain ⟨b2, o2, rfl⟩ := H.out.2.1.some' (by omega)
      obtain ⟨x, hx⟩ := lt_nth hil
      have l0 := fun q : Later wr => cI0 ((H.out.1.below hB).below q.below) hx
      have r0 := fun q : Later wr => cI0 ((H.out.2.1.below hB).below q.below) hx
      clear hB hx hil
      go_wp2_with fail
      refine wp_region_later (by kernel_rfl) (by kernel_rfl) ?_
      repeat (go_big_quiet_step (first | exact rfl))
      refine wpQuiet_nil ?_
      intro _ hw'
      obtain ⟨q, rfl⟩ := hw'
      go_wp2
      go_roundw
      case rel => exact ⟨i + 1, by omega, by go_num, below_later J.out q⟩
      case measure => simp [intOf]; omega
    · have hin : i = n := by omega
      subst hin
      have hi1 : ¬ (i : Int) < (i : Int) := by omega
      clear hB
      go_wp2
      go_ret
      exact ⟨rfl, J.out⟩
end Go.Proofs.Ytcagdfdhpbeolaa
