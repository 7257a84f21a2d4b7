/-
  The definition: what a bridge tells, and all bridges: the walks of PortID, Told and Nodes, for every input.
-/
import Derived.Test.YtcagdfdhpbeolaaRRt
namespace Go.Proofs.Ytcagdfdhpbeolaa
set_option linter.unusedVariables false
set_option maxRecDepth 4000
set_option linter.unusedSimpArgs false
open Go.RowKit

set_option maxHeartbeats 400000 in
theorem portid_any (p : Nat) (w : World) (hp : p ≤ 7) : Calls Try.prog 43 #[.int .i64 (p : Int)] w fun r w' => r = .returned (.int .u16 (32769 + (p : Int))) ∧ Below w.heap.size w w' := by
  have h1 : -9223372036854775808 ≤ 32769 + (p : Int) ∧ 32769 + (p : Int) ≤ 9223372036854775807 := by omega
  have h2 := (p16 hp).2
  go_enter Try.func43, Try.ntmps43
  go_wp2
  go_ret
  exact ⟨rfl, Below.refl _ _⟩
/-- Numbers and nodes, as the definition keeps them. -/
structure TR (W : World) (a : Option Addr) (n c : Nat) (a2 : Option Addr) (c2 : Nat) (ids : List Nat) (L : List Ne) (p : Nat → Int) : Prop where
  sl : SlAt eU W a n c ids
  nds : SlAt eM W a2 n c2 (ndAt ids L p)
  ok : Gok ids L
  len : ids.length = n
theorem TR.below {W V : World} {a : Option Addr} {n c : Nat} {a2 : Option Addr} {c2 : Nat} {ids : List Nat} {L : List Ne} {p : Nat → Int} (h : TR W a n c a2 c2 ids L p) (k : Below W.heap.size W V) : TR V a n c a2 c2 ids L p := ⟨h.sl.below k, h.nds.below k, h.ok, h.len⟩
theorem TR.id {W : World} {b o n c : Nat} {a2 : Option Addr} {c2 : Nat} {ids : List Nat} {L : List Ne} {p : Nat → Int} (h : TR W (some ⟨b, o, none⟩) n c a2 c2 ids L p) {i : Nat} (hi : i < n) : W.cell? ⟨b, o + i, none⟩ = some (.int .u64 (idO ids i : Int)) := ldu h.sl (getD_at (by rw [h.len]; exact hi))
theorem TR.n0 {W : World} {a : Option Addr} {n c b o c2 : Nat} {ids : List Nat} {L : List Ne} {p : Nat → Int} (h : TR W a n c (some ⟨b, o, none⟩) c2 ids L p) {i : Nat} (hi : i < n) : W.cell? ⟨b, o + i * 3, none⟩ = some (.int .u64 (kr ids L i : Int)) := h.nds.cell kM (j := 0) (ndAt_at p (by rw [h.len]; exact hi)) rfl rfl
theorem TR.n1 {W : World} {a : Option Addr} {n c b o c2 : Nat} {ids : List Nat} {L : List Ne} {p : Nat → Int} (h : TR W a n c (some ⟨b, o, none⟩) c2 ids L p) {i : Nat} (hi : i < n) : W.cell? ⟨b, o + i * 3 + 1, none⟩ = some (.int .u32 (kc ids L i : Int)) := h.nds.cell kM (j := 1) (ndAt_at p (by rw [h.len]; exact hi)) rfl (by show o + i * 3 + 1 = o + (i * 3 + 1); omega)
theorem TR.n2 {W : World} {a : Option Addr} {n c b o c2 : Nat} {ids : List Nat} {L : List Ne} {p : Nat → Int} (h : TR W a n c (some ⟨b, o, none⟩) c2 ids L p) {i : Nat} (hi : i < n) : W.cell? ⟨b, o + i * 3 + 2, none⟩ = some (.int .i64 (p i)) := h.nds.cell kM (j := 2) (ndAt_at p (by rw [h.len]; exact hi)) rfl (by show o + i * 3 + 2 = o + (i * 3 + 2); omega)
attribute [local go_sem ↓] stV bdV
set_option maxHeartbeats 2000000 in
theorem rtold_any (a : Option Addr) (n c : Nat) (a2 : Option Addr) (c2 : Nat) (ids : List Nat) (L : List Ne) (p : Nat → Int) (i q : Nat) (w : World) (h : TR w a n c a2 c2 ids L p) (hi : i < n) (hq : q ≤ 7) :
    Calls Try.prog 28 #[.slice a n c, .slice a2 n c2, .int .i64 (i : Int), .int .i64 (q : Int)] w fun r w' => r = .returned (.agg (toldV ids L i q).cs) ∧ Below w.heap.size w w' := by
  obtain ⟨V, hV⟩ : ∃ W, w.alloc (.cells #[.int .u64 0, .int .u32 0, .int .u64 0, .int .u16 0] 56) = W := ⟨_, rfl⟩
  have bV : Below w.heap.size w V := by rw [← hV]; exact (Below.refl _ _).alloc (Nat.le_refl _) _
  have r0 : RvAt V w.heap.size 56 #[.int .u64 0, .int .u32 0, .int .u64 0, .int .u16 0] := by rw [← hV]; exact RvAt.new w _ _
  have hnn := h.sl.int
  obtain ⟨b, o, rfl⟩ := h.sl.some' (by omega)
  obtain ⟨b2, o2, rfl⟩ := h.nds.some' (by omega)
  have hi0 : (0 : Int) ≤ (i : Int) := by omega
  have hi1 : (i : Int) < (n : Int) := by omega
  have H : Hid (TR V (some ⟨b, o, none⟩) n c (some ⟨b2, o2, none⟩) c2 ids L p ∧ RvAt V w.heap.size 56 #[.int .u64 0, .int .u32 0, .int .u64 0, .int .u16 0] ∧ Below w.heap.size w V ∧ i < n ∧ q ≤ 7) := ⟨h.below bV, r0, bV, hi, hq⟩
  clear h r0 bV hi hq
  go_enter Try.func28, Try.ntmps28
  go_wp2_with fail
  have x0 := fun k : Later V => (H.out.1.below k.below).n0 H.out.2.2.2.1
  have x1 := fun k : Later V => (H.out.1.below k.below).n1 H.out.2.2.2.1
  have y1 := fun k : Later V => (H.out.1.below k.below).id H.out.2.2.2.1
  have bd := fun k : Later V => bdV_0 (kr ids L i : Int) (kc ids L i : Int) (idO ids i : Int) (32769 + (q : Int)) k.val
  have st := fun k : Later V => (H.out.2.1.below k.below).st rtV (ds := (toldV ids L i q).cs) rfl rfl (V4.one _)
  have TT : (V4.mk (kr ids L i : Int) (kc ids L i : Int) (idO ids i : Int) (32769 + (q : Int))).cs = (toldV ids L i q).cs := rfl
  rw [TT] at bd
  clear TT
  have P : Hid (∀ k : Later V, _) := fun k : Later V => portid_any q k.val H.out.2.2.2.2
  refine wp_region_later_tail 17 (by kernel_rfl) (by kernel_rfl) ?_
  simp only [List.take_succ_cons, List.take_zero, List.drop_succ_cons, List.drop_zero]
  repeat (go_big_quiet_step (first | exact rfl | (go_at_call 43; with_reducible exact Calls.later_of (P.out _))))
  refine wpQuiet_nil ?_
  intro k
  clear x0 x1 y1 bd P
  have G : Hid (RvAt (k.val.setRow w.heap.size (toldV ids L i q).cs) w.heap.size 56 (toldV ids L i q).cs ∧ Below w.heap.size w (k.val.setRow w.heap.size (toldV ids L i q).cs)) := ⟨(H.out.2.1.below k.below).set, below_setRow (below_later H.out.2.2.1 k) (Nat.le_refl _) _⟩
  go_wp2
  refine bodyPost_ret (results_row rtV Try.results28 _ _ _ _ rfl G.out.1 (V4.size _)) rfl ?_
  exact ⟨rfl, G.out.2⟩
/-! ### how root ports are found -/
/-- Root ports, and what was heard there, behind t sides. -/
def RB (ids : List Nat) (L : List Ne) (t : Nat) (q : Nat → Int) (b : List V4) : Prop :=
  b.length = ids.length ∧ ∀ i, i < ids.length → (isRoot ids L i → q i = -1) ∧ (¬ isRoot ids L i → (flt L i t = [] ∧ q i = -1) ∨ ∃ s ∈ flt L i t, q i = (s.pa : Int) ∧ gtV b i = hearV ids L s ∧ ∀ u ∈ flt L i t, vk (hearV ids L s) ≤ vk (hearV ids L u))
theorem flt_mem {L : List Ne} {i t : Nat} {s : Ne} (h : s ∈ flt L i t) : s ∈ sdl L ∧ s.a = i ∧ ∃ k, k < t ∧ (sdl L)[k]? = some s := by
  unfold flt at h
  rw [List.mem_filter, decide_eq_true_eq] at h
  obtain ⟨k, hk, e⟩ := List.mem_iff_getElem.1 h.1
  rw [List.length_take] at hk
  rw [List.getElem_take] at e
  have hs : (sdl L)[k]? = some s := by rw [List.getElem?_eq_getElem (by omega), e]
  exact ⟨List.mem_of_getElem? hs, by omega, k, by omega, hs⟩
theorem RB.start (ids : List Nat) (L : List Ne) : RB ids L 0 (fun _ => -1) (ids.map fun _ => zeroV) := ⟨List.length_map .., fun i _ => ⟨fun _ => rfl, fun _ => .inl ⟨rfl, rfl⟩⟩⟩
theorem gtV_set {b : List V4} {i : Nat} (h : i < b.length) (x : V4) (j : Nat) : gtV (b.set i x) j = if j = i then x else gtV b j := by
  unfold gtV
  rw [List.getD_eq_getElem?_getD, List.getD_eq_getElem?_getD, List.getElem?_set]
  by_cases e : i = j
  · subst e
    rw [if_pos rfl, if_pos rfl, if_pos h]
    rfl
  · rw [if_neg e, if_neg (fun e' => e e'.symm)]
theorem flt_other {L : List Ne} {i t : Nat} {s : Ne} (h : (sdl L)[t]? = some s) (e : i ≠ s.a) : flt L i (t + 1) = flt L i t := flt_no h (beq_eq_false_iff_ne.2 (by omega))
theorem flt_mine {L : List Ne} {t : Nat} {s : Ne} (h : (sdl L)[t]? = some s) : flt L s.a (t + 1) = flt L s.a t ++ [s] := flt_yes h (by simp)
/-- A side that changes nothing. -/
theorem RB.skip {ids : List Nat} {L : List Ne} {t : Nat} {q : Nat → Int} {b : List V4} {s : Ne} (h : RB ids L t q b) (hs : (sdl L)[t]? = some s) (hk : ¬ isRoot ids L s.a → ∃ u ∈ flt L s.a t, q s.a = (u.pa : Int) ∧ gtV b s.a = hearV ids L u ∧ vk (hearV ids L u) ≤ vk (hearV ids L s) ∧ ∀ v ∈ flt L s.a t, vk (hearV ids L u) ≤ vk (hearV ids L v)) : RB ids L (t + 1) q b := by
  refine ⟨h.1, fun i hi => ?_⟩
  by_cases e : i = s.a
  · subst e
    refine ⟨(h.2 _ hi).1, fun hr => ?_⟩
    obtain ⟨u, hu, h1, h2, h3, h4⟩ := hk hr
    rw [flt_mine hs]
    refine .inr ⟨u, List.mem_append_left _ hu, h1, h2, fun v hv => ?_⟩
    rcases List.mem_append.1 hv with hv | hv
    · exact h4 v hv
    · rw [List.mem_singleton.1 hv]; exact h3
  · rw [flt_other hs e]
    exact h.2 i hi
/-- A side that is heard better. -/
theorem RB.take {ids : List Nat} {L : List Ne} {t : Nat} {q : Nat → Int} {b : List V4} {s : Ne} (h : RB ids L t q b) (hs : (sdl L)[t]? = some s) (hi : s.a < ids.length) (hr : ¬ isRoot ids L s.a) (hk : ∀ u ∈ flt L s.a t, vk (hearV ids L s) ≤ vk (hearV ids L u)) : RB ids L (t + 1) (fun i => if i = s.a then (s.pa : Int) else q i) (b.set s.a (hearV ids L s)) := by
  refine ⟨by rw [List.length_set]; exact h.1, fun i hi' => ?_⟩
  rw [gtV_set (by rw [h.1]; exact hi)]
  by_cases e : i = s.a
  · subst e
    refine ⟨fun hr' => absurd hr' hr, fun _ => .inr ⟨s, by rw [flt_mine hs]; simp, by simp, by simp, fun u hu => ?_⟩⟩
    rw [flt_mine hs] at hu
    rcases List.mem_append.1 hu with hu | hu
    · exact hk u hu
    · rw [List.mem_singleton.1 hu]; exact Nat.le_refl _
  · rw [flt_other hs e]
    simp only [if_neg e]
    exact h.2 i hi'
theorem RB.done {ids : List Nat} {L : List Ne} {q : Nat → Int} {b : List V4} (g : Gok ids L) {t : Nat} (ht : 2 * L.length ≤ t) (h : RB ids L t q b) {i : Nat} (hi : i < ids.length) : q i = rpOf ids L i := by
  by_cases hr : isRoot ids L i
  · rw [(h.2 i hi).1 hr, rp_root hr]
  · obtain ⟨u, hb, e, _⟩ := rp_side g hi hr
    rcases (h.2 i hi).2 hr with ⟨h0, _⟩ | ⟨s, hs, h1, _, h3⟩
    · rw [flt_all ht] at h0
      exact absurd h0 (mine_ne g hi hr)
    · rw [flt_all ht] at hs h3
      have hm := mem_mine.1 hs
      have : Bst ids L i s := ⟨hm.1, hm.2, fun v hv hvi => h3 v (mem_mine.2 ⟨hv, hvi⟩)⟩
      rw [h1, e, Bst.one g this hb]
/-- No two sides hear alike. -/
theorem hear_ne {ids : List Nat} {L : List Ne} (g : Gok ids L) {t k : Nat} {s u : Ne} (hs : (sdl L)[t]? = some s) (hu : (sdl L)[k]? = some u) (hkt : k < t) (ha : u.a = s.a) : hearV ids L s ≠ hearV ids L u := by
  intro e
  have hs' := List.mem_of_getElem? hs
  have hu' := List.mem_of_getElem? hu
  unfold hearV at e
  simp only [V4.mk.injEq] at e
  have hb : s.b = u.b := getD_inj g (g.side s hs').2.1 (g.side u hu').2.1 (by omega)
  have ht := side_one g (sdl_turn hs') (sdl_turn hu') hb (by show s.pb = u.pb; omega)
  have e2 := congrArg Ne.turn ht
  rw [Ne.turn_turn, Ne.turn_turn] at e2
  have := g.port t k s u hs hu (by rw [e2]) (by rw [e2])
  omega
/-- Are vectors one? -/
def eqV (a b : V4) : Bool := decide (a.r = b.r ∧ a.c = b.c ∧ a.b = b.b ∧ a.p = b.p)
theorem eqV_iff {a b : V4} : eqV a b = true ↔ a = b := by
  unfold eqV
  rw [decide_eq_true_eq]
  constructor
  · rintro ⟨h1, h2, h3, h4⟩
    cases a; cases b
    simp only at h1 h2 h3 h4
    rw [h1, h2, h3, h4]
  · rintro rfl
    exact ⟨rfl, rfl, rfl, rfl⟩
theorem eqV_no {a b : V4} (h : a ≠ b) : eqV a b = false := by
  cases e : eqV a b with
  | false => rfl
  | true => exact absurd (eqV_iff.1 e) h
theorem eqVec (x y : V4) (w : World) : (Op.equalIn 10000 56 (.agg x.cs) (.agg y.cs)).run Try.prog w = .ok (eqV x y) w := by
  obtain ⟨a, b, c, d⟩ := x
  obtain ⟨a', b', c', d'⟩ := y
  show (Op.equalIn 10000 56 (.agg #[.int .u64 a, .int .u32 b, .int .u64 c, .int .u16 d]) (.agg #[.int .u64 a', .int .u32 b', .int .u64 c', .int .u16 d'])).run Try.prog w = _
  rw [show (10000 : Nat) = 9999 + 1 from rfl, Op.equalIn]
  simp only [Sem.run_bind, run_underlying Try.underlying56, Result.andThen_ok]
  go_simp
  unfold eqV
  by_cases h1 : a = a' <;> by_cases h2 : b = b' <;> by_cases h3 : c = c' <;> by_cases h4 : d = d' <;> simp [h1, h2, h3, h4]
theorem gdV : Try.prog.eqGuardType Try.prog.depth 56 = false := by kernel_rfl
theorem eqgV (op : BinOp) (x y : Operand) (a b : V4) (w : World) : (eqGuard op 56 x y (.agg a.cs) (.agg b.cs)).run Try.prog w = .ok () w := run_eqGuard_agg w op _ x y _ _ gdV
theorem eqlV (a b : V4) (w : World) : (binOp .eql 56 (.agg a.cs) (.agg b.cs)).run Try.prog w = .ok (.bool (eqV a b)) w := by
  rw [run_eql_struct, eqVec]
  rfl
theorem neqV (a b : V4) (w : World) : (binOp .neq 56 (.agg a.cs) (.agg b.cs)).run Try.prog w = .ok (.bool (!(eqV a b))) w := by
  rw [run_neq_struct, eqVec]
  rfl
end Go.Proofs.Ytcagdfdhpbeolaa
