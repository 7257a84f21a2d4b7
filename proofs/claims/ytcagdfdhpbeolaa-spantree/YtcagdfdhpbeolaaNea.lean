/-
  Roots and least costs: the walks of nearest and of its closure, for every graph that may be.
-/
import Derived.Test.YtcagdfdhpbeolaaGr
import Derived.Deep.LoopGhost
namespace Go.Proofs.Ytcagdfdhpbeolaa
set_option linter.unusedVariables false
set_option maxRecDepth 4000
set_option linter.unusedSimpArgs false
open Go.RowKit

theorem NvAt.put (W : World) (x : Nd) : ∃ V, (stS 60 (.pointer (some ⟨W.heap.size, 0, none⟩)) (.agg x.cs)).run Try.prog (W.alloc (.cells #[.int .u64 0, .int .u32 0, .int .i64 0] 60)) = .ok () V ∧ RvAt V W.heap.size 60 x.cs ∧ Below W.heap.size W V := by
  obtain ⟨V, h1, h2, h3, _⟩ := row_new rtN W #[.int .u64 0, .int .u32 0, .int .i64 0] x.cs rfl rfl (one_of rfl)
  exact ⟨V, h1, h2, h3⟩
theorem NvAt.c0 {W : World} {b : Nat} {x : Nd} (h : RvAt W b 60 x.cs) : W.cell? ⟨b, 0, none⟩ = some (.int .u64 (x.r : Int)) := h.cell 0 _ rfl
theorem NvAt.c1 {W : World} {b : Nat} {x : Nd} (h : RvAt W b 60 x.cs) : W.cell? ⟨b, 1, none⟩ = some (.int .u32 (x.c : Int)) := h.cell 1 _ rfl
theorem NvAt.c2 {W : World} {b : Nat} {x : Nd} (h : RvAt W b 60 x.cs) : W.cell? ⟨b, 2, none⟩ = some (.int .i64 x.p) := h.cell 2 _ rfl
/-- The nodes' variable, and the block that holds them. -/
structure NW (W0 W : World) (nb g n c : Nat) (N : List Nd) : Prop where
  var : RvAt W nb 26 #[.slice (some ⟨g, 0, none⟩) n c]
  pat : PAt eN W g c N
  ne : nb < g
  low : W0.heap.size ≤ nb
  len : N.length = n
  bel : Below W0.heap.size W0 W
theorem NW.below {W0 W V : World} {nb g n c : Nat} {N : List Nd} (h : NW W0 W nb g n c N) (k : Below W.heap.size W V) : NW W0 V nb g n c N := ⟨h.var.below k, h.pat.below k, h.ne, h.low, h.len, below_over h.bel k⟩
theorem NW.v0 {W0 W : World} {nb g n c : Nat} {N : List Nd} (h : NW W0 W nb g n c N) : W.cell? ⟨nb, 0, none⟩ = some (.slice (some ⟨g, 0, none⟩) n c) := h.var.cell 0 _ rfl
theorem NW.ld {W0 W : World} {nb g n c : Nat} {N : List Nd} (h : NW W0 W nb g n c N) {i : Nat} (hi : i < n) : (ldS 60 (.pointer (some ⟨g, i * 3, none⟩))).run Try.prog W = .ok (.agg (gtN N i).cs) W := h.pat.ld kN (gtN_at (by rw [h.len]; exact hi)) Try.underlying60 rfl rfl
theorem NW.n0 {W0 W : World} {nb g n c : Nat} {N : List Nd} (h : NW W0 W nb g n c N) {i : Nat} (hi : i < n) : W.cell? ⟨g, i * 3, none⟩ = some (.int .u64 ((gtN N i).r : Int)) := h.pat.cell kN (j := 0) (gtN_at (by rw [h.len]; exact hi)) rfl rfl
theorem NW.n1 {W0 W : World} {nb g n c : Nat} {N : List Nd} (h : NW W0 W nb g n c N) {i : Nat} (hi : i < n) : W.cell? ⟨g, i * 3 + 1, none⟩ = some (.int .u32 ((gtN N i).c : Int)) := h.pat.cell kN (j := 1) (gtN_at (by rw [h.len]; exact hi)) rfl rfl
theorem NW.put {W0 W : World} {nb g n c : Nat} {N : List Nd} (h : NW W0 W nb g n c N) {i : Nat} (hi : i < n) (y : Nd) : ∃ V, (stS 60 (.pointer (some ⟨g, i * 3, none⟩)) (.agg y.cs)).run Try.prog W = .ok () V ∧ NW W0 V nb g n c (N.set i y) := by
  obtain ⟨V, h1, h2, h3⟩ := h.pat.stp kN (y := y) (i := i) (by rw [h.len]; exact hi) rfl
  have hne := h.ne
  have hlow := h.low
  have hlt := h.var.lt
  exact ⟨V, h1, h.var.keptBut h3 (fun e => by cases e; omega), h2, h.ne, h.low, by rw [List.length_set]; exact h.len, gro h.bel h3 (by omega) h.bel.size⟩
/-- Is a way nearer than what a bridge has? -/
def nearN (x y : Nd) : Bool := decide (x.r < y.r ∨ (x.r = y.r ∧ x.c < y.c))
attribute [local go_sem ↓] ldE stE ldN stN
set_option maxHeartbeats 2000000 in
theorem nearer_any (x : Nd) (i : Nat) {W0 w : World} {nb g n c : Nat} {N : List Nd} (h : NW W0 w nb g n c N) (hi : i < n) (hn : n ≤ 100) :
    Calls Try.prog 50 #[.agg x.cs, .int .i64 (i : Int), .pointer (some ⟨nb, 0, none⟩)] w fun r w' => r = .returned (.bool (nearN x (gtN N i))) ∧ Below w.heap.size w w' := by
  obtain ⟨W, hW⟩ : ∃ W, w.alloc (.cells x.cs 60) = W := ⟨_, rfl⟩
  have bW : Below w.heap.size w W := by rw [← hW]; exact (Below.refl _ _).alloc (Nat.le_refl _) _
  have r0 : RvAt W w.heap.size 60 x.cs := by rw [← hW]; exact RvAt.new w _ _
  have v0 := (h.below bW).v0
  have l0 := (h.below bW).ld hi
  obtain ⟨y, hy⟩ : ∃ y, gtN N i = y := ⟨_, rfl⟩
  rw [hy] at l0 ⊢
  obtain ⟨V, sV, rV, bV⟩ := NvAt.put W y
  have x0 := NvAt.c0 (r0.below bV)
  have x1 := NvAt.c1 (r0.below bV)
  have y0 := NvAt.c0 rV
  have y1 := NvAt.c1 rV
  have hi0 : (0 : Int) ≤ (i : Int) := by omega
  have hi1 : (i : Int) < (n : Int) := by omega
  have H : Hid (Below w.heap.size w V) := below_over bW bV
  clear bW r0 rV bV hy h hi hn
  by_cases h1 : (x.r : Int) < (y.r : Int)
  · rw [show nearN x y = true by unfold nearN; simp; omega]
    go_enter Try.func50, Try.ntmps50
    go_wp2
    go_ret
    exact ⟨rfl, H.out⟩
  · cases h2 : ((x.r : Int) == (y.r : Int))
    · have h2' := beq_eq_false_iff_ne.1 h2
      rw [show nearN x y = false by unfold nearN; simp; omega]
      clear h2'
      go_enter Try.func50, Try.ntmps50
      go_wp2
      go_ret
      exact ⟨rfl, H.out⟩
    · have h2' := beq_iff_eq.1 h2
      by_cases h3 : (x.c : Int) < (y.c : Int)
      · rw [show nearN x y = true by unfold nearN; simp; omega]
        clear h2'
        go_enter Try.func50, Try.ntmps50
        go_wp2
        go_ret
        exact ⟨rfl, H.out⟩
      · rw [show nearN x y = false by unfold nearN; simp; omega]
        clear h2'
        go_enter Try.func50, Try.ntmps50
        go_wp2
        go_ret
        exact ⟨rfl, H.out⟩
end Go.Proofs.Ytcagdfdhpbeolaa
