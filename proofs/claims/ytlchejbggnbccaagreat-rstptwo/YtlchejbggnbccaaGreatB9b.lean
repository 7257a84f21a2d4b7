/-
  A second later: Tick, and the definition's less and Tick: their walks, for every tree. And what follows from it here.
-/
import Derived.Test.YtlchejbggnbccaaGreatBbb
import Derived.Test.YtlchejbggnbccaaGreatB9a
namespace Go.Proofs.YtlchejbggnbccaaGreat
set_option linter.unusedVariables false
set_option linter.unusedSimpArgs false
set_option maxRecDepth 4000
section
namespace S9
open Go.RowKit
attribute [local go_sem ↓] ldP stP ldT stT apE st32 st4 st5 alP
attribute [local go_sem] alP_run
set_option maxHeartbeats 4000000 in
theorem tick_any (h : Hd) (a : Option Addr) (n c : Nat) (l : List Pt) (w : World) (hs : SlAt w a n c l) (hn : n ≤ 1000) :
    Calls Tryz.prog 46 #[.agg (trc h (.slice a n c))] w fun r w' => ∃ v, r = .returned (.agg (trc h v)) ∧ Own w' w.heap.size v (l.map tickP) ∧ Below w.heap.size w w' := by
  obtain ⟨W, hW, r0, r1, bW, zW⟩ := two_t w h (.slice a n c)
  have l0 := r0.tld
  have H : Hid (SlAt W a n c l ∧ n ≤ 1000 ∧ RvAt W (w.heap.size + 1) 39 (trc zeroH (.slice none 0 0)) ∧ Below w.heap.size w W ∧ W.heap.size = w.heap.size + 2) := ⟨hs.below bW, hn, r1, bW, zW⟩
  clear hs hn r0 r1 bW zW
  go_enter Tryz.func46, Tryz.ntmps46
  go_wp2_with fail
  refine (each_any 71 tickP chg_tick ent39 h a n c l W H.out.1 H.out.2.1).mono ?_
  rintro _ W2 ⟨v, rfl, o2, b2⟩
  obtain ⟨W3, s3, r3, g3⟩ := (H.out.2.2.1.below b2).tst (g := h) (y := v) o2.one
  have z2 := H.out.2.2.2.2
  have o3 := o2.keptBut g3 (o2.apart (by omega))
  have b3 : Below w.heap.size w W3 := gro (below_over H.out.2.2.2.1 b2) g3 (by omega) (by have := b2.size; omega)
  have F : Hid (RvAt W3 (w.heap.size + 1) 39 (trc h v) ∧ Own W3 w.heap.size v (l.map tickP) ∧ Below w.heap.size w W3) := ⟨r3, o3.base (by omega), b3⟩
  clear b2 g3 l0 o2 o3 z2 b3 r3
  go_wp2
  refine bodyPost_ret (results_row rtT Tryz.results46 _ _ _ _ rfl F.out.1 (trc_size _ _)) rfl ?_
  exact ⟨v, rfl, F.out.2.1, F.out.2.2⟩

attribute [local go_sem] zeroPort
def tk (r : Pt) (j : Nat) : Pt := r.setU j (dec1 (r.nm j))
end S9
end
end Go.Proofs.YtlchejbggnbccaaGreat
