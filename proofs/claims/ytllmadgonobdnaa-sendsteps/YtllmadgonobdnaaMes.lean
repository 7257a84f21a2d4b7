/-
  What would go out of a port: the walk of Message, for every tree.
-/
import Derived.Test.YtllmadgonobdnaaMsg
import Derived.Test.YtllmadgonobdnaaPut
import Derived.Test.YtllmadgonobdnaaMesA
namespace Go.Proofs.Ytllmadgonobdnaa
set_option linter.unusedVariables false
set_option maxRecDepth 4000
set_option linter.unusedSimpArgs false
open Go.RowKit

attribute [local go_sem ↓] ldP stP stB stU stW ldT stT st32 alP alM ldM stM ldV stV ldTm stTm bdMs
attribute [local go_sem] alP_run alM_run
set_option maxHeartbeats 2000000 in
theorem mes_out (h : Hd) (a : Option Addr) (n c : Nat) (l : List Pt) (i : Int) (w : World) (hn : n ≤ 1000) (hi : ¬ (0 ≤ i ∧ i < n)) :
    Calls Try.prog 14 #[.agg (trc h (.slice a n c)), .int .i64 i] w fun r w' => r = .returned (.agg zeroM.cs) ∧ Below w.heap.size w w' := by
  obtain ⟨W, hW, r0, r1, bW, zW⟩ := new_tm w h (.slice a n c)
  have l0 := r0.tld
  have H : Hid (RvAt W (w.heap.size + 1) 43 zeroM.cs ∧ Below w.heap.size w W) := ⟨r1, bW⟩
  have T : Hid _ := there_out (h := h) (a := a) (c := c) (w := W) hi
  clear r0 r1 bW zW hi
  go_enter Try.func14, Try.ntmps14
  go_wp2_with fail
  refine Calls.mono T.out ?_
  rintro _ V ⟨rfl, bV⟩
  obtain ⟨U, sU, h1, gU⟩ := mst (r := zeroM) (H.out.1.below bV)
  have q0 := bdM_zero V
  have G : Hid (RvAt U (w.heap.size + 1) 43 zeroM.cs ∧ Below w.heap.size w U) := ⟨h1, gro (below_over H.out.2 bV) gU (by omega) (below_over H.out.2 bV).size⟩
  clear h1 gU bV l0 T
  go_wp2
  refine bodyPost_ret (results_row rtM Try.results14 _ _ _ _ rfl G.out.1 (by rw [Row.csize, lenM])) rfl ?_
  exact ⟨rfl, G.out.2⟩
set_option maxHeartbeats 8000000 in
theorem mes_in (h : Hd) (a : Option Addr) (n c : Nat) (l : List Pt) (k : Nat) (w : World) (hs : SlAt w a n c l) (hn : n ≤ 1000) (hk : k < n) :
    Calls Try.prog 14 #[.agg (trc h (.slice a n c)), .int .i64 (k : Int)] w fun r w' => r = .returned (.agg (msgP (gtP l k)).cs) ∧ Below w.heap.size w w' := by
  obtain ⟨g, o, rfl⟩ := hs.some' (by omega)
  have hkl : k < l.length := by rw [hs.len]; exact hk
  have hin0 : (0 : Int) ≤ (k : Int) := by omega
  have hin1 : (k : Int) < (n : Int) := by omega
  obtain ⟨W, hW, r0, r1, bW, zW⟩ := new_tm w h (.slice (some ⟨g, o, none⟩) n c)
  have l0 := r0.tld
  have H : Hid (RvAt W w.heap.size 31 (trc h (.slice (some ⟨g, o, none⟩) n c)) ∧ RvAt W (w.heap.size + 1) 43 zeroM.cs ∧ Below w.heap.size w W ∧ SlAt W (some ⟨g, o, none⟩) n c l) := ⟨r0, r1, bW, hs.below bW⟩
  have T : Hid _ := there_in (h := h) (a := some ⟨g, o, none⟩) (c := c) (w := W) hk
  obtain ⟨p, hp⟩ : ∃ p, gtP l k = p := ⟨_, rfl⟩
  rw [hp]
  have HP : Hid (gtP l k = p) := hp
  have HK : Hid (k < l.length) := hkl
  clear hs hn hk r0 r1 bW zW hp hkl
  go_enter Try.func14, Try.ntmps14
  go_wp2_with fail
  refine Calls.mono T.out ?_
  rintro _ V ⟨rfl, bV⟩
  have K : Hid (RvAt V w.heap.size 31 (trc h (.slice (some ⟨g, o, none⟩) n c)) ∧ RvAt V (w.heap.size + 1) 43 zeroM.cs ∧ Below w.heap.size w V ∧ SlAt V (some ⟨g, o, none⟩) n c l) := ⟨H.out.1.below bV, H.out.2.1.below bV, below_over H.out.2.2.1 bV, H.out.2.2.2.below bV⟩
  have c16 := K.out.1.t16
  have lp := K.out.2.2.2.ld (gtP_at HK.out)
  rw [HP.out] at lp
  clear bV T l0 hW H
  go_wp2_with fail
  refine (msg_any p V).mono ?_
  rintro _ X ⟨rfl, bX⟩
  obtain ⟨U, sU, h1, gU⟩ := mst (r := msgP p) (K.out.2.1.below bX)
  have G : Hid (RvAt U (w.heap.size + 1) 43 (msgP p).cs ∧ Below w.heap.size w U) := ⟨h1, gro (below_over K.out.2.2.1 bX) gU (by omega) (below_over K.out.2.2.1 bX).size⟩
  clear h1 gU bX
  go_wp2
  refine bodyPost_ret (results_row rtM Try.results14 _ _ _ _ rfl G.out.1 (by rw [Row.csize, lenM])) rfl ?_
  exact ⟨rfl, G.out.2⟩
theorem mes_any (h : Hd) (a : Option Addr) (n c : Nat) (l : List Pt) (i : Int) (w : World) (hs : SlAt w a n c l) (hn : n ≤ 1000) :
    Calls Try.prog 14 #[.agg (trc h (.slice a n c)), .int .i64 i] w fun r w' => r = .returned (.agg (msgI l i).cs) ∧ Below w.heap.size w w' := by
  by_cases hi : 0 ≤ i ∧ i < (n : Int)
  · obtain ⟨k, rfl⟩ : ∃ k : Nat, i = (k : Int) := ⟨i.toNat, by omega⟩
    rw [msgI_in (by rw [hs.len]; omega)]
    exact mes_in h a n c l k w hs hn (by omega)
  · rw [msgI_out (by rw [hs.len]; exact hi)]
    exact mes_out h a n c l i w hn hi
end Go.Proofs.Ytllmadgonobdnaa
