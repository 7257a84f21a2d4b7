/-
  What a step leaves of a port and of the others: plain facts.
-/
import Derived.Test.YtdlleecfmebenaaLawS
namespace Go.Proofs.Ytdlleecfmebenaa
set_option linter.unusedVariables false
set_option maxRecDepth 4000
set_option linter.unusedSimpArgs false
open Go.RowKit

theorem bt_is {ks : List (Option IntKind)} {r : Row ks} {j : Nat} {b : Bool} (h : r.cl[j]? = some (.bool b)) : r.bt j = b := by unfold Row.bt; rw [h]
theorem nm_is {ks : List (Option IntKind)} {r : Row ks} {j : Nat} {k : IntKind} {n : Int} (h : r.cl[j]? = some (.int k n)) : r.nm j = n := by unfold Row.nm; rw [h]
theorem disP_7 (p : Pt) : (disP p).bt 7 = p.bt 7 := bt_of (by simp only [disP, restP, Row.setB_get, Row.setN_get, Row.setU_ne _ (show (65 : Nat) ≠ 7 by decide), Row.setU_ne _ (show (68 : Nat) ≠ 7 by decide), Row.setU_ne _ (show (70 : Nat) ≠ 7 by decide)]; rfl)
theorem disP_30 (p : Pt) : (disP p).nm 30 = p.nm 30 := nm_of (by simp only [disP, restP, Row.setB_get, Row.setN_get, Row.setU_ne _ (show (65 : Nat) ≠ 30 by decide), Row.setU_ne _ (show (68 : Nat) ≠ 30 by decide), Row.setU_ne _ (show (70 : Nat) ≠ 30 by decide)]; rfl)
theorem disP_3 (p : Pt) : (disP p).bt 3 = p.bt 3 := bt_of (by simp only [disP, restP, Row.setB_get, Row.setN_get, Row.setU_ne _ (show (65 : Nat) ≠ 3 by decide), Row.setU_ne _ (show (68 : Nat) ≠ 3 by decide), Row.setU_ne _ (show (70 : Nat) ≠ 3 by decide)]; rfl)
theorem blkP_7 (p : Pt) : (blkP p).bt 7 = p.bt 7 := bt_of (by simp only [blkP, restP, Row.setB_get, Row.setN_get, Row.setU_ne _ (show (65 : Nat) ≠ 7 by decide), Row.setU_ne _ (show (68 : Nat) ≠ 7 by decide), Row.setU_ne _ (show (70 : Nat) ≠ 7 by decide)]; rfl)
theorem blkP_30 (p : Pt) : (blkP p).nm 30 = p.nm 30 := nm_of (by simp only [blkP, restP, Row.setB_get, Row.setN_get, Row.setU_ne _ (show (65 : Nat) ≠ 30 by decide), Row.setU_ne _ (show (68 : Nat) ≠ 30 by decide), Row.setU_ne _ (show (70 : Nat) ≠ 30 by decide)]; rfl)
theorem blkP_3 (p : Pt) : (blkP p).bt 3 = p.bt 3 := bt_of (by simp only [blkP, restP, Row.setB_get, Row.setN_get, Row.setU_ne _ (show (65 : Nat) ≠ 3 by decide), Row.setU_ne _ (show (68 : Nat) ≠ 3 by decide), Row.setU_ne _ (show (70 : Nat) ≠ 3 by decide)]; rfl)
theorem agrP_7 (p : Pt) : (agrP p).bt 7 = p.bt 7 := bt_of (by simp only [agrP, Row.setB_get, Row.setN_get, Row.setU_ne _ (show (65 : Nat) ≠ 7 by decide), Row.setU_ne _ (show (68 : Nat) ≠ 7 by decide), Row.setU_ne _ (show (70 : Nat) ≠ 7 by decide)]; rfl)
theorem agrP_30 (p : Pt) : (agrP p).nm 30 = p.nm 30 := nm_of (by simp only [agrP, Row.setB_get, Row.setN_get, Row.setU_ne _ (show (65 : Nat) ≠ 30 by decide), Row.setU_ne _ (show (68 : Nat) ≠ 30 by decide), Row.setU_ne _ (show (70 : Nat) ≠ 30 by decide)]; rfl)
theorem agrRP_7 (p : Pt) : (agrRP p).bt 7 = p.bt 7 := bt_of (by simp only [agrRP, agrP, Row.setB_get, Row.setN_get, Row.setU_ne _ (show (65 : Nat) ≠ 7 by decide), Row.setU_ne _ (show (68 : Nat) ≠ 7 by decide), Row.setU_ne _ (show (70 : Nat) ≠ 7 by decide)]; rfl)
theorem agrRP_30 (p : Pt) : (agrRP p).nm 30 = p.nm 30 := nm_of (by simp only [agrRP, agrP, Row.setB_get, Row.setN_get, Row.setU_ne _ (show (65 : Nat) ≠ 30 by decide), Row.setU_ne _ (show (68 : Nat) ≠ 30 by decide), Row.setU_ne _ (show (70 : Nat) ≠ 30 by decide)]; rfl)
theorem rrdP_7 (p : Pt) : (rrdP p).bt 7 = p.bt 7 := bt_of (by simp only [rrdP, Row.setB_get, Row.setN_get, Row.setU_ne _ (show (65 : Nat) ≠ 7 by decide), Row.setU_ne _ (show (68 : Nat) ≠ 7 by decide), Row.setU_ne _ (show (70 : Nat) ≠ 7 by decide)]; rfl)
theorem rrdP_30 (p : Pt) : (rrdP p).nm 30 = p.nm 30 := nm_of (by simp only [rrdP, Row.setB_get, Row.setN_get, Row.setU_ne _ (show (65 : Nat) ≠ 30 by decide), Row.setU_ne _ (show (68 : Nat) ≠ 30 by decide), Row.setU_ne _ (show (70 : Nat) ≠ 30 by decide)]; rfl)
theorem rrdP_3 (p : Pt) : (rrdP p).bt 3 = p.bt 3 := bt_of (by simp only [rrdP, Row.setB_get, Row.setN_get, Row.setU_ne _ (show (65 : Nat) ≠ 3 by decide), Row.setU_ne _ (show (68 : Nat) ≠ 3 by decide), Row.setU_ne _ (show (70 : Nat) ≠ 3 by decide)]; rfl)
theorem lrnP_7 (p : Pt) : (lrnP p).bt 7 = p.bt 7 := bt_of (by simp only [lrnP, Row.setB_get, Row.setN_get, Row.setU_ne _ (show (65 : Nat) ≠ 7 by decide), Row.setU_ne _ (show (68 : Nat) ≠ 7 by decide), Row.setU_ne _ (show (70 : Nat) ≠ 7 by decide)]; rfl)
theorem lrnP_30 (p : Pt) : (lrnP p).nm 30 = p.nm 30 := nm_of (by simp only [lrnP, Row.setB_get, Row.setN_get, Row.setU_ne _ (show (65 : Nat) ≠ 30 by decide), Row.setU_ne _ (show (68 : Nat) ≠ 30 by decide), Row.setU_ne _ (show (70 : Nat) ≠ 30 by decide)]; rfl)
theorem lrnP_3 (p : Pt) : (lrnP p).bt 3 = p.bt 3 := bt_of (by simp only [lrnP, Row.setB_get, Row.setN_get, Row.setU_ne _ (show (65 : Nat) ≠ 3 by decide), Row.setU_ne _ (show (68 : Nat) ≠ 3 by decide), Row.setU_ne _ (show (70 : Nat) ≠ 3 by decide)]; rfl)
theorem rcnP_7 (p : Pt) : (rcnP p).bt 7 = p.bt 7 := bt_of (by simp only [rcnP, Row.setB_get, Row.setN_get, Row.setU_ne _ (show (65 : Nat) ≠ 7 by decide), Row.setU_ne _ (show (68 : Nat) ≠ 7 by decide), Row.setU_ne _ (show (70 : Nat) ≠ 7 by decide)])
theorem rcnP_30 (p : Pt) : (rcnP p).nm 30 = p.nm 30 := nm_of (by simp only [rcnP, Row.setB_get, Row.setN_get, Row.setU_ne _ (show (65 : Nat) ≠ 30 by decide), Row.setU_ne _ (show (68 : Nat) ≠ 30 by decide), Row.setU_ne _ (show (70 : Nat) ≠ 30 by decide)])
theorem rcnP_3 (p : Pt) : (rcnP p).bt 3 = p.bt 3 := bt_of (by simp only [rcnP, Row.setB_get, Row.setN_get, Row.setU_ne _ (show (65 : Nat) ≠ 3 by decide), Row.setU_ne _ (show (68 : Nat) ≠ 3 by decide), Row.setU_ne _ (show (70 : Nat) ≠ 3 by decide)])
theorem prsP_7 (p : Pt) : (prsP p).bt 7 = p.bt 7 := bt_of (by simp only [prsP, Row.setB_get, Row.setN_get, Row.setU_ne _ (show (65 : Nat) ≠ 7 by decide), Row.setU_ne _ (show (68 : Nat) ≠ 7 by decide), Row.setU_ne _ (show (70 : Nat) ≠ 7 by decide)]; rfl)
theorem prsP_30 (p : Pt) : (prsP p).nm 30 = p.nm 30 := nm_of (by simp only [prsP, Row.setB_get, Row.setN_get, Row.setU_ne _ (show (65 : Nat) ≠ 30 by decide), Row.setU_ne _ (show (68 : Nat) ≠ 30 by decide), Row.setU_ne _ (show (70 : Nat) ≠ 30 by decide)]; rfl)
theorem prsP_3 (p : Pt) : (prsP p).bt 3 = p.bt 3 := bt_of (by simp only [prsP, Row.setB_get, Row.setN_get, Row.setU_ne _ (show (65 : Nat) ≠ 3 by decide), Row.setU_ne _ (show (68 : Nat) ≠ 3 by decide), Row.setU_ne _ (show (70 : Nat) ≠ 3 by decide)]; rfl)
theorem synP_7 (p : Pt) : (synP p).bt 7 = p.bt 7 := bt_of (by simp only [synP, Row.setB_get, Row.setN_get, Row.setU_ne _ (show (65 : Nat) ≠ 7 by decide), Row.setU_ne _ (show (68 : Nat) ≠ 7 by decide), Row.setU_ne _ (show (70 : Nat) ≠ 7 by decide)]; rfl)
theorem synP_30 (p : Pt) : (synP p).nm 30 = p.nm 30 := nm_of (by simp only [synP, Row.setB_get, Row.setN_get, Row.setU_ne _ (show (65 : Nat) ≠ 30 by decide), Row.setU_ne _ (show (68 : Nat) ≠ 30 by decide), Row.setU_ne _ (show (70 : Nat) ≠ 30 by decide)]; rfl)
theorem synP_3 (p : Pt) : (synP p).bt 3 = p.bt 3 := bt_of (by simp only [synP, Row.setB_get, Row.setN_get, Row.setU_ne _ (show (65 : Nat) ≠ 3 by decide), Row.setU_ne _ (show (68 : Nat) ≠ 3 by decide), Row.setU_ne _ (show (70 : Nat) ≠ 3 by decide)]; rfl)
theorem bkuP_7 (p : Pt) : (bkuP p).bt 7 = p.bt 7 := bt_of (by simp only [bkuP, Row.setB_get, Row.setN_get, Row.setU_ne _ (show (65 : Nat) ≠ 7 by decide), Row.setU_ne _ (show (68 : Nat) ≠ 7 by decide), Row.setU_ne _ (show (70 : Nat) ≠ 7 by decide)])
theorem bkuP_30 (p : Pt) : (bkuP p).nm 30 = p.nm 30 := nm_of (by simp only [bkuP, Row.setB_get, Row.setN_get, Row.setU_ne _ (show (65 : Nat) ≠ 30 by decide), Row.setU_ne _ (show (68 : Nat) ≠ 30 by decide), Row.setU_ne _ (show (70 : Nat) ≠ 30 by decide)])
theorem bkuP_3 (p : Pt) : (bkuP p).bt 3 = p.bt 3 := bt_of (by simp only [bkuP, Row.setB_get, Row.setN_get, Row.setU_ne _ (show (65 : Nat) ≠ 3 by decide), Row.setU_ne _ (show (68 : Nat) ≠ 3 by decide), Row.setU_ne _ (show (70 : Nat) ≠ 3 by decide)])
theorem prdP_7 (p : Pt) : (prdP p).bt 7 = p.bt 7 := bt_of (by simp only [prdP, Row.setB_get, Row.setN_get, Row.setU_ne _ (show (65 : Nat) ≠ 7 by decide), Row.setU_ne _ (show (68 : Nat) ≠ 7 by decide), Row.setU_ne _ (show (70 : Nat) ≠ 7 by decide)]; rfl)
theorem prdP_30 (p : Pt) : (prdP p).nm 30 = p.nm 30 := nm_of (by simp only [prdP, Row.setB_get, Row.setN_get, Row.setU_ne _ (show (65 : Nat) ≠ 30 by decide), Row.setU_ne _ (show (68 : Nat) ≠ 30 by decide), Row.setU_ne _ (show (70 : Nat) ≠ 30 by decide)]; rfl)
theorem prdP_3 (p : Pt) : (prdP p).bt 3 = p.bt 3 := bt_of (by simp only [prdP, Row.setB_get, Row.setN_get, Row.setU_ne _ (show (65 : Nat) ≠ 3 by decide), Row.setU_ne _ (show (68 : Nat) ≠ 3 by decide), Row.setU_ne _ (show (70 : Nat) ≠ 3 by decide)]; rfl)
theorem syncP_7 (p : Pt) : (syncP p).bt 7 = p.bt 7 := bt_of (by simp only [syncP, Row.setB_get, Row.setN_get, Row.setU_ne _ (show (65 : Nat) ≠ 7 by decide), Row.setU_ne _ (show (68 : Nat) ≠ 7 by decide), Row.setU_ne _ (show (70 : Nat) ≠ 7 by decide)]; rfl)
theorem syncP_30 (p : Pt) : (syncP p).nm 30 = p.nm 30 := nm_of (by simp only [syncP, Row.setB_get, Row.setN_get, Row.setU_ne _ (show (65 : Nat) ≠ 30 by decide), Row.setU_ne _ (show (68 : Nat) ≠ 30 by decide), Row.setU_ne _ (show (70 : Nat) ≠ 30 by decide)]; rfl)
theorem syncP_3 (p : Pt) : (syncP p).bt 3 = p.bt 3 := bt_of (by simp only [syncP, Row.setB_get, Row.setN_get, Row.setU_ne _ (show (65 : Nat) ≠ 3 by decide), Row.setU_ne _ (show (68 : Nat) ≠ 3 by decide), Row.setU_ne _ (show (70 : Nat) ≠ 3 by decide)]; rfl)
theorem rerP_7 (p : Pt) : (rerP p).bt 7 = p.bt 7 := bt_of (by simp only [rerP, Row.setB_get, Row.setN_get, Row.setU_ne _ (show (65 : Nat) ≠ 7 by decide), Row.setU_ne _ (show (68 : Nat) ≠ 7 by decide), Row.setU_ne _ (show (70 : Nat) ≠ 7 by decide)]; rfl)
theorem rerP_30 (p : Pt) : (rerP p).nm 30 = p.nm 30 := nm_of (by simp only [rerP, Row.setB_get, Row.setN_get, Row.setU_ne _ (show (65 : Nat) ≠ 30 by decide), Row.setU_ne _ (show (68 : Nat) ≠ 30 by decide), Row.setU_ne _ (show (70 : Nat) ≠ 30 by decide)]; rfl)
theorem rerP_3 (p : Pt) : (rerP p).bt 3 = p.bt 3 := bt_of (by simp only [rerP, Row.setB_get, Row.setN_get, Row.setU_ne _ (show (65 : Nat) ≠ 3 by decide), Row.setU_ne _ (show (68 : Nat) ≠ 3 by decide), Row.setU_ne _ (show (70 : Nat) ≠ 3 by decide)]; rfl)
theorem fwdP_7 (p : Pt) : (fwdP p).bt 7 = true := bt_is (by simp only [fwdP, Row.setB_get, Row.setN_get, Row.setU_ne _ (show (65 : Nat) ≠ 7 by decide), Row.setU_ne _ (show (68 : Nat) ≠ 7 by decide), Row.setU_ne _ (show (70 : Nat) ≠ 7 by decide)]; rfl)
theorem fwdP_9 (p : Pt) : (fwdP p).bt 9 = p.bt 9 := bt_of (by simp only [fwdP, Row.setB_get, Row.setN_get, Row.setU_ne _ (show (65 : Nat) ≠ 9 by decide), Row.setU_ne _ (show (68 : Nat) ≠ 9 by decide), Row.setU_ne _ (show (70 : Nat) ≠ 9 by decide)]; rfl)
theorem fwdP_30 (p : Pt) : (fwdP p).nm 30 = p.nm 30 := nm_of (by simp only [fwdP, Row.setB_get, Row.setN_get, Row.setU_ne _ (show (65 : Nat) ≠ 30 by decide), Row.setU_ne _ (show (68 : Nat) ≠ 30 by decide), Row.setU_ne _ (show (70 : Nat) ≠ 30 by decide)]; rfl)
theorem fwdP_3 (p : Pt) : (fwdP p).bt 3 = p.bt 3 := bt_of (by simp only [fwdP, Row.setB_get, Row.setN_get, Row.setU_ne _ (show (65 : Nat) ≠ 3 by decide), Row.setU_ne _ (show (68 : Nat) ≠ 3 by decide), Row.setU_ne _ (show (70 : Nat) ≠ 3 by decide)]; rfl)
theorem fwdDP_7 (p : Pt) : (fwdDP p).bt 7 = true := bt_is (by simp only [fwdDP, fwdP, Row.setB_get, Row.setN_get, Row.setU_ne _ (show (65 : Nat) ≠ 7 by decide), Row.setU_ne _ (show (68 : Nat) ≠ 7 by decide), Row.setU_ne _ (show (70 : Nat) ≠ 7 by decide)]; rfl)
theorem fwdDP_9 (p : Pt) : (fwdDP p).bt 9 = p.bt 9 := bt_of (by simp only [fwdDP, fwdP, Row.setB_get, Row.setN_get, Row.setU_ne _ (show (65 : Nat) ≠ 9 by decide), Row.setU_ne _ (show (68 : Nat) ≠ 9 by decide), Row.setU_ne _ (show (70 : Nat) ≠ 9 by decide)]; rfl)
theorem fwdDP_30 (p : Pt) : (fwdDP p).nm 30 = p.nm 30 := nm_of (by simp only [fwdDP, fwdP, Row.setB_get, Row.setN_get, Row.setU_ne _ (show (65 : Nat) ≠ 30 by decide), Row.setU_ne _ (show (68 : Nat) ≠ 30 by decide), Row.setU_ne _ (show (70 : Nat) ≠ 30 by decide)]; rfl)
theorem fwdDP_3 (p : Pt) : (fwdDP p).bt 3 = p.bt 3 := bt_of (by simp only [fwdDP, fwdP, Row.setB_get, Row.setN_get, Row.setU_ne _ (show (65 : Nat) ≠ 3 by decide), Row.setU_ne _ (show (68 : Nat) ≠ 3 by decide), Row.setU_ne _ (show (70 : Nat) ≠ 3 by decide)]; rfl)
theorem begP_7 (p : Pt) : (begP p).bt 7 = false := bt_is (by simp only [begP, begA, Row.setB_get, Row.setN_get, Row.setU_ne _ (show (65 : Nat) ≠ 7 by decide), Row.setU_ne _ (show (68 : Nat) ≠ 7 by decide), Row.setU_ne _ (show (70 : Nat) ≠ 7 by decide)]; rfl)
theorem begP_9 (p : Pt) : (begP p).bt 9 = false := bt_is (by simp only [begP, begA, Row.setB_get, Row.setN_get, Row.setU_ne _ (show (65 : Nat) ≠ 9 by decide), Row.setU_ne _ (show (68 : Nat) ≠ 9 by decide), Row.setU_ne _ (show (70 : Nat) ≠ 9 by decide)]; rfl)
theorem begP_3 (p : Pt) : (begP p).bt 3 = p.bt 3 := bt_of (by simp only [begP, begA, Row.setB_get, Row.setN_get, Row.setU_ne _ (show (65 : Nat) ≠ 3 by decide), Row.setU_ne _ (show (68 : Nat) ≠ 3 by decide), Row.setU_ne _ (show (70 : Nat) ≠ 3 by decide)]; rfl)
theorem stpP_7 (p : Pt) : (stpP p).bt 7 = false := bt_is (by simp only [stpP, stpA, Row.setB_get, Row.setN_get, Row.setU_ne _ (show (65 : Nat) ≠ 7 by decide), Row.setU_ne _ (show (68 : Nat) ≠ 7 by decide), Row.setU_ne _ (show (70 : Nat) ≠ 7 by decide)]; rfl)
theorem stpP_9 (p : Pt) : (stpP p).bt 9 = false := bt_is (by simp only [stpP, stpA, Row.setB_get, Row.setN_get, Row.setU_ne _ (show (65 : Nat) ≠ 9 by decide), Row.setU_ne _ (show (68 : Nat) ≠ 9 by decide), Row.setU_ne _ (show (70 : Nat) ≠ 9 by decide)]; rfl)
theorem stpP_3 (p : Pt) : (stpP p).bt 3 = p.bt 3 := bt_of (by simp only [stpP, stpA, Row.setB_get, Row.setN_get, Row.setU_ne _ (show (65 : Nat) ≠ 3 by decide), Row.setU_ne _ (show (68 : Nat) ≠ 3 by decide), Row.setU_ne _ (show (70 : Nat) ≠ 3 by decide)]; rfl)
theorem becDis_7 (p : Pt) : (becDis p).bt 7 = false := bt_is (by simp only [becDis, Row.setB_get, Row.setN_get, Row.setU_ne _ (show (65 : Nat) ≠ 7 by decide), Row.setU_ne _ (show (68 : Nat) ≠ 7 by decide), Row.setU_ne _ (show (70 : Nat) ≠ 7 by decide)]; rfl)
theorem becDis_9 (p : Pt) : (becDis p).bt 9 = false := bt_is (by simp only [becDis, Row.setB_get, Row.setN_get, Row.setU_ne _ (show (65 : Nat) ≠ 9 by decide), Row.setU_ne _ (show (68 : Nat) ≠ 9 by decide), Row.setU_ne _ (show (70 : Nat) ≠ 9 by decide)]; rfl)
theorem becDis_3 (p : Pt) : (becDis p).bt 3 = p.bt 3 := bt_of (by simp only [becDis, Row.setB_get, Row.setN_get, Row.setU_ne _ (show (65 : Nat) ≠ 3 by decide), Row.setU_ne _ (show (68 : Nat) ≠ 3 by decide), Row.setU_ne _ (show (70 : Nat) ≠ 3 by decide)]; rfl)
theorem becBlk_7 (p : Pt) : (becBlk p).bt 7 = false := bt_is (by simp only [becBlk, Row.setB_get, Row.setN_get, Row.setU_ne _ (show (65 : Nat) ≠ 7 by decide), Row.setU_ne _ (show (68 : Nat) ≠ 7 by decide), Row.setU_ne _ (show (70 : Nat) ≠ 7 by decide)]; rfl)
theorem becBlk_9 (p : Pt) : (becBlk p).bt 9 = false := bt_is (by simp only [becBlk, Row.setB_get, Row.setN_get, Row.setU_ne _ (show (65 : Nat) ≠ 9 by decide), Row.setU_ne _ (show (68 : Nat) ≠ 9 by decide), Row.setU_ne _ (show (70 : Nat) ≠ 9 by decide)]; rfl)
theorem becBlk_3 (p : Pt) : (becBlk p).bt 3 = p.bt 3 := bt_of (by simp only [becBlk, Row.setB_get, Row.setN_get, Row.setU_ne _ (show (65 : Nat) ≠ 3 by decide), Row.setU_ne _ (show (68 : Nat) ≠ 3 by decide), Row.setU_ne _ (show (70 : Nat) ≠ 3 by decide)]; rfl)
theorem becRoot_7 (p : Pt) : (becRoot p).bt 7 = p.bt 7 := bt_of (by simp only [becRoot, Row.setB_get, Row.setN_get, Row.setU_ne _ (show (65 : Nat) ≠ 7 by decide), Row.setU_ne _ (show (68 : Nat) ≠ 7 by decide), Row.setU_ne _ (show (70 : Nat) ≠ 7 by decide)]; rfl)
theorem becRoot_3 (p : Pt) : (becRoot p).bt 3 = p.bt 3 := bt_of (by simp only [becRoot, Row.setB_get, Row.setN_get, Row.setU_ne _ (show (65 : Nat) ≠ 3 by decide), Row.setU_ne _ (show (68 : Nat) ≠ 3 by decide), Row.setU_ne _ (show (70 : Nat) ≠ 3 by decide)]; rfl)
theorem becDsg_7 (p : Pt) : (becDsg p).bt 7 = p.bt 7 := bt_of (by simp only [becDsg, Row.setB_get, Row.setN_get, Row.setU_ne _ (show (65 : Nat) ≠ 7 by decide), Row.setU_ne _ (show (68 : Nat) ≠ 7 by decide), Row.setU_ne _ (show (70 : Nat) ≠ 7 by decide)]; rfl)
theorem becDsg_3 (p : Pt) : (becDsg p).bt 3 = p.bt 3 := bt_of (by simp only [becDsg, Row.setB_get, Row.setN_get, Row.setU_ne _ (show (65 : Nat) ≠ 3 by decide), Row.setU_ne _ (show (68 : Nat) ≠ 3 by decide), Row.setU_ne _ (show (70 : Nat) ≠ 3 by decide)]; rfl)
theorem takP_7 (p : Pt) : (takP p).bt 7 = p.bt 7 := bt_of (by simp only [takP, Row.setB_get, Row.setN_get, Row.setU_ne _ (show (65 : Nat) ≠ 7 by decide), Row.setU_ne _ (show (68 : Nat) ≠ 7 by decide), Row.setU_ne _ (show (70 : Nat) ≠ 7 by decide)]; rfl)
theorem takP_3 (p : Pt) : (takP p).bt 3 = p.bt 3 := bt_of (by simp only [takP, Row.setB_get, Row.setN_get, Row.setU_ne _ (show (65 : Nat) ≠ 3 by decide), Row.setU_ne _ (show (68 : Nat) ≠ 3 by decide), Row.setU_ne _ (show (70 : Nat) ≠ 3 by decide)]; rfl)
theorem becRoot_30 (p : Pt) : (becRoot p).nm 30 = p.nm 30 := nm_of (by simp only [becRoot, Row.setB_get, Row.setN_get, Row.setU_ne _ (show (65 : Nat) ≠ 30 by decide), Row.setU_ne _ (show (68 : Nat) ≠ 30 by decide), Row.setU_ne _ (show (70 : Nat) ≠ 30 by decide)]; rfl)
theorem becDsg_30 (p : Pt) : (becDsg p).nm 30 = p.nm 30 := nm_of (by simp only [becDsg, Row.setB_get, Row.setN_get, Row.setU_ne _ (show (65 : Nat) ≠ 30 by decide), Row.setU_ne _ (show (68 : Nat) ≠ 30 by decide), Row.setU_ne _ (show (70 : Nat) ≠ 30 by decide)]; rfl)
theorem begP_73 (p : Pt) : (begP p).nm 73 = 1 := nm_is (k := .i64) (by simp only [begP, begA, Row.setB_get, Row.setN_get, Row.setU_ne _ (show (65 : Nat) ≠ 73 by decide), Row.setU_ne _ (show (68 : Nat) ≠ 73 by decide), Row.setU_ne _ (show (70 : Nat) ≠ 73 by decide)]; rfl)
/-- What PrtForwards asks of a port ahead and behind. -/
def fc1 (p q : Pt) : Bool := (q.bt 7 && !p.bt 7) && ((!p.bt 9 || !q.bt 9) || ((((q.nm 30 != 3) && (q.nm 30 != 4)) && (p.nm 73 != 3)) && (p.nm 73 != 4)))
def fc2 (p q : Pt) : Bool := (((q.nm 30 != p.nm 30) && (q.nm 30 != 3)) && (q.nm 30 != 4)) && (q.bt 9 || q.bt 7)
/-- What PrtAgrees asks. -/
def fc3 (s : Bool) (p q : Pt) : Bool := (q.bt 3 && !p.bt 3) && !s
structure Good (s : Bool) (p q : Pt) : Prop where
  f1 : fc1 p q = false
  f2 : fc2 p q = false
  f3 : fc3 s p q = false
theorem kA {p q : Pt} (h7 : q.bt 7 = p.bt 7) (h30 : q.nm 30 = p.nm 30) : fc1 p q = false ∧ fc2 p q = false := by
  unfold fc1 fc2
  rw [h7, h30]
  refine ⟨by cases p.bt 7 <;> rfl, by simp⟩
theorem kB {p q : Pt} (h7 : q.bt 7 = false) (h9 : q.bt 9 = false) : fc1 p q = false ∧ fc2 p q = false := by
  unfold fc1 fc2
  rw [h7, h9]
  exact ⟨rfl, by simp⟩
theorem kC {p q : Pt} (h7 : q.bt 7 = p.bt 7) (h30 : q.nm 30 = 3 ∨ q.nm 30 = 4) : fc1 p q = false ∧ fc2 p q = false := by
  unfold fc1 fc2
  rw [h7]
  refine ⟨by cases p.bt 7 <;> rfl, ?_⟩
  rcases h30 with h | h <;> simp [h]
theorem kD {p q : Pt} (hp : p.bt 9 = true) (hq : q.bt 9 = true) (h30 : q.nm 30 = p.nm 30) (h73 : p.nm 73 = 3 ∨ p.nm 73 = 4) : fc1 p q = false ∧ fc2 p q = false := by
  unfold fc1 fc2
  rw [hp, hq, h30]
  refine ⟨?_, by simp⟩
  rcases h73 with h | h <;> simp [h]
theorem k3 {s : Bool} {p q : Pt} (h : q.bt 3 = p.bt 3) : fc3 s p q = false := by
  unfold fc3
  rw [h]
  cases p.bt 3 <;> rfl
theorem good_A {s : Bool} {p q : Pt} (h7 : q.bt 7 = p.bt 7) (h30 : q.nm 30 = p.nm 30) (h3 : q.bt 3 = p.bt 3) : Good s p q := ⟨(kA h7 h30).1, (kA h7 h30).2, k3 h3⟩
theorem good_B {s : Bool} {p q : Pt} (h7 : q.bt 7 = false) (h9 : q.bt 9 = false) (h3 : q.bt 3 = p.bt 3) : Good s p q := ⟨(kB h7 h9).1, (kB h7 h9).2, k3 h3⟩
theorem good_C {s : Bool} {p q : Pt} (h7 : q.bt 7 = p.bt 7) (h30 : q.nm 30 = 3 ∨ q.nm 30 = 4) (h3 : q.bt 3 = p.bt 3) : Good s p q := ⟨(kC h7 h30).1, (kC h7 h30).2, k3 h3⟩
theorem good_D {s : Bool} {p q : Pt} (hp : p.bt 9 = true) (hq : q.bt 9 = true) (h30 : q.nm 30 = p.nm 30) (h73 : p.nm 73 = 3 ∨ p.nm 73 = 4) (h3 : q.bt 3 = p.bt 3) : Good s p q := ⟨(kD hp hq h30 h73).1, (kD hp hq h30 h73).2, k3 h3⟩
theorem good_rol (s : Bool) (p : Pt) : Good s p (rolP p) := by
  unfold rolP
  by_cases h0 : p.nm 31 = 0
  · rw [if_pos h0]
    exact good_B (becDis_7 _) (becDis_9 _) ((becDis_3 _).trans (takP_3 p))
  · rw [if_neg h0]
    by_cases h3 : p.nm 31 = 3
    · rw [if_pos h3]
      exact good_C ((becRoot_7 _).trans (takP_7 p)) (Or.inl ((becRoot_30 _).trans ((tak_get p).1.trans h3))) ((becRoot_3 _).trans (takP_3 p))
    · rw [if_neg h3]
      by_cases h4 : p.nm 31 = 4
      · rw [if_pos h4]
        exact good_C ((becDsg_7 _).trans (takP_7 p)) (Or.inr ((becDsg_30 _).trans ((tak_get p).1.trans h4))) ((becDsg_3 _).trans (takP_3 p))
      · rw [if_neg h4]
        exact good_B (becBlk_7 _) (becBlk_9 _) ((becBlk_3 _).trans (takP_3 p))
theorem and_l {a b : Bool} (h : (a && b) = true) : a = true := by cases a <;> simp_all
theorem and_r {a b : Bool} (h : (a && b) = true) : b = true := by cases b <;> simp_all
theorem gt_map {f : Pt → Pt} {l : List Pt} {j : Nat} (h : j < l.length) : gtP (l.map f) j = f (gtP l j) := by
  have h1 := gtP_at (l := l.map f) (i := j) (by simpa using h)
  rw [List.getElem?_map, gtP_at h] at h1
  exact (Option.some.inj h1).symm
theorem gt_other {l : List Pt} {j k : Nat} {q : Pt} (h : j ≠ k) : gtP (l.set k q) j = gtP l j := by
  unfold gtP
  rw [List.getD_eq_getElem?_getD, List.getD_eq_getElem?_getD, List.getElem?_set_ne (by omega)]
theorem good_dsg (s : Bool) {p q : Pt} (h73 : p.nm 73 = 4) (h : dsgO p = some q) : Good s p q := by
  unfold dsgO at h
  by_cases h0 : ((!p.bt 7 && !p.bt 4) && !p.bt 13) = true
  · rw [if_pos h0] at h
    cases h
    exact good_A (prsP_7 _) (prsP_30 _) (prsP_3 _)
  rw [if_neg h0] at h
  by_cases h1 : ((stopB p && !p.bt 25) || (p.bt 4 && !p.bt 25) || (p.bt 24 && p.bt 25)) = true
  · rw [if_pos h1] at h
    cases h
    exact good_A (synP_7 _) (synP_30 _) (synP_3 _)
  rw [if_neg h1] at h
  by_cases h2 : ((p.nm 70 == 0) && p.bt 20) = true
  · rw [if_pos h2] at h
    cases h
    exact good_A (rrdP_7 _) (rrdP_30 _) (rrdP_3 _)
  rw [if_neg h2] at h
  by_cases h3 : (mustB p && (p.bt 9 || p.bt 7)) = true
  · rw [if_pos h3] at h
    cases h
    exact good_B (stpP_7 _) (stpP_9 _) (stpP_3 _)
  rw [if_neg h3] at h
  by_cases h4 : (mayP p && !p.bt 9) = true
  · rw [if_pos h4] at h
    cases h
    exact good_A (lrnP_7 _) (lrnP_30 _) (lrnP_3 _)
  rw [if_neg h4] at h
  by_cases h5 : ((mayP p && p.bt 9) && !p.bt 7) = true
  · rw [if_pos h5] at h
    cases h
    exact good_D (and_r (and_l h5)) ((fwdDP_9 _).trans (and_r (and_l h5))) (fwdDP_30 _) (Or.inr h73) (fwdDP_3 _)
  rw [if_neg h5] at h
  cases h
theorem good_agr {l m : List Pt} {k : Nat} (hk : k < l.length) (h : agrO l k = some m) : Good (inS l k) (gtP l k) (gtP m k) := by
  unfold agrO at h
  by_cases h1 : prpB (gtP l k) = true
  · rw [if_pos h1] at h
    cases h
    rw [gt_map (by rw [List.length_set]; exact hk), gtP_put hk]
    exact good_A ((syncP_7 _).trans (prdP_7 _)) ((syncP_30 _).trans (prdP_30 _)) ((syncP_3 _).trans (prdP_3 _))
  rw [if_neg h1] at h
  by_cases h2 : ansB l k = true
  · rw [if_pos h2] at h
    cases h
    rw [gtP_put hk]
    have key : ∀ q : Pt, fc3 (inS l k) (gtP l k) q = false := fun q => by
      unfold fc3
      unfold ansB at h2
      cases hb : (gtP l k).bt 3
      · rw [hb] at h2
        have : inS l k = true := by cases hi : inS l k <;> simp_all
        rw [this]
        simp
      · simp
    split
    · exact ⟨(kA (agrRP_7 _) (agrRP_30 _)).1, (kA (agrRP_7 _) (agrRP_30 _)).2, key _⟩
    · exact ⟨(kA (agrP_7 _) (agrP_30 _)).1, (kA (agrP_7 _) (agrP_30 _)).2, key _⟩
  rw [if_neg h2] at h
  cases h
theorem good_rot (s : Bool) {l m : List Pt} {k : Nat} (hk : k < l.length) (h73 : (gtP l k).nm 73 = 3) (h : rotO l k = some m) : Good s (gtP l k) (gtP m k) := by
  unfold rotO at h
  by_cases h0 : (!(gtP l k).bt 7 && !(gtP l k).bt 20) = true
  · rw [if_pos h0] at h
    cases h
    rw [gt_map hk]; exact good_A (rerP_7 _) (rerP_30 _) (rerP_3 _)
  rw [if_neg h0] at h
  by_cases h1 : ((gtP l k).bt 20 && (gtP l k).bt 7) = true
  · rw [if_pos h1] at h
    cases h
    rw [gtP_put hk]; exact good_A (rrdP_7 _) (rrdP_30 _) (rrdP_3 _)
  rw [if_neg h1] at h
  by_cases h2 : (rdyB l k && !(gtP l k).bt 9) = true
  · rw [if_pos h2] at h
    cases h
    rw [gtP_put hk]; exact good_A (lrnP_7 _) (lrnP_30 _) (lrnP_3 _)
  rw [if_neg h2] at h
  by_cases h3 : ((rdyB l k && (gtP l k).bt 9) && !(gtP l k).bt 7) = true
  · rw [if_pos h3] at h
    cases h
    rw [gtP_put hk]; exact good_D (and_r (and_l h3)) ((fwdP_9 _).trans (and_r (and_l h3))) (fwdP_30 _) (Or.inl h73) (fwdP_3 _)
  rw [if_neg h3] at h
  by_cases h4 : ((gtP l k).nm 70 != (gtP l k).nm 43) = true
  · rw [if_pos h4] at h
    cases h
    rw [gtP_put hk]; exact good_A (rcnP_7 _) (rcnP_30 _) (rcnP_3 _)
  rw [if_neg h4] at h
  cases h
theorem good_alt (s : Bool) {l m : List Pt} {k : Nat} (hk : k < l.length) (h : altO l k = some m) : Good s (gtP l k) (gtP m k) := by
  unfold altO at h
  by_cases h0 : looB (gtP l k) 43 = true
  · rw [if_pos h0] at h
    cases h
    rw [gtP_put hk]; exact good_A (blkP_7 _) (blkP_30 _) (blkP_3 _)
  rw [if_neg h0] at h
  by_cases h1 : bckB (gtP l k) = true
  · rw [if_pos h1] at h
    cases h
    rw [gtP_put hk]; exact good_A (bkuP_7 _) (bkuP_30 _) (bkuP_3 _)
  rw [if_neg h1] at h
  cases h
theorem good_or {s : Bool} {l m : List Pt} {k : Nat} {a b : Option (List Pt)} (ha : ∀ m, a = some m → Good s (gtP l k) (gtP m k)) (hb : ∀ m, b = some m → Good s (gtP l k) (gtP m k)) (h : orO a b = some m) : Good s (gtP l k) (gtP m k) := by
  cases a with
  | none => exact hb m h
  | some x => cases h; exact ha _ rfl
theorem good_st {l m : List Pt} {k : Nat} (hk : k < l.length) (h : stO l k = some m) : Good (inS l k) (gtP l k) (gtP m k) := by
  unfold stO at h
  by_cases h1 : (gtP l k).nm 73 = 1
  · rw [if_pos h1] at h
    by_cases hc : stopB (gtP l k) = true
    · rw [if_pos hc] at h; cases h; rw [gtP_put hk]; exact good_A (disP_7 _) (disP_30 _) (disP_3 _)
    · rw [if_neg hc] at h; cases h
  rw [if_neg h1] at h
  by_cases h2 : (gtP l k).nm 73 = 2
  · rw [if_pos h2] at h
    by_cases hc : looB (gtP l k) 41 = true
    · rw [if_pos hc] at h; cases h; rw [gtP_put hk]; exact good_A (disP_7 _) (disP_30 _) (disP_3 _)
    · rw [if_neg hc] at h; cases h
  rw [if_neg h2] at h
  by_cases h3 : (gtP l k).nm 73 = 3
  · rw [if_pos h3] at h
    exact good_or (fun m hm => good_agr hk hm) (fun m hm => good_rot _ hk h3 hm) h
  rw [if_neg h3] at h
  by_cases h4 : (gtP l k).nm 73 = 4
  · rw [if_pos h4, Option.map_eq_some_iff] at h
    obtain ⟨q, hq, rfl⟩ := h
    rw [gtP_put hk]
    exact good_dsg _ h4 hq
  rw [if_neg h4] at h
  by_cases h5 : (gtP l k).nm 73 = 5
  · rw [if_pos h5] at h
    by_cases hc : stopB (gtP l k) = true
    · rw [if_pos hc] at h; cases h; rw [gtP_put hk]; exact good_A (blkP_7 _) (blkP_30 _) (blkP_3 _)
    · rw [if_neg hc] at h; cases h
  rw [if_neg h5] at h
  by_cases h6 : (gtP l k).nm 73 = 6
  · rw [if_pos h6] at h
    exact good_or (fun m hm => good_agr hk hm) (fun m hm => good_alt _ hk hm) h
  rw [if_neg h6] at h
  cases h
/-- What a step does to its own port. -/
theorem good_step {l m : List Pt} {k : Nat} (hk : k < l.length) (h : stepO l k = some m) : Good (inS l k) (gtP l k) (gtP m k) := by
  rw [step_ref] at h
  unfold refO at h
  by_cases h0 : (decide ((gtP l k).nm 73 < 1) || decide (6 < (gtP l k).nm 73)) = true
  · rw [if_pos h0] at h; cases h; rw [gtP_put hk]; exact good_B (begP_7 _) (begP_9 _) (begP_3 _)
  rw [if_neg h0] at h
  by_cases h1 : (!(gtP l k).bt 22 || (gtP l k).bt 28) = true
  · rw [if_pos h1] at h; cases h
  rw [if_neg h1] at h
  by_cases h2 : ((gtP l k).nm 31 != (gtP l k).nm 30) = true
  · rw [if_pos h2] at h; cases h; rw [gtP_put hk]; exact good_rol _ _
  rw [if_neg h2] at h
  exact good_st hk h
/-- Another port behind a step: as it was, or asked. -/
def Oth (p q : Pt) : Prop := q = p ∨ q = syncP p ∨ q = rerP p
theorem fn_other {F k j : Nat} {l : List Pt} (hne : j ≠ k) (hj : j < l.length) : Oth (gtP l j) (gtP (fnOf F k l) j) := by
  unfold fnOf
  by_cases h0 : F = 29
  · rw [if_pos h0]; exact Or.inl (gt_other hne)
  rw [if_neg h0]
  by_cases h1 : F = 30
  · rw [if_pos h1]; exact Or.inl (gt_other hne)
  rw [if_neg h1]
  by_cases h2 : F = 43
  · rw [if_pos h2]; exact Or.inl (gt_other hne)
  rw [if_neg h2]
  by_cases h3 : F = 47
  · rw [if_pos h3]; exact Or.inl (gt_other hne)
  rw [if_neg h3]
  by_cases h4 : F = 55
  · rw [if_pos h4]; exact Or.inl (gt_other hne)
  rw [if_neg h4]
  by_cases h5 : F = 66
  · rw [if_pos h5]; exact Or.inl (gt_other hne)
  rw [if_neg h5]
  by_cases h6 : F = 57
  · rw [if_pos h6]; exact Or.inl (gt_other hne)
  rw [if_neg h6]
  by_cases h7 : F = 58
  · rw [if_pos h7]; exact Or.inl (gt_other hne)
  rw [if_neg h7]
  by_cases h8 : F = 59
  · rw [if_pos h8]; exact Or.inl (gt_other hne)
  rw [if_neg h8]
  by_cases h9 : F = 60
  · rw [if_pos h9]; exact Or.inl (gt_other hne)
  rw [if_neg h9]
  by_cases h10 : F = 62
  · rw [if_pos h10]; exact Or.inl (gt_other hne)
  rw [if_neg h10]
  by_cases h11 : F = 63
  · rw [if_pos h11]; exact Or.inl (gt_other hne)
  rw [if_neg h11]
  by_cases h12 : F = 64
  · rw [if_pos h12]; exact Or.inl (gt_other hne)
  rw [if_neg h12]
  by_cases h13 : F = 65
  · rw [if_pos h13]; exact Or.inl (gt_other hne)
  rw [if_neg h13]
  by_cases h14 : F = 68
  · rw [if_pos h14]; exact Or.inl (gt_other hne)
  rw [if_neg h14]
  by_cases hb : F = 71
  · rw [if_pos hb, gt_map (by rw [List.length_set]; exact hj), gt_other hne]; exact Or.inr (Or.inl rfl)
  rw [if_neg hb]
  by_cases hr : F = 56
  · rw [if_pos hr, gt_map hj]; exact Or.inr (Or.inr rfl)
  rw [if_neg hr]
  exact Or.inl rfl
theorem oth_step {l : List Pt} {i : Int} {j : Nat} (hne : (j : Int) ≠ i) (hj : j < l.length) : Oth (gtP l j) (gtP (stepL l i) j) := by
  unfold stepL
  split
  · rename_i hi
    cases h : stepO l i.toNat with
    | none => exact Or.inl rfl
    | some m =>
      unfold stepO at h
      rw [Option.map_eq_some_iff] at h
      obtain ⟨F, _, rfl⟩ := h
      exact fn_other (by omega) hj
  · exact Or.inl rfl
/-- Sync and ReRoot put back: the port as it was. -/
theorem oth_back {p q : Pt} (h : Oth p q) : (q.setB 24 kb24 (p.bt 24)).setB 20 kb20 (p.bt 20) = p := by
  have b24 := p.bit kb24
  have b20 := p.bit kb20
  refine Row.same fun k _ => ?_
  rcases h with rfl | rfl | rfl <;>
  · simp only [syncP, rerP, Row.setB_get]
    by_cases h1 : k = 20
    · subst h1; simp [b20]
    · by_cases h2 : k = 24
      · subst h2; simp [b24]
      · simp [h1, h2]
theorem oth_only {p q : Pt} (h : Oth p q) : ((p.bt 24 && !q.bt 24) || (p.bt 20 && !q.bt 20)) = false := by
  have s24 : (syncP p).bt 24 = true := setB_at p kb24 true
  have s20 : (syncP p).bt 20 = p.bt 20 := setB_bt p kb24 true (by decide)
  have r20 : (rerP p).bt 20 = true := setB_at p kb20 true
  have r24 : (rerP p).bt 24 = p.bt 24 := setB_bt p kb20 true (by decide)
  rcases h with rfl | rfl | rfl
  · cases q.bt 24 <;> cases q.bt 20 <;> rfl
  · rw [s24, s20]; cases p.bt 24 <;> cases p.bt 20 <;> rfl
  · rw [r24, r20]; cases p.bt 24 <;> cases p.bt 20 <;> rfl
end Go.Proofs.Ytdlleecfmebenaa
