/-
  Messages that may be: the walks of the definition's fine and Check, for what a port says.
-/
import Derived.Test.YtllmadgonobdnaaRMes
import Derived.Test.YtllmadgonobdnaaLawS
namespace Go.Proofs.Ytllmadgonobdnaa
set_option linter.unusedVariables false
set_option maxRecDepth 4000
set_option linter.unusedSimpArgs false
open Go.RowKit

theorem RvAt.mV {W : World} {b : Nat} {m : Mg} (hb : RvAt W b 43 m.cs) : (ldS 28 (.pointer (some ⟨b, 8, none⟩))).run Try.prog W = .ok (.agg (vOf m).cs) W := hb.part rfl rfl Try.underlying28 rfl infoV
theorem RvAt.mT {W : World} {b : Nat} {m : Mg} (hb : RvAt W b 43 m.cs) : (ldS 24 (.pointer (some ⟨b, 12, none⟩))).run Try.prog W = .ok (.agg (tOf m).cs) W := hb.part rfl rfl Try.underlying24 rfl infoTm
theorem cfg_v (p : Pt) : vOf (cfgM p) = dsg p := Row.ext' (by
  show ((cfgM p).cl.drop 8).take 4 = _
  rw [cfg_cl, vc_cl (dsg p), tm_cl (dsT p)]
  rfl)
theorem cfg_t (p : Pt) : tOf (cfgM p) = dsT p := Row.ext' (by
  show ((cfgM p).cl.drop 12).take 4 = _
  rw [cfg_cl, vc_cl (dsg p), tm_cl (dsT p)]
  rfl)
theorem mcell {m : Mg} {L : List Value} (h : m.cl = L) {j : Nat} {v : Value} (hv : L[j]? = some v) : m.cl[j]? = some v := by rw [h]; exact hv
theorem RvAt.mc {W : World} {b j : Nat} {m : Mg} {v : Value} (hb : RvAt W b 43 m.cs) (h : m.cl[j]? = some v) : W.cell? ⟨b, j, none⟩ = some v := hb.cell j v (by rw [Row.cget]; exact h)
attribute [local go_sem ↓] ldM stM ldV ldTm bdMs eqgM eqlM
set_option maxHeartbeats 4000000 in
theorem fine_any (p : Pt) (w : World) : Calls Try.prog 35 #[.agg (msgP p).cs] w fun r w' => r = .returned (.bool true) ∧ Below w.heap.size w w' := by
  unfold msgP
  split
  · obtain ⟨W, hW, r0, bW, zW⟩ := new_m w (rstM p)
    have c0 := r0.mc (j := 0) (by rw [rst_cl]; rfl)
    have c2 := r0.mc (j := 2) (by rw [rst_cl]; rfl)
    have c7 := r0.mc (j := 7) (v := .int .i64 (rolN (p.nm 30))) (by rw [rst_cl]; rfl)
    have H : Hid (Below w.heap.size w W) := bW
    obtain ⟨N, hN⟩ : ∃ z, rolN (p.nm 30) = z := ⟨_, rfl⟩
    have hr := rol_is (p.nm 30)
    rw [hN] at c7 hr
    clear r0 bW zW hN
    rcases hr with rfl | rfl | rfl | rfl
    · go_enter Try.func35, Try.ntmps35
      go_wp2
      go_ret
      exact ⟨rfl, H.out⟩
    · go_enter Try.func35, Try.ntmps35
      go_wp2
      go_ret
      exact ⟨rfl, H.out⟩
    · go_enter Try.func35, Try.ntmps35
      go_wp2
      go_ret
      exact ⟨rfl, H.out⟩
    · go_enter Try.func35, Try.ntmps35
      go_wp2
      go_ret
      exact ⟨rfl, H.out⟩
  · split
    · obtain ⟨W, hW, r0, bW, zW⟩ := new_m w (cfgM p)
      have c0 := r0.mc (j := 0) (by rw [cfg_cl]; rfl)
      have c1 := r0.mc (j := 1) (v := .bool (tcB p)) (by rw [cfg_cl]; rfl)
      have c2 := r0.mc (j := 2) (v := .bool (p.bt 26)) (by rw [cfg_cl]; rfl)
      have lm := r0.mld
      have lv := r0.mV
      rw [cfg_v] at lv
      have lt := r0.mT
      rw [cfg_t] at lt
      have qb := bdM_cfg p W
      have ee : (cfgM p).eq (cfgM p) = true := Row.eq_self _
      have H : Hid (Below w.heap.size w W) := bW
      clear r0 bW zW
      go_enter Try.func35, Try.ntmps35
      go_wp2
      go_ret
      exact ⟨rfl, H.out⟩
    · obtain ⟨W, hW, r0, bW, zW⟩ := new_m w tcnM
      have c0 := r0.mc (j := 0) (v := .int .i64 2) rfl
      have lm := r0.mld
      have qb := bdM_kind wi2 W
      rw [show (zeroM.setN 0 km0 2 wi2).cs = tcnM.cs from rfl] at qb
      have ee : tcnM.eq tcnM = true := Row.eq_self _
      have H : Hid (Below w.heap.size w W) := bW
      clear r0 bW zW
      go_enter Try.func35, Try.ntmps35
      go_wp2
      go_ret
      exact ⟨rfl, H.out⟩
theorem chk_any (p : Pt) (w : World) : Calls Try.prog 17 #[.agg (msgP p).cs] w fun r w' => r = .returned (.int .i64 0) ∧ Below w.heap.size w w' := by
  obtain ⟨W, hW, r0, bW, zW⟩ := new_m w (msgP p)
  have lm := r0.mld
  have H : Hid (Below w.heap.size w W) := bW
  clear r0 bW zW
  go_enter Try.func17, Try.ntmps17
  go_wp2_with fail
  refine (fine_any p W).mono ?_
  rintro _ V ⟨rfl, bV⟩
  have F : Hid (Below w.heap.size w V) := below_over H.out bV
  clear bV lm
  go_wp2
  go_ret
  exact ⟨rfl, F.out⟩
theorem ptxV_is {h : Hd} {l : List Pt} {i : Int} {r : Ot} (e : ptxV h l i = some r) : (0 ≤ i ∧ i < (l.length : Int)) ∧ r = outI i (msgI l i) ∧ ∃ p, msgI l i = msgP p := by
  by_cases hi : 0 ≤ i ∧ i < (l.length : Int)
  · obtain ⟨k, rfl⟩ : ∃ k : Nat, i = (k : Int) := ⟨i.toNat, by omega⟩
    have hk : k < l.length := by omega
    rw [ptxV_in hk] at e
    refine ⟨hi, ?_, gtP l k, msgI_in hk⟩
    rw [msgI_in hk]
    unfold ptxU at e
    split at e
    · exact (Option.some.inj e).symm
    · cases e
  · rw [ptxV_out hi] at e
    cases e
theorem RvAt.oM {W : World} {b : Nat} {i : Int} {hw : (Lit.int .i64 i).wf = true} {m : Mg} (hb : RvAt W b 48 (outR i hw m).cs) : (ldS 43 (.pointer (some ⟨b, 1, none⟩))).run Try.prog W = .ok (.agg m.cs) W :=
  hb.part (q := m) (o := 1) (n := 16) (by
    show m.cl = (m.cl.take 16)
    rw [List.take_of_length_le (by rw [m.len, lenM]; omega)]) rfl Try.underlying43 rfl infoM
end Go.Proofs.Ytllmadgonobdnaa
