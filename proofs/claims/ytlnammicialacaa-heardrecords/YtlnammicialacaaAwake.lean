/-
  The page's example: its walk.
-/
import Derived.Test.YtlnammicialacaaFuns
import Derived.Test.YtlnammicialacaaInf
namespace Go.Proofs.Ytlnammicialacaa
set_option linter.unusedVariables false
set_option maxRecDepth 4000
set_option linter.unusedSimpArgs false
open Go.RowKit

theorem fits4 (a b c d : Int) (h0 : (Lit.int .u64 a).wf = true) (h1 : (Lit.int .u32 b).wf = true) (h2 : (Lit.int .u64 c).wf = true) (h3 : (Lit.int .u16 d).wf = true) : Fits kdV [.int .u64 a, .int .u32 b, .int .u64 c, .int .u16 d] := by
  refine ⟨rfl, fun j k v hk hv => ?_⟩
  match j, hk, hv with
  | 0, hk, hv => cases hk; cases hv; exact ⟨_, rfl, h0⟩
  | 1, hk, hv => cases hk; cases hv; exact ⟨_, rfl, h1⟩
  | 2, hk, hv => cases hk; cases hv; exact ⟨_, rfl, h2⟩
  | 3, hk, hv => cases hk; cases hv; exact ⟨_, rfl, h3⟩
  | j + 4, hk, hv => simp at hv
def v5 : Vc := ⟨[.int .u64 5, .int .u32 0, .int .u64 5, .int .u16 1], fits4 _ _ _ _ (by decide) (by decide) (by decide) (by decide)⟩
def v44 : Vc := ⟨[.int .u64 4, .int .u32 0, .int .u64 4, .int .u16 1], fits4 _ _ _ _ (by decide) (by decide) (by decide) (by decide)⟩
def v6 : Vc := ⟨[.int .u64 6, .int .u32 0, .int .u64 6, .int .u16 1], fits4 _ _ _ _ (by decide) (by decide) (by decide) (by decide)⟩
theorem km0 : kdM[0]? = some (some .i64) := rfl
theorem km7 : kdM[7]? = some (some .i64) := rfl
theorem kq8 : (kdM.drop 8).take kdV.length = kdV := rfl
theorem kl8 : 8 + kdV.length ≤ kdM.length := by decide
theorem kq56 : (kdP.drop 56).take kdV.length = kdV := rfl
theorem kl56 : 56 + kdV.length ≤ kdP.length := by decide
/-- The example's port, its message, the port behind it, the other port. -/
def pX : Pt := (zeroP.setB 2 kb2 true).put 36 v5 kq36 kl36
def mX : Mg := ((zeroM.set 0 (.int .i64 3) (fit_num km0 (by decide))).set 7 (.int .i64 4) (fit_num km7 (by decide))).put 8 v44 kq8 kl8
def pY : Pt := takeP pX mX
def qX : Pt := pY.put 56 v6 kq56 kl56
def bdS (t : TypeId) (ps : Array (Nat × Value)) : Sem Value := Instr.build t ps
theorem bdV (ps : Array (Nat × Value)) : Instr.build 28 ps = bdS 28 ps := rfl
theorem bdM (ps : Array (Nat × Value)) : Instr.build 33 ps = bdS 33 ps := rfl
theorem bdP (ps : Array (Nat × Value)) : Instr.build 36 ps = bdS 36 ps := rfl
theorem bd5 (w : World) : (bdS 28 #[(0, .int .u64 5), (2, .int .u64 5), (3, .int .u16 1)]).run Try.prog w = .ok (.agg v5.cs) w := by kernel_rfl
theorem bd4 (w : World) : (bdS 28 #[(0, .int .u64 4), (2, .int .u64 4), (3, .int .u16 1)]).run Try.prog w = .ok (.agg v44.cs) w := by kernel_rfl
theorem bd6 (w : World) : (bdS 28 #[(0, .int .u64 6), (2, .int .u64 6), (3, .int .u16 1)]).run Try.prog w = .ok (.agg v6.cs) w := by kernel_rfl
theorem bdp (w : World) : (bdS 36 #[(2, .bool true), (33, .agg v5.cs)]).run Try.prog w = .ok (.agg pX.cs) w := by kernel_rfl
theorem bdm (w : World) : (bdS 33 #[(0, .int .i64 3), (7, .int .i64 4), (8, .agg v44.cs)]).run Try.prog w = .ok (.agg mX.cs) w := by kernel_rfl
theorem eq_ne {ks : List (Option IntKind)} {a b : Row ks} (j : Nat) (h : a.nm j ≠ b.nm j) : a.eq b = false := by
  cases e : a.eq b
  · rfl
  · exact absurd (by rw [Row.eq_iff.1 e]) h
theorem pY_14 : pY.bt 14 = true := by kernel_rfl
theorem pY_15 : pY.bt 15 = true := by kernel_rfl
theorem pY_inf : infP pY = 1 := by
  have h1 : desM (msg pY) = true := by kernel_rfl
  have h2 : (mV pY).nm 0 = 4 := by kernel_rfl
  have h3 : (pri pY).nm 0 = 5 := by kernel_rfl
  have h4 : sup (mV pY) (pri pY) = true := by kernel_rfl
  rw [infP, if_pos h1, ofDes, samP, eq_ne 0 (by rw [h2, h3]; decide), if_neg (by simp), if_pos h4]
theorem qX_inf : infP qX = 3 := by
  have h1 : desM (msg qX) = true := by kernel_rfl
  have h2 : (mV qX).nm 0 = 6 := by kernel_rfl
  have h3 : (pri qX).nm 0 = 5 := by kernel_rfl
  have h4 : sup (mV qX) (pri qX) = false := by kernel_rfl
  rw [infP, if_pos h1, ofDes, samP, eq_ne 0 (by rw [h2, h3]; decide), if_neg (by simp), if_neg (by rw [h4]; simp)]
theorem var_p (W : World) (p : Pt) : ∃ W', (stS 36 (.pointer (some ⟨W.heap.size, 0, none⟩)) (.agg p.cs)).run Try.prog (W.alloc (.cells zeroP.cs 36)) = .ok () W' ∧ RvAt W' W.heap.size 36 p.cs ∧ Below W.heap.size W W' ∧ W'.heap.size = W.heap.size + 1 :=
  row_new rtP W zeroP.cs p.cs (by rw [Row.csize, lenP]) (by rw [Row.csize, lenP]) p.one'
attribute [local go_sem ↓] ldP stP ldM stM ldTm stTm ldV stV stB stU
attribute [local go_sem ↓] alP alM bdV bdM bdP
attribute [local go_sem] alP_run alM_run bd5 bd4 bd6 bdp bdm
set_option maxHeartbeats 4000000 in
theorem awake_any (w : World) : Calls Try.prog 11 #[] w fun r w' => r = .returned (.bool true) ∧ Below w.heap.size w w' := by
  obtain ⟨A, sA, rA, bA, zA⟩ := var_p w pX
  have lA := rA.pld
  have H : Hid (RvAt A w.heap.size 36 pX.cs ∧ Below w.heap.size w A) := ⟨rA, bA⟩
  clear rA bA zA
  go_enter Try.func11, Try.ntmps11
  go_wp2_with fail
  refine (take_any pX mX A).mono ?_
  rintro _ V ⟨rfl, bV⟩
  obtain ⟨B, sB, rB0, gB⟩ := (H.out.1.below bV).pst (q := pY)
  have rB : RvAt B w.heap.size 36 pY.cs := rB0
  have bB : Below w.heap.size w B := gro (below_over H.out.2 bV) gB (Nat.le_refl _) (below_over H.out.2 bV).size
  have lB := rB.pld
  obtain ⟨C, sC, rC, bC, zC⟩ := var_p B pY
  obtain ⟨D, sD, rD0, gD⟩ := rC.rput (tv := 28) v6 kq56 kl56 infoV
  have rD : RvAt D B.heap.size 36 qX.cs := rD0
  have rE := (rB.below bC).keptBut gD (by have := rB.lt; simp; omega)
  have bD : Below w.heap.size w D := gro (below_over bB bC) gD bB.size (below_over bB bC).size
  have e14 := rE.bit (j := 14) rfl
  have e15 := rE.bit (j := 15) rfl
  rw [pY_14] at e14
  rw [pY_15] at e15
  have lE := rE.pld
  have F : Hid (RvAt D B.heap.size 36 qX.cs ∧ Below w.heap.size w D) := ⟨rD, bD⟩
  clear bV rB0 rB bB gB rC bC zC rD0 rD gD rE bD sA lA H
  change (stS 36 (.pointer (some ⟨w.heap.size, 0, none⟩)) (.agg (takeP pX mX).cs)).run Try.prog V = .ok () B at sB
  go_wp2_with fail
  refine (inf_any pY D).mono ?_
  rintro _ X ⟨rfl, bX⟩
  rw [pY_inf]
  have lX := (F.out.1.below bX).pld
  have G : Hid (Below w.heap.size w X) := below_over F.out.2 bX
  clear bX lE e14 e15 lB sB sC sD
  go_wp2_with fail
  refine (inf_any qX X).mono ?_
  rintro _ Y ⟨rfl, bY⟩
  rw [qX_inf]
  have G2 : Hid (Below w.heap.size w Y) := below_over G.out bY
  clear bY lX
  go_wp2
  go_ret
  exact ⟨rfl, G2.out⟩
end Go.Proofs.Ytlnammicialacaa
