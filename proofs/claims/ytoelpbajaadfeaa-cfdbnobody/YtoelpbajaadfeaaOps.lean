/-
  A call, as the laws have it; the example's stations.
-/
import Derived.Test.YtoelpbajaadfeaaFork
namespace Go.Proofs.Ytoelpbajaadfeaa
set_option linter.unusedVariables false
set_option maxRecDepth 4000
set_option linter.unusedSimpArgs false
open Go.RowKit

/-- A call. -/
structure Oq where
  act : Int
  isid : Int
  other : Int
  c : Ad
  b : Ad
  tick : Int
def Oq.cs (o : Oq) : Array Value := #[.int .u8 o.act, .int .i64 o.isid, .int .i64 o.other, .int .u8 o.c.a, .int .u8 o.c.b, .int .u8 o.c.c, .int .u8 o.c.d, .int .u8 o.c.e, .int .u8 o.c.f, .int .u8 o.b.a, .int .u8 o.b.b, .int .u8 o.b.c, .int .u8 o.b.d, .int .u8 o.b.e, .int .u8 o.b.f, .int .i64 o.tick]
structure Oq.wf (o : Oq) : Prop where
  act : 0 ≤ o.act ∧ o.act ≤ 255
  isid : -9223372036854775808 ≤ o.isid ∧ o.isid ≤ 9223372036854775807
  c : o.c.wf
  b : o.b.wf
/-- Its entry. -/
def Oq.en (o : Oq) : En := ⟨kyOf o.isid o.c, o.b, o.tick⟩
def Oq.k (o : Oq) : Ky := kyOf o.isid o.c
theorem Oq.wf.k {o : Oq} (h : o.wf) : o.k.wf := kyOf_wf h.isid h.c
theorem Oq.size (o : Oq) : o.cs.size = 16 := rfl
theorem Oq.one (o : Oq) : ∀ x ∈ o.cs.toList, x.oneCell' = true := by
  intro x hx
  simp only [Oq.cs, List.mem_cons, List.not_mem_nil, or_false] at hx
  rcases hx with rfl | rfl | rfl | rfl | rfl | rfl | rfl | rfl | rfl | rfl | rfl | rfl | rfl | rfl | rfl | rfl <;> rfl
theorem infoO : (Try.prog.info? 40).map (·.size) = some 16 := by kernel_rfl
theorem rtO : RowTy 40 16 := ⟨infoO, _, Try.underlying40, rfl⟩
theorem ldO (x : Value) : Instr.loadAt 40 x = ldS 40 x := rfl
theorem stO (x y : Value) : Instr.storeAt 40 x y = stS 40 x y := rfl
/-- The addresses in a call's variable. -/
theorem RvAt.ocmac {W : World} {b : Nat} {o : Oq} (h : RvAt W b 40 o.cs) : (ldS 38 (.pointer (some ⟨b, 3, none⟩))).run Try.prog W = .ok (.agg o.c.cs) W :=
  run_loadAt_mid W b 3 38 o.c.cs.toList _ (fun j v hv => h.cell _ _ (by
    match j, hv with
    | 0, hx => cases hx; rfl
    | 1, hx => cases hx; rfl
    | 2, hx => cases hx; rfl
    | 3, hx => cases hx; rfl
    | 4, hx => cases hx; rfl
    | 5, hx => cases hx; rfl
    | j + 6, hx => simp [Ad.cs] at hx)) Try.underlying38 rfl infoM
theorem RvAt.obmac {W : World} {b : Nat} {o : Oq} (h : RvAt W b 40 o.cs) : (ldS 38 (.pointer (some ⟨b, 9, none⟩))).run Try.prog W = .ok (.agg o.b.cs) W :=
  run_loadAt_mid W b 9 38 o.b.cs.toList _ (fun j v hv => h.cell _ _ (by
    match j, hv with
    | 0, hx => cases hx; rfl
    | 1, hx => cases hx; rfl
    | 2, hx => cases hx; rfl
    | 3, hx => cases hx; rfl
    | 4, hx => cases hx; rfl
    | 5, hx => cases hx; rfl
    | j + 6, hx => simp [Ad.cs] at hx)) Try.underlying38 rfl infoM
attribute [local go_sem ↓] ldK stK ldM stM ldP stP ldE stE
/-- The stations of the laws. -/
def stA (n : Int) : Ad := ⟨2, 0, 0, 0, 0, n⟩
theorem stA_wf {n : Int} (h : 0 ≤ n ∧ n ≤ 255) : (stA n).wf := ⟨by simp [stA], by simp [stA], by simp [stA], by simp [stA], by simp [stA], h⟩
theorem stA_kind {n : Int} (h : 0 ≤ n ∧ n ≤ 255) : kindOf (stA n).a (stA n).b (stA n).c (stA n).d (stA n).e (stA n).f = 1 := by
  simp [stA, kindOf, eq6, isRes, isSvc, isMany]
theorem stA_inj {n m : Int} (h : stA n = stA m) : n = m := by
  simp only [stA, Ad.mk.injEq] at h
  exact h.2.2.2.2.2
set_option maxHeartbeats 800000 in
theorem station_any (n : Int) (w : World) (h : 0 ≤ n ∧ n ≤ 255) : Calls Try.prog 14 #[.int .i64 n] w fun r w' => r = .returned (.agg (stA n).cs) ∧ Below w.heap.size w w' := by
  obtain ⟨W', st, rv, bb, _⟩ := row_new rtM w #[.int .u8 0, .int .u8 0, .int .u8 0, .int .u8 0, .int .u8 0, .int .u8 0] (stA n).cs rfl rfl (Ad.one _)
  change (stS 38 (.pointer (some ⟨w.heap.size, 0, none⟩)) (.agg #[.int .u8 2, .int .u8 0, .int .u8 0, .int .u8 0, .int .u8 0, .int .u8 n])).run Try.prog _ = _ at st
  have hn : IntKind.u8.wrap n = n := IntWalk.u8_in _ h
  have hq : n.tdiv 256 = 0 := Int.tdiv_eq_zero_of_lt h.1 (by omega)
  have hq2 : IntKind.u8.wrap (n.tdiv 256) = 0 := by rw [hq]; rfl
  have H : Hid (RvAt W' w.heap.size 38 (stA n).cs ∧ Below w.heap.size w W') := ⟨rv, bb⟩
  clear rv bb
  go_enter Try.func14, Try.ntmps14
  go_wp2
  refine bodyPost_ret (results_row rtM Try.results14 _ _ _ _ rfl H.out.1 rfl) rfl ?_
  exact ⟨rfl, H.out.2⟩
end Go.Proofs.Ytoelpbajaadfeaa
