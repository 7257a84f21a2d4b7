/-
  The example's settings and the tree as it begins.
-/
import Derived.Test.YtllmadgonobdnaaNew
import Derived.Test.YtllmadgonobdnaaSame
namespace Go.Proofs.Ytllmadgonobdnaa
set_option linter.unusedVariables false
set_option maxRecDepth 4000
set_option linter.unusedSimpArgs false
open Go.RowKit

/-- The example's settings. -/
def cX : Cf := ⟨[.int .u64 9223372036854775813, .int .u8 0, .int .u8 20, .int .u8 2, .int .u8 15, .int .u8 6], by
  refine ⟨rfl, fun j k v hk hv => ?_⟩
  match j, hk, hv with
  | 0, hk, hv => cases hk; cases hv; exact ⟨_, rfl, by decide⟩
  | 1, hk, hv => cases hk; cases hv; exact ⟨_, rfl, by decide⟩
  | 2, hk, hv => cases hk; cases hv; exact ⟨_, rfl, by decide⟩
  | 3, hk, hv => cases hk; cases hv; exact ⟨_, rfl, by decide⟩
  | 4, hk, hv => cases hk; cases hv; exact ⟨_, rfl, by decide⟩
  | 5, hk, hv => cases hk; cases hv; exact ⟨_, rfl, by decide⟩
  | j + 6, hk, hv => simp at hv⟩
attribute [local go_sem ↓] ldP stP ldT stT apE st32 st4 st5 st49 ldC stC ldTm
theorem costs_new (W : World) : CsAt (W.alloc (.cells #[.int .u32 20000, .int .u32 20000] 26)) (some ⟨W.heap.size, 0, none⟩) 2 2 [20000, 20000] := by
  refine ⟨rfl, Nat.le_refl _, by unfold maxLen; omega, fun _ => ⟨_, _, rfl⟩, fun x hx => ?_, fun b o e j v hv => ?_⟩
  · simp only [List.mem_cons, List.not_mem_nil, or_false, or_self] at hx
    subst hx
    decide
  · cases e
    have h : RvAt (W.alloc (.cells #[.int .u32 20000, .int .u32 20000] 26)) W.heap.size 26 #[.int .u32 20000, .int .u32 20000] := RvAt.new W _ _
    rw [Nat.zero_add]
    refine h.cell j _ ?_
    match j, hv with
    | 0, hv => cases hv; rfl
    | 1, hv => cases hv; rfl
    | j + 2, hv => simp at hv
set_option maxHeartbeats 4000000 in
theorem conf_any (w : World) : Calls Try.prog 34 #[] w fun r w' => ∃ a k, r = .returned (.agg (cfc cX (.slice a 2 k))) ∧ CsAt w' a 2 k [20000, 20000] ∧ Below w.heap.size w w' := by
  obtain ⟨A, hA⟩ : ∃ A, w.alloc (.cells #[.int .u64 0, .int .u8 0, .int .u8 0, .int .u8 0, .int .u8 0, .int .u8 0, .slice none 0 0] 70) = A := ⟨_, rfl⟩
  have bA : Below w.heap.size w A := by rw [← hA]; exact (Below.refl _ _).alloc (Nat.le_refl _) _
  have rA : RvAt A w.heap.size 70 #[.int .u64 0, .int .u8 0, .int .u8 0, .int .u8 0, .int .u8 0, .int .u8 0, .slice none 0 0] := by rw [← hA]; exact RvAt.new w _ _
  have zA : A.heap.size = w.heap.size + 1 := by rw [← hA]; simp
  obtain ⟨C, hC⟩ : ∃ C, A.alloc (.cells #[.int .u32 20000, .int .u32 20000] 26) = C := ⟨_, rfl⟩
  have bC : Below A.heap.size A C := by rw [← hC]; exact (Below.refl _ _).alloc (Nat.le_refl _) _
  have sC : CsAt C (some ⟨w.heap.size + 1, 0, none⟩) 2 2 [20000, 20000] := by rw [← hC, ← zA]; exact costs_new A
  have rC := rA.below bC
  have ss := rC.st rtC rfl (cfc_size cX (.slice (some ⟨w.heap.size + 1, 0, none⟩) 2 2)) (cfc_one rfl)
  have rD := rC.set (ds := cfc cX (.slice (some ⟨w.heap.size + 1, 0, none⟩) 2 2))
  obtain ⟨D, hD⟩ : ∃ D, C.setRow w.heap.size (cfc cX (.slice (some ⟨w.heap.size + 1, 0, none⟩) 2 2)) = D := ⟨_, rfl⟩
  have gD : C.grownBy D (some w.heap.size) := by rw [← hD]; exact ⟨rfl, rfl, rfl, by simp, fun i hi hne => setRow_other C _ i _ (fun e => hne (by rw [e]))⟩
  rw [hD] at ss rD
  have sD : CsAt D (some ⟨w.heap.size + 1, 0, none⟩) 2 2 [20000, 20000] := ⟨sC.len, sC.cap, sC.max, sC.some', sC.bnd, fun b o e j v hv => by
    refine gD.cell (sC.cells b o e j v hv) ?_
    cases e
    simp⟩
  have F : Hid (RvAt D w.heap.size 70 (cfc cX (.slice (some ⟨w.heap.size + 1, 0, none⟩) 2 2)) ∧ CsAt D (some ⟨w.heap.size + 1, 0, none⟩) 2 2 [20000, 20000] ∧ Below w.heap.size w D) := ⟨rD, sD, gro (below_over bA bC) gD (Nat.le_refl _) (below_over bA bC).size⟩
  change (stS 70 (.pointer (some ⟨w.heap.size, 0, none⟩)) (.agg #[.int .u64 9223372036854775813, .int .u8 0, .int .u8 20, .int .u8 2, .int .u8 15, .int .u8 6, .slice (some ⟨w.heap.size + 1, 0, none⟩) 2 2])).run Try.prog C = _ at ss
  clear bA rA bC sC rC rD hD gD sD
  go_enter Try.func34, Try.ntmps34
  go_wp2
  refine bodyPost_ret (results_row rtC Try.results34 _ _ _ _ rfl F.out.1 (cfc_size _ _)) rfl ?_
  exact ⟨_, _, rfl, F.out.2.1, F.out.2.2⟩
/-! ### the example's ports -/
def aX : Pt := newP 32769 20000
def bX : Pt := newP 32770 20000
theorem x0 : okC cX [20000, 20000] = true := by kernel_rfl
theorem x1 : newPs [20000, 20000] = [aX, bX] := rfl
theorem x2 : bX.nm 0 = 32770 := by kernel_rfl
theorem fd7c (c0 c1 c2 c3 c4 c5 c6 c7 c8 c9 c10 c11 c12 c13 c14 c15 v : Value) (w : World) : (Instr.field 31 (.agg #[c0, c1, c2, c3, c4, c5, c6, c7, c8, c9, c10, c11, c12, c13, c14, c15, v]) 7).run Try.prog w = .ok v w := by kernel_rfl
theorem fd7 (h : Hd) (v : Value) (w : World) : (Instr.field 31 (.agg (trc h v)) 7).run Try.prog w = .ok v w := by
  have hl := h.len
  rw [lenH] at hl
  unfold trc
  match h.cl, hl with
  | [c0, c1, c2, c3, c4, c5, c6, c7, c8, c9, c10, c11, c12, c13, c14, c15], _ => exact fd7c c0 c1 c2 c3 c4 c5 c6 c7 c8 c9 c10 c11 c12 c13 c14 c15 v w
/-- Sealed: a field of a tree's value. -/
def fdS (x : Value) (k : Nat) : Sem Value := Instr.field 31 x k
theorem fd34 (x : Value) (k : Nat) : Instr.field 31 x k = fdS x k := rfl
theorem fdS_is (h : Hd) (v : Value) (w : World) : (fdS (.agg (trc h v)) 7).run Try.prog w = .ok v w := fd7 h v w
theorem new_tv (W : World) (h : Hd) (v : Value) (hv : v.oneCell' = true) : ∃ W', (stS 31 (.pointer (some ⟨W.heap.size, 0, none⟩)) (.agg (trc h v))).run Try.prog (W.alloc (.cells #[.int .u64 0, .int .u8 0, .int .u8 0, .int .u8 0, .int .u8 0, .int .u8 0, .bool false, .int .u16 0, .int .u64 0, .int .u32 0, .int .u64 0, .int .u16 0, .int .u8 0, .int .u8 0, .int .u8 0, .int .u8 0, .slice none 0 0] 31)) = .ok () W' ∧ RvAt W' W.heap.size 31 (trc h v) ∧ Below W.heap.size W W' ∧ W'.heap.size = W.heap.size + 1 :=
  row_new rtT W zeroT _ rfl (trc_size _ _) (trc_one hv)
theorem own_two {W : World} {B : Nat} {v : Value} {l : List Pt} (o : Own W B v l) (hl : l.length = 2) : ∃ g c, v = .slice (some ⟨g, 0, none⟩) 2 c ∧ B ≤ g ∧ PAt W g c l := by
  rcases o.pat with ⟨_, rfl⟩ | ⟨g, c, hv, hg, hp⟩
  · cases hl
  · rw [hl] at hv
    exact ⟨g, c, hv, hg, hp⟩
attribute [local go_sem ↓] fd34
end Go.Proofs.Ytllmadgonobdnaa
