/-
  The best of any vectors: the walk, for every input.
-/
import Derived.Test.YtdpaclfnjiegbaaVec
namespace Go.Proofs.Ytdpaclfnjiegbaa
set_option linter.unusedVariables false
set_option maxRecDepth 4000
set_option linter.unusedSimpArgs false
open Go.RowKit

def zeroV : Vc := ⟨0, 0, 0, 0⟩
theorem zeroV_wf : zeroV.wf := ⟨by simp [zeroV], by simp [zeroV], by simp [zeroV], by simp [zeroV]⟩
/-- Vector i. -/
def gtV (l : List Vc) (i : Nat) : Vc := l.getD i zeroV
theorem gtV_wf {l : List Vc} (h : ∀ v ∈ l, v.wf) (i : Nat) : (gtV l i).wf := by
  unfold gtV
  by_cases hi : i < l.length
  · rw [List.getD_eq_getElem?_getD, List.getElem?_eq_getElem hi]
    exact h _ (List.getElem_mem hi)
  · rw [List.getD_eq_getElem?_getD, List.getElem?_eq_none (by omega)]
    exact zeroV_wf
/-- The slice leads to the vectors l. -/
def VsAt (W : World) (a : Option Addr) (n c : Nat) (l : List Vc) : Prop :=
  l.length = n ∧ n ≤ c ∧ c ≤ maxLen ∧ (0 < n → ∃ b o, a = some ⟨b, o, none⟩) ∧ ∀ b o, a = some ⟨b, o, none⟩ → ∀ j, j < n → W.rangeAt b (o + j * 4) (gtV l j).cs.toList
theorem VsAt.below {W W' : World} {a : Option Addr} {n c : Nat} {l : List Vc} (h : VsAt W a n c l) (hb : Below W.heap.size W W') : VsAt W' a n c l := by
  obtain ⟨h1, h2, h3, h4, h5⟩ := h
  refine ⟨h1, h2, h3, h4, fun b o e j hj k v hv => ?_⟩
  have := h5 b o e j hj k v hv
  exact (hb.cell (World.block_lt_of_cell? W _ this)).trans this
theorem VsAt.ld {W : World} {b o n c : Nat} {l : List Vc} (h : VsAt W (some ⟨b, o, none⟩) n c l) (j : Nat) (hj : j < n) : (ldS 26 (.pointer (some ⟨b, o + j * 4, none⟩))).run Try.prog W = .ok (.agg (gtV l j).cs) W :=
  run_loadAt_mid W b (o + j * 4) 26 (gtV l j).cs.toList _ (h.2.2.2.2 b o rfl j hj) Try.underlying26 rfl infoV
/-- The place of the best one of the first i. -/
def bestAt (l : List Vc) : Nat → Int
  | 0 => -1
  | i + 1 => if bestAt l i < 0 ∨ betV (gtV l i) (gtV l (bestAt l i).toNat) = true then i else bestAt l i
theorem bestAt_in (l : List Vc) (i : Nat) : -1 ≤ bestAt l i ∧ bestAt l i < i ∧ (0 < i → 0 ≤ bestAt l i) := by
  induction i with
  | zero => simp [bestAt]
  | succ i ih =>
    unfold bestAt
    split
    · omega
    · next h => simp at h; omega
attribute [local go_sem ↓] ldV stV
set_option maxHeartbeats 2000000 in
theorem best_any (a : Option Addr) (n c : Nat) (l : List Vc) (w : World) (h : VsAt w a n c l) (hw : ∀ v ∈ l, v.wf) :
    Calls Try.prog 20 #[.slice a n c] w fun e w' => e = .returned (.int .i64 (bestAt l n)) ∧ Below w.heap.size w w' := by
  have hn : (n : Int) ≤ 9223372036854775807 := by have := h.2.1; have := h.2.2.1; unfold maxLen at this; omega
  have H : Hid (VsAt w a n c l ∧ ∀ v ∈ l, v.wf) := ⟨h, hw⟩
  clear h hw
  go_enter Try.func20, Try.ntmps20
  go_wp2_with fail
  go_loopw [3, 8] (fun v3 v8 wr => ∃ i : Nat, i ≤ n ∧ v8 = .int .i64 i ∧ v3 = .int .i64 (bestAt l i) ∧ Below w.heap.size w wr) (fun v3 v8 _ => n - (intOf v8).toNat)
  case atStart => exact ⟨0, by omega, rfl, rfl, by go_grown⟩
  case round =>
    obtain ⟨i, hi, rfl, rfl, hB⟩ := hrel
    by_cases hlt : i < n
    · obtain ⟨b, o, rfl⟩ := H.out.1.2.2.2.1 (by omega)
      have ld1 := (H.out.1.below hB).ld i hlt
      obtain ⟨W2, st2, r2, b2, z2⟩ := row_new rtV wr #[.int .u64 0, .int .u32 0, .int .u64 0, .int .u16 0] (gtV l i).cs rfl rfl (Vc.one _)
      have hi1 : (i : Int) < (n : Int) := by omega
      have hi0 : (0 : Int) ≤ (i : Int) := by omega
      have H2 : Hid (VvAt W2 wr.heap.size (gtV l i) ∧ Below w.heap.size w W2) := ⟨r2, below_over hB b2⟩
      clear r2 b2 z2 hB
      go_wp2_with fail
      clear ld1 st2
      obtain ⟨k0, kn, kp⟩ := bestAt_in l i
      have hstep : Hid (bestAt l (i + 1) = if bestAt l i < 0 ∨ betV (gtV l i) (gtV l (bestAt l i).toNat) = true then (i : Int) else bestAt l i) := show bestAt l (i + 1) = _ from by rw [bestAt]
      by_cases hneg : bestAt l i < 0
      · refine wp_region_later (by kernel_rfl) (by kernel_rfl) ?_
        repeat (go_big_quiet_step (first | exact rfl))
        refine wpQuiet_nil ?_
        intro _ hw'
        obtain ⟨x, rfl⟩ := hw'
        go_wp2
        go_roundw
        case rel => exact ⟨i + 1, by omega, by go_num, by rw [hstep.out, if_pos (.inl hneg)], below_later H2.out.2 x⟩
        case measure => simp [intOf]; omega
      · obtain ⟨k, hk⟩ := Int.eq_ofNat_of_zero_le (show 0 ≤ bestAt l i by omega)
        rw [hk] at hstep kn ⊢
        have hk0 : (0 : Int) ≤ (k : Int) := by omega
        have hk1 : (k : Int) < (n : Int) := by omega
        have hk2 : ¬ (k : Int) < 0 := by omega
        have P1 : Hid (∀ q : Later W2, _) := fun q : Later W2 => better_any (gtV l i) (gtV l k) q.val (gtV_wf H.out.2 _) (gtV_wf H.out.2 _)
        have l1 := fun q : Later W2 => (H2.out.1.below q.below).ld
        have l2 := fun q : Later W2 => ((H.out.1.below H2.out.2).below q.below).ld k (by omega)
        have hs2 : Hid (bestAt l (i + 1) = if betV (gtV l i) (gtV l k) = true then (i : Int) else (k : Int)) := by
          have := hstep.out
          show _ = _
          simpa [hk2] using this
        clear hstep k0 kn kp hneg hk
        cases hbt : betV (gtV l i) (gtV l k)
        all_goals
          rw [hbt] at P1 hs2
          refine wp_region_later (by kernel_rfl) (by kernel_rfl) ?_
          repeat (go_big_quiet_step (first | exact rfl | (go_at_call 11; with_reducible exact Calls.later_of (P1.out _))))
          refine wpQuiet_nil ?_
          intro _ hw'
          obtain ⟨x, rfl⟩ := hw'
          go_wp2
          go_roundw
          case rel => exact ⟨i + 1, by omega, by go_num, by rw [hs2.out]; rfl, below_later H2.out.2 x⟩
          case measure => simp [intOf]; omega
    · have hin : i = n := by omega
      subst hin
      have hnn : ¬ (i : Int) < (i : Int) := by omega
      go_wp2
      go_ret
      exact ⟨rfl, hB⟩
end Go.Proofs.Ytdpaclfnjiegbaa
