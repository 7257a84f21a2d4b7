/-
  A message is received: the walk, for every port.
-/
import Derived.Test.YtlneoegmlcbidaaPimB
namespace Go.Proofs.Ytlneoegmlcbidaa
set_option linter.unusedVariables false
set_option maxRecDepth 4000
set_option linter.unusedSimpArgs false
open Go.RowKit

theorem infoE : (Try.prog.info? 75).map (·.size) = some 2 := by kernel_rfl
theorem rtE : RowTy 75 2 := ⟨infoE, _, Try.underlying75, rfl⟩
theorem ldE (x : Value) : Instr.loadAt 75 x = ldS 75 x := rfl
theorem stE (x y : Value) : Instr.storeAt 75 x y = stS 75 x y := rfl
/-- An effect. -/
def eC (s k : Nat) : Array Value := #[.int .i64 (ofK k), .slice (some ⟨s + k, 0, none⟩) (dsL k).length (dsL k).length]
theorem EffAt.ld {W : World} {e s k : Nat} (h : EffAt W e s) (hk : k < 5) : (ldS 75 (.pointer (some ⟨e, k * 2, none⟩))).run Try.prog W = .ok (.agg (eC s k)) W := by
  refine run_loadAt_mid W e (k * 2) 75 (eC s k).toList _ (fun j v hv => h.row.cell _ _ ?_) Try.underlying75 rfl infoE
  match k, hk, j, hv with
  | 0, _, 0, hv => exact hv
  | 0, _, 1, hv => exact hv
  | 1, _, 0, hv => exact hv
  | 1, _, 1, hv => exact hv
  | 2, _, 0, hv => exact hv
  | 2, _, 1, hv => exact hv
  | 3, _, 0, hv => exact hv
  | 3, _, 1, hv => exact hv
  | 4, _, 0, hv => exact hv
  | 4, _, 1, hv => exact hv
  | 0, _, j + 2, hv => simp [eC] at hv
  | 1, _, j + 2, hv => simp [eC] at hv
  | 2, _, j + 2, hv => simp [eC] at hv
  | 3, _, j + 2, hv => simp [eC] at hv
  | 4, _, j + 2, hv => simp [eC] at hv
theorem eC_one (s k : Nat) : ∀ v ∈ (eC s k).toList, v.oneCell' = true := by
  intro v hv
  simp only [eC, List.mem_cons, List.not_mem_nil, or_false] at hv
  rcases hv with rfl | rfl <;> rfl
attribute [local go_sem ↓] ldP stP stB stU stI stW ldE stE
attribute [local go_sem ↓] alP alM
attribute [local go_sem] alP_run alM_run
set_option maxHeartbeats 4000000 in
theorem rec_any (p : Pt) (w : World) :
    Calls Try.prog 43 #[.agg p.cs] w fun r w' => r = .returned (.agg (recP p).cs) ∧ Below w.heap.size w w' := by
  obtain ⟨W0, hW, S0⟩ := PS.start w p
  have l0 := S0.ld
  have S : Hid (PS w W0 w.heap.size (w.heap.size + 1) p) := S0
  clear S0
  go_enter Try.func43, Try.ntmps43
  go_wp2_with fail
  go_step3
  go_wp2_with fail
  refine (inf_any p W0).mono ?_
  rintro _ W1 ⟨rfl, b1⟩
  have S1 : Hid (PS w W1 w.heap.size (w.heap.size + 1) p) := S.out.below b1
  clear b1 l0 S hW
  obtain ⟨N, hN⟩ : ∃ N, infP p = N := ⟨_, rfl⟩
  rw [hN]
  have IN : Hid (N = 0 ∨ N = 1 ∨ N = 2 ∨ N = 3 ∨ N = 4) := by rw [← hN]; exact infP_in p
  have DN : Hid (doneK (posI N) p = recQ p) := by rw [← hN]; exact done_rec p
  clear hN
  go_wp2_with fail
  go_step3
  go_wp2_with fail
  refine (eff_any W1).mono ?_
  rintro _ W2 ⟨rfl, E2, b2⟩
  obtain ⟨z, hz⟩ : ∃ z, W1.heap.size = z := ⟨_, rfl⟩
  rw [hz] at E2 ⊢
  have G : Hid (PS w W2 w.heap.size (w.heap.size + 1) p ∧ EffAt W2 (z + 5) z) := ⟨S1.out.below b2, E2⟩
  clear S1 E2 b2 hz
  go_wp2_with fail
  go_loopw [12] (fun v12 wr => ∃ k : Nat, k ≤ posI N ∧ v12 = .int .i64 k ∧ PS w wr w.heap.size (w.heap.size + 1) p ∧ EffAt wr (z + 5) z) (fun v12 _ => 5 - (intOf v12).toNat)
  case atStart => exact ⟨0, by omega, rfl, G.out.1, G.out.2⟩
  case round =>
    obtain ⟨k, hk, rfl, hS, hE⟩ := hrel
    have hk4 := posI_le N
    have hk5 : k < 5 := by omega
    have hin0 : (0 : Int) ≤ (k : Int) := by omega
    have hin1 : (k : Int) < 5 := by omega
    have le := hE.ld hk5
    obtain ⟨V, sV, rV, bV, zV⟩ := row_new rtE wr #[.int .i64 0, .slice none 0 0] (eC z k) rfl rfl (eC_one z k)
    have c0 := rV.cell 0 (.int .i64 (ofK k)) rfl
    have c1 := rV.cell 1 (.slice (some ⟨z + k, 0, none⟩) (dsL k).length (dsL k).length) rfl
    have J : Hid (PS w V w.heap.size (w.heap.size + 1) p ∧ EffAt V (z + 5) z ∧ RvAt V wr.heap.size 75 (eC z k)) := ⟨hS.below bV, hE.below bV, rV⟩
    clear hS hE rV bV zV
    by_cases hkp : k < posI N
    · have hne : ¬ ofK k = N := posI_ne IN.out hkp
      go_wp2
      go_roundw
      case rel => exact ⟨k + 1, by omega, by go_num, J.out.1, J.out.2.1⟩
      case measure => simp [intOf]; omega
    · have hkN : k = posI N := by omega
      have hof : ofK k = N := by rw [hkN]; exact posI_of IN.out
      have D2 : Hid (runTo (dsL k) p (dsL k).length = recQ p) := by have := DN.out; rw [← hkN] at this; exact this
      have R2 : Hid (RvAt V (z + k) 60 (dsC k)) := J.out.2.1.ds k hk5
      have Q2 : Hid (∀ d ∈ dsL k, Deed d.1 d.2) := deeds k
      rw [hof] at c0
      obtain ⟨ds, hds⟩ : ∃ ds, dsL k = ds := ⟨_, rfl⟩
      have hdsc : dsC k = (ds.map fun d => fv d.1).toArray := by rw [← hds]; rfl
      rw [hdsc] at R2
      rw [hds] at c1 D2 Q2
      obtain ⟨n, hn⟩ : ∃ n, ds.length = n := ⟨_, rfl⟩
      rw [hn] at c1 D2
      have HN : Hid (ds.length = n) := hn
      have hn10 : n ≤ 10 := by
        rw [← hn, ← hds]
        match k, hk5 with
        | 0, _ => decide
        | 1, _ => decide
        | 2, _ => decide
        | 3, _ => decide
        | 4, _ => decide
      clear hof hdsc hds hn hkN hkp
      obtain ⟨wo, rfl⟩ : ∃ wo : World, wo = wr := ⟨_, rfl⟩
      go_wp2_with fail
      go_loopw [23] (fun v23 wr => ∃ i : Nat, i ≤ n ∧ v23 = .int .i64 i ∧ PS w wr w.heap.size (w.heap.size + 1) (runTo ds p i) ∧ RvAt wr (z + k) 60 (ds.map fun d => fv d.1).toArray) (fun v23 _ => n - (intOf v23).toNat)
      case atStart => exact ⟨0, by omega, rfl, J.out.1, R2.out⟩
      case round =>
        obtain ⟨i, hi, rfl, hS, hR⟩ := hrel
        have hi0 : (0 : Int) ≤ (i : Int) := by omega
        by_cases hit : i < n
        · have hi1 : (i : Int) < (n : Int) := by omega
          have hid : i < ds.length := by rw [HN.out]; exact hit
          have cf := hR.cell i (fv (ds[i]).1) (by simp [List.getElem?_eq_getElem hid])
          have dd := Q2.out (ds[i]) (List.getElem_mem _)
          have hnx : runTo ds p (i + 1) = (ds[i]).2 (runTo ds p i) := runTo_next hid
          obtain ⟨F, hF⟩ : ∃ F, (ds[i]).1 = F := ⟨_, rfl⟩
          obtain ⟨f, hf⟩ : ∃ f, (ds[i]).2 = f := ⟨_, rfl⟩
          rw [hF] at cf dd
          rw [hf] at dd hnx
          obtain ⟨q, hq⟩ : ∃ q, runTo ds p i = q := ⟨_, rfl⟩
          rw [hq] at hS hnx
          have lq := hS.ld
          have en := dd.enter
          have DO : Hid (∀ (p : Pt) (w : World), _) := dd.does
          have M : Hid (PS w wr w.heap.size (w.heap.size + 1) q ∧ RvAt wr (z + k) 60 (ds.map fun d => fv d.1).toArray ∧ runTo ds p (i + 1) = f q) := ⟨hS, hR, hnx⟩
          unfold fv at cf
          clear hS hR hnx hq hf hF dd hid c0 c1 le sV
          go_wp2_with fail
          refine (DO.out q _).mono ?_
          rintro _ X ⟨rfl, bX⟩
          obtain ⟨Y, sY, hY, gY⟩ := (M.out.1.below bX).var.pst (q := f q)
          have SY := (M.out.1.below bX).go hY gY
          have T : Hid (PS w Y w.heap.size (w.heap.size + 1) (runTo ds p (i + 1)) ∧ RvAt Y (z + k) 60 (ds.map fun d => fv d.1).toArray) := by
            refine ⟨by rw [M.out.2.2]; exact SY, (M.out.2.1.below bX).keptBut gY ?_⟩
            have := (M.out.1.below bX).var.apart (M.out.2.1.below bX) (by decide)
            simpa using this.symm
          clear SY bX lq cf hY gY
          go_wp2
          go_roundw
          case rel => exact ⟨i + 1, by omega, by go_num, T.out.1, T.out.2⟩
          case measure => simp [intOf]; omega
        · have hin : i = n := by omega
          subst hin
          have hi1 : ¬ (i : Int) < (i : Int) := by omega
          rw [D2.out] at hS
          obtain ⟨Y, sY, SY⟩ := hS.setB kb14 false
          have lY := SY.ld
          obtain ⟨U, sU, G0⟩ := SY.tell (recP p)
          have GG : Hid (RvAt U (w.heap.size + 1) 47 (recP p).cs ∧ Below w.heap.size w U) := G0
          change (ldS 47 (.pointer (some ⟨w.heap.size, 0, none⟩))).run Try.prog Y = .ok (.agg (recP p).cs) Y at lY
          clear hS hR SY G0 c0 c1 le sV
          go_wp2_with (with_reducible exact ret_port Try.results43 (by with_unfolding_all rfl) (by with_unfolding_all rfl) GG.out.1 ⟨rfl, GG.out.2⟩)
end Go.Proofs.Ytlneoegmlcbidaa
