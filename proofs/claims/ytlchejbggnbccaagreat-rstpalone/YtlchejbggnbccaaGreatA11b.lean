/-
  What a message does, told as closures: the walks of superior and effects. And what follows from it here.
-/
import Derived.Test.YtlchejbggnbccaaGreatAbb
import Derived.Test.YtlchejbggnbccaaGreatA11a
import Derived.Test.YtlchejbggnbccaaGreatAba
import Derived.Deep.RegionHeld3
namespace Go.Proofs.YtlchejbggnbccaaGreat
set_option linter.unusedVariables false
set_option linter.unusedSimpArgs false
set_option maxRecDepth 4000
section
namespace S11
open Go.RowKit

def fv (F : Nat) : Value := .func (.func F) #[] #[]
def dsL : Nat → List (Nat × (Pt → Pt))
  | 0 => [(297, d1P), (285, propP), (286, flagP), (298, d2P), (287, agrP), (299, synP), (300, prioP), (301, timP), (288, whiP), (302, d4P)]
  | 1 => [(285, propP), (286, flagP), (287, agrP), (288, whiP)]
  | 2 => [(289, dispP)]
  | 3 => [(287, agrP), (286, flagP)]
  | _ => [(290, othP)]
def ofK : Nat → Int
  | 0 => 1
  | 1 => 2
  | 2 => 3
  | 3 => 4
  | _ => 0
def dsC (k : Nat) : Array Value := ((dsL k).map fun d => fv d.1).toArray
def effC (s : Nat) : Array Value := #[.int .i64 1, .slice (some ⟨s, 0, none⟩) 10 10, .int .i64 2, .slice (some ⟨s + 1, 0, none⟩) 4 4, .int .i64 3, .slice (some ⟨s + 2, 0, none⟩) 1 1, .int .i64 4, .slice (some ⟨s + 3, 0, none⟩) 2 2, .int .i64 0, .slice (some ⟨s + 4, 0, none⟩) 1 1]
structure Deed (F : Nat) (f : Pt → Pt) : Prop where
  does : ∀ (p : Pt) (w : World), Calls Tryz.prog F #[.agg p.cs] w fun r w' => r = .returned (.agg (f p).cs) ∧ Below w.heap.size w w'
  enter : ∀ (x : Value) (V : World), (callFunc F #[x]).run Tryz.prog V = .ok (.enter F #[x]) V
theorem deed_d1 : Deed 297 d1P := ⟨d1_any, fun x V => by go_simp⟩
theorem deed_d2 : Deed 298 d2P := ⟨d2_any, fun x V => by go_simp⟩
theorem deed_syn : Deed 299 synP := ⟨syn_any, fun x V => by go_simp⟩
theorem deed_d4 : Deed 302 d4P := ⟨d4_any, fun x V => by go_simp⟩
theorem deed_oth : Deed 290 othP := ⟨oth_deed, fun x V => by go_simp⟩
theorem deed_prop : Deed 285 propP := ⟨prop_any, fun x V => by go_simp⟩
theorem deed_flag : Deed 286 flagP := ⟨flag_any, fun x V => by go_simp⟩
theorem deed_agr : Deed 287 agrP := ⟨agr_any, fun x V => by go_simp⟩
theorem deed_prio : Deed 300 prioP := ⟨prio_any, fun x V => by go_simp⟩
theorem deed_tim : Deed 301 timP := ⟨tim_any, fun x V => by go_simp⟩
theorem deed_whi : Deed 288 whiP := ⟨whi_any, fun x V => by go_simp⟩
theorem deed_disp : Deed 289 dispP := ⟨disp_any, fun x V => by go_simp⟩
theorem deeds (k : Nat) : ∀ d ∈ dsL k, Deed d.1 d.2 := by
  match k with
  | 0 =>
    intro d hd
    simp only [dsL, List.mem_cons, List.not_mem_nil, or_false] at hd
    rcases hd with rfl | rfl | rfl | rfl | rfl | rfl | rfl | rfl | rfl | rfl
    · exact deed_d1
    · exact deed_prop
    · exact deed_flag
    · exact deed_d2
    · exact deed_agr
    · exact deed_syn
    · exact deed_prio
    · exact deed_tim
    · exact deed_whi
    · exact deed_d4
  | 1 =>
    intro d hd
    simp only [dsL, List.mem_cons, List.not_mem_nil, or_false] at hd
    rcases hd with rfl | rfl | rfl | rfl
    · exact deed_prop
    · exact deed_flag
    · exact deed_agr
    · exact deed_whi
  | 2 =>
    intro d hd
    simp only [dsL, List.mem_cons, List.not_mem_nil, or_false] at hd
    subst hd
    exact deed_disp
  | 3 =>
    intro d hd
    simp only [dsL, List.mem_cons, List.not_mem_nil, or_false] at hd
    rcases hd with rfl | rfl
    · exact deed_agr
    · exact deed_flag
  | n + 4 =>
    intro d hd
    simp only [dsL, List.mem_cons, List.not_mem_nil, or_false] at hd
    subst hd
    exact deed_oth
def runTo (ds : List (Nat × (Pt → Pt))) (p : Pt) (i : Nat) : Pt := (ds.take i).foldl (fun q d => d.2 q) p
theorem runTo_next {ds : List (Nat × (Pt → Pt))} {p : Pt} {i : Nat} (h : i < ds.length) : runTo ds p (i + 1) = (ds[i]).2 (runTo ds p i) := by
  unfold runTo
  rw [List.take_add_one, List.getElem?_eq_getElem h, List.foldl_append]
  rfl
def doneK (k : Nat) (p : Pt) : Pt := runTo (dsL k) p (dsL k).length
def posI (n : Int) : Nat := if n = 1 then 0 else if n = 2 then 1 else if n = 3 then 2 else if n = 4 then 3 else 4
theorem posI_le (n : Int) : posI n ≤ 4 := by
  unfold posI
  (repeat' split) <;> omega
theorem posI_of {n : Int} (h : n = 0 ∨ n = 1 ∨ n = 2 ∨ n = 3 ∨ n = 4) : ofK (posI n) = n := by
  rcases h with rfl | rfl | rfl | rfl | rfl <;> rfl
theorem posI_ne {n : Int} {k : Nat} (h : n = 0 ∨ n = 1 ∨ n = 2 ∨ n = 3 ∨ n = 4) (hk : k < posI n) : ofK k ≠ n := by
  have := posI_le n
  rcases h with rfl | rfl | rfl | rfl | rfl
  · have : k < 4 := hk
    match k, this with
    | 0, _ => decide
    | 1, _ => decide
    | 2, _ => decide
    | 3, _ => decide
  · exact absurd hk (by decide +revert)
  · have : k < 1 := hk
    match k, this with
    | 0, _ => decide
  · have : k < 2 := hk
    match k, this with
    | 0, _ => decide
    | 1, _ => decide
  · have : k < 3 := hk
    match k, this with
    | 0, _ => decide
    | 1, _ => decide
    | 2, _ => decide
theorem infP_in (p : Pt) : infP p = 0 ∨ infP p = 1 ∨ infP p = 2 ∨ infP p = 3 ∨ infP p = 4 := by
  unfold infP ofDes
  (repeat' split) <;> omega
theorem done_rec (p : Pt) : doneK (posI (infP p)) p = recQ p := by
  have key : ∀ k, doneK k p = (dsL k).foldl (fun q d => d.2 q) p := fun k => by unfold doneK runTo; rw [List.take_length]
  rw [key]
  unfold recQ
  rcases infP_in p with h | h | h | h | h
  · rw [h, if_neg (by decide), if_neg (by decide), if_neg (by decide), if_neg (by decide)]
    simp only [show posI 0 = 4 from rfl, dsL, List.foldl_cons, List.foldl_nil]
  · rw [h, if_pos rfl]
    simp only [show posI 1 = 0 from rfl, dsL, List.foldl_cons, List.foldl_nil, supP]
  · rw [h, if_neg (by decide), if_pos rfl]
    simp only [show posI 2 = 1 from rfl, dsL, List.foldl_cons, List.foldl_nil]
  · rw [h, if_neg (by decide), if_neg (by decide), if_pos rfl]
    simp only [show posI 3 = 2 from rfl, dsL, List.foldl_cons, List.foldl_nil]
  · rw [h, if_neg (by decide), if_neg (by decide), if_neg (by decide), if_pos rfl]
    simp only [show posI 4 = 3 from rfl, dsL, List.foldl_cons, List.foldl_nil]
set_option maxHeartbeats 2000000 in
theorem supl_any (w : World) :
    Calls Tryz.prog 284 #[] w fun r w' => r = .returned (.slice (some ⟨w.heap.size, 0, none⟩) 10 10) ∧ w' = w.alloc (.cells (dsC 0) 158) := by
  go_enter Tryz.func284, Tryz.ntmps284
  go_wp2
  go_returns
  exact ⟨rfl, rfl⟩
structure EffAt (W : World) (e s : Nat) : Prop where
  row : RvAt W e 218 (effC s)
  ds : ∀ k, k < 5 → RvAt W (s + k) 158 (dsC k)
theorem EffAt.below {W V : World} {e s : Nat} (h : EffAt W e s) (k : Below W.heap.size W V) : EffAt V e s := ⟨h.row.below k, fun j hj => (h.ds j hj).below k⟩
theorem eff_laid (w : World) : ∃ W, ((((((w.alloc (.cells (dsC 0) 158)).alloc (.cells (dsC 1) 158)).alloc (.cells (dsC 2) 158)).alloc (.cells (dsC 3) 158)).alloc (.cells (dsC 4) 158)).alloc (.cells (effC w.heap.size) 218)) = W ∧ EffAt W (w.heap.size + 5) w.heap.size ∧ Below w.heap.size w W := by
  have new : ∀ (w : World) (cs : Array Value) (t : TypeId), ∃ W, w.alloc (.cells cs t) = W ∧ RvAt W w.heap.size t cs ∧ Below w.heap.size w W ∧ W.heap.size = w.heap.size + 1 := fun w cs t => ⟨_, rfl, RvAt.new w _ _, (Below.refl _ _).alloc (Nat.le_refl _) _, by simp⟩
  obtain ⟨A, hA, rA, bA, zA⟩ := new w (dsC 0) 158
  obtain ⟨B, hB, rB, bB, zB⟩ := new A (dsC 1) 158
  obtain ⟨C, hC, rC, bC, zC⟩ := new B (dsC 2) 158
  obtain ⟨D, hD, rD, bD, zD⟩ := new C (dsC 3) 158
  obtain ⟨E, hE, rE, bE, zE⟩ := new D (dsC 4) 158
  obtain ⟨F, hF, rF, bF, zF⟩ := new E (effC w.heap.size) 218
  rw [zA] at rB
  rw [zB, zA] at rC
  rw [zC, zB, zA] at rD
  rw [zD, zC, zB, zA] at rE
  rw [zE, zD, zC, zB, zA] at rF
  refine ⟨F, by rw [hA, hB, hC, hD, hE, hF], ⟨rF, fun k hk => ?_⟩, below_over (below_over (below_over (below_over (below_over bA bB) bC) bD) bE) bF⟩
  match k, hk with
  | 0, _ => exact ((((rA.below bB).below bC).below bD).below bE).below bF
  | 1, _ => exact (((rB.below bC).below bD).below bE).below bF
  | 2, _ => exact ((rC.below bD).below bE).below bF
  | 3, _ => exact (rD.below bE).below bF
  | 4, _ => exact rE.below bF
set_option maxHeartbeats 4000000 in
theorem eff_any (w : World) :
    Calls Tryz.prog 260 #[] w fun r w' => r = .returned (.slice (some ⟨w.heap.size + 5, 0, none⟩) 5 5) ∧ EffAt w' (w.heap.size + 5) w.heap.size ∧ Below w.heap.size w w' := by
  obtain ⟨W, hW, H0⟩ := eff_laid w
  have H : Hid (EffAt W (w.heap.size + 5) w.heap.size ∧ Below w.heap.size w W) := H0
  clear H0
  have HW : Hid (_ = W) := hW
  clear hW
  go_enter Tryz.func260, Tryz.ntmps260
  go_wp2_with fail
  refine (supl_any w).mono ?_
  rintro _ V ⟨rfl, hV⟩
  subst hV
  go_wp2
  go_returns
  refine ⟨rfl, ?_⟩
  have e := HW.out
  have h := H.out
  rw [← e] at h
  exact h
end S11
end
section
namespace S11
open Go.RowKit

theorem infoE : (Tryz.prog.info? 218).map (·.size) = some 2 := by kernel_rfl
theorem rtE : RowTy 218 2 := ⟨infoE, _, Tryz.underlying218, rfl⟩
theorem ldE (x : Value) : Instr.loadAt 218 x = ldS 218 x := rfl
theorem stE (x y : Value) : Instr.storeAt 218 x y = stS 218 x y := rfl
def eC (s k : Nat) : Array Value := #[.int .i64 (ofK k), .slice (some ⟨s + k, 0, none⟩) (dsL k).length (dsL k).length]
theorem EffAt.ld {W : World} {e s k : Nat} (h : EffAt W e s) (hk : k < 5) : (ldS 218 (.pointer (some ⟨e, k * 2, none⟩))).run Tryz.prog W = .ok (.agg (eC s k)) W := by
  refine run_loadAt_mid W e (k * 2) 218 (eC s k).toList _ (fun j v hv => h.row.cell _ _ ?_) Tryz.underlying218 rfl infoE
  match k, hk, j, hv with
  | 0, _, 0, hv => exact hv
  | 0, _, 1, hv => exact hv
  | 1, _, 0, hv => exact hv
  | 1, _, 1, hv => exact hv
  | 2, _, 0, hv => exact hv
  | 2, _, 1, hv => exact hv
  | 3, _, 0, hv => exact hv
  | 3, _, 1, hv => exact hv
  | 4, _, 0, hv => exact hv
  | 4, _, 1, hv => exact hv
  | 0, _, j + 2, hv => simp [eC] at hv
  | 1, _, j + 2, hv => simp [eC] at hv
  | 2, _, j + 2, hv => simp [eC] at hv
  | 3, _, j + 2, hv => simp [eC] at hv
  | 4, _, j + 2, hv => simp [eC] at hv
theorem eC_one (s k : Nat) : ∀ v ∈ (eC s k).toList, v.oneCell' = true := by
  intro v hv
  simp only [eC, List.mem_cons, List.not_mem_nil, or_false] at hv
  rcases hv with rfl | rfl <;> rfl
attribute [local go_sem ↓] ldP stP stB stU stI stW ldE stE
attribute [local go_sem ↓] alP alM
attribute [local go_sem] alP_run alM_run
set_option maxHeartbeats 4000000 in
theorem rec_any (p : Pt) (w : World) :
    Calls Tryz.prog 235 #[.agg p.cs] w fun r w' => r = .returned (.agg (recP p).cs) ∧ Below w.heap.size w w' := by
  obtain ⟨W0, hW, S0⟩ := PS.start w p
  have l0 := S0.ld
  have S : Hid (PS w W0 w.heap.size (w.heap.size + 1) p) := S0
  clear S0
  go_enter Tryz.func235, Tryz.ntmps235
  go_wp2_with fail
  go_step3
  go_wp2_with fail
  refine (inf_any p W0).mono ?_
  rintro _ W1 ⟨rfl, b1⟩
  have S1 : Hid (PS w W1 w.heap.size (w.heap.size + 1) p) := S.out.below b1
  clear b1 l0 S hW
  obtain ⟨N, hN⟩ : ∃ N, infP p = N := ⟨_, rfl⟩
  rw [hN]
  have IN : Hid (N = 0 ∨ N = 1 ∨ N = 2 ∨ N = 3 ∨ N = 4) := by rw [← hN]; exact infP_in p
  have DN : Hid (doneK (posI N) p = recQ p) := by rw [← hN]; exact done_rec p
  clear hN
  go_wp2_with fail
  go_step3
  go_wp2_with fail
  refine (eff_any W1).mono ?_
  rintro _ W2 ⟨rfl, E2, b2⟩
  obtain ⟨z, hz⟩ : ∃ z, W1.heap.size = z := ⟨_, rfl⟩
  rw [hz] at E2 ⊢
  have G : Hid (PS w W2 w.heap.size (w.heap.size + 1) p ∧ EffAt W2 (z + 5) z) := ⟨S1.out.below b2, E2⟩
  clear S1 E2 b2 hz
  go_wp2_with fail
  go_loopw [12] (fun v12 wr => ∃ k : Nat, k ≤ posI N ∧ v12 = .int .i64 k ∧ PS w wr w.heap.size (w.heap.size + 1) p ∧ EffAt wr (z + 5) z) (fun v12 _ => 5 - (intOf v12).toNat)
  case atStart => exact ⟨0, by omega, rfl, G.out.1, G.out.2⟩
  case round =>
    obtain ⟨k, hk, rfl, hS, hE⟩ := hrel
    have hk4 := posI_le N
    have hk5 : k < 5 := by omega
    have hin0 : (0 : Int) ≤ (k : Int) := by omega
    have hin1 : (k : Int) < 5 := by omega
    have le := hE.ld hk5
    obtain ⟨V, sV, rV, bV, zV⟩ := row_new rtE wr #[.int .i64 0, .slice none 0 0] (eC z k) rfl rfl (eC_one z k)
    have c0 := rV.cell 0 (.int .i64 (ofK k)) rfl
    have c1 := rV.cell 1 (.slice (some ⟨z + k, 0, none⟩) (dsL k).length (dsL k).length) rfl
    have J : Hid (PS w V w.heap.size (w.heap.size + 1) p ∧ EffAt V (z + 5) z ∧ RvAt V wr.heap.size 218 (eC z k)) := ⟨hS.below bV, hE.below bV, rV⟩
    clear hS hE rV bV zV
    by_cases hkp : k < posI N
    · have hne : ¬ ofK k = N := posI_ne IN.out hkp
      go_wp2
      go_roundw
      case rel => exact ⟨k + 1, by omega, by go_num, J.out.1, J.out.2.1⟩
      case measure => simp [intOf]; omega
    · have hkN : k = posI N := by omega
      have hof : ofK k = N := by rw [hkN]; exact posI_of IN.out
      have D2 : Hid (runTo (dsL k) p (dsL k).length = recQ p) := by have := DN.out; rw [← hkN] at this; exact this
      have R2 : Hid (RvAt V (z + k) 158 (dsC k)) := J.out.2.1.ds k hk5
      have Q2 : Hid (∀ d ∈ dsL k, Deed d.1 d.2) := deeds k
      rw [hof] at c0
      obtain ⟨ds, hds⟩ : ∃ ds, dsL k = ds := ⟨_, rfl⟩
      have hdsc : dsC k = (ds.map fun d => fv d.1).toArray := by rw [← hds]; rfl
      rw [hdsc] at R2
      rw [hds] at c1 D2 Q2
      obtain ⟨n, hn⟩ : ∃ n, ds.length = n := ⟨_, rfl⟩
      rw [hn] at c1 D2
      have HN : Hid (ds.length = n) := hn
      have hn10 : n ≤ 10 := by
        rw [← hn, ← hds]
        match k, hk5 with
        | 0, _ => decide
        | 1, _ => decide
        | 2, _ => decide
        | 3, _ => decide
        | 4, _ => decide
      clear hof hdsc hds hn hkN hkp
      obtain ⟨wo, rfl⟩ : ∃ wo : World, wo = wr := ⟨_, rfl⟩
      go_wp2_with fail
      go_loopw [23] (fun v23 wr => ∃ i : Nat, i ≤ n ∧ v23 = .int .i64 i ∧ PS w wr w.heap.size (w.heap.size + 1) (runTo ds p i) ∧ RvAt wr (z + k) 158 (ds.map fun d => fv d.1).toArray) (fun v23 _ => n - (intOf v23).toNat)
      case atStart => exact ⟨0, by omega, rfl, J.out.1, R2.out⟩
      case round =>
        obtain ⟨i, hi, rfl, hS, hR⟩ := hrel
        have hi0 : (0 : Int) ≤ (i : Int) := by omega
        by_cases hit : i < n
        · have hi1 : (i : Int) < (n : Int) := by omega
          have hid : i < ds.length := by rw [HN.out]; exact hit
          have cf := hR.cell i (fv (ds[i]).1) (by simp [List.getElem?_eq_getElem hid])
          have dd := Q2.out (ds[i]) (List.getElem_mem _)
          have hnx : runTo ds p (i + 1) = (ds[i]).2 (runTo ds p i) := runTo_next hid
          obtain ⟨F, hF⟩ : ∃ F, (ds[i]).1 = F := ⟨_, rfl⟩
          obtain ⟨f, hf⟩ : ∃ f, (ds[i]).2 = f := ⟨_, rfl⟩
          rw [hF] at cf dd
          rw [hf] at dd hnx
          obtain ⟨q, hq⟩ : ∃ q, runTo ds p i = q := ⟨_, rfl⟩
          rw [hq] at hS hnx
          have lq := hS.ld
          have en := dd.enter
          have DO : Hid (∀ (p : Pt) (w : World), _) := dd.does
          have M : Hid (PS w wr w.heap.size (w.heap.size + 1) q ∧ RvAt wr (z + k) 158 (ds.map fun d => fv d.1).toArray ∧ runTo ds p (i + 1) = f q) := ⟨hS, hR, hnx⟩
          unfold fv at cf
          clear hS hR hnx hq hf hF dd hid c0 c1 le sV
          go_wp2_with fail
          refine (DO.out q _).mono ?_
          rintro _ X ⟨rfl, bX⟩
          obtain ⟨Y, sY, hY, gY⟩ := (M.out.1.below bX).var.pst (q := f q)
          have SY := (M.out.1.below bX).go hY gY
          have T : Hid (PS w Y w.heap.size (w.heap.size + 1) (runTo ds p (i + 1)) ∧ RvAt Y (z + k) 158 (ds.map fun d => fv d.1).toArray) := by
            refine ⟨by rw [M.out.2.2]; exact SY, (M.out.2.1.below bX).keptBut gY ?_⟩
            have := (M.out.1.below bX).var.apart (M.out.2.1.below bX) (by decide)
            simpa using this.symm
          clear SY bX lq cf hY gY
          go_wp2
          go_roundw
          case rel => exact ⟨i + 1, by omega, by go_num, T.out.1, T.out.2⟩
          case measure => simp [intOf]; omega
        · have hin : i = n := by omega
          subst hin
          have hi1 : ¬ (i : Int) < (i : Int) := by omega
          rw [D2.out] at hS
          obtain ⟨Y, sY, SY⟩ := hS.setB kb14 false
          have lY := SY.ld
          obtain ⟨U, sU, G0⟩ := SY.tell (recP p)
          have GG : Hid (RvAt U (w.heap.size + 1) 74 (recP p).cs ∧ Below w.heap.size w U) := G0
          change (ldS 74 (.pointer (some ⟨w.heap.size, 0, none⟩))).run Tryz.prog Y = .ok (.agg (recP p).cs) Y at lY
          clear hS hR SY G0 c0 c1 le sV
          go_wp2_with (with_reducible exact ret_port Tryz.results235 (by with_unfolding_all rfl) (by with_unfolding_all rfl) GG.out.1 ⟨rfl, GG.out.2⟩)
end S11
end
section
namespace S11
open Go.RowKit

attribute [local go_sem ↓] ldP stP ldM stM ldTm stTm ldV stV stB stU stI stW
attribute [local go_sem ↓] alP alM
attribute [local go_sem] alP_run alM_run
set_option maxHeartbeats 4000000 in
theorem fds_any (p : Pt) (w : World) :
    Calls Tryz.prog 201 #[.agg p.cs] w fun r w' => r = .returned (.tuple #[.agg (tellO p (fdsO p)).cs, .bool (fdsO p).isSome]) ∧ Below w.heap.size w w' := by
  obtain ⟨W0, hW, S0⟩ := PS.start w p
  have l0 := S0.ld
  have c2 := S0.var.bit (j := 2) rfl
  have c14 := S0.var.bit (j := 14) rfl
  have H0 : Hid (PS w W0 w.heap.size (w.heap.size + 1) p) := S0
  clear S0
  cases h2 : p.bt 2
  · rw [h2] at c2
    cases h14 : p.bt 14
    · rw [h14] at c14
      have EQ : Hid (fdsO p = none) := show fdsO p = _ by simp [fdsO, h2, h14]
      have ER : Hid (Ending.returned (.tuple #[.agg (p).cs, .bool false]) = Ending.returned (.tuple #[.agg (tellO p (fdsO p)).cs, .bool (fdsO p).isSome])) := show Ending.returned _ = _ by rw [EQ.out]; rfl
      clear EQ
      clear h2 h14
      go_enter Tryz.func201, Tryz.ntmps201
      obtain ⟨U, sU, G0⟩ := H0.out.tell p
      have G : Hid (RvAt U (w.heap.size + 1) 74 p.cs ∧ Below w.heap.size w U) := G0
      clear G0 H0
      go_wp2_with (with_reducible exact ret_pb Tryz.results201 (by with_unfolding_all rfl) (by with_unfolding_all rfl) (by with_unfolding_all rfl) G.out.1 ⟨ER.out, G.out.2⟩)
    · rw [h14] at c14
      have EQ : Hid (fdsO p = some (disP p)) := show fdsO p = _ by simp [fdsO, h2, h14]
      have ER : Hid (Ending.returned (.tuple #[.agg (disP p).cs, .bool true]) = Ending.returned (.tuple #[.agg (tellO p (fdsO p)).cs, .bool (fdsO p).isSome])) := show Ending.returned _ = _ by rw [EQ.out]; rfl
      clear EQ
      clear h2 h14
      go_enter Tryz.func201, Tryz.ntmps201
      go_wp2_with fail
      refine (dis_any p W0).mono ?_
      rintro _ V ⟨rfl, bV⟩
      obtain ⟨U, sU, G0⟩ := (H0.out.below bV).tell (disP p)
      have G : Hid (RvAt U (w.heap.size + 1) 74 (disP p).cs ∧ Below w.heap.size w U) := G0
      clear G0 H0 bV hW l0 c2 c14
      go_wp2_with (with_reducible exact ret_pb Tryz.results201 (by with_unfolding_all rfl) (by with_unfolding_all rfl) (by with_unfolding_all rfl) G.out.1 ⟨ER.out, G.out.2⟩)
  · rw [h2] at c2
    have EQ : Hid (fdsO p = some (agdP p)) := show fdsO p = _ by simp [fdsO, h2]
    have ER : Hid (Ending.returned (.tuple #[.agg (agdP p).cs, .bool true]) = Ending.returned (.tuple #[.agg (tellO p (fdsO p)).cs, .bool (fdsO p).isSome])) := show Ending.returned _ = _ by rw [EQ.out]; rfl
    clear EQ
    clear h2
    go_enter Tryz.func201, Tryz.ntmps201
    go_wp2_with fail
    refine (agd_any p W0).mono ?_
    rintro _ V ⟨rfl, bV⟩
    obtain ⟨U, sU, G0⟩ := (H0.out.below bV).tell (agdP p)
    have G : Hid (RvAt U (w.heap.size + 1) 74 (agdP p).cs ∧ Below w.heap.size w U) := G0
    clear G0 H0 bV hW l0 c2 c14
    go_wp2_with (with_reducible exact ret_pb Tryz.results201 (by with_unfolding_all rfl) (by with_unfolding_all rfl) (by with_unfolding_all rfl) G.out.1 ⟨ER.out, G.out.2⟩)
set_option maxHeartbeats 4000000 in
theorem fag_any (p : Pt) (w : World) :
    Calls Tryz.prog 202 #[.agg p.cs] w fun r w' => r = .returned (.tuple #[.agg (tellO p (fagO p)).cs, .bool (fagO p).isSome]) ∧ Below w.heap.size w w' := by
  obtain ⟨W0, hW, S0⟩ := PS.start w p
  have l0 := S0.ld
  have c22 := S0.var.bit (j := 22) rfl
  have c28 := S0.var.bit (j := 28) rfl
  have H0 : Hid (PS w W0 w.heap.size (w.heap.size + 1) p) := S0
  clear S0
  cases h22 : p.bt 22
  · rw [h22] at c22
    have EQ : Hid (fagO p = none) := show fagO p = _ by simp [fagO, h22]
    have ER : Hid (Ending.returned (.tuple #[.agg (p).cs, .bool false]) = Ending.returned (.tuple #[.agg (tellO p (fagO p)).cs, .bool (fagO p).isSome])) := show Ending.returned _ = _ by rw [EQ.out]; rfl
    clear EQ
    clear h22
    go_enter Tryz.func202, Tryz.ntmps202
    obtain ⟨U, sU, G0⟩ := H0.out.tell p
    have G : Hid (RvAt U (w.heap.size + 1) 74 p.cs ∧ Below w.heap.size w U) := G0
    clear G0 H0
    go_wp2_with (with_reducible exact ret_pb Tryz.results202 (by with_unfolding_all rfl) (by with_unfolding_all rfl) (by with_unfolding_all rfl) G.out.1 ⟨ER.out, G.out.2⟩)
  · rw [h22] at c22
    cases h28 : p.bt 28
    · rw [h28] at c28
      have EQ : Hid (fagO p = none) := show fagO p = _ by simp [fagO, h22, h28]
      have ER : Hid (Ending.returned (.tuple #[.agg (p).cs, .bool false]) = Ending.returned (.tuple #[.agg (tellO p (fagO p)).cs, .bool (fagO p).isSome])) := show Ending.returned _ = _ by rw [EQ.out]; rfl
      clear EQ
      clear h22 h28
      go_enter Tryz.func202, Tryz.ntmps202
      obtain ⟨U, sU, G0⟩ := H0.out.tell p
      have G : Hid (RvAt U (w.heap.size + 1) 74 p.cs ∧ Below w.heap.size w U) := G0
      clear G0 H0
      go_wp2_with (with_reducible exact ret_pb Tryz.results202 (by with_unfolding_all rfl) (by with_unfolding_all rfl) (by with_unfolding_all rfl) G.out.1 ⟨ER.out, G.out.2⟩)
    · rw [h28] at c28
      have EQ : Hid (fagO p = some (updP p)) := show fagO p = _ by simp [fagO, h22, h28]
      have ER : Hid (Ending.returned (.tuple #[.agg (updP p).cs, .bool true]) = Ending.returned (.tuple #[.agg (tellO p (fagO p)).cs, .bool (fagO p).isSome])) := show Ending.returned _ = _ by rw [EQ.out]; rfl
      clear EQ
      clear h22 h28
      go_enter Tryz.func202, Tryz.ntmps202
      go_wp2_with fail
      refine (upd_any p W0).mono ?_
      rintro _ V ⟨rfl, bV⟩
      obtain ⟨U, sU, G0⟩ := (H0.out.below bV).tell (updP p)
      have G : Hid (RvAt U (w.heap.size + 1) 74 (updP p).cs ∧ Below w.heap.size w U) := G0
      clear G0 H0 bV hW l0 c22 c28
      go_wp2_with (with_reducible exact ret_pb Tryz.results202 (by with_unfolding_all rfl) (by with_unfolding_all rfl) (by with_unfolding_all rfl) G.out.1 ⟨ER.out, G.out.2⟩)
set_option maxHeartbeats 4000000 in
theorem fcu_any (p : Pt) (w : World) :
    Calls Tryz.prog 203 #[.agg p.cs] w fun r w' => r = .returned (.tuple #[.agg (tellO p (fcuO p)).cs, .bool (fcuO p).isSome]) ∧ Below w.heap.size w w' := by
  obtain ⟨W0, hW, S0⟩ := PS.start w p
  have l0 := S0.ld
  have c14 := S0.var.bit (j := 14) rfl
  have c22 := S0.var.bit (j := 22) rfl
  have c28 := S0.var.bit (j := 28) rfl
  have c29 := S0.var.num (j := 29) (k := .i64) rfl
  have c69 := S0.var.num (j := 69) (k := .u8) rfl
  have H0 : Hid (PS w W0 w.heap.size (w.heap.size + 1) p) := S0
  clear S0
  cases h14 : p.bt 14
  · rw [h14] at c14
    cases h22 : p.bt 22
    · rw [h22] at c22
      by_cases e29_3 : p.nm 29 = 3
      · rw [e29_3] at c29
        by_cases e69_0 : p.nm 69 = 0
        · rw [e69_0] at c69
          cases h28 : p.bt 28
          · rw [h28] at c28
            have EQ : Hid (fcuO p = some (agdP p)) := show fcuO p = _ by simp [fcuO, h14, h22, e29_3, e69_0, h28]
            have ER : Hid (Ending.returned (.tuple #[.agg (agdP p).cs, .bool true]) = Ending.returned (.tuple #[.agg (tellO p (fcuO p)).cs, .bool (fcuO p).isSome])) := show Ending.returned _ = _ by rw [EQ.out]; rfl
            clear EQ
            clear e29_3
            clear e69_0
            clear h14 h22 h28
            go_enter Tryz.func203, Tryz.ntmps203
            go_wp2_with fail
            refine (agd_any p W0).mono ?_
            rintro _ V ⟨rfl, bV⟩
            obtain ⟨U, sU, G0⟩ := (H0.out.below bV).tell (agdP p)
            have G : Hid (RvAt U (w.heap.size + 1) 74 (agdP p).cs ∧ Below w.heap.size w U) := G0
            clear G0 H0 bV hW l0 c14 c22 c28 c29 c69
            go_wp2_with (with_reducible exact ret_pb Tryz.results203 (by with_unfolding_all rfl) (by with_unfolding_all rfl) (by with_unfolding_all rfl) G.out.1 ⟨ER.out, G.out.2⟩)
          · rw [h28] at c28
            have EQ : Hid (fcuO p = none) := show fcuO p = _ by simp [fcuO, h14, h22, e29_3, e69_0, h28]
            have ER : Hid (Ending.returned (.tuple #[.agg (p).cs, .bool false]) = Ending.returned (.tuple #[.agg (tellO p (fcuO p)).cs, .bool (fcuO p).isSome])) := show Ending.returned _ = _ by rw [EQ.out]; rfl
            clear EQ
            clear e29_3
            clear e69_0
            clear h14 h22 h28
            go_enter Tryz.func203, Tryz.ntmps203
            obtain ⟨U, sU, G0⟩ := H0.out.tell p
            have G : Hid (RvAt U (w.heap.size + 1) 74 p.cs ∧ Below w.heap.size w U) := G0
            clear G0 H0
            go_wp2_with (with_reducible exact ret_pb Tryz.results203 (by with_unfolding_all rfl) (by with_unfolding_all rfl) (by with_unfolding_all rfl) G.out.1 ⟨ER.out, G.out.2⟩)
        · skip
          have EQ : Hid (fcuO p = none) := show fcuO p = _ by simp [fcuO, h14, h22, e29_3, e69_0]
          have ER : Hid (Ending.returned (.tuple #[.agg (p).cs, .bool false]) = Ending.returned (.tuple #[.agg (tellO p (fcuO p)).cs, .bool (fcuO p).isSome])) := show Ending.returned _ = _ by rw [EQ.out]; rfl
          clear EQ
          clear e29_3
          obtain ⟨K69, g69⟩ : ∃ K, p.nm 69 = K := ⟨_, rfl⟩
          rw [g69] at c69 e69_0
          have q69_0 : (K69 == 0) = false := by simp [e69_0]
          have n69_0 : (K69 != 0) = true := by simp [e69_0]
          clear g69
          clear h14 h22
          go_enter Tryz.func203, Tryz.ntmps203
          obtain ⟨U, sU, G0⟩ := H0.out.tell p
          have G : Hid (RvAt U (w.heap.size + 1) 74 p.cs ∧ Below w.heap.size w U) := G0
          clear G0 H0
          go_wp2_with (with_reducible exact ret_pb Tryz.results203 (by with_unfolding_all rfl) (by with_unfolding_all rfl) (by with_unfolding_all rfl) G.out.1 ⟨ER.out, G.out.2⟩)
      · skip
        have EQ : Hid (fcuO p = none) := show fcuO p = _ by simp [fcuO, h14, h22, e29_3]
        have ER : Hid (Ending.returned (.tuple #[.agg (p).cs, .bool false]) = Ending.returned (.tuple #[.agg (tellO p (fcuO p)).cs, .bool (fcuO p).isSome])) := show Ending.returned _ = _ by rw [EQ.out]; rfl
        clear EQ
        obtain ⟨K29, g29⟩ : ∃ K, p.nm 29 = K := ⟨_, rfl⟩
        rw [g29] at c29 e29_3
        have q29_3 : (K29 == 3) = false := by simp [e29_3]
        have n29_3 : (K29 != 3) = true := by simp [e29_3]
        clear g29
        clear h14 h22
        go_enter Tryz.func203, Tryz.ntmps203
        obtain ⟨U, sU, G0⟩ := H0.out.tell p
        have G : Hid (RvAt U (w.heap.size + 1) 74 p.cs ∧ Below w.heap.size w U) := G0
        clear G0 H0
        go_wp2_with (with_reducible exact ret_pb Tryz.results203 (by with_unfolding_all rfl) (by with_unfolding_all rfl) (by with_unfolding_all rfl) G.out.1 ⟨ER.out, G.out.2⟩)
    · rw [h22] at c22
      cases h28 : p.bt 28
      · rw [h28] at c28
        by_cases e29_3 : p.nm 29 = 3
        · rw [e29_3] at c29
          by_cases e69_0 : p.nm 69 = 0
          · rw [e69_0] at c69
            have EQ : Hid (fcuO p = some (agdP p)) := show fcuO p = _ by simp [fcuO, h14, h22, h28, e29_3, e69_0]
            have ER : Hid (Ending.returned (.tuple #[.agg (agdP p).cs, .bool true]) = Ending.returned (.tuple #[.agg (tellO p (fcuO p)).cs, .bool (fcuO p).isSome])) := show Ending.returned _ = _ by rw [EQ.out]; rfl
            clear EQ
            clear e29_3
            clear e69_0
            clear h14 h22 h28
            go_enter Tryz.func203, Tryz.ntmps203
            go_wp2_with fail
            refine (agd_any p W0).mono ?_
            rintro _ V ⟨rfl, bV⟩
            obtain ⟨U, sU, G0⟩ := (H0.out.below bV).tell (agdP p)
            have G : Hid (RvAt U (w.heap.size + 1) 74 (agdP p).cs ∧ Below w.heap.size w U) := G0
            clear G0 H0 bV hW l0 c14 c22 c28 c29 c69
            go_wp2_with (with_reducible exact ret_pb Tryz.results203 (by with_unfolding_all rfl) (by with_unfolding_all rfl) (by with_unfolding_all rfl) G.out.1 ⟨ER.out, G.out.2⟩)
          · skip
            have EQ : Hid (fcuO p = none) := show fcuO p = _ by simp [fcuO, h14, h22, h28, e29_3, e69_0]
            have ER : Hid (Ending.returned (.tuple #[.agg (p).cs, .bool false]) = Ending.returned (.tuple #[.agg (tellO p (fcuO p)).cs, .bool (fcuO p).isSome])) := show Ending.returned _ = _ by rw [EQ.out]; rfl
            clear EQ
            clear e29_3
            obtain ⟨K69, g69⟩ : ∃ K, p.nm 69 = K := ⟨_, rfl⟩
            rw [g69] at c69 e69_0
            have q69_0 : (K69 == 0) = false := by simp [e69_0]
            have n69_0 : (K69 != 0) = true := by simp [e69_0]
            clear g69
            clear h14 h22 h28
            go_enter Tryz.func203, Tryz.ntmps203
            obtain ⟨U, sU, G0⟩ := H0.out.tell p
            have G : Hid (RvAt U (w.heap.size + 1) 74 p.cs ∧ Below w.heap.size w U) := G0
            clear G0 H0
            go_wp2_with (with_reducible exact ret_pb Tryz.results203 (by with_unfolding_all rfl) (by with_unfolding_all rfl) (by with_unfolding_all rfl) G.out.1 ⟨ER.out, G.out.2⟩)
        · skip
          have EQ : Hid (fcuO p = none) := show fcuO p = _ by simp [fcuO, h14, h22, h28, e29_3]
          have ER : Hid (Ending.returned (.tuple #[.agg (p).cs, .bool false]) = Ending.returned (.tuple #[.agg (tellO p (fcuO p)).cs, .bool (fcuO p).isSome])) := show Ending.returned _ = _ by rw [EQ.out]; rfl
          clear EQ
          obtain ⟨K29, g29⟩ : ∃ K, p.nm 29 = K := ⟨_, rfl⟩
          rw [g29] at c29 e29_3
          have q29_3 : (K29 == 3) = false := by simp [e29_3]
          have n29_3 : (K29 != 3) = true := by simp [e29_3]
          clear g29
          clear h14 h22 h28
          go_enter Tryz.func203, Tryz.ntmps203
          obtain ⟨U, sU, G0⟩ := H0.out.tell p
          have G : Hid (RvAt U (w.heap.size + 1) 74 p.cs ∧ Below w.heap.size w U) := G0
          clear G0 H0
          go_wp2_with (with_reducible exact ret_pb Tryz.results203 (by with_unfolding_all rfl) (by with_unfolding_all rfl) (by with_unfolding_all rfl) G.out.1 ⟨ER.out, G.out.2⟩)
      · rw [h28] at c28
        have EQ : Hid (fcuO p = some (updP p)) := show fcuO p = _ by simp [fcuO, h14, h22, h28]
        have ER : Hid (Ending.returned (.tuple #[.agg (updP p).cs, .bool true]) = Ending.returned (.tuple #[.agg (tellO p (fcuO p)).cs, .bool (fcuO p).isSome])) := show Ending.returned _ = _ by rw [EQ.out]; rfl
        clear EQ
        clear h14 h22 h28
        go_enter Tryz.func203, Tryz.ntmps203
        go_wp2_with fail
        refine (upd_any p W0).mono ?_
        rintro _ V ⟨rfl, bV⟩
        obtain ⟨U, sU, G0⟩ := (H0.out.below bV).tell (updP p)
        have G : Hid (RvAt U (w.heap.size + 1) 74 (updP p).cs ∧ Below w.heap.size w U) := G0
        clear G0 H0 bV hW l0 c14 c22 c28 c29 c69
        go_wp2_with (with_reducible exact ret_pb Tryz.results203 (by with_unfolding_all rfl) (by with_unfolding_all rfl) (by with_unfolding_all rfl) G.out.1 ⟨ER.out, G.out.2⟩)
  · rw [h14] at c14
    cases h28 : p.bt 28
    · rw [h28] at c28
      have EQ : Hid (fcuO p = some (recP p)) := show fcuO p = _ by simp [fcuO, h14, h28]
      have ER : Hid (Ending.returned (.tuple #[.agg (recP p).cs, .bool true]) = Ending.returned (.tuple #[.agg (tellO p (fcuO p)).cs, .bool (fcuO p).isSome])) := show Ending.returned _ = _ by rw [EQ.out]; rfl
      clear EQ
      clear h14 h28
      go_enter Tryz.func203, Tryz.ntmps203
      go_wp2_with fail
      refine (rec_any p W0).mono ?_
      rintro _ V ⟨rfl, bV⟩
      obtain ⟨U, sU, G0⟩ := (H0.out.below bV).tell (recP p)
      have G : Hid (RvAt U (w.heap.size + 1) 74 (recP p).cs ∧ Below w.heap.size w U) := G0
      clear G0 H0 bV hW l0 c14 c22 c28 c29 c69
      go_wp2_with (with_reducible exact ret_pb Tryz.results203 (by with_unfolding_all rfl) (by with_unfolding_all rfl) (by with_unfolding_all rfl) G.out.1 ⟨ER.out, G.out.2⟩)
    · rw [h28] at c28
      cases h22 : p.bt 22
      · rw [h22] at c22
        by_cases e29_3 : p.nm 29 = 3
        · rw [e29_3] at c29
          by_cases e69_0 : p.nm 69 = 0
          · rw [e69_0] at c69
            have EQ : Hid (fcuO p = none) := show fcuO p = _ by simp [fcuO, h14, h28, h22, e29_3, e69_0]
            have ER : Hid (Ending.returned (.tuple #[.agg (p).cs, .bool false]) = Ending.returned (.tuple #[.agg (tellO p (fcuO p)).cs, .bool (fcuO p).isSome])) := show Ending.returned _ = _ by rw [EQ.out]; rfl
            clear EQ
            clear e29_3
            clear e69_0
            clear h14 h28 h22
            go_enter Tryz.func203, Tryz.ntmps203
            obtain ⟨U, sU, G0⟩ := H0.out.tell p
            have G : Hid (RvAt U (w.heap.size + 1) 74 p.cs ∧ Below w.heap.size w U) := G0
            clear G0 H0
            go_wp2_with (with_reducible exact ret_pb Tryz.results203 (by with_unfolding_all rfl) (by with_unfolding_all rfl) (by with_unfolding_all rfl) G.out.1 ⟨ER.out, G.out.2⟩)
          · skip
            have EQ : Hid (fcuO p = none) := show fcuO p = _ by simp [fcuO, h14, h28, h22, e29_3, e69_0]
            have ER : Hid (Ending.returned (.tuple #[.agg (p).cs, .bool false]) = Ending.returned (.tuple #[.agg (tellO p (fcuO p)).cs, .bool (fcuO p).isSome])) := show Ending.returned _ = _ by rw [EQ.out]; rfl
            clear EQ
            clear e29_3
            obtain ⟨K69, g69⟩ : ∃ K, p.nm 69 = K := ⟨_, rfl⟩
            rw [g69] at c69 e69_0
            have q69_0 : (K69 == 0) = false := by simp [e69_0]
            have n69_0 : (K69 != 0) = true := by simp [e69_0]
            clear g69
            clear h14 h28 h22
            go_enter Tryz.func203, Tryz.ntmps203
            obtain ⟨U, sU, G0⟩ := H0.out.tell p
            have G : Hid (RvAt U (w.heap.size + 1) 74 p.cs ∧ Below w.heap.size w U) := G0
            clear G0 H0
            go_wp2_with (with_reducible exact ret_pb Tryz.results203 (by with_unfolding_all rfl) (by with_unfolding_all rfl) (by with_unfolding_all rfl) G.out.1 ⟨ER.out, G.out.2⟩)
        · skip
          have EQ : Hid (fcuO p = none) := show fcuO p = _ by simp [fcuO, h14, h28, h22, e29_3]
          have ER : Hid (Ending.returned (.tuple #[.agg (p).cs, .bool false]) = Ending.returned (.tuple #[.agg (tellO p (fcuO p)).cs, .bool (fcuO p).isSome])) := show Ending.returned _ = _ by rw [EQ.out]; rfl
          clear EQ
          obtain ⟨K29, g29⟩ : ∃ K, p.nm 29 = K := ⟨_, rfl⟩
          rw [g29] at c29 e29_3
          have q29_3 : (K29 == 3) = false := by simp [e29_3]
          have n29_3 : (K29 != 3) = true := by simp [e29_3]
          clear g29
          clear h14 h28 h22
          go_enter Tryz.func203, Tryz.ntmps203
          obtain ⟨U, sU, G0⟩ := H0.out.tell p
          have G : Hid (RvAt U (w.heap.size + 1) 74 p.cs ∧ Below w.heap.size w U) := G0
          clear G0 H0
          go_wp2_with (with_reducible exact ret_pb Tryz.results203 (by with_unfolding_all rfl) (by with_unfolding_all rfl) (by with_unfolding_all rfl) G.out.1 ⟨ER.out, G.out.2⟩)
      · rw [h22] at c22
        have EQ : Hid (fcuO p = some (updP p)) := show fcuO p = _ by simp [fcuO, h14, h28, h22]
        have ER : Hid (Ending.returned (.tuple #[.agg (updP p).cs, .bool true]) = Ending.returned (.tuple #[.agg (tellO p (fcuO p)).cs, .bool (fcuO p).isSome])) := show Ending.returned _ = _ by rw [EQ.out]; rfl
        clear EQ
        clear h14 h28 h22
        go_enter Tryz.func203, Tryz.ntmps203
        go_wp2_with fail
        refine (upd_any p W0).mono ?_
        rintro _ V ⟨rfl, bV⟩
        obtain ⟨U, sU, G0⟩ := (H0.out.below bV).tell (updP p)
        have G : Hid (RvAt U (w.heap.size + 1) 74 (updP p).cs ∧ Below w.heap.size w U) := G0
        clear G0 H0 bV hW l0 c14 c22 c28 c29 c69
        go_wp2_with (with_reducible exact ret_pb Tryz.results203 (by with_unfolding_all rfl) (by with_unfolding_all rfl) (by with_unfolding_all rfl) G.out.1 ⟨ER.out, G.out.2⟩)
set_option maxHeartbeats 4000000 in
theorem step_any (p : Pt) (w : World) :
    Calls Tryz.prog 165 #[.agg p.cs] w fun r w' => r = .returned (.tuple #[.agg (tellO p (stepO p)).cs, .bool (stepO p).isSome]) ∧ Below w.heap.size w w' := by
  obtain ⟨W0, hW, S0⟩ := PS.start w p
  have l0 := S0.ld
  have c2 := S0.var.bit (j := 2) rfl
  have c29 := S0.var.num (j := 29) (k := .i64) rfl
  have c72 := S0.var.num (j := 72) (k := .i64) rfl
  have H0 : Hid (PS w W0 w.heap.size (w.heap.size + 1) p) := S0
  clear S0
  cases h2 : p.bt 2
  · rw [h2] at c2
    by_cases e29_0 : p.nm 29 = 0
    · rw [e29_0] at c29
      by_cases e72_1 : p.nm 72 = 1
      · rw [e72_1] at c72
        have EQ : Hid (stepO p = fdsO p) := show stepO p = _ by simp [stepO, h2, e29_0, e72_1]
        have ER : Hid (Ending.returned (.tuple #[.agg (tellO p (fdsO p)).cs, .bool (fdsO p).isSome]) = Ending.returned (.tuple #[.agg (tellO p (stepO p)).cs, .bool (stepO p).isSome])) := show Ending.returned _ = _ by rw [EQ.out]
        clear EQ
        clear e29_0
        clear e72_1
        clear h2
        go_enter Tryz.func165, Tryz.ntmps165
        go_wp2_with fail
        refine (fds_any p W0).mono ?_
        rintro _ V ⟨rfl, bV⟩
        obtain ⟨U, sU, G0⟩ := (H0.out.below bV).tell (tellO p (fdsO p))
        have G : Hid (RvAt U (w.heap.size + 1) 74 (tellO p (fdsO p)).cs ∧ Below w.heap.size w U) := G0
        clear G0 H0 bV hW l0 c2 c29 c72
        go_wp2_with (with_reducible exact ret_pb Tryz.results165 (by with_unfolding_all rfl) (by with_unfolding_all rfl) (by with_unfolding_all rfl) G.out.1 ⟨ER.out, G.out.2⟩)
      · skip
        by_cases e72_2 : p.nm 72 = 2
        · rw [e72_2] at c72
          have EQ : Hid (stepO p = fagO p) := show stepO p = _ by simp [stepO, h2, e29_0, e72_1, e72_2]
          have ER : Hid (Ending.returned (.tuple #[.agg (tellO p (fagO p)).cs, .bool (fagO p).isSome]) = Ending.returned (.tuple #[.agg (tellO p (stepO p)).cs, .bool (stepO p).isSome])) := show Ending.returned _ = _ by rw [EQ.out]
          clear EQ
          clear e29_0
          clear e72_1
          clear e72_2
          clear h2
          go_enter Tryz.func165, Tryz.ntmps165
          go_wp2_with fail
          refine (fag_any p W0).mono ?_
          rintro _ V ⟨rfl, bV⟩
          obtain ⟨U, sU, G0⟩ := (H0.out.below bV).tell (tellO p (fagO p))
          have G : Hid (RvAt U (w.heap.size + 1) 74 (tellO p (fagO p)).cs ∧ Below w.heap.size w U) := G0
          clear G0 H0 bV hW l0 c2 c29 c72
          go_wp2_with (with_reducible exact ret_pb Tryz.results165 (by with_unfolding_all rfl) (by with_unfolding_all rfl) (by with_unfolding_all rfl) G.out.1 ⟨ER.out, G.out.2⟩)
        · skip
          by_cases e72_3 : p.nm 72 = 3
          · rw [e72_3] at c72
            have EQ : Hid (stepO p = fcuO p) := show stepO p = _ by simp [stepO, h2, e29_0, e72_1, e72_2, e72_3]
            have ER : Hid (Ending.returned (.tuple #[.agg (tellO p (fcuO p)).cs, .bool (fcuO p).isSome]) = Ending.returned (.tuple #[.agg (tellO p (stepO p)).cs, .bool (stepO p).isSome])) := show Ending.returned _ = _ by rw [EQ.out]
            clear EQ
            clear e29_0
            clear e72_1
            clear e72_2
            clear e72_3
            clear h2
            go_enter Tryz.func165, Tryz.ntmps165
            go_wp2_with fail
            refine (fcu_any p W0).mono ?_
            rintro _ V ⟨rfl, bV⟩
            obtain ⟨U, sU, G0⟩ := (H0.out.below bV).tell (tellO p (fcuO p))
            have G : Hid (RvAt U (w.heap.size + 1) 74 (tellO p (fcuO p)).cs ∧ Below w.heap.size w U) := G0
            clear G0 H0 bV hW l0 c2 c29 c72
            go_wp2_with (with_reducible exact ret_pb Tryz.results165 (by with_unfolding_all rfl) (by with_unfolding_all rfl) (by with_unfolding_all rfl) G.out.1 ⟨ER.out, G.out.2⟩)
          · skip
            have EQ : Hid (stepO p = some (disP p)) := show stepO p = _ by simp [stepO, h2, e29_0, e72_1, e72_2, e72_3]
            have ER : Hid (Ending.returned (.tuple #[.agg (disP p).cs, .bool true]) = Ending.returned (.tuple #[.agg (tellO p (stepO p)).cs, .bool (stepO p).isSome])) := show Ending.returned _ = _ by rw [EQ.out]; rfl
            clear EQ
            clear e29_0
            obtain ⟨K72, g72⟩ : ∃ K, p.nm 72 = K := ⟨_, rfl⟩
            rw [g72] at c72 e72_1 e72_2 e72_3
            have q72_1 : (K72 == 1) = false := by simp [e72_1]
            have n72_1 : (K72 != 1) = true := by simp [e72_1]
            have q72_2 : (K72 == 2) = false := by simp [e72_2]
            have n72_2 : (K72 != 2) = true := by simp [e72_2]
            have q72_3 : (K72 == 3) = false := by simp [e72_3]
            have n72_3 : (K72 != 3) = true := by simp [e72_3]
            clear g72
            clear h2
            go_enter Tryz.func165, Tryz.ntmps165
            go_wp2_with fail
            refine (dis_any p W0).mono ?_
            rintro _ V ⟨rfl, bV⟩
            obtain ⟨U, sU, G0⟩ := (H0.out.below bV).tell (disP p)
            have G : Hid (RvAt U (w.heap.size + 1) 74 (disP p).cs ∧ Below w.heap.size w U) := G0
            clear G0 H0 bV hW l0 c2 c29 c72
            go_wp2_with (with_reducible exact ret_pb Tryz.results165 (by with_unfolding_all rfl) (by with_unfolding_all rfl) (by with_unfolding_all rfl) G.out.1 ⟨ER.out, G.out.2⟩)
    · skip
      have EQ : Hid (stepO p = some (disP p)) := show stepO p = _ by simp [stepO, h2, e29_0]
      have ER : Hid (Ending.returned (.tuple #[.agg (disP p).cs, .bool true]) = Ending.returned (.tuple #[.agg (tellO p (stepO p)).cs, .bool (stepO p).isSome])) := show Ending.returned _ = _ by rw [EQ.out]; rfl
      clear EQ
      obtain ⟨K29, g29⟩ : ∃ K, p.nm 29 = K := ⟨_, rfl⟩
      rw [g29] at c29 e29_0
      have q29_0 : (K29 == 0) = false := by simp [e29_0]
      have n29_0 : (K29 != 0) = true := by simp [e29_0]
      clear g29
      clear h2
      go_enter Tryz.func165, Tryz.ntmps165
      go_wp2_with fail
      refine (dis_any p W0).mono ?_
      rintro _ V ⟨rfl, bV⟩
      obtain ⟨U, sU, G0⟩ := (H0.out.below bV).tell (disP p)
      have G : Hid (RvAt U (w.heap.size + 1) 74 (disP p).cs ∧ Below w.heap.size w U) := G0
      clear G0 H0 bV hW l0 c2 c29 c72
      go_wp2_with (with_reducible exact ret_pb Tryz.results165 (by with_unfolding_all rfl) (by with_unfolding_all rfl) (by with_unfolding_all rfl) G.out.1 ⟨ER.out, G.out.2⟩)
  · rw [h2] at c2
    by_cases e72_1 : p.nm 72 = 1
    · rw [e72_1] at c72
      have EQ : Hid (stepO p = fdsO p) := show stepO p = _ by simp [stepO, h2, e72_1]
      have ER : Hid (Ending.returned (.tuple #[.agg (tellO p (fdsO p)).cs, .bool (fdsO p).isSome]) = Ending.returned (.tuple #[.agg (tellO p (stepO p)).cs, .bool (stepO p).isSome])) := show Ending.returned _ = _ by rw [EQ.out]
      clear EQ
      clear e72_1
      clear h2
      go_enter Tryz.func165, Tryz.ntmps165
      go_wp2_with fail
      refine (fds_any p W0).mono ?_
      rintro _ V ⟨rfl, bV⟩
      obtain ⟨U, sU, G0⟩ := (H0.out.below bV).tell (tellO p (fdsO p))
      have G : Hid (RvAt U (w.heap.size + 1) 74 (tellO p (fdsO p)).cs ∧ Below w.heap.size w U) := G0
      clear G0 H0 bV hW l0 c2 c29 c72
      go_wp2_with (with_reducible exact ret_pb Tryz.results165 (by with_unfolding_all rfl) (by with_unfolding_all rfl) (by with_unfolding_all rfl) G.out.1 ⟨ER.out, G.out.2⟩)
    · skip
      by_cases e72_2 : p.nm 72 = 2
      · rw [e72_2] at c72
        have EQ : Hid (stepO p = fagO p) := show stepO p = _ by simp [stepO, h2, e72_1, e72_2]
        have ER : Hid (Ending.returned (.tuple #[.agg (tellO p (fagO p)).cs, .bool (fagO p).isSome]) = Ending.returned (.tuple #[.agg (tellO p (stepO p)).cs, .bool (stepO p).isSome])) := show Ending.returned _ = _ by rw [EQ.out]
        clear EQ
        clear e72_1
        clear e72_2
        clear h2
        go_enter Tryz.func165, Tryz.ntmps165
        go_wp2_with fail
        refine (fag_any p W0).mono ?_
        rintro _ V ⟨rfl, bV⟩
        obtain ⟨U, sU, G0⟩ := (H0.out.below bV).tell (tellO p (fagO p))
        have G : Hid (RvAt U (w.heap.size + 1) 74 (tellO p (fagO p)).cs ∧ Below w.heap.size w U) := G0
        clear G0 H0 bV hW l0 c2 c29 c72
        go_wp2_with (with_reducible exact ret_pb Tryz.results165 (by with_unfolding_all rfl) (by with_unfolding_all rfl) (by with_unfolding_all rfl) G.out.1 ⟨ER.out, G.out.2⟩)
      · skip
        by_cases e72_3 : p.nm 72 = 3
        · rw [e72_3] at c72
          have EQ : Hid (stepO p = fcuO p) := show stepO p = _ by simp [stepO, h2, e72_1, e72_2, e72_3]
          have ER : Hid (Ending.returned (.tuple #[.agg (tellO p (fcuO p)).cs, .bool (fcuO p).isSome]) = Ending.returned (.tuple #[.agg (tellO p (stepO p)).cs, .bool (stepO p).isSome])) := show Ending.returned _ = _ by rw [EQ.out]
          clear EQ
          clear e72_1
          clear e72_2
          clear e72_3
          clear h2
          go_enter Tryz.func165, Tryz.ntmps165
          go_wp2_with fail
          refine (fcu_any p W0).mono ?_
          rintro _ V ⟨rfl, bV⟩
          obtain ⟨U, sU, G0⟩ := (H0.out.below bV).tell (tellO p (fcuO p))
          have G : Hid (RvAt U (w.heap.size + 1) 74 (tellO p (fcuO p)).cs ∧ Below w.heap.size w U) := G0
          clear G0 H0 bV hW l0 c2 c29 c72
          go_wp2_with (with_reducible exact ret_pb Tryz.results165 (by with_unfolding_all rfl) (by with_unfolding_all rfl) (by with_unfolding_all rfl) G.out.1 ⟨ER.out, G.out.2⟩)
        · skip
          have EQ : Hid (stepO p = some (disP p)) := show stepO p = _ by simp [stepO, h2, e72_1, e72_2, e72_3]
          have ER : Hid (Ending.returned (.tuple #[.agg (disP p).cs, .bool true]) = Ending.returned (.tuple #[.agg (tellO p (stepO p)).cs, .bool (stepO p).isSome])) := show Ending.returned _ = _ by rw [EQ.out]; rfl
          clear EQ
          obtain ⟨K72, g72⟩ : ∃ K, p.nm 72 = K := ⟨_, rfl⟩
          rw [g72] at c72 e72_1 e72_2 e72_3
          have q72_1 : (K72 == 1) = false := by simp [e72_1]
          have n72_1 : (K72 != 1) = true := by simp [e72_1]
          have q72_2 : (K72 == 2) = false := by simp [e72_2]
          have n72_2 : (K72 != 2) = true := by simp [e72_2]
          have q72_3 : (K72 == 3) = false := by simp [e72_3]
          have n72_3 : (K72 != 3) = true := by simp [e72_3]
          clear g72
          clear h2
          go_enter Tryz.func165, Tryz.ntmps165
          go_wp2_with fail
          refine (dis_any p W0).mono ?_
          rintro _ V ⟨rfl, bV⟩
          obtain ⟨U, sU, G0⟩ := (H0.out.below bV).tell (disP p)
          have G : Hid (RvAt U (w.heap.size + 1) 74 (disP p).cs ∧ Below w.heap.size w U) := G0
          clear G0 H0 bV hW l0 c2 c29 c72
          go_wp2_with (with_reducible exact ret_pb Tryz.results165 (by with_unfolding_all rfl) (by with_unfolding_all rfl) (by with_unfolding_all rfl) G.out.1 ⟨ER.out, G.out.2⟩)
end S11
end
section
namespace S11
open Go.RowKit

def gtP (l : List Pt) (i : Nat) : Pt := l.getD i zeroP
theorem gtP_at {l : List Pt} {i : Nat} (h : i < l.length) : l[i]? = some (gtP l i) := by
  simp [gtP, List.getD_eq_getElem?_getD, List.getElem?_eq_getElem h]
attribute [local go_sem ↓] ldP stP ldT stT apE st32 st4
end S11
end
section
namespace S11
open Go.RowKit

attribute [local go_sem ↓] ldP stP ldT stT apE st32 st4
theorem one_t (w : World) (h : Hd) (x : Value) : ∃ W, w.alloc (.cells (trc h x) 39) = W ∧ RvAt W w.heap.size 39 (trc h x) ∧ Below w.heap.size w W ∧ W.heap.size = w.heap.size + 1 :=
  ⟨_, rfl, RvAt.new w _ _, (Below.refl _ _).alloc (Nat.le_refl _) _, by simp⟩
end S11
end
section
namespace S11
open Go.RowKit

attribute [local go_sem ↓] ldP stP ldT stT apE st32
theorem there_any (h : Hd) (a : Option Addr) (n c : Nat) (i : Int) (w : World) (hn : n ≤ 1000) :
    Calls Tryz.prog 67 #[.agg (trc h (.slice a n c)), .int .i64 i] w fun r w' => r = .returned (.bool (decide (0 ≤ i) && decide (i < n))) ∧ Below w.heap.size w w' := by
  obtain ⟨W, hW, r0, bW, zW⟩ := one_t w h (.slice a n c)
  have c16 := r0.t16
  have F : Hid (Below w.heap.size w W) := bW
  clear r0 bW zW
  go_enter Tryz.func67, Tryz.ntmps67
  by_cases h1 : 0 ≤ i
  · by_cases h2 : i < (n : Int)
    · go_wp2
      go_ret
      exact ⟨by simp [h1, h2], F.out⟩
    · go_wp2
      go_ret
      exact ⟨by simp [h1, h2], F.out⟩
  · go_wp2
    go_ret
    exact ⟨by simp; omega, F.out⟩
theorem nil_yes (w : World) : (binOp .eql 37 (.slice none 0 0) (.slice none 0 0)).run Tryz.prog w = .ok (.bool true) w := by kernel_rfl
theorem nil_no (x : Addr) (n c : Nat) (w : World) : (binOp .eql 37 (.slice (some x) n c) (.slice none 0 0)).run Tryz.prog w = .ok (.bool false) w := by kernel_rfl
attribute [local go_sem] nil_yes nil_no
set_option maxHeartbeats 2000000 in
theorem clone_any (a : Option Addr) (n c : Nat) (l : List Pt) (w : World) (hs : SlAt w a n c l) (hn : n ≤ 1000) :
    Calls Tryz.prog 88 #[.slice a n c] w fun r w' => ∃ v, r = .returned v ∧ Own w' w.heap.size v l ∧ Below w.heap.size w w' := by
  cases a with
  | none =>
    obtain ⟨rfl, rfl⟩ := hs.nil rfl
    have hl : l = [] := List.eq_nil_of_length_eq_zero hs.len
    subst hl
    go_enter Tryz.func88, Tryz.ntmps88
    go_wp2
    go_ret
    exact ⟨_, rfl, Own.nil _ _, Below.refl _ _⟩
  | some x =>
    obtain ⟨W1, hW1⟩ : ∃ W1, w.alloc (.cells #[] 74) = W1 := ⟨_, rfl⟩
    have b1 : Below w.heap.size w W1 := by rw [← hW1]; exact (Below.refl _ _).alloc (Nat.le_refl _) _
    have o1 : Own W1 w.heap.size (.slice (some ⟨w.heap.size, 0, none⟩) 0 0) [] := by rw [← hW1]; exact zero_new w _ (Nat.le_refl _)
    obtain ⟨v, W2, ap, o2, g2⟩ := o1.app (hs.below b1) (by have := hs.len; simp; omega) b1.size 37
    rw [List.nil_append] at o2
    have b2 : Below w.heap.size w W2 := b1.trans (below_of_grown g2 b1.size (fun j e => by cases e; exact Nat.le_refl _))
    have F : Hid (Own W2 w.heap.size v l ∧ Below w.heap.size w W2) := ⟨o2, b2⟩
    clear hs b1 o1 o2 g2 b2 hn
    go_enter Tryz.func88, Tryz.ntmps88
    go_wp2
    go_ret
    exact ⟨v, rfl, F.out.1, F.out.2⟩
theorem three_t (w : World) (h : Hd) (x : Value) (p : Pt) : ∃ W, ((w.alloc (.cells (trc h x) 39)).alloc (.cells p.cs 74)).alloc (.cells #[.int .u64 0, .int .u8 0, .int .u8 0, .int .u8 0, .int .u8 0, .int .u8 0, .bool false, .int .u16 0, .int .u64 0, .int .u32 0, .int .u64 0, .int .u16 0, .int .u8 0, .int .u8 0, .int .u8 0, .int .u8 0, .slice none 0 0] 39) = W ∧ RvAt W w.heap.size 39 (trc h x) ∧ RvAt W (w.heap.size + 1) 74 p.cs ∧ RvAt W (w.heap.size + 1 + 1) 39 (trc zeroH (.slice none 0 0)) ∧ Below w.heap.size w W ∧ W.heap.size = w.heap.size + 3 := by
  obtain ⟨A, hA, rA, bA, zA⟩ := one_t w h x
  obtain ⟨D, hD, rD, bD, zD⟩ := new_p A p
  have hC : RvAt (D.alloc (.cells zeroT 39)) D.heap.size 39 zeroT := RvAt.new D _ _
  have bC : Below D.heap.size D (D.alloc (.cells zeroT 39)) := (Below.refl _ _).alloc (Nat.le_refl _) _
  rw [zeroT_is, zD, zA] at hC
  rw [zA] at rD
  rw [hA, hD]
  rw [zeroT_is] at bC
  refine ⟨_, rfl, ?_⟩
  change RvAt (D.alloc (.cells zeroT 39)) _ _ _ ∧ RvAt (D.alloc (.cells zeroT 39)) _ _ _ ∧ RvAt (D.alloc (.cells zeroT 39)) _ _ _ ∧ Below _ _ (D.alloc (.cells zeroT 39)) ∧ (D.alloc (.cells zeroT 39)).heap.size = _
  rw [zeroT_is]
  exact ⟨(rA.below bD).below bC, rD.below bC, hC, below_over (below_over bA bD) bC, by simp; omega⟩
set_option maxHeartbeats 4000000 in
theorem repl_any (h : Hd) (a : Option Addr) (n c : Nat) (l : List Pt) (k : Nat) (p : Pt) (w : World) (hs : SlAt w a n c l) (hn : n ≤ 1000) (hk : k < n) :
    Calls Tryz.prog 68 #[.agg (trc h (.slice a n c)), .int .i64 (k : Int), .agg p.cs] w fun r w' => ∃ g c', r = .returned (.agg (trc h (.slice (some ⟨g, 0, none⟩) n c'))) ∧ w.heap.size ≤ g ∧ SlAt w' (some ⟨g, 0, none⟩) n c' (l.set k p) ∧ Below w.heap.size w w' := by
  obtain ⟨W, hW, r0, rp, r1, bW, zW⟩ := three_t w h (.slice a n c) p
  have c16 := r0.t16
  have H : Hid (SlAt W a n c l ∧ n ≤ 1000 ∧ l.length = n ∧ RvAt W w.heap.size 39 (trc h (.slice a n c)) ∧ RvAt W (w.heap.size + 1 + 1) 39 (trc zeroH (.slice none 0 0)) ∧ Below w.heap.size w W ∧ W.heap.size = w.heap.size + 3 ∧ RvAt W (w.heap.size + 1) 74 p.cs) := ⟨hs.below bW, hn, hs.len, r0, r1, bW, zW, rp⟩
  clear hs hn r0 r1 bW zW rp
  go_enter Tryz.func68, Tryz.ntmps68
  go_wp2_with fail
  refine (clone_any a n c l W H.out.1 H.out.2.1).mono ?_
  rintro _ W2 ⟨v, rfl, o2, b2⟩
  have z2 := H.out.2.2.2.2.2.2.1
  have hl := H.out.2.2.1
  obtain ⟨W3, s3, r3, g3⟩ := (H.out.2.2.2.1.below b2).tset o2.one
  have o3 := o2.keptBut g3 (o2.apart (by omega))
  have q3 := (H.out.2.2.2.2.1.below b2).keptBut g3 (by simp only [ne_eq, Option.some.injEq]; omega)
  have p3 := (H.out.2.2.2.2.2.2.2.below b2).keptBut g3 (by simp only [ne_eq, Option.some.injEq]; omega)
  have b3 : Below w.heap.size w W3 := gro (below_over H.out.2.2.2.2.2.1 b2) g3 (Nat.le_refl _) (by have := b2.size; omega)
  have lp := p3.pld
  have hin0 : (0 : Int) ≤ (k : Int) := by omega
  have hin1 : (k : Int) < (n : Int) := by omega
  clear b2 g3 o2 c16 hW
  rcases o3.pat with ⟨hv, hle⟩ | ⟨g, cc, hv, hg, hp⟩
  · rw [hle] at hl; simp at hl; omega
  · rw [hl] at hv
    subst hv
    have c16 := r3.t16
    obtain ⟨V, sV, pV, gV⟩ := hp.stp (i := k) (p := p) (by omega) rfl
    have r5 := r3.keptBut gV (by simp; omega)
    have q5 := q3.keptBut gV (by simp; omega)
    have l5 := r5.tld
    obtain ⟨W6, s6, r6, g6⟩ := q5.tst (g := h) (y := .slice (some ⟨g, 0, none⟩) n cc) rfl
    have p6 := pV.keptBut g6 (by simp; omega)
    have b6 : Below w.heap.size w W6 := gro (gro b3 gV (by omega) b3.size) g6 (by omega) (by have := b3.size; have := gV.size; omega)
    have s6' := p6.sl
    rw [List.length_set, hl] at s6'
    have F : Hid (RvAt W6 (w.heap.size + 1 + 1) 39 (trc h (.slice (some ⟨g, 0, none⟩) n cc)) ∧ w.heap.size ≤ g ∧ SlAt W6 (some ⟨g, 0, none⟩) n cc (l.set k p) ∧ Below w.heap.size w W6) := ⟨r6, by omega, s6', b6⟩
    clear hp pV gV r5 q5 r6 g6 p6 b6 s6' hg r3 q3 p3 b3 o3 hl z2 hk
    go_wp2
    refine bodyPost_ret (results_row rtT Tryz.results68 _ _ _ _ rfl F.out.1 (trc_size _ _)) rfl ?_
    exact ⟨g, cc, rfl, F.out.2⟩
end S11
end
section
namespace S11
open Go.RowKit

def stepL (l : List Pt) (i : Int) : List Pt := if 0 ≤ i ∧ i < l.length then l.set i.toNat (tellO (gtP l i.toNat) (stepO (gtP l i.toNat))) else l
def stepB (l : List Pt) (i : Int) : Bool := if 0 ≤ i ∧ i < l.length then (stepO (gtP l i.toNat)).isSome else false
theorem set_self {l : List Pt} {k : Nat} (h : k < l.length) : l.set k (gtP l k) = l := by
  have : gtP l k = l[k] := by
    have := gtP_at h
    rw [List.getElem?_eq_getElem h] at this
    exact (Option.some.inj this).symm
  rw [this, List.set_getElem_self]
theorem var_p (W : World) (p : Pt) : ∃ W', (stS 74 (.pointer (some ⟨W.heap.size, 0, none⟩)) (.agg p.cs)).run Tryz.prog (W.alloc (.cells zeroP.cs 74)) = .ok () W' ∧ RvAt W' W.heap.size 74 p.cs ∧ Below W.heap.size W W' ∧ W'.heap.size = W.heap.size + 1 :=
  row_new rtP W zeroP.cs p.cs (by rw [Row.csize, lenP]) (by rw [Row.csize, lenP]) p.one'
structure TS (w W : World) (b d : Nat) (h : Hd) (x : Value) : Prop where
  var : RvAt W b 39 (trc h x)
  out : RvAt W d 39 (trc zeroH (.slice none 0 0))
  bel : Below w.heap.size w W
  hd : w.heap.size ≤ d
theorem TS.below {w W V : World} {b d : Nat} {h : Hd} {x : Value} (s : TS w W b d h x) (k : Below W.heap.size W V) : TS w V b d h x := ⟨s.var.below k, s.out.below k, below_over s.bel k, s.hd⟩
theorem TS.tell {w W : World} {b d : Nat} {h : Hd} {x : Value} (s : TS w W b d h x) {y : Value} (hy : y.oneCell' = true) : ∃ U, (stS 39 (.pointer (some ⟨d, 0, none⟩)) (.agg (trc h y))).run Tryz.prog W = .ok () U ∧ RvAt U d 39 (trc h y) ∧ Below w.heap.size w U ∧ W.grownBy U (some d) := by
  obtain ⟨U, e, h1, g⟩ := s.out.tst (g := h) (y := y) hy
  exact ⟨U, e, h1, gro s.bel g s.hd s.bel.size, g⟩
attribute [local go_sem ↓] ldP stP ldT stT ldM stM
attribute [local go_sem ↓] alP alM
attribute [local go_sem] alP_run alM_run
set_option maxHeartbeats 4000000 in
theorem pstep_any (h : Hd) (a : Option Addr) (n c : Nat) (l : List Pt) (i : Int) (w : World) (hs : SlAt w a n c l) (hn : n ≤ 1000) :
    Calls Tryz.prog 131 #[.agg (trc h (.slice a n c)), .int .i64 i] w fun r w' => ∃ a' c', r = .returned (.tuple #[.agg (trc h (.slice a' n c')), .bool (stepB l i)]) ∧ SlAt w' a' n c' (stepL l i) ∧ Below w.heap.size w w' ∧ Fro w a a' := by
  obtain ⟨W, hW, r0, r1, bW, zW⟩ := two_t w h (.slice a n c)
  have l0 := r0.tld
  have H : Hid (SlAt W a n c l ∧ n ≤ 1000 ∧ l.length = n ∧ TS w W w.heap.size (w.heap.size + 1) h (.slice a n c) ∧ W.heap.size = w.heap.size + 2) := ⟨hs.below bW, hn, hs.len, ⟨r0, r1, bW, by omega⟩, zW⟩
  have LT : Hid (∀ x, a = some x → 0 < n → x.block < w.heap.size) := fun x hx h0 => by
    obtain ⟨b, o, e, hc⟩ := hs.cells x hx h0
    subst e
    have hl := hs.len
    have := hc 0 _ (List.getElem?_eq_getElem (by rw [flat_len]; omega))
    exact World.block_lt_of_cell? w _ this
  clear hs r0 r1 bW zW
  go_enter Tryz.func131, Tryz.ntmps131
  go_wp2_with fail
  refine (there_any h a n c i W hn).mono ?_
  rintro _ W1 ⟨rfl, b1⟩
  have H1 : Hid (SlAt W1 a n c l ∧ TS w W1 w.heap.size (w.heap.size + 1) h (.slice a n c)) := ⟨H.out.1.below b1, H.out.2.2.2.1.below b1⟩
  clear b1 l0 hW
  have keep : Hid (∀ {V U : World}, SlAt V a n c l → V.grownBy U (some (w.heap.size + 1)) → SlAt U a n c l) := fun hs g => by
    by_cases h0 : 0 < n
    · exact hs.keptBut g (fun x hx e => by have := LT.out x hx h0; simp only [Option.some.injEq] at e; omega)
    · have hl := hs.len
      have hle : l = [] := List.eq_nil_of_length_eq_zero (by omega)
      subst hle
      exact ⟨⟨hs.len, hs.cap, hs.max, hs.nil, fun x _ h1 => absurd h1 h0⟩, fun x _ h1 => absurd h1 h0⟩
  by_cases hi : 0 ≤ i ∧ i < (n : Int)
  · have eb : (decide (0 ≤ i) && decide (i < (n : Int))) = true := by simp; omega
    rw [eb]
    clear eb
    obtain ⟨k, hk⟩ : ∃ k : Nat, i = (k : Int) := ⟨i.toNat, by omega⟩
    subst hk
    have hkn : k < n := by omega
    have hkl : k < l.length := by rw [H.out.2.2.1]; exact hkn
    have hin0 : (0 : Int) ≤ (k : Int) := by omega
    have hin1 : (k : Int) < (n : Int) := by omega
    obtain ⟨b, o, rfl⟩ := H1.out.1.some' (by omega)
    have c16 := H1.out.2.var.t16
    have lp := H1.out.1.ld (gtP_at hkl)
    have EL : Hid (stepL l (k : Int) = l.set k (tellO (gtP l k) (stepO (gtP l k))) ∧ stepB l (k : Int) = (stepO (gtP l k)).isSome ∧ l.set k (gtP l k) = l) := ⟨by unfold stepL; rw [if_pos ⟨hin0, by omega⟩]; rfl, by unfold stepB; rw [if_pos ⟨hin0, by omega⟩]; rfl, set_self hkl⟩
    obtain ⟨p, hp⟩ : ∃ p, gtP l k = p := ⟨_, rfl⟩
    rw [hp] at lp EL
    clear hp hkl hi
    go_wp2_with fail
    refine (step_any p W1).mono ?_
    rintro _ W2 ⟨rfl, b2⟩
    obtain ⟨W3, s3, r3, b3, z3⟩ := var_p W2 (tellO p (stepO p))
    have H3 : Hid (SlAt W3 (some ⟨b, o, none⟩) n c l ∧ TS w W3 w.heap.size (w.heap.size + 1) h (.slice (some ⟨b, o, none⟩) n c) ∧ RvAt W3 W2.heap.size 74 (tellO p (stepO p)).cs) := ⟨(H1.out.1.below b2).below b3, (H1.out.2.below b2).below b3, r3⟩
    have l3 := H3.out.2.1.var.tld
    have lq := r3.pld
    obtain ⟨z, hz⟩ : ∃ z, W2.heap.size = z := ⟨_, rfl⟩
    rw [hz] at s3 lq
    clear b2 r3 b3 z3 H1 c16 lp
    obtain ⟨x, hx⟩ : ∃ x, stepO p = x := ⟨_, rfl⟩
    rw [hx] at EL s3 lq H3 ⊢
    clear hx
    cases x with
    | none =>
      obtain ⟨U, sU, h1, h2, g⟩ := H3.out.2.1.tell (y := .slice (some ⟨b, o, none⟩) n c) rfl
      have G : Hid (RvAt U (w.heap.size + 1) 39 (trc h (.slice (some ⟨b, o, none⟩) n c)) ∧ SlAt U (some ⟨b, o, none⟩) n c l ∧ Below w.heap.size w U) := ⟨h1, keep.out H3.out.1 g, h2⟩
      clear h1 h2 g H3
      simp only [Option.isSome_none]
      go_wp2
      refine bodyPost_ret (results_rowtmp rtT Tryz.results131 _ _ _ _ rfl G.out.1 (trc_size _ _)) rfl ?_
      refine ⟨some ⟨b, o, none⟩, c, ?_, ?_, G.out.2.2, Or.inl rfl⟩
      · rw [EL.out.2.1]; rfl
      · rw [EL.out.1]
        show SlAt U _ _ _ (l.set k p)
        rw [EL.out.2.2]
        exact G.out.2.1
    | some q =>
      simp only [Option.isSome_some]
      go_wp2_with fail
      refine (repl_any h (some ⟨b, o, none⟩) n c l k (tellO p (some q)) W3 H3.out.1 hn hkn).mono ?_
      rintro _ W4 ⟨g', c', rfl, hg', s4, b4⟩
      obtain ⟨U, sU, h1, h2, g⟩ := (H3.out.2.1.below b4).tell (y := .slice (some ⟨g', 0, none⟩) n c') rfl
      have hdl := (H3.out.2.1).out.lt
      have G : Hid (RvAt U (w.heap.size + 1) 39 (trc h (.slice (some ⟨g', 0, none⟩) n c')) ∧ SlAt U (some ⟨g', 0, none⟩) n c' (l.set k (tellO p (some q))) ∧ Below w.heap.size w U) := ⟨h1, s4.keptBut g (fun x hx e => by cases hx; simp only [Option.some.injEq] at e; omega), h2⟩
      have FR : Hid (w.heap.size ≤ g') := Nat.le_trans H3.out.2.1.bel.size hg'
      clear h1 h2 g H3 s4 b4 l3 lq s3 hdl hg'
      go_wp2
      refine bodyPost_ret (results_rowtmp rtT Tryz.results131 _ _ _ _ rfl G.out.1 (trc_size _ _)) rfl ?_
      refine ⟨some ⟨g', 0, none⟩, c', ?_, ?_, G.out.2.2, Or.inr (Nw.of FR.out)⟩
      · rw [EL.out.2.1]; rfl
      · rw [EL.out.1]
        exact G.out.2.1
  · have eb : (decide (0 ≤ i) && decide (i < (n : Int))) = false := by simp; omega
    rw [eb]
    clear eb
    have EL : Hid (stepL l i = l ∧ stepB l i = false) := ⟨by unfold stepL; rw [if_neg (by have := H.out.2.2.1; omega)], by unfold stepB; rw [if_neg (by have := H.out.2.2.1; omega)]⟩
    have l1 := H1.out.2.var.tld
    obtain ⟨U, sU, h1, h2, g⟩ := H1.out.2.tell (y := .slice a n c) rfl
    have G : Hid (RvAt U (w.heap.size + 1) 39 (trc h (.slice a n c)) ∧ SlAt U a n c l ∧ Below w.heap.size w U) := ⟨h1, keep.out H1.out.1 g, h2⟩
    clear h1 h2 g H1 hi
    go_wp2
    refine bodyPost_ret (results_rowtmp rtT Tryz.results131 _ _ _ _ rfl G.out.1 (trc_size _ _)) rfl ?_
    refine ⟨a, c, ?_, ?_, G.out.2.2, Or.inl rfl⟩
    · rw [EL.out.2]; rfl
    · rw [EL.out.1]; exact G.out.2.1
end S11
end
end Go.Proofs.YtlchejbggnbccaaGreat
