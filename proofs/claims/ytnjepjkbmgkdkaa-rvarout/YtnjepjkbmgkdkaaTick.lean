/-
  A second later: Tick and the definition's: their walks, for every tree.
-/
import Derived.Test.YtnjepjkbmgkdkaaTrees
import Derived.Test.YtnjepjkbmgkdkaaTail
namespace Go.Proofs.Ytnjepjkbmgkdkaa
set_option linter.unusedVariables false
set_option maxRecDepth 4000
set_option linter.unusedSimpArgs false
open Go.RowKit

/-- A number set in a row, where it may be. -/
def Row.setU {ks : List (Option IntKind)} (r : Row ks) (j : Nat) (n : Int) : Row ks :=
  if h : ks[j]? = some (some .u8) ∧ (Lit.int .u8 n).wf = true then r.set j (.int .u8 n) (fit_num h.1 h.2) else r
theorem Row.setU_is {ks : List (Option IntKind)} (r : Row ks) {j : Nat} {n : Int} (h : ks[j]? = some (some .u8)) (hw : (Lit.int .u8 n).wf = true) : r.setU j n = r.set j (.int .u8 n) (fit_num h hw) := by
  unfold Row.setU
  rw [dif_pos ⟨h, hw⟩]
theorem Row.setU_ne {ks : List (Option IntKind)} (r : Row ks) {j i : Nat} {n : Int} (h : j ≠ i) : (r.setU j n).cl[i]? = r.cl[i]? := by
  unfold Row.setU
  split
  · show (r.cl.set j (.int .u8 n))[i]? = _
    rw [List.getElem?_set, if_neg h]
  · rfl
theorem Row.setU_nm {ks : List (Option IntKind)} (r : Row ks) {j i : Nat} {n : Int} (h : j ≠ i) : (r.setU j n).nm i = r.nm i := by
  unfold Row.nm
  rw [r.setU_ne h]
theorem Row.setU_at {ks : List (Option IntKind)} (r : Row ks) {j : Nat} {n : Int} (h : ks[j]? = some (some .u8)) (hw : (Lit.int .u8 n).wf = true) : (r.setU j n).nm j = n := by
  rw [r.setU_is h hw]
  exact r.nset _ (List.getElem?_eq_some_iff.1 h).1
theorem wf8 {n : Int} (h : 0 ≤ n ∧ n ≤ 255) : (Lit.int .u8 n).wf = true := by simp [Lit.wf, IntKind.min, IntKind.max, IntKind.signed, IntKind.bits]; omega
theorem Row.u8 {ks : List (Option IntKind)} (r : Row ks) {j : Nat} (h : ks[j]? = some (some .u8)) : 0 ≤ r.nm j ∧ r.nm j ≤ 255 := by
  have := r.nwf h
  simp [Lit.wf, IntKind.min, IntKind.max, IntKind.signed, IntKind.bits] at this
  omega
/-- One less, if it is above 0. -/
def dec1 (n : Int) : Int := if 0 < n then n - 1 else n
theorem dec1_in {n : Int} (h : 0 ≤ n ∧ n ≤ 255) : 0 ≤ dec1 n ∧ dec1 n ≤ 255 := by
  unfold dec1
  split <;> omega
/-- The timers' places, in their order. -/
def tm (i : Nat) : Nat := [65, 66, 67, 68, 69, 70, 71, 64].getD i 0
theorem tm_kd {i : Nat} (h : i < 8) : kdP[tm i]? = some (some .u8) := by
  match i, h with
  | 0, _ => rfl
  | 1, _ => rfl
  | 2, _ => rfl
  | 3, _ => rfl
  | 4, _ => rfl
  | 5, _ => rfl
  | 6, _ => rfl
  | 7, _ => rfl
/-- The first i timers run down. -/
def tickTo (p : Pt) : Nat → Pt
  | 0 => p
  | i + 1 => (tickTo p i).setU (tm i) (dec1 ((tickTo p i).nm (tm i)))
def tickP (p : Pt) : Pt := tickTo p 8
def tps (g q : Nat) : Array Value := #[.pointer (some ⟨g, q + 65, none⟩), .pointer (some ⟨g, q + 66, none⟩), .pointer (some ⟨g, q + 67, none⟩), .pointer (some ⟨g, q + 68, none⟩), .pointer (some ⟨g, q + 69, none⟩), .pointer (some ⟨g, q + 70, none⟩), .pointer (some ⟨g, q + 71, none⟩), .pointer (some ⟨g, q + 64, none⟩)]
theorem infoA : (Try.prog.info? 70).map (·.size) = some 8 := by kernel_rfl
theorem rtA : RowTy 70 8 := ⟨infoA, _, Try.underlying70, rfl⟩
theorem ldA (x : Value) : Instr.loadAt 70 x = ldS 70 x := rfl
theorem stA (x y : Value) : Instr.storeAt 70 x y = stS 70 x y := rfl
theorem tps_one (g q : Nat) : ∀ v ∈ (tps g q).toList, v.oneCell' = true := by
  intro v hv
  simp only [tps, List.mem_cons, List.not_mem_nil, or_false] at hv
  rcases hv with rfl | rfl | rfl | rfl | rfl | rfl | rfl | rfl <;> rfl
attribute [local go_sem ↓] ldP stP ldT stT apE st32 st4 st5 ldA stA
set_option maxHeartbeats 4000000 in
theorem timers_any (g q : Nat) (w : World) : Calls Try.prog 40 #[.pointer (some ⟨g, q, none⟩)] w fun r w' => r = .returned (.agg (tps g q)) ∧ Below w.heap.size w w' := by
  obtain ⟨W, hW⟩ : ∃ W, w.alloc (.cells #[.pointer none, .pointer none, .pointer none, .pointer none, .pointer none, .pointer none, .pointer none, .pointer none] 70) = W := ⟨_, rfl⟩
  have bW : Below w.heap.size w W := by rw [← hW]; exact (Below.refl _ _).alloc (Nat.le_refl _) _
  have rW : RvAt W w.heap.size 70 #[.pointer none, .pointer none, .pointer none, .pointer none, .pointer none, .pointer none, .pointer none, .pointer none] := by rw [← hW]; exact RvAt.new w _ _
  have H : Hid (RvAt W w.heap.size 70 #[.pointer none, .pointer none, .pointer none, .pointer none, .pointer none, .pointer none, .pointer none, .pointer none] ∧ Below w.heap.size w W) := ⟨rW, bW⟩
  clear bW rW
  go_enter Try.func40, Try.ntmps40
  go_wp2_with fail
  refine wp_region_later_tail 24 (by kernel_rfl) (by kernel_rfl) ?_
  simp only [List.take_succ_cons, List.take_zero]
  repeat (go_big_quiet_step (first | exact rfl))
  refine wpQuiet_nil ?_
  intro u
  simp only [List.drop_succ_cons, List.drop_zero]
  have rU := H.out.1.below u.below
  have sV := rU.st rtA rfl rfl (tps_one g q)
  have rV := rU.set (ds := tps g q)
  have bV : Below w.heap.size w (u.val.setRow w.heap.size (tps g q)) := below_setRow (below_over H.out.2 u.below) (Nat.le_refl _) _
  obtain ⟨V, hV⟩ : ∃ V, u.val.setRow w.heap.size (tps g q) = V := ⟨_, rfl⟩
  rw [hV] at sV rV bV
  unfold tps at sV
  have F : Hid (RvAt V w.heap.size 70 (tps g q) ∧ Below w.heap.size w V) := ⟨rV, bV⟩
  clear rU rV bV hV
  go_wp2
  refine bodyPost_ret (results_row rtA Try.results40 _ _ _ _ rfl F.out.1 rfl) rfl ?_
  exact ⟨rfl, F.out.2⟩
theorem ixA (g q i : Nat) (hi : i < 8) (w : World) : (Instr.index 70 (.agg (tps g q)) (.int .i64 (i : Int))).run Try.prog w = .ok (.pointer (some ⟨g, q + tm i, none⟩)) w := by
  match i, hi with
  | 0, _ => show (Instr.index 70 (.agg (tps g q)) (.int .i64 ((0 : Nat) : Int))).run Try.prog w = .ok (.pointer (some ⟨g, q + tm 0, none⟩)) w; kernel_rfl
  | 1, _ => show (Instr.index 70 (.agg (tps g q)) (.int .i64 ((1 : Nat) : Int))).run Try.prog w = .ok (.pointer (some ⟨g, q + tm 1, none⟩)) w; kernel_rfl
  | 2, _ => show (Instr.index 70 (.agg (tps g q)) (.int .i64 ((2 : Nat) : Int))).run Try.prog w = .ok (.pointer (some ⟨g, q + tm 2, none⟩)) w; kernel_rfl
  | 3, _ => show (Instr.index 70 (.agg (tps g q)) (.int .i64 ((3 : Nat) : Int))).run Try.prog w = .ok (.pointer (some ⟨g, q + tm 3, none⟩)) w; kernel_rfl
  | 4, _ => show (Instr.index 70 (.agg (tps g q)) (.int .i64 ((4 : Nat) : Int))).run Try.prog w = .ok (.pointer (some ⟨g, q + tm 4, none⟩)) w; kernel_rfl
  | 5, _ => show (Instr.index 70 (.agg (tps g q)) (.int .i64 ((5 : Nat) : Int))).run Try.prog w = .ok (.pointer (some ⟨g, q + tm 5, none⟩)) w; kernel_rfl
  | 6, _ => show (Instr.index 70 (.agg (tps g q)) (.int .i64 ((6 : Nat) : Int))).run Try.prog w = .ok (.pointer (some ⟨g, q + tm 6, none⟩)) w; kernel_rfl
  | 7, _ => show (Instr.index 70 (.agg (tps g q)) (.int .i64 ((7 : Nat) : Int))).run Try.prog w = .ok (.pointer (some ⟨g, q + tm 7, none⟩)) w; kernel_rfl
theorem gtP_set {l : List Pt} {i : Nat} {p : Pt} (h : i < l.length) : (l.set i p)[i]? = some p := by
  rw [List.getElem?_set, if_pos rfl, if_pos h]
set_option maxHeartbeats 4000000 in
theorem chg_tick : Chg 39 tickP := by
  intro W g c i q l p hp hi hq
  have hil : i < l.length := (List.getElem?_eq_some_iff.1 hi).1
  have e0 : l.set i (tickTo p 0) = l := by
    show l.set i p = l
    have : p = l[i] := by rw [List.getElem?_eq_getElem hil] at hi; exact (Option.some.inj hi).symm
    rw [this, List.set_getElem_self]
  have H : Hid (PAt W g c (l.set i (tickTo p 0)) ∧ q = i * 77 ∧ i < l.length) := ⟨by rw [e0]; exact hp, hq, hil⟩
  clear hp hi hq hil e0
  go_enter Try.func39, Try.ntmps39
  go_wp2_with fail
  refine (timers_any g q W).mono ?_
  rintro _ W1 ⟨rfl, b1⟩
  go_wp2_with fail
  go_loopw [3, 6] (fun v3 v6 wr => ∃ k : Nat, k ≤ 8 ∧ v6 = .int .i64 k ∧ PAt wr g c (l.set i (tickTo p k)) ∧ W.grownBy wr (some g)) (fun _ v6 _ => 8 - (intOf v6).toNat)
  case atStart => exact ⟨0, by omega, rfl, H.out.1.below b1, grown_of_below b1 _⟩
  case round =>
    obtain ⟨k, hk, rfl, hpk, hgk⟩ := hrel
    by_cases hk8 : k < 8
    · have ix := ixA g q k hk8
      have hin1 : (k : Int) < 8 := by omega
      have hat := gtP_set (p := tickTo p k) H.out.2.2
      have c0 : wr.cell? ⟨g, q + tm k, none⟩ = some (.int .u8 ((tickTo p k).nm (tm k))) := hpk.num hat (tm_kd hk8) (by rw [H.out.2.1])
      obtain ⟨m, hm⟩ : ∃ m, (tickTo p k).nm (tm k) = m := ⟨_, rfl⟩
      have hmr := (tickTo p k).u8 (tm_kd hk8)
      have et : tickTo p (k + 1) = (tickTo p k).setU (tm k) (dec1 m) := by rw [← hm]; rfl
      rw [hm] at c0 hmr
      have et2 := (tickTo p k).setU_is (tm_kd hk8) (wf8 (dec1_in hmr))
      rw [← et] at et2
      by_cases h0 : 0 < m
      · have ed : dec1 m = m - 1 := if_pos h0
        have hw : IntKind.u8.wrap (m - 1) = m - 1 := IntWalk.u8_in _ (by omega)
        obtain ⟨V, sV, pV, gV⟩ := hpk.st1 (q := q + tm k) (j := tm k) (v := .int .u8 (m - 1)) hat info1.2.1 (by rw [← lenP]; exact (List.getElem?_eq_some_iff.1 (tm_kd hk8)).1) rfl (fit_num (tm_kd hk8) (wf8 (by omega))) (by rw [H.out.2.1])
        have pV' : PAt V g c (l.set i (tickTo p (k + 1))) := by
          have e3 : (l.set i (tickTo p k)).set i ((tickTo p k).set (tm k) (.int .u8 (m - 1)) (fit_num (tm_kd hk8) (wf8 (by omega)))) = l.set i (tickTo p (k + 1)) := by
            rw [List.set_set, et2]
            congr 2
            rw [ed]
          rw [e3] at pV
          exact pV
        have J : Hid (PAt V g c (l.set i (tickTo p (k + 1))) ∧ W.grownBy V (some g)) := ⟨pV', grown_self hgk gV⟩
        clear hpk hgk hat hm et et2 ed pV pV' gV hk8
        go_wp2
        go_roundw
        case rel => exact ⟨k + 1, by omega, by go_num, J.out.1, J.out.2⟩
        case measure => simp [intOf]; omega
      · have ed : dec1 m = m := if_neg h0
        have e3 : tickTo p (k + 1) = tickTo p k := by
          rw [et2]
          refine Row.ext' (List.ext_getElem? fun t => ?_)
          show ((tickTo p k).cl.set (tm k) (.int .u8 (dec1 m)))[t]? = _
          rw [List.getElem?_set]
          split
          · rename_i e
            subst e
            rw [ed, ← hm, ← (tickTo p k).num (tm_kd hk8)]
            have := (List.getElem?_eq_some_iff.1 ((tickTo p k).num (tm_kd hk8))).1
            rw [if_pos this, (tickTo p k).num (tm_kd hk8)]
          · rfl
        have J : Hid (PAt wr g c (l.set i (tickTo p (k + 1))) ∧ W.grownBy wr (some g)) := ⟨by rw [e3]; exact hpk, hgk⟩
        clear hpk hgk hat hm et et2 ed e3 hk8
        go_wp2
        go_roundw
        case rel => exact ⟨k + 1, by omega, by go_num, J.out.1, J.out.2⟩
        case measure => simp [intOf]; omega
    · have hk' : k = 8 := by omega
      subst hk'
      have J : Hid (PAt wr g c (l.set i (tickTo p 8)) ∧ W.grownBy wr (some g)) := ⟨hpk, hgk⟩
      clear hpk hgk
      go_wp2
      go_end0
      exact ⟨rfl, J.out.1, J.out.2⟩
end Go.Proofs.Ytnjepjkbmgkdkaa
