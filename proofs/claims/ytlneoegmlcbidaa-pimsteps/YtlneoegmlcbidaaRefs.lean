/-
  The definitions that change a port: their walks, each for every port.
-/
import Derived.Test.YtlneoegmlcbidaaChs
namespace Go.Proofs.Ytlneoegmlcbidaa
set_option linter.unusedVariables false
set_option maxRecDepth 4000
set_option linter.unusedSimpArgs false
open Go.RowKit

theorem setB_same {ks : List (Option IntKind)} (r : Row ks) {j : Nat} (h : ks[j]? = some none) : r.setB j h (r.bt j) = r := by
  refine Row.same fun i _ => ?_
  rw [r.setB_get]
  split
  · rename_i e
    subst e
    exact (r.bit h).symm
  · rfl
theorem setB_comm {ks : List (Option IntKind)} (r : Row ks) {i j : Nat} (hi : ks[i]? = some none) (hj : ks[j]? = some none) (x y : Bool) (hn : i ≠ j) : (r.setB i hi x).setB j hj y = (r.setB j hj y).setB i hi x := by
  refine Row.same fun k _ => ?_
  rw [Row.setB_get, Row.setB_get, Row.setB_get, Row.setB_get]
  by_cases h1 : k = i
  · subst h1
    rw [if_neg hn, if_pos rfl, if_pos rfl]
  · rw [if_neg h1, if_neg h1]
theorem got_ref (p : Pt) (m : Mg) {j : Nat} (h : kdP[j]? = some none) (hj : j < 48) (h14 : j ≠ 14) : ((p.put 48 m kq48 kl48).setB 14 kb14 true).setB j h true = gotP p m j h := by
  refine Row.same fun k _ => ?_
  rw [gotP, Row.setB_get, Row.setB_get, Row.setB_get, Row.put_get, Row.put_get, Row.setB_get]
  by_cases h1 : k = j
  · subst h1
    rw [if_pos rfl, if_neg h14, if_neg (by omega), if_pos rfl]
  · rw [if_neg h1]
    by_cases h2 : k = 14
    · rw [if_pos h2, if_pos h2]
    · rw [if_neg h2, if_neg h2]
      split <;> rfl
theorem msg_nm (p : Pt) {j : Nat} (hj : j < 16) : (msg p).nm j = p.nm (48 + j) := p.nm_sub 48 16 j hj
theorem msg_bt (p : Pt) {j : Nat} (hj : j < 16) : (msg p).bt j = p.bt (48 + j) := p.bt_sub 48 16 j hj
/-- The end of such a function: what the variable holds is told. -/
theorem fin_p {w W X : World} {q : Pt} {b d : Nat} (r1 : RvAt W d 47 zeroP.cs) (bW : Below w.heap.size w W) (hX : RvAt X b 47 q.cs) (g : W.grownBy X (some b)) (hb : w.heap.size ≤ b) (hd : w.heap.size ≤ d) (hn : d ≠ b) :
    (ldS 47 (.pointer (some ⟨b, 0, none⟩))).run Try.prog X = .ok (.agg q.cs) X ∧ ∃ U, (stS 47 (.pointer (some ⟨d, 0, none⟩)) (.agg q.cs)).run Try.prog X = .ok () U ∧ RvAt U d 47 q.cs ∧ Below w.heap.size w U := by
  obtain ⟨U, sU, hU, gU⟩ := (r1.keptBut g (by simpa using hn)).pst (q := q)
  exact ⟨hX.pld, U, sU, hU, gro (gro bW g hb bW.size) gU hd (Nat.le_trans bW.size g.size)⟩
attribute [local go_sem ↓] ldP stP ldM stM ldTm stTm ldV stV stB stU
attribute [local go_sem ↓] alP alM
attribute [local go_sem] alP_run alM_run
set_option maxHeartbeats 4000000 in
theorem rprop_any (p : Pt) (w : World) :
    Calls Try.prog 50 #[.agg p.cs] w fun r w' => r = .returned (.agg (propP p).cs) ∧ Below w.heap.size w w' := by
  obtain ⟨W, hW, hp, r1, bW, zW⟩ := two_p w p
  have H : Hid (RvAt W (w.heap.size + 1) 47 zeroP.cs ∧ Below w.heap.size w W ∧ W.heap.size = w.heap.size + 2) := ⟨r1, bW, zW⟩
  clear r1 bW zW
  have c48 := hp.num (j := 48) (k := .i64) rfl
  have c55 := hp.num (j := 55) (k := .i64) rfl
  have c51 := hp.bit (j := 51) rfl
  by_cases h1 : p.nm 48 = 3
  · rw [h1] at c48
    by_cases h2 : p.nm 55 = 4
    · rw [h2] at c55
      cases h3 : p.bt 51
      · rw [h3] at c51
        obtain ⟨lX, U, sU, hU, bU⟩ := fin_p H.out.1 H.out.2.1 hp (World.grownBy.refl _ _) (Nat.le_refl _) (by omega) (by omega)
        have G : Hid (RvAt U (w.heap.size + 1) 47 (propP p).cs ∧ Below w.heap.size w U) := by
          show RvAt U _ _ (propP p).cs ∧ _
          rw [show propP p = p by simp [propP, propB, h3]]
          exact ⟨hU, bU⟩
        clear hp h1 h2 h3 hU bU
        go_enter Try.func50, Try.ntmps50
        go_wp2_with (with_reducible exact ret_port Try.results50 (by with_unfolding_all rfl) (by with_unfolding_all rfl) G.out.1 ⟨rfl, G.out.2⟩)
      · rw [h3] at c51
        obtain ⟨V, s, hV, gV⟩ := hp.setB kb12 true
        obtain ⟨lX, U, sU, hU, bU⟩ := fin_p H.out.1 H.out.2.1 hV gV (Nat.le_refl _) (by omega) (by omega)
        have G : Hid (RvAt U (w.heap.size + 1) 47 (propP p).cs ∧ Below w.heap.size w U) := by
          show RvAt U _ _ (propP p).cs ∧ _
          rw [show propP p = p.setB 12 kb12 true by simp [propP, propB, h1, h2, h3]]
          exact ⟨hU, bU⟩
        clear hp hV gV h1 h2 h3 hU bU
        go_enter Try.func50, Try.ntmps50
        go_wp2_with (with_reducible exact ret_port Try.results50 (by with_unfolding_all rfl) (by with_unfolding_all rfl) G.out.1 ⟨rfl, G.out.2⟩)
    · skip
      obtain ⟨lX, U, sU, hU, bU⟩ := fin_p H.out.1 H.out.2.1 hp (World.grownBy.refl _ _) (Nat.le_refl _) (by omega) (by omega)
      have G : Hid (RvAt U (w.heap.size + 1) 47 (propP p).cs ∧ Below w.heap.size w U) := by
        show RvAt U _ _ (propP p).cs ∧ _
        rw [show propP p = p by simp [propP, propB, h2]]
        exact ⟨hU, bU⟩
      clear hp h1 hU bU
      go_enter Try.func50, Try.ntmps50
      go_wp2_with (with_reducible exact ret_port Try.results50 (by with_unfolding_all rfl) (by with_unfolding_all rfl) G.out.1 ⟨rfl, G.out.2⟩)
  · skip
    obtain ⟨lX, U, sU, hU, bU⟩ := fin_p H.out.1 H.out.2.1 hp (World.grownBy.refl _ _) (Nat.le_refl _) (by omega) (by omega)
    have G : Hid (RvAt U (w.heap.size + 1) 47 (propP p).cs ∧ Below w.heap.size w U) := by
      show RvAt U _ _ (propP p).cs ∧ _
      rw [show propP p = p by simp [propP, propB, h1]]
      exact ⟨hU, bU⟩
    clear hp hU bU
    go_enter Try.func50, Try.ntmps50
    go_wp2_with (with_reducible exact ret_port Try.results50 (by with_unfolding_all rfl) (by with_unfolding_all rfl) G.out.1 ⟨rfl, G.out.2⟩)
set_option maxHeartbeats 4000000 in
theorem ragr_any (p : Pt) (w : World) :
    Calls Try.prog 48 #[.agg p.cs] w fun r w' => r = .returned (.agg (agrP p).cs) ∧ Below w.heap.size w w' := by
  obtain ⟨W, hW, hp, r1, bW, zW⟩ := two_p w p
  have H : Hid (RvAt W (w.heap.size + 1) 47 zeroP.cs ∧ Below w.heap.size w W ∧ W.heap.size = w.heap.size + 2) := ⟨r1, bW, zW⟩
  clear r1 bW zW
  have c48 := hp.num (j := 48) (k := .i64) rfl
  have c54 := hp.bit (j := 54) rfl
  by_cases h1 : p.nm 48 = 3
  · rw [h1] at c48
    cases h2 : p.bt 54
    · rw [h2] at c54
      obtain ⟨V, s, hV, gV⟩ := hp.setB kb4 false
      have d4 := hV.bit (j := 4) rfl
      rw [setB_at] at d4
      obtain ⟨lX, U, sU, hU, bU⟩ := fin_p H.out.1 H.out.2.1 hV gV (Nat.le_refl _) (by omega) (by omega)
      have G : Hid (RvAt U (w.heap.size + 1) 47 (agrP p).cs ∧ Below w.heap.size w U) := by
        show RvAt U _ _ (agrP p).cs ∧ _
        rw [show agrP p = p.setB 4 kb4 false by simp [agrP, agrB, h2]]
        exact ⟨hU, bU⟩
      clear hp hV gV h1 h2 hU bU
      go_enter Try.func48, Try.ntmps48
      go_wp2_with (with_reducible exact ret_port Try.results48 (by with_unfolding_all rfl) (by with_unfolding_all rfl) G.out.1 ⟨rfl, G.out.2⟩)
    · rw [h2] at c54
      obtain ⟨V, s, hV, gV⟩ := hp.setB kb4 true
      have d4 := hV.bit (j := 4) rfl
      rw [setB_at] at d4
      obtain ⟨Z, s2, hZ, gZ⟩ := hV.setB kb13 false
      obtain ⟨lX, U, sU, hU, bU⟩ := fin_p H.out.1 H.out.2.1 hZ (grown_self gV gZ) (Nat.le_refl _) (by omega) (by omega)
      have G : Hid (RvAt U (w.heap.size + 1) 47 (agrP p).cs ∧ Below w.heap.size w U) := by
        show RvAt U _ _ (agrP p).cs ∧ _
        rw [show agrP p = (p.setB 4 kb4 true).setB 13 kb13 false by simp [agrP, agrB, h1, h2]]
        exact ⟨hU, bU⟩
      clear hp hV gV hZ gZ h1 h2 hU bU
      go_enter Try.func48, Try.ntmps48
      go_wp2_with (with_reducible exact ret_port Try.results48 (by with_unfolding_all rfl) (by with_unfolding_all rfl) G.out.1 ⟨rfl, G.out.2⟩)
  · obtain ⟨V, s, hV, gV⟩ := hp.setB kb4 false
    have d4 := hV.bit (j := 4) rfl
    rw [setB_at] at d4
    obtain ⟨lX, U, sU, hU, bU⟩ := fin_p H.out.1 H.out.2.1 hV gV (Nat.le_refl _) (by omega) (by omega)
    have G : Hid (RvAt U (w.heap.size + 1) 47 (agrP p).cs ∧ Below w.heap.size w U) := by
      show RvAt U _ _ (agrP p).cs ∧ _
      rw [show agrP p = p.setB 4 kb4 false by simp [agrP, agrB, h1]]
      exact ⟨hU, bU⟩
    clear hp hV gV hU bU
    go_enter Try.func48, Try.ntmps48
    go_wp2_with (with_reducible exact ret_port Try.results48 (by with_unfolding_all rfl) (by with_unfolding_all rfl) G.out.1 ⟨rfl, G.out.2⟩)
set_option maxHeartbeats 4000000 in
theorem rdisp_any (p : Pt) (w : World) :
    Calls Try.prog 51 #[.agg p.cs] w fun r w' => r = .returned (.agg (dispP p).cs) ∧ Below w.heap.size w w' := by
  obtain ⟨W, hW, hp, r1, bW, zW⟩ := two_p w p
  have H : Hid (RvAt W (w.heap.size + 1) 47 zeroP.cs ∧ Below w.heap.size w W ∧ W.heap.size = w.heap.size + 2) := ⟨r1, bW, zW⟩
  clear r1 bW zW
  have c48 := hp.num (j := 48) (k := .i64) rfl
  have c52 := hp.bit (j := 52) rfl
  by_cases h1 : p.nm 48 = 3
  · rw [h1] at c48
    cases h2 : p.bt 52
    · rw [h2] at c52
      obtain ⟨lX, U, sU, hU, bU⟩ := fin_p H.out.1 H.out.2.1 hp (World.grownBy.refl _ _) (Nat.le_refl _) (by omega) (by omega)
      have G : Hid (RvAt U (w.heap.size + 1) 47 (dispP p).cs ∧ Below w.heap.size w U) := by
        show RvAt U _ _ (dispP p).cs ∧ _
        rw [show dispP p = p by simp [dispP, dispB, h2]]
        exact ⟨hU, bU⟩
      clear hp h1 h2 hU bU
      go_enter Try.func51, Try.ntmps51
      go_wp2_with (with_reducible exact ret_port Try.results51 (by with_unfolding_all rfl) (by with_unfolding_all rfl) G.out.1 ⟨rfl, G.out.2⟩)
    · rw [h2] at c52
      obtain ⟨V, s, hV, gV⟩ := hp.setB kb5 true
      obtain ⟨Z, s2, hZ, gZ⟩ := hV.setB kb4 false
      obtain ⟨lX, U, sU, hU, bU⟩ := fin_p H.out.1 H.out.2.1 hZ (grown_self gV gZ) (Nat.le_refl _) (by omega) (by omega)
      have G : Hid (RvAt U (w.heap.size + 1) 47 (dispP p).cs ∧ Below w.heap.size w U) := by
        show RvAt U _ _ (dispP p).cs ∧ _
        rw [show dispP p = (p.setB 5 kb5 true).setB 4 kb4 false by simp [dispP, dispB, h1, h2]]
        exact ⟨hU, bU⟩
      clear hp hV gV hZ gZ h1 h2 hU bU
      go_enter Try.func51, Try.ntmps51
      go_wp2_with (with_reducible exact ret_port Try.results51 (by with_unfolding_all rfl) (by with_unfolding_all rfl) G.out.1 ⟨rfl, G.out.2⟩)
  · skip
    obtain ⟨lX, U, sU, hU, bU⟩ := fin_p H.out.1 H.out.2.1 hp (World.grownBy.refl _ _) (Nat.le_refl _) (by omega) (by omega)
    have G : Hid (RvAt U (w.heap.size + 1) 47 (dispP p).cs ∧ Below w.heap.size w U) := by
      show RvAt U _ _ (dispP p).cs ∧ _
      rw [show dispP p = p by simp [dispP, dispB, h1]]
      exact ⟨hU, bU⟩
    clear hp hU bU
    go_enter Try.func51, Try.ntmps51
    go_wp2_with (with_reducible exact ret_port Try.results51 (by with_unfolding_all rfl) (by with_unfolding_all rfl) G.out.1 ⟨rfl, G.out.2⟩)
set_option maxHeartbeats 4000000 in
theorem rprio_any (p : Pt) (w : World) :
    Calls Try.prog 60 #[.agg p.cs] w fun r w' => r = .returned (.agg (prioP p).cs) ∧ Below w.heap.size w w' := by
  obtain ⟨W, hW, hp, r1, bW, zW⟩ := two_p w p
  have H : Hid (RvAt W (w.heap.size + 1) 47 zeroP.cs ∧ Below w.heap.size w W ∧ W.heap.size = w.heap.size + 2) := ⟨r1, bW, zW⟩
  clear r1 bW zW
  have lv := hp.pmV
  obtain ⟨V, s, hV, gV⟩ := hp.putV (mV p)
  obtain ⟨lX, U, sU, hU, bU⟩ := fin_p H.out.1 H.out.2.1 hV gV (Nat.le_refl _) (by omega) (by omega)
  have G : Hid (RvAt U (w.heap.size + 1) 47 (prioP p).cs ∧ Below w.heap.size w U) := by
    show RvAt U _ _ (prioP p).cs ∧ _
    rw [show prioP p = p.put 36 (mV p) kq36 kl36 by rfl]
    exact ⟨hU, bU⟩
  clear hp hV gV hU bU
  go_enter Try.func60, Try.ntmps60
  go_wp2_with (with_reducible exact ret_port Try.results60 (by with_unfolding_all rfl) (by with_unfolding_all rfl) G.out.1 ⟨rfl, G.out.2⟩)
set_option maxHeartbeats 4000000 in
theorem rtim_any (p : Pt) (w : World) :
    Calls Try.prog 59 #[.agg p.cs] w fun r w' => r = .returned (.agg (timP p).cs) ∧ Below w.heap.size w w' := by
  obtain ⟨W, hW, hp, r1, bW, zW⟩ := two_p w p
  have H : Hid (RvAt W (w.heap.size + 1) 47 zeroP.cs ∧ Below w.heap.size w W ∧ W.heap.size = w.heap.size + 2) := ⟨r1, bW, zW⟩
  clear r1 bW zW
  have lt := hp.pmT
  obtain ⟨V, s, hV0, gV⟩ := hp.putT (mT p)
  have hV : RvAt V w.heap.size 47 (timQ p).cs := hV0
  have d46 := hV.num (j := 46) (k := .u8) rfl
  rw [timQ_46] at d46
  clear hV0
  by_cases h1 : p.nm 62 = 0
  · rw [h1] at d46
    obtain ⟨Z, s2, hZ, gZ⟩ := hV.setU (j := 46) rfl (n := 1) (by omega)
    obtain ⟨lX, U, sU, hU, bU⟩ := fin_p H.out.1 H.out.2.1 hZ (grown_self gV gZ) (Nat.le_refl _) (by omega) (by omega)
    have G : Hid (RvAt U (w.heap.size + 1) 47 (timP p).cs ∧ Below w.heap.size w U) := by
      show RvAt U _ _ (timP p).cs ∧ _
      rw [show timP p = (timQ p).setU 46 1 by rw [timP, if_pos h1]]
      exact ⟨hU, bU⟩
    clear hp hV gV hZ gZ h1 hU bU
    go_enter Try.func59, Try.ntmps59
    go_wp2_with (with_reducible exact ret_port Try.results59 (by with_unfolding_all rfl) (by with_unfolding_all rfl) G.out.1 ⟨rfl, G.out.2⟩)
  · skip
    obtain ⟨lX, U, sU, hU, bU⟩ := fin_p H.out.1 H.out.2.1 hV gV (Nat.le_refl _) (by omega) (by omega)
    have G : Hid (RvAt U (w.heap.size + 1) 47 (timP p).cs ∧ Below w.heap.size w U) := by
      show RvAt U _ _ (timP p).cs ∧ _
      rw [show timP p = timQ p by rw [timP, if_neg h1]]
      exact ⟨hU, bU⟩
    clear hp hV gV hU bU
    go_enter Try.func59, Try.ntmps59
    go_wp2_with (with_reducible exact ret_port Try.results59 (by with_unfolding_all rfl) (by with_unfolding_all rfl) G.out.1 ⟨rfl, G.out.2⟩)
set_option maxHeartbeats 4000000 in
theorem rwhi_any (p : Pt) (w : World) :
    Calls Try.prog 47 #[.agg p.cs] w fun r w' => r = .returned (.agg (whiP p).cs) ∧ Below w.heap.size w w' := by
  obtain ⟨W, hW, hp, r1, bW, zW⟩ := two_p w p
  have H : Hid (RvAt W (w.heap.size + 1) 47 zeroP.cs ∧ Below w.heap.size w W ∧ W.heap.size = w.heap.size + 2) := ⟨r1, bW, zW⟩
  clear r1 bW zW
  have u44 := p.u8 (j := 44) rfl
  have u45 := p.u8 (j := 45) rfl
  have u46 := p.u8 (j := 46) rfl
  obtain ⟨V, s, hV, gV⟩ := hp.setU ku69 (n := 0) (by omega)
  have d44 := hV.num (j := 44) (k := .u8) rfl
  have d45 := hV.num (j := 45) (k := .u8) rfl
  have d46 := hV.num (j := 46) (k := .u8) rfl
  rw [setU_nm p ku69 (n := 0) (by omega) (i := 44) (by decide)] at d44
  rw [setU_nm p ku69 (n := 0) (by omega) (i := 45) (by decide)] at d45
  rw [setU_nm p ku69 (n := 0) (by omega) (i := 46) (by decide)] at d46
  obtain ⟨A, hA⟩ : ∃ A, p.nm 44 = A := ⟨_, rfl⟩
  obtain ⟨M, hM⟩ : ∃ M, p.nm 45 = M := ⟨_, rfl⟩
  obtain ⟨K, hK⟩ : ∃ K, p.nm 46 = K := ⟨_, rfl⟩
  have E : Hid (whiN p = if A + 1 ≤ M then (if 3 * K ≤ 255 then 3 * K else 255) else 0) := show whiN p = _ by rw [whiN, hA, hM, hK]
  rw [hA] at u44 d44; rw [hM] at u45 d45; rw [hK] at u46 d46
  clear hA hM hK
  by_cases h1 : A + 1 ≤ M
  · by_cases h2 : 3 * K ≤ 255
    · obtain ⟨Z, s2, hZ, gZ⟩ := hV.setU ku69 (n := 3 * K) (by omega)
      obtain ⟨lX, U, sU, hU, bU⟩ := fin_p H.out.1 H.out.2.1 hZ (grown_self gV gZ) (Nat.le_refl _) (by omega) (by omega)
      have G : Hid (RvAt U (w.heap.size + 1) 47 (whiP p).cs ∧ Below w.heap.size w U) := by
        show RvAt U _ _ (whiP p).cs ∧ _
        rw [show whiP p = (p.setU 69 0).setU 69 (3 * K) by rw [whiP, E.out, if_pos h1, if_pos h2, ← setU_two p (by omega)]]
        exact ⟨hU, bU⟩
      clear hp hV gV hZ gZ hU bU
      go_enter Try.func47, Try.ntmps47
      go_wp2_with (with_reducible exact ret_port Try.results47 (by with_unfolding_all rfl) (by with_unfolding_all rfl) G.out.1 ⟨rfl, G.out.2⟩)
    · obtain ⟨Z, s2, hZ, gZ⟩ := hV.setU ku69 (n := 255) (by omega)
      obtain ⟨lX, U, sU, hU, bU⟩ := fin_p H.out.1 H.out.2.1 hZ (grown_self gV gZ) (Nat.le_refl _) (by omega) (by omega)
      have G : Hid (RvAt U (w.heap.size + 1) 47 (whiP p).cs ∧ Below w.heap.size w U) := by
        show RvAt U _ _ (whiP p).cs ∧ _
        rw [show whiP p = (p.setU 69 0).setU 69 255 by rw [whiP, E.out, if_pos h1, if_neg h2, ← setU_two p (by omega)]]
        exact ⟨hU, bU⟩
      clear hp hV gV hZ gZ hU bU
      go_enter Try.func47, Try.ntmps47
      go_wp2_with (with_reducible exact ret_port Try.results47 (by with_unfolding_all rfl) (by with_unfolding_all rfl) G.out.1 ⟨rfl, G.out.2⟩)
  · skip
    obtain ⟨lX, U, sU, hU, bU⟩ := fin_p H.out.1 H.out.2.1 hV gV (Nat.le_refl _) (by omega) (by omega)
    have G : Hid (RvAt U (w.heap.size + 1) 47 (whiP p).cs ∧ Below w.heap.size w U) := by
      show RvAt U _ _ (whiP p).cs ∧ _
      rw [show whiP p = p.setU 69 0 by rw [whiP, E.out, if_neg h1]]
      exact ⟨hU, bU⟩
    clear hp hV gV hU bU
    go_enter Try.func47, Try.ntmps47
    go_wp2_with (with_reducible exact ret_port Try.results47 (by with_unfolding_all rfl) (by with_unfolding_all rfl) G.out.1 ⟨rfl, G.out.2⟩)
end Go.Proofs.Ytlneoegmlcbidaa
