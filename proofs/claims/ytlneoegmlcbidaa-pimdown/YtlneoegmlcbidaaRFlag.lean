/-
  The definition of Flags: its walk, for every port.
-/
import Derived.Test.YtlneoegmlcbidaaRInf
namespace Go.Proofs.Ytlneoegmlcbidaa
set_option linter.unusedVariables false
set_option maxRecDepth 4000
set_option linter.unusedSimpArgs false
open Go.RowKit

theorem setB_same' {ks : List (Option IntKind)} (r : Row ks) {j : Nat} (h : ks[j]? = some none) {b : Bool} (e : r.bt j = b) : r.setB j h b = r := by
  rw [← e, setB_same]
theorem flag_1 (p : Pt) (h : p.nm 48 = 1) : flagP p = (p.setB 18 kb18 (p.bt 18 || p.bt 50)).setB 17 kb17 (p.bt 17 || p.bt 49) := by
  rw [flagP, if_neg (by omega), if_pos h, tcP, ackP, setB_bt p kb18 _ (i := 17) (by decide), setB_bt p kb18 _ (i := 49) (by decide)]
theorem flag_3 (p : Pt) (h : p.nm 48 = 3) : flagP p = p.setB 17 kb17 (p.bt 17 || p.bt 49) := by
  rw [flagP, if_neg (by omega), if_neg (by omega), if_pos h, tcP]
theorem flag_2 (p : Pt) (h : p.nm 48 = 2) : flagP p = p.setB 19 kb19 true := by
  rw [flagP, if_pos h]
theorem flag_0 (p : Pt) (h1 : ¬ p.nm 48 = 1) (h2 : ¬ p.nm 48 = 2) (h3 : ¬ p.nm 48 = 3) : flagP p = p := by
  rw [flagP, if_neg h2, if_neg h1, if_neg h3]
theorem flag_1tt (p : Pt) (h : p.nm 48 = 1) (t : p.bt 49 = true) (a : p.bt 50 = true) : flagP p = (p.setB 17 kb17 true).setB 18 kb18 true := by
  rw [flag_1 p h, t, a, Bool.or_true, Bool.or_true, setB_comm p kb18 kb17 true true (by decide)]
theorem flag_1tf (p : Pt) (h : p.nm 48 = 1) (t : p.bt 49 = true) (a : p.bt 50 = false) : flagP p = p.setB 17 kb17 true := by
  rw [flag_1 p h, t, a, Bool.or_true, Bool.or_false, setB_same]
theorem flag_1ft (p : Pt) (h : p.nm 48 = 1) (t : p.bt 49 = false) (a : p.bt 50 = true) : flagP p = p.setB 18 kb18 true := by
  rw [flag_1 p h, t, a, Bool.or_true, Bool.or_false]
  exact setB_same' _ kb17 (setB_bt p kb18 true (by decide))
theorem flag_1ff (p : Pt) (h : p.nm 48 = 1) (t : p.bt 49 = false) (a : p.bt 50 = false) : flagP p = p := by
  rw [flag_1 p h, t, a, Bool.or_false, Bool.or_false, setB_same, setB_same]
theorem flag_3t (p : Pt) (h : p.nm 48 = 3) (t : p.bt 49 = true) : flagP p = p.setB 17 kb17 true := by
  rw [flag_3 p h, t, Bool.or_true]
theorem flag_3f (p : Pt) (h : p.nm 48 = 3) (t : p.bt 49 = false) : flagP p = p := by
  rw [flag_3 p h, t, Bool.or_false, setB_same]
attribute [local go_sem ↓] ldP stP ldM stM ldTm stTm ldV stV stB stU
attribute [local go_sem ↓] alP alM
attribute [local go_sem] alP_run alM_run
set_option maxHeartbeats 8000000 in
theorem rflag_any (p : Pt) (w : World) :
    Calls Try.prog 49 #[.agg p.cs] w fun r w' => r = .returned (.agg (flagP p).cs) ∧ Below w.heap.size w w' := by
  obtain ⟨W, hW, hp0, r1, bW, zW⟩ := two_p w p
  have l0 := hp0.pmsg
  obtain ⟨X, s0, rX, bX, zX⟩ := var_m W (msg p)
  have hp := hp0.below bX
  have H : Hid (RvAt X (w.heap.size + 1) 47 zeroP.cs ∧ Below w.heap.size w X) := ⟨r1.below bX, below_over bW bX⟩
  obtain ⟨d, hd⟩ : ∃ d, W.heap.size = d := ⟨_, rfl⟩
  have hnd : Hid (d ≠ w.heap.size) := show d ≠ _ by omega
  rw [hd] at rX s0
  clear hp0 r1 bW zW bX zX
  have m0 := rX.num (j := 0) (k := .i64) rfl
  have m1 := rX.bit (j := 1) rfl
  have m2 := rX.bit (j := 2) rfl
  rw [msg_nm p (by decide)] at m0
  rw [msg_bt p (by decide)] at m1 m2
  simp only [Nat.reduceAdd, Nat.add_zero] at m0 m1 m2
  cases t : p.bt 49 <;> cases a : p.bt 50
  · by_cases h1 : p.nm 48 = 1
    · rw [t] at m1
      rw [a] at m2
      rw [h1] at m0
      obtain ⟨lX, U, sU, hU, bU⟩ := fin_p H.out.1 H.out.2 hp (World.grownBy.refl _ _) (Nat.le_refl _) (by omega) (by omega)
      have G : Hid (RvAt U (w.heap.size + 1) 47 (flagP p).cs ∧ Below w.heap.size w U) := by
        show RvAt U _ _ (flagP p).cs ∧ _
        rw [flag_1ff p h1 t a]
        exact ⟨hU, bU⟩
      clear hp rX hU bU h1 t a
      go_enter Try.func49, Try.ntmps49
      go_wp2_with (with_reducible exact ret_port Try.results49 (by with_unfolding_all rfl) (by with_unfolding_all rfl) G.out.1 ⟨rfl, G.out.2⟩)
    · by_cases h3 : p.nm 48 = 3
      · rw [t] at m1
        rw [a] at m2
        rw [h3] at m0
        obtain ⟨lX, U, sU, hU, bU⟩ := fin_p H.out.1 H.out.2 hp (World.grownBy.refl _ _) (Nat.le_refl _) (by omega) (by omega)
        have G : Hid (RvAt U (w.heap.size + 1) 47 (flagP p).cs ∧ Below w.heap.size w U) := by
          show RvAt U _ _ (flagP p).cs ∧ _
          rw [flag_3f p h3 t]
          exact ⟨hU, bU⟩
        clear hp rX hU bU h1 h3 t a
        go_enter Try.func49, Try.ntmps49
        go_wp2_with (with_reducible exact ret_port Try.results49 (by with_unfolding_all rfl) (by with_unfolding_all rfl) G.out.1 ⟨rfl, G.out.2⟩)
      · by_cases h2 : p.nm 48 = 2
        · obtain ⟨V, s1, hV, gV⟩ := hp.setB kb19 true
          rw [t] at m1
          rw [a] at m2
          rw [h2] at m0
          obtain ⟨lX, U, sU, hU, bU⟩ := fin_p H.out.1 H.out.2 hV gV (Nat.le_refl _) (by omega) (by omega)
          have G : Hid (RvAt U (w.heap.size + 1) 47 (flagP p).cs ∧ Below w.heap.size w U) := by
            show RvAt U _ _ (flagP p).cs ∧ _
            rw [flag_2 p h2]
            exact ⟨hU, bU⟩
          clear hp rX hU bU hV gV h1 h2 h3 t a
          go_enter Try.func49, Try.ntmps49
          go_wp2_with (with_reducible exact ret_port Try.results49 (by with_unfolding_all rfl) (by with_unfolding_all rfl) G.out.1 ⟨rfl, G.out.2⟩)
        · obtain ⟨K, hK⟩ : ∃ K, p.nm 48 = K := ⟨_, rfl⟩
          have E : Hid (flagP p = p) := flag_0 p h1 h2 h3
          rw [hK] at m0 h1 h2 h3
          rw [t] at m1
          rw [a] at m2
          have e1 : (K == 1) = false := by simp [h1]
          have e2 : (K == 2) = false := by simp [h2]
          have e3 : (K == 3) = false := by simp [h3]
          obtain ⟨lX, U, sU, hU, bU⟩ := fin_p H.out.1 H.out.2 hp (World.grownBy.refl _ _) (Nat.le_refl _) (by omega) (by omega)
          have G : Hid (RvAt U (w.heap.size + 1) 47 (flagP p).cs ∧ Below w.heap.size w U) := by
            show RvAt U _ _ (flagP p).cs ∧ _
            rw [E.out]
            exact ⟨hU, bU⟩
          clear hp rX hU bU hK t a
          go_enter Try.func49, Try.ntmps49
          go_wp2_with (with_reducible exact ret_port Try.results49 (by with_unfolding_all rfl) (by with_unfolding_all rfl) G.out.1 ⟨rfl, G.out.2⟩)
  · by_cases h1 : p.nm 48 = 1
    · obtain ⟨V, s1, hV, gV⟩ := hp.setB kb18 true
      have n0 := (rX.keptBut gV (by simpa using hnd.out)).num (j := 0) (k := .i64) rfl
      have n1 := (rX.keptBut gV (by simpa using hnd.out)).bit (j := 1) rfl
      have n2 := (rX.keptBut gV (by simpa using hnd.out)).bit (j := 2) rfl
      rw [msg_nm p (by decide)] at n0
      rw [msg_bt p (by decide)] at n1 n2
      simp only [Nat.reduceAdd, Nat.add_zero] at n0 n1 n2
      rw [t] at m1 n1
      rw [a] at m2 n2
      rw [h1] at m0 n0
      obtain ⟨lX, U, sU, hU, bU⟩ := fin_p H.out.1 H.out.2 hV gV (Nat.le_refl _) (by omega) (by omega)
      have G : Hid (RvAt U (w.heap.size + 1) 47 (flagP p).cs ∧ Below w.heap.size w U) := by
        show RvAt U _ _ (flagP p).cs ∧ _
        rw [flag_1ft p h1 t a]
        exact ⟨hU, bU⟩
      clear hp rX hU bU hV gV h1 t a
      go_enter Try.func49, Try.ntmps49
      go_wp2_with (with_reducible exact ret_port Try.results49 (by with_unfolding_all rfl) (by with_unfolding_all rfl) G.out.1 ⟨rfl, G.out.2⟩)
    · by_cases h3 : p.nm 48 = 3
      · rw [t] at m1
        rw [a] at m2
        rw [h3] at m0
        obtain ⟨lX, U, sU, hU, bU⟩ := fin_p H.out.1 H.out.2 hp (World.grownBy.refl _ _) (Nat.le_refl _) (by omega) (by omega)
        have G : Hid (RvAt U (w.heap.size + 1) 47 (flagP p).cs ∧ Below w.heap.size w U) := by
          show RvAt U _ _ (flagP p).cs ∧ _
          rw [flag_3f p h3 t]
          exact ⟨hU, bU⟩
        clear hp rX hU bU h1 h3 t a
        go_enter Try.func49, Try.ntmps49
        go_wp2_with (with_reducible exact ret_port Try.results49 (by with_unfolding_all rfl) (by with_unfolding_all rfl) G.out.1 ⟨rfl, G.out.2⟩)
      · by_cases h2 : p.nm 48 = 2
        · obtain ⟨V, s1, hV, gV⟩ := hp.setB kb19 true
          rw [t] at m1
          rw [a] at m2
          rw [h2] at m0
          obtain ⟨lX, U, sU, hU, bU⟩ := fin_p H.out.1 H.out.2 hV gV (Nat.le_refl _) (by omega) (by omega)
          have G : Hid (RvAt U (w.heap.size + 1) 47 (flagP p).cs ∧ Below w.heap.size w U) := by
            show RvAt U _ _ (flagP p).cs ∧ _
            rw [flag_2 p h2]
            exact ⟨hU, bU⟩
          clear hp rX hU bU hV gV h1 h2 h3 t a
          go_enter Try.func49, Try.ntmps49
          go_wp2_with (with_reducible exact ret_port Try.results49 (by with_unfolding_all rfl) (by with_unfolding_all rfl) G.out.1 ⟨rfl, G.out.2⟩)
        · obtain ⟨K, hK⟩ : ∃ K, p.nm 48 = K := ⟨_, rfl⟩
          have E : Hid (flagP p = p) := flag_0 p h1 h2 h3
          rw [hK] at m0 h1 h2 h3
          rw [t] at m1
          rw [a] at m2
          have e1 : (K == 1) = false := by simp [h1]
          have e2 : (K == 2) = false := by simp [h2]
          have e3 : (K == 3) = false := by simp [h3]
          obtain ⟨lX, U, sU, hU, bU⟩ := fin_p H.out.1 H.out.2 hp (World.grownBy.refl _ _) (Nat.le_refl _) (by omega) (by omega)
          have G : Hid (RvAt U (w.heap.size + 1) 47 (flagP p).cs ∧ Below w.heap.size w U) := by
            show RvAt U _ _ (flagP p).cs ∧ _
            rw [E.out]
            exact ⟨hU, bU⟩
          clear hp rX hU bU hK t a
          go_enter Try.func49, Try.ntmps49
          go_wp2_with (with_reducible exact ret_port Try.results49 (by with_unfolding_all rfl) (by with_unfolding_all rfl) G.out.1 ⟨rfl, G.out.2⟩)
  · by_cases h1 : p.nm 48 = 1
    · obtain ⟨V, s1, hV, gV⟩ := hp.setB kb17 true
      have n0 := (rX.keptBut gV (by simpa using hnd.out)).num (j := 0) (k := .i64) rfl
      have n1 := (rX.keptBut gV (by simpa using hnd.out)).bit (j := 1) rfl
      have n2 := (rX.keptBut gV (by simpa using hnd.out)).bit (j := 2) rfl
      rw [msg_nm p (by decide)] at n0
      rw [msg_bt p (by decide)] at n1 n2
      simp only [Nat.reduceAdd, Nat.add_zero] at n0 n1 n2
      rw [t] at m1 n1
      rw [a] at m2 n2
      rw [h1] at m0 n0
      obtain ⟨lX, U, sU, hU, bU⟩ := fin_p H.out.1 H.out.2 hV gV (Nat.le_refl _) (by omega) (by omega)
      have G : Hid (RvAt U (w.heap.size + 1) 47 (flagP p).cs ∧ Below w.heap.size w U) := by
        show RvAt U _ _ (flagP p).cs ∧ _
        rw [flag_1tf p h1 t a]
        exact ⟨hU, bU⟩
      clear hp rX hU bU hV gV h1 t a
      go_enter Try.func49, Try.ntmps49
      go_wp2_with (with_reducible exact ret_port Try.results49 (by with_unfolding_all rfl) (by with_unfolding_all rfl) G.out.1 ⟨rfl, G.out.2⟩)
    · by_cases h3 : p.nm 48 = 3
      · obtain ⟨V, s1, hV, gV⟩ := hp.setB kb17 true
        have n0 := (rX.keptBut gV (by simpa using hnd.out)).num (j := 0) (k := .i64) rfl
        have n1 := (rX.keptBut gV (by simpa using hnd.out)).bit (j := 1) rfl
        have n2 := (rX.keptBut gV (by simpa using hnd.out)).bit (j := 2) rfl
        rw [msg_nm p (by decide)] at n0
        rw [msg_bt p (by decide)] at n1 n2
        simp only [Nat.reduceAdd, Nat.add_zero] at n0 n1 n2
        rw [t] at m1 n1
        rw [a] at m2 n2
        rw [h3] at m0 n0
        obtain ⟨lX, U, sU, hU, bU⟩ := fin_p H.out.1 H.out.2 hV gV (Nat.le_refl _) (by omega) (by omega)
        have G : Hid (RvAt U (w.heap.size + 1) 47 (flagP p).cs ∧ Below w.heap.size w U) := by
          show RvAt U _ _ (flagP p).cs ∧ _
          rw [flag_3t p h3 t]
          exact ⟨hU, bU⟩
        clear hp rX hU bU hV gV h1 h3 t a
        go_enter Try.func49, Try.ntmps49
        go_wp2_with (with_reducible exact ret_port Try.results49 (by with_unfolding_all rfl) (by with_unfolding_all rfl) G.out.1 ⟨rfl, G.out.2⟩)
      · by_cases h2 : p.nm 48 = 2
        · obtain ⟨V, s1, hV, gV⟩ := hp.setB kb19 true
          rw [t] at m1
          rw [a] at m2
          rw [h2] at m0
          obtain ⟨lX, U, sU, hU, bU⟩ := fin_p H.out.1 H.out.2 hV gV (Nat.le_refl _) (by omega) (by omega)
          have G : Hid (RvAt U (w.heap.size + 1) 47 (flagP p).cs ∧ Below w.heap.size w U) := by
            show RvAt U _ _ (flagP p).cs ∧ _
            rw [flag_2 p h2]
            exact ⟨hU, bU⟩
          clear hp rX hU bU hV gV h1 h2 h3 t a
          go_enter Try.func49, Try.ntmps49
          go_wp2_with (with_reducible exact ret_port Try.results49 (by with_unfolding_all rfl) (by with_unfolding_all rfl) G.out.1 ⟨rfl, G.out.2⟩)
        · obtain ⟨K, hK⟩ : ∃ K, p.nm 48 = K := ⟨_, rfl⟩
          have E : Hid (flagP p = p) := flag_0 p h1 h2 h3
          rw [hK] at m0 h1 h2 h3
          rw [t] at m1
          rw [a] at m2
          have e1 : (K == 1) = false := by simp [h1]
          have e2 : (K == 2) = false := by simp [h2]
          have e3 : (K == 3) = false := by simp [h3]
          obtain ⟨lX, U, sU, hU, bU⟩ := fin_p H.out.1 H.out.2 hp (World.grownBy.refl _ _) (Nat.le_refl _) (by omega) (by omega)
          have G : Hid (RvAt U (w.heap.size + 1) 47 (flagP p).cs ∧ Below w.heap.size w U) := by
            show RvAt U _ _ (flagP p).cs ∧ _
            rw [E.out]
            exact ⟨hU, bU⟩
          clear hp rX hU bU hK t a
          go_enter Try.func49, Try.ntmps49
          go_wp2_with (with_reducible exact ret_port Try.results49 (by with_unfolding_all rfl) (by with_unfolding_all rfl) G.out.1 ⟨rfl, G.out.2⟩)
  · by_cases h1 : p.nm 48 = 1
    · obtain ⟨V, s1, hV, gV⟩ := hp.setB kb17 true
      have n0 := (rX.keptBut gV (by simpa using hnd.out)).num (j := 0) (k := .i64) rfl
      have n1 := (rX.keptBut gV (by simpa using hnd.out)).bit (j := 1) rfl
      have n2 := (rX.keptBut gV (by simpa using hnd.out)).bit (j := 2) rfl
      rw [msg_nm p (by decide)] at n0
      rw [msg_bt p (by decide)] at n1 n2
      simp only [Nat.reduceAdd, Nat.add_zero] at n0 n1 n2
      rw [t] at m1 n1
      rw [a] at m2 n2
      rw [h1] at m0 n0
      obtain ⟨Z, s2, hZ, gZ⟩ := hV.setB kb18 true
      have k0 := ((rX.keptBut gV (by simpa using hnd.out)).keptBut gZ (by simpa using hnd.out)).num (j := 0) (k := .i64) rfl
      have k1 := ((rX.keptBut gV (by simpa using hnd.out)).keptBut gZ (by simpa using hnd.out)).bit (j := 1) rfl
      have k2 := ((rX.keptBut gV (by simpa using hnd.out)).keptBut gZ (by simpa using hnd.out)).bit (j := 2) rfl
      rw [msg_nm p (by decide)] at k0
      rw [msg_bt p (by decide)] at k1 k2
      simp only [Nat.reduceAdd, Nat.add_zero] at k0 k1 k2
      rw [h1] at k0
      obtain ⟨lX, U, sU, hU, bU⟩ := fin_p H.out.1 H.out.2 hZ (grown_self gV gZ) (Nat.le_refl _) (by omega) (by omega)
      have G : Hid (RvAt U (w.heap.size + 1) 47 (flagP p).cs ∧ Below w.heap.size w U) := by
        show RvAt U _ _ (flagP p).cs ∧ _
        rw [flag_1tt p h1 t a]
        exact ⟨hU, bU⟩
      clear hp rX hU bU hV gV hZ gZ h1 t a k1 k2
      go_enter Try.func49, Try.ntmps49
      go_wp2_with (with_reducible exact ret_port Try.results49 (by with_unfolding_all rfl) (by with_unfolding_all rfl) G.out.1 ⟨rfl, G.out.2⟩)
    · by_cases h3 : p.nm 48 = 3
      · obtain ⟨V, s1, hV, gV⟩ := hp.setB kb17 true
        have n0 := (rX.keptBut gV (by simpa using hnd.out)).num (j := 0) (k := .i64) rfl
        have n1 := (rX.keptBut gV (by simpa using hnd.out)).bit (j := 1) rfl
        have n2 := (rX.keptBut gV (by simpa using hnd.out)).bit (j := 2) rfl
        rw [msg_nm p (by decide)] at n0
        rw [msg_bt p (by decide)] at n1 n2
        simp only [Nat.reduceAdd, Nat.add_zero] at n0 n1 n2
        rw [t] at m1 n1
        rw [a] at m2 n2
        rw [h3] at m0 n0
        obtain ⟨lX, U, sU, hU, bU⟩ := fin_p H.out.1 H.out.2 hV gV (Nat.le_refl _) (by omega) (by omega)
        have G : Hid (RvAt U (w.heap.size + 1) 47 (flagP p).cs ∧ Below w.heap.size w U) := by
          show RvAt U _ _ (flagP p).cs ∧ _
          rw [flag_3t p h3 t]
          exact ⟨hU, bU⟩
        clear hp rX hU bU hV gV h1 h3 t a
        go_enter Try.func49, Try.ntmps49
        go_wp2_with (with_reducible exact ret_port Try.results49 (by with_unfolding_all rfl) (by with_unfolding_all rfl) G.out.1 ⟨rfl, G.out.2⟩)
      · by_cases h2 : p.nm 48 = 2
        · obtain ⟨V, s1, hV, gV⟩ := hp.setB kb19 true
          rw [t] at m1
          rw [a] at m2
          rw [h2] at m0
          obtain ⟨lX, U, sU, hU, bU⟩ := fin_p H.out.1 H.out.2 hV gV (Nat.le_refl _) (by omega) (by omega)
          have G : Hid (RvAt U (w.heap.size + 1) 47 (flagP p).cs ∧ Below w.heap.size w U) := by
            show RvAt U _ _ (flagP p).cs ∧ _
            rw [flag_2 p h2]
            exact ⟨hU, bU⟩
          clear hp rX hU bU hV gV h1 h2 h3 t a
          go_enter Try.func49, Try.ntmps49
          go_wp2_with (with_reducible exact ret_port Try.results49 (by with_unfolding_all rfl) (by with_unfolding_all rfl) G.out.1 ⟨rfl, G.out.2⟩)
        · obtain ⟨K, hK⟩ : ∃ K, p.nm 48 = K := ⟨_, rfl⟩
          have E : Hid (flagP p = p) := flag_0 p h1 h2 h3
          rw [hK] at m0 h1 h2 h3
          rw [t] at m1
          rw [a] at m2
          have e1 : (K == 1) = false := by simp [h1]
          have e2 : (K == 2) = false := by simp [h2]
          have e3 : (K == 3) = false := by simp [h3]
          obtain ⟨lX, U, sU, hU, bU⟩ := fin_p H.out.1 H.out.2 hp (World.grownBy.refl _ _) (Nat.le_refl _) (by omega) (by omega)
          have G : Hid (RvAt U (w.heap.size + 1) 47 (flagP p).cs ∧ Below w.heap.size w U) := by
            show RvAt U _ _ (flagP p).cs ∧ _
            rw [E.out]
            exact ⟨hU, bU⟩
          clear hp rX hU bU hK t a
          go_enter Try.func49, Try.ntmps49
          go_wp2_with (with_reducible exact ret_port Try.results49 (by with_unfolding_all rfl) (by with_unfolding_all rfl) G.out.1 ⟨rfl, G.out.2⟩)
end Go.Proofs.Ytlneoegmlcbidaa
