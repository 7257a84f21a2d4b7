/-
  What messages do to ports: the changes, each a closure that is handed a port's variable: their walks.
-/
import Derived.Test.YtlneoegmlcbidaaPt
namespace Go.Proofs.Ytlneoegmlcbidaa
set_option linter.unusedVariables false
set_option maxRecDepth 4000
set_option linter.unusedSimpArgs false
open Go.RowKit

/-- A port to which a message came. -/
def gotP (p : Pt) (m : Mg) (j : Nat) (h : kdP[j]? = some none) : Pt := ((p.setB j h true).put 48 m kq48 kl48).setB 14 kb14 true
def takeP (p : Pt) (m : Mg) : Pt :=
  if p.bt 2 = true then (if m.nm 0 = 3 then gotP p m 15 kb15 else if m.nm 0 = 1 ∨ m.nm 0 = 2 then gotP p m 16 kb16 else p) else p
def propB (p : Pt) : Bool := decide (p.nm 48 = 3) && (decide (p.nm 55 = 4) && p.bt 51)
def propP (p : Pt) : Pt := if propB p = true then p.setB 12 kb12 true else p
def agrB (p : Pt) : Bool := decide (p.nm 48 = 3) && p.bt 54
def agrP (p : Pt) : Pt := if agrB p = true then (p.setB 4 kb4 true).setB 13 kb13 false else p.setB 4 kb4 false
def dispB (p : Pt) : Bool := decide (p.nm 48 = 3) && p.bt 52
def dispP (p : Pt) : Pt := if dispB p = true then (p.setB 5 kb5 true).setB 4 kb4 false else p
def tcP (p : Pt) : Pt := p.setB 17 kb17 (p.bt 17 || p.bt 49)
def ackP (p : Pt) : Pt := p.setB 18 kb18 (p.bt 18 || p.bt 50)
def flagP (p : Pt) : Pt := if p.nm 48 = 2 then p.setB 19 kb19 true else if p.nm 48 = 1 then tcP (ackP p) else if p.nm 48 = 3 then tcP p else p
def prioP (p : Pt) : Pt := p.put 36 (mV p) kq36 kl36
def timQ (p : Pt) : Pt := p.put 44 (mT p) kq44 kl44
def timP (p : Pt) : Pt := if p.nm 62 = 0 then (timQ p).setU 46 1 else timQ p
def whiN (p : Pt) : Int := if p.nm 44 + 1 ≤ p.nm 45 then (if 3 * p.nm 46 ≤ 255 then 3 * p.nm 46 else 255) else 0
def whiP (p : Pt) : Pt := p.setU 69 (whiN p)
theorem bt_of {ks ks' : List (Option IntKind)} {r : Row ks} {q : Row ks'} {i j : Nat} (h : r.cl[i]? = q.cl[j]?) : r.bt i = q.bt j := by unfold Row.bt; rw [h]
theorem nm_of {ks ks' : List (Option IntKind)} {r : Row ks} {q : Row ks'} {i j : Nat} (h : r.cl[i]? = q.cl[j]?) : r.nm i = q.nm j := by unfold Row.nm; rw [h]
theorem setB_bt {ks : List (Option IntKind)} (r : Row ks) {i j : Nat} (h : ks[j]? = some none) (b : Bool) (hn : i ≠ j) : (r.setB j h b).bt i = r.bt i := bt_of (by rw [r.setB_get, if_neg hn])
theorem setB_nm {ks : List (Option IntKind)} (r : Row ks) {i j : Nat} (h : ks[j]? = some none) (b : Bool) (hn : i ≠ j) : (r.setB j h b).nm i = r.nm i := nm_of (by rw [r.setB_get, if_neg hn])
theorem setB_at {ks : List (Option IntKind)} (r : Row ks) {j : Nat} (h : ks[j]? = some none) (b : Bool) : (r.setB j h b).bt j = b := r.bset _ (List.getElem?_eq_some_iff.1 h).1
theorem put_nm {ks ks' : List (Option IntKind)} (r : Row ks) (o : Nat) (s : Row ks') (h : (ks.drop o).take ks'.length = ks') (hl : o + ks'.length ≤ ks.length) {i : Nat} (hi : i < o ∨ o + ks'.length ≤ i) : (r.put o s h hl).nm i = r.nm i := nm_of (by rw [r.put_get, if_neg (by omega)])
theorem put_bt {ks ks' : List (Option IntKind)} (r : Row ks) (o : Nat) (s : Row ks') (h : (ks.drop o).take ks'.length = ks') (hl : o + ks'.length ≤ ks.length) {i : Nat} (hi : i < o ∨ o + ks'.length ≤ i) : (r.put o s h hl).bt i = r.bt i := bt_of (by rw [r.put_get, if_neg (by omega)])
theorem put_in {ks ks' : List (Option IntKind)} (r : Row ks) (o : Nat) (s : Row ks') (h : (ks.drop o).take ks'.length = ks') (hl : o + ks'.length ≤ ks.length) {i : Nat} (hi : i < ks'.length) : (r.put o s h hl).nm (o + i) = s.nm i := nm_of (by rw [r.put_get, if_pos (by omega), Nat.add_sub_cancel_left])
theorem timQ_46 (p : Pt) : (timQ p).nm 46 = p.nm 62 := by
  have := put_in p 44 (mT p) kq44 kl44 (i := 2) (by decide)
  rw [show timQ p = p.put 44 (mT p) kq44 kl44 from rfl, this]
  exact p.nm_sub 60 4 2 (by decide)
/-- What 'changed' asks of a change. -/
def Chg (F : Nat) (f : Pt → Pt) : Prop := ∀ (W : World) (b : Nat) (p : Pt), RvAt W b 47 p.cs →
  Calls Try.prog F #[.pointer (some ⟨b, 0, none⟩)] W fun r W' => r = .returned (.tuple #[]) ∧ RvAt W' b 47 (f p).cs ∧ W.grownBy W' (some b)
attribute [local go_sem ↓] ldP stP ldM stM ldTm stTm ldV stV stB stU
set_option maxHeartbeats 1000000 in
theorem chg_prop : Chg 82 propP := by
  intro W b p hp
  have c48 := hp.num (j := 48) (k := .i64) rfl
  have c55 := hp.num (j := 55) (k := .i64) rfl
  have c51 := hp.bit (j := 51) rfl
  obtain ⟨V, s, hV, gV⟩ := hp.setB kb12 true
  by_cases h1 : p.nm 48 = 3
  · by_cases h2 : p.nm 55 = 4
    · cases h3 : p.bt 51
      · have F : Hid (RvAt W b 47 (propP p).cs) := by
          show RvAt W b _ (propP p).cs
          rw [show propP p = p by simp [propP, propB, h3]]
          exact hp
        rw [h1] at c48; rw [h2] at c55; rw [h3] at c51
        clear hp hV gV s h1 h2 h3
        go_enter Try.func82, Try.ntmps82
        go_wp2
        go_end0
        exact ⟨rfl, F.out, World.grownBy.refl _ _⟩
      · have F : Hid (RvAt V b 47 (propP p).cs ∧ W.grownBy V (some b)) := by
          show RvAt V b _ (propP p).cs ∧ _
          rw [show propP p = p.setB 12 kb12 true by simp [propP, propB, h1, h2, h3]]
          exact ⟨hV, gV⟩
        rw [h1] at c48; rw [h2] at c55; rw [h3] at c51
        clear hp hV gV h1 h2 h3
        go_enter Try.func82, Try.ntmps82
        go_wp2
        go_end0
        exact ⟨rfl, F.out⟩
    · have F : Hid (RvAt W b 47 (propP p).cs) := by
        show RvAt W b _ (propP p).cs
        rw [show propP p = p by simp [propP, propB, h2]]
        exact hp
      rw [h1] at c48
      clear hp hV gV s h1
      go_enter Try.func82, Try.ntmps82
      go_wp2
      go_end0
      exact ⟨rfl, F.out, World.grownBy.refl _ _⟩
  · have F : Hid (RvAt W b 47 (propP p).cs) := by
      show RvAt W b _ (propP p).cs
      rw [show propP p = p by simp [propP, propB, h1]]
      exact hp
    clear hp hV gV s
    go_enter Try.func82, Try.ntmps82
    go_wp2
    go_end0
    exact ⟨rfl, F.out, World.grownBy.refl _ _⟩
set_option maxHeartbeats 1000000 in
theorem chg_agr : Chg 84 agrP := by
  intro W b p hp
  have c48 := hp.num (j := 48) (k := .i64) rfl
  have c54 := hp.bit (j := 54) rfl
  by_cases h1 : p.nm 48 = 3
  · rw [h1] at c48
    cases h2 : p.bt 54
    · rw [h2] at c54
      obtain ⟨V, s, hV, gV⟩ := hp.setB kb4 false
      have d4 := hV.bit (j := 4) rfl
      rw [setB_at] at d4
      have F : Hid (RvAt V b 47 (agrP p).cs ∧ W.grownBy V (some b)) := by
        show RvAt V b _ (agrP p).cs ∧ _
        rw [show agrP p = p.setB 4 kb4 false by simp [agrP, agrB, h2]]
        exact ⟨hV, gV⟩
      clear hp hV gV h1 h2
      go_enter Try.func84, Try.ntmps84
      go_wp2
      go_end0
      exact ⟨rfl, F.out⟩
    · rw [h2] at c54
      obtain ⟨V, s, hV, gV⟩ := hp.setB kb4 true
      have d4 := hV.bit (j := 4) rfl
      rw [setB_at] at d4
      obtain ⟨U, s2, hU, gU⟩ := hV.setB kb13 false
      have F : Hid (RvAt U b 47 (agrP p).cs ∧ W.grownBy U (some b)) := by
        show RvAt U b _ (agrP p).cs ∧ _
        rw [show agrP p = (p.setB 4 kb4 true).setB 13 kb13 false by simp [agrP, agrB, h1, h2]]
        exact ⟨hU, grown_self gV gU⟩
      clear hp hV gV hU gU h1 h2
      go_enter Try.func84, Try.ntmps84
      go_wp2
      go_end0
      exact ⟨rfl, F.out⟩
  · obtain ⟨V, s, hV, gV⟩ := hp.setB kb4 false
    have d4 := hV.bit (j := 4) rfl
    rw [setB_at] at d4
    have F : Hid (RvAt V b 47 (agrP p).cs ∧ W.grownBy V (some b)) := by
      show RvAt V b _ (agrP p).cs ∧ _
      rw [show agrP p = p.setB 4 kb4 false by simp [agrP, agrB, h1]]
      exact ⟨hV, gV⟩
    clear hp hV gV
    go_enter Try.func84, Try.ntmps84
    go_wp2
    go_end0
    exact ⟨rfl, F.out⟩
set_option maxHeartbeats 1000000 in
theorem chg_disp : Chg 86 dispP := by
  intro W b p hp
  have c48 := hp.num (j := 48) (k := .i64) rfl
  have c52 := hp.bit (j := 52) rfl
  by_cases h1 : p.nm 48 = 3
  · rw [h1] at c48
    cases h2 : p.bt 52
    · rw [h2] at c52
      have F : Hid (RvAt W b 47 (dispP p).cs ∧ W.grownBy W (some b)) := by
        show RvAt W b _ (dispP p).cs ∧ _
        rw [show dispP p = p by simp [dispP, dispB, h2]]
        exact ⟨hp, World.grownBy.refl _ _⟩
      clear hp h1 h2
      go_enter Try.func86, Try.ntmps86
      go_wp2
      go_end0
      exact ⟨rfl, F.out⟩
    · rw [h2] at c52
      obtain ⟨V, s, hV, gV⟩ := hp.setB kb5 true
      obtain ⟨U, s2, hU, gU⟩ := hV.setB kb4 false
      have F : Hid (RvAt U b 47 (dispP p).cs ∧ W.grownBy U (some b)) := by
        show RvAt U b _ (dispP p).cs ∧ _
        rw [show dispP p = (p.setB 5 kb5 true).setB 4 kb4 false by simp [dispP, dispB, h1, h2]]
        exact ⟨hU, grown_self gV gU⟩
      clear hp hV gV hU gU h1 h2
      go_enter Try.func86, Try.ntmps86
      go_wp2
      go_end0
      exact ⟨rfl, F.out⟩
  · skip
    have F : Hid (RvAt W b 47 (dispP p).cs ∧ W.grownBy W (some b)) := by
      show RvAt W b _ (dispP p).cs ∧ _
      rw [show dispP p = p by simp [dispP, dispB, h1]]
      exact ⟨hp, World.grownBy.refl _ _⟩
    clear hp
    go_enter Try.func86, Try.ntmps86
    go_wp2
    go_end0
    exact ⟨rfl, F.out⟩
set_option maxHeartbeats 2000000 in
theorem chg_flag : Chg 83 flagP := by
  intro W b p hp
  have c48 := hp.num (j := 48) (k := .i64) rfl
  have c49 := hp.bit (j := 49) rfl
  have c50 := hp.bit (j := 50) rfl
  have c17 := hp.bit (j := 17) rfl
  have c18 := hp.bit (j := 18) rfl
  by_cases h1 : p.nm 48 = 2
  · rw [h1] at c48
    obtain ⟨V, s, hV, gV⟩ := hp.setB kb19 true
    have F : Hid (RvAt V b 47 (flagP p).cs ∧ W.grownBy V (some b)) := by
      show RvAt V b _ (flagP p).cs ∧ _
      rw [show flagP p = p.setB 19 kb19 true by simp [flagP, h1]]
      exact ⟨hV, gV⟩
    clear hp hV gV h1 c49 c50 c17 c18
    go_enter Try.func83, Try.ntmps83
    go_wp2
    go_end0
    exact ⟨rfl, F.out⟩
  · by_cases h2 : p.nm 48 = 1
    · rw [h2] at c48
      obtain ⟨x, hx⟩ : ∃ x, (p.bt 18 || p.bt 50) = x := ⟨_, rfl⟩
      obtain ⟨y, hy⟩ : ∃ y, (p.bt 17 || p.bt 49) = y := ⟨_, rfl⟩
      obtain ⟨V, s, hV, gV⟩ := hp.setB kb18 x
      have d17 := hV.bit (j := 17) rfl
      have d49 := hV.bit (j := 49) rfl
      rw [setB_bt p kb18 x (i := 17) (by decide)] at d17
      rw [setB_bt p kb18 x (i := 49) (by decide)] at d49
      obtain ⟨U, s2, hU, gU⟩ := hV.setB kb17 y
      have F : Hid (RvAt U b 47 (flagP p).cs ∧ W.grownBy U (some b)) := by
        show RvAt U b _ (flagP p).cs ∧ _
        rw [show flagP p = (p.setB 18 kb18 x).setB 17 kb17 y by rw [flagP, if_neg h1, if_pos h2, tcP, ackP, setB_bt p kb18 _ (i := 17) (by decide), setB_bt p kb18 _ (i := 49) (by decide), hx, hy]]
        exact ⟨hU, grown_self gV gU⟩
      clear hp hV gV hU gU h1 h2
      cases k18 : p.bt 18 <;> cases k17 : p.bt 17
      all_goals
        rw [k18] at hx c18
        rw [k17] at hy c17 d17
        simp only [Bool.false_or, Bool.true_or] at hx hy
        subst hx hy
        clear k17 k18
        go_enter Try.func83, Try.ntmps83
        go_wp2
        go_end0
        exact ⟨rfl, F.out⟩
    · by_cases h3 : p.nm 48 = 3
      · rw [h3] at c48
        obtain ⟨y, hy⟩ : ∃ y, (p.bt 17 || p.bt 49) = y := ⟨_, rfl⟩
        obtain ⟨U, s2, hU, gU⟩ := hp.setB kb17 y
        have F : Hid (RvAt U b 47 (flagP p).cs ∧ W.grownBy U (some b)) := by
          show RvAt U b _ (flagP p).cs ∧ _
          rw [show flagP p = p.setB 17 kb17 y by rw [flagP, if_neg h1, if_neg h2, if_pos h3, tcP, hy]]
          exact ⟨hU, gU⟩
        clear hp hU gU h1 h2 h3
        cases k17 : p.bt 17
        all_goals
          rw [k17] at hy c17
          simp only [Bool.false_or, Bool.true_or] at hy
          subst hy
          clear k17
          go_enter Try.func83, Try.ntmps83
          go_wp2
          go_end0
          exact ⟨rfl, F.out⟩
      · skip
        have F : Hid (RvAt W b 47 (flagP p).cs ∧ W.grownBy W (some b)) := by
          show RvAt W b _ (flagP p).cs ∧ _
          rw [show flagP p = p by rw [flagP, if_neg h1, if_neg h2, if_neg h3]]
          exact ⟨hp, World.grownBy.refl _ _⟩
        clear hp c49 c50 c17 c18
        go_enter Try.func83, Try.ntmps83
        go_wp2
        go_end0
        exact ⟨rfl, F.out⟩
set_option maxHeartbeats 1000000 in
theorem chg_prio : Chg 90 prioP := by
  intro W b p hp
  have lv := hp.pmV
  obtain ⟨V, s, hV, gV⟩ := hp.putV (mV p)
  have F : Hid (RvAt V b 47 (prioP p).cs ∧ W.grownBy V (some b)) := ⟨hV, gV⟩
  clear hp hV gV
  go_enter Try.func90, Try.ntmps90
  go_wp2
  go_end0
  exact ⟨rfl, F.out⟩
set_option maxHeartbeats 1000000 in
theorem chg_tim : Chg 91 timP := by
  intro W b p hp
  have lt := hp.pmT
  obtain ⟨V, s, hV0, gV⟩ := hp.putT (mT p)
  have hV : RvAt V b 47 (timQ p).cs := hV0
  have d46 := hV.num (j := 46) (k := .u8) rfl
  rw [timQ_46] at d46
  clear hV0
  by_cases h1 : p.nm 62 = 0
  · rw [h1] at d46
    obtain ⟨U, s2, hU, gU⟩ := hV.setU (j := 46) rfl (n := 1) (by omega)
    have F : Hid (RvAt U b 47 (timP p).cs ∧ W.grownBy U (some b)) := by
      show RvAt U b _ (timP p).cs ∧ _
      rw [show timP p = (timQ p).setU 46 1 by rw [timP, if_pos h1]]
      exact ⟨hU, grown_self gV gU⟩
    clear hp hV gV hU gU h1
    go_enter Try.func91, Try.ntmps91
    go_wp2
    go_end0
    exact ⟨rfl, F.out⟩
  · skip
    have F : Hid (RvAt V b 47 (timP p).cs ∧ W.grownBy V (some b)) := by
      show RvAt V b _ (timP p).cs ∧ _
      rw [show timP p = timQ p by rw [timP, if_neg h1]]
      exact ⟨hV, gV⟩
    clear hp hV gV
    go_enter Try.func91, Try.ntmps91
    go_wp2
    go_end0
    exact ⟨rfl, F.out⟩
end Go.Proofs.Ytlneoegmlcbidaa
