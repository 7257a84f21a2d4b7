/-
  For how long what came counts; a message that comes: the walks of these two changes; 'changed' and the functions that hand it a change.
-/
import Derived.Test.YtlneoegmlcbidaaClos
import Derived.Test.YtlneoegmlcbidaaTail
namespace Go.Proofs.Ytlneoegmlcbidaa
set_option linter.unusedVariables false
set_option maxRecDepth 4000
set_option linter.unusedSimpArgs false
open Go.RowKit

theorem ku69 : kdP[69]? = some (some .u8) := rfl
theorem setU_nm {ks : List (Option IntKind)} (r : Row ks) {i j : Nat} {n : Int} (h : ks[j]? = some (some .u8)) (hn : 0 ≤ n ∧ n ≤ 255) (hi : i ≠ j) : (r.setU j n).nm i = r.nm i := nm_of (by rw [r.setU_get h (wf8 hn), if_neg hi])
theorem setU_two (p : Pt) {n : Int} (hn : 0 ≤ n ∧ n ≤ 255) : (p.setU 69 0).setU 69 n = p.setU 69 n := by
  refine Row.same fun i _ => ?_
  rw [Row.setU_get _ ku69 (wf8 hn), Row.setU_get _ ku69 (wf8 hn), Row.setU_get _ ku69 (wf8 (by omega))]
  split <;> rfl
attribute [local go_sem ↓] ldP stP ldM stM ldTm stTm ldV stV stB stU
set_option maxHeartbeats 2000000 in
theorem chg_whi : Chg 85 whiP := by
  intro W b p hp
  have u44 := p.u8 (j := 44) rfl
  have u45 := p.u8 (j := 45) rfl
  have u46 := p.u8 (j := 46) rfl
  obtain ⟨V, s, hV, gV⟩ := hp.setU ku69 (n := 0) (by omega)
  have d44 := fun q : Later V => (hV.below q.below).num (j := 44) (k := .u8) rfl
  have d45 := fun q : Later V => (hV.below q.below).num (j := 45) (k := .u8) rfl
  simp only [setU_nm p ku69 (n := 0) (by omega) (i := 44) (by decide), setU_nm p ku69 (n := 0) (by omega) (i := 45) (by decide)] at d44 d45
  have G : Hid (RvAt V b 47 (p.setU 69 0).cs ∧ W.grownBy V (some b)) := ⟨hV, gV⟩
  obtain ⟨A, hA⟩ : ∃ A, p.nm 44 = A := ⟨_, rfl⟩
  obtain ⟨M, hM⟩ : ∃ M, p.nm 45 = M := ⟨_, rfl⟩
  obtain ⟨H, hH⟩ : ∃ H, p.nm 46 = H := ⟨_, rfl⟩
  have E : Hid (whiN p = if A + 1 ≤ M then (if 3 * H ≤ 255 then 3 * H else 255) else 0) := show whiN p = _ by rw [whiN, hA, hM, hH]
  simp only [hA, hM] at d44 d45
  rw [hA] at u44; rw [hM] at u45; rw [hH] at u46
  have K : Hid (p.nm 46 = H) := hH
  clear hp hV gV hA hM hH
  go_enter Try.func85, Try.ntmps85
  go_wp2_with fail
  refine wp_region_later (by kernel_rfl) (by kernel_rfl) ?_
  repeat (go_big_quiet_step (first | exact rfl))
  refine wpQuiet_nil ?_
  intro _ hw'
  obtain ⟨x, rfl⟩ := hw'
  have hx := G.out.1.below x.below
  have gx : W.grownBy x.val (some b) := grown_self G.out.2 (grown_of_below x.below _)
  by_cases h1 : A + 1 ≤ M
  · have e46 := hx.num (j := 46) (k := .u8) rfl
    rw [setU_nm p ku69 (n := 0) (by omega) (i := 46) (by decide), K.out] at e46
    by_cases h2 : 3 * H ≤ 255
    · obtain ⟨U, s2, hU, gU⟩ := hx.setU ku69 (n := 3 * H) (by omega)
      have F : Hid (RvAt U b 47 (whiP p).cs ∧ W.grownBy U (some b)) := by
        show RvAt U b _ (whiP p).cs ∧ _
        rw [whiP, E.out, if_pos h1, if_pos h2, ← setU_two p (by omega)]
        exact ⟨hU, grown_self gx gU⟩
      clear hx gx hU gU d44 d45 s
      go_wp2
      go_end0
      exact ⟨rfl, F.out⟩
    · obtain ⟨U, s2, hU, gU⟩ := hx.setU ku69 (n := 255) (by omega)
      have F : Hid (RvAt U b 47 (whiP p).cs ∧ W.grownBy U (some b)) := by
        show RvAt U b _ (whiP p).cs ∧ _
        rw [whiP, E.out, if_pos h1, if_neg h2, ← setU_two p (by omega)]
        exact ⟨hU, grown_self gx gU⟩
      clear hx gx hU gU d44 d45 s
      go_wp2
      go_end0
      exact ⟨rfl, F.out⟩
  · have F : Hid (RvAt x.val b 47 (whiP p).cs ∧ W.grownBy x.val (some b)) := by
      show RvAt x.val b _ (whiP p).cs ∧ _
      rw [whiP, E.out, if_neg h1]
      exact ⟨hx, gx⟩
    clear hx gx d44 d45 s
    go_wp2
    go_end0
    exact ⟨rfl, F.out⟩
theorem RvAt.apart {W : World} {b d : Nat} {ty ty' : TypeId} {cs ds : Array Value} (h : RvAt W b ty cs) (k : RvAt W d ty' ds) (hn : ty ≠ ty') : b ≠ d := by
  rintro rfl
  have := h.symm.trans k
  simp only [Option.some.injEq, Obj.cells.injEq] at this
  exact hn this.2.1
set_option maxHeartbeats 2000000 in
theorem chg_take (W : World) (b d : Nat) (p : Pt) (m : Mg) (hp : RvAt W b 47 p.cs) (hm : RvAt W d 35 m.cs) :
    Calls Try.prog 38 #[.pointer (some ⟨b, 0, none⟩), .pointer (some ⟨d, 0, none⟩)] W fun r W' => r = .returned (.tuple #[]) ∧ RvAt W' b 47 (takeP p m).cs ∧ W.grownBy W' (some b) := by
  have hne := hp.apart hm (by decide)
  have c2 := hp.bit (j := 2) rfl
  have m0 := hm.num (j := 0) (k := .i64) rfl
  cases h0 : p.bt 2
  · have F : Hid (RvAt W b 47 (takeP p m).cs ∧ W.grownBy W (some b)) := by
      show RvAt W b _ (takeP p m).cs ∧ _
      rw [show takeP p m = p by simp [takeP, h0]]
      exact ⟨hp, World.grownBy.refl _ _⟩
    rw [h0] at c2
    clear hp hm hne h0
    go_enter Try.func38, Try.ntmps38
    go_wp2
    go_returns
    exact ⟨rfl, F.out⟩
  · rw [h0] at c2
    by_cases h3 : m.nm 0 = 3
    · rw [h3] at m0
      obtain ⟨V, s, hV, gV⟩ := hp.setB kb15 true
      have mV := hm.keptBut gV (by simpa using hne.symm)
      have lm := mV.mld
      obtain ⟨U, s2, hU, gU⟩ := hV.putM m
      obtain ⟨Z, s3, hZ, gZ⟩ := hU.setB kb14 true
      have F : Hid (RvAt Z b 47 (takeP p m).cs ∧ W.grownBy Z (some b)) := by
        show RvAt Z b _ (takeP p m).cs ∧ _
        rw [show takeP p m = gotP p m 15 kb15 by simp [takeP, h0, h3]]
        exact ⟨hZ, grown_self (grown_self gV gU) gZ⟩
      clear hp hm hne h0 h3 hV gV mV hU gU hZ gZ
      go_enter Try.func38, Try.ntmps38
      go_wp2
      go_end0
      exact ⟨rfl, F.out⟩
    · by_cases h12 : m.nm 0 = 1 ∨ m.nm 0 = 2
      · obtain ⟨V, s, hV, gV⟩ := hp.setB kb16 true
        have mV := hm.keptBut gV (by simpa using hne.symm)
        have lm := mV.mld
        obtain ⟨U, s2, hU, gU⟩ := hV.putM m
        obtain ⟨Z, s3, hZ, gZ⟩ := hU.setB kb14 true
        have F : Hid (RvAt Z b 47 (takeP p m).cs ∧ W.grownBy Z (some b)) := by
          show RvAt Z b _ (takeP p m).cs ∧ _
          rw [show takeP p m = gotP p m 16 kb16 by simp [takeP, h0, h3, h12]]
          exact ⟨hZ, grown_self (grown_self gV gU) gZ⟩
        clear hp hm hne h0 hV gV mV hU gU hZ gZ h3
        rcases h12 with h | h
        all_goals
          rw [h] at m0
          clear h
          go_enter Try.func38, Try.ntmps38
          go_wp2
          go_end0
          exact ⟨rfl, F.out⟩
      · have F : Hid (RvAt W b 47 (takeP p m).cs ∧ W.grownBy W (some b)) := by
          show RvAt W b _ (takeP p m).cs ∧ _
          rw [show takeP p m = p by simp [takeP, h3, h12]]
          exact ⟨hp, World.grownBy.refl _ _⟩
        have h1 : ¬ m.nm 0 = 1 := fun e => h12 (.inl e)
        have h2 : ¬ m.nm 0 = 2 := fun e => h12 (.inr e)
        clear hp hm hne h0 h12
        go_enter Try.func38, Try.ntmps38
        go_wp2
        go_returns
        exact ⟨rfl, F.out⟩
attribute [local go_sem ↓] alP alM
attribute [local go_sem] alP_run alM_run
set_option maxHeartbeats 2000000 in
theorem changed_any (F : Nat) (f : Pt → Pt) (hF : Chg F f) (hc : ∀ (x : Value) (V : World), (callFunc F #[x]).run Try.prog V = .ok (.enter F #[x]) V) (p : Pt) (w : World) :
    Calls Try.prog 37 #[.agg p.cs, .func (.func F) #[] #[]] w fun r w' => r = .returned (.agg (f p).cs) ∧ Below w.heap.size w w' := by
  obtain ⟨W, hW, r0, r1, bW, zW⟩ := two_p w p
  have H : Hid (RvAt W w.heap.size 47 p.cs ∧ RvAt W (w.heap.size + 1) 47 zeroP.cs ∧ Below w.heap.size w W ∧ W.heap.size = w.heap.size + 2) := ⟨r0, r1, bW, zW⟩
  clear r0 r1 bW zW
  go_enter Try.func37, Try.ntmps37
  go_wp2_with fail
  refine (hF W w.heap.size p H.out.1).mono ?_
  rintro _ V ⟨rfl, hV, gV⟩
  have lV := hV.pld
  obtain ⟨U, sU, hU, gU⟩ := (H.out.2.1.keptBut gV (by simp)).pst (q := f p)
  have G : Hid (RvAt U (w.heap.size + 1) 47 (f p).cs ∧ Below w.heap.size w U) := ⟨hU, gro (gro H.out.2.2.1 gV (Nat.le_refl _) (by have := H.out.2.2.2; omega)) gU (by omega) (by have := H.out.2.2.2; have := gV.size; omega)⟩
  clear hV gV hU gU hW
  go_wp2_with (with_reducible exact ret_port Try.results37 (by with_unfolding_all rfl) (by with_unfolding_all rfl) G.out.1 ⟨rfl, G.out.2⟩)
end Go.Proofs.Ytlneoegmlcbidaa
