/-
  Every run of calls, beside the definition's: the walk of the law.
-/
import Derived.Test.YtoelpbajaadfeaaStepA
import Derived.Test.YtoelpbajaadfeaaStepB
import Derived.Test.YtoelpbajaadfeaaStepC
import Derived.Test.YtoelpbajaadfeaaSame
namespace Go.Proofs.Ytoelpbajaadfeaa
set_option linter.unusedVariables false
set_option maxRecDepth 8000
set_option linter.unusedSimpArgs false
open Go.RowKit

theorem step_any (w X : World) (q p b : Nat) (c : Cf) (l : List En) (a : Option Addr) (k : Nat) (o : Oq) (h : St w X q p b c l l a k) (ho : o.wf) :
    Calls Try.prog 11 #[.pointer (some ⟨q, 0, none⟩), .agg o.cs] X fun r X' => r = .returned (.bool true) ∧ ∃ p' b' a' k', St w X' q p' b' c (stepS c l o) (stepS c l o) a' k' := by
  by_cases h4 : o.act.tmod 8 = 4
  · exact step_age w X q p b c l a k o h ho h4
  by_cases h5 : o.act.tmod 8 = 5
  · exact step_flush w X q p b c l a k o h ho h5
  by_cases h6 : o.act.tmod 8 = 6
  · exact step_gone w X q p b c l a k o h ho h6
  by_cases h7 : o.act.tmod 8 = 7
  · exact step_fork w X q p b c l a k o h ho h7
  · exact step_learn w X q p b c l a k o h ho ⟨h4, h5, h6, h7⟩
theorem rnew_no (c : Cf) (w : World) (h : okC c = false) : Calls Try.prog 9 #[.int .i64 c.room, .int .i64 c.age] w fun r w' => r = .returned (.tuple #[.agg (Cf.rs ⟨0, 0⟩ none 0 0), .int .i64 80]) ∧ Below w.heap.size w w' :=
  (rnew_any c w).mono fun r w' hh => by
    obtain ⟨⟨_, h1⟩ | ⟨h1, _⟩, hb⟩ := hh
    · exact ⟨h1, hb⟩
    · rw [h] at h1; cases h1
theorem rnew_yes (c : Cf) (w : World) (h : okC c = true) : Calls Try.prog 9 #[.int .i64 c.room, .int .i64 c.age] w fun r w' => r = .returned (.tuple #[.agg (c.rs none 0 0), .int .i64 0]) ∧ Below w.heap.size w w' :=
  (rnew_any c w).mono fun r w' hh => by
    obtain ⟨⟨h1, _⟩ | ⟨_, h1⟩, hb⟩ := hh
    · rw [h] at h1; cases h1
    · exact ⟨h1, hb⟩
attribute [local go_sem ↓] ldK stK ldM stM ldP stP ldE stE apE ldR stR ldO stO
set_option maxHeartbeats 8000000 in
theorem CfdbRuns_walk (room age : Int) (a : Option Addr) (n k : Nat) (ops : List Oq) (w : World) (hro : -9223372036854775808 ≤ room ∧ room ≤ 9223372036854775807) (hag : -9223372036854775808 ≤ age ∧ age ≤ 9223372036854775807) (ho : OpsAt w a n k ops) :
    Calls Try.prog 3 #[.int .i64 room, .int .i64 age, .slice a n k] w fun r w' => r = .returned (.bool true) ∧ Below w.heap.size w w' := by
  obtain ⟨c, hc⟩ : ∃ c : Cf, c = ⟨room, age⟩ := ⟨_, rfl⟩
  have HO : Hid (OpsAt w a n k ops) := ho
  clear ho
  have e1 : room = c.room := by rw [hc]
  have e2 : age = c.age := by rw [hc]
  subst e1 e2
  clear hc
  cases hok : okC c
  · go_enter Try.func3, Try.ntmps3
    go_wp2_with fail
    refine (new_no c _ hok).mono ?_
    rintro _ Y ⟨rfl, hY⟩
    rw [hY]
    clear hY Y
    go_wp2_with fail
    refine (rnew_no c _ hok).mono ?_
    rintro _ W1 ⟨rfl, b1⟩
    obtain ⟨W2, s2, r2, b2, z2⟩ := row_new rtR W1 #[.int .i64 0, .int .i64 0, .slice none 0 0] (Cf.rs ⟨0, 0⟩ none 0 0) rfl rfl (Cf.rone _ _ _ _)
    have B2 : Hid (Below w.heap.size w W2) := below_over b1 b2
    clear b1 r2 b2 z2
    go_wp2_with fail
    refine (awake_any _).mono ?_
    rintro _ W3 ⟨rfl, b3⟩
    have B3 : Hid (Below w.heap.size w W3) := below_over B2.out b3
    clear b3 s2
    go_wp2
    go_ret
    exact ⟨rfl, B3.out⟩
  · go_enter Try.func3, Try.ntmps3
    go_wp2_with fail
    refine (new_yes c _ hok).mono ?_
    rintro _ W0 ⟨p, b, rfl, d0, hp, hb, b0⟩
    have G0 : Hid (Db W0 p b c [] ∧ w.heap.size ≤ p ∧ w.heap.size ≤ b ∧ Below w.heap.size w W0) := ⟨d0, hp, hb, b0⟩
    clear d0 hp hb b0
    go_wp2_with fail
    refine (rnew_yes c _ hok).mono ?_
    rintro _ W1 ⟨rfl, b1⟩
    obtain ⟨W2, s2, r2, b2, z2⟩ := row_new rtR W1 #[.int .i64 0, .int .i64 0, .slice none 0 0] (c.rs none 0 0) rfl rfl (Cf.rone _ _ _ _)
    have b12 := below_over b1 b2
    have G2 : Hid (Db W2 p b c [] ∧ w.heap.size ≤ p ∧ w.heap.size ≤ b ∧ Below w.heap.size w W2 ∧ RvAt W2 W1.heap.size 29 (c.rs none 0 0)) := ⟨G0.out.1.below b12, G0.out.2.1, G0.out.2.2.1, below_over G0.out.2.2.2 b12, r2⟩
    clear b1 r2 b2 z2 b12 G0
    go_wp2_with fail
    refine (awake_any _).mono ?_
    rintro _ W3 ⟨rfl, b3⟩
    have l3 : (ldS 29 (.pointer (some ⟨W1.heap.size, 0, none⟩))).run Try.prog W3 = .ok (.agg #[.int .i64 c.room, .int .i64 c.age, .slice none 0 0]) W3 := (G2.out.2.2.2.2.below b3).ld rtR (Cf.rsize c none 0 0)
    obtain ⟨W4, hW4⟩ : ∃ W4, W3.alloc (.cells #[.pointer (some ⟨p, 0, none⟩), .int .i64 c.room, .int .i64 c.age, .slice none 0 0] 35) = W4 := ⟨_, rfl⟩
    have b4 : Below W3.heap.size W3 W4 := by rw [← hW4]; exact (Below.refl _ _).alloc (Nat.le_refl _) _
    have b34 := below_over b3 b4
    have bo : BoAt W4 W3.heap.size p c none 0 0 := by rw [← hW4]; exact RvAt.new _ _ _
    have hl2 := G2.out.1.lt
    have hw2 := G2.out.2.2.2.1.size
    have hs3 := b3.size
    have G4 : Hid (St w W4 W3.heap.size p b c [] [] none 0) := ⟨G2.out.1.below b34, bo, SlAt.none' _, (fun x e => by cases e), by omega, by omega, G2.out.2.2.1, by omega, below_over G2.out.2.2.2.1 b34⟩
    obtain ⟨q, hq⟩ : ∃ q, q = W3.heap.size := ⟨_, rfl⟩
    rw [← hq] at G4
    have hnn : (n : Int) ≤ 9223372036854775807 := by have := HO.out.2.1; have := HO.out.2.2.1; unfold maxLen at this; omega
    clear b3 b4 b34 bo hl2 hw2 hs3 G2
    go_wp2_with fail
    rw [← hq]
    clear hq l3 s2 hW4
    go_loopw [12] (fun v12 wr => ∃ (i : Nat) (l : List En) (p b : Nat) (a : Option Addr) (k : Nat), i ≤ n ∧ v12 = .int .i64 i ∧ i ≤ 60 ∧ St w wr q p b c l l a k) (fun v12 _ => n - (intOf v12).toNat)
    case atStart => exact ⟨0, [], p, b, none, 0, by omega, rfl, by omega, G4.out⟩
    case round =>
      obtain ⟨i, l, p, b, a1, k1, hi, rfl, hi60, hS⟩ := hrel
      have GS : Hid (St w wr q p b c l l a1 k1) := hS
      have hi0 : (0 : Int) ≤ (i : Int) := by omega
      clear hS
      by_cases hit : i < n
      · have hi1 : (i : Int) < (n : Int) := by omega
        by_cases h6 : i < 60
        · have h61 : (i : Int) < 60 := by omega
          obtain ⟨g, og, rfl⟩ := HO.out.2.2.2.1 (by omega)
          have lo := (HO.out.below GS.out.bel).ld i hit
          have hw := HO.out.wf i hit
          have HW : Hid ((gtO ops i).wf) := hw
          clear hw
          go_wp2_with fail
          refine (step_any w wr q p b c l a1 k1 (gtO ops i) GS.out HW.out).mono ?_
          rintro _ X ⟨rfl, p2, b2, a2, k2, sX⟩
          have GX : Hid (St w X q p2 b2 c (stepS c l (gtO ops i)) (stepS c l (gtO ops i)) a2 k2) := sX
          have lo2 := (HO.out.below sX.bel).ld i hit
          clear sX lo
          go_wp2_with fail
          refine (bsame_any w X q p2 b2 c _ a2 k2 (gtO ops i) GX.out HW.out).mono ?_
          rintro _ Y ⟨rfl, sY⟩
          have GY : Hid (St w Y q p2 b2 c (stepS c l (gtO ops i)) (stepS c l (gtO ops i)) a2 k2) := sY
          clear sY lo2
          go_wp2
          go_roundw
          case rel => exact ⟨i + 1, _, p2, b2, a2, k2, by omega, by go_num, by omega, GY.out⟩
          case measure => simp [intOf]; omega
        · have h61 : ¬ (i : Int) < 60 := by omega
          go_wp2
          go_ret
          exact ⟨rfl, GS.out.bel⟩
      · have hi1 : ¬ (i : Int) < (n : Int) := by omega
        go_wp2
        go_ret
        exact ⟨rfl, GS.out.bel⟩
end Go.Proofs.Ytoelpbajaadfeaa
