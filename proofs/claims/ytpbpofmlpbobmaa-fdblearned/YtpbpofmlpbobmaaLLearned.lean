/-
  What was learned is found till it ages: the walk of the law.
-/
import Derived.Test.YtpbpofmlpbobmaaOpen
namespace Go.Proofs.Ytpbpofmlpbobmaa
set_option linter.unusedVariables false
set_option maxRecDepth 4000
set_option linter.unusedSimpArgs false
open Go.RowKit

attribute [local go_sem ↓] ldK stK ldM stM ldP stP ldE stE ldO stO
def cL : Cf := ⟨8, 256, 50⟩
theorem learn_one (k : Ky) (port tick : Int) : learnS cL [] k port tick = ([], 70) ∨ (learnS cL [] k port tick = ([⟨k, port, false, tick⟩], 0) ∧ 0 ≤ tick ∧ tick ≤ 1099511627776) := by
  unfold learnS
  split
  · exact .inl rfl
  · rename_i h
    right
    refine ⟨?_, by simp [inn] at h; omega⟩
    rw [if_neg (by simp [stOf, look])]
    unfold putS
    rw [if_pos (.inr (by decide))]
    rfl
theorem learn_more {l : List En} (hs : Srt l) {e : En} (he : e ∈ l) {i : Nat} (hl : l.length ≤ i + 1) (hi : i < 80) (k : Ky) (port tick : Int) (hk : k.rk ≠ e.rk) : e ∈ (learnS cL l k port tick).1 ∧ (learnS cL l k port tick).1.length ≤ i + 1 + 1 := by
  unfold learnS
  split
  · exact ⟨he, by simp only; omega⟩
  · split
    · exact ⟨he, by simp only; omega⟩
    · unfold putS
      rw [if_pos (.inr (show (l.length : Int) < 256 by omega))]
      refine ⟨(mem_put hs).2 (.inr ⟨he, fun h => hk h.symm⟩), ?_⟩
      simp only
      rw [length_put hs]
      split <;> omega
theorem learn_aged {l : List En} (hs : Srt l) {k : Ky} {port tick t : Int} (he : (⟨k, port, false, tick⟩ : En) ∈ l) :
    (look (remS l (ageSh cL.age (tick + t))).1 k.rk).isSome = decide (t < 50) ∧ (t < 50 → plP (remS l (ageSh cL.age (tick + t))).1 k.rk = port) := by
  by_cases ht : t < 50
  · have hm : (⟨k, port, false, tick⟩ : En) ∈ (remS l (ageSh cL.age (tick + t))).1 := by
      refine List.mem_filter.2 ⟨he, ?_⟩
      simp [ageSh, cL]
      omega
    have h1 : look (remS l (ageSh cL.age (tick + t))).1 k.rk = some ⟨k, port, false, tick⟩ := Srt.look (hs.filter _) hm
    refine ⟨by rw [h1]; simp [ht], fun _ => by unfold plP; rw [h1]⟩
  · have h1 : look (remS l (ageSh cL.age (tick + t))).1 k.rk = none := by
      refine look_none.2 (fun x hx e => ?_)
      obtain ⟨hx1, hx2⟩ := List.mem_filter.1 hx
      have := hs.inj hx1 he e
      subst this
      simp [ageSh, cL] at hx2
      omega
    exact ⟨by rw [h1]; simp [ht], fun h => absurd h ht⟩
theorem neqM (k q : Ky) (w : World) : (binOp .neq 34 (.agg k.mc) (.agg q.mc)).run Try.prog w = .ok (.bool (!eq6 k.a k.b k.c k.d k.e k.f q.a q.b q.c q.d q.e q.f)) w := by
  unfold Ky.mc
  go_simp
theorem beq_ky {k q : Ky} (hk : k.wf) (hq : q.wf) : (k.vid = q.vid ∧ eq6 k.a k.b k.c k.d k.e k.f q.a q.b q.c q.d q.e q.f = true) ↔ k.rk = q.rk := by
  have := beqK_rk hk hq
  unfold beqK at this
  constructor
  · rintro ⟨h1, h2⟩
    rw [decide_eq_true h1, h2] at this
    simpa using this.symm
  · intro h
    rw [decide_eq_true h] at this
    simpa using this
set_option maxHeartbeats 4000000 in
theorem FdbLearned_walk (k : Ky) (port tick : Int) (la : Option Addr) (ln lc : Nat) (l : List Oq) (later : Int) (w : World) (hk : k.wf) (hp : -9223372036854775808 ≤ port ∧ port ≤ 9223372036854775807) (ht : -9223372036854775808 ≤ tick ∧ tick ≤ 9223372036854775807) (hl : OpsAt w la ln lc l) (hla : 0 ≤ later ∧ later ≤ 255) :
    Calls Try.prog 5 #[.int .i64 k.vid, .agg k.mc, .int .i64 port, .int .i64 tick, .slice la ln lc, .int .u8 later] w fun r w' => r = .returned (.bool true) ∧ Below w.heap.size w w' := by
  obtain ⟨W, hW⟩ : ∃ W, w.alloc (.cells k.mc 34) = W := ⟨_, rfl⟩
  have rm : RvAt W w.heap.size 34 k.mc := by rw [← hW]; exact RvAt.new w _ _
  have bW : Below w.heap.size w W := by rw [← hW]; exact (Below.refl _ _).alloc (Nat.le_refl _) _
  have H : Hid (k.wf ∧ RvAt W w.heap.size 34 k.mc ∧ OpsAt W la ln lc l ∧ Below w.heap.size w W ∧ (0 ≤ later ∧ later ≤ 255) ∧ ln ≤ maxLen) := ⟨hk, rm, hl.below bW, bW, hla, by have := hl.2.1; have := hl.2.2.1; omega⟩
  clear hk hp hl hla rm bW
  go_enter Try.func5, Try.ntmps5
  go_wp2_with fail
  refine (new_yes cL _ (by decide)).mono ?_
  rintro _ W1 ⟨p, b, rfl, d1, hp1, hb1, b1⟩
  have G1 : Hid (Db W1 p b cL [] ∧ Below W.heap.size W W1 ∧ W.heap.size ≤ b) := ⟨d1, b1, hb1⟩
  clear d1 b1 hp1 hb1
  go_wp2_with fail
  refine (awake_any _).mono ?_
  rintro _ W2 ⟨rfl, b2⟩
  have G2 : Hid (Db W2 p b cL [] ∧ Below W.heap.size W W2 ∧ W.heap.size ≤ b ∧ RvAt W2 w.heap.size 34 k.mc) := ⟨G1.out.1.below b2, below_over G1.out.2.1 b2, G1.out.2.2, H.out.2.1.below (below_over G1.out.2.1 b2)⟩
  have m2 := G2.out.2.2.2.ld rtM (Ky.msize k)
  clear b2 G1
  go_wp2_with fail
  refine (learn_any p b cL [] k port tick _ G2.out.1 H.out.1).mono ?_
  rintro _ W3 ⟨rfl, d3, g3⟩
  clear m2
  rcases learn_one k port tick with hE | ⟨hE, hti⟩
  · rw [hE] at d3 ⊢
    have G3 : Hid (Db W3 p b cL [] ∧ Below W.heap.size W W3) := ⟨d3, G2.out.2.1.trans (below_of_grown g3 G2.out.2.1.size (fun j e => by cases e; exact G2.out.2.2.1))⟩
    clear d3 g3 G2 hE
    have m3 := (H.out.2.1.below G3.out.2).ld rtM (Ky.msize k)
    go_wp2_with fail
    refine (find_any p b cL [] k _ G3.out.1 H.out.1).mono ?_
    rintro _ W4 ⟨rfl, b4⟩
    have hn : (look [] k.rk).isSome = false := rfl
    rw [hn]
    have G4 : Hid (Db W4 p b cL [] ∧ Below W.heap.size W W4) := ⟨G3.out.1.below b4, below_over G3.out.2 b4⟩
    clear b4 G3 hn m3
    go_wp2_with fail
    refine (len_any p b cL [] _ G4.out.1).mono ?_
    rintro _ Y ⟨rfl, hY⟩
    rw [hY]
    clear hY Y
    have hL : (([] : List En).length : Int) = 0 := rfl
    rw [hL]
    go_wp2
    go_ret
    exact ⟨rfl, below_over H.out.2.2.2.1 G4.out.2⟩
  · rw [hE] at d3 ⊢
    have G3 : Hid (Db W3 p b cL [⟨k, port, false, tick⟩] ∧ Below W.heap.size W W3 ∧ W.heap.size ≤ b) := ⟨d3, G2.out.2.1.trans (below_of_grown g3 G2.out.2.1.size (fun j e => by cases e; exact G2.out.2.2.1)), G2.out.2.2.1⟩
    clear d3 g3 G2 hE
    go_wp2_with fail
    go_loopw [17] (fun v17 wr => ∃ (i : Nat) (m : List En), i ≤ 80 ∧ i ≤ ln ∧ v17 = .int .i64 i ∧ Db wr p b cL m ∧ (⟨k, port, false, tick⟩ : En) ∈ m ∧ m.length ≤ i + 1 ∧ Below W.heap.size W wr) (fun v17 _ => 80 - (intOf v17).toNat)
    case atStart => exact ⟨0, _, by omega, by omega, rfl, G3.out.1, by simp, by simp, G3.out.2.1⟩
    case round =>
      obtain ⟨i, m, hi, hin, rfl, hd, he, hm, hB⟩ := hrel
      have hi0 : (0 : Int) ≤ (i : Int) := by omega
      by_cases hit : i < ln ∧ i < 80
      · have hi1 : (i : Int) < (ln : Int) := by omega
        have hi2 : (i : Int) < 80 := by omega
        obtain ⟨lb, lo, rfl⟩ := H.out.2.2.1.2.2.2.1 (by omega)
        have ho := H.out.2.2.1.wf i (by omega)
        have f1 := fun z : Later wr => (H.out.2.2.1.below (below_over hB z.below)).cell i (by omega) 1 (.int .i64 (gtO l i).k.vid) rfl
        have f8 := fun z : Later wr => (H.out.2.2.1.below (below_over hB z.below)).cell i (by omega) 8 (.int .i64 (gtO l i).port) rfl
        have f9 := fun z : Later wr => (H.out.2.2.1.below (below_over hB z.below)).cell i (by omega) 9 (.int .i64 (gtO l i).tick) rfl
        have fm := fun z : Later wr => (H.out.2.2.1.below (below_over hB z.below)).mac i (by omega)
        have fk := fun z : Later wr => (H.out.2.1.below (below_over hB z.below)).ld rtM (Ky.msize k)
        have hbk := beq_ky ho.k H.out.1
        have hne := neqM (gtO l i).k k
        obtain ⟨o, hoq⟩ : ∃ o, gtO l i = o := ⟨_, rfl⟩
        simp only [hoq] at ho f1 f8 f9 fm hbk hne
        have HR : Hid (Db wr p b cL m ∧ (⟨k, port, false, tick⟩ : En) ∈ m ∧ m.length ≤ i + 1 ∧ Below W.heap.size W wr ∧ o.k.wf) := ⟨hd, he, hm, hB, ho.k⟩
        clear hd he hm hB ho
        have hoq : Hid (gtO l i = o) := hoq
        by_cases hv : o.k.vid = k.vid
        · cases hq : eq6 o.k.a o.k.b o.k.c o.k.d o.k.e o.k.f k.a k.b k.c k.d k.e k.f
          · have hrk : Hid (o.k.rk ≠ k.rk) := fun h => by have := (hbk.2 h).2; rw [hq] at this; cases this
            clear hbk
            rw [hq] at hne
            go_wp2_with fail
            refine wp_region_later (by kernel_rfl) (by kernel_rfl) ?_
            repeat (go_big_quiet_step (first | exact rfl))
            refine wpQuiet_nil ?_
            intro _ hw'
            obtain ⟨z, rfl⟩ := hw'
            clear hv hq
            have bz : Below W.heap.size W z.val := below_over HR.out.2.2.2.1 z.below
            clear f1 f8 f9 fm fk hne
            go_wp2_with fail
            have g1 := fun y : Later z.val => (H.out.2.2.1.below (below_over bz y.below)).cell i (by omega) 1 (.int .i64 (gtO l i).k.vid) rfl
            have g8 := fun y : Later z.val => (H.out.2.2.1.below (below_over bz y.below)).cell i (by omega) 8 (.int .i64 (gtO l i).port) rfl
            have g9 := fun y : Later z.val => (H.out.2.2.1.below (below_over bz y.below)).cell i (by omega) 9 (.int .i64 (gtO l i).tick) rfl
            have gm := fun y : Later z.val => (H.out.2.2.1.below (below_over bz y.below)).mac i (by omega)
            simp only [hoq.out] at g1 g8 g9 gm
            refine wp_region_later_tail 21 (by kernel_rfl) (by kernel_rfl) ?_
            simp only [List.take_succ_cons, List.take_zero]
            repeat (go_big_quiet_step (first | exact rfl))
            refine wpQuiet_nil ?_
            intro x
            simp only [List.drop_succ_cons, List.drop_zero]
            have hx : Hid (Db x.val p b cL m ∧ Below W.heap.size W x.val) := ⟨HR.out.1.below (below_over z.below x.below), below_over bz x.below⟩
            clear g1 g8 g9 gm bz
            go_wp2_with fail
            refine (learn_any p b cL m o.k o.port o.tick _ hx.out.1 HR.out.2.2.2.2).mono ?_
            rintro _ V ⟨rfl, dV, gV⟩
            have GV : Hid (Db V p b cL (learnS cL m o.k o.port o.tick).1 ∧ Below W.heap.size W V) := ⟨dV, hx.out.2.trans (below_of_grown gV hx.out.2.size (fun j e => by cases e; exact G3.out.2.2))⟩
            clear dV gV
            have hM := learn_more HR.out.1.map.1 HR.out.2.1 HR.out.2.2.1 (by omega) o.k o.port o.tick hrk.out
            have HM : Hid ((⟨k, port, false, tick⟩ : En) ∈ (learnS cL m o.k o.port o.tick).1 ∧ (learnS cL m o.k o.port o.tick).1.length ≤ i + 1 + 1) := hM
            clear hM
            go_wp2
            go_roundw
            case rel => exact ⟨i + 1, _, by omega, by omega, by go_num, GV.out.1, HM.out.1, HM.out.2, GV.out.2⟩
            case measure => simp [intOf]; omega
          · clear hbk
            rw [hq] at hne
            go_wp2_with fail
            refine wp_region_later (by kernel_rfl) (by kernel_rfl) ?_
            repeat (go_big_quiet_step (first | exact rfl))
            refine wpQuiet_nil ?_
            intro _ hw'
            obtain ⟨z, rfl⟩ := hw'
            clear f1 f8 f9 fm fk hne
            go_wp2
            go_roundw
            case rel => exact ⟨i + 1, m, by omega, by omega, by go_num, HR.out.1.below z.below, HR.out.2.1, by have := HR.out.2.2.1; omega, below_over HR.out.2.2.2.1 z.below⟩
            case measure => simp [intOf]; omega
        · have hrk : Hid (o.k.rk ≠ k.rk) := fun h => hv (hbk.2 h).1
          have hv' : (o.k.vid == k.vid) = false := by simpa using hv
          have hv2 : decide (o.k.vid = k.vid) = false := by simpa using hv
          have hv3 : (o.k.vid != k.vid) = true := by simpa using hv
          have hv4 : decide (¬ o.k.vid = k.vid) = true := by simpa using hv
          clear hbk
          go_wp2_with fail
          refine wp_region_later (by kernel_rfl) (by kernel_rfl) ?_
          repeat (go_big_quiet_step (first | exact rfl))
          refine wpQuiet_nil ?_
          intro _ hw'
          obtain ⟨z, rfl⟩ := hw'
          clear hv hv' hv2 hv3 hv4
          have bz : Below W.heap.size W z.val := below_over HR.out.2.2.2.1 z.below
          clear f1 f8 f9 fm fk hne
          go_wp2_with fail
          have g1 := fun y : Later z.val => (H.out.2.2.1.below (below_over bz y.below)).cell i (by omega) 1 (.int .i64 (gtO l i).k.vid) rfl
          have g8 := fun y : Later z.val => (H.out.2.2.1.below (below_over bz y.below)).cell i (by omega) 8 (.int .i64 (gtO l i).port) rfl
          have g9 := fun y : Later z.val => (H.out.2.2.1.below (below_over bz y.below)).cell i (by omega) 9 (.int .i64 (gtO l i).tick) rfl
          have gm := fun y : Later z.val => (H.out.2.2.1.below (below_over bz y.below)).mac i (by omega)
          simp only [hoq.out] at g1 g8 g9 gm
          refine wp_region_later_tail 21 (by kernel_rfl) (by kernel_rfl) ?_
          simp only [List.take_succ_cons, List.take_zero]
          repeat (go_big_quiet_step (first | exact rfl))
          refine wpQuiet_nil ?_
          intro x
          simp only [List.drop_succ_cons, List.drop_zero]
          have hx : Hid (Db x.val p b cL m ∧ Below W.heap.size W x.val) := ⟨HR.out.1.below (below_over z.below x.below), below_over bz x.below⟩
          clear g1 g8 g9 gm bz
          go_wp2_with fail
          refine (learn_any p b cL m o.k o.port o.tick _ hx.out.1 HR.out.2.2.2.2).mono ?_
          rintro _ V ⟨rfl, dV, gV⟩
          have GV : Hid (Db V p b cL (learnS cL m o.k o.port o.tick).1 ∧ Below W.heap.size W V) := ⟨dV, hx.out.2.trans (below_of_grown gV hx.out.2.size (fun j e => by cases e; exact G3.out.2.2))⟩
          clear dV gV
          have hM := learn_more HR.out.1.map.1 HR.out.2.1 HR.out.2.2.1 (by omega) o.k o.port o.tick hrk.out
          have HM : Hid ((⟨k, port, false, tick⟩ : En) ∈ (learnS cL m o.k o.port o.tick).1 ∧ (learnS cL m o.k o.port o.tick).1.length ≤ i + 1 + 1) := hM
          clear hM
          go_wp2
          go_roundw
          case rel => exact ⟨i + 1, _, by omega, by omega, by go_num, GV.out.1, HM.out.1, HM.out.2, GV.out.2⟩
          case measure => simp [intOf]; omega
      · have hlt : ¬ ((i : Int) < (ln : Int) ∧ (i : Int) < 80) := by omega
        have HR : Hid (Db wr p b cL m ∧ (⟨k, port, false, tick⟩ : En) ∈ m ∧ Below W.heap.size W wr) := ⟨hd, he, hB⟩
        clear hd he hm hB
        obtain ⟨t, ht0, htm⟩ : ∃ t : Int, later % 100 = t ∧ (0 ≤ t ∧ t < 100) := ⟨_, rfl, by omega⟩
        have hf := learn_aged (t := t) HR.out.1.map.1 HR.out.2.1
        have hw0 : wrap64 later = later := by have := H.out.2.2.2.2.1; exact IntWalk.wrap64_in _ (by omega)
        have hw1 : later.tmod 100 = t := by have := H.out.2.2.2.2.1; rw [Int.tmod_eq_emod_of_nonneg (by omega)]; exact ht0
        have hw2 : wrap64 (tick + t) = tick + t := IntWalk.wrap64_in _ (by omega)
        have HF : Hid ((look (remS m (ageSh cL.age (tick + t))).1 k.rk).isSome = decide (t < 50) ∧ (t < 50 → plP (remS m (ageSh cL.age (tick + t))).1 k.rk = port)) := hf
        clear hf ht0 htm
        by_cases h1 : (i : Int) < (ln : Int)
        · have h2 : ¬ (i : Int) < 80 := by omega
          have h2' : decide ((i : Int) < 80) = false := by simpa using h2
          clear hlt hit
          go_wp2_with fail
          refine (age_any p b cL m (tick + t) _ HR.out.1).mono ?_
          rintro _ V ⟨rfl, dV, gV⟩
          have GV : Hid (Db V p b cL (remS m (ageSh cL.age (tick + t))).1 ∧ Below W.heap.size W V) := ⟨dV, HR.out.2.2.trans (below_of_grown gV HR.out.2.2.size (fun j e => by cases e; exact G3.out.2.2))⟩
          clear dV gV
          have m3 := (H.out.2.1.below GV.out.2).ld rtM (Ky.msize k)
          go_wp2_with fail
          refine (find_any p b cL _ k _ GV.out.1 H.out.1).mono ?_
          rintro _ W4 ⟨rfl, b4⟩
          have G4 : Hid (Below W.heap.size W W4) := below_over GV.out.2 b4
          clear b4 m3
          rw [HF.out.1]
          by_cases h50 : t < 50
          · rw [HF.out.2 h50]
            go_wp2
            go_ret
            exact ⟨rfl, below_over H.out.2.2.2.1 G4.out⟩
          · have h50' : decide (t < 50) = false := by simpa using h50
            go_wp2
            go_ret
            exact ⟨rfl, below_over H.out.2.2.2.1 G4.out⟩
        · have h1' : decide ((i : Int) < (ln : Int)) = false := by simpa using h1
          clear hlt hit
          go_wp2_with fail
          refine (age_any p b cL m (tick + t) _ HR.out.1).mono ?_
          rintro _ V ⟨rfl, dV, gV⟩
          have GV : Hid (Db V p b cL (remS m (ageSh cL.age (tick + t))).1 ∧ Below W.heap.size W V) := ⟨dV, HR.out.2.2.trans (below_of_grown gV HR.out.2.2.size (fun j e => by cases e; exact G3.out.2.2))⟩
          clear dV gV
          have m3 := (H.out.2.1.below GV.out.2).ld rtM (Ky.msize k)
          go_wp2_with fail
          refine (find_any p b cL _ k _ GV.out.1 H.out.1).mono ?_
          rintro _ W4 ⟨rfl, b4⟩
          have G4 : Hid (Below W.heap.size W W4) := below_over GV.out.2 b4
          clear b4 m3
          rw [HF.out.1]
          by_cases h50 : t < 50
          · rw [HF.out.2 h50]
            go_wp2
            go_ret
            exact ⟨rfl, below_over H.out.2.2.2.1 G4.out⟩
          · have h50' : decide (t < 50) = false := by simpa using h50
            go_wp2
            go_ret
            exact ⟨rfl, below_over H.out.2.2.2.1 G4.out⟩
end Go.Proofs.Ytpbpofmlpbobmaa
