/-
  With an error nothing changes, and what is told is one's own: the walk of the law.
-/
import Derived.Test.YtpbpofmlpbobmaaOpen
import Derived.Test.YtpbpofmlpbobmaaRSame
import Derived.Test.YtpbpofmlpbobmaaAllW
namespace Go.Proofs.Ytpbpofmlpbobmaa
set_option linter.unusedVariables false
set_option maxRecDepth 4000
set_option linter.unusedSimpArgs false
open Go.RowKit

attribute [local go_sem ↓] ldK stK ldM stM ldP stP ldE stE ldO stO
def cN : Cf := ⟨3, 4, 20⟩
theorem putS_err (room : Int) (l : List En) (e : En) : (putS room l e).2 = 0 ∨ ((putS room l e).1 = l ∧ (putS room l e).2 = 71) := by
  unfold putS
  split
  · exact .inl rfl
  · split
    · exact .inr ⟨rfl, rfl⟩
    · exact .inl rfl
theorem learnS_err (c : Cf) (l : List En) (k : Ky) (port tick : Int) : (learnS c l k port tick).2 = 0 ∨ ((learnS c l k port tick).1 = l ∧ ¬ (learnS c l k port tick).2 = 0) := by
  unfold learnS
  split
  · exact .inr ⟨rfl, by simp⟩
  · split
    · exact .inl rfl
    · rcases putS_err c.room l ⟨k, port, false, tick⟩ with h | ⟨h1, h2⟩
      · exact .inl h
      · exact .inr ⟨h1, by rw [h2]; decide⟩
theorem staticS_err (c : Cf) (l : List En) (k : Ky) (port : Int) : (staticS c l k port).2 = 0 ∨ ((staticS c l k port).1 = l ∧ ¬ (staticS c l k port).2 = 0) := by
  unfold staticS
  split
  · rcases putS_err c.room l ⟨k, port, true, 0⟩ with h | ⟨h1, h2⟩
    · exact .inl h
    · exact .inr ⟨h1, by rw [h2]; decide⟩
  · exact .inr ⟨rfl, by simp⟩
theorem unstaticS_err (l : List En) (k : Ky) : (unstaticS l k).2 = 0 ∨ ((unstaticS l k).1 = l ∧ ¬ (unstaticS l k).2 = 0) := by
  unfold unstaticS
  split
  · exact .inl rfl
  · exact .inr ⟨rfl, by simp⟩
/-- A block of entries. -/
def Blk (W : World) (g N : Nat) : Prop := ∃ cur, W.heap[g]? = some (.cells cur 55 (0, 0)) ∧ cur.size = N
theorem Blk.fz {W : World} {g N : Nat} (h : Blk W g N) (o : Nat) : W.frozen? ⟨g, o, none⟩ = false := by
  obtain ⟨cur, h, _⟩ := h
  simp [World.frozen?, h]
theorem Blk.cell {W : World} {g N : Nat} (h : Blk W g N) {o : Nat} (ho : o < N) : ∃ v, W.cell? ⟨g, o, none⟩ = some v := by
  obtain ⟨cur, h, hs⟩ := h
  exact ⟨cur[o], cell_at h o _ (Array.getElem?_eq_getElem (by omega))⟩
theorem Blk.set {W : World} {g N : Nat} (h : Blk W g N) (o : Nat) (v : Value) : Blk (W.setCell ⟨g, o, none⟩ v) g N ∧ W.grownBy (W.setCell ⟨g, o, none⟩ v) (some g) := by
  obtain ⟨cur, h, hs⟩ := h
  constructor
  · refine ⟨cur.setIfInBounds o v, ?_, by simp [hs]⟩
    simp [World.setCell, h, Array.getElem?_modify]
  · refine ⟨rfl, rfl, rfl, by simp, fun i hi hne => ?_⟩
    exact RowKit.Below.heap_setCell _ _ _ _ (fun e => hne (by rw [e]))
theorem Own.blk {W : World} {B : Nat} {v : Value} {l : List En} (h : Own W B v l) : ∃ a c, v = .slice a l.length c ∧ (0 < l.length → ∃ g N, a = some ⟨g, 0, none⟩ ∧ Blk W g N ∧ l.length * 10 ≤ N ∧ B ≤ g) := by
  rcases h.2 with ⟨rfl, h0⟩ | ⟨g, cap, cur, rfl, hB, hb, h1, h2, h3, h4⟩
  · rw [h0]
    exact ⟨none, 0, rfl, fun h => by omega⟩
  · exact ⟨some ⟨g, 0, none⟩, cap, rfl, fun _ => ⟨g, cap * 10, rfl, ⟨cur, hb, h3⟩, by omega, hB⟩⟩
set_option maxHeartbeats 4000000 in
theorem FdbNothing_walk (la : Option Addr) (ln lc : Nat) (l : List Oq) (o : Oq) (w : World) (hl : OpsAt w la ln lc l) (ho : o.wf) :
    Calls Try.prog 6 #[.slice la ln lc, .agg o.cs] w fun r w' => r = .returned (.bool true) ∧ Below w.heap.size w w' := by
  obtain ⟨W, hW⟩ : ∃ W, w.alloc (.cells o.cs 36) = W := ⟨_, rfl⟩
  have ro : RvAt W w.heap.size 36 o.cs := by rw [← hW]; exact RvAt.new w _ _
  have bW : Below w.heap.size w W := by rw [← hW]; exact (Below.refl _ _).alloc (Nat.le_refl _) _
  have H : Hid (o.k.wf ∧ RvAt W w.heap.size 36 o.cs ∧ OpsAt W la ln lc l ∧ Below w.heap.size w W) := ⟨ho.k, ro, hl.below bW, bW⟩
  clear ho hl ro bW
  go_enter Try.func6, Try.ntmps6
  go_wp2_with fail
  refine (new_yes cN _ (by decide)).mono ?_
  rintro _ W1 ⟨p, b, rfl, d1, hp1, hb1, b1⟩
  have G1 : Hid (Db W1 p b cN [] ∧ Below W.heap.size W W1 ∧ W.heap.size ≤ b) := ⟨d1, b1, hb1⟩
  clear d1 b1 hp1 hb1
  go_wp2_with fail
  refine (awake_any _).mono ?_
  rintro _ W2 ⟨rfl, b2⟩
  have G2 : Hid (Db W2 p b cN [] ∧ Below W.heap.size W W2 ∧ W.heap.size ≤ b) := ⟨G1.out.1.below b2, below_over G1.out.2.1 b2, G1.out.2.2⟩
  clear b2 G1
  go_upto_block 0 with fail
  go_cut [7] from 26 to 41 (fun v7 wx => ∃ m, Db wx p b cN m ∧ Below W.heap.size W wx)
  case first =>
    go_wp2_with fail
    go_loopw [7] (fun v7 wr => ∃ (i : Nat) (m : List En), i ≤ 80 ∧ i ≤ ln ∧ v7 = .int .i64 i ∧ Db wr p b cN m ∧ Below W.heap.size W wr) (fun v7 _ => 80 - (intOf v7).toNat)
    case atStart => exact ⟨0, _, by omega, by omega, rfl, G2.out.1, G2.out.2.1⟩
    case round =>
      obtain ⟨i, m, hi, hin, rfl, hd, hB⟩ := hrel
      have hi0 : (0 : Int) ≤ (i : Int) := by omega
      by_cases hit : i < ln ∧ i < 80
      · have hi1 : (i : Int) < (ln : Int) := by omega
        have hi2 : (i : Int) < 80 := by omega
        obtain ⟨lb, lo, rfl⟩ := H.out.2.2.1.2.2.2.1 (by omega)
        have ho := H.out.2.2.1.wf i (by omega)
        have fl := (H.out.2.2.1.below hB).ld i (by omega)
        obtain ⟨x, hx⟩ : ∃ x, gtO l i = x := ⟨_, rfl⟩
        rw [hx] at ho fl
        have HR : Hid (Db wr p b cN m ∧ Below W.heap.size W wr ∧ x.wf) := ⟨hd, hB, ho⟩
        clear hd hB ho hx
        go_wp2_with fail
        refine (do_any p b cN m x _ HR.out.1 HR.out.2.2).mono ?_
        rintro _ V ⟨rfl, dV, gV⟩
        have GV : Hid (Db V p b cN (doS cN m x) ∧ Below W.heap.size W V) := ⟨dV, HR.out.2.1.trans (below_of_grown gV HR.out.2.1.size (fun j e => by cases e; exact G2.out.2.2))⟩
        clear dV gV fl
        go_wp2
        go_roundw
        case rel => exact ⟨i + 1, _, by omega, by omega, by go_num, GV.out.1, GV.out.2⟩
        case measure => simp [intOf]; omega
      · have HR : Hid (Db wr p b cN m ∧ Below W.heap.size W wr) := ⟨hd, hB⟩
        clear hd hB
        by_cases h1 : (i : Int) < (ln : Int)
        · have h2 : ¬ (i : Int) < 80 := by omega
          have h2' : decide ((i : Int) < 80) = false := by simpa using h2
          clear hit
          go_wp2_with fail
          go_meet
          exact ⟨m, HR.out⟩
        · have h1' : decide ((i : Int) < (ln : Int)) = false := by simpa using h1
          clear hit
          go_wp2_with fail
          go_meet
          exact ⟨m, HR.out⟩
  case rest =>
    obtain ⟨m, hd, hB⟩ := hcut
    have G3 : Hid (Db wc p b cN m ∧ Below W.heap.size W wc ∧ W.heap.size ≤ b) := ⟨hd, hB, G2.out.2.2⟩
    clear hd hB G2
    go_wp2_with fail
    refine (all_any p b cN m _ G3.out.1).mono ?_
    rintro _ W4 ⟨v8, rfl, o8, b4⟩
    obtain ⟨a8, c8, rfl, s8, n8⟩ := o8.form
    have hab : Hid (∀ x, a8 = some x → x.block ≠ b) := fun x hx e => by have := (n8 x hx).1; have := G3.out.1.lt.2; omega
    have G4 : Hid (Db W4 p b cN m ∧ Below W.heap.size W W4 ∧ W.heap.size ≤ b ∧ SlAt W4 a8 m.length c8 m) := ⟨G3.out.1.below b4, below_over G3.out.2.1 b4, G3.out.2.2, s8⟩
    clear o8 s8 n8 b4 G3
    go_wp2_with fail
    refine (all_any p b cN m _ G4.out.1).mono ?_
    rintro _ W5 ⟨v9, rfl, o9, b5⟩
    obtain ⟨a9, c9, rfl, s9⟩ := o9.blk
    have hml : m.length ≤ 4 := by have := G4.out.1.len; simp only [cN] at this; omega
    obtain ⟨n, hn⟩ : ∃ n, m.length = n := ⟨_, rfl⟩
    rw [hn] at s9 ⊢
    have Z4 : Hid (p < W4.heap.size ∧ b < W4.heap.size ∧ (∀ x, a8 = some x → x.block < W4.heap.size) ∧ W.heap.size ≤ W4.heap.size) := ⟨G4.out.1.lt.1, G4.out.1.lt.2, G4.out.2.2.2.blk, G4.out.2.1.size⟩
    have G5 : Hid (Db W5 p b cN m ∧ Below W.heap.size W W5 ∧ W.heap.size ≤ b ∧ SlAt W5 a8 n c8 m ∧ (0 < n → ∃ g N, a9 = some ⟨g, 0, none⟩ ∧ Blk W5 g N ∧ n * 10 ≤ N ∧ W4.heap.size ≤ g) ∧ n ≤ 4) := ⟨G4.out.1.below b5, below_over G4.out.2.1 b5, G4.out.2.2.1, by have := G4.out.2.2.2.below b5; rwa [hn] at this, s9, by omega⟩
    have hn8 : Hid (m.length = n) := hn
    clear o9 s9 b5 G4 hml hn
    go_upto_block 2 with fail
    go_cut [10] from 46 to 55 (fun v10 wx => Db wx p b cN m ∧ Below W.heap.size W wx ∧ SlAt wx a8 n c8 m)
    case first =>
      go_wp2_with fail
      go_loopw [10] (fun v10 wr => ∃ i : Nat, i ≤ n ∧ v10 = .int .i64 i ∧ Db wr p b cN m ∧ Below W.heap.size W wr ∧ SlAt wr a8 n c8 m ∧ (0 < n → ∃ g N, a9 = some ⟨g, 0, none⟩ ∧ Blk wr g N ∧ n * 10 ≤ N ∧ W4.heap.size ≤ g)) (fun v10 _ => n - (intOf v10).toNat)
      case atStart => exact ⟨0, by omega, rfl, G5.out.1, G5.out.2.1, G5.out.2.2.2.1, G5.out.2.2.2.2.1⟩
      case round =>
        obtain ⟨i, hi, rfl, hd, hB, hs, hg⟩ := hrel
        have hi0 : (0 : Int) ≤ (i : Int) := by omega
        have hn4 : (n : Int) ≤ 4 := by have := G5.out.2.2.2.2.2; omega
        by_cases hit : i < n
        · have hi1 : (i : Int) < (n : Int) := by omega
          obtain ⟨g, N, rfl, hk, hN, hg4⟩ := hg (by omega)
          have fz := hk.fz
          obtain ⟨u, hu⟩ := hk.cell (o := i * 10 + 7) (by omega)
          have hset := hk.set (i * 10 + 7) (.int .i64 99)
          obtain ⟨V, hV⟩ : ∃ V, wr.setCell ⟨g, i * 10 + 7, none⟩ (.int .i64 99) = V := ⟨_, rfl⟩
          rw [hV] at hset
          have HV : Hid (Db V p b cN m ∧ Below W.heap.size W V ∧ SlAt V a8 n c8 m ∧ Blk V g N ∧ n * 10 ≤ N ∧ W4.heap.size ≤ g) :=
            ⟨hd.kept hset.2 (fun e => by have := Z4.out.1; cases e; omega) (fun e => by have := Z4.out.2.1; cases e; omega),
              hB.trans (below_of_grown hset.2 hB.size (fun j e => by have := Z4.out.2.2.2; cases e; omega)),
              hs.keptBut hset.2 (fun x hx e => by have := Z4.out.2.2.1 x hx; cases e; omega), hset.1, hN, hg4⟩
          clear hd hB hs hg hk hset
          go_wp2_with fail
          try rw [hV]
          go_roundw
          case rel => exact ⟨i + 1, by omega, by go_num, HV.out.1, HV.out.2.1, HV.out.2.2.1, fun _ => ⟨g, N, rfl, HV.out.2.2.2⟩⟩
          case measure => simp [intOf]; omega
        · have hin : i = n := by omega
          subst hin
          have hin1 : ¬ (i : Int) < (i : Int) := by omega
          have HR : Hid (Db wr p b cN m ∧ Below W.heap.size W wr ∧ SlAt wr a8 i c8 m) := ⟨hd, hB, hs⟩
          clear hd hB hs hg
          go_wp2_with fail
          go_meet
          exact HR.out
    case rest =>
      obtain ⟨hd, hB, hs⟩ := hcut
      obtain ⟨X, hX⟩ : ∃ X, wc = X := ⟨_, rfl⟩
      rw [hX] at hd hB hs ⊢
      clear hX
      have G6 : Hid (Db X p b cN m ∧ Below W.heap.size W X ∧ SlAt X a8 n c8 m ∧ W.heap.size ≤ b ∧ (∀ x, a8 = some x → x.block < W4.heap.size) ∧ b < W4.heap.size ∧ m.length = n ∧ n ≤ 4 ∧ (∀ x, a8 = some x → x.block ≠ b)) := ⟨hd, hB, hs, G5.out.2.2.1, Z4.out.2.2.1, Z4.out.2.1, hn8.out, G5.out.2.2.2.2.2, hab.out⟩
      have ro := H.out.2.1.below hB
      have c0 := ro.cell 0 (.int .i64 o.kind) rfl
      have c1 := ro.cell 1 (.int .i64 o.k.vid) rfl
      have c8' := ro.cell 8 (.int .i64 o.port) rfl
      have c9' := ro.cell 9 (.int .i64 o.tick) rfl
      have cm := ro.omac
      clear hd hB hs G5 Z4 hn8 hab ro

      by_cases k1 : o.kind = 1
      · rw [k1] at c0
        have hk1 : Hid (o.kind = 1) := k1
        clear k1
        go_wp2_with fail
        refine (learn_any p b cN m o.k o.port o.tick _ G6.out.1 H.out.1).mono ?_
        rintro _ V ⟨rfl, dV, gV⟩
        have bV : Below W.heap.size W V := G6.out.2.1.trans (below_of_grown gV G6.out.2.1.size (fun j e => by cases e; exact G6.out.2.2.2.1))
        have sV : SlAt V a8 n c8 m := G6.out.2.2.1.keptBut gV (fun x hx e => by cases e; exact G6.out.2.2.2.2.2.2.2.2 x hx rfl)
        have d0 := (H.out.2.1.below bV).cell 0 (.int .i64 o.kind) rfl
        rw [hk1.out] at d0
        clear c0 c1 c8' c9' cm
        rcases learnS_err cN m o.k o.port o.tick with hE | ⟨hE, hE2⟩
        · rw [hE]
          have GV : Hid (Below W.heap.size W V) := bV
          clear dV gV sV hE bV
          go_wp2
          go_ret
          exact ⟨rfl, below_over H.out.2.2.2 GV.out⟩
        · rw [hE] at dV
          have GV : Hid (Db V p b cN m ∧ Below W.heap.size W V ∧ SlAt V a8 n c8 m) := ⟨dV, bV, sV⟩
          clear dV gV sV hE bV
          obtain ⟨rc, hrc⟩ : ∃ rc, (learnS cN m o.k o.port o.tick).2 = rc := ⟨_, rfl⟩
          rw [hrc] at hE2 ⊢
          clear hrc
          have hE3 : (rc == 0) = false := by simpa using hE2
          have hE4 : decide (rc = 0) = false := by simpa using hE2
          go_wp2_with fail
          refine (all_any p b cN m _ GV.out.1).mono ?_
          rintro _ W7 ⟨v7', rfl, o7, b7⟩
          obtain ⟨a7, c7, rfl, s7, n7⟩ := o7.form
          rw [G6.out.2.2.2.2.2.2.1] at s7 ⊢
          have G7 : Hid (SlAt W7 a7 n c7 m ∧ SlAt W7 a8 n c8 m ∧ Below W.heap.size W W7) := ⟨s7, GV.out.2.2.below b7, below_over GV.out.2.1 b7⟩
          clear o7 s7 n7 b7
          go_wp2_with fail
          refine (same_eq a7 a8 n c7 c8 m _ G7.out.1 G7.out.2.1 (by have := G6.out.2.2.2.2.2.2.2.1; omega)).mono ?_
          rintro _ W8 ⟨rfl, b8⟩
          have G8 : Hid (Below W.heap.size W W8) := below_over G7.out.2.2 b8
          clear b8 G7
          go_wp2
          go_ret
          exact ⟨rfl, below_over H.out.2.2.2 G8.out⟩

      by_cases k2 : o.kind = 2
      · rw [k2] at c0
        have hk2 : Hid (o.kind = 2) := k2
        clear k1 k2
        go_wp2_with fail
        refine (static_any p b cN m o.k o.port _ G6.out.1 H.out.1).mono ?_
        rintro _ V ⟨rfl, dV, gV⟩
        have bV : Below W.heap.size W V := G6.out.2.1.trans (below_of_grown gV G6.out.2.1.size (fun j e => by cases e; exact G6.out.2.2.2.1))
        have sV : SlAt V a8 n c8 m := G6.out.2.2.1.keptBut gV (fun x hx e => by cases e; exact G6.out.2.2.2.2.2.2.2.2 x hx rfl)
        have d0 := (H.out.2.1.below bV).cell 0 (.int .i64 o.kind) rfl
        rw [hk2.out] at d0
        clear c0 c1 c8' c9' cm
        rcases staticS_err cN m o.k o.port with hE | ⟨hE, hE2⟩
        · rw [hE]
          have GV : Hid (Below W.heap.size W V) := bV
          clear dV gV sV hE bV
          go_wp2
          go_ret
          exact ⟨rfl, below_over H.out.2.2.2 GV.out⟩
        · rw [hE] at dV
          have GV : Hid (Db V p b cN m ∧ Below W.heap.size W V ∧ SlAt V a8 n c8 m) := ⟨dV, bV, sV⟩
          clear dV gV sV hE bV
          obtain ⟨rc, hrc⟩ : ∃ rc, (staticS cN m o.k o.port).2 = rc := ⟨_, rfl⟩
          rw [hrc] at hE2 ⊢
          clear hrc
          have hE3 : (rc == 0) = false := by simpa using hE2
          have hE4 : decide (rc = 0) = false := by simpa using hE2
          go_wp2_with fail
          refine (all_any p b cN m _ GV.out.1).mono ?_
          rintro _ W7 ⟨v7', rfl, o7, b7⟩
          obtain ⟨a7, c7, rfl, s7, n7⟩ := o7.form
          rw [G6.out.2.2.2.2.2.2.1] at s7 ⊢
          have G7 : Hid (SlAt W7 a7 n c7 m ∧ SlAt W7 a8 n c8 m ∧ Below W.heap.size W W7) := ⟨s7, GV.out.2.2.below b7, below_over GV.out.2.1 b7⟩
          clear o7 s7 n7 b7
          go_wp2_with fail
          refine (same_eq a7 a8 n c7 c8 m _ G7.out.1 G7.out.2.1 (by have := G6.out.2.2.2.2.2.2.2.1; omega)).mono ?_
          rintro _ W8 ⟨rfl, b8⟩
          have G8 : Hid (Below W.heap.size W W8) := below_over G7.out.2.2 b8
          clear b8 G7
          go_wp2
          go_ret
          exact ⟨rfl, below_over H.out.2.2.2 G8.out⟩

      by_cases k3 : o.kind = 3
      · rw [k3] at c0
        have hk3 : Hid (o.kind = 3) := k3
        clear k1 k2 k3
        go_wp2_with fail
        refine (unstatic_any p b cN m o.k _ G6.out.1 H.out.1).mono ?_
        rintro _ V ⟨rfl, dV, gV⟩
        have bV : Below W.heap.size W V := G6.out.2.1.trans (below_of_grown gV G6.out.2.1.size (fun j e => by cases e; exact G6.out.2.2.2.1))
        have sV : SlAt V a8 n c8 m := G6.out.2.2.1.keptBut gV (fun x hx e => by cases e; exact G6.out.2.2.2.2.2.2.2.2 x hx rfl)
        have d0 := (H.out.2.1.below bV).cell 0 (.int .i64 o.kind) rfl
        rw [hk3.out] at d0
        clear c0 c1 c8' c9' cm
        rcases unstaticS_err m o.k with hE | ⟨hE, hE2⟩
        · rw [hE]
          have GV : Hid (Below W.heap.size W V) := bV
          clear dV gV sV hE bV
          go_wp2
          go_ret
          exact ⟨rfl, below_over H.out.2.2.2 GV.out⟩
        · rw [hE] at dV
          have GV : Hid (Db V p b cN m ∧ Below W.heap.size W V ∧ SlAt V a8 n c8 m) := ⟨dV, bV, sV⟩
          clear dV gV sV hE bV
          obtain ⟨rc, hrc⟩ : ∃ rc, (unstaticS m o.k).2 = rc := ⟨_, rfl⟩
          rw [hrc] at hE2 ⊢
          clear hrc
          have hE3 : (rc == 0) = false := by simpa using hE2
          have hE4 : decide (rc = 0) = false := by simpa using hE2
          go_wp2_with fail
          refine (all_any p b cN m _ GV.out.1).mono ?_
          rintro _ W7 ⟨v7', rfl, o7, b7⟩
          obtain ⟨a7, c7, rfl, s7, n7⟩ := o7.form
          rw [G6.out.2.2.2.2.2.2.1] at s7 ⊢
          have G7 : Hid (SlAt W7 a7 n c7 m ∧ SlAt W7 a8 n c8 m ∧ Below W.heap.size W W7) := ⟨s7, GV.out.2.2.below b7, below_over GV.out.2.1 b7⟩
          clear o7 s7 n7 b7
          go_wp2_with fail
          refine (same_eq a7 a8 n c7 c8 m _ G7.out.1 G7.out.2.1 (by have := G6.out.2.2.2.2.2.2.2.1; omega)).mono ?_
          rintro _ W8 ⟨rfl, b8⟩
          have G8 : Hid (Below W.heap.size W W8) := below_over G7.out.2.2 b8
          clear b8 G7
          go_wp2
          go_ret
          exact ⟨rfl, below_over H.out.2.2.2 G8.out⟩

      have GV : Hid (Db X p b cN m ∧ Below W.heap.size W X ∧ SlAt X a8 n c8 m) := ⟨G6.out.1, G6.out.2.1, G6.out.2.2.1⟩
      have k1' : (o.kind == 1) = false := by simpa using k1
      have k2' : (o.kind == 2) = false := by simpa using k2
      have k3' : (o.kind == 3) = false := by simpa using k3
      go_wp2_with fail
      refine (all_any p b cN m _ GV.out.1).mono ?_
      rintro _ W7 ⟨v7', rfl, o7, b7⟩
      obtain ⟨a7, c7, rfl, s7, n7⟩ := o7.form
      rw [G6.out.2.2.2.2.2.2.1] at s7 ⊢
      have G7 : Hid (SlAt W7 a7 n c7 m ∧ SlAt W7 a8 n c8 m ∧ Below W.heap.size W W7) := ⟨s7, GV.out.2.2.below b7, below_over GV.out.2.1 b7⟩
      clear o7 s7 n7 b7
      go_wp2_with fail
      refine (same_eq a7 a8 n c7 c8 m _ G7.out.1 G7.out.2.1 (by have := G6.out.2.2.2.2.2.2.2.1; omega)).mono ?_
      rintro _ W8 ⟨rfl, b8⟩
      have G8 : Hid (Below W.heap.size W W8) := below_over G7.out.2.2 b8
      clear b8 G7
      go_wp2
      go_ret
      exact ⟨rfl, below_over H.out.2.2.2 G8.out⟩

end Go.Proofs.Ytpbpofmlpbobmaa
