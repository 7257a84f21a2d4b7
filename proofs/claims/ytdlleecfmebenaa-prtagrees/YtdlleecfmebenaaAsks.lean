/-
  What machines ask of a tree: settled, AllSynced, ReRooted, Delay and the definition's: their walks, for every tree.
-/
import Derived.Test.YtdlleecfmebenaaTrees
import Derived.Test.YtdlleecfmebenaaTail
namespace Go.Proofs.Ytdlleecfmebenaa
set_option linter.unusedVariables false
set_option maxRecDepth 4000
set_option linter.unusedSimpArgs false
open Go.RowKit

/-- Has a port the role that was selected for it? -/
def setlP (p : Pt) : Bool := p.bt 22 && !p.bt 28 && decide (p.nm 30 = p.nm 31)
/-- Is the port at place k no hindrance, as i asks? -/
def okS (i : Int) (k : Nat) (p : Pt) : Bool := setlP p && (decide ((k : Int) = i) || p.bt 25 || decide (p.nm 30 = 3))
def okR (i : Int) (k : Nat) (p : Pt) : Bool := decide ((k : Int) = i) || decide (p.nm 70 = 0)
def allK (f : Nat → Pt → Bool) (l : List Pt) : Bool := (List.range l.length).all fun k => f k (gtP l k)
theorem allK_yes {f : Nat → Pt → Bool} {l : List Pt} (h : ∀ k, k < l.length → f k (gtP l k) = true) : allK f l = true := by
  unfold allK
  rw [List.all_eq_true]
  intro k hk
  exact h k (by simpa using hk)
theorem allK_no {f : Nat → Pt → Bool} {l : List Pt} {k : Nat} (hk : k < l.length) (h : f k (gtP l k) = false) : allK f l = false := by
  cases e : allK f l with
  | false => rfl
  | true =>
    unfold allK at e
    rw [List.all_eq_true] at e
    have := e k (by simpa using hk)
    rw [h] at this
    cases this
def delayP (p : Pt) : Int := if p.bt 23 = true then p.nm 42 else p.nm 43
attribute [local go_sem ↓] ldP stP ldT stT
theorem zeroPortA (w : World) : (zeroValue 45).run Try.prog w = .ok (.agg zeroP.cs) w := by kernel_rfl
attribute [local go_sem] zeroPortA
attribute [local go_sem ↓] alP
attribute [local go_sem] alP_run
theorem one_p (w : World) (p : Pt) : ∃ W, w.alloc (.cells p.cs 45) = W ∧ RvAt W w.heap.size 45 p.cs ∧ Below w.heap.size w W :=
  ⟨_, rfl, RvAt.new w _ _, (Below.refl _ _).alloc (Nat.le_refl _) _⟩
set_option maxHeartbeats 4000000 in
theorem settled_any (p : Pt) (w : World) : Calls Try.prog 74 #[.agg p.cs] w fun r w' => r = .returned (.bool (setlP p)) ∧ Below w.heap.size w w' := by
  obtain ⟨W, hW, r0, bW⟩ := one_p w p
  have c22 := r0.pbit (j := 22) rfl
  have c28 := r0.pbit (j := 28) rfl
  have c30 := r0.pnum (j := 30) rfl
  have c31 := r0.pnum (j := 31) rfl
  have H : Hid (Below w.heap.size w W) := bW
  have E : Hid (setlP p = (p.bt 22 && !p.bt 28 && decide (p.nm 30 = p.nm 31))) := rfl
  generalize p.nm 30 = x at c30 E
  generalize p.nm 31 = y at c31 E
  clear r0 bW
  go_enter Try.func74, Try.ntmps74
  cases h22 : p.bt 22 <;> rw [h22] at c22 E
  · go_wp2
    go_ret
    exact ⟨by rw [E.out]; rfl, H.out⟩
  · cases h28 : p.bt 28 <;> rw [h28] at c28 E
    · by_cases hx : x = y
      · subst hx
        go_wp2
        go_ret
        exact ⟨by rw [E.out]; simp, H.out⟩
      · have hxb : (x == y) = false := by simpa using hx
        have hxn : (x != y) = true := by simpa using hx
        go_wp2
        go_ret
        exact ⟨by rw [E.out]; simp [hx], H.out⟩
    · go_wp2
      go_ret
      exact ⟨by rw [E.out]; rfl, H.out⟩
set_option maxHeartbeats 4000000 in
theorem delay_any (p : Pt) (w : World) : Calls Try.prog 73 #[.agg p.cs] w fun r w' => r = .returned (.int .u8 (delayP p)) ∧ Below w.heap.size w w' := by
  obtain ⟨W, hW, r0, bW⟩ := one_p w p
  have c23 := r0.pbit (j := 23) rfl
  have c42 := r0.pnum (j := 42) rfl
  have c43 := r0.pnum (j := 43) rfl
  have H : Hid (Below w.heap.size w W) := bW
  clear r0 bW
  go_enter Try.func73, Try.ntmps73
  cases h23 : p.bt 23 <;> rw [h23] at c23
  · go_wp2
    go_ret
    exact ⟨by unfold delayP; rw [h23]; rfl, H.out⟩
  · go_wp2
    go_ret
    exact ⟨by unfold delayP; rw [h23]; rfl, H.out⟩
set_option maxHeartbeats 4000000 in
theorem rdelay_any (p : Pt) (w : World) : Calls Try.prog 35 #[.agg p.cs] w fun r w' => r = .returned (.int .u8 (delayP p)) ∧ Below w.heap.size w w' := by
  obtain ⟨W, hW, r0, bW⟩ := one_p w p
  have c23 := r0.pbit (j := 23) rfl
  have c42 := r0.pnum (j := 42) rfl
  have c43 := r0.pnum (j := 43) rfl
  have H : Hid (Below w.heap.size w W) := bW
  clear r0 bW
  go_enter Try.func35, Try.ntmps35
  cases h23 : p.bt 23 <;> rw [h23] at c23
  · go_wp2
    go_ret
    exact ⟨by unfold delayP; rw [h23]; rfl, H.out⟩
  · go_wp2
    go_ret
    exact ⟨by unfold delayP; rw [h23]; rfl, H.out⟩
@[go_sem] theorem ixB0 (a b c : Bool) (w : World) : (Instr.index 75 (.agg #[.bool a, .bool b, .bool c]) (.int .i64 0)).run Try.prog w = .ok (.bool a) w := by kernel_rfl
@[go_sem] theorem ixB1 (a b c : Bool) (w : World) : (Instr.index 75 (.agg #[.bool a, .bool b, .bool c]) (.int .i64 1)).run Try.prog w = .ok (.bool b) w := by kernel_rfl
@[go_sem] theorem ixB2 (a b c : Bool) (w : World) : (Instr.index 75 (.agg #[.bool a, .bool b, .bool c]) (.int .i64 2)).run Try.prog w = .ok (.bool c) w := by kernel_rfl
set_option maxHeartbeats 8000000 in
theorem allS_any (h : Hd) (a : Option Addr) (n c : Nat) (l : List Pt) (i : Int) (w : World) (hs : SlAt w a n c l) (hn : n ≤ 1000) :
    Calls Try.prog 70 #[.agg (trc h (.slice a n c)), .int .i64 i] w fun r w' => r = .returned (.bool (allK (okS i) l)) ∧ Below w.heap.size w w' := by
  obtain ⟨W, hW, r0, bW, zW⟩ := one_t w h (.slice a n c)
  have H : Hid (SlAt W a n c l ∧ n ≤ 1000 ∧ l.length = n ∧ Below w.heap.size w W) := ⟨hs.below bW, hn, hs.len, bW⟩
  have c16 := r0.t16
  have hnn : (n : Int) ≤ 1000 := by omega
  clear hs hn r0 bW zW
  go_enter Try.func70, Try.ntmps70
  go_wp2_with fail
  go_step3
  go_wp2_with fail
  go_step3
  go_wp2_with fail
  go_loopw [12] (fun v12 wr => ∃ k : Nat, k ≤ n ∧ v12 = .int .i64 k ∧ (∀ j, j < k → okS i j (gtP l j) = true) ∧ Below W.heap.size W wr) (fun v12 _ => n - (intOf v12).toNat)
  case atStart => exact ⟨0, by omega, rfl, fun j hj => by omega, by first | exact Below.refl _ _ | (rw [← hW]; exact Below.refl _ _)⟩
  case round =>
    obtain ⟨k, hk, rfl, ht, hB⟩ := hrel
    have J : Hid ((∀ j, j < k → okS i j (gtP l j) = true) ∧ Below W.heap.size W wr) := ⟨ht, hB⟩
    have hin0 : (0 : Int) ≤ (k : Int) := by omega
    by_cases hit : k < n
    · have hin1 : (k : Int) < (n : Int) := by omega
      have hkl : k < l.length := by rw [H.out.2.2.1]; exact hit
      obtain ⟨b, o, rfl⟩ := H.out.1.some' (by omega)
      obtain ⟨x, hx⟩ : ∃ x, gtP l k = x := ⟨_, rfl⟩
      have lp := (H.out.1.below hB).ld (gtP_at hkl)
      rw [hx] at lp
      obtain ⟨V, sV, rV, bV, zV⟩ := row_new rtP wr zeroP.cs x.cs (by rw [Row.csize, lenP]) (by rw [Row.csize, lenP]) (Row.one' _)
      have lv := rV.pld
      have HK : Hid (k < l.length ∧ gtP l k = x) := ⟨hkl, hx⟩
      have R : Hid (RvAt V wr.heap.size 45 x.cs ∧ Below W.heap.size W V) := ⟨rV, below_over hB bV⟩
      clear ht hB rV bV zV hkl hx
      go_wp2_with fail
      refine (settled_any x V).mono ?_
      rintro _ V2 ⟨rfl, b2⟩
      have J4 : Hid (Below W.heap.size W V2) := below_over R.out.2 b2
      have r2 := R.out.1.below b2
      have c25 := r2.pbit (j := 25) rfl
      have c30 := r2.pnum (j := 30) rfl
      have E : Hid (okS i k (gtP l k) = (setlP x && (decide ((k : Int) = i) || x.bt 25 || decide (x.nm 30 = 3)))) := by rw [HK.out.2]; exact rfl
      generalize x.nm 30 = y at c30 E
      clear sV lv lp b2 r2
      have NX0 : okS i k (gtP l k) = true → ∀ j, j < k + 1 → okS i j (gtP l j) = true := fun e j hj => by
        by_cases hjk : j = k
        · rw [hjk]; exact e
        · exact J.out.1 j (by omega)
      cases h1 : setlP x <;> rw [h1] at E
      · have NO : Hid (allK (okS i) l = false) := allK_no HK.out.1 (by rw [E.out]; rfl)
        clear NX0
        go_wp2
        rw [Exit.noGoto_ret]
        go_ret
        exact ⟨by rw [NO.out]; rfl, below_over H.out.2.2.2 J4.out⟩
      · by_cases h2 : (k : Int) = i
        · have NX : Hid (∀ j, j < k + 1 → okS i j (gtP l j) = true) := NX0 (by rw [E.out]; simp [h2])
          clear NX0
          subst h2
          go_wp2_with fail
          go_rounds 4
          go_roundw
          case rel => exact ⟨k + 1, by omega, by go_num, NX.out, J4.out⟩
          case measure => simp [intOf]; omega
        · have h2b : ((k : Int) == i) = false := by simpa using h2
          have h2n : ((k : Int) != i) = true := by simpa using h2
          cases h3 : x.bt 25 <;> rw [h3] at c25 E
          · by_cases h4 : y = 3
            · have NX : Hid (∀ j, j < k + 1 → okS i j (gtP l j) = true) := NX0 (by rw [E.out]; simp [h4])
              clear NX0
              subst h4
              go_wp2_with fail
              go_rounds 4
              go_roundw
              case rel => exact ⟨k + 1, by omega, by go_num, NX.out, J4.out⟩
              case measure => simp [intOf]; omega
            · have h4b : (y == 3) = false := by simpa using h4
              have h4n : (y != 3) = true := by simpa using h4
              have NO : Hid (allK (okS i) l = false) := allK_no HK.out.1 (by rw [E.out]; simp [h2, h4])
              clear NX0
              go_wp2_with fail
              go_rounds 4
              rw [Exit.noGoto_ret]
              go_ret
              exact ⟨by rw [NO.out]; rfl, below_over H.out.2.2.2 J4.out⟩
          · have NX : Hid (∀ j, j < k + 1 → okS i j (gtP l j) = true) := NX0 (by rw [E.out]; simp)
            clear NX0
            go_wp2_with fail
            go_rounds 4
            go_roundw
            case rel => exact ⟨k + 1, by omega, by go_num, NX.out, J4.out⟩
            case measure => simp [intOf]; omega
    · have hin : k = n := by omega
      subst hin
      have hin1 : ¬ (k : Int) < (k : Int) := by omega
      clear ht hB
      go_wp2
      try rw [Exit.noGoto_ret]
      go_ret
      exact ⟨by rw [allK_yes (fun j hj => J.out.1 j (by rw [H.out.2.2.1] at hj; exact hj))]; rfl, below_over H.out.2.2.2 J.out.2⟩
set_option maxHeartbeats 8000000 in
theorem rallS_any (h : Hd) (a : Option Addr) (n c : Nat) (l : List Pt) (i : Int) (w : World) (hs : SlAt w a n c l) (hn : n ≤ 1000) :
    Calls Try.prog 14 #[.agg (trc h (.slice a n c)), .int .i64 i] w fun r w' => r = .returned (.bool (allK (okS i) l)) ∧ Below w.heap.size w w' := by
  obtain ⟨W, hW, r0, bW, zW⟩ := one_t w h (.slice a n c)
  have H : Hid (SlAt W a n c l ∧ n ≤ 1000 ∧ l.length = n ∧ Below w.heap.size w W ∧ RvAt W w.heap.size 31 (trc h (.slice a n c))) := ⟨hs.below bW, hn, hs.len, bW, r0⟩
  have c16 := r0.t16
  have hnn : (n : Int) ≤ 1000 := by omega
  clear hs hn r0 bW zW
  go_enter Try.func14, Try.ntmps14
  go_wp2_with fail
  clear c16
  go_loopw [5] (fun v5 wr => ∃ k : Nat, k ≤ n ∧ v5 = .int .i64 k ∧ (∀ j, j < k → okS i j (gtP l j) = true) ∧ Below W.heap.size W wr) (fun v5 _ => n - (intOf v5).toNat)
  case atStart => exact ⟨0, by omega, rfl, fun j hj => by omega, by first | exact Below.refl _ _ | (rw [← hW]; exact Below.refl _ _)⟩
  case round =>
    obtain ⟨k, hk, rfl, ht, hB⟩ := hrel
    have J : Hid ((∀ j, j < k → okS i j (gtP l j) = true) ∧ Below W.heap.size W wr) := ⟨ht, hB⟩
    have hin0 : (0 : Int) ≤ (k : Int) := by omega
    have c16 := (H.out.2.2.2.2.below hB).t16
    have NX0 : okS i k (gtP l k) = true → ∀ j, j < k + 1 → okS i j (gtP l j) = true := fun e j hj => by
      by_cases hjk : j = k
      · rw [hjk]; exact e
      · exact J.out.1 j (by omega)
    by_cases hit : k < n
    · have hin1 : (k : Int) < (n : Int) := by omega
      have hkl : k < l.length := by rw [H.out.2.2.1]; exact hit
      obtain ⟨b, o, rfl⟩ := H.out.1.some' (by omega)
      obtain ⟨x, hx⟩ : ∃ x, gtP l k = x := ⟨_, rfl⟩
      have HK : Hid (k < l.length ∧ gtP l k = x) := ⟨hkl, hx⟩
      have lp := (H.out.1.below hB).ld (gtP_at hkl)
      rw [hx] at lp
      obtain ⟨V, sV, rV, bV, zV⟩ := row_new rtP wr zeroP.cs x.cs (by rw [Row.csize, lenP]) (by rw [Row.csize, lenP]) (Row.one' _)
      have R : Hid (Below W.heap.size W V) := below_over hB bV
      have c22 := rV.pbit (j := 22) rfl
      have c28 := rV.pbit (j := 28) rfl
      have c25 := rV.pbit (j := 25) rfl
      have c30 := rV.pnum (j := 30) rfl
      have c31 := rV.pnum (j := 31) rfl
      have E : Hid (okS i k (gtP l k) = ((x.bt 22 && !x.bt 28 && decide (x.nm 30 = x.nm 31)) && (decide ((k : Int) = i) || x.bt 25 || decide (x.nm 30 = 3)))) := by rw [HK.out.2]; exact rfl
      generalize x.nm 30 = y at c30 E
      generalize x.nm 31 = z at c31 E
      clear ht hB rV bV zV hkl hx
      cases h1 : x.bt 22 <;> rw [h1] at c22 E
      · skip
        have NO : Hid (allK (okS i) l = false) := allK_no HK.out.1 (by rw [E.out]; rfl)
        clear NX0
        go_wp2
        try rw [Exit.noGoto_ret]
        go_ret
        exact ⟨by rw [NO.out]; rfl, below_over H.out.2.2.2.1 R.out⟩
      · cases h2 : x.bt 28 <;> rw [h2] at c28 E
        · by_cases h3 : y = z
          · subst h3
            by_cases h4 : (k : Int) = i
            · subst h4
              have h4b : ((k : Int) == (k : Int)) = true := by simp
              have NX : Hid (∀ j, j < k + 1 → okS (k : Int) j (gtP l j) = true) := NX0 (by rw [E.out]; simp)
              clear NX0
              go_wp2
              go_roundw
              case rel => exact ⟨k + 1, by omega, by go_num, NX.out, R.out⟩
              case measure => simp [intOf]; omega
            · have h4b : ((k : Int) == i) = false := by simpa using h4
              have h4n : ((k : Int) != i) = true := by simpa using h4
              cases h5 : x.bt 25 <;> rw [h5] at c25 E
              · by_cases h6 : y = 3
                · subst h6
                  have NX : Hid (∀ j, j < k + 1 → okS i j (gtP l j) = true) := NX0 (by rw [E.out]; simp)
                  clear NX0
                  go_wp2
                  go_roundw
                  case rel => exact ⟨k + 1, by omega, by go_num, NX.out, R.out⟩
                  case measure => simp [intOf]; omega
                · have h6b : (y == 3) = false := by simpa using h6
                  have h6n : (y != 3) = true := by simpa using h6
                  have NO : Hid (allK (okS i) l = false) := allK_no HK.out.1 (by rw [E.out]; simp [h4, h6])
                  clear NX0
                  go_wp2
                  try rw [Exit.noGoto_ret]
                  go_ret
                  exact ⟨by rw [NO.out]; rfl, below_over H.out.2.2.2.1 R.out⟩
              · skip
                have NX : Hid (∀ j, j < k + 1 → okS i j (gtP l j) = true) := NX0 (by rw [E.out]; simp)
                clear NX0
                go_wp2
                go_roundw
                case rel => exact ⟨k + 1, by omega, by go_num, NX.out, R.out⟩
                case measure => simp [intOf]; omega
          · have h3b : (y == z) = false := by simpa using h3
            have h3n : (y != z) = true := by simpa using h3
            have NO : Hid (allK (okS i) l = false) := allK_no HK.out.1 (by rw [E.out]; simp [h3])
            clear NX0
            go_wp2
            try rw [Exit.noGoto_ret]
            go_ret
            exact ⟨by rw [NO.out]; rfl, below_over H.out.2.2.2.1 R.out⟩
        · skip
          have NO : Hid (allK (okS i) l = false) := allK_no HK.out.1 (by rw [E.out]; rfl)
          clear NX0
          go_wp2
          try rw [Exit.noGoto_ret]
          go_ret
          exact ⟨by rw [NO.out]; rfl, below_over H.out.2.2.2.1 R.out⟩
    · have hin : k = n := by omega
      subst hin
      have hin1 : ¬ (k : Int) < (k : Int) := by omega
      clear ht hB
      go_wp2
      try rw [Exit.noGoto_ret]
      go_ret
      exact ⟨by rw [allK_yes (fun j hj => J.out.1 j (by rw [H.out.2.2.1] at hj; exact hj))]; rfl, below_over H.out.2.2.2.1 J.out.2⟩
set_option maxHeartbeats 8000000 in
theorem allR_any (h : Hd) (a : Option Addr) (n c : Nat) (l : List Pt) (i : Int) (w : World) (hs : SlAt w a n c l) (hn : n ≤ 1000) :
    Calls Try.prog 69 #[.agg (trc h (.slice a n c)), .int .i64 i] w fun r w' => r = .returned (.bool (allK (okR i) l)) ∧ Below w.heap.size w w' := by
  obtain ⟨W, hW, r0, bW, zW⟩ := one_t w h (.slice a n c)
  have H : Hid (SlAt W a n c l ∧ n ≤ 1000 ∧ l.length = n ∧ Below w.heap.size w W ∧ RvAt W w.heap.size 31 (trc h (.slice a n c))) := ⟨hs.below bW, hn, hs.len, bW, r0⟩
  have c16 := r0.t16
  have hnn : (n : Int) ≤ 1000 := by omega
  clear hs hn r0 bW zW
  go_enter Try.func69, Try.ntmps69
  go_wp2_with fail
  go_step3
  go_wp2_with fail
  go_step3
  go_wp2_with fail
  clear c16
  go_loopw [10] (fun v5 wr => ∃ k : Nat, k ≤ n ∧ v5 = .int .i64 k ∧ (∀ j, j < k → okR i j (gtP l j) = true) ∧ Below W.heap.size W wr) (fun v5 _ => n - (intOf v5).toNat)
  case atStart => exact ⟨0, by omega, rfl, fun j hj => by omega, by first | exact Below.refl _ _ | (rw [← hW]; exact Below.refl _ _)⟩
  case round =>
    obtain ⟨k, hk, rfl, ht, hB⟩ := hrel
    have J : Hid ((∀ j, j < k → okR i j (gtP l j) = true) ∧ Below W.heap.size W wr) := ⟨ht, hB⟩
    have hin0 : (0 : Int) ≤ (k : Int) := by omega
    have c16 := (H.out.2.2.2.2.below hB).t16
    have NX0 : okR i k (gtP l k) = true → ∀ j, j < k + 1 → okR i j (gtP l j) = true := fun e j hj => by
      by_cases hjk : j = k
      · rw [hjk]; exact e
      · exact J.out.1 j (by omega)
    by_cases hit : k < n
    · have hin1 : (k : Int) < (n : Int) := by omega
      have hkl : k < l.length := by rw [H.out.2.2.1]; exact hit
      obtain ⟨b, o, rfl⟩ := H.out.1.some' (by omega)
      obtain ⟨x, hx⟩ : ∃ x, gtP l k = x := ⟨_, rfl⟩
      have HK : Hid (k < l.length ∧ gtP l k = x) := ⟨hkl, hx⟩
      have lp := (H.out.1.below hB).ld (gtP_at hkl)
      rw [hx] at lp
      obtain ⟨V, sV, rV, bV, zV⟩ := row_new rtP wr zeroP.cs x.cs (by rw [Row.csize, lenP]) (by rw [Row.csize, lenP]) (Row.one' _)
      have R : Hid (Below W.heap.size W V) := below_over hB bV
      have c70 := rV.pnum (j := 70) rfl
      have E : Hid (okR i k (gtP l k) = (decide ((k : Int) = i) || decide (x.nm 70 = 0))) := by rw [HK.out.2]; exact rfl
      generalize x.nm 70 = y at c70 E
      clear ht hB rV bV zV hkl hx
      by_cases h4 : (k : Int) = i
      · subst h4
        have NX : Hid (∀ j, j < k + 1 → okR (k : Int) j (gtP l j) = true) := NX0 (by rw [E.out]; simp)
        clear NX0
        go_wp2
        go_roundw
        case rel => exact ⟨k + 1, by omega, by go_num, NX.out, R.out⟩
        case measure => simp [intOf]; omega
      · have h4b : ((k : Int) == i) = false := by simpa using h4
        have h4n : ((k : Int) != i) = true := by simpa using h4
        by_cases h6 : y = 0
        · subst h6
          have NX : Hid (∀ j, j < k + 1 → okR i j (gtP l j) = true) := NX0 (by rw [E.out]; simp)
          clear NX0
          go_wp2
          go_roundw
          case rel => exact ⟨k + 1, by omega, by go_num, NX.out, R.out⟩
          case measure => simp [intOf]; omega
        · have h6b : (y == 0) = false := by simpa using h6
          have h6n : (y != 0) = true := by simpa using h6
          have NO : Hid (allK (okR i) l = false) := allK_no HK.out.1 (by rw [E.out]; simp [h4, h6])
          clear NX0
          go_wp2
          try rw [Exit.noGoto_ret]
          go_ret
          exact ⟨by rw [NO.out]; rfl, below_over H.out.2.2.2.1 R.out⟩
    · have hin : k = n := by omega
      subst hin
      have hin1 : ¬ (k : Int) < (k : Int) := by omega
      clear ht hB
      go_wp2
      try rw [Exit.noGoto_ret]
      go_ret
      exact ⟨by rw [allK_yes (fun j hj => J.out.1 j (by rw [H.out.2.2.1] at hj; exact hj))]; rfl, below_over H.out.2.2.2.1 J.out.2⟩
set_option maxHeartbeats 8000000 in
theorem rallR_any (h : Hd) (a : Option Addr) (n c : Nat) (l : List Pt) (i : Int) (w : World) (hs : SlAt w a n c l) (hn : n ≤ 1000) :
    Calls Try.prog 33 #[.agg (trc h (.slice a n c)), .int .i64 i] w fun r w' => r = .returned (.bool (allK (okR i) l)) ∧ Below w.heap.size w w' := by
  obtain ⟨W, hW, r0, bW, zW⟩ := one_t w h (.slice a n c)
  have H : Hid (SlAt W a n c l ∧ n ≤ 1000 ∧ l.length = n ∧ Below w.heap.size w W ∧ RvAt W w.heap.size 31 (trc h (.slice a n c))) := ⟨hs.below bW, hn, hs.len, bW, r0⟩
  have c16 := r0.t16
  have hnn : (n : Int) ≤ 1000 := by omega
  clear hs hn r0 bW zW
  go_enter Try.func33, Try.ntmps33
  go_wp2_with fail
  clear c16
  go_loopw [5] (fun v5 wr => ∃ k : Nat, k ≤ n ∧ v5 = .int .i64 k ∧ (∀ j, j < k → okR i j (gtP l j) = true) ∧ Below W.heap.size W wr) (fun v5 _ => n - (intOf v5).toNat)
  case atStart => exact ⟨0, by omega, rfl, fun j hj => by omega, by first | exact Below.refl _ _ | (rw [← hW]; exact Below.refl _ _)⟩
  case round =>
    obtain ⟨k, hk, rfl, ht, hB⟩ := hrel
    have J : Hid ((∀ j, j < k → okR i j (gtP l j) = true) ∧ Below W.heap.size W wr) := ⟨ht, hB⟩
    have hin0 : (0 : Int) ≤ (k : Int) := by omega
    have c16 := (H.out.2.2.2.2.below hB).t16
    have NX0 : okR i k (gtP l k) = true → ∀ j, j < k + 1 → okR i j (gtP l j) = true := fun e j hj => by
      by_cases hjk : j = k
      · rw [hjk]; exact e
      · exact J.out.1 j (by omega)
    by_cases hit : k < n
    · have hin1 : (k : Int) < (n : Int) := by omega
      have hkl : k < l.length := by rw [H.out.2.2.1]; exact hit
      obtain ⟨b, o, rfl⟩ := H.out.1.some' (by omega)
      obtain ⟨x, hx⟩ : ∃ x, gtP l k = x := ⟨_, rfl⟩
      have HK : Hid (k < l.length ∧ gtP l k = x) := ⟨hkl, hx⟩
      have c70 : wr.cell? ⟨b, o + k * 77 + 70, none⟩ = some (.int .u8 (x.nm 70)) := by
        have := (H.out.1.below hB).cell (gtP_at hkl) ((gtP l k).num (j := 70) rfl) (by omega)
        rw [hx] at this
        exact this
      have E : Hid (okR i k (gtP l k) = (decide ((k : Int) = i) || decide (x.nm 70 = 0))) := by rw [HK.out.2]; exact rfl
      generalize x.nm 70 = y at c70 E
      clear ht hB hkl hx
      by_cases h4 : (k : Int) = i
      · subst h4
        have NX : Hid (∀ j, j < k + 1 → okR (k : Int) j (gtP l j) = true) := NX0 (by rw [E.out]; simp)
        clear NX0
        go_wp2
        go_roundw
        case rel => exact ⟨k + 1, by omega, by go_num, NX.out, J.out.2⟩
        case measure => simp [intOf]; omega
      · have h4b : ((k : Int) == i) = false := by simpa using h4
        have h4n : ((k : Int) != i) = true := by simpa using h4
        by_cases h6 : y = 0
        · subst h6
          have NX : Hid (∀ j, j < k + 1 → okR i j (gtP l j) = true) := NX0 (by rw [E.out]; simp)
          clear NX0
          go_wp2
          go_roundw
          case rel => exact ⟨k + 1, by omega, by go_num, NX.out, J.out.2⟩
          case measure => simp [intOf]; omega
        · have h6b : (y == 0) = false := by simpa using h6
          have h6n : (y != 0) = true := by simpa using h6
          have NO : Hid (allK (okR i) l = false) := allK_no HK.out.1 (by rw [E.out]; simp [h4, h6])
          clear NX0
          go_wp2
          try rw [Exit.noGoto_ret]
          go_ret
          exact ⟨by rw [NO.out]; rfl, below_over H.out.2.2.2.1 J.out.2⟩
    · have hin : k = n := by omega
      subst hin
      have hin1 : ¬ (k : Int) < (k : Int) := by omega
      clear ht hB
      go_wp2
      try rw [Exit.noGoto_ret]
      go_ret
      exact ⟨by rw [allK_yes (fun j hj => J.out.1 j (by rw [H.out.2.2.1] at hj; exact hj))]; rfl, below_over H.out.2.2.2.1 J.out.2⟩
end Go.Proofs.Ytdlleecfmebenaa
