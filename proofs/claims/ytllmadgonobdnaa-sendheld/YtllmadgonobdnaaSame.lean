/-
  Are two trees one? The library's Equal at ports, Same and the definition's: their walks, for every two trees.
-/
import Derived.Test.YtllmadgonobdnaaCopy
import Derived.Test.YtllmadgonobdnaaTail
namespace Go.Proofs.Ytllmadgonobdnaa
set_option linter.unusedVariables false
set_option maxRecDepth 4000
set_option linter.unusedSimpArgs false
open Go.RowKit

/-- Are two rows of ports one? -/
def eqPs : List Pt → List Pt → Bool
  | [], [] => true
  | a :: l, b :: m => a.eq b && eqPs l m
  | _, _ => false
theorem eqPs_iff : ∀ {l m : List Pt}, eqPs l m = true ↔ l = m
  | [], [] => by simp [eqPs]
  | a :: l, b :: m => by
    have e := eqPs_iff (l := l) (m := m)
    simp only [eqPs, Bool.and_eq_true, List.cons.injEq]
    rw [Row.eq_iff, e]
  | [], _ :: _ => by simp [eqPs]
  | _ :: _, [] => by simp [eqPs]
theorem eqPs_self (l : List Pt) : eqPs l l = true := eqPs_iff.2 rfl
theorem eqPs_not {l m : List Pt} (h : l ≠ m) : eqPs l m = false := by
  cases e : eqPs l m with
  | false => rfl
  | true => exact absurd (eqPs_iff.1 e) h
/-- Are two trees one? -/
def sameT (h g : Hd) (l m : List Pt) : Bool := h.eq g && eqPs l m
theorem sameT_iff {h g : Hd} {l m : List Pt} : sameT h g l m = true ↔ h = g ∧ l = m := by
  unfold sameT
  rw [Bool.and_eq_true, Row.eq_iff, eqPs_iff]
theorem sameT_self (h : Hd) (l : List Pt) : sameT h h l l = true := sameT_iff.2 ⟨rfl, rfl⟩
theorem sameT_not {h g : Hd} {l m : List Pt} (x : ¬ (h = g ∧ l = m)) : sameT h g l m = false := by
  cases e : sameT h g l m with
  | false => rfl
  | true => exact absurd (sameT_iff.1 e) x
theorem sameT_of {h g : Hd} {l m : List Pt} (x : h = g) : sameT h g l m = eqPs l m := by
  rw [Bool.eq_iff_iff, sameT_iff, eqPs_iff]
  exact ⟨fun y => y.2, fun y => ⟨x, y⟩⟩
/-- Heads are one where their parts are. -/
theorem hd_parts {h g : Hd} (e0 : h.nm 0 = g.nm 0) (e1 : tOfH h = tOfH g) (e2 : h.nm 5 = g.nm 5) (e3 : h.bt 6 = g.bt 6) (e4 : h.nm 7 = g.nm 7) (e5 : rOf h = rOf g) (e6 : uOf h = uOf g) : h = g := by
  have q1 := congrArg Row.cl e1
  have q5 := congrArg Row.cl e5
  have q6 := congrArg Row.cl e6
  simp only [tOfH, rOf, uOf] at q1 q5 q6
  have sub : ∀ (o : Nat), (h.cl.drop o).take 4 = (g.cl.drop o).take 4 → ∀ j, j < 4 → h.cl[o + j]? = g.cl[o + j]? := fun o q j hj => by
    have := congrArg (fun x => x[j]?) q
    simp only [List.getElem?_take, if_pos hj, List.getElem?_drop] at this
    exact this
  refine Row.same fun j hj => ?_
  rw [lenH] at hj
  have c0 : h.cl[0]? = g.cl[0]? := by rw [h.num (j := 0) rfl, g.num (j := 0) rfl, e0]
  have c5 : h.cl[5]? = g.cl[5]? := by rw [h.num (j := 5) rfl, g.num (j := 5) rfl, e2]
  have c6 : h.cl[6]? = g.cl[6]? := by rw [h.bit (j := 6) rfl, g.bit (j := 6) rfl, e3]
  have c7 : h.cl[7]? = g.cl[7]? := by rw [h.num (j := 7) rfl, g.num (j := 7) rfl, e4]
  match j, hj with
  | 0, _ => exact c0
  | 1, _ => exact sub 1 q1 0 (by omega)
  | 2, _ => exact sub 1 q1 1 (by omega)
  | 3, _ => exact sub 1 q1 2 (by omega)
  | 4, _ => exact sub 1 q1 3 (by omega)
  | 5, _ => exact c5
  | 6, _ => exact c6
  | 7, _ => exact c7
  | 8, _ => exact sub 8 q5 0 (by omega)
  | 9, _ => exact sub 8 q5 1 (by omega)
  | 10, _ => exact sub 8 q5 2 (by omega)
  | 11, _ => exact sub 8 q5 3 (by omega)
  | 12, _ => exact sub 12 q6 0 (by omega)
  | 13, _ => exact sub 12 q6 1 (by omega)
  | 14, _ => exact sub 12 q6 2 (by omega)
  | 15, _ => exact sub 12 q6 3 (by omega)
  | j + 16, hj => omega
theorem eq_false {ks : List (Option IntKind)} {a b : Row ks} (h : a ≠ b) : a.eq b = false := by
  cases e : a.eq b with
  | false => rfl
  | true => exact absurd (Row.eq_iff.1 e) h
theorem take_next {l m : List Pt} {i : Nat} (hi : i < l.length) (hm : i < m.length) (h : l.take i = m.take i) (e : l[i] = m[i]) : l.take (i + 1) = m.take (i + 1) := by
  rw [List.take_add_one, List.take_add_one, List.getElem?_eq_getElem hi, List.getElem?_eq_getElem hm, h, e]
attribute [local go_sem ↓] ldP stP ldT stT ldTm ldV eqgP neqP eqlP eqgTm neqTm eqlTm eqgV neqV eqlV
theorem two_tt (w : World) (h g : Hd) (x y : Value) : ∃ W, (w.alloc (.cells (trc h x) 31)).alloc (.cells (trc g y) 31) = W ∧ RvAt W w.heap.size 31 (trc h x) ∧ RvAt W (w.heap.size + 1) 31 (trc g y) ∧ Below w.heap.size w W ∧ W.heap.size = w.heap.size + 2 := by
  obtain ⟨A, hA⟩ : ∃ A, w.alloc (.cells (trc h x) 31) = A := ⟨_, rfl⟩
  have bA : Below w.heap.size w A := by rw [← hA]; exact (Below.refl _ _).alloc (Nat.le_refl _) _
  have rA : RvAt A w.heap.size 31 (trc h x) := by rw [← hA]; exact RvAt.new w _ _
  have zA : A.heap.size = w.heap.size + 1 := by rw [← hA]; simp
  rw [hA]
  have bB : Below A.heap.size A (A.alloc (.cells (trc g y) 31)) := (Below.refl _ _).alloc (Nat.le_refl _) _
  refine ⟨_, rfl, rA.below bB, ?_, below_over bA bB, by simp [zA]⟩
  rw [← zA]
  exact RvAt.new A _ _
set_option maxHeartbeats 8000000 in
theorem rsame_any (h g : Hd) (a a' : Option Addr) (n n' c c' : Nat) (l m : List Pt) (w : World) (hs : SlAt w a n c l) (hs' : SlAt w a' n' c' m) (hn : n ≤ 1000) (hn' : n' ≤ 1000) :
    Calls Try.prog 12 #[.agg (trc h (.slice a n c)), .agg (trc g (.slice a' n' c'))] w fun r w' => r = .returned (.bool (sameT h g l m)) ∧ Below w.heap.size w w' := by
  obtain ⟨W, hW, r0, r1, bW, zW⟩ := two_tt w h g (.slice a n c) (.slice a' n' c')
  have H : Hid (SlAt W a n c l ∧ SlAt W a' n' c' m ∧ n ≤ 1000 ∧ n' ≤ 1000 ∧ l.length = n ∧ m.length = n' ∧ Below w.heap.size w W ∧ RvAt W w.heap.size 31 (trc h (.slice a n c)) ∧ RvAt W (w.heap.size + 1) 31 (trc g (.slice a' n' c'))) := ⟨hs.below bW, hs'.below bW, hn, hn', hs.len, hs'.len, bW, r0, r1⟩
  have x0 := r0.tnum (j := 0) rfl
  have y0 := r1.tnum (j := 0) rfl
  have x1 := r0.tT
  have y1 := r1.tT
  have x2 := r0.tnum (j := 5) rfl
  have y2 := r1.tnum (j := 5) rfl
  have x3 := r0.tbit (j := 6) rfl
  have y3 := r1.tbit (j := 6) rfl
  have x4 := r0.tnum (j := 7) rfl
  have y4 := r1.tnum (j := 7) rfl
  have x5 := r0.tR
  have y5 := r1.tR
  have x6 := r0.tU
  have y6 := r1.tU
  have x7 := r0.t16
  have y7 := r1.t16
  clear hs hs' r0 r1 bW zW
  obtain ⟨i0, hi0⟩ : ∃ z, h.nm 0 = z := ⟨_, rfl⟩
  obtain ⟨j0, hj0⟩ : ∃ z, g.nm 0 = z := ⟨_, rfl⟩
  obtain ⟨i2, hi2⟩ : ∃ z, h.nm 5 = z := ⟨_, rfl⟩
  obtain ⟨j2, hj2⟩ : ∃ z, g.nm 5 = z := ⟨_, rfl⟩
  obtain ⟨i3, hi3⟩ : ∃ z, h.bt 6 = z := ⟨_, rfl⟩
  obtain ⟨j3, hj3⟩ : ∃ z, g.bt 6 = z := ⟨_, rfl⟩
  obtain ⟨i4, hi4⟩ : ∃ z, h.nm 7 = z := ⟨_, rfl⟩
  obtain ⟨j4, hj4⟩ : ∃ z, g.nm 7 = z := ⟨_, rfl⟩
  rw [hi0] at x0
  rw [hj0] at y0
  rw [hi2] at x2
  rw [hj2] at y2
  rw [hi3] at x3
  rw [hj3] at y3
  rw [hi4] at x4
  rw [hj4] at y4
  have E : Hid (h.nm 0 = i0 ∧ g.nm 0 = j0 ∧ h.nm 5 = i2 ∧ g.nm 5 = j2 ∧ h.bt 6 = i3 ∧ g.bt 6 = j3 ∧ h.nm 7 = i4 ∧ g.nm 7 = j4) := ⟨hi0, hj0, hi2, hj2, hi3, hj3, hi4, hj4⟩
  clear hi0 hj0 hi2 hj2 hi3 hj3 hi4 hj4
  go_enter Try.func12, Try.ntmps12
  by_cases k0 : i0 = j0
  rotate_left
  · have kb : (i0 == j0) = false := by simpa using k0
    have N : Hid (¬ (h = g ∧ l = m)) := fun e => k0 (by rw [← E.out.1, ← E.out.2.1, e.1])
    go_wp2
    go_ret
    exact ⟨by rw [sameT_not N.out]; rfl, H.out.2.2.2.2.2.2.1⟩
  subst k0
  by_cases k1 : tOfH h = tOfH g
  rotate_left
  · have kb : (tOfH h).eq (tOfH g) = false := eq_false k1
    have N : Hid (¬ (h = g ∧ l = m)) := fun e => k1 (by rw [e.1])
    go_wp2
    go_ret
    exact ⟨by rw [sameT_not N.out]; rfl, H.out.2.2.2.2.2.2.1⟩
  have kb1 : (tOfH h).eq (tOfH g) = true := Row.eq_iff.2 k1
  have KB1 : Hid (tOfH h = tOfH g) := k1
  clear k1
  by_cases k2 : i2 = j2
  rotate_left
  · have kb : (i2 == j2) = false := by simpa using k2
    have N : Hid (¬ (h = g ∧ l = m)) := fun e => k2 (by rw [← E.out.2.2.1, ← E.out.2.2.2.1, e.1])
    go_wp2
    go_ret
    exact ⟨by rw [sameT_not N.out]; rfl, H.out.2.2.2.2.2.2.1⟩
  subst k2
  by_cases k3 : i3 = j3
  rotate_left
  · have N : Hid (¬ (h = g ∧ l = m)) := fun e => k3 (by rw [← E.out.2.2.2.2.1, ← E.out.2.2.2.2.2.1, e.1])
    cases i3 <;> cases j3
    · exact absurd rfl k3
    · go_wp2
      go_ret
      exact ⟨by rw [sameT_not N.out]; rfl, H.out.2.2.2.2.2.2.1⟩
    · go_wp2
      go_ret
      exact ⟨by rw [sameT_not N.out]; rfl, H.out.2.2.2.2.2.2.1⟩
    · exact absurd rfl k3
  subst k3
  by_cases k4 : i4 = j4
  rotate_left
  · have kb : (i4 == j4) = false := by simpa using k4
    have N : Hid (¬ (h = g ∧ l = m)) := fun e => k4 (by rw [← E.out.2.2.2.2.2.2.1, ← E.out.2.2.2.2.2.2.2, e.1])
    go_wp2
    go_ret
    exact ⟨by rw [sameT_not N.out]; rfl, H.out.2.2.2.2.2.2.1⟩
  subst k4
  by_cases k5 : rOf h = rOf g
  rotate_left
  · have kb : (rOf h).eq (rOf g) = false := eq_false k5
    have N : Hid (¬ (h = g ∧ l = m)) := fun e => k5 (by rw [e.1])
    go_wp2
    go_ret
    exact ⟨by rw [sameT_not N.out]; rfl, H.out.2.2.2.2.2.2.1⟩
  have kb5 : (rOf h).eq (rOf g) = true := Row.eq_iff.2 k5
  have KB5 : Hid (rOf h = rOf g) := k5
  clear k5
  by_cases k6 : uOf h = uOf g
  rotate_left
  · have kb : (uOf h).eq (uOf g) = false := eq_false k6
    have N : Hid (¬ (h = g ∧ l = m)) := fun e => k6 (by rw [e.1])
    go_wp2
    go_ret
    exact ⟨by rw [sameT_not N.out]; rfl, H.out.2.2.2.2.2.2.1⟩
  have kb6 : (uOf h).eq (uOf g) = true := Row.eq_iff.2 k6
  have KB6 : Hid (uOf h = uOf g) := k6
  clear k6
  have HE : Hid (h = g) := hd_parts (E.out.1.trans E.out.2.1.symm) KB1.out (E.out.2.2.1.trans E.out.2.2.2.1.symm) (E.out.2.2.2.2.1.trans E.out.2.2.2.2.2.1.symm) (E.out.2.2.2.2.2.2.1.trans E.out.2.2.2.2.2.2.2.symm) KB5.out KB6.out
  by_cases he : n = n'
  rotate_left
  · have hne : ¬ (n : Int) = (n' : Int) := by omega
    have hnb : ((n : Int) == (n' : Int)) = false := by simpa using hne
    have N : Hid (¬ (h = g ∧ l = m)) := fun e => he (by rw [← H.out.2.2.2.2.1, ← H.out.2.2.2.2.2.1, e.2])
    go_wp2
    go_ret
    exact ⟨by rw [sameT_not N.out]; rfl, H.out.2.2.2.2.2.2.1⟩
  subst he
  go_wp2_with fail
  clear x0 y0 x1 y1 x2 y2 x3 y3 x4 y4 x5 y5 x6 y6 x7 y7
  go_loopw [5] (fun v5 wr => ∃ i : Nat, i ≤ n ∧ v5 = .int .i64 i ∧ l.take i = m.take i ∧ Below W.heap.size W wr) (fun v5 _ => n - (intOf v5).toNat)
  case atStart => exact ⟨0, by omega, rfl, rfl, by first | exact Below.refl _ _ | (rw [← hW]; exact Below.refl _ _)⟩
  case round =>
    obtain ⟨i, hi, rfl, ht, hB⟩ := hrel
    have J : Hid (l.take i = m.take i ∧ Below W.heap.size W wr) := ⟨ht, hB⟩
    have hin0 : (0 : Int) ≤ (i : Int) := by omega
    have u7 := (H.out.2.2.2.2.2.2.2.1.below hB).t16
    by_cases hit : i < n
    · have hin1 : (i : Int) < (n : Int) := by omega
      obtain ⟨b, o, rfl⟩ := H.out.1.some' (by omega)
      obtain ⟨b', o', rfl⟩ := H.out.2.1.some' (by omega)
      have hl : i < l.length := by rw [H.out.2.2.2.2.1]; exact hit
      have hm : i < m.length := by rw [H.out.2.2.2.2.2.1]; exact hit
      have s1 := fun z : Later wr => ((H.out.1.below hB).below z.below).ld (List.getElem?_eq_getElem hl)
      have s2 := fun z : Later wr => ((H.out.2.1.below hB).below z.below).ld (List.getElem?_eq_getElem hm)
      have s3 := fun z : Later wr => ((H.out.2.2.2.2.2.2.2.1.below hB).below z.below).t16
      have s4 := fun z : Later wr => ((H.out.2.2.2.2.2.2.2.2.below hB).below z.below).t16
      by_cases hx : l[i] = m[i]
      · have ex : (l[i]).eq m[i] = true := Row.eq_iff.2 hx
        have N : Hid (l.take (i + 1) = m.take (i + 1)) := take_next hl hm ht hx
        generalize l[i] = x at s1 ex
        generalize m[i] = y at s2 ex
        clear ht hB hx
        go_wp2_with fail
        refine wp_region_later (by kernel_rfl) (by kernel_rfl) ?_
        repeat (go_big_quiet_step (first | exact rfl))
        refine wpQuiet_nil ?_
        intro _ hw'
        obtain ⟨z, rfl⟩ := hw'
        clear s1 s2 s3 s4 ex
        go_wp2
        go_roundw
        case rel => exact ⟨i + 1, by omega, by go_num, N.out, below_over J.out.2 z.below⟩
        case measure => simp [intOf]; omega
      · have ex : (l[i]).eq m[i] = false := eq_false hx
        have N : Hid (¬ (h = g ∧ l = m)) := fun e => hx (by obtain ⟨_, rfl⟩ := e; rfl)
        generalize l[i] = x at s1 ex
        generalize m[i] = y at s2 ex
        clear ht hB hx
        go_wp2_with fail
        refine wp_region_later (by kernel_rfl) (by kernel_rfl) ?_
        repeat (go_big_quiet_step (first | exact rfl))
        refine wpQuiet_nil ?_
        intro _ hw'
        obtain ⟨z, rfl⟩ := hw'
        clear s1 s2 s3 s4 ex
        go_wp2
        go_ret
        exact ⟨by rw [sameT_not N.out]; rfl, below_over H.out.2.2.2.2.2.2.1 (below_over J.out.2 z.below)⟩
    · have hin : i = n := by omega
      subst hin
      have hin1 : ¬ (i : Int) < (i : Int) := by omega
      clear ht hB
      go_wp2
      go_ret
      refine ⟨?_, below_over H.out.2.2.2.2.2.2.1 J.out.2⟩
      have e := J.out.1
      rw [List.take_of_length_le (by rw [H.out.2.2.2.2.1]; omega), List.take_of_length_le (by rw [H.out.2.2.2.2.2.1]; omega)] at e
      rw [sameT_of HE.out, e, eqPs_self]
      rfl
end Go.Proofs.Ytllmadgonobdnaa
