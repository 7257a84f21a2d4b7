/-
  All rules of a port: the walks of rulesOfState and rules.
-/
import Derived.Test.YtdlleecfmebenaaRulD
import Derived.Test.YtdlleecfmebenaaRulR
import Derived.Test.YtdlleecfmebenaaRulT
namespace Go.Proofs.Ytdlleecfmebenaa
set_option linter.unusedVariables false
set_option maxRecDepth 4000
set_option linter.unusedSimpArgs false
open Go.RowKit

/-- What is so of a port in its state, and what it then does. -/
def stR (l : List Pt) (k : Nat) : List (Bool × Nat) :=
  if (gtP l k).nm 73 = 1 then [(stopB (gtP l k), 43)] else if (gtP l k).nm 73 = 2 then [(looB (gtP l k) 41, 43)] else if (gtP l k).nm 73 = 3 then rootR l k else if (gtP l k).nm 73 = 4 then dsgR (gtP l k) else if (gtP l k).nm 73 = 5 then [(stopB (gtP l k), 47)] else if (gtP l k).nm 73 = 6 then altR l k else []
theorem stR_len (l : List Pt) (k : Nat) : (stR l k).length ≤ 7 := by
  unfold stR rootR dsgR altR
  (repeat' split) <;> simp
/-- Has a port begun? -/
def begB (p : Pt) : Bool := decide (1 ≤ p.nm 73) && decide (p.nm 73 ≤ 6)
/-- None, or these. -/
def rz (G : Bool) (r : List (Bool × Nat)) : List (Bool × Nat) := match G with | true => [] | false => r
def rulL (l : List Pt) (k : Nat) : List (Bool × Nat) :=
  if (begB (gtP l k) && (!(gtP l k).bt 22 || (gtP l k).bt 28)) = true then [] else [(!begB (gtP l k), 29), ((gtP l k).nm 31 != (gtP l k).nm 30, 30)] ++ stR l k
attribute [local go_sem ↓] ldT bsRE apRE
set_option maxHeartbeats 4000000 in
theorem st_any {W : World} {b g o n c k : Nat} {h : Hd} {l : List Pt} (s : CS W b h g o n c k l) :
    Calls Try.prog 31 #[.pointer (some ⟨b, 0, none⟩)] W fun r W' => ∃ v, r = .returned v ∧ OwnR W' W.heap.size v b (stR l k) ∧ Below W.heap.size W W' := by
  have H : Hid (CS W b h g o n c k l) := s
  have f73 : ∀ V, Below W.heap.size W V → V.cell? ⟨g, o + k * 77 + 73, none⟩ = some (.int .i64 ((gtP l k).nm 73)) := fun V hV => (H.out.below hV).cell ((gtP l k).num (j := 73) (k := .i64) rfl)
  obtain ⟨q, hq⟩ : ∃ q, o + k * 77 = q := ⟨_, rfl⟩
  rw [hq] at f73
  obtain ⟨N, hN⟩ : ∃ N, (gtP l k).nm 73 = N := ⟨_, rfl⟩
  rw [hN] at f73
  clear s
  by_cases h1 : N = 1
  · have E : stR l k = [(stopB (gtP l k), 43)] := by
      unfold stR
      rw [hN, h1]
      rfl
    rw [E]
    subst h1
    clear E hN
    go_enter Try.func31, Try.ntmps31
    go_wp2_with fail
    refine (port_any H.out).mono ?_
    rintro _ V ⟨rfl, b1⟩
    rw [hq]
    have B : Hid (Below W.heap.size W V) := b1
    have c73 := f73 V b1
    clear b1 f73 hq
    go_wp2_with fail
    refine (stopped_any (H.out.below B.out) 43).mono ?_
    rintro _ V2 ⟨v, rfl, o2, b2⟩
    have F : Hid (OwnR V2 W.heap.size v b ([(stopB (gtP l k), 43)]) ∧ Below W.heap.size W V2) := ⟨o2.base B.out.size, below_over B.out b2⟩
    clear o2 b2
    go_wp2
    go_ret
    exact ⟨_, rfl, F.out.1, F.out.2⟩
  by_cases h2 : N = 2
  · have E : stR l k = [(looB (gtP l k) 41, 43)] := by
      unfold stR
      rw [hN, h2]
      rfl
    rw [E]
    subst h2
    clear E hN
    go_enter Try.func31, Try.ntmps31
    go_wp2_with fail
    refine (port_any H.out).mono ?_
    rintro _ V ⟨rfl, b1⟩
    rw [hq]
    have B : Hid (Below W.heap.size W V) := b1
    have c73 := f73 V b1
    clear b1 f73 hq
    go_wp2_with fail
    refine (whDis_any (H.out.below B.out)).mono ?_
    rintro _ V2 ⟨v, rfl, o2, b2⟩
    have F : Hid (OwnR V2 W.heap.size v b ([(looB (gtP l k) 41, 43)]) ∧ Below W.heap.size W V2) := ⟨o2.base B.out.size, below_over B.out b2⟩
    clear o2 b2
    go_wp2
    go_ret
    exact ⟨_, rfl, F.out.1, F.out.2⟩
  by_cases h3 : N = 3
  · have E : stR l k = rootR l k := by
      unfold stR
      rw [hN, h3]
      rfl
    rw [E]
    subst h3
    clear E hN
    go_enter Try.func31, Try.ntmps31
    go_wp2_with fail
    refine (port_any H.out).mono ?_
    rintro _ V ⟨rfl, b1⟩
    rw [hq]
    have B : Hid (Below W.heap.size W V) := b1
    have c73 := f73 V b1
    clear b1 f73 hq
    go_wp2_with fail
    refine (whRoot_any (H.out.below B.out)).mono ?_
    rintro _ V2 ⟨v, rfl, o2, b2⟩
    have F : Hid (OwnR V2 W.heap.size v b (rootR l k) ∧ Below W.heap.size W V2) := ⟨o2.base B.out.size, below_over B.out b2⟩
    clear o2 b2
    go_wp2
    go_ret
    exact ⟨_, rfl, F.out.1, F.out.2⟩
  by_cases h4 : N = 4
  · have E : stR l k = dsgR (gtP l k) := by
      unfold stR
      rw [hN, h4]
      rfl
    rw [E]
    subst h4
    clear E hN
    go_enter Try.func31, Try.ntmps31
    go_wp2_with fail
    refine (port_any H.out).mono ?_
    rintro _ V ⟨rfl, b1⟩
    rw [hq]
    have B : Hid (Below W.heap.size W V) := b1
    have c73 := f73 V b1
    clear b1 f73 hq
    go_wp2_with fail
    refine (whDsg_any (H.out.below B.out)).mono ?_
    rintro _ V2 ⟨v, rfl, o2, b2⟩
    have F : Hid (OwnR V2 W.heap.size v b (dsgR (gtP l k)) ∧ Below W.heap.size W V2) := ⟨o2.base B.out.size, below_over B.out b2⟩
    clear o2 b2
    go_wp2
    go_ret
    exact ⟨_, rfl, F.out.1, F.out.2⟩
  by_cases h5 : N = 5
  · have E : stR l k = [(stopB (gtP l k), 47)] := by
      unfold stR
      rw [hN, h5]
      rfl
    rw [E]
    subst h5
    clear E hN
    go_enter Try.func31, Try.ntmps31
    go_wp2_with fail
    refine (port_any H.out).mono ?_
    rintro _ V ⟨rfl, b1⟩
    rw [hq]
    have B : Hid (Below W.heap.size W V) := b1
    have c73 := f73 V b1
    clear b1 f73 hq
    go_wp2_with fail
    refine (stopped_any (H.out.below B.out) 47).mono ?_
    rintro _ V2 ⟨v, rfl, o2, b2⟩
    have F : Hid (OwnR V2 W.heap.size v b ([(stopB (gtP l k), 47)]) ∧ Below W.heap.size W V2) := ⟨o2.base B.out.size, below_over B.out b2⟩
    clear o2 b2
    go_wp2
    go_ret
    exact ⟨_, rfl, F.out.1, F.out.2⟩
  by_cases h6 : N = 6
  · have E : stR l k = altR l k := by
      unfold stR
      rw [hN, h6]
      rfl
    rw [E]
    subst h6
    clear E hN
    go_enter Try.func31, Try.ntmps31
    go_wp2_with fail
    refine (port_any H.out).mono ?_
    rintro _ V ⟨rfl, b1⟩
    rw [hq]
    have B : Hid (Below W.heap.size W V) := b1
    have c73 := f73 V b1
    clear b1 f73 hq
    go_wp2_with fail
    refine (whAlt_any (H.out.below B.out)).mono ?_
    rintro _ V2 ⟨v, rfl, o2, b2⟩
    have F : Hid (OwnR V2 W.heap.size v b (altR l k) ∧ Below W.heap.size W V2) := ⟨o2.base B.out.size, below_over B.out b2⟩
    clear o2 b2
    go_wp2
    go_ret
    exact ⟨_, rfl, F.out.1, F.out.2⟩
  have E : stR l k = [] := by
    unfold stR
    rw [hN, if_neg h1, if_neg h2, if_neg h3, if_neg h4, if_neg h5, if_neg h6]
  rw [E]
  clear E hN
  have x1 : (N == 1) = false := by simpa using h1
  have x2 : (N == 2) = false := by simpa using h2
  have x3 : (N == 3) = false := by simpa using h3
  have x4 : (N == 4) = false := by simpa using h4
  have x5 : (N == 5) = false := by simpa using h5
  have x6 : (N == 6) = false := by simpa using h6
  go_enter Try.func31, Try.ntmps31
  go_wp2_with fail
  refine (port_any H.out).mono ?_
  rintro _ V ⟨rfl, b1⟩
  rw [hq]
  have B : Hid (Below W.heap.size W V) := b1
  have c73 := f73 V b1
  clear b1 f73 hq
  go_wp2
  go_ret
  exact ⟨_, rfl, OwnR.nil _ _ _, B.out⟩
set_option maxHeartbeats 8000000 in
theorem rules_any {W : World} {b g o n c k : Nat} {h : Hd} {l : List Pt} (s : CS W b h g o n c k l) :
    Calls Try.prog 16 #[.pointer (some ⟨b, 0, none⟩)] W fun r W' => ∃ v, r = .returned v ∧ OwnR W' W.heap.size v b (rulL l k) ∧ Below W.heap.size W W' := by
  obtain ⟨SR, hSR⟩ : ∃ z, stR l k = z := ⟨_, rfl⟩
  have HS : Hid (∀ V, CS V b h g o n c k l → Calls Try.prog 31 #[.pointer (some ⟨b, 0, none⟩)] V fun r W' => ∃ v, r = .returned v ∧ OwnR W' V.heap.size v b SR ∧ Below V.heap.size V W') := fun V hV => by rw [← hSR]; exact st_any hV
  have LS : Hid (SR.length ≤ 7) := by rw [← hSR]; exact stR_len l k
  unfold rulL
  rw [hSR]
  clear hSR
  obtain ⟨GG, hGG0⟩ : ∃ z, (begB (gtP l k) && (!(gtP l k).bt 22 || (gtP l k).bt 28)) = z := ⟨_, rfl⟩
  rw [hGG0]
  obtain ⟨BG, hBG0⟩ : ∃ z, begB (gtP l k) = z := ⟨_, rfl⟩
  rw [hBG0] at hGG0 ⊢
  have PST : Hid ((if GG = true then [] else [(!BG, 29), ((gtP l k).nm 31 != (gtP l k).nm 30, 30)] ++ SR) = rz GG ([(!BG, 29), ((gtP l k).nm 31 != (gtP l k).nm 30, 30)] ++ SR)) := by cases GG <;> rfl
  rw [PST.out]
  clear PST
  have H : Hid (CS W b h g o n c k l) := s
  obtain ⟨p, hp⟩ : ∃ p, gtP l k = p := ⟨_, rfl⟩
  rw [hp] at hGG0 hBG0 ⊢
  have R0 : ∀ V, Below W.heap.size W V → Prd (fun w' => ∃ x : Later V, w' = x.val) g (o + k * 77) p := fun V hV => by rw [← hp]; exact (H.out.below hV).rd
  obtain ⟨q, hq⟩ : ∃ q, o + k * 77 = q := ⟨_, rfl⟩
  rw [hq] at R0
  clear s hp
  go_enter Try.func16, Try.ntmps16
  go_wp2_with fail
  refine (port_any H.out).mono ?_
  rintro _ V ⟨rfl, b1⟩
  rw [hq]
  have B : Hid (Below W.heap.size W V) := b1
  clear b1 hq
  have R := R0 V B.out
  go_upto_region 2 with fail
  refine wp_plain (C := fun w' => ∃ x : Later V, w' = x.val) ⟨⟨_, Below.refl _ _⟩, rfl⟩ ?_
  refine q_put (v := .pointer (some ⟨g, q, none⟩)) (yq rfl (Rn.qt (qmove rfl rfl))) ?_
  try simp only [Act.put, List.setIfInBounds_toArray, List.set_cons_zero, List.set_cons_succ]
  refine q_put (v := .pointer (some ⟨g, q, none⟩)) (yq rfl (Rn.qt (qnil rfl rfl))) ?_
  try simp only [Act.put, List.setIfInBounds_toArray, List.set_cons_zero, List.set_cons_succ]
  refine q_put (v := .pointer (some ⟨g, q + 73, none⟩)) (yq rfl (Rn.qt (qfield rfl rfl fp46))) ?_
  try simp only [Act.put, List.setIfInBounds_toArray, List.set_cons_zero, List.set_cons_succ]
  refine q_put (v := .int .i64 (p.nm 73)) (yq rfl (Rn.qt (qload rfl rfl (R.state rfl)))) ?_
  try simp only [Act.put, List.setIfInBounds_toArray, List.set_cons_zero, List.set_cons_succ]
  refine q_put (v := .bool (decide (1 ≤ (p.nm 73)))) (yq rfl (Rn.qt (qbin rfl rfl rfl (eg_state _ _ _ _ _) (le_state _ _)))) ?_
  try simp only [Act.put, List.setIfInBounds_toArray, List.set_cons_zero, List.set_cons_succ]
  refine q_put (v := .bool (decide (1 ≤ (p.nm 73)))) (yq rfl (Rn.qt (qmove rfl rfl))) ?_
  try simp only [Act.put, List.setIfInBounds_toArray, List.set_cons_zero, List.set_cons_succ]
  refine q_put (v := gd (decide (1 ≤ (p.nm 73))) true (.pointer (some ⟨g, q, none⟩))) (yq1 rfl rfl (fun e => Rn.qt (qmove rfl rfl))) ?_
  try simp only [Act.put, List.setIfInBounds_toArray, List.set_cons_zero, List.set_cons_succ]
  refine q_put (v := gd (decide (1 ≤ (p.nm 73))) true (.pointer (some ⟨g, q, none⟩))) (yq1 rfl rfl (fun e => Rn.qt (qnil rfl (on e rfl)))) ?_
  try simp only [Act.put, List.setIfInBounds_toArray, List.set_cons_zero, List.set_cons_succ]
  refine q_put (v := gd (decide (1 ≤ (p.nm 73))) true (.pointer (some ⟨g, q + 73, none⟩))) (yq1 rfl rfl (fun e => Rn.qt (qfield rfl (on e rfl) fp46))) ?_
  try simp only [Act.put, List.setIfInBounds_toArray, List.set_cons_zero, List.set_cons_succ]
  refine q_put (v := gd (decide (1 ≤ (p.nm 73))) true (.int .i64 (p.nm 73))) (yq1 rfl rfl (fun e => Rn.qt (qload rfl (on e rfl) (R.state rfl)))) ?_
  try simp only [Act.put, List.setIfInBounds_toArray, List.set_cons_zero, List.set_cons_succ]
  refine q_put (v := gd (decide (1 ≤ (p.nm 73))) true (.bool (decide ((p.nm 73) ≤ 6)))) (yq1 rfl rfl (fun e => Rn.qt (qbin rfl (on e rfl) rfl (eg_state _ _ _ _ _) (le_state _ _)))) ?_
  try simp only [Act.put, List.setIfInBounds_toArray, List.set_cons_zero, List.set_cons_succ]
  refine q_put (v := .bool ((decide (1 ≤ (p.nm 73))) && (decide ((p.nm 73) ≤ 6)))) (yq rfl (Rn.qt (qpick rfl rfl (pkA rfl rfl)))) ?_
  try simp only [Act.put, List.setIfInBounds_toArray, List.set_cons_zero, List.set_cons_succ]
  refine q_put (v := .bool ((decide (1 ≤ (p.nm 73))) && (decide ((p.nm 73) ≤ 6)))) (yq rfl (Rn.qt (qassign rfl rfl))) ?_
  try simp only [Act.put, List.setIfInBounds_toArray, List.set_cons_zero, List.set_cons_succ]
  refine wpQuiet_nil ?_
  rintro _ ⟨y, rfl⟩
  obtain ⟨U, hU⟩ : ∃ U, y.val = U := ⟨_, rfl⟩
  have bU : Below V.heap.size V U := by rw [← hU]; exact y.below
  rw [hU]
  have B2 : Hid (Below W.heap.size W U) := below_over B.out bU
  clear R hU bU y
  have R := R0 U B2.out
  unfold begB at hBG0
  rw [hBG0]
  clear hBG0
  go_upto_region 3 with fail
  refine wp_plain (C := fun w' => ∃ x : Later U, w' = x.val) ⟨⟨_, Below.refl _ _⟩, rfl⟩ ?_
  refine q_put (v := .bool BG) (yq rfl (Rn.qt (qmove rfl rfl))) ?_
  try simp only [Act.put, List.setIfInBounds_toArray, List.set_cons_zero, List.set_cons_succ]
  refine q_put (v := .bool BG) (yq rfl (Rn.qt (qmove rfl rfl))) ?_
  try simp only [Act.put, List.setIfInBounds_toArray, List.set_cons_zero, List.set_cons_succ]
  refine q_put (v := gd BG true (.pointer (some ⟨g, q, none⟩))) (yq1 rfl rfl (fun e => Rn.qt (qmove rfl rfl))) ?_
  try simp only [Act.put, List.setIfInBounds_toArray, List.set_cons_zero, List.set_cons_succ]
  refine q_put (v := gd BG true (.pointer (some ⟨g, q, none⟩))) (yq1 rfl rfl (fun e => Rn.qt (qnil rfl (on e rfl)))) ?_
  try simp only [Act.put, List.setIfInBounds_toArray, List.set_cons_zero, List.set_cons_succ]
  refine q_put (v := gd BG true (.pointer (some ⟨g, q + 22, none⟩))) (yq1 rfl rfl (fun e => Rn.qt (qfield rfl (on e rfl) fp22))) ?_
  try simp only [Act.put, List.setIfInBounds_toArray, List.set_cons_zero, List.set_cons_succ]
  refine q_put (v := gd BG true (.bool (p.bt 22))) (yq1 rfl rfl (fun e => Rn.qt (qload rfl (on e rfl) (R.bit rfl)))) ?_
  try simp only [Act.put, List.setIfInBounds_toArray, List.set_cons_zero, List.set_cons_succ]
  refine q_put (v := gd BG true (.bool (!(p.bt 22)))) (yq1 rfl rfl (fun e => Rn.qt (qnot rfl (on e rfl)))) ?_
  try simp only [Act.put, List.setIfInBounds_toArray, List.set_cons_zero, List.set_cons_succ]
  refine q_put (v := gd BG true (.bool (!(p.bt 22)))) (yq1 rfl rfl (fun e => Rn.qt (qmove rfl (on e rfl)))) ?_
  try simp only [Act.put, List.setIfInBounds_toArray, List.set_cons_zero, List.set_cons_succ]
  refine q_put (v := gd BG true (gd (!(p.bt 22)) false (.pointer (some ⟨g, q, none⟩)))) (yq2 rfl rfl (fun e1 e2 => Rn.qt (qmove rfl rfl))) ?_
  try simp only [Act.put, List.setIfInBounds_toArray, List.set_cons_zero, List.set_cons_succ]
  refine q_put (v := gd BG true (gd (!(p.bt 22)) false (.pointer (some ⟨g, q, none⟩)))) (yq2 rfl rfl (fun e1 e2 => Rn.qt (qnil rfl (on e2 (on e1 rfl))))) ?_
  try simp only [Act.put, List.setIfInBounds_toArray, List.set_cons_zero, List.set_cons_succ]
  refine q_put (v := gd BG true (gd (!(p.bt 22)) false (.pointer (some ⟨g, q + 28, none⟩)))) (yq2 rfl rfl (fun e1 e2 => Rn.qt (qfield rfl (on e2 (on e1 rfl)) fp28))) ?_
  try simp only [Act.put, List.setIfInBounds_toArray, List.set_cons_zero, List.set_cons_succ]
  refine q_put (v := gd BG true (gd (!(p.bt 22)) false (.bool (p.bt 28)))) (yq2 rfl rfl (fun e1 e2 => Rn.qt (qload rfl (on e2 (on e1 rfl)) (R.bit rfl)))) ?_
  try simp only [Act.put, List.setIfInBounds_toArray, List.set_cons_zero, List.set_cons_succ]
  refine q_put (v := gd BG true (.bool ((!(p.bt 22)) || (p.bt 28)))) (yq1 rfl rfl (fun e => Rn.qt (qpick rfl (on e rfl) (pkO rfl (on e rfl))))) ?_
  try simp only [Act.put, List.setIfInBounds_toArray, List.set_cons_zero, List.set_cons_succ]
  refine q_put (v := .bool (BG && ((!(p.bt 22)) || (p.bt 28)))) (yq rfl (Rn.qt (qpick rfl rfl (pkA rfl rfl)))) ?_
  try simp only [Act.put, List.setIfInBounds_toArray, List.set_cons_zero, List.set_cons_succ]
  refine wpQuiet_nil ?_
  rintro _ ⟨y, rfl⟩
  obtain ⟨U3, hU⟩ : ∃ U, y.val = U := ⟨_, rfl⟩
  have bU : Below U.heap.size U U3 := by rw [← hU]; exact y.below
  rw [hU]
  have B3 : Hid (Below W.heap.size W U3) := below_over B2.out bU
  clear R hU bU y
  have R := R0 U3 B3.out
  clear R0
  rw [hGG0]
  clear hGG0
  cases GG
  rotate_left
  · go_wp2
    go_ret
    exact ⟨_, rfl, OwnR.nil _ _ _, B3.out⟩
  go_upto_region 5 with fail
  refine wp_region_later_tail 17 (by kernel_rfl) (by kernel_rfl) ?_
  simp only [List.take_succ_cons, List.take_zero]
  refine q_put (v := .bool BG) (yq rfl (Rn.qt (qmove rfl rfl))) ?_
  try simp only [Act.put, List.setIfInBounds_toArray, List.set_cons_zero, List.set_cons_succ]
  refine q_put (v := .bool (!BG)) (yq rfl (Rn.qt (qnot rfl rfl))) ?_
  try simp only [Act.put, List.setIfInBounds_toArray, List.set_cons_zero, List.set_cons_succ]
  refine q_put (v := .pointer (some ⟨b, 0, none⟩)) (yq rfl (Rn.qt (qmove rfl rfl))) ?_
  try simp only [Act.put, List.setIfInBounds_toArray, List.set_cons_zero, List.set_cons_succ]
  refine q_put (v := .func (.func 29) #[.pointer (some ⟨b, 0, none⟩)] #[]) (yq rfl (Rn.qt (qfn rfl rfl))) ?_
  try simp only [Act.put, List.setIfInBounds_toArray, List.set_cons_zero, List.set_cons_succ]
  refine q_put (v := .agg #[.bool (!BG), .func (.func 29) #[.pointer (some ⟨b, 0, none⟩)] #[]]) (yq rfl (Rn.qt (qrule rfl rfl rfl))) ?_
  try simp only [Act.put, List.setIfInBounds_toArray, List.set_cons_zero, List.set_cons_succ]
  refine q_put (v := .pointer (some ⟨g, q, none⟩)) (yq rfl (Rn.qt (qmove rfl rfl))) ?_
  try simp only [Act.put, List.setIfInBounds_toArray, List.set_cons_zero, List.set_cons_succ]
  refine q_put (v := .pointer (some ⟨g, q, none⟩)) (yq rfl (Rn.qt (qnil rfl rfl))) ?_
  try simp only [Act.put, List.setIfInBounds_toArray, List.set_cons_zero, List.set_cons_succ]
  refine q_put (v := .pointer (some ⟨g, q + 31, none⟩)) (yq rfl (Rn.qt (qfield rfl rfl fp31))) ?_
  try simp only [Act.put, List.setIfInBounds_toArray, List.set_cons_zero, List.set_cons_succ]
  refine q_put (v := .int .i64 (p.nm 31)) (yq rfl (Rn.qt (qload rfl rfl (R.role rfl)))) ?_
  try simp only [Act.put, List.setIfInBounds_toArray, List.set_cons_zero, List.set_cons_succ]
  refine q_put (v := .pointer (some ⟨g, q, none⟩)) (yq rfl (Rn.qt (qmove rfl rfl))) ?_
  try simp only [Act.put, List.setIfInBounds_toArray, List.set_cons_zero, List.set_cons_succ]
  refine q_put (v := .pointer (some ⟨g, q, none⟩)) (yq rfl (Rn.qt (qnil rfl rfl))) ?_
  try simp only [Act.put, List.setIfInBounds_toArray, List.set_cons_zero, List.set_cons_succ]
  refine q_put (v := .pointer (some ⟨g, q + 30, none⟩)) (yq rfl (Rn.qt (qfield rfl rfl fp30))) ?_
  try simp only [Act.put, List.setIfInBounds_toArray, List.set_cons_zero, List.set_cons_succ]
  refine q_put (v := .int .i64 (p.nm 30)) (yq rfl (Rn.qt (qload rfl rfl (R.role rfl)))) ?_
  try simp only [Act.put, List.setIfInBounds_toArray, List.set_cons_zero, List.set_cons_succ]
  refine q_put (v := .bool ((p.nm 31) != (p.nm 30))) (yq rfl (Rn.qt (qbin rfl rfl rfl (eg_role _ _ _ _ _) (ne_role _ _)))) ?_
  try simp only [Act.put, List.setIfInBounds_toArray, List.set_cons_zero, List.set_cons_succ]
  refine q_put (v := .pointer (some ⟨b, 0, none⟩)) (yq rfl (Rn.qt (qmove rfl rfl))) ?_
  try simp only [Act.put, List.setIfInBounds_toArray, List.set_cons_zero, List.set_cons_succ]
  refine q_put (v := .func (.func 30) #[.pointer (some ⟨b, 0, none⟩)] #[]) (yq rfl (Rn.qt (qfn rfl rfl))) ?_
  try simp only [Act.put, List.setIfInBounds_toArray, List.set_cons_zero, List.set_cons_succ]
  refine q_put (v := .agg #[.bool ((p.nm 31) != (p.nm 30)), .func (.func 30) #[.pointer (some ⟨b, 0, none⟩)] #[]]) (yq rfl (Rn.qt (qrule rfl rfl rfl))) ?_
  try simp only [Act.put, List.setIfInBounds_toArray, List.set_cons_zero, List.set_cons_succ]
  refine wpQuiet_nil ?_
  intro z
  simp only [List.drop_succ_cons, List.drop_zero]
  have sb := bsR2 b (!BG) (p.nm 31 != p.nm 30) 29 30 z.val
  obtain ⟨Y, hY⟩ : ∃ Y, z.val.alloc (.cells (rcs b [(!BG, 29), (p.nm 31 != p.nm 30, 30)]).toArray 54) = Y := ⟨_, rfl⟩
  rw [hY] at sb
  have F : Hid (OwnR Y W.heap.size (.slice (some ⟨z.val.heap.size, 0, none⟩) 2 2) b [(!BG, 29), (p.nm 31 != p.nm 30, 30)] ∧ Below W.heap.size W Y ∧ W.heap.size ≤ z.val.heap.size ∧ z.val.heap.size < Y.heap.size) := by
    have b2 := below_over B3.out z.below
    rw [← hY]
    exact ⟨(OwnR.new z.val b _ (by simp)).base b2.size, b2.trans ((Below.refl _ _).alloc b2.size _), b2.size, by simp⟩
  obtain ⟨x, hx⟩ : ∃ x, z.val.heap.size = x := ⟨_, rfl⟩
  rw [hx] at sb F
  clear hY R
  go_wp2_with fail
  refine (HS.out Y (H.out.below F.out.2.1)).mono ?_
  rintro _ Z ⟨v, rfl, o2, b2⟩
  obtain ⟨a2, c2, rfl, r2, h2⟩ := o2.form
  obtain ⟨v', X, ap, oX, gX⟩ := (F.out.1.below b2).app r2 (by have := LS.out; simp; omega) (Nat.le_trans F.out.2.1.size b2.size) 51
  obtain ⟨m, hm⟩ : ∃ m, SR.length = m := ⟨_, rfl⟩
  rw [hm] at ap
  have G : Hid (OwnR X W.heap.size v' b ([(!BG, 29), (p.nm 31 != p.nm 30, 30)] ++ SR) ∧ Below W.heap.size W X) :=
    ⟨oX, (below_over F.out.2.1 b2).trans (below_of_grown gX (Nat.le_trans F.out.2.1.size b2.size) (fun j e => by cases e; exact F.out.2.2.1))⟩
  rw [hm]
  clear o2 b2 r2 h2 oX gX sb hx
  go_wp2
  go_ret
  exact ⟨_, rfl, G.out.1, G.out.2⟩
end Go.Proofs.Ytdlleecfmebenaa
