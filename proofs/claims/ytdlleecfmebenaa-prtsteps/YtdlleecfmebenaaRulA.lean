/-
  The rules of a port that stops, that is disabled, that answers; may a root port be so at once: the walks of whenStopped, whileDisabled, rootAtOnce, twice and answers.
-/
import Derived.Test.YtdlleecfmebenaaAsk
import Derived.Test.YtdlleecfmebenaaRu
namespace Go.Proofs.Ytdlleecfmebenaa
set_option linter.unusedVariables false
set_option maxRecDepth 4000
set_option linter.unusedSimpArgs false
open Go.RowKit

def stopB (p : Pt) : Bool := !p.bt 10 && !p.bt 8
def looB (p : Pt) (j : Nat) : Bool := (p.nm 65 != p.nm j) || askP p
/-- Is a port in step; was no other one root? -/
def inS (l : List Pt) (k : Nat) : Bool := allK (okS (k : Int)) l
def wasR (l : List Pt) (k : Nat) : Bool := allK (okR (k : Int)) l
def raoB (l : List Pt) (k : Nat) : Bool := wasR l k && (((gtP l k).nm 68) == 0)
def ansB (l : List Pt) (k : Nat) : Bool := (inS l k && !(gtP l k).bt 3) || ((gtP l k).bt 12 && (gtP l k).bt 3)
def prpB (p : Pt) : Bool := p.bt 12 && !p.bt 3
/-- Twice a number, cut. -/
def twN (n : Int) : Int := if 2 * n ≤ 255 then 2 * n else 255
attribute [local go_sem ↓] ldT bsRE
set_option maxHeartbeats 4000000 in
theorem stopped_any {W : World} {b g o n c k : Nat} {h : Hd} {l : List Pt} (s : CS W b h g o n c k l) (F : Nat) :
    Calls Try.prog 42 #[.pointer (some ⟨b, 0, none⟩), .func (.func F) #[.pointer (some ⟨b, 0, none⟩)] #[]] W fun r W' => ∃ v, r = .returned v ∧ OwnR W' W.heap.size v b [(stopB (gtP l k), F)] ∧ Below W.heap.size W W' := by
  have H : Hid (CS W b h g o n c k l) := s
  obtain ⟨p, hp⟩ : ∃ p, gtP l k = p := ⟨_, rfl⟩
  rw [hp]
  have R0 : ∀ V, Below W.heap.size W V → Prd (fun w' => ∃ x : Later V, w' = x.val) g (o + k * 77) p := fun V hV => by rw [← hp]; exact (H.out.below hV).rd
  obtain ⟨q, hq⟩ : ∃ q, o + k * 77 = q := ⟨_, rfl⟩
  rw [hq] at R0
  clear s hp
  go_enter Try.func42, Try.ntmps42
  go_wp2_with fail
  refine (port_any H.out).mono ?_
  rintro _ V ⟨rfl, b1⟩
  rw [hq]
  have B : Hid (Below W.heap.size W V) := b1
  clear b1 hq
  have R := R0 V B.out
  clear R0
  go_upto_region 2 with fail
  refine wp_plain_tail (C := fun w' => ∃ x : Later V, w' = x.val) 14 (by simp) ⟨⟨_, Below.refl _ _⟩, rfl⟩ ?_
  simp only [List.take_succ_cons, List.take_zero]
  refine q_put (v := .pointer (some ⟨g, q, none⟩)) (yq rfl (Rn.qt (qmove rfl rfl))) ?_
  try simp only [Act.put, List.setIfInBounds_toArray, List.set_cons_zero, List.set_cons_succ]
  refine q_put (v := .pointer (some ⟨g, q, none⟩)) (yq rfl (Rn.qt (qnil rfl rfl))) ?_
  try simp only [Act.put, List.setIfInBounds_toArray, List.set_cons_zero, List.set_cons_succ]
  refine q_put (v := .pointer (some ⟨g, q + 10, none⟩)) (yq rfl (Rn.qt (qfield rfl rfl fp10))) ?_
  try simp only [Act.put, List.setIfInBounds_toArray, List.set_cons_zero, List.set_cons_succ]
  refine q_put (v := .bool (p.bt 10)) (yq rfl (Rn.qt (qload rfl rfl (R.bit rfl)))) ?_
  try simp only [Act.put, List.setIfInBounds_toArray, List.set_cons_zero, List.set_cons_succ]
  refine q_put (v := .bool (!(p.bt 10))) (yq rfl (Rn.qt (qnot rfl rfl))) ?_
  try simp only [Act.put, List.setIfInBounds_toArray, List.set_cons_zero, List.set_cons_succ]
  refine q_put (v := .bool (!(p.bt 10))) (yq rfl (Rn.qt (qmove rfl rfl))) ?_
  try simp only [Act.put, List.setIfInBounds_toArray, List.set_cons_zero, List.set_cons_succ]
  refine q_put (v := gd (!(p.bt 10)) true (.pointer (some ⟨g, q, none⟩))) (yq1 rfl rfl (fun e => Rn.qt (qmove rfl rfl))) ?_
  try simp only [Act.put, List.setIfInBounds_toArray, List.set_cons_zero, List.set_cons_succ]
  refine q_put (v := gd (!(p.bt 10)) true (.pointer (some ⟨g, q, none⟩))) (yq1 rfl rfl (fun e => Rn.qt (qnil rfl (on e rfl)))) ?_
  try simp only [Act.put, List.setIfInBounds_toArray, List.set_cons_zero, List.set_cons_succ]
  refine q_put (v := gd (!(p.bt 10)) true (.pointer (some ⟨g, q + 8, none⟩))) (yq1 rfl rfl (fun e => Rn.qt (qfield rfl (on e rfl) fp8))) ?_
  try simp only [Act.put, List.setIfInBounds_toArray, List.set_cons_zero, List.set_cons_succ]
  refine q_put (v := gd (!(p.bt 10)) true (.bool (p.bt 8))) (yq1 rfl rfl (fun e => Rn.qt (qload rfl (on e rfl) (R.bit rfl)))) ?_
  try simp only [Act.put, List.setIfInBounds_toArray, List.set_cons_zero, List.set_cons_succ]
  refine q_put (v := gd (!(p.bt 10)) true (.bool (!(p.bt 8)))) (yq1 rfl rfl (fun e => Rn.qt (qnot rfl (on e rfl)))) ?_
  try simp only [Act.put, List.setIfInBounds_toArray, List.set_cons_zero, List.set_cons_succ]
  refine q_put (v := .bool ((!(p.bt 10)) && (!(p.bt 8)))) (yq rfl (Rn.qt (qpick rfl rfl (pkA rfl rfl)))) ?_
  try simp only [Act.put, List.setIfInBounds_toArray, List.set_cons_zero, List.set_cons_succ]
  refine q_put (v := .func (.func F) #[.pointer (some ⟨b, 0, none⟩)] #[]) (yq rfl (Rn.qt (qmove rfl rfl))) ?_
  try simp only [Act.put, List.setIfInBounds_toArray, List.set_cons_zero, List.set_cons_succ]
  refine q_put (v := .agg #[.bool ((!(p.bt 10)) && (!(p.bt 8))), .func (.func F) #[.pointer (some ⟨b, 0, none⟩)] #[]]) (yq rfl (Rn.qt (qrule rfl rfl rfl))) ?_
  try simp only [Act.put, List.setIfInBounds_toArray, List.set_cons_zero, List.set_cons_succ]
  refine wpQuiet_nil ?_
  rintro _ ⟨z, rfl⟩
  simp only [List.drop_succ_cons, List.drop_zero]
  have sb := bsR1 b (!p.bt 10 && !p.bt 8) F z.val
  obtain ⟨Y, hY⟩ : ∃ Y, z.val.alloc (.cells (rcs b [(!p.bt 10 && !p.bt 8, F)]).toArray 54) = Y := ⟨_, rfl⟩
  rw [hY] at sb
  have F : Hid (OwnR Y W.heap.size (.slice (some ⟨z.val.heap.size, 0, none⟩) 1 1) b [(!p.bt 10 && !p.bt 8, F)] ∧ Below W.heap.size W Y) := by
    have b2 := below_over B.out z.below
    rw [← hY]
    exact ⟨(OwnR.new z.val b [(!p.bt 10 && !p.bt 8, F)] (by simp)).base b2.size, b2.trans ((Below.refl _ _).alloc b2.size _)⟩
  clear hY
  go_wp2
  go_ret
  exact ⟨_, rfl, F.out.1, F.out.2⟩
theorem ask_later {W : World} {b g o n c k : Nat} {h : Hd} {l : List Pt} (s : CS W b h g o n c k l) {p : Pt} (hp : gtP l k = p) (x : Later W) :
    Calls Try.prog 52 #[.pointer (some ⟨b, 0, none⟩)] x.val fun r W' => r = .returned (.bool (askP p)) ∧ ∃ y : Later W, W' = y.val := by
  rw [← hp]
  exact Calls.later_of (ask_any (s.below x.below))
set_option maxHeartbeats 4000000 in
theorem whDis_any {W : World} {b g o n c k : Nat} {h : Hd} {l : List Pt} (s : CS W b h g o n c k l) :
    Calls Try.prog 44 #[.pointer (some ⟨b, 0, none⟩)] W fun r W' => ∃ v, r = .returned v ∧ OwnR W' W.heap.size v b [(looB (gtP l k) 41, 43)] ∧ Below W.heap.size W W' := by
  have H : Hid (CS W b h g o n c k l) := s
  obtain ⟨p, hp⟩ : ∃ p, gtP l k = p := ⟨_, rfl⟩
  rw [hp]
  have R0 : ∀ V, Below W.heap.size W V → Prd (fun w' => ∃ x : Later V, w' = x.val) g (o + k * 77) p := fun V hV => by rw [← hp]; exact (H.out.below hV).rd
  obtain ⟨q, hq⟩ : ∃ q, o + k * 77 = q := ⟨_, rfl⟩
  rw [hq] at R0
  have HP : Hid (gtP l k = p) := hp
  clear s hp
  go_enter Try.func44, Try.ntmps44
  go_wp2_with fail
  refine (port_any H.out).mono ?_
  rintro _ V ⟨rfl, b1⟩
  rw [hq]
  have B : Hid (Below W.heap.size W V) := b1
  clear b1 hq
  have R := R0 V B.out
  have AK := ask_later (H.out.below B.out) HP.out
  clear R0
  go_upto_region 2 with fail
  refine wp_region_later_tail 17 (by kernel_rfl) (by kernel_rfl) ?_
  simp only [List.take_succ_cons, List.take_zero]
  refine q_put (v := .pointer (some ⟨g, q, none⟩)) (yq rfl (Rn.qt (qmove rfl rfl))) ?_
  try simp only [Act.put, List.setIfInBounds_toArray, List.set_cons_zero, List.set_cons_succ]
  refine q_put (v := .pointer (some ⟨g, q, none⟩)) (yq rfl (Rn.qt (qnil rfl rfl))) ?_
  try simp only [Act.put, List.setIfInBounds_toArray, List.set_cons_zero, List.set_cons_succ]
  refine q_put (v := .pointer (some ⟨g, q + 65, none⟩)) (yq rfl (Rn.qt (qfield rfl rfl fp38))) ?_
  try simp only [Act.put, List.setIfInBounds_toArray, List.set_cons_zero, List.set_cons_succ]
  refine q_put (v := .int .u8 (p.nm 65)) (yq rfl (Rn.qt (qload rfl rfl (R.u8 rfl)))) ?_
  try simp only [Act.put, List.setIfInBounds_toArray, List.set_cons_zero, List.set_cons_succ]
  refine q_put (v := .pointer (some ⟨g, q, none⟩)) (yq rfl (Rn.qt (qmove rfl rfl))) ?_
  try simp only [Act.put, List.setIfInBounds_toArray, List.set_cons_zero, List.set_cons_succ]
  refine q_put (v := .pointer (some ⟨g, q, none⟩)) (yq rfl (Rn.qt (qnil rfl rfl))) ?_
  try simp only [Act.put, List.setIfInBounds_toArray, List.set_cons_zero, List.set_cons_succ]
  refine q_put (v := .pointer (some ⟨g, q + 40, none⟩)) (yq rfl (Rn.qt (qfield rfl rfl fp34))) ?_
  try simp only [Act.put, List.setIfInBounds_toArray, List.set_cons_zero, List.set_cons_succ]
  refine q_put (v := .pointer (some ⟨g, q + 40 + 1, none⟩)) (yq rfl (Rn.qt (qfield rfl rfl ft1))) ?_
  try simp only [Act.put, List.setIfInBounds_toArray, List.set_cons_zero, List.set_cons_succ]
  refine q_put (v := .int .u8 (p.nm 41)) (yq rfl (Rn.qt (qload rfl rfl (R.dt rfl rfl)))) ?_
  try simp only [Act.put, List.setIfInBounds_toArray, List.set_cons_zero, List.set_cons_succ]
  refine q_put (v := .bool ((p.nm 65) != (p.nm 41))) (yq rfl (Rn.qt (qbin rfl rfl rfl (eg_u8 _ _ _ _ _) (ne_u8 _ _)))) ?_
  try simp only [Act.put, List.setIfInBounds_toArray, List.set_cons_zero, List.set_cons_succ]
  refine q_put (v := .bool ((p.nm 65) != (p.nm 41))) (yq rfl (Rn.qt (qmove rfl rfl))) ?_
  try simp only [Act.put, List.setIfInBounds_toArray, List.set_cons_zero, List.set_cons_succ]
  refine q_put (v := gd ((p.nm 65) != (p.nm 41)) false (.pointer (some ⟨b, 0, none⟩))) (yq1 rfl rfl (fun e => Rn.qt (qmove rfl rfl))) ?_
  try simp only [Act.put, List.setIfInBounds_toArray, List.set_cons_zero, List.set_cons_succ]
  refine q_put (v := gd ((p.nm 65) != (p.nm 41)) false (.bool (askP p))) (yq1 rfl rfl (fun e => qcall1 rfl (on e rfl) (fun V => by go_simp) (fun w hw => by obtain ⟨x, rfl⟩ := hw; exact AK x))) ?_
  try simp only [Act.put, List.setIfInBounds_toArray, List.set_cons_zero, List.set_cons_succ]
  refine q_put (v := .bool (((p.nm 65) != (p.nm 41)) || (askP p))) (yq rfl (Rn.qt (qpick rfl rfl (pkO rfl rfl)))) ?_
  try simp only [Act.put, List.setIfInBounds_toArray, List.set_cons_zero, List.set_cons_succ]
  refine q_put (v := .pointer (some ⟨b, 0, none⟩)) (yq rfl (Rn.qt (qmove rfl rfl))) ?_
  try simp only [Act.put, List.setIfInBounds_toArray, List.set_cons_zero, List.set_cons_succ]
  refine q_put (v := .func (.func 43) #[.pointer (some ⟨b, 0, none⟩)] #[]) (yq rfl (Rn.qt (qfn rfl rfl))) ?_
  try simp only [Act.put, List.setIfInBounds_toArray, List.set_cons_zero, List.set_cons_succ]
  refine q_put (v := .agg #[.bool (((p.nm 65) != (p.nm 41)) || (askP p)), .func (.func 43) #[.pointer (some ⟨b, 0, none⟩)] #[]]) (yq rfl (Rn.qt (qrule rfl rfl rfl))) ?_
  try simp only [Act.put, List.setIfInBounds_toArray, List.set_cons_zero, List.set_cons_succ]
  refine wpQuiet_nil ?_
  intro z
  simp only [List.drop_succ_cons, List.drop_zero]
  have sb := bsR1 b ((p.nm 65 != p.nm 41) || askP p) 43 z.val
  obtain ⟨Y, hY⟩ : ∃ Y, z.val.alloc (.cells (rcs b [((p.nm 65 != p.nm 41) || askP p, 43)]).toArray 54) = Y := ⟨_, rfl⟩
  rw [hY] at sb
  have F : Hid (OwnR Y W.heap.size (.slice (some ⟨z.val.heap.size, 0, none⟩) 1 1) b [((p.nm 65 != p.nm 41) || askP p, 43)] ∧ Below W.heap.size W Y) := by
    have b2 := below_over B.out z.below
    rw [← hY]
    exact ⟨(OwnR.new z.val b [((p.nm 65 != p.nm 41) || askP p, 43)] (by simp)).base b2.size, b2.trans ((Below.refl _ _).alloc b2.size _)⟩
  clear hY
  go_wp2
  go_ret
  exact ⟨_, rfl, F.out.1, F.out.2⟩
set_option maxHeartbeats 4000000 in
theorem rao_any {W : World} {b g o n c k : Nat} {h : Hd} {l : List Pt} (s : CS W b h g o n c k l) :
    Calls Try.prog 53 #[.pointer (some ⟨b, 0, none⟩)] W fun r W' => r = .returned (.bool (raoB l k)) ∧ Below W.heap.size W W' := by
  have ft := fun x : Later W => (s.below x.below).var.htree
  have f17 := fun x : Later W => (s.below x.below).var.h17
  have P1 : Hid (∀ x : Later W, _) := fun x : Later W => allR_any h (some ⟨g, o, none⟩) n c l (k : Int) x.val (s.below x.below).sl s.hn
  have P2 : Hid (∀ x : Later W, _) := fun x : Later W => port_any (s.below x.below)
  have f68 := fun x : Later W => (s.below x.below).cell ((gtP l k).num (j := 68) (k := .u8) rfl)
  obtain ⟨q, hq⟩ : ∃ q, o + k * 77 = q := ⟨_, rfl⟩
  rw [hq] at f68 P2
  have E : Hid (raoB l k = (allK (okR (k : Int)) l && ((gtP l k).nm 68 == 0))) := rfl
  obtain ⟨N, hN⟩ : ∃ z, (gtP l k).nm 68 = z := ⟨_, rfl⟩
  obtain ⟨M, hM⟩ : ∃ z, allK (okR (k : Int)) l = z := ⟨_, rfl⟩
  rw [hN] at f68 E
  rw [hM] at P1 E
  clear hN hM s hq
  rw [E.out]
  go_enter Try.func53, Try.ntmps53
  go_wp2_with fail
  cases M
  · refine wp_region_later (by kernel_rfl) (by kernel_rfl) ?_
    repeat (go_big_quiet_step (first | exact rfl | (go_at_call 69; with_reducible exact Calls.later_of (P1.out _)) | (go_at_call 28; with_reducible exact Calls.later_of (P2.out _))))
    refine wpQuiet_nil ?_
    intro _ hw'
    obtain ⟨y, rfl⟩ := hw'
    go_wp2
    go_ret
    exact ⟨rfl, y.below⟩
  · refine wp_region_later (by kernel_rfl) (by kernel_rfl) ?_
    repeat (go_big_quiet_step (first | exact rfl | (go_at_call 69; with_reducible exact Calls.later_of (P1.out _)) | (go_at_call 28; with_reducible exact Calls.later_of (P2.out _))))
    refine wpQuiet_nil ?_
    intro _ hw'
    obtain ⟨y, rfl⟩ := hw'
    go_wp2
    go_ret
    exact ⟨by simp, y.below⟩
theorem twN_in {n : Int} (h : 0 ≤ n ∧ n ≤ 255) : 0 ≤ twN n ∧ twN n ≤ 255 := by
  unfold twN
  split <;> omega
theorem tw_any (n : Int) (w : World) (hn : 0 ≤ n ∧ n ≤ 255) : Calls Try.prog 67 #[.int .u8 n] w fun r w' => r = .returned (.int .u8 (twN n)) ∧ Below w.heap.size w w' := by
  have h1 : IntKind.i64.wrap n = n := IntWalk.i64_in _ (by omega)
  have h2 : IntKind.i64.wrap (2 * n) = 2 * n := IntWalk.i64_in _ (by omega)
  go_enter Try.func67, Try.ntmps67
  have hw : ∀ m : Int, 0 ≤ m ∧ m ≤ 255 → IntKind.u8.wrap m = m := fun m hm => by
    show m % 256 = m
    omega
  go_wp2
  all_goals
    go_ret
    refine ⟨ret_int ?_, Below.refl _ _⟩
    unfold twN
    first | (split <;> omega) | (rw [hw _ (by omega)]; split <;> omega)
set_option maxHeartbeats 4000000 in
theorem ans_any {W : World} {b g o n c k : Nat} {h : Hd} {l : List Pt} (s : CS W b h g o n c k l) (F : Nat) :
    Calls Try.prog 54 #[.pointer (some ⟨b, 0, none⟩), .func (.func F) #[.pointer (some ⟨b, 0, none⟩)] #[]] W fun r W' => ∃ v, r = .returned v ∧ OwnR W' W.heap.size v b [(prpB (gtP l k), 71), (ansB l k, F)] ∧ Below W.heap.size W W' := by
  have E : Hid (ansB l k = ((allK (okS (k : Int)) l && !(gtP l k).bt 3) || ((gtP l k).bt 12 && (gtP l k).bt 3))) := rfl
  rw [E.out]
  obtain ⟨M, hM⟩ : ∃ z, allK (okS (k : Int)) l = z := ⟨_, rfl⟩
  rw [hM]
  have HM : Hid (allK (okS (k : Int)) l = M) := hM
  clear hM E
  have H : Hid (CS W b h g o n c k l) := s
  obtain ⟨p, hp⟩ : ∃ p, gtP l k = p := ⟨_, rfl⟩
  rw [hp]
  have R0 : ∀ V, Below W.heap.size W V → Prd (fun w' => ∃ x : Later V, w' = x.val) g (o + k * 77) p := fun V hV => by rw [← hp]; exact (H.out.below hV).rd
  obtain ⟨q, hq⟩ : ∃ q, o + k * 77 = q := ⟨_, rfl⟩
  rw [hq] at R0
  clear s hp
  go_enter Try.func54, Try.ntmps54
  go_wp2_with fail
  refine (port_any H.out).mono ?_
  rintro _ V ⟨rfl, b1⟩
  rw [hq]
  have B : Hid (Below W.heap.size W V) := b1
  clear b1 hq
  have ft := fun x : Later V => ((H.out.below B.out).below x.below).var.htree
  have f17 := fun x : Later V => ((H.out.below B.out).below x.below).var.h17
  have P1 : Hid (∀ x : Later V, _) := fun x : Later V => allS_any h (some ⟨g, o, none⟩) n c l (k : Int) x.val ((H.out.below B.out).below x.below).sl H.out.hn
  rw [HM.out] at P1
  go_upto_region 2 with fail
  refine wp_region_later (by kernel_rfl) (by kernel_rfl) ?_
  repeat (go_big_quiet_step (first | exact rfl | (go_at_call 70; with_reducible exact Calls.later_of (P1.out _))))
  refine wpQuiet_nil ?_
  intro _ hw'
  obtain ⟨y, rfl⟩ := hw'
  obtain ⟨U, hU⟩ : ∃ U, y.val = U := ⟨_, rfl⟩
  have bU : Below V.heap.size V U := by rw [← hU]; exact y.below
  rw [hU]
  have B2 : Hid (Below W.heap.size W U) := below_over B.out bU
  have R := R0 U B2.out
  clear ft f17 P1 hU bU y R0
  go_upto_region 3 with fail
  refine wp_region_later_tail 36 (by kernel_rfl) (by kernel_rfl) ?_
  simp only [List.take_succ_cons, List.take_zero]
  refine q_put (v := .pointer (some ⟨g, q, none⟩)) (yq rfl (Rn.qt (qmove rfl rfl))) ?_
  try simp only [Act.put, List.setIfInBounds_toArray, List.set_cons_zero, List.set_cons_succ]
  refine q_put (v := .pointer (some ⟨g, q, none⟩)) (yq rfl (Rn.qt (qnil rfl rfl))) ?_
  try simp only [Act.put, List.setIfInBounds_toArray, List.set_cons_zero, List.set_cons_succ]
  refine q_put (v := .pointer (some ⟨g, q + 12, none⟩)) (yq rfl (Rn.qt (qfield rfl rfl fp12))) ?_
  try simp only [Act.put, List.setIfInBounds_toArray, List.set_cons_zero, List.set_cons_succ]
  refine q_put (v := .bool (p.bt 12)) (yq rfl (Rn.qt (qload rfl rfl (R.bit rfl)))) ?_
  try simp only [Act.put, List.setIfInBounds_toArray, List.set_cons_zero, List.set_cons_succ]
  refine q_put (v := .bool (p.bt 12)) (yq rfl (Rn.qt (qmove rfl rfl))) ?_
  try simp only [Act.put, List.setIfInBounds_toArray, List.set_cons_zero, List.set_cons_succ]
  refine q_put (v := gd (p.bt 12) true (.pointer (some ⟨g, q, none⟩))) (yq1 rfl rfl (fun e => Rn.qt (qmove rfl rfl))) ?_
  try simp only [Act.put, List.setIfInBounds_toArray, List.set_cons_zero, List.set_cons_succ]
  refine q_put (v := gd (p.bt 12) true (.pointer (some ⟨g, q, none⟩))) (yq1 rfl rfl (fun e => Rn.qt (qnil rfl (on e rfl)))) ?_
  try simp only [Act.put, List.setIfInBounds_toArray, List.set_cons_zero, List.set_cons_succ]
  refine q_put (v := gd (p.bt 12) true (.pointer (some ⟨g, q + 3, none⟩))) (yq1 rfl rfl (fun e => Rn.qt (qfield rfl (on e rfl) fp3))) ?_
  try simp only [Act.put, List.setIfInBounds_toArray, List.set_cons_zero, List.set_cons_succ]
  refine q_put (v := gd (p.bt 12) true (.bool (p.bt 3))) (yq1 rfl rfl (fun e => Rn.qt (qload rfl (on e rfl) (R.bit rfl)))) ?_
  try simp only [Act.put, List.setIfInBounds_toArray, List.set_cons_zero, List.set_cons_succ]
  refine q_put (v := gd (p.bt 12) true (.bool (!(p.bt 3)))) (yq1 rfl rfl (fun e => Rn.qt (qnot rfl (on e rfl)))) ?_
  try simp only [Act.put, List.setIfInBounds_toArray, List.set_cons_zero, List.set_cons_succ]
  refine q_put (v := .bool ((p.bt 12) && (!(p.bt 3)))) (yq rfl (Rn.qt (qpick rfl rfl (pkA rfl rfl)))) ?_
  try simp only [Act.put, List.setIfInBounds_toArray, List.set_cons_zero, List.set_cons_succ]
  refine q_put (v := .pointer (some ⟨b, 0, none⟩)) (yq rfl (Rn.qt (qmove rfl rfl))) ?_
  try simp only [Act.put, List.setIfInBounds_toArray, List.set_cons_zero, List.set_cons_succ]
  refine q_put (v := .func (.func 71) #[.pointer (some ⟨b, 0, none⟩)] #[]) (yq rfl (Rn.qt (qfn rfl rfl))) ?_
  try simp only [Act.put, List.setIfInBounds_toArray, List.set_cons_zero, List.set_cons_succ]
  refine q_put (v := .agg #[.bool ((p.bt 12) && (!(p.bt 3))), .func (.func 71) #[.pointer (some ⟨b, 0, none⟩)] #[]]) (yq rfl (Rn.qt (qrule rfl rfl rfl))) ?_
  try simp only [Act.put, List.setIfInBounds_toArray, List.set_cons_zero, List.set_cons_succ]
  refine q_put (v := .bool M) (yq rfl (Rn.qt (qmove rfl rfl))) ?_
  try simp only [Act.put, List.setIfInBounds_toArray, List.set_cons_zero, List.set_cons_succ]
  refine q_put (v := .bool M) (yq rfl (Rn.qt (qmove rfl rfl))) ?_
  try simp only [Act.put, List.setIfInBounds_toArray, List.set_cons_zero, List.set_cons_succ]
  refine q_put (v := gd M true (.pointer (some ⟨g, q, none⟩))) (yq1 rfl rfl (fun e => Rn.qt (qmove rfl rfl))) ?_
  try simp only [Act.put, List.setIfInBounds_toArray, List.set_cons_zero, List.set_cons_succ]
  refine q_put (v := gd M true (.pointer (some ⟨g, q, none⟩))) (yq1 rfl rfl (fun e => Rn.qt (qnil rfl (on e rfl)))) ?_
  try simp only [Act.put, List.setIfInBounds_toArray, List.set_cons_zero, List.set_cons_succ]
  refine q_put (v := gd M true (.pointer (some ⟨g, q + 3, none⟩))) (yq1 rfl rfl (fun e => Rn.qt (qfield rfl (on e rfl) fp3))) ?_
  try simp only [Act.put, List.setIfInBounds_toArray, List.set_cons_zero, List.set_cons_succ]
  refine q_put (v := gd M true (.bool (p.bt 3))) (yq1 rfl rfl (fun e => Rn.qt (qload rfl (on e rfl) (R.bit rfl)))) ?_
  try simp only [Act.put, List.setIfInBounds_toArray, List.set_cons_zero, List.set_cons_succ]
  refine q_put (v := gd M true (.bool (!(p.bt 3)))) (yq1 rfl rfl (fun e => Rn.qt (qnot rfl (on e rfl)))) ?_
  try simp only [Act.put, List.setIfInBounds_toArray, List.set_cons_zero, List.set_cons_succ]
  refine q_put (v := .bool (M && (!(p.bt 3)))) (yq rfl (Rn.qt (qpick rfl rfl (pkA rfl rfl)))) ?_
  try simp only [Act.put, List.setIfInBounds_toArray, List.set_cons_zero, List.set_cons_succ]
  refine q_put (v := .bool (M && (!(p.bt 3)))) (yq rfl (Rn.qt (qmove rfl rfl))) ?_
  try simp only [Act.put, List.setIfInBounds_toArray, List.set_cons_zero, List.set_cons_succ]
  refine q_put (v := gd (M && (!(p.bt 3))) false (.pointer (some ⟨g, q, none⟩))) (yq1 rfl rfl (fun e => Rn.qt (qmove rfl rfl))) ?_
  try simp only [Act.put, List.setIfInBounds_toArray, List.set_cons_zero, List.set_cons_succ]
  refine q_put (v := gd (M && (!(p.bt 3))) false (.pointer (some ⟨g, q, none⟩))) (yq1 rfl rfl (fun e => Rn.qt (qnil rfl (on e rfl)))) ?_
  try simp only [Act.put, List.setIfInBounds_toArray, List.set_cons_zero, List.set_cons_succ]
  refine q_put (v := gd (M && (!(p.bt 3))) false (.pointer (some ⟨g, q + 12, none⟩))) (yq1 rfl rfl (fun e => Rn.qt (qfield rfl (on e rfl) fp12))) ?_
  try simp only [Act.put, List.setIfInBounds_toArray, List.set_cons_zero, List.set_cons_succ]
  refine q_put (v := gd (M && (!(p.bt 3))) false (.bool (p.bt 12))) (yq1 rfl rfl (fun e => Rn.qt (qload rfl (on e rfl) (R.bit rfl)))) ?_
  try simp only [Act.put, List.setIfInBounds_toArray, List.set_cons_zero, List.set_cons_succ]
  refine q_put (v := gd (M && (!(p.bt 3))) false (.bool (p.bt 12))) (yq1 rfl rfl (fun e => Rn.qt (qmove rfl (on e rfl)))) ?_
  try simp only [Act.put, List.setIfInBounds_toArray, List.set_cons_zero, List.set_cons_succ]
  refine q_put (v := gd (M && (!(p.bt 3))) false (gd (p.bt 12) true (.pointer (some ⟨g, q, none⟩)))) (yq2 rfl rfl (fun e1 e2 => Rn.qt (qmove rfl rfl))) ?_
  try simp only [Act.put, List.setIfInBounds_toArray, List.set_cons_zero, List.set_cons_succ]
  refine q_put (v := gd (M && (!(p.bt 3))) false (gd (p.bt 12) true (.pointer (some ⟨g, q, none⟩)))) (yq2 rfl rfl (fun e1 e2 => Rn.qt (qnil rfl (on e2 (on e1 rfl))))) ?_
  try simp only [Act.put, List.setIfInBounds_toArray, List.set_cons_zero, List.set_cons_succ]
  refine q_put (v := gd (M && (!(p.bt 3))) false (gd (p.bt 12) true (.pointer (some ⟨g, q + 3, none⟩)))) (yq2 rfl rfl (fun e1 e2 => Rn.qt (qfield rfl (on e2 (on e1 rfl)) fp3))) ?_
  try simp only [Act.put, List.setIfInBounds_toArray, List.set_cons_zero, List.set_cons_succ]
  refine q_put (v := gd (M && (!(p.bt 3))) false (gd (p.bt 12) true (.bool (p.bt 3)))) (yq2 rfl rfl (fun e1 e2 => Rn.qt (qload rfl (on e2 (on e1 rfl)) (R.bit rfl)))) ?_
  try simp only [Act.put, List.setIfInBounds_toArray, List.set_cons_zero, List.set_cons_succ]
  refine q_put (v := gd (M && (!(p.bt 3))) false (.bool ((p.bt 12) && (p.bt 3)))) (yq1 rfl rfl (fun e => Rn.qt (qpick rfl (on e rfl) (pkA (on e rfl) rfl)))) ?_
  try simp only [Act.put, List.setIfInBounds_toArray, List.set_cons_zero, List.set_cons_succ]
  refine q_put (v := .bool ((M && (!(p.bt 3))) || ((p.bt 12) && (p.bt 3)))) (yq rfl (Rn.qt (qpick rfl rfl (pkO rfl rfl)))) ?_
  try simp only [Act.put, List.setIfInBounds_toArray, List.set_cons_zero, List.set_cons_succ]
  refine q_put (v := .func (.func F) #[.pointer (some ⟨b, 0, none⟩)] #[]) (yq rfl (Rn.qt (qmove rfl rfl))) ?_
  try simp only [Act.put, List.setIfInBounds_toArray, List.set_cons_zero, List.set_cons_succ]
  refine q_put (v := .agg #[.bool ((M && (!(p.bt 3))) || ((p.bt 12) && (p.bt 3))), .func (.func F) #[.pointer (some ⟨b, 0, none⟩)] #[]]) (yq rfl (Rn.qt (qrule rfl rfl rfl))) ?_
  try simp only [Act.put, List.setIfInBounds_toArray, List.set_cons_zero, List.set_cons_succ]
  refine wpQuiet_nil ?_
  intro z
  simp only [List.drop_succ_cons, List.drop_zero]
  have sb := bsR2 b (p.bt 12 && !p.bt 3) ((M && !p.bt 3) || (p.bt 12 && p.bt 3)) 71 F z.val
  obtain ⟨Y, hY⟩ : ∃ Y, z.val.alloc (.cells (rcs b [((p.bt 12 && !p.bt 3), 71), (((M && !p.bt 3) || (p.bt 12 && p.bt 3)), F)]).toArray 54) = Y := ⟨_, rfl⟩
  rw [hY] at sb
  have F : Hid (OwnR Y W.heap.size (.slice (some ⟨z.val.heap.size, 0, none⟩) 2 2) b [((p.bt 12 && !p.bt 3), 71), (((M && !p.bt 3) || (p.bt 12 && p.bt 3)), F)] ∧ Below W.heap.size W Y) := by
    have b2 := below_over B2.out z.below
    rw [← hY]
    exact ⟨(OwnR.new z.val b [((p.bt 12 && !p.bt 3), 71), (((M && !p.bt 3) || (p.bt 12 && p.bt 3)), F)] (by simp)).base b2.size, b2.trans ((Below.refl _ _).alloc b2.size _)⟩
  clear hY
  go_wp2
  go_ret
  exact ⟨_, rfl, F.out.1, F.out.2⟩
end Go.Proofs.Ytdlleecfmebenaa
