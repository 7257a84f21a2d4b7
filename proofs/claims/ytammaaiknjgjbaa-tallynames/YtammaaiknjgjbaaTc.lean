/-
  A tally in memory: walks of made, counter, all, New, Get, Add, All and Fork, each for every input.
-/
import Derived.Test.YtammaaiknjgjbaaTa
namespace Go.Proofs.Ytammaaiknjgjbaa
set_option linter.unusedVariables false
set_option maxRecDepth 4000
set_option linter.unusedSimpArgs false
open Go.RowKit
theorem infoT : (Try.prog.info? 55).map (·.size) = some 16 := by kernel_rfl
theorem rtT : RowTy 55 16 := ⟨infoT, _, Try.underlying55, rfl⟩
theorem ldT (x : Value) : Instr.loadAt 55 x = ldS 55 x := rfl
theorem stT (x y : Value) : Instr.storeAt 55 x y = stS 55 x y := rfl
attribute [local go_sem ↓] apI bsI ldT stT stI
attribute [local go_sem] bzI
/-- Its cells. -/
def tcs (m : Bool) (N : List Int) : Array Value := (.bool m :: N.map fun x => .int .i64 x).toArray
abbrev TAt (W : World) (g : Nat) (N : List Int) : Prop := RvAt W g 55 (tcs true N)
theorem tcs_size {m : Bool} {N : List Int} (h : IsN N) : (tcs m N).size = 16 := by simp [tcs, h.1]
theorem tcs_one (m : Bool) (N : List Int) : ∀ v ∈ (tcs m N).toList, v.oneCell' = true := by
  intro v hv
  simp [tcs] at hv
  rcases hv with rfl | ⟨x, _, rfl⟩ <;> rfl
theorem tcs_at {m : Bool} {N : List Int} {k : Nat} {x : Int} (h : N[k]? = some x) : (tcs m N)[k + 1]? = some (.int .i64 x) := by simp [tcs, h]
theorem TAt.c0 {W : World} {g : Nat} {m : Bool} {N : List Int} (h : RvAt W g 55 (tcs m N)) : W.cell? ⟨g, 0, none⟩ = some (.bool m) := h.cell 0 _ rfl
theorem TAt.cn {W : World} {g : Nat} {m : Bool} {N : List Int} (h : RvAt W g 55 (tcs m N)) {k : Nat} {x : Int} (hx : N[k]? = some x) : W.cell? ⟨g, 1 + k, none⟩ = some (.int .i64 x) := h.cell (1 + k) _ (by rw [Nat.add_comm]; exact tcs_at hx)
theorem TAt.st {W : World} {g : Nat} {m : Bool} {N : List Int} (h : RvAt W g 55 (tcs m N)) (hN : IsN N) {k : Nat} (hk : k < 15) (y : Int) :
    ∃ W', (stS 3 (.pointer (some ⟨g, 1 + k, none⟩)) (.int .i64 y)).run Try.prog W = .ok () W' ∧ RvAt W' g 55 (tcs m (N.set k y)) ∧ W.grownBy W' (some g) := by
  have hs := RvAt.st1 (k := 1 + k) (tv := 3) (v := .int .i64 y) h infoI (by rw [tcs_size hN]; omega) rfl
  have e : ((tcs m N).toList.set (1 + k) (.int .i64 y)).toArray = tcs m (N.set k y) := by
    unfold tcs
    rw [Nat.add_comm]
    simp [List.map_set]
  rw [e] at hs
  exact ⟨_, hs, RvAt.set h, grown_row _ _ _⟩
theorem TAt.sl {W : World} {g : Nat} {m : Bool} {N : List Int} (h : RvAt W g 55 (tcs m N)) (hN : IsN N) : SlAt eI W (some ⟨g, 1, none⟩) 15 15 N := by
  refine ⟨hN.1, Nat.le_refl _, by unfold maxLen; omega, (fun e => by cases e), fun x hx _ => ?_⟩
  cases hx
  refine ⟨g, 1, rfl, fun j u hj => ?_⟩
  rw [El.fl_get kI] at hj
  have hK : eI.K = 1 := rfl
  rw [hK, Nat.div_one, Nat.mod_one] at hj
  obtain ⟨x, hx, hu⟩ := Option.bind_eq_some_iff.1 hj
  have e2 : Value.int .i64 x = u := by
    have : (eI.f x).toList = [.int .i64 x] := rfl
    rw [this] at hu
    simpa using hu
  rw [← e2]
  exact TAt.cn h hx
theorem is_any (w : Int) (W : World) : Calls Try.prog 27 #[.int .i64 w] W fun e W' => e = .returned (.bool (okW w)) ∧ W = W' := by
  by_cases h1 : 1 ≤ w
  · by_cases h2 : w ≤ 14
    · have e : okW w = true := by unfold okW; simp [h1, h2]
      rw [e]
      go_enter Try.func27, Try.ntmps27
      go_wp2
      go_ret
      exact ⟨rfl, rfl⟩
    · have e : okW w = false := by unfold okW; simp [h2]
      rw [e]
      go_enter Try.func27, Try.ntmps27
      go_wp2
      go_ret
      exact ⟨rfl, rfl⟩
  · have e : okW w = false := by unfold okW; simp [h1]
    rw [e]
    go_enter Try.func27, Try.ntmps27
    go_wp2
    go_ret
    exact ⟨rfl, rfl⟩
/-- A tally that nobody made. -/
def NobT (W : World) (p : Option Addr) : Prop := p = none ∨ ∃ g, p = some ⟨g, 0, none⟩ ∧ RvAt W g 55 (tcs false zN)
theorem some_any {g : Nat} {W : World} {N : List Int} (h : TAt W g N) : Calls Try.prog 26 #[.pointer (some ⟨g, 0, none⟩)] W fun e W' => e = .returned (.bool true) ∧ W = W' := by
  have l0 := TAt.c0 h
  clear h
  go_enter Try.func26, Try.ntmps26
  go_wp2
  go_ret
  exact ⟨rfl, rfl⟩
theorem nob_any {W : World} {p : Option Addr} (h : NobT W p) : Calls Try.prog 26 #[.pointer p] W fun e W' => e = .returned (.bool false) ∧ W = W' := by
  rcases h with rfl | ⟨g, rfl, h⟩
  · go_enter Try.func26, Try.ntmps26
    go_wp2
    go_ret
    exact ⟨rfl, rfl⟩
  · have l0 := TAt.c0 h
    clear h
    go_enter Try.func26, Try.ntmps26
    go_wp2
    go_ret
    exact ⟨rfl, rfl⟩
/-! ### the numbers, as a value -/
def ai (N : List Int) : Array Value := (N.map (Value.int .i64)).toArray
theorem ai_size {N : List Int} (h : N.length = 15) : (ai N).size = 15 := by simp [ai, h]
theorem ai_one (N : List Int) : ∀ v ∈ (ai N).toList, v.oneCell' = true := by
  intro v hv
  simp [ai] at hv
  obtain ⟨x, _, rfl⟩ := hv
  rfl
theorem infoA : (Try.prog.info? 53).map (·.size) = some 15 := by kernel_rfl
theorem rtA : RowTy 53 15 := ⟨infoA, _, Try.underlying53, rfl⟩
theorem ldA (x : Value) : Instr.loadAt 53 x = ldS 53 x := rfl
theorem stA (x y : Value) : Instr.storeAt 53 x y = stS 53 x y := rfl
abbrev AtA (W : World) (g : Nat) (N : List Int) : Prop := RvAt W g 53 (ai N)
theorem AtA.cn {W : World} {g : Nat} {N : List Int} (h : AtA W g N) {k : Nat} {x : Int} (hx : N[k]? = some x) : W.cell? ⟨g, k, none⟩ = some (.int .i64 x) := h.cell k _ (by simp [ai, hx])
theorem AtA.st {W : World} {g : Nat} {N : List Int} (h : AtA W g N) (hN : N.length = 15) {k : Nat} (hk : k < 15) (y : Int) :
    ∃ W', (stS 3 (.pointer (some ⟨g, k, none⟩)) (.int .i64 y)).run Try.prog W = .ok () W' ∧ AtA W' g (N.set k y) ∧ W.grownBy W' (some g) := by
  have hs := RvAt.st1 (k := k) (tv := 3) (v := .int .i64 y) h infoI (by rw [ai_size hN]; omega) rfl
  have e : ((ai N).toList.set k (.int .i64 y)).toArray = ai (N.set k y) := by
    unfold ai
    simp [List.map_set]
  rw [e] at hs
  exact ⟨_, hs, RvAt.set h, grown_row _ _ _⟩
theorem AtA.sl {W : World} {g : Nat} {N : List Int} (h : AtA W g N) (hN : N.length = 15) : SlAt eI W (some ⟨g, 0, none⟩) 15 15 N := by
  refine ⟨hN, Nat.le_refl _, by unfold maxLen; omega, (fun e => by cases e), fun x hx _ => ?_⟩
  cases hx
  refine ⟨g, 0, rfl, fun j u hj => ?_⟩
  rw [El.fl_get kI] at hj
  have hK : eI.K = 1 := rfl
  rw [hK, Nat.div_one, Nat.mod_one] at hj
  obtain ⟨x, hx, hu⟩ := Option.bind_eq_some_iff.1 hj
  have e2 : Value.int .i64 x = u := by
    have : (eI.f x).toList = [.int .i64 x] := rfl
    rw [this] at hu
    simpa using hu
  rw [← e2, Nat.zero_add]
  exact AtA.cn h hx
theorem TAt.lda {W : World} {g : Nat} {m : Bool} {N : List Int} (h : RvAt W g 55 (tcs m N)) (hN : N.length = 15) : (ldS 53 (.pointer (some ⟨g, 1, none⟩))).run Try.prog W = .ok (.agg (ai N)) W := by
  have := run_loadAt_mid (P := Try.prog) W g 1 53 (N.map (Value.int .i64)) _ (fun r v hv => by
    rw [List.getElem?_map] at hv
    cases hx : N[r]? with
    | none => rw [hx] at hv; cases hv
    | some x => rw [hx] at hv; cases hv; exact TAt.cn h hx) Try.underlying53 rfl (by rw [List.length_map, hN]; exact infoA)
  exact this
theorem ixA0 (V : World) (x0 x1 x2 x3 x4 x5 x6 x7 x8 x9 x10 x11 x12 x13 x14 : Int) : ∀ k : Nat, k < 15 → (Instr.index 53 (.agg (ai [x0, x1, x2, x3, x4, x5, x6, x7, x8, x9, x10, x11, x12, x13, x14])) (.int .i64 (k : Int))).run Try.prog V = .ok (.int .i64 ([x0, x1, x2, x3, x4, x5, x6, x7, x8, x9, x10, x11, x12, x13, x14].getD k 0)) V
  | 0, _ => by kernel_rfl
  | 1, _ => by kernel_rfl
  | 2, _ => by kernel_rfl
  | 3, _ => by kernel_rfl
  | 4, _ => by kernel_rfl
  | 5, _ => by kernel_rfl
  | 6, _ => by kernel_rfl
  | 7, _ => by kernel_rfl
  | 8, _ => by kernel_rfl
  | 9, _ => by kernel_rfl
  | 10, _ => by kernel_rfl
  | 11, _ => by kernel_rfl
  | 12, _ => by kernel_rfl
  | 13, _ => by kernel_rfl
  | 14, _ => by kernel_rfl
  | k + 15, h => absurd h (by omega)
theorem ixA (V : World) (N : List Int) (k : Nat) (hN : N.length = 15) (hk : k < 15) : (Instr.index 53 (.agg (ai N)) (.int .i64 (k : Int))).run Try.prog V = .ok (.int .i64 (N.getD k 0)) V := by
  obtain ⟨x0, N, rfl⟩ : ∃ x l, N = x :: l := by
    cases N with
    | nil => cases hN
    | cons x l => exact ⟨x, l, rfl⟩
  replace hN : N.length = 14 := by simpa using hN
  obtain ⟨x1, N, rfl⟩ : ∃ x l, N = x :: l := by
    cases N with
    | nil => cases hN
    | cons x l => exact ⟨x, l, rfl⟩
  replace hN : N.length = 13 := by simpa using hN
  obtain ⟨x2, N, rfl⟩ : ∃ x l, N = x :: l := by
    cases N with
    | nil => cases hN
    | cons x l => exact ⟨x, l, rfl⟩
  replace hN : N.length = 12 := by simpa using hN
  obtain ⟨x3, N, rfl⟩ : ∃ x l, N = x :: l := by
    cases N with
    | nil => cases hN
    | cons x l => exact ⟨x, l, rfl⟩
  replace hN : N.length = 11 := by simpa using hN
  obtain ⟨x4, N, rfl⟩ : ∃ x l, N = x :: l := by
    cases N with
    | nil => cases hN
    | cons x l => exact ⟨x, l, rfl⟩
  replace hN : N.length = 10 := by simpa using hN
  obtain ⟨x5, N, rfl⟩ : ∃ x l, N = x :: l := by
    cases N with
    | nil => cases hN
    | cons x l => exact ⟨x, l, rfl⟩
  replace hN : N.length = 9 := by simpa using hN
  obtain ⟨x6, N, rfl⟩ : ∃ x l, N = x :: l := by
    cases N with
    | nil => cases hN
    | cons x l => exact ⟨x, l, rfl⟩
  replace hN : N.length = 8 := by simpa using hN
  obtain ⟨x7, N, rfl⟩ : ∃ x l, N = x :: l := by
    cases N with
    | nil => cases hN
    | cons x l => exact ⟨x, l, rfl⟩
  replace hN : N.length = 7 := by simpa using hN
  obtain ⟨x8, N, rfl⟩ : ∃ x l, N = x :: l := by
    cases N with
    | nil => cases hN
    | cons x l => exact ⟨x, l, rfl⟩
  replace hN : N.length = 6 := by simpa using hN
  obtain ⟨x9, N, rfl⟩ : ∃ x l, N = x :: l := by
    cases N with
    | nil => cases hN
    | cons x l => exact ⟨x, l, rfl⟩
  replace hN : N.length = 5 := by simpa using hN
  obtain ⟨x10, N, rfl⟩ : ∃ x l, N = x :: l := by
    cases N with
    | nil => cases hN
    | cons x l => exact ⟨x, l, rfl⟩
  replace hN : N.length = 4 := by simpa using hN
  obtain ⟨x11, N, rfl⟩ : ∃ x l, N = x :: l := by
    cases N with
    | nil => cases hN
    | cons x l => exact ⟨x, l, rfl⟩
  replace hN : N.length = 3 := by simpa using hN
  obtain ⟨x12, N, rfl⟩ : ∃ x l, N = x :: l := by
    cases N with
    | nil => cases hN
    | cons x l => exact ⟨x, l, rfl⟩
  replace hN : N.length = 2 := by simpa using hN
  obtain ⟨x13, N, rfl⟩ : ∃ x l, N = x :: l := by
    cases N with
    | nil => cases hN
    | cons x l => exact ⟨x, l, rfl⟩
  replace hN : N.length = 1 := by simpa using hN
  obtain ⟨x14, N, rfl⟩ : ∃ x l, N = x :: l := by
    cases N with
    | nil => cases hN
    | cons x l => exact ⟨x, l, rfl⟩
  replace hN : N.length = 0 := by simpa using hN
  obtain rfl : N = [] := List.eq_nil_of_length_eq_zero hN
  exact ixA0 V x0 x1 x2 x3 x4 x5 x6 x7 x8 x9 x10 x11 x12 x13 x14 k hk
theorem ixA' {N : List Int} {k : Nat} {x : Int} (hN : N.length = 15) (hk : k < 15) (h : N[k]? = some x) (V : World) : (Instr.index 53 (.agg (ai N)) (.int .i64 (k : Int))).run Try.prog V = .ok (.int .i64 x) V := by
  have := ixA V N k hN hk
  rwa [List.getD_eq_getElem?_getD, h] at this
/-- A tally of any kind: what it says. -/
def TT (W : World) (p : Option Addr) (N : List Int) : Prop := (∃ g, p = some ⟨g, 0, none⟩ ∧ TAt W g N ∧ IsN N) ∨ (NobT W p ∧ N = zN)
theorem NobT.below {W W' : World} {p : Option Addr} (h : NobT W p) (hb : Below W.heap.size W W') : NobT W' p := by
  rcases h with rfl | ⟨g, rfl, h⟩
  · exact .inl rfl
  · exact .inr ⟨g, rfl, h.below hb⟩
theorem TT.below {W W' : World} {p : Option Addr} {N : List Int} (h : TT W p N) (hb : Below W.heap.size W W') : TT W' p N := by
  rcases h with ⟨g, rfl, h1, h2⟩ | ⟨h1, rfl⟩
  · exact .inl ⟨g, rfl, RvAt.below h1 hb, h2⟩
  · exact .inr ⟨h1.below hb, rfl⟩
theorem TT.isN {W : World} {p : Option Addr} {N : List Int} (h : TT W p N) : IsN N := by
  rcases h with ⟨g, rfl, h1, h2⟩ | ⟨h1, rfl⟩
  · exact h2
  · exact isZ
theorem ai_zN : ai zN = #[.int .i64 0, .int .i64 0, .int .i64 0, .int .i64 0, .int .i64 0, .int .i64 0, .int .i64 0, .int .i64 0, .int .i64 0, .int .i64 0, .int .i64 0, .int .i64 0, .int .i64 0, .int .i64 0, .int .i64 0] := rfl
/-- The variable of an array: new. -/
theorem AtA.new (W : World) : ∃ V, W.alloc (.cells #[.int .i64 0, .int .i64 0, .int .i64 0, .int .i64 0, .int .i64 0, .int .i64 0, .int .i64 0, .int .i64 0, .int .i64 0, .int .i64 0, .int .i64 0, .int .i64 0, .int .i64 0, .int .i64 0, .int .i64 0] 53) = V ∧ AtA V W.heap.size zN ∧ Below W.heap.size W V := ⟨_, rfl, RvAt.new W _ _, (Below.refl _ _).alloc (Nat.le_refl _) _⟩
theorem AtA.put {W V : World} {N M : List Int} (h : AtA V W.heap.size N) (hN : N.length = 15) (hM : M.length = 15) (b : Below W.heap.size W V) : ∃ Z, (stS 53 (.pointer (some ⟨W.heap.size, 0, none⟩)) (.agg (ai M))).run Try.prog V = .ok () Z ∧ AtA Z W.heap.size M ∧ Below W.heap.size W Z :=
  ⟨_, RvAt.st rtA h (ai_size hN) (ai_size hM) (ai_one M), RvAt.set h, gro b (grown_row _ _ _) (Nat.le_refl _) b.size⟩
section
attribute [local go_sem ↓] ldA stA
set_option maxHeartbeats 2000000 in
theorem tall_any {W : World} {p : Option Addr} {N : List Int} (h : TT W p N) : Calls Try.prog 29 #[.pointer p] W fun e W' => e = .returned (.agg (ai N)) ∧ Below W.heap.size W W' := by
  obtain ⟨V, hV, r, b⟩ := AtA.new W
  have hT := h.below b
  rcases hT with ⟨g, rfl, h1, h2⟩ | ⟨h1, rfl⟩
  · obtain ⟨Z, s1, r1, b1⟩ := AtA.put r rfl h2.1 b
    have l1 := TAt.lda h1 h2.1
    obtain ⟨C, hC⟩ : ∃ e, ai N = e := ⟨_, rfl⟩
    have H : Hid (TAt V g N ∧ AtA Z W.heap.size N ∧ Below W.heap.size W Z ∧ ai N = C ∧ N.length = 15) := ⟨h1, r1, b1, hC, h2.1⟩
    rw [hC] at s1 l1 ⊢
    clear h r b h1 h2 r1 b1 hC
    go_enter Try.func29, Try.ntmps29
    go_wp2_with fail
    refine (some_any H.out.1).mono ?_
    rintro _ _ ⟨rfl, rfl⟩
    go_wp2
    refine ⟨rfl, _, results_row rtA Try.results29 _ _ _ _ rfl (by have := H.out.2.1; unfold AtA at this; rw [H.out.2.2.2.1] at this; exact this) (by rw [← H.out.2.2.2.1]; exact ai_size (H.out.2.2.2.2)), ?_⟩
    exact ⟨rfl, H.out.2.2.1⟩
  · obtain ⟨Z, s1, r1, b1⟩ := AtA.put r rfl (M := zN) rfl b
    rw [ai_zN] at s1
    have H : Hid (NobT V p ∧ AtA Z W.heap.size zN ∧ Below W.heap.size W Z) := ⟨h1, r1, b1⟩
    clear h r b h1 r1 b1
    go_enter Try.func29, Try.ntmps29
    go_wp2_with fail
    refine (nob_any H.out.1).mono ?_
    rintro _ _ ⟨rfl, rfl⟩
    go_wp2
    refine ⟨rfl, _, results_row rtA Try.results29 _ _ _ _ rfl H.out.2.1 rfl, ?_⟩
    exact ⟨rfl, H.out.2.2⟩
end
set_option maxHeartbeats 2000000 in
theorem new_any (W : World) : Calls Try.prog 9 #[] W fun e W' => ∃ g, e = .returned (.pointer (some ⟨g, 0, none⟩)) ∧ W.heap.size ≤ g ∧ TAt W' g zN ∧ Below W.heap.size W W' := by
  have p : TAt (W.alloc (.cells (tcs true zN) 55)) W.heap.size zN := RvAt.new W _ _
  have b : Below W.heap.size W (W.alloc (.cells (tcs true zN) 55)) := (Below.refl _ _).alloc (Nat.le_refl _) _
  have H : Hid (TAt (W.alloc (.cells (tcs true zN) 55)) W.heap.size zN ∧ Below W.heap.size W (W.alloc (.cells (tcs true zN) 55))) := ⟨p, b⟩
  clear p b
  go_enter Try.func9, Try.ntmps9
  go_wp2
  go_ret
  exact ⟨_, rfl, Nat.le_refl _, H.out.1, H.out.2⟩
theorem get_zN (w : Int) : getN zN w = 0 := by
  unfold getN
  split
  · rename_i hw
    have h := isZ.get hw
    have h1 : getN zN w = zN.getD w.toNat 0 := by unfold getN; rw [if_pos hw]
    have h2 := h.2.2.2.2.1
    have : ∀ k, k < 15 → zN.getD k 0 = 0 := by decide
    exact this _ h2
  · rfl
set_option maxHeartbeats 2000000 in
theorem tget_any {W : World} {p : Option Addr} {N : List Int} (h : TT W p N) (w : Int) : Calls Try.prog 15 #[.pointer p, .int .i64 w] W fun e W' => e = .returned (.int .i64 (getN N w)) ∧ Below W.heap.size W W' := by
  have hN := h.isN
  cases hw : okW w with
  | false =>
    have e : getN N w = 0 := by unfold getN; simp [hw]
    rw [e]
    clear h hN
    go_enter Try.func15, Try.ntmps15
    go_wp2_with fail
    refine (is_any w _).mono ?_
    rintro _ _ ⟨rfl, rfl⟩
    rw [hw]
    go_wp2
    go_ret
    exact ⟨rfl, Below.refl _ _⟩
  | true =>
    have q := hN.get hw
    obtain ⟨k, rfl⟩ : ∃ k : Nat, w = k := ⟨w.toNat, q.2.2.2.1⟩
    have hk : (k : Int) < 15 := by have := q.2.2.2.2.1; omega
    have hk0 : (0 : Int) ≤ (k : Int) := by omega
    have gx := q.1
    rw [Int.toNat_natCast] at gx
    have c0 : ∀ V : World, (Instr.index 53 (.agg (ai N)) (.int .i64 (k : Int))).run Try.prog V = .ok (.int .i64 (getN N k)) V := ixA' hN.1 (by omega) gx
    have H : Hid (TT W p N) := h
    obtain ⟨z, hz⟩ : ∃ z, getN N k = z := ⟨_, rfl⟩
    rw [hz] at c0 ⊢
    clear h q hz gx hN
    go_enter Try.func15, Try.ntmps15
    go_wp2_with fail
    refine (is_any (k : Int) _).mono ?_
    rintro _ _ ⟨rfl, rfl⟩
    rw [hw]
    go_wp2_with fail
    refine (tall_any H.out).mono ?_
    rintro _ X ⟨rfl, b⟩
    have K : Hid (Below W.heap.size W X) := b
    clear b
    obtain ⟨C, hC⟩ : ∃ e, ai N = e := ⟨_, rfl⟩
    rw [hC] at c0 ⊢
    clear hC
    go_wp2
    go_ret
    exact ⟨rfl, K.out⟩
theorem get_any {W : World} {g : Nat} {N : List Int} (h : TAt W g N) (hN : IsN N) (w : Int) : Calls Try.prog 15 #[.pointer (some ⟨g, 0, none⟩), .int .i64 w] W fun e W' => e = .returned (.int .i64 (getN N w)) ∧ Below W.heap.size W W' := tget_any (.inl ⟨g, rfl, h, hN⟩) w
theorem nget_any {W : World} {p : Option Addr} (h : NobT W p) (w : Int) : Calls Try.prog 15 #[.pointer p, .int .i64 w] W fun e W' => e = .returned (.int .i64 0) ∧ Below W.heap.size W W' := by
  have := tget_any (.inr ⟨h, rfl⟩) w
  rwa [get_zN] at this
set_option maxHeartbeats 4000000 in
theorem add_any {W : World} {g : Nat} {N : List Int} (h : TAt W g N) (hN : IsN N) (w n : Int) : Calls Try.prog 13 #[.pointer (some ⟨g, 0, none⟩), .int .i64 w, .int .i64 n] W fun e W' => e = .returned (.int .i64 (addE N w n)) ∧ TAt W' g (addN N w n) ∧ W.grownBy W' (some g) := by
  have H : Hid (TAt W g N) := h
  by_cases hb : okW w = false ∨ n < 0 ∨ 1073741824 < n
  · have P : Hid (addE N w n = 220 ∧ addN N w n = N) := by
      have e : addE N w n = 220 := by unfold addE; rw [if_pos hb]
      exact ⟨e, by unfold addN; rw [e]; rfl⟩
    have R : Hid (W.grownBy W (some g)) := grown_of_below (Below.refl _ _) _
    cases hw : okW w with
    | false =>
      clear hb h
      go_enter Try.func13, Try.ntmps13
      go_wp2_with fail
      refine (some_any H.out).mono ?_
      rintro _ _ ⟨rfl, rfl⟩
      go_wp2_with fail
      refine (is_any w _).mono ?_
      rintro _ _ ⟨rfl, rfl⟩
      rw [hw]
      go_wp2
      go_ret
      exact ⟨by rw [P.out.1]; rfl, by rw [P.out.2]; exact H.out, R.out⟩
    | true =>
      by_cases h0 : n < 0
      · clear hb h
        go_enter Try.func13, Try.ntmps13
        go_wp2_with fail
        refine (some_any H.out).mono ?_
        rintro _ _ ⟨rfl, rfl⟩
        go_wp2_with fail
        refine (is_any w _).mono ?_
        rintro _ _ ⟨rfl, rfl⟩
        rw [hw]
        go_wp2
        go_ret
        exact ⟨by rw [P.out.1]; rfl, by rw [P.out.2]; exact H.out, R.out⟩
      · have h1 : 1073741824 < n := by
          rcases hb with e | e | e
          · rw [hw] at e; cases e
          · exact absurd e h0
          · exact e
        clear hb h
        go_enter Try.func13, Try.ntmps13
        go_wp2_with fail
        refine (some_any H.out).mono ?_
        rintro _ _ ⟨rfl, rfl⟩
        go_wp2_with fail
        refine (is_any w _).mono ?_
        rintro _ _ ⟨rfl, rfl⟩
        rw [hw]
        go_wp2
        go_ret
        exact ⟨by rw [P.out.1]; rfl, by rw [P.out.2]; exact H.out, R.out⟩
  · have hw : okW w = true := by
      cases hw : okW w with
      | true => rfl
      | false => exact absurd (.inl hw) hb
    have h0 : ¬ n < 0 := fun e => hb (.inr (.inl e))
    have h1 : ¬ 1073741824 < n := fun e => hb (.inr (.inr e))
    have q := hN.get hw
    have e0 : addE N w n = if 1125899906842624 < getN N w + n then 3 else 0 := by unfold addE; rw [if_neg hb]
    obtain ⟨k, rfl⟩ : ∃ k : Nat, w = k := ⟨w.toNat, q.2.2.2.1⟩
    have hk : (k : Int) < 15 := by have := q.2.2.2.2.1; omega
    have hk0 : (0 : Int) ≤ (k : Int) := by omega
    have gx := q.1
    rw [Int.toNat_natCast] at gx
    obtain ⟨z, hz⟩ : ∃ z, getN N k = z := ⟨_, rfl⟩
    have hz0 := q.2.1
    have hz1 := q.2.2.1
    rw [hz] at hz0 hz1 e0 gx
    have c1 := TAt.cn h gx
    by_cases h2 : 1125899906842624 - n < z
    · have P : Hid (addE N k n = 3 ∧ addN N k n = N) := by
        rw [if_pos (by omega)] at e0
        exact ⟨e0, by unfold addN; rw [e0]; rfl⟩
      have R : Hid (W.grownBy W (some g)) := grown_of_below (Below.refl _ _) _
      clear hb h q e0 gx hz
      go_enter Try.func13, Try.ntmps13
      go_wp2_with fail
      refine (some_any H.out).mono ?_
      rintro _ _ ⟨rfl, rfl⟩
      go_wp2_with fail
      refine (is_any (k : Int) _).mono ?_
      rintro _ _ ⟨rfl, rfl⟩
      rw [hw]
      go_wp2
      go_ret
      exact ⟨by rw [P.out.1]; rfl, by rw [P.out.2]; exact H.out, R.out⟩
    · have P : Hid (addE N k n = 0 ∧ addN N k n = N.set k (z + n)) := by
        rw [if_neg (by omega)] at e0
        exact ⟨e0, by unfold addN; rw [e0, if_pos rfl, Int.toNat_natCast, hz]⟩
      clear hb q e0 hz
      go_enter Try.func13, Try.ntmps13
      go_wp2_with fail
      refine (some_any H.out).mono ?_
      rintro _ _ ⟨rfl, rfl⟩
      go_wp2_with fail
      refine (is_any (k : Int) _).mono ?_
      rintro _ _ ⟨rfl, rfl⟩
      rw [hw]
      have f0 : ∀ q : Later W, q.val.cell? ⟨g, 1 + k, none⟩ = some (.int .i64 z) := fun q => TAt.cn (RvAt.below h q.below) gx
      have f1 : ∀ q : Later W, ∃ W', (stS 3 (.pointer (some ⟨g, 1 + k, none⟩)) (.int .i64 (z + n))).run Try.prog q.val = .ok () W' ∧ TAt W' g (N.set k (z + n)) ∧ q.val.grownBy W' (some g) := fun q => TAt.st (RvAt.below h q.below) hN (by omega) _
      have HF : Hid (∀ q : Later W, ∃ W', (stS 3 (.pointer (some ⟨g, 1 + k, none⟩)) (.int .i64 (z + n))).run Try.prog q.val = .ok () W' ∧ TAt W' g (N.set k (z + n)) ∧ q.val.grownBy W' (some g)) := f1
      have HB : Hid (∀ q : Later W, W.grownBy q.val (some g)) := fun q => grown_of_below q.below _
      clear h gx f1
      go_wp2_with fail
      refine wp_region_later_tail 11 (by kernel_rfl) (by kernel_rfl) ?_
      simp only [List.take_succ_cons, List.take_zero]
      repeat (go_big_quiet_step (first | exact rfl))
      refine wpQuiet_nil ?_
      intro q
      simp only [List.drop_succ_cons, List.drop_zero]
      obtain ⟨Z, sZ, mZ, gZ⟩ := HF.out q
      have hq := HB.out q
      obtain ⟨Q, hQ⟩ : ∃ z, q.val = z := ⟨_, rfl⟩
      rw [hQ] at sZ gZ hq ⊢
      have G : Hid (TAt Z g (N.set k (z + n)) ∧ W.grownBy Z (some g)) := ⟨mZ, grown_self hq gZ⟩
      clear mZ gZ hq hQ f0
      go_wp2
      go_ret
      exact ⟨by rw [P.out.1]; rfl, by rw [P.out.2]; exact G.out.1, G.out.2⟩
/-- Numbers in an array of one's own, as a slice. -/
def Oa (W : World) (B : Nat) (v : Value) (N : List Int) : Prop := ∃ g, v = .slice (some ⟨g, 0, none⟩) 15 15 ∧ B ≤ g ∧ AtA W g N ∧ N.length = 15
theorem Oa.sl15 {W : World} {B : Nat} {a : Option Addr} {c : Nat} {N : List Int} (h : Oa W B (.slice a 15 c) N) : SlAt eI W a 15 c N := by
  obtain ⟨g, e, _, h1, h2⟩ := h
  injection e with e1 e2 e3
  rw [e1, e3]
  exact AtA.sl h1 h2
section
attribute [local go_sem ↓] ldA stA
set_option maxHeartbeats 2000000 in
theorem all_any {W : World} {g : Nat} {N : List Int} (h : TAt W g N) (hN : IsN N) : Calls Try.prog 18 #[.pointer (some ⟨g, 0, none⟩)] W fun e W' => ∃ a c, e = .returned (.slice a 15 c) ∧ Oa W' W.heap.size (.slice a 15 c) N ∧ Below W.heap.size W W' := by
  have H : Hid (TAt W g N ∧ IsN N) := ⟨h, hN⟩
  clear h hN
  go_enter Try.func18, Try.ntmps18
  go_wp2_with fail
  refine (some_any H.out.1).mono ?_
  rintro _ _ ⟨rfl, rfl⟩
  go_wp2_with fail
  refine (tall_any (.inl ⟨g, rfl, H.out.1, H.out.2⟩)).mono ?_
  rintro _ X ⟨rfl, b⟩
  obtain ⟨V, hV, r, b1⟩ := AtA.new X
  obtain ⟨Z, s1, r1, b2⟩ := AtA.put r rfl H.out.2.1 b1
  have K : Hid (AtA Z X.heap.size N ∧ Below W.heap.size W Z ∧ W.heap.size ≤ X.heap.size) := ⟨r1, below_over b b2, b.size⟩
  obtain ⟨C, hC⟩ : ∃ e, ai N = e := ⟨_, rfl⟩
  rw [hC] at s1 ⊢
  clear hC r b1 r1 b2 b
  go_wp2
  go_ret
  exact ⟨_, _, rfl, ⟨_, rfl, K.out.2.2, K.out.1, H.out.2.1⟩, K.out.2.1⟩
end
set_option maxHeartbeats 2000000 in
theorem fork_any {W : World} {g : Nat} {N : List Int} (h : TAt W g N) (hN : IsN N) : Calls Try.prog 12 #[.pointer (some ⟨g, 0, none⟩)] W fun e W' => ∃ g', e = .returned (.pointer (some ⟨g', 0, none⟩)) ∧ W.heap.size ≤ g' ∧ TAt W' g' N ∧ Below W.heap.size W W' := by
  have H : Hid (TAt W g N) := h
  have l0 := RvAt.ld rtT h (tcs_size hN)
  obtain ⟨V, hV⟩ : ∃ e, W.alloc (.cells (tcs false zN) 55) = e := ⟨_, rfl⟩
  have r : RvAt V W.heap.size 55 (tcs false zN) := by rw [← hV]; exact RvAt.new W _ _
  have b : Below W.heap.size W V := by rw [← hV]; exact (Below.refl _ _).alloc (Nat.le_refl _) _
  have s0 := RvAt.st rtT r (tcs_size isZ) (tcs_size (m := true) hN) (tcs_one _ _)
  obtain ⟨Z, hZ⟩ : ∃ e, V.setRow W.heap.size (tcs true N) = e := ⟨_, rfl⟩
  have F : Hid (TAt Z W.heap.size N ∧ Below W.heap.size W Z) := by
    rw [← hZ]
    exact ⟨RvAt.set r, gro b (grown_row _ _ _) (Nat.le_refl _) b.size⟩
  rw [hZ] at s0
  obtain ⟨C, hC⟩ : ∃ e, tcs true N = e := ⟨_, rfl⟩
  rw [hC] at l0 s0
  have hV' : W.alloc (.cells #[.bool false, .int .i64 0, .int .i64 0, .int .i64 0, .int .i64 0, .int .i64 0, .int .i64 0, .int .i64 0, .int .i64 0, .int .i64 0, .int .i64 0, .int .i64 0, .int .i64 0, .int .i64 0, .int .i64 0, .int .i64 0] 55) = V := hV
  clear h r b hZ hC hV
  go_enter Try.func12, Try.ntmps12
  go_wp2_with fail
  refine (some_any H.out).mono ?_
  rintro _ _ ⟨rfl, rfl⟩
  go_wp2
  go_ret
  exact ⟨_, rfl, Nat.le_refl _, F.out.1, F.out.2⟩
end Go.Proofs.Ytammaaiknjgjbaa
