/-
  What is the same: walks of Equal, EqualFunc, Index, Contains, Same of the code, each for every input.
-/
import Derived.Test.YtmfjlhcobhilcabMor
namespace Go.Proofs.Ytmfjlhcobhilcab
set_option linter.unusedVariables false
set_option maxRecDepth 4000
set_option linter.unusedSimpArgs false
open Go.RowKit
attribute [local go_sem ↓] ldM stM ldC stC ldB stB ldP stP apI bsI
attribute [local go_sem] bsI_is bsI2_is

attribute [local go_sem ↓] eqgM eqgC neqM neqC eqlM eqlC
/-- A bool is told: is it so? -/
def TellB (r : Ending) (P : Prop) : Prop := ∃ R, r = .returned (.bool R) ∧ (R = true ↔ P)
theorem TellB.yes {P : Prop} (h : P) : TellB (.returned (.bool true)) P := ⟨true, rfl, fun _ => h, fun _ => rfl⟩
theorem TellB.no {P : Prop} (h : ¬ P) : TellB (.returned (.bool false)) P := ⟨false, rfl, (fun e => by cases e), fun e => absurd e h⟩
theorem take_next {α : Type} {l m : List α} {i : Nat} {x y : α} (h : l.take i = m.take i) (hx : l[i]? = some x) (hy : m[i]? = some y) (e : x = y) : l.take (i + 1) = m.take (i + 1) := by
  rw [List.take_add_one, List.take_add_one, h, hx, hy, e]
theorem ne_at {α : Type} {l m : List α} {i : Nat} {x y : α} (hx : l[i]? = some x) (hy : m[i]? = some y) (e : ¬ x = y) : ¬ l = m := fun h => by
  subst h
  rw [hx] at hy
  exact e (by simpa using hy)
theorem eq_end {α : Type} {l m : List α} {i : Nat} (h : l.take i = m.take i) (h1 : l.length = i) (h2 : m.length = i) : l = m := by
  rw [List.take_of_length_le (by omega), List.take_of_length_le (by omega)] at h
  exact h
set_option maxHeartbeats 2000000 in
theorem indexM_any (a : Option Addr) (n c : Nat) (l : List Mp) (x : Mp) (w : World) (hs : SlAt eM w a n c l) :
    Calls Try.prog 53 #[.slice a n c, .agg x.cs] w fun r w' => (∃ k : Int, r = .returned (.int .i64 k) ∧ decide (k ≥ 0) = l.any (eqM · x)) ∧ Below w.heap.size w w' := by
  obtain ⟨W, hW, r0, bW, zW⟩ := MpAt.new w x
  have hnn := hs.int
  obtain ⟨R, hR⟩ : ∃ z, l.any (eqM · x) = z := ⟨_, rfl⟩
  have H : Hid (SlAt eM W a n c l ∧ l.length = n ∧ Below w.heap.size w W ∧ MpAt W w.heap.size x) := ⟨hs.below bW, hs.len, bW, r0⟩
  have HR : Hid (R = l.any (eqM · x)) := hR.symm
  rw [hR]
  clear hs bW zW r0 hR
  go_enter Try.func53, Try.ntmps53
  go_wp2_with fail
  go_loopw [8] (fun v wr => ∃ i : Nat, i ≤ n ∧ v = .int .i64 i ∧ R = (l.drop i).any (eqM · x) ∧ Below W.heap.size W wr) (fun v _ => n - (intOf v).toNat)
  case atStart => exact ⟨0, by omega, rfl, HR.out, Below.refl _ _⟩
  case round =>
    obtain ⟨i, hi, rfl, hf, hB⟩ := hrel
    have J : Hid (R = (l.drop i).any (eqM · x) ∧ Below W.heap.size W wr) := ⟨hf, hB⟩
    have hi0 : (0 : Int) ≤ (i : Int) := by omega
    by_cases hit : i < n
    · have hi1 : (i : Int) < (n : Int) := by omega
      obtain ⟨b, o, rfl⟩ := H.out.1.some' (by omega)
      obtain ⟨y, hy⟩ := lt_nth (l := l) (i := i) (by rw [H.out.2.1]; exact hit)
      have l0 := fun q : Later wr => lM ((H.out.1.below J.out.2).below q.below) hy
      have l1 := fun q : Later wr => ((H.out.2.2.2.below J.out.2).below q.below).ld
      have HX : Hid (l[i]? = some y) := hy
      clear hf hB hy
      by_cases e0 : x = y
      · have e1 : eqM x y = true := eqM_iff.2 e0
        have E : Hid (R = true) := by rw [J.out.1, drop_at HX.out, List.any_cons, eqM_iff.2 e0.symm]; exact rfl
        clear e0
        go_wp2_with fail
        refine wp_region_later (by kernel_rfl) (by kernel_rfl) ?_
        repeat (go_big_quiet_step (first | exact rfl))
        refine wpQuiet_nil ?_
        intro _ hw'
        obtain ⟨q, rfl⟩ := hw'
        clear l0 l1
        go_wp2
        go_ret
        exact ⟨⟨_, rfl, by rw [E.out]; simp⟩, below_over H.out.2.2.1 (below_later J.out.2 q)⟩
      · have e1 : eqM x y = false := by
          cases hh : eqM x y with
          | false => rfl
          | true => exact absurd (eqM_iff.1 hh) e0
        have e2 : eqM y x = false := by
          cases hh : eqM y x with
          | false => rfl
          | true => exact absurd (eqM_iff.1 hh).symm e0
        have E : Hid (R = (l.drop (i + 1)).any (eqM · x)) := by rw [J.out.1, drop_at HX.out, List.any_cons, e2]; exact rfl
        clear e0 e2
        go_wp2_with fail
        refine wp_region_later (by kernel_rfl) (by kernel_rfl) ?_
        repeat (go_big_quiet_step (first | exact rfl))
        refine wpQuiet_nil ?_
        intro _ hw'
        obtain ⟨q, rfl⟩ := hw'
        clear l0 l1
        go_wp2
        go_roundw
        case rel => exact ⟨i + 1, by omega, by go_num, E.out, below_later J.out.2 q⟩
        case measure => simp [intOf]; omega
    · have hin : i = n := by omega
      subst hin
      have hi1 : ¬ (i : Int) < (i : Int) := by omega
      have E : Hid (R = false) := by rw [J.out.1, drop_end (by rw [H.out.2.1]; exact Nat.le_refl _)]; exact rfl
      clear hf hB
      go_wp2
      go_ret
      exact ⟨⟨_, rfl, by rw [E.out]; rfl⟩, below_over H.out.2.2.1 J.out.2⟩
theorem hasM_any (a : Option Addr) (n c : Nat) (l : List Mp) (x : Mp) (w : World) (hs : SlAt eM w a n c l) :
    Calls Try.prog 17 #[.slice a n c, .agg x.cs] w fun r w' => r = .returned (.bool (l.any (eqM · x))) ∧ Below w.heap.size w w' := by
  obtain ⟨W, hW, r0, bW, zW⟩ := MpAt.new w x
  have l0 := r0.ld
  have P := indexM_any a n c l x W (hs.below bW)
  have B : Hid (Below w.heap.size w W) := bW
  have Q : Hid (Calls _ _ _ _ _) := P
  clear P bW zW r0 hs
  go_enter Try.func17, Try.ntmps17
  go_wp2_with fail
  refine Q.out.mono ?_
  rintro _ Y ⟨⟨k, rfl, hk⟩, hY⟩
  have G : Hid (decide (k ≥ 0) = l.any (eqM · x) ∧ Below w.heap.size w Y) := ⟨hk, below_over B.out hY⟩
  clear hk hY
  go_wp2
  go_ret
  exact ⟨ret_bool G.out.1, G.out.2⟩
set_option maxHeartbeats 2000000 in
theorem indexC_any (a : Option Addr) (n c : Nat) (l : List Cr) (x : Cr) (w : World) (hs : SlAt eC w a n c l) :
    Calls Try.prog 77 #[.slice a n c, .agg x.cs] w fun r w' => (∃ k : Int, r = .returned (.int .i64 k) ∧ decide (k ≥ 0) = l.any (eqC · x)) ∧ Below w.heap.size w w' := by
  obtain ⟨W, hW, r0, bW, zW⟩ := CrAt.new w x
  have hnn := hs.int
  obtain ⟨R, hR⟩ : ∃ z, l.any (eqC · x) = z := ⟨_, rfl⟩
  have H : Hid (SlAt eC W a n c l ∧ l.length = n ∧ Below w.heap.size w W ∧ CrAt W w.heap.size x) := ⟨hs.below bW, hs.len, bW, r0⟩
  have HR : Hid (R = l.any (eqC · x)) := hR.symm
  rw [hR]
  clear hs bW zW r0 hR
  go_enter Try.func77, Try.ntmps77
  go_wp2_with fail
  go_loopw [8] (fun v wr => ∃ i : Nat, i ≤ n ∧ v = .int .i64 i ∧ R = (l.drop i).any (eqC · x) ∧ Below W.heap.size W wr) (fun v _ => n - (intOf v).toNat)
  case atStart => exact ⟨0, by omega, rfl, HR.out, Below.refl _ _⟩
  case round =>
    obtain ⟨i, hi, rfl, hf, hB⟩ := hrel
    have J : Hid (R = (l.drop i).any (eqC · x) ∧ Below W.heap.size W wr) := ⟨hf, hB⟩
    have hi0 : (0 : Int) ≤ (i : Int) := by omega
    by_cases hit : i < n
    · have hi1 : (i : Int) < (n : Int) := by omega
      obtain ⟨b, o, rfl⟩ := H.out.1.some' (by omega)
      obtain ⟨y, hy⟩ := lt_nth (l := l) (i := i) (by rw [H.out.2.1]; exact hit)
      have l0 := fun q : Later wr => lC ((H.out.1.below J.out.2).below q.below) hy
      have l1 := fun q : Later wr => ((H.out.2.2.2.below J.out.2).below q.below).ld
      have HX : Hid (l[i]? = some y) := hy
      clear hf hB hy
      by_cases e0 : x = y
      · have e1 : eqC x y = true := eqC_iff.2 e0
        have E : Hid (R = true) := by rw [J.out.1, drop_at HX.out, List.any_cons, eqC_iff.2 e0.symm]; exact rfl
        clear e0
        go_wp2_with fail
        refine wp_region_later (by kernel_rfl) (by kernel_rfl) ?_
        repeat (go_big_quiet_step (first | exact rfl))
        refine wpQuiet_nil ?_
        intro _ hw'
        obtain ⟨q, rfl⟩ := hw'
        clear l0 l1
        go_wp2
        go_ret
        exact ⟨⟨_, rfl, by rw [E.out]; simp⟩, below_over H.out.2.2.1 (below_later J.out.2 q)⟩
      · have e1 : eqC x y = false := by
          cases hh : eqC x y with
          | false => rfl
          | true => exact absurd (eqC_iff.1 hh) e0
        have e2 : eqC y x = false := by
          cases hh : eqC y x with
          | false => rfl
          | true => exact absurd (eqC_iff.1 hh).symm e0
        have E : Hid (R = (l.drop (i + 1)).any (eqC · x)) := by rw [J.out.1, drop_at HX.out, List.any_cons, e2]; exact rfl
        clear e0 e2
        go_wp2_with fail
        refine wp_region_later (by kernel_rfl) (by kernel_rfl) ?_
        repeat (go_big_quiet_step (first | exact rfl))
        refine wpQuiet_nil ?_
        intro _ hw'
        obtain ⟨q, rfl⟩ := hw'
        clear l0 l1
        go_wp2
        go_roundw
        case rel => exact ⟨i + 1, by omega, by go_num, E.out, below_later J.out.2 q⟩
        case measure => simp [intOf]; omega
    · have hin : i = n := by omega
      subst hin
      have hi1 : ¬ (i : Int) < (i : Int) := by omega
      have E : Hid (R = false) := by rw [J.out.1, drop_end (by rw [H.out.2.1]; exact Nat.le_refl _)]; exact rfl
      clear hf hB
      go_wp2
      go_ret
      exact ⟨⟨_, rfl, by rw [E.out]; rfl⟩, below_over H.out.2.2.1 J.out.2⟩
theorem hasC_any (a : Option Addr) (n c : Nat) (l : List Cr) (x : Cr) (w : World) (hs : SlAt eC w a n c l) :
    Calls Try.prog 55 #[.slice a n c, .agg x.cs] w fun r w' => r = .returned (.bool (l.any (eqC · x))) ∧ Below w.heap.size w w' := by
  obtain ⟨W, hW, r0, bW, zW⟩ := CrAt.new w x
  have l0 := r0.ld
  have P := indexC_any a n c l x W (hs.below bW)
  have B : Hid (Below w.heap.size w W) := bW
  have Q : Hid (Calls _ _ _ _ _) := P
  clear P bW zW r0 hs
  go_enter Try.func55, Try.ntmps55
  go_wp2_with fail
  refine Q.out.mono ?_
  rintro _ Y ⟨⟨k, rfl, hk⟩, hY⟩
  have G : Hid (decide (k ≥ 0) = l.any (eqC · x) ∧ Below w.heap.size w Y) := ⟨hk, below_over B.out hY⟩
  clear hk hY
  go_wp2
  go_ret
  exact ⟨ret_bool G.out.1, G.out.2⟩
theorem mb_ext {a b : Mb} (h1 : a.v = b.v) (h2 : a.ps = b.ps) : a = b := by cases a; cases b; simp_all
theorem pv_ext {p q : Pv} (h1 : p.o = q.o) (h2 : p.ks = q.ks) (h3 : p.ms = q.ms) (h4 : p.cs = q.cs) (h5 : p.bs = q.bs) : p = q := by cases p; cases q; simp_all
def eqO (a b : O6) : Bool := eq6 a.a a.b a.c a.d a.e a.f b.a b.b b.c b.d b.e b.f
theorem eqO_iff {a b : O6} : eqO a b = true ↔ a = b := by
  unfold eqO
  rw [eq6_iff]
  cases a; cases b
  simp
theorem eqlO0 (a b : O6) (w : World) : (Op.equalIn 10000 23 (.agg a.cs) (.agg b.cs)).run Try.prog w = .ok (eqO a b) w := eqMac ..
end Go.Proofs.Ytmfjlhcobhilcab
