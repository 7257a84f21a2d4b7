/-
  The definition's tally: walks of New, Get, Add and Same, each for every input.
-/
import Derived.Test.YtammaaiknjgjbaaTi
namespace Go.Proofs.Ytammaaiknjgjbaa
set_option linter.unusedVariables false
set_option maxRecDepth 4000
set_option linter.unusedSimpArgs false
open Go.RowKit
attribute [local go_sem ↓] apI bsI ldR stR stI
attribute [local go_sem] bzI
abbrev RtAt (W : World) (b : Nat) (z : Value) : Prop := RvAt W b 29 #[z]
theorem one1 {z : Value} (hz : z.oneCell' = true) : ∀ v ∈ (#[z] : Array Value).toList, v.oneCell' = true := by
  intro v hv
  simp at hv
  subst hv
  exact hz
theorem RtAt.ld {W : World} {b : Nat} {z : Value} (h : RtAt W b z) : (ldS 29 (.pointer (some ⟨b, 0, none⟩))).run Try.prog W = .ok (.agg #[z]) W := RvAt.ld rtR h rfl
theorem RtAt.st {W : World} {b : Nat} {z : Value} (h : RtAt W b z) (y : Value) (hy : y.oneCell' = true) : ∃ V, (stS 29 (.pointer (some ⟨b, 0, none⟩)) (.agg #[y])).run Try.prog W = .ok () V ∧ RtAt V b y ∧ W.grownBy V (some b) := ⟨_, RvAt.st rtR h rfl rfl (one1 hy), RvAt.set h, grown_row _ _ _⟩
theorem RtAt.new (W : World) (z : Value) : ∃ V, W.alloc (.cells #[z] 29) = V ∧ RtAt V W.heap.size z ∧ Below W.heap.size W V ∧ V.heap.size = W.heap.size + 1 := ⟨_, rfl, RvAt.new W _ _, (Below.refl _ _).alloc (Nat.le_refl _) _, by simp⟩
theorem ret_r {fn : Func} {k j : Nat} (hr : fn.results = #[.cell k 29, .tmp j]) {R : Ending → World → Prop} {a : Act} {w : World} {b : Nat} {x e : Value} (hd : a.defers = []) (h2 : a.tmps.getD k undef = .pointer (some ⟨b, 0, none⟩)) (h3 : a.tmps.getD j undef = e) (h : RtAt w b x)
    (hR : R (.returned (.tuple #[.agg #[x], e])) w) : bodyPost Try.prog fn R .ret a w := by
  have hl : (loadVar 29 ⟨b, 0, none⟩).run Try.prog w = .ok (.agg #[x]) w := run_loadVar_row (P := Try.prog) w b 29 29 #[x] (0, 0) _ h Try.underlying29 rfl infoR
  have h2' : a.tmps[k]?.getD undef = .pointer (some ⟨b, 0, none⟩) := by simpa using h2
  have h3' : a.tmps[j]?.getD undef = e := by simpa using h3
  exact ⟨hd, _, by simp [results, hr, asAddr, hl, h2', h3'], hR⟩
set_option maxHeartbeats 2000000 in
theorem rget_any {W : World} {a : Option Addr} {c : Nat} {N : List Int} (h : SlAt eI W a 15 c N) (hN : IsN N) (w : Int) :
    Calls Try.prog 16 #[.agg #[.slice a 15 c], .int .i64 w] W fun e W' => e = .returned (.int .i64 (getN N w)) ∧ Below W.heap.size W W' := by
  obtain ⟨V, hV, r1, b1, z1⟩ := RtAt.new W (.slice a 15 c)
  have c0 : V.cell? ⟨W.heap.size, 0, none⟩ = some (.slice a 15 c) := r1.cell 0 _ rfl
  have hv := h.below b1
  have H : Hid (SlAt eI V a 15 c N ∧ Below W.heap.size W V) := ⟨hv, b1⟩
  cases hw : okW w with
  | false =>
    have e : getN N w = 0 := by unfold getN; simp [hw]
    rw [e]
    clear h r1 b1 z1 hv
    go_enter Try.func16, Try.ntmps16
    go_wp2_with fail
    refine (ris_any w _).mono ?_
    rintro _ _ ⟨rfl, rfl⟩
    rw [hw]
    go_wp2
    go_ret
    exact ⟨rfl, H.out.2⟩
  | true =>
    have g := hN.get hw
    obtain ⟨b, o, rfl⟩ := hv.some' (by omega)
    obtain ⟨k, rfl⟩ : ∃ k : Nat, w = k := ⟨w.toNat, g.2.2.2.1⟩
    have hk : (k : Int) < 15 := by have := g.2.2.2.2.1; omega
    have hk0 : (0 : Int) ≤ (k : Int) := by omega
    have c1 : V.cell? ⟨b, o + k, none⟩ = some (.int .i64 (getN N k)) := lI hv (by have := g.1; rw [Int.toNat_natCast] at this; exact this)
    obtain ⟨z, hz⟩ : ∃ z, getN N k = z := ⟨_, rfl⟩
    rw [hz] at c1 ⊢
    clear h r1 b1 z1 hv g hz
    go_enter Try.func16, Try.ntmps16
    go_wp2_with fail
    refine (ris_any (k : Int) _).mono ?_
    rintro _ _ ⟨rfl, rfl⟩
    rw [hw]
    go_wp2
    go_ret
    exact ⟨rfl, H.out.2⟩
theorem mk15 (w : World) : (Instr.makeSlice 27 (.int .i64 15) (.int .i64 15)).run Try.prog w = .ok (.slice (some ⟨w.heap.size, 0, none⟩) 15 15) (w.alloc (.cells (eI.fl zN).toArray 3)) := by kernel_rfl
section
attribute [local go_sem] mk15
set_option maxHeartbeats 2000000 in
theorem rnew_any (W : World) : Calls Try.prog 10 #[] W fun e W' => ∃ a c, e = .returned (.agg #[.slice a 15 c]) ∧ SlAt eI W' a 15 c zN ∧ Below W.heap.size W W' ∧ ∀ z, a = some z → W.heap.size ≤ z.block := by
  obtain ⟨V, hV, r1, b1, z1⟩ := RtAt.new W (.slice none 0 0)
  have p : PAt eI (V.alloc (.cells (eI.fl zN).toArray 3)) V.heap.size 15 zN := ⟨_, RvAt.new V _ _, Nat.le_refl _, by unfold maxLen; omega, rfl, rfl⟩
  have b2 : Below V.heap.size V (V.alloc (.cells (eI.fl zN).toArray 3)) := (Below.refl _ _).alloc (Nat.le_refl _) _
  obtain ⟨U, hU⟩ : ∃ e, V.alloc (.cells (eI.fl zN).toArray 3) = e := ⟨_, rfl⟩
  rw [hU] at p b2
  obtain ⟨Z, sZ, mZ, gZ⟩ := RtAt.st (r1.below b2) (.slice (some ⟨V.heap.size, 0, none⟩) 15 15) rfl
  have bU := below_over b1 b2
  have H : Hid (RtAt Z W.heap.size (.slice (some ⟨V.heap.size, 0, none⟩) 15 15) ∧ SlAt eI Z (some ⟨V.heap.size, 0, none⟩) 15 15 zN ∧ Below W.heap.size W Z) := ⟨mZ, p.sl kI |>.keptBut gZ (by simp; omega), gro bU gZ (Nat.le_refl _) bU.size⟩
  have hVW : W.heap.size ≤ V.heap.size := b1.size
  clear r1 b1 z1 p b2 mZ gZ bU
  go_enter Try.func10, Try.ntmps10
  go_wp2
  refine ⟨rfl, _, results_row rtR Try.results10 _ _ _ _ rfl H.out.1 rfl, ?_⟩
  exact ⟨_, _, rfl, H.out.2.1, H.out.2.2, fun z e => by cases e; exact hVW⟩
end
end Go.Proofs.Ytammaaiknjgjbaa
