/-
  The walks of two statements: one of three; repeated. Each for every input.
-/
import Derived.Test.YtlnammicialacaaLaws
namespace Go.Proofs.Ytlnammicialacaa
set_option linter.unusedVariables false
set_option maxRecDepth 4000
set_option linter.unusedSimpArgs false
open Go.RowKit

attribute [local go_sem ↓] ldP stP ldM stM ldTm stTm ldV stV stB stU eqgP eqlP eqgTm eqlTm eqgV eqlV
attribute [local go_sem] Row.eq_self
/-- What is told of a message hangs on two questions. -/
theorem inf_ways (p : Pt) : (desM (msg p) = true ∧ samP p = true ∧ infP p = 2) ∨ (desM (msg p) = true ∧ samP p = false ∧ (infP p = 1 ∨ infP p = 3)) ∨ (desM (msg p) = false ∧ (infP p = 0 ∨ infP p = 4)) := by
  unfold infP ofDes
  cases h1 : desM (msg p)
  · refine Or.inr (Or.inr ⟨rfl, ?_⟩)
    rw [if_neg (by simp)]
    (repeat' split) <;> simp
  · rw [if_pos rfl]
    cases h2 : samP p
    · refine Or.inr (Or.inl ⟨rfl, rfl, ?_⟩)
      rw [if_neg (by simp)]
      split <;> simp
    · exact Or.inl ⟨rfl, rfl, rfl⟩
set_option maxHeartbeats 4000000 in
theorem HeardOne_walk (p : Pt) (w : World) :
    Calls Try.prog 7 #[.agg p.cs] w fun r w' => r = .returned (.bool true) ∧ Below w.heap.size w w' := by
  obtain ⟨W, hW, rp, bW, zW⟩ := new_p w p
  have H : Hid (RvAt W w.heap.size 36 p.cs ∧ Below w.heap.size w W) := ⟨rp, bW⟩
  have lp := rp.pld
  have P1 : Hid (∀ V : World, _) := fun V => inf_any p V
  have P2 : Hid (∀ V : World, _) := fun V => rdesig_any (msg p) V
  obtain ⟨N, hN⟩ : ∃ z, infP p = z := ⟨_, rfl⟩
  obtain ⟨D, hD⟩ : ∃ z, desM (msg p) = z := ⟨_, rfl⟩
  obtain ⟨e1, h1⟩ : ∃ z, (mV p).eq (pri p) = z := ⟨_, rfl⟩
  obtain ⟨e2, h2⟩ : ∃ z, (mT p).eq (priT p) = z := ⟨_, rfl⟩
  have ways := inf_ways p
  rw [samP, hN, hD, h1, h2] at ways
  rw [hN] at P1
  rw [hD] at P2
  have E1 : Hid ((mV p).eq (pri p) = e1) := h1
  have E2 : Hid ((mT p).eq (priT p) = e2) := h2
  clear rp bW zW hN hD h1 h2
  go_enter Try.func7, Try.ntmps7
  go_wp2_with fail
  refine (P1.out _).mono ?_
  rintro _ V ⟨rfl, bV⟩
  have rV := H.out.1.below bV
  have lv := rV.pmV
  have lq := rV.ppri
  have lt := rV.pmT
  have lu := rV.ppriT
  have lm := rV.pmsg
  have G : Hid (Below w.heap.size w V) := below_over H.out.2 bV
  have h1 := E1.out
  have h2 := E2.out
  clear rV bV lp hW H
  have key : ∀ n d a b, N = n → D = d → e1 = a → e2 = b → ((d = true ∧ (a && b) = true ∧ n = 2) ∨ (d = true ∧ (a && b) = false ∧ (n = 1 ∨ n = 3)) ∨ (d = false ∧ (n = 0 ∨ n = 4))) := by
    rintro _ _ _ _ rfl rfl rfl rfl
    exact ways
  cases e1 <;> cases e2 <;> rcases ways with ⟨rfl, hs, rfl⟩ | ⟨rfl, hs, rfl | rfl⟩ | ⟨rfl, rfl | rfl⟩
  all_goals clear key
  all_goals first
    | (simp at hs; done)
    | skip
  all_goals
    try clear hs
    go_wp2_with fail
    refine (P2.out _).mono ?_
    rintro _ U ⟨rfl, bU⟩
    have G2 : Hid (Below w.heap.size w U) := below_over G.out bU
    clear bU lv lq lt lu lm
    go_wp2_with fail
    refine (awake_any U).mono ?_
    rintro _ X ⟨rfl, bX⟩
    have G3 : Hid (Below w.heap.size w X) := below_over G2.out bX
    clear bX
    go_wp2
    go_ret
    exact ⟨rfl, G3.out⟩
end Go.Proofs.Ytlnammicialacaa
