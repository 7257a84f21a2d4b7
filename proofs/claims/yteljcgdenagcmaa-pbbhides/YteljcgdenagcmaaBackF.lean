/-
  What is put is taken, what is taken is put: the bytes.
-/
import Derived.Test.YteljcgdenagcmaaTakeI
import Derived.Test.YteljcgdenagcmaaPutRef
namespace Go.Proofs.Yteljcgdenagcmaa
set_option linter.unusedVariables false
set_option maxRecDepth 4000
set_option linter.unusedSimpArgs false
open Go.RowKit

theorem tk_put {p v : Int} {d : Bool} (M : List Int) (h : tagOk p v = true) :
    tkE (tagL p d v ++ M) = 0 ∧ tkP (tagL p d v ++ M) = p ∧ tkD (tagL p d v ++ M) = d ∧ tkV (tagL p d v ++ M) = v ∧ tkR (tagL p d v ++ M) = M ∧ ∀ x ∈ tagL p d v, 0 ≤ x ∧ x ≤ 255 := by
  have hb := tagOk_iff.1 h
  have hd := bitN_lt d
  have hN : tkN (tagL p d v ++ M) = tagN p d v := by unfold tkN tagL; simp; omega
  have e1 : tagN p d v / 8192 = p := by unfold tagN; omega
  have e2 : tagN p d v / 4096 % 2 = (bitN d : Nat) := by unfold tagN; omega
  have e3 : tagN p d v % 4096 = v := by unfold tagN; omega
  have hE : tkE (tagL p d v ++ M) = 0 := by
    unfold tkE
    rw [if_neg (by simp [tagL]), hN, e1, e3, h]
    rfl
  refine ⟨hE, ?_, ?_, ?_, ?_, ?_⟩
  · unfold tkP; rw [if_pos hE, hN, e1]
  · unfold tkD; rw [if_pos hE, hN, e2]; cases d <;> rfl
  · unfold tkV; rw [if_pos hE, hN, e3]
  · unfold tkR; rw [if_pos hE]; rfl
  · intro x hx
    simp only [tagL, List.mem_cons, List.not_mem_nil, or_false] at hx
    unfold tagN at hx
    omega

theorem tk_back {B : List Int} (h : tkE B = 0) (hb : ∀ x ∈ B, 0 ≤ x ∧ x ≤ 255) : tagOk (tkP B) (tkV B) = true ∧ tagL (tkP B) (tkD B) (tkV B) ++ tkR B = B := by
  have h0 := h
  unfold tkE at h0
  by_cases h2 : B.length < 2
  · rw [if_pos h2] at h0; omega
  · rw [if_neg h2] at h0
    have ho : tagOk (tkN B / 8192) (tkN B % 4096) = true := by
      cases ho : tagOk (tkN B / 8192) (tkN B % 4096)
      · rw [ho] at h0; simp at h0
      · rfl
    refine ⟨by unfold tkP tkV; rw [if_pos h, if_pos h]; exact ho, ?_⟩
    unfold tkP tkD tkV tkR
    rw [if_pos h, if_pos h, if_pos h, if_pos h]
    match B, h2, hb with
    | x :: y :: r, _, hb =>
      have hx := hb x (by simp)
      have hy := hb y (by simp)
      have hN : tkN (x :: y :: r) = x * 256 + y := by unfold tkN; simp
      rw [hN]
      have hbit : ((bitN ((x * 256 + y) / 4096 % 2 == 1) : Nat) : Int) = (x * 256 + y) / 4096 % 2 := by
        by_cases e : (x * 256 + y) / 4096 % 2 = 1
        · rw [e]; rfl
        · have e' : (x * 256 + y) / 4096 % 2 = 0 := by omega
          rw [e']; rfl
      unfold tagL tagN
      rw [hbit]
      have q1 : ((x * 256 + y) / 8192 * 8192 + (x * 256 + y) / 4096 % 2 * 4096 + (x * 256 + y) % 4096) / 256 = x := by omega
      have q2 : ((x * 256 + y) / 8192 * 8192 + (x * 256 + y) / 4096 % 2 * 4096 + (x * 256 + y) % 4096) % 256 = y := by omega
      rw [q1, q2]
      rfl

theorem ti_put {p : Int} {d u : Bool} {i : Int} {a0 a1 a2 a3 a4 a5 s0 s1 s2 s3 s4 s5 : Int} (M : List Int) (h : itagOk p i = true) :
    tiE (itagL p d u i a0 a1 a2 a3 a4 a5 s0 s1 s2 s3 s4 s5 ++ M) = 0 ∧ tiP (itagL p d u i a0 a1 a2 a3 a4 a5 s0 s1 s2 s3 s4 s5 ++ M) = p ∧ tiD (itagL p d u i a0 a1 a2 a3 a4 a5 s0 s1 s2 s3 s4 s5 ++ M) = d ∧ tiU (itagL p d u i a0 a1 a2 a3 a4 a5 s0 s1 s2 s3 s4 s5 ++ M) = u ∧ tiI (itagL p d u i a0 a1 a2 a3 a4 a5 s0 s1 s2 s3 s4 s5 ++ M) = i ∧
      tiX (itagL p d u i a0 a1 a2 a3 a4 a5 s0 s1 s2 s3 s4 s5 ++ M) 4 = a0 ∧ tiX (itagL p d u i a0 a1 a2 a3 a4 a5 s0 s1 s2 s3 s4 s5 ++ M) 5 = a1 ∧ tiX (itagL p d u i a0 a1 a2 a3 a4 a5 s0 s1 s2 s3 s4 s5 ++ M) 6 = a2 ∧ tiX (itagL p d u i a0 a1 a2 a3 a4 a5 s0 s1 s2 s3 s4 s5 ++ M) 7 = a3 ∧ tiX (itagL p d u i a0 a1 a2 a3 a4 a5 s0 s1 s2 s3 s4 s5 ++ M) 8 = a4 ∧ tiX (itagL p d u i a0 a1 a2 a3 a4 a5 s0 s1 s2 s3 s4 s5 ++ M) 9 = a5 ∧ tiX (itagL p d u i a0 a1 a2 a3 a4 a5 s0 s1 s2 s3 s4 s5 ++ M) 10 = s0 ∧ tiX (itagL p d u i a0 a1 a2 a3 a4 a5 s0 s1 s2 s3 s4 s5 ++ M) 11 = s1 ∧ tiX (itagL p d u i a0 a1 a2 a3 a4 a5 s0 s1 s2 s3 s4 s5 ++ M) 12 = s2 ∧ tiX (itagL p d u i a0 a1 a2 a3 a4 a5 s0 s1 s2 s3 s4 s5 ++ M) 13 = s3 ∧ tiX (itagL p d u i a0 a1 a2 a3 a4 a5 s0 s1 s2 s3 s4 s5 ++ M) 14 = s4 ∧ tiX (itagL p d u i a0 a1 a2 a3 a4 a5 s0 s1 s2 s3 s4 s5 ++ M) 15 = s5 ∧ tiR (itagL p d u i a0 a1 a2 a3 a4 a5 s0 s1 s2 s3 s4 s5 ++ M) = M ∧ ∀ j, j < 4 → 0 ≤ (itagL p d u i a0 a1 a2 a3 a4 a5 s0 s1 s2 s3 s4 s5 ++ M).getD j 0 ∧ (itagL p d u i a0 a1 a2 a3 a4 a5 s0 s1 s2 s3 s4 s5 ++ M).getD j 0 ≤ 255 := by
  have hb := itagOk_iff.1 h
  have hd := bitN_lt d
  have hu := bitN_lt u
  have hlen : ¬ (itagL p d u i a0 a1 a2 a3 a4 a5 s0 s1 s2 s3 s4 s5 ++ M).length < 16 := by simp [itagL]
  have g0 : (itagL p d u i a0 a1 a2 a3 a4 a5 s0 s1 s2 s3 s4 s5 ++ M).getD 0 0 = p * 32 + (bitN d : Nat) * 16 + (bitN u : Nat) * 8 := rfl
  have g1 : (itagL p d u i a0 a1 a2 a3 a4 a5 s0 s1 s2 s3 s4 s5 ++ M).getD 1 0 = i / 65536 := rfl
  have g2 : (itagL p d u i a0 a1 a2 a3 a4 a5 s0 s1 s2 s3 s4 s5 ++ M).getD 2 0 = i / 256 % 256 := rfl
  have g3 : (itagL p d u i a0 a1 a2 a3 a4 a5 s0 s1 s2 s3 s4 s5 ++ M).getD 3 0 = i % 256 := rfl
  have hE : tiE (itagL p d u i a0 a1 a2 a3 a4 a5 s0 s1 s2 s3 s4 s5 ++ M) = 0 := by
    unfold tiE
    rw [if_neg hlen, g0, if_pos (by omega)]
  refine ⟨hE, ?_, ?_, ?_, ?_, ?_, ?_, ?_, ?_, ?_, ?_, ?_, ?_, ?_, ?_, ?_, ?_, ?_, ?_⟩
  · unfold tiP; rw [if_pos hE, g0]; omega
  · unfold tiD
    rw [if_pos hE, g0, show (p * 32 + (bitN d : Nat) * 16 + (bitN u : Nat) * 8) / 16 % 2 = (bitN d : Nat) by omega]
    cases d <;> rfl
  · unfold tiU
    rw [if_pos hE, g0, show (p * 32 + (bitN d : Nat) * 16 + (bitN u : Nat) * 8) / 8 % 2 = (bitN u : Nat) by omega]
    cases u <;> rfl
  · unfold tiI; rw [if_pos hE, g1, g2, g3]; omega
  · unfold tiX; rw [if_pos hE]; rfl
  · unfold tiX; rw [if_pos hE]; rfl
  · unfold tiX; rw [if_pos hE]; rfl
  · unfold tiX; rw [if_pos hE]; rfl
  · unfold tiX; rw [if_pos hE]; rfl
  · unfold tiX; rw [if_pos hE]; rfl
  · unfold tiX; rw [if_pos hE]; rfl
  · unfold tiX; rw [if_pos hE]; rfl
  · unfold tiX; rw [if_pos hE]; rfl
  · unfold tiX; rw [if_pos hE]; rfl
  · unfold tiX; rw [if_pos hE]; rfl
  · unfold tiX; rw [if_pos hE]; rfl
  · unfold tiR; rw [if_pos hE]; rfl
  · intro j hj
    have hj' : j = 0 ∨ j = 1 ∨ j = 2 ∨ j = 3 := by omega
    rcases hj' with rfl | rfl | rfl | rfl
    · rw [g0]; omega
    · rw [g1]; omega
    · rw [g2]; omega
    · rw [g3]; omega

theorem bit_two (z : Int) (h : z = 0 ∨ z = 1) : ((bitN (z == 1) : Nat) : Int) = z := by
  rcases h with rfl | rfl <;> rfl

theorem list_split16 {B : List Int} (h : 16 ≤ B.length) : [B.getD 0 0, B.getD 1 0, B.getD 2 0, B.getD 3 0, B.getD 4 0, B.getD 5 0, B.getD 6 0, B.getD 7 0, B.getD 8 0, B.getD 9 0, B.getD 10 0, B.getD 11 0, B.getD 12 0, B.getD 13 0, B.getD 14 0, B.getD 15 0] ++ B.drop 16 = B := by
  match B, h with
  | c0 :: c1 :: c2 :: c3 :: c4 :: c5 :: c6 :: c7 :: c8 :: c9 :: c10 :: c11 :: c12 :: c13 :: c14 :: c15 :: r, _ => rfl

theorem ti_back {B : List Int} (h : tiE B = 0) (hb : ∀ x ∈ B, 0 ≤ x ∧ x ≤ 255) : itagOk (tiP B) (tiI B) = true ∧ itagL (tiP B) (tiD B) (tiU B) (tiI B) (tiX B 4) (tiX B 5) (tiX B 6) (tiX B 7) (tiX B 8) (tiX B 9) (tiX B 10) (tiX B 11) (tiX B 12) (tiX B 13) (tiX B 14) (tiX B 15) ++ tiR B = B := by
  have h0 := h
  unfold tiE at h0
  by_cases h2 : B.length < 16
  · rw [if_pos h2] at h0; omega
  · rw [if_neg h2] at h0
    have h8 : B.getD 0 0 % 8 = 0 := by
      by_cases h8 : B.getD 0 0 % 8 = 0
      · exact h8
      · rw [if_neg h8] at h0; omega
    have hx : ∀ j, j < B.length → 0 ≤ B.getD j 0 ∧ B.getD j 0 ≤ 255 := fun j hj => by
      have : B.getD j 0 = B[j] := by simp [hj]
      rw [this]
      exact hb _ (List.getElem_mem hj)
    have x0 := hx 0 (by omega)
    have x1 := hx 1 (by omega)
    have x2 := hx 2 (by omega)
    have x3 := hx 3 (by omega)
    have hs := list_split16 (B := B) (by omega)
    unfold tiP tiD tiU tiI tiX tiR
    simp only [h, ↓reduceIte]
    refine ⟨itagOk_iff.2 (by omega), ?_⟩
    conv => rhs; rw [← hs]
    unfold itagL
    rw [bit_two _ (by omega), bit_two _ (by omega)]
    rw [show B.getD 0 0 / 32 * 32 + B.getD 0 0 / 16 % 2 * 16 + B.getD 0 0 / 8 % 2 * 8 = B.getD 0 0 by omega, show (B.getD 1 0 * 65536 + B.getD 2 0 * 256 + B.getD 3 0) / 65536 = B.getD 1 0 by omega, show (B.getD 1 0 * 65536 + B.getD 2 0 * 256 + B.getD 3 0) / 256 % 256 = B.getD 2 0 by omega, show (B.getD 1 0 * 65536 + B.getD 2 0 * 256 + B.getD 3 0) % 256 = B.getD 3 0 by omega]
    rfl

theorem four_bytes' {l : List Int} (hb : ∀ j, j < 4 → 0 ≤ l.getD j 0 ∧ l.getD j 0 ≤ 255) :
    ∃ N A B C E : Nat, l.getD 0 0 = (A : Int) ∧ l.getD 1 0 = (B : Int) ∧ l.getD 2 0 = (C : Int) ∧ l.getD 3 0 = (E : Int) ∧ A < 256 ∧ B < 256 ∧ C < 256 ∧ E < 256 ∧ N = ((A * 256 + B) * 256 + C) * 256 + E ∧ (∀ j, j < 4 → byN 4 N j = l.getD j 0) := by
  have hx := hb 0 (by omega)
  have hy := hb 1 (by omega)
  have hz := hb 2 (by omega)
  have hu := hb 3 (by omega)
  obtain ⟨X, eX⟩ := Int.eq_ofNat_of_zero_le hx.1
  obtain ⟨Y, eY⟩ := Int.eq_ofNat_of_zero_le hy.1
  obtain ⟨Z, eZ⟩ := Int.eq_ofNat_of_zero_le hz.1
  obtain ⟨U, eU⟩ := Int.eq_ofNat_of_zero_le hu.1
  rw [eX] at hx
  rw [eY] at hy
  rw [eZ] at hz
  rw [eU] at hu
  refine ⟨_, X, Y, Z, U, eX, eY, eZ, eU, by omega, by omega, by omega, by omega, rfl, ?_⟩
  intro j hj
  have hj' : j = 0 ∨ j = 1 ∨ j = 2 ∨ j = 3 := by omega
  rcases hj' with rfl | rfl | rfl | rfl
  · rw [eX]; unfold byN; simp; omega
  · rw [eY]; unfold byN; simp; omega
  · rw [eZ]; unfold byN; simp; omega
  · rw [eU]; unfold byN; simp; omega

theorem takei_four (a : Option Addr) (n c : Nat) (l : List Int) (w : World) (h : Src w (.slice a n c) l) (hl : l.length ≤ 2000) (hb : ∀ j, j < 4 → 0 ≤ l.getD j 0 ∧ l.getD j 0 ≤ 255) :
    Calls Try.prog 61 #[.slice a n c] w fun r w' => TiOut w l r w' := by
  by_cases h2 : l.length < 16
  · exact takei_short a n c l w h h2
  · obtain ⟨b, o, rfl, _, hj⟩ := src_some h (by omega)
    obtain ⟨N, A, B, C, E, eA, eB, eC, eE, lA, lB, lC, lE, hN, hby⟩ := four_bytes' hb
    have e1 : rN 4 N 0 3 = A / 32 := by subst hN; unfold rN; simp; omega
    have e2 : rN 4 N 3 1 = A / 16 % 2 := by subst hN; unfold rN; simp; omega
    have e3 : rN 4 N 4 1 = A / 8 % 2 := by subst hN; unfold rN; simp; omega
    have e4 : rN 4 N 5 3 = A % 8 := by subst hN; unfold rN; simp; omega
    have e5 : rN 4 N 8 24 = B * 65536 + C * 256 + E := by subst hN; unfold rN; simp; omega
    refine takei_long b o n c N l w h (by omega) hl (fun j hj2 => by rw [hj j (by omega), hby j hj2]) ?_ ?_ ?_
    · intro hk
      rw [e4] at hk
      unfold tiE
      rw [if_neg h2, eA, if_neg (by omega)]
    · rw [e1, e5]
      exact itagOk_iff.2 (by omega)
    · intro hk
      rw [e4] at hk
      rw [e1, e2, e3, e5, eA, eB, eC, eE]
      refine ⟨?_, by omega, ?_, ?_, by omega⟩
      · unfold tiE
        rw [if_neg h2, eA, if_pos (by omega)]
      · simp
      · simp
end Go.Proofs.Yteljcgdenagcmaa
