/-
  What is encoded is decoded, what is decoded is encoded: the bytes.
-/
import Derived.Test.YtnkchahjdacboaaDec
namespace Go.Proofs.Ytnkchahjdacboaa
set_option linter.unusedVariables false
set_option linter.unusedSimpArgs false
open Go.RowKit

theorem tk_put {p v : Int} {d : Bool} (M : List Int) (h : tagOk p v = true) :
    tkE (tagL p d v ++ M) = 0 ∧ tkP (tagL p d v ++ M) = p ∧ tkD (tagL p d v ++ M) = d ∧ tkV (tagL p d v ++ M) = v ∧ tkR (tagL p d v ++ M) = M ∧ ∀ x ∈ tagL p d v, 0 ≤ x ∧ x ≤ 255 := by
  have hb := tagOk_iff.1 h
  have hd := bitN_lt d
  have hN : tkN (tagL p d v ++ M) = tagN p d v := by unfold tkN tagL; simp; omega
  have e1 : tagN p d v / 8192 = p := by unfold tagN; omega
  have e2 : tagN p d v / 4096 % 2 = (bitN d : Nat) := by unfold tagN; omega
  have e3 : tagN p d v % 4096 = v := by unfold tagN; omega
  have hE : tkE (tagL p d v ++ M) = 0 := by
    unfold tkE
    rw [if_neg (by simp [tagL]), hN, e1, e3, h]
    rfl
  refine ⟨hE, ?_, ?_, ?_, ?_, ?_⟩
  · unfold tkP; rw [if_pos hE, hN, e1]
  · unfold tkD; rw [if_pos hE, hN, e2]; cases d <;> rfl
  · unfold tkV; rw [if_pos hE, hN, e3]
  · unfold tkR; rw [if_pos hE]; rfl
  · intro x hx
    simp only [tagL, List.mem_cons, List.not_mem_nil, or_false] at hx
    unfold tagN at hx
    omega

theorem tk_back {B : List Int} (h : tkE B = 0) (hb : ∀ x ∈ B, 0 ≤ x ∧ x ≤ 255) : tagOk (tkP B) (tkV B) = true ∧ tagL (tkP B) (tkD B) (tkV B) ++ tkR B = B := by
  have h0 := h
  unfold tkE at h0
  by_cases h2 : B.length < 2
  · rw [if_pos h2] at h0; omega
  · rw [if_neg h2] at h0
    have ho : tagOk (tkN B / 8192) (tkN B % 4096) = true := by
      cases ho : tagOk (tkN B / 8192) (tkN B % 4096)
      · rw [ho] at h0; simp at h0
      · rfl
    refine ⟨by unfold tkP tkV; rw [if_pos h, if_pos h]; exact ho, ?_⟩
    unfold tkP tkD tkV tkR
    rw [if_pos h, if_pos h, if_pos h, if_pos h]
    match B, h2, hb with
    | x :: y :: r, _, hb =>
      have hx := hb x (by simp)
      have hy := hb y (by simp)
      have hN : tkN (x :: y :: r) = x * 256 + y := by unfold tkN; simp
      rw [hN]
      have hbit : ((bitN ((x * 256 + y) / 4096 % 2 == 1) : Nat) : Int) = (x * 256 + y) / 4096 % 2 := by
        by_cases e : (x * 256 + y) / 4096 % 2 = 1
        · rw [e]; rfl
        · have e' : (x * 256 + y) / 4096 % 2 = 0 := by omega
          rw [e']; rfl
      unfold tagL tagN
      rw [hbit]
      have q1 : ((x * 256 + y) / 8192 * 8192 + (x * 256 + y) / 4096 % 2 * 4096 + (x * 256 + y) % 4096) / 256 = x := by omega
      have q2 : ((x * 256 + y) / 8192 * 8192 + (x * 256 + y) / 4096 % 2 * 4096 + (x * 256 + y) % 4096) % 256 = y := by omega
      rw [q1, q2]
      rfl

theorem enc_head (f : Fr) (r : List Int) : (f.d.l ++ f.s.l ++ r).drop 12 = r ∧ (f.d.l ++ f.s.l ++ r).drop 14 = r.drop 2 ∧ (f.d.l ++ f.s.l ++ r).drop 16 = r.drop 4 ∧ m6 (f.d.l ++ f.s.l ++ r) 0 = f.d ∧ m6 (f.d.l ++ f.s.l ++ r) 6 = f.s := by
  obtain ⟨⟨a, b, c, d, e, g⟩, ⟨a', b', c', d', e', g'⟩, t, p, q, v⟩ := f
  exact ⟨rfl, rfl, rfl, rfl, rfl⟩

theorem chk_parts {f : Fr} {l : List Int} (h : chkF f l = 0) : l.length ≤ 1502 ∧ 2 ≤ l.length ∧ (f.t = true → tagOk f.p f.v = true) ∧ (f.t = false → f.p = 0 ∧ f.e = false ∧ f.v = 0 ∧ ¬ tyN l = 34984) := by
  obtain ⟨h1, h2, h3⟩ := chk_zero h
  refine ⟨h1, h3, h2, fun ht => ?_⟩
  unfold chkF at h
  rw [if_neg (by omega)] at h
  cases hb : badF f l
  · unfold badF at hb
    rw [ht] at hb
    simp only [Bool.or_eq_false_iff] at hb
    have h4 := hb.2.2.2
    simp [fz] at h4
    obtain ⟨⟨h5, h6, h7⟩, h8⟩ := h4
    exact ⟨h5, h6, h7, h8⟩
  · rw [hb] at h; simp at h

theorem enc_len {f : Fr} {l : List Int} : (encL f l).length = 12 + (tgL f).length + l.length := by simp [encL, M6.l]; omega
theorem tg_len (f : Fr) : (tgL f).length = if f.t then 4 else 0 := by unfold tgL; split <;> simp [tagL]

theorem enc_raw {f : Fr} {l : List Int} (h : chkF f l = 0) : dcT (encL f l) = f.t ∧ rawF (encL f l) = f ∧ rawR (encL f l) = l ∧ shortB (encL f l) = false := by
  obtain ⟨h1, h2, h3, h4⟩ := chk_parts h
  have e : encL f l = f.d.l ++ f.s.l ++ (tgL f ++ l) := by simp [encL]
  obtain ⟨q1, q2, q3, q4, q5⟩ := enc_head f (tgL f ++ l)
  rw [← e] at q1 q2 q3 q4 q5
  cases ht : f.t
  · obtain ⟨h5, h6, h7, h8⟩ := h4 ht
    have et : tgL f = [] := by unfold tgL; rw [ht]; rfl
    rw [et] at q1 q2 q3
    have eT : dcT (encL f l) = false := by
      unfold dcT
      rw [q1]
      simpa using h8
    refine ⟨eT, ?_, ?_, shortB_iff.2 ⟨by rw [enc_len]; omega, fun hx => by rw [eT] at hx; cases hx⟩⟩
    · unfold rawF
      rw [eT, q4, q5]
      obtain ⟨d, s, t, p, e, v⟩ := f
      simp only at ht h5 h6 h7
      subst ht h5 h6 h7
      rfl
    · unfold rawR
      rw [eT]
      exact q1
  · have hk := h3 ht
    have et : tgL f = 136 :: 168 :: tagL f.p f.e f.v := by unfold tgL; rw [ht]; rfl
    obtain ⟨t1, t2, t3, t4, _⟩ := tk_put (d := f.e) l hk
    rw [et] at q1 q2 q3
    have q2' : (encL f l).drop 14 = tagL f.p f.e f.v ++ l := q2
    have q3' : (encL f l).drop 16 = l := q3
    have eT : dcT (encL f l) = true := by
      unfold dcT
      rw [q1]
      have e1 : ¬ ((136 :: 168 :: tagL f.p f.e f.v ++ l : List Int).length < 2) := by simp
      unfold tyN
      rw [if_neg e1]
      rfl
    refine ⟨eT, ?_, ?_, shortB_iff.2 ⟨by rw [enc_len]; omega, fun _ => by rw [enc_len, tg_len, ht]; simp; omega⟩⟩
    · unfold rawF
      rw [eT, q4, q5, q2', if_pos rfl, if_pos rfl, if_pos rfl, t2, t3, t4]
      obtain ⟨d, s, t, p, e, v⟩ := f
      simp only at ht
      subst ht
      rfl
    · unfold rawR
      rw [eT]
      exact q3'

theorem enc_dec {f : Fr} {l : List Int} (h : chkF f l = 0) : dcE (encL f l) = 0 ∧ dcF (encL f l) = f ∧ dcR (encL f l) = l := by
  obtain ⟨h1, h2, h3, h4⟩ := enc_raw h
  have e : dcE (encL f l) = 0 := by unfold dcE; rw [h4, if_neg (by simp), h2, h3, h]
  exact ⟨e, by unfold dcF; rw [if_pos e, h2], by unfold dcR; rw [if_pos e, h3]⟩

theorem enc_bytes {f : Fr} {l : List Int} (hf : f.ok) (hb : ∀ x ∈ l, 0 ≤ x ∧ x ≤ 255) (h : chkF f l = 0) : ∀ x ∈ encL f l, 0 ≤ x ∧ x ≤ 255 := by
  intro x hx
  unfold encL at hx
  simp only [List.mem_append] at hx
  rcases hx with ((hx | hx) | hx) | hx
  · exact hf.1 x hx
  · exact hf.2 x hx
  · unfold tgL at hx
    split at hx
    · rename_i ht
      have hk := (chk_zero h).2.1 ht
      obtain ⟨_, _, _, _, _, hq⟩ := tk_put (d := f.e) [] hk
      simp only [List.mem_cons] at hx
      rcases hx with rfl | rfl | hx
      · omega
      · omega
      · exact hq x hx
    · simp at hx
  · exact hb x hx

theorem two_first {l : List Int} (h : 2 ≤ l.length) (hb : ∀ x ∈ l, 0 ≤ x ∧ x ≤ 255) (ht : tyN l = 34984) : l = 136 :: 168 :: l.drop 2 := by
  match l, h with
  | x :: y :: r, _ =>
    have hx := hb x (by simp)
    have hy := hb y (by simp)
    have : tyN (x :: y :: r) = x * 256 + y := tyN_val (by simp) rfl rfl
    rw [this] at ht
    have e1 : x = 136 := by omega
    have e2 : y = 168 := by omega
    subst e1 e2
    rfl

theorem dec_enc {B : List Int} (hb : ∀ x ∈ B, 0 ≤ x ∧ x ≤ 255) (h : dcE B = 0) : chkF (dcF B) (dcR B) = 0 ∧ encL (dcF B) (dcR B) = B := by
  have e1 : dcF B = rawF B := by unfold dcF; rw [if_pos h]
  have e2 : dcR B = rawR B := by unfold dcR; rw [if_pos h]
  rw [e1, e2]
  unfold dcE at h
  cases hs : shortB B
  · rw [hs, if_neg (by simp)] at h
    refine ⟨h, ?_⟩
    obtain ⟨h14, h18⟩ := shortB_iff.1 hs
    have d1 : B = (m6 B 0).l ++ ((m6 B 6).l ++ B.drop 12) := by
      rw [← list6 (l := B) (k := 0) (by omega), ← list6 (l := B) (k := 6) (by omega)]
      have : (B.drop 6).take 6 ++ B.drop 12 = B.drop 6 := by
        have := List.take_append_drop 6 (B.drop 6)
        rw [List.drop_drop] at this
        exact this
      rw [this, List.drop_zero, List.take_append_drop]
    have hb12 : ∀ x ∈ B.drop 12, 0 ≤ x ∧ x ≤ 255 := fun x hx => hb x (List.mem_of_mem_drop hx)
    have hb14 : ∀ x ∈ B.drop 14, 0 ≤ x ∧ x ≤ 255 := fun x hx => hb x (List.mem_of_mem_drop hx)
    cases ht : dcT B
    · have er : rawR B = B.drop 12 := by unfold rawR; rw [ht]; rfl
      have eg : tgL (rawF B) = [] := by
        unfold tgL
        rw [show (rawF B).t = false from ht]
        rfl
      unfold encL
      rw [eg, er, List.append_nil, List.append_assoc]
      exact d1.symm
    · have er : rawR B = B.drop 16 := by unfold rawR; rw [ht]; rfl
      have hT : tyN (B.drop 12) = 34984 := by unfold dcT at ht; simpa using ht
      have t1 := two_first (by simp; omega) hb12 hT
      rw [List.drop_drop] at t1
      have hk := (chk_zero h).2.1 (show (rawF B).t = true from ht)
      have he : tkE (B.drop 14) = 0 := by
        apply Decidable.byContradiction
        intro hne
        have h1 : (rawF B).p = 0 := by show (if dcT B then tkP (B.drop 14) else 0) = 0; rw [ht, if_pos rfl]; unfold tkP; rw [if_neg hne]
        have h2 : (rawF B).v = 0 := by show (if dcT B then tkV (B.drop 14) else 0) = 0; rw [ht, if_pos rfl]; unfold tkV; rw [if_neg hne]
        rw [h1, h2] at hk
        exact absurd hk (by decide)
      have hbk := (tk_back he hb14).2
      have hR : tkR (B.drop 14) = B.drop 16 := by
        unfold tkR
        rw [if_pos he, List.drop_drop]
      rw [hR] at hbk
      have eg : tgL (rawF B) = 136 :: 168 :: tagL (tkP (B.drop 14)) (tkD (B.drop 14)) (tkV (B.drop 14)) := by
        unfold tgL
        rw [show (rawF B).t = true from ht, if_pos rfl]
        have p1 : (rawF B).p = tkP (B.drop 14) := by show (if dcT B then tkP (B.drop 14) else 0) = _; rw [ht, if_pos rfl]
        have p2 : (rawF B).e = tkD (B.drop 14) := by show (if dcT B then tkD (B.drop 14) else false) = _; rw [ht, if_pos rfl]
        have p3 : (rawF B).v = tkV (B.drop 14) := by show (if dcT B then tkV (B.drop 14) else 0) = _; rw [ht, if_pos rfl]
        rw [p1, p2, p3]
      unfold encL
      rw [eg, er, List.append_assoc, List.append_assoc, List.cons_append, List.cons_append, hbk]
      rw [← t1]
      exact d1.symm
  · rw [hs, if_pos rfl] at h
    omega
end Go.Proofs.Ytnkchahjdacboaa
