/-
  A message's bytes as a list, what bytes tell, there and back. Plain arithmetic.
-/
import Derived.Test.YtfpoopllkmnagaaDoorMsg
namespace Go.Proofs.YtfpoopllkmnagaaDoor
set_option linter.unusedVariables false
set_option maxRecDepth 4000
set_option linter.unusedSimpArgs false
open Go.RowKit

/-- The s bytes of the number n, the highest first. -/
def be (s n : Nat) : List Int := (List.range s).map fun i => ((n / 2 ^ (8 * (s - 1 - i)) % 256 : Nat) : Int)
theorem be_len (s n : Nat) : (be s n).length = s := by simp [be]
theorem be_ok (s n : Nat) : ∀ x ∈ be s n, 0 ≤ x ∧ x ≤ 255 := by
  intro x hx
  simp only [be, List.mem_map, List.mem_range] at hx
  obtain ⟨i, _, rfl⟩ := hx
  omega
theorem be_cons (s n : Nat) : be (s + 1) n = ((n / 2 ^ (8 * s) % 256 : Nat) : Int) :: be s n := by
  unfold be
  rw [List.range_succ_eq_map, List.map_cons, List.map_map]
  congr 1
  apply List.map_congr_left
  intro i hi
  simp only [Function.comp_apply]
  rw [show s + 1 - 1 - (i + 1) = s - 1 - i by omega]
theorem be_snoc (s n : Nat) : be (s + 1) n = be s (n / 256) ++ [((n % 256 : Nat) : Int)] := by
  unfold be
  rw [List.range_succ, List.map_append]
  congr 1
  · apply List.map_congr_left
    intro i hi
    have hi' := List.mem_range.1 hi
    rw [show 8 * (s + 1 - 1 - i) = 8 + 8 * (s - 1 - i) by omega, Nat.pow_add, ← Nat.div_div_eq_div_mul]
  · simp
theorem be_getD (s n j : Nat) (hj : j < s) : (be s n).getD j 0 = ((n / 2 ^ (8 * (s - 1 - j)) % 256 : Nat) : Int) := by
  simp [be, hj]

/-- The number of bytes, the highest first. -/
def nu (l : List Int) : Nat := l.foldl (fun a x => a * 256 + x.toNat) 0
theorem nu_snoc (l : List Int) (x : Int) : nu (l ++ [x]) = nu l * 256 + x.toNat := by simp [nu]
theorem nu_nil : nu [] = 0 := rfl
theorem nu_lt {l : List Int} (h : ∀ x ∈ l, 0 ≤ x ∧ x ≤ 255) : nu l < 256 ^ l.length := by
  have key : ∀ (n : Nat) (l : List Int), l.length = n → (∀ x ∈ l, 0 ≤ x ∧ x ≤ 255) → nu l < 256 ^ n := by
    intro n
    induction n with
    | zero =>
      intro l hl _
      rw [List.eq_nil_of_length_eq_zero hl]
      decide
    | succ n ih =>
      intro l hl hb
      have hne : l ≠ [] := by intro e; subst e; simp at hl
      have e := List.dropLast_concat_getLast hne
      have h1 := ih l.dropLast (by simp [hl]) (fun x hx => hb x (List.dropLast_subset l hx))
      have h2 := hb _ (List.getLast_mem hne)
      rw [← e, nu_snoc, Nat.pow_succ]
      omega
  exact key _ l rfl h
theorem be_nu {l : List Int} (h : ∀ x ∈ l, 0 ≤ x ∧ x ≤ 255) : be l.length (nu l) = l := by
  have key : ∀ (n : Nat) (l : List Int), l.length = n → (∀ x ∈ l, 0 ≤ x ∧ x ≤ 255) → be n (nu l) = l := by
    intro n
    induction n with
    | zero =>
      intro l hl _
      rw [List.eq_nil_of_length_eq_zero hl]
      rfl
    | succ n ih =>
      intro l hl hb
      have hne : l ≠ [] := by intro e; subst e; simp at hl
      have e := List.dropLast_concat_getLast hne
      have h1 := ih l.dropLast (by simp [hl]) (fun x hx => hb x (List.dropLast_subset l hx))
      have h2 := hb _ (List.getLast_mem hne)
      conv => lhs; rw [← e, nu_snoc]
      rw [be_snoc, show (nu l.dropLast * 256 + (l.getLast hne).toNat) / 256 = nu l.dropLast by omega, h1, show (((nu l.dropLast * 256 + (l.getLast hne).toNat) % 256 : Nat) : Int) = l.getLast hne by omega, e]
  exact key _ l rfl h
theorem nu_be (s n : Nat) (h : n < 256 ^ s) : nu (be s n) = n := by
  induction s generalizing n with
  | zero => simp at h; subst h; rfl
  | succ s ih =>
    rw [be_snoc, nu_snoc, ih (n / 256) (by rw [Nat.pow_succ] at h; omega)]
    omega

/-- A role's number; may it be told? Its role back. -/
def roN (r : Int) : Nat := if r = 1 then 1 else if r = 3 then 2 else if r = 4 then 3 else 0
def roOk (r : Int) : Bool := decide (r = 0 ∨ r = 1 ∨ r = 3 ∨ r = 4)
def roOf (n : Nat) : Int := if n = 1 then 1 else if n = 2 then 3 else if n = 3 then 4 else 0
theorem roN_lt (r : Int) : roN r < 4 := by unfold roN; split <;> (try split) <;> (try split) <;> omega
theorem roOf_roN {r : Int} (h : roOk r = true) : roOf (roN r) = r := by
  simp only [roOk, decide_eq_true_eq] at h
  rcases h with rfl | rfl | rfl | rfl <;> rfl
/-- A flag's number. -/
def bitB (b : Bool) (n : Nat) : Nat := if b then n else 0
/-- The flags. -/
def flN (m : Bp) : Nat := 4 * roN m.ro + bitB m.tc 1 + bitB m.pr 2 + bitB m.le 16 + bitB m.fo 32 + bitB m.ag 64 + bitB m.ak 128
/-- A flag of a number. -/
def flB (f n : Nat) : Bool := f / n % 2 == 1
theorem flN_lt (m : Bp) : flN m < 256 := by
  have := roN_lt m.ro
  unfold flN bitB
  cases m.tc <;> cases m.pr <;> cases m.le <;> cases m.fo <;> cases m.ag <;> cases m.ak <;> simp <;> omega
theorem flN_back (m : Bp) : flB (flN m) 1 = m.tc ∧ flB (flN m) 2 = m.pr ∧ flN m / 4 % 4 = roN m.ro ∧ flB (flN m) 16 = m.le ∧ flB (flN m) 32 = m.fo ∧ flB (flN m) 64 = m.ag ∧ flB (flN m) 128 = m.ak := by
  have := roN_lt m.ro
  unfold flN bitB flB
  generalize roN m.ro = r at *
  have h4 : r = 0 ∨ r = 1 ∨ r = 2 ∨ r = 3 := by omega
  rcases h4 with rfl | rfl | rfl | rfl <;> cases m.tc <;> cases m.pr <;> cases m.le <;> cases m.fo <;> cases m.ag <;> cases m.ak <;> decide

/-- Has a Config what it may not have? A TCN what it may not have besides? -/
def badC (m : Bp) : Bool := m.pr || (m.le || (m.fo || (m.ag || (m.ro != 0))))
def badT (m : Bp) : Bool := m.tc || (m.ak || (!decide (m.rt = 0 ∧ m.co = 0 ∧ m.br = 0 ∧ m.po = 0) || !decide (m.a = 0 ∧ m.x = 0 ∧ m.h = 0 ∧ m.d = 0)))
/-- May a message be? -/
def okB (m : Bp) : Bool := if m.k = 2 then !(badT m || badC m) else if m.k = 1 then !badC m else if m.k = 3 then !(m.ak || !roOk m.ro) else false
/-- The answer of a check. -/
def chkP (m : Bp) : Int := if okB m then 0 else 50

/-- What a Config and an RST have alike, behind the flags. -/
def restL (m : Bp) : List Int := be 8 m.rt ++ (be 4 m.co ++ (be 8 m.br ++ (be 2 m.po ++ [(m.a : Int), 0, (m.x : Int), 0, (m.h : Int), 0, (m.d : Int), 0])))
def bodyL (m : Bp) : List Int := (flN m : Int) :: restL m
/-- A message's bytes. -/
def mbytes (m : Bp) : List Int := if m.k = 2 then [0, 0, 0, 128] else if m.k = 3 then [0, 0, 2, 2] ++ (bodyL m ++ [0]) else [0, 0, 0, 0] ++ bodyL m
/-- How many bytes a kind has. -/
def lenK (k : Int) : Nat := if k = 3 then 36 else if k = 1 then 35 else if k = 2 then 4 else 0
theorem restL_len (m : Bp) : (restL m).length = 30 := by simp [restL, be_len]
theorem bodyL_len (m : Bp) : (bodyL m).length = 31 := by simp [bodyL, restL_len]
theorem mbytes_len {m : Bp} (h : okB m = true) : (mbytes m).length = lenK m.k := by
  unfold okB at h
  unfold mbytes lenK
  by_cases h2 : m.k = 2
  · simp [h2]
  · by_cases h3 : m.k = 3
    · simp [h3, bodyL_len]
    · by_cases h1 : m.k = 1
      · simp [h1, bodyL_len]
      · simp [h1, h2, h3] at h
theorem byte_ok {n : Nat} (h : n < 256) : (0 : Int) ≤ n ∧ (n : Int) ≤ 255 := by omega
theorem restL_ok {m : Bp} (h : m.wf) : ∀ x ∈ restL m, 0 ≤ x ∧ x ≤ 255 := by
  intro x hx
  simp only [restL, List.mem_append, List.mem_cons, List.not_mem_nil, or_false] at hx
  have h1 := h.a
  have h2 := h.x
  have h3 := h.h
  have h4 := h.d
  rcases hx with hx | hx | hx | hx | rfl | rfl | rfl | rfl | rfl | rfl | rfl | rfl
  · exact be_ok _ _ x hx
  · exact be_ok _ _ x hx
  · exact be_ok _ _ x hx
  · exact be_ok _ _ x hx
  all_goals omega
theorem mbytes_ok {m : Bp} (h : m.wf) : ∀ x ∈ mbytes m, 0 ≤ x ∧ x ≤ 255 := by
  intro x hx
  have hf := flN_lt m
  unfold mbytes at hx
  split at hx
  · simp at hx; omega
  · split at hx
    · simp [bodyL] at hx
      rcases hx with rfl | rfl | rfl | hx | rfl
      any_goals omega
      exact restL_ok h x hx
    · simp [bodyL] at hx
      rcases hx with rfl | rfl | hx
      any_goals omega
      exact restL_ok h x hx

/-- l are the bytes of the message m, which may be. -/
structure RdOk (l : List Int) (m : Bp) : Prop where
  wf : m.wf
  ok : okB m = true
  eq : mbytes m = l

/-- So many bytes from the k-th on. -/
def sub (l : List Int) (k s : Nat) : List Int := (l.drop k).take s
/-- What the body tells, of the kind k. -/
def cand (k : Int) (l : List Int) : Bp :=
  ⟨k, flB (nu (sub l 4 1)) 1, flB (nu (sub l 4 1)) 128, flB (nu (sub l 4 1)) 2, flB (nu (sub l 4 1)) 16, flB (nu (sub l 4 1)) 32, flB (nu (sub l 4 1)) 64, roOf (nu (sub l 4 1) / 4 % 4), nu (sub l 5 8), nu (sub l 13 4), nu (sub l 17 8), nu (sub l 25 2), nu (sub l 27 2) / 256, nu (sub l 29 2) / 256, nu (sub l 31 2) / 256, nu (sub l 33 2) / 256⟩
/-- The kind that the head tells. -/
def headK (n : Nat) : Int := if n = 128 then 2 else if n = 0 then 1 else if n = 514 then 3 else 0
/-- What bytes tell. -/
def icand (l : List Int) : Bp := if headK (nu (sub l 0 4)) = 2 then kP 2 else cand (headK (nu (sub l 0 4))) l

theorem be1 (n : Nat) (h : n < 256) : be 1 n = [(n : Int)] := by
  simp [be]
  omega
theorem be2 (n : Nat) (h : n < 256) : be 2 (n * 256) = [(n : Int), 0] := by
  simp [be, List.range_succ]
  omega
theorem nu_ok {l : List Int} (h : ∀ x ∈ l, 0 ≤ x ∧ x ≤ 255) (s : Nat) (hs : l.length ≤ s) : nu l < 256 ^ s := Nat.lt_of_lt_of_le (nu_lt h) (Nat.pow_le_pow_right (by omega) hs)
theorem sub_ok {l : List Int} (h : ∀ x ∈ l, 0 ≤ x ∧ x ≤ 255) (k s : Nat) : ∀ x ∈ sub l k s, 0 ≤ x ∧ x ≤ 255 := fun x hx => h x (List.mem_of_mem_drop (List.mem_of_mem_take hx))
theorem sub_len (l : List Int) (k s : Nat) (h : k + s ≤ l.length) : (sub l k s).length = s := by simp [sub]; omega
theorem sub_le (l : List Int) (k s : Nat) : (sub l k s).length ≤ s := by simp [sub]; omega
theorem cand_wf {l : List Int} (h : ∀ x ∈ l, 0 ≤ x ∧ x ≤ 255) (k : Int) : (cand k l).wf := by
  have h1 := nu_ok (sub_ok h 5 8) 8 (sub_le _ _ _)
  have h2 := nu_ok (sub_ok h 13 4) 4 (sub_le _ _ _)
  have h3 := nu_ok (sub_ok h 17 8) 8 (sub_le _ _ _)
  have h4 := nu_ok (sub_ok h 25 2) 2 (sub_le _ _ _)
  have h5 := nu_ok (sub_ok h 27 2) 2 (sub_le _ _ _)
  have h6 := nu_ok (sub_ok h 29 2) 2 (sub_le _ _ _)
  have h7 := nu_ok (sub_ok h 31 2) 2 (sub_le _ _ _)
  have h8 := nu_ok (sub_ok h 33 2) 2 (sub_le _ _ _)
  refine ⟨?_, ?_, ?_, ?_, ?_, ?_, ?_, ?_⟩ <;> simp only [cand] <;> omega
theorem icand_wf {l : List Int} (h : ∀ x ∈ l, 0 ≤ x ∧ x ≤ 255) : (icand l).wf := by
  unfold icand
  split
  · exact kP_wf 2
  · exact cand_wf h _

theorem sub_app (p q r : List Int) (k s : Nat) (hk : p.length = k) (hs : q.length = s) : sub (p ++ (q ++ r)) k s = q := by
  unfold sub
  rw [← hk, List.drop_left, ← hs, List.take_left]

/-- The bytes of a message that has a body tell it. -/
theorem cand_back {m : Bp} (h : m.wf) (hr : roOk m.ro = true) (hd t : List Int) (h4 : hd.length = 4) : cand m.k (hd ++ (bodyL m ++ t)) = m := by
  have f0 := flN_lt m
  obtain ⟨f1, f2, f3, f4, f5, f6, f7⟩ := flN_back m
  have e4 : nu (sub (hd ++ (bodyL m ++ t)) 4 1) = flN m := by
    rw [show hd ++ (bodyL m ++ t) = hd ++ ([(flN m : Int)] ++ (restL m ++ t)) by simp [bodyL], sub_app _ _ _ 4 1 h4 rfl, ← be1 _ f0, nu_be 1 _ (by omega)]
  have e5 : nu (sub (hd ++ (bodyL m ++ t)) 5 8) = m.rt := by
    rw [show hd ++ (bodyL m ++ t) = (hd ++ [(flN m : Int)]) ++ (be 8 m.rt ++ ((be 4 m.co ++ (be 8 m.br ++ (be 2 m.po ++ [(m.a : Int), 0, (m.x : Int), 0, (m.h : Int), 0, (m.d : Int), 0]))) ++ t)) by simp [bodyL, restL], sub_app _ _ _ 5 8 (by simp [h4]) (be_len _ _), nu_be 8 _ h.rt]
  have e13 : nu (sub (hd ++ (bodyL m ++ t)) 13 4) = m.co := by
    rw [show hd ++ (bodyL m ++ t) = (hd ++ ([(flN m : Int)] ++ be 8 m.rt)) ++ (be 4 m.co ++ ((be 8 m.br ++ (be 2 m.po ++ [(m.a : Int), 0, (m.x : Int), 0, (m.h : Int), 0, (m.d : Int), 0])) ++ t)) by simp [bodyL, restL], sub_app _ _ _ 13 4 (by simp [h4, be_len]) (be_len _ _), nu_be 4 _ h.co]
  have e17 : nu (sub (hd ++ (bodyL m ++ t)) 17 8) = m.br := by
    rw [show hd ++ (bodyL m ++ t) = (hd ++ ([(flN m : Int)] ++ (be 8 m.rt ++ be 4 m.co))) ++ (be 8 m.br ++ ((be 2 m.po ++ [(m.a : Int), 0, (m.x : Int), 0, (m.h : Int), 0, (m.d : Int), 0]) ++ t)) by simp [bodyL, restL], sub_app _ _ _ 17 8 (by simp [h4, be_len]) (be_len _ _), nu_be 8 _ h.br]
  have e25 : nu (sub (hd ++ (bodyL m ++ t)) 25 2) = m.po := by
    rw [show hd ++ (bodyL m ++ t) = (hd ++ ([(flN m : Int)] ++ (be 8 m.rt ++ (be 4 m.co ++ be 8 m.br)))) ++ (be 2 m.po ++ ([(m.a : Int), 0, (m.x : Int), 0, (m.h : Int), 0, (m.d : Int), 0] ++ t)) by simp [bodyL, restL], sub_app _ _ _ 25 2 (by simp [h4, be_len]) (be_len _ _), nu_be 2 _ h.po]
  have e27 : nu (sub (hd ++ (bodyL m ++ t)) 27 2) / 256 = m.a := by
    rw [show hd ++ (bodyL m ++ t) = (hd ++ ([(flN m : Int)] ++ (be 8 m.rt ++ (be 4 m.co ++ (be 8 m.br ++ be 2 m.po))))) ++ ([(m.a : Int), 0] ++ ([(m.x : Int), 0, (m.h : Int), 0, (m.d : Int), 0] ++ t)) by simp [bodyL, restL], sub_app _ _ _ 27 2 (by simp [h4, be_len]) rfl]
    simp [nu]
  have e29 : nu (sub (hd ++ (bodyL m ++ t)) 29 2) / 256 = m.x := by
    rw [show hd ++ (bodyL m ++ t) = (hd ++ ([(flN m : Int)] ++ (be 8 m.rt ++ (be 4 m.co ++ (be 8 m.br ++ (be 2 m.po ++ [(m.a : Int), 0])))))) ++ ([(m.x : Int), 0] ++ ([(m.h : Int), 0, (m.d : Int), 0] ++ t)) by simp [bodyL, restL], sub_app _ _ _ 29 2 (by simp [h4, be_len]) rfl]
    simp [nu]
  have e31 : nu (sub (hd ++ (bodyL m ++ t)) 31 2) / 256 = m.h := by
    rw [show hd ++ (bodyL m ++ t) = (hd ++ ([(flN m : Int)] ++ (be 8 m.rt ++ (be 4 m.co ++ (be 8 m.br ++ (be 2 m.po ++ [(m.a : Int), 0, (m.x : Int), 0])))))) ++ ([(m.h : Int), 0] ++ ([(m.d : Int), 0] ++ t)) by simp [bodyL, restL], sub_app _ _ _ 31 2 (by simp [h4, be_len]) rfl]
    simp [nu]
  have e33 : nu (sub (hd ++ (bodyL m ++ t)) 33 2) / 256 = m.d := by
    rw [show hd ++ (bodyL m ++ t) = (hd ++ ([(flN m : Int)] ++ (be 8 m.rt ++ (be 4 m.co ++ (be 8 m.br ++ (be 2 m.po ++ [(m.a : Int), 0, (m.x : Int), 0, (m.h : Int), 0])))))) ++ ([(m.d : Int), 0] ++ t) by simp [bodyL, restL], sub_app _ _ _ 33 2 (by simp [h4, be_len]) rfl]
    simp [nu]
  unfold cand
  rw [e4, e5, e13, e17, e25, e27, e29, e31, e33, f1, f2, f3, f4, f5, f6, f7, roOf_roN hr]

theorem ok_role {m : Bp} (h : okB m = true) (h2 : m.k ≠ 2) : roOk m.ro = true := by
  unfold okB at h
  rw [if_neg h2] at h
  split at h
  · simp [badC] at h
    simp [roOk, h]
  · split at h
    · simp at h
      simp [h]
    · cases h
theorem ok_kind {m : Bp} (h : okB m = true) : m.k = 2 ∨ m.k = 1 ∨ m.k = 3 := by
  unfold okB at h
  by_cases h2 : m.k = 2
  · exact .inl h2
  · by_cases h1 : m.k = 1
    · exact .inr (.inl h1)
    · by_cases h3 : m.k = 3
      · exact .inr (.inr h3)
      · simp [h1, h2, h3] at h
theorem ok_tcn {m : Bp} (h : okB m = true) (h2 : m.k = 2) : m = kP 2 := by
  unfold okB badT badC at h
  rw [if_pos h2] at h
  simp at h
  obtain ⟨k, tc, ak, pr, le, fo, ag, ro, rt, co, br, po, a, x, h', d⟩ := m
  simp at h h2
  simp [kP, h, h2]

theorem icand_eq {l : List Int} {m : Bp} (h : RdOk l m) : icand l = m ∧ headK (nu (sub l 0 4)) = m.k ∧ l.length = lenK m.k := by
  obtain ⟨wf, ok, rfl⟩ := h
  have hl := mbytes_len ok
  rcases ok_kind ok with h2 | h1 | h3
  · have e := ok_tcn ok h2
    subst e
    exact ⟨rfl, rfl, hl⟩
  · have hb : mbytes m = [0, 0, 0, 0] ++ (bodyL m ++ []) := by simp [mbytes, h1]
    have hk : headK (nu (sub (mbytes m) 0 4)) = 1 := by rw [hb]; rfl
    refine ⟨?_, by rw [hk, h1], hl⟩
    unfold icand
    rw [hk, if_neg (by decide), ← h1, hb]
    exact cand_back wf (ok_role ok (by omega)) _ _ rfl
  · have hb : mbytes m = [0, 0, 2, 2] ++ (bodyL m ++ [0]) := by simp [mbytes, h3]
    have hk : headK (nu (sub (mbytes m) 0 4)) = 3 := by rw [hb]; rfl
    refine ⟨?_, by rw [hk, h3], hl⟩
    unfold icand
    rw [hk, if_neg (by decide), ← h3, hb]
    exact cand_back wf (ok_role ok (by omega)) _ _ rfl
theorem RdOk.inj {l : List Int} {m n : Bp} (h : RdOk l m) (k : RdOk l n) : m = n := (icand_eq h).1.symm.trans (icand_eq k).1

/-- What reading answers. -/
def RdOut (l : List Int) (m : Bp) (e : Int) : Prop := (l.length < 4 ∧ m = zeroP ∧ e = 6) ∨ (4 ≤ l.length ∧ RdOk l m ∧ e = 0) ∨ (4 ≤ l.length ∧ (∀ n, ¬ RdOk l n) ∧ m = zeroP ∧ e = 50)
theorem RdOut.inj {l : List Int} {m m' : Bp} {e e' : Int} (h : RdOut l m e) (k : RdOut l m' e') : m = m' ∧ e = e' := by
  rcases h with ⟨h1, rfl, rfl⟩ | ⟨h1, h2, rfl⟩ | ⟨h1, h2, rfl, rfl⟩ <;> rcases k with ⟨k1, rfl, rfl⟩ | ⟨k1, k2, rfl⟩ | ⟨k1, k2, rfl, rfl⟩
  any_goals omega
  any_goals exact ⟨rfl, rfl⟩
  · exact ⟨h2.inj k2, rfl⟩
  · exact absurd h2 (k2 _)
  · exact absurd k2 (h2 _)
theorem RdOut.wf {l : List Int} {m : Bp} {e : Int} (h : RdOut l m e) : m.wf := by
  rcases h with ⟨h1, rfl, rfl⟩ | ⟨h1, h2, rfl⟩ | ⟨h1, h2, rfl, rfl⟩
  · exact zeroP_wf
  · exact h2.wf
  · exact zeroP_wf
end Go.Proofs.YtfpoopllkmnagaaDoor
