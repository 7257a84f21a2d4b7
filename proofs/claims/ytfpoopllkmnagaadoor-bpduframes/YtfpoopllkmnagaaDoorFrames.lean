/-
  A message's frame as a list, there and back. Plain arithmetic.
-/
import Derived.Test.YtfpoopllkmnagaaDoorEncode
import Derived.Test.YtfpoopllkmnagaaDoorIs
namespace Go.Proofs.YtfpoopllkmnagaaDoor
set_option linter.unusedVariables false
set_option maxRecDepth 4000
set_option linter.unusedSimpArgs false
open Go.RowKit

/-- l is the frame of the message m, which may be, from the station s. -/
structure DcOk (l : List Int) (s : M6) (m : Bp) : Prop where
  so : s.ok
  kd : s.kd = 1
  wf : m.wf
  ok : okB m = true
  eq : menc s m = l
/-- Are bytes a frame but for the message? -/
def frB (l : List Int) : Bool := isB l && (decide ((m6 l 6).kd = 1) && decide (nu (sub l 12 2) = l.length - 14))

theorem split5 (l : List Int) : l = sub l 0 6 ++ (sub l 6 6 ++ (sub l 12 2 ++ (sub l 14 3 ++ l.drop 17))) := by
  unfold sub
  have h1 : (l.drop 14).take 3 ++ l.drop 17 = l.drop 14 := by
    have := List.take_append_drop 3 (l.drop 14)
    rwa [List.drop_drop] at this
  have h2 : (l.drop 12).take 2 ++ l.drop 14 = l.drop 12 := by
    have := List.take_append_drop 2 (l.drop 12)
    rwa [List.drop_drop] at this
  have h3 : (l.drop 6).take 6 ++ l.drop 12 = l.drop 6 := by
    have := List.take_append_drop 6 (l.drop 6)
    rwa [List.drop_drop] at this
  rw [h1, h2, h3]
  simp
theorem sub_nu {l : List Int} (hb : ∀ x ∈ l, 0 ≤ x ∧ x ≤ 255) (k s N : Nat) (h : k + s ≤ l.length) (hn : nu (sub l k s) = N) : sub l k s = be s N := by
  have := be_nu (sub_ok hb k s)
  rw [sub_len l k s h, hn] at this
  exact this.symm

theorem dc_yes {l : List Int} {m : Bp} (hb : ∀ x ∈ l, 0 ≤ x ∧ x ≤ 255) (h21 : 21 ≤ l.length) (hf : frB l = true) (h : RdOk (l.drop 17) m) : DcOk l (m6 l 6) m := by
  unfold frB isB at hf
  simp only [Bool.and_eq_true, decide_eq_true_eq] at hf
  obtain ⟨⟨_, h1, h2⟩, h3, h4⟩ := hf
  refine ⟨m6_ok hb 6, h3, h.wf, h.ok, ?_⟩
  have hl : l.length = 17 + lenK m.k := by
    have := mbytes_len h.ok
    rw [h.eq, List.length_drop] at this
    omega
  have e1 := sub_nu hb 0 6 _ (by omega) h1
  have e2 : sub l 6 6 = (m6 l 6).l := list6 (by omega)
  have e3 := sub_nu hb 12 2 _ (by omega) h4
  have e4 := sub_nu hb 14 3 _ (by omega) h2
  have e5 := split5 l
  rw [e1, e2, e3, e4, ← h.eq, show l.length - 14 = 3 + lenK m.k by omega] at e5
  rw [show be 6 1652522221568 = [1, 128, 194, 0, 0, 0] by decide +kernel, show be 3 4342275 = [66, 66, 3] by decide +kernel] at e5
  conv => rhs; rw [e5]
  simp [menc]
theorem m6_of {p r : List Int} (s : M6) (hp : p.length = 6) : m6 (p ++ (s.l ++ r)) 6 = s := by
  have h1 : ∀ j, j < 6 → gt (p ++ (s.l ++ r)) (6 + j) = s.l.getD j 0 := by
    intro j hj
    unfold gt
    rw [List.getD_eq_getElem?_getD, List.getElem?_append_right (by omega), List.getElem?_append_left (by simp [M6.l]; omega), List.getD_eq_getElem?_getD, hp]
    rw [show 6 + j - 6 = j by omega]
  obtain ⟨a, b, c, d, e, f⟩ := s
  have g0 := h1 0 (by omega)
  have g1 := h1 1 (by omega)
  have g2 := h1 2 (by omega)
  have g3 := h1 3 (by omega)
  have g4 := h1 4 (by omega)
  have g5 := h1 5 (by omega)
  simp only [M6.l] at g0 g1 g2 g3 g4 g5
  unfold m6
  simp only [M6.l]
  rw [show (6 : Nat) = 6 + 0 from rfl, g0, show 6 + 0 + 1 = 6 + 1 from rfl, g1, show 6 + 0 + 2 = 6 + 2 from rfl, g2, show 6 + 0 + 3 = 6 + 3 from rfl, g3, show 6 + 0 + 4 = 6 + 4 from rfl, g4, show 6 + 0 + 5 = 6 + 5 from rfl, g5]
  rfl
theorem dc_fwd {l : List Int} {s : M6} {m : Bp} (h : DcOk l s m) : s = m6 l 6 ∧ RdOk (l.drop 17) m ∧ frB l = true := by
  obtain ⟨so, kd, wf, ok, rfl⟩ := h
  have hl := menc_len (s := s) ok
  have hk := lenK_le m.k
  have a1 : menc s m = [] ++ ([1, 128, 194, 0, 0, 0] ++ (s.l ++ (be 2 (3 + lenK m.k) ++ ([66, 66, 3] ++ mbytes m)))) := by simp [menc]
  have a2 : menc s m = [1, 128, 194, 0, 0, 0] ++ (s.l ++ (be 2 (3 + lenK m.k) ++ ([66, 66, 3] ++ mbytes m))) := by simp [menc]
  have a3 : menc s m = ([1, 128, 194, 0, 0, 0] ++ s.l) ++ (be 2 (3 + lenK m.k) ++ ([66, 66, 3] ++ mbytes m)) := by simp [menc]
  have a4 : menc s m = ([1, 128, 194, 0, 0, 0] ++ s.l ++ be 2 (3 + lenK m.k)) ++ ([66, 66, 3] ++ mbytes m) := by simp [menc]
  have a5 : menc s m = ([1, 128, 194, 0, 0, 0] ++ s.l ++ be 2 (3 + lenK m.k) ++ [66, 66, 3]) ++ mbytes m := by simp [menc]
  have e6 : m6 (menc s m) 6 = s := by rw [a2]; exact m6_of s rfl
  have e0 : sub (menc s m) 0 6 = [1, 128, 194, 0, 0, 0] := by rw [a1]; exact sub_app _ _ _ 0 6 rfl rfl
  have e12 : sub (menc s m) 12 2 = be 2 (3 + lenK m.k) := by rw [a3]; exact sub_app _ _ _ 12 2 rfl (be_len _ _)
  have e14 : sub (menc s m) 14 3 = [66, 66, 3] := by rw [a4]; exact sub_app _ _ _ 14 3 (by simp [be_len, M6.l]) rfl
  have e17 : (menc s m).drop 17 = mbytes m := by
    rw [a5]
    have : ([1, 128, 194, 0, 0, 0] ++ s.l ++ be 2 (3 + lenK m.k) ++ [66, 66, 3]).length = 17 := by simp [be_len, M6.l]
    rw [← this, List.drop_left]
  refine ⟨e6.symm, ⟨wf, ok, e17.symm⟩, ?_⟩
  have h4 : 4 ≤ lenK m.k := by rcases ok_kind ok with h | h | h <;> rw [h] <;> decide
  unfold frB isB
  rw [e6, e0, e12, e14, nu_be 2 _ (by omega), hl, kd]
  simp only [Bool.and_eq_true, decide_eq_true_eq]
  refine ⟨⟨by omega, by decide +kernel, by decide +kernel⟩, trivial, by omega⟩

/-- What Decode tells. -/
def DcOut (l : List Int) (s : M6) (m : Bp) (e : Int) : Prop := (l.length < 21 ∧ s = zeroM ∧ m = zeroP ∧ e = 6) ∨ (21 ≤ l.length ∧ DcOk l s m ∧ e = 0) ∨ (21 ≤ l.length ∧ (∀ t n, ¬ DcOk l t n) ∧ s = zeroM ∧ m = zeroP ∧ e = 50)
theorem DcOk.inj {l : List Int} {s t : M6} {m n : Bp} (h : DcOk l s m) (k : DcOk l t n) : s = t ∧ m = n := by
  obtain ⟨h1, h2, _⟩ := dc_fwd h
  obtain ⟨k1, k2, _⟩ := dc_fwd k
  exact ⟨h1.trans k1.symm, h2.inj k2⟩
theorem DcOut.inj {l : List Int} {s t : M6} {m n : Bp} {e f : Int} (h : DcOut l s m e) (k : DcOut l t n f) : s = t ∧ m = n ∧ e = f := by
  rcases h with ⟨h1, rfl, rfl, rfl⟩ | ⟨h1, h2, rfl⟩ | ⟨h1, h2, rfl, rfl, rfl⟩ <;> rcases k with ⟨k1, rfl, rfl, rfl⟩ | ⟨k1, k2, rfl⟩ | ⟨k1, k2, rfl, rfl, rfl⟩
  any_goals omega
  any_goals exact ⟨rfl, rfl, rfl⟩
  · exact ⟨(h2.inj k2).1, (h2.inj k2).2, rfl⟩
  · exact absurd h2 (k2 _ _)
  · exact absurd k2 (h2 _ _)
theorem zeroM_ok : zeroM.ok := by
  intro x hx
  simp [zeroM, M6.l] at hx
  omega
theorem DcOut.ok {l : List Int} {s : M6} {m : Bp} {e : Int} (h : DcOut l s m e) : s.ok ∧ m.wf := by
  rcases h with ⟨_, rfl, rfl, _⟩ | ⟨_, h2, _⟩ | ⟨_, _, rfl, rfl, _⟩
  · exact ⟨zeroM_ok, zeroP_wf⟩
  · exact ⟨h2.so, h2.wf⟩
  · exact ⟨zeroM_ok, zeroP_wf⟩
theorem dc_no {l : List Int} (h21 : 21 ≤ l.length) (h : ∀ m, RdOk (l.drop 17) m → frB l = true → False) : DcOut l zeroM zeroP 50 :=
  .inr (.inr ⟨h21, fun t n hn => h n (dc_fwd hn).2.1 (dc_fwd hn).2.2, rfl, rfl, rfl⟩)
theorem dc_ok {l : List Int} {m : Bp} (hb : ∀ x ∈ l, 0 ≤ x ∧ x ≤ 255) (h21 : 21 ≤ l.length) (hf : frB l = true) (h : RdOk (l.drop 17) m) : DcOut l (m6 l 6) m 0 := .inr (.inl ⟨h21, dc_yes hb h21 hf h, rfl⟩)
theorem dc_short {l : List Int} (h : l.length < 21) : DcOut l zeroM zeroP 6 := .inl ⟨h, rfl, rfl, rfl⟩
/-- Reading, where it is long enough. -/
theorem rd_cases {l : List Int} {m : Bp} {e : Int} (h : RdOut l m e) (h4 : 4 ≤ l.length) : (RdOk l m ∧ e = 0) ∨ ((∀ n, ¬ RdOk l n) ∧ e = 50) := by
  rcases h with ⟨h1, _, _⟩ | ⟨h1, h2, h3⟩ | ⟨h1, h2, _, h3⟩
  · omega
  · exact .inl ⟨h2, h3⟩
  · exact .inr ⟨h2, h3⟩
end Go.Proofs.YtfpoopllkmnagaaDoor
