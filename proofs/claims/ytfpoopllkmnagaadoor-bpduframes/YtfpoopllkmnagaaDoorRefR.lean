/-
  What bytes tell by definition, as a list. Plain arithmetic.
-/
import Derived.Test.YtfpoopllkmnagaaDoorFrames
import Derived.Test.YtfpoopllkmnagaaDoorRead
import Derived.Test.YtfpoopllkmnagaaDoorRefBytes
namespace Go.Proofs.YtfpoopllkmnagaaDoor
set_option linter.unusedVariables false
set_option maxRecDepth 4000
set_option linter.unusedSimpArgs false
open Go.RowKit

/-- A byte as a number. -/
def gn (l : List Int) (k : Nat) : Nat := (gt l k).toNat
theorem gn_eq {l : List Int} (hb : ∀ x ∈ l, 0 ≤ x ∧ x ≤ 255) (k : Nat) : gt l k = (gn l k : Int) ∧ gn l k < 256 := by
  have := gt_ok hb k
  unfold gn
  omega
theorem nu1 {l : List Int} {k : Nat} (h : k < l.length) : nu (sub l k 1) = gn l k := by
  have := sub_succ (l := l) (k := k) (i := 0) (by omega)
  rw [Nat.zero_add] at this
  rw [this, nu_snoc]
  simp [sub, nu, gn, gt]
theorem nu2 {l : List Int} (hb : ∀ x ∈ l, 0 ≤ x ∧ x ≤ 255) {k : Nat} (h : k + 1 < l.length) : nu (sub l k 2) / 256 = gn l k := by
  have h1 := sub_succ (l := l) (k := k) (i := 1) (by omega)
  have h2 := (gn_eq hb (k + 1)).2
  unfold gn gt at h2
  rw [show sub l k 2 = sub l k (1 + 1) from rfl, h1, nu_snoc, nu1 (by omega)]
  omega
/-- What bytes tell, by definition. -/
def cfgR (l : List Int) : Bp := ⟨1, flB (gn l 4) 1, flB (gn l 4) 128, false, false, false, false, 0, nu (sub l 5 8), nu (sub l 13 4), nu (sub l 17 8), nu (sub l 25 2), gn l 27, gn l 29, gn l 31, gn l 33⟩
def rstR (l : List Int) : Bp := ⟨3, flB (gn l 4) 1, false, flB (gn l 4) 2, flB (gn l 4) 16, flB (gn l 4) 32, flB (gn l 4) 64, roOf (gn l 4 / 4 % 4), nu (sub l 5 8), nu (sub l 13 4), nu (sub l 17 8), nu (sub l 25 2), gn l 27, gn l 29, gn l 31, gn l 33⟩
def rcand (l : List Int) : Bp := if 35 ≤ l.length then (if gn l 2 = 2 then rstR l else cfgR l) else kP 2
theorem rw_wf {l : List Int} (h : ∀ x ∈ l, 0 ≤ x ∧ x ≤ 255) : (rcand l).wf := by
  have h1 := nu_ok (sub_ok h 5 8) 8 (sub_le _ _ _)
  have h2 := nu_ok (sub_ok h 13 4) 4 (sub_le _ _ _)
  have h3 := nu_ok (sub_ok h 17 8) 8 (sub_le _ _ _)
  have h4 := nu_ok (sub_ok h 25 2) 2 (sub_le _ _ _)
  have h5 := (gn_eq h 27).2
  have h6 := (gn_eq h 29).2
  have h7 := (gn_eq h 31).2
  have h8 := (gn_eq h 33).2
  unfold rcand
  split
  · split
    · refine ⟨?_, ?_, ?_, ?_, ?_, ?_, ?_, ?_⟩ <;> simp only [rstR] <;> omega
    · refine ⟨?_, ?_, ?_, ?_, ?_, ?_, ?_, ?_⟩ <;> simp only [cfgR] <;> omega
  · exact kP_wf 2
theorem bp_ext {m n : Bp} (h1 : m.k = n.k) (h2 : m.tc = n.tc) (h3 : m.ak = n.ak) (h4 : m.pr = n.pr) (h5 : m.le = n.le) (h6 : m.fo = n.fo) (h7 : m.ag = n.ag) (h8 : m.ro = n.ro) (h9 : m.rt = n.rt) (h10 : m.co = n.co) (h11 : m.br = n.br) (h12 : m.po = n.po) (h13 : m.a = n.a) (h14 : m.x = n.x) (h15 : m.h = n.h) (h16 : m.d = n.d) : m = n := by
  cases m; cases n; simp_all
theorem rcand_eq {l : List Int} {m : Bp} (h : RdOk l m) : rcand l = m := by
  obtain ⟨hc, hh, hl⟩ := icand_eq h
  have hb : ∀ x ∈ l, 0 ≤ x ∧ x ≤ 255 := by rw [← h.eq]; exact mbytes_ok h.wf
  rcases ok_kind h.ok with h2 | h1 | h3
  · rw [h2] at hl
    unfold rcand
    rw [if_neg (by rw [hl]; decide), ok_tcn h.ok h2]
  · rw [h1] at hl hh
    have hl' : l.length = 35 := hl
    unfold icand at hc
    rw [hh, if_neg (by decide)] at hc
    have g2 : gn l 2 = 0 := by
      have e := h.eq
      unfold mbytes at e
      rw [if_neg (by omega), if_neg (by omega)] at e
      rw [← e]
      rfl
    have hk := h.ok
    unfold okB badC at hk
    rw [if_neg (by omega), if_pos h1] at hk
    simp at hk
    obtain ⟨p1, p2, p3, p4, p5⟩ := hk
    unfold rcand
    rw [if_pos (by omega), if_neg (by omega)]
    have f := nu1 (l := l) (k := 4) (by omega)
    have a1 := nu2 hb (k := 27) (by omega)
    have a2 := nu2 hb (k := 29) (by omega)
    have a3 := nu2 hb (k := 31) (by omega)
    have a4 := nu2 hb (k := 33) (by omega)
    unfold cand at hc
    rw [f, a1, a2, a3, a4] at hc
    refine bp_ext h1.symm ?_ ?_ p1.symm p2.symm p3.symm p4.symm p5.symm ?_ ?_ ?_ ?_ ?_ ?_ ?_ ?_ <;> rw [← hc] <;> rfl
  · rw [h3] at hl hh
    have hl' : l.length = 36 := hl
    unfold icand at hc
    rw [hh, if_neg (by decide)] at hc
    have g2 : gn l 2 = 2 := by
      have e := h.eq
      unfold mbytes at e
      rw [if_neg (by omega), if_pos h3] at e
      rw [← e]
      rfl
    have hk := h.ok
    unfold okB at hk
    rw [if_neg (by omega), if_neg (by omega), if_pos h3] at hk
    simp at hk
    unfold rcand
    rw [if_pos (by omega), if_pos g2]
    have f := nu1 (l := l) (k := 4) (by omega)
    have a1 := nu2 hb (k := 27) (by omega)
    have a2 := nu2 hb (k := 29) (by omega)
    have a3 := nu2 hb (k := 31) (by omega)
    have a4 := nu2 hb (k := 33) (by omega)
    unfold cand at hc
    rw [f, a1, a2, a3, a4] at hc
    refine bp_ext h3.symm ?_ hk.1.symm ?_ ?_ ?_ ?_ ?_ ?_ ?_ ?_ ?_ ?_ ?_ ?_ ?_ <;> rw [← hc] <;> rfl
theorem rr_no {l : List Int} {M : Bp} (h4 : 4 ≤ l.length) (hM : rcand l = M) (h : okB M = true → mbytes M = l → False) : RdOut l zeroP 50 :=
  .inr (.inr ⟨h4, fun n hn => by
    have e := rcand_eq hn
    rw [hM] at e
    subst e
    exact h hn.ok hn.eq, rfl, rfl⟩)

/-- A slice of bytes, cut at both ends. -/
theorem slS_sub (b o n c lo hi : Nat) (h1 : lo ≤ hi) (h2 : hi ≤ n) (hc : n ≤ c) (hm : c ≤ maxLen) (hlo : lo < n) (w : World) : (slS (.slice (some ⟨b, o, none⟩) n c) (some (.int .i64 (lo : Nat))) (some (.int .i64 (hi : Nat))) none).run Tryd.prog w = .ok (.slice (some ⟨b, o + lo, none⟩) (hi - lo) (c - lo)) w := by
  unfold slS maxLen at *
  have h3 : (lo : Int) ≤ (hi : Int) := by omega
  have h4 : (hi : Int) ≤ (c : Int) := by omega
  have h5 : ¬ c = lo := by omega
  go_simp
theorem src_sub {w : World} {b o n c : Nat} {l : List Int} (h : Src w (.slice (some ⟨b, o, none⟩) n c) l) (lo s : Nat) (h2 : lo + s ≤ n) : Src w (.slice (some ⟨b, o + lo, none⟩) s (c - lo)) (sub l lo s) := by
  have h1 := (src_drop h lo (by omega)).take s (by omega) (by simp)
  exact h1
/-- A message's vector and times, stored. -/
def withV (m : Bp) (r c b p : Nat) : Bp := ⟨m.k, m.tc, m.ak, m.pr, m.le, m.fo, m.ag, m.ro, r, c, b, p, m.a, m.x, m.h, m.d⟩
def withT (m : Bp) (a x h d : Nat) : Bp := ⟨m.k, m.tc, m.ak, m.pr, m.le, m.fo, m.ag, m.ro, m.rt, m.co, m.br, m.po, a, x, h, d⟩
theorem PvAt.stv {W : World} {b : Nat} {m : Bp} (h : PvAt W b m) (r c q p : Nat) : (stS 28 (.pointer (some ⟨b, 8, none⟩)) (.agg #[.int .u64 (r : Nat), .int .u32 (c : Nat), .int .u64 (q : Nat), .int .u16 (p : Nat)])).run Tryd.prog W = .ok () (W.setRow b (withV m r c q p).cs) := by
  have := store_cells (ty := 28) (o := 8) (cs := #[.int .u64 (r : Nat), .int .u32 (c : Nat), .int .u64 (q : Nat), .int .u16 (p : Nat)]) h (by exact info28) (by simp [Bp.cs]) (by intro v hv; simp at hv; rcases hv with rfl | rfl | rfl | rfl <;> rfl)
  rw [this]
  congr 2
theorem PvAt.stt {W : World} {b : Nat} {m : Bp} (h : PvAt W b m) (a x g d : Nat) : (stS 30 (.pointer (some ⟨b, 12, none⟩)) (.agg #[.int .u8 (a : Nat), .int .u8 (x : Nat), .int .u8 (g : Nat), .int .u8 (d : Nat)])).run Tryd.prog W = .ok () (W.setRow b (withT m a x g d).cs) := by
  have := store_cells (ty := 30) (o := 12) (cs := #[.int .u8 (a : Nat), .int .u8 (x : Nat), .int .u8 (g : Nat), .int .u8 (d : Nat)]) h (by exact info30) (by simp [Bp.cs]) (by intro v hv; simp at hv; rcases hv with rfl | rfl | rfl | rfl <;> rfl)
  rw [this]
  congr 2
end Go.Proofs.YtfpoopllkmnagaaDoor
