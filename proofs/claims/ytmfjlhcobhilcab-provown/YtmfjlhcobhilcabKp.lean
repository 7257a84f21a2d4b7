/-
  What is provisioned stays as it was where a variable of what is provisioned is stored into. Plain laws.
-/
import Derived.Test.YtmfjlhcobhilcabLw
namespace Go.Proofs.Ytmfjlhcobhilcab
set_option linter.unusedVariables false
set_option maxRecDepth 4000
set_option linter.unusedSimpArgs false
open Go.RowKit
attribute [local go_sem ↓] ldM stM ldC stC ldB stB ldP stP apI bsI
attribute [local go_sem] bsI_is bsI2_is

theorem RvAt.get {W : World} {b : Nat} {ty : TypeId} {cs : Array Value} (h : RvAt W b ty cs) (k : Nat) : W.cell? ⟨b, k, none⟩ = cs[k]? := by
  have h' : W.heap[b]? = some (.cells cs ty (0, 0)) := h
  simp [World.cell?, h']
theorem SlAt.keptV {α : Type} {e : El α} (k : e.Ok) (hf : ∀ u : α, ∃ v, (e.f u)[0]? = some (.int .i64 v)) {W W' : World} {a : Option Addr} {n c g : Nat} {l : List α} {ty : TypeId} {cs : Array Value} (h : SlAt e W a n c l) (hr : RvAt W g ty cs) (hcs : ∀ (j : Nat) (v : Int), cs[j]? ≠ some (.int .i64 v)) (hg : W.grownBy W' (some g)) : SlAt e W' a n c l := by
  refine ⟨h.len, h.cap, h.max, h.nil, fun y hy h0 => ?_⟩
  obtain ⟨b, o, e', hc⟩ := h.cells y hy h0
  have hl : 0 < l.length := by rw [h.len]; exact h0
  obtain ⟨v, hv⟩ := hf l[0]
  have h1 := El.fl_at k (i := 0) (j := 0) (List.getElem?_eq_getElem hl) hv
  rw [Nat.zero_mul, Nat.zero_add] at h1
  have h2 := hc 0 _ h1
  have hne : b ≠ g := by
    intro e2
    subst e2
    rw [hr.get] at h2
    exact hcs _ _ h2
  refine ⟨b, o, e', fun j u hj => ?_⟩
  have h3 := hc j u hj
  have hb : b < W.heap.size := by
    rcases Nat.lt_or_ge b W.heap.size with h4 | h4
    · exact h4
    · simp [World.cell?, Array.getElem?_eq_none h4] at h3
  have hb2 := hg.block b hb (by simpa using hne)
  rw [← h3]
  unfold World.cell?
  rw [hb2]
theorem pr_no {W : World} {z : Pr} {pz : Pv} (h : IsPv W z pz) : ∀ (j : Nat) (v : Int), z.cs[j]? ≠ some (.int .i64 v) := by
  obtain ⟨_, _, _, h1, _⟩ := h.k
  obtain ⟨_, _, _, h2, _⟩ := h.m
  obtain ⟨_, _, _, h3, _⟩ := h.c
  obtain ⟨_, ⟨_, _, _, h4, _⟩, _⟩ := h.b
  intro j v hj
  have hl : j < 10 := (Array.getElem?_eq_some_iff.1 hj).1
  match j, hl, hj with
  | 0, _, hj => simp [Pr.cs] at hj
  | 1, _, hj => simp [Pr.cs] at hj
  | 2, _, hj => simp [Pr.cs] at hj
  | 3, _, hj => simp [Pr.cs] at hj
  | 4, _, hj => simp [Pr.cs] at hj
  | 5, _, hj => simp [Pr.cs] at hj
  | 6, _, hj => simp [Pr.cs, h1] at hj
  | 7, _, hj => simp [Pr.cs, h2] at hj
  | 8, _, hj => simp [Pr.cs, h3] at hj
  | 9, _, hj => simp [Pr.cs, h4] at hj
theorem IsPv.keptV {W W' : World} {x z : Pr} {p pz : Pv} {g : Nat} (h : IsPv W x p) (hr : PrAt W g z) (hz : IsPv W z pz) (hg : W.grownBy W' (some g)) : IsPv W' x p := by
  have hn := pr_no hz
  obtain ⟨a1, n1, c1, e1, s1⟩ := h.k
  obtain ⟨a2, n2, c2, e2, s2⟩ := h.m
  obtain ⟨a3, n3, c3, e3, s3⟩ := h.c
  obtain ⟨r, ⟨a4, n4, c4, e4, s4⟩, m4⟩ := h.b
  exact ⟨h.o, h.wf, ⟨a1, n1, c1, e1, s1.keptV kK (fun u => ⟨u, rfl⟩) hr hn hg⟩, ⟨a2, n2, c2, e2, s2.keptV kM (fun u => ⟨u.p, rfl⟩) hr hn hg⟩, ⟨a3, n3, c3, e3, s3.keptV kC (fun u => ⟨u.s, rfl⟩) hr hn hg⟩, r, ⟨a4, n4, c4, e4, s4.keptV kB (fun u => ⟨u.v, rfl⟩) hr hn hg⟩, m4.len, fun i a b ha hb => ⟨(m4.at' i a b ha hb).1, (m4.at' i a b ha hb).2.keptV kI (fun u => ⟨u, rfl⟩) hr hn hg⟩⟩
/-- A bool that says whether it is so. -/
theorem tell_is {P : Prop} : ∃ T : Bool, T = true ↔ P := by
  by_cases h : P
  · exact ⟨true, fun _ => h, fun _ => rfl⟩
  · exact ⟨false, (fun e => by cases e), fun e => absurd e h⟩
theorem TellB.is {r : Ending} {P : Prop} {T : Bool} (h : TellB r P) (hT : T = true ↔ P) : r = .returned (.bool T) := by
  obtain ⟨R, hr, hR⟩ := h
  rw [hr]
  exact ret_bool (by rw [Bool.eq_iff_iff, hR, hT])
end Go.Proofs.Ytmfjlhcobhilcab
