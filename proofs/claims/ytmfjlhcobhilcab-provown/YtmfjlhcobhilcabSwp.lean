/-
  What is provisioned stays so where a slice in a variable is replaced by another that holds the same. Plain laws.
-/
import Derived.Test.YtmfjlhcobhilcabKp
namespace Go.Proofs.Ytmfjlhcobhilcab
set_option linter.unusedVariables false
set_option maxRecDepth 4000
set_option linter.unusedSimpArgs false
open Go.RowKit

/-- Cell k of variable g held one slice, now it holds another; nothing else changed. -/
structure Swap (W W' : World) (g k : Nat) (H H' : Value) : Prop where
  here : W.cell? ⟨g, k, none⟩ = some H
  now : W'.cell? ⟨g, k, none⟩ = some H'
  keep : ∀ b o u, ¬ (b = g ∧ o = k) → W.cell? ⟨b, o, none⟩ = some u → W'.cell? ⟨b, o, none⟩ = some u
theorem Swap.of {W W' : World} {g k : Nat} {H H' : Value} {ty : TypeId} {cs cs' : Array Value} (r : RvAt W g ty cs) (r' : RvAt W' g ty cs') (hg : W.grownBy W' (some g)) (hk : cs[k]? = some H) (hk' : cs'[k]? = some H') (ho : ∀ j, j ≠ k → cs'[j]? = cs[j]?) : Swap W W' g k H H' := by
  refine ⟨by rw [r.get]; exact hk, by rw [r'.get]; exact hk', fun b o u hne h => ?_⟩
  by_cases hb : b = g
  · subst hb
    rw [r.get] at h
    rw [r'.get, ho o (fun e => hne ⟨rfl, e⟩)]
    exact h
  · exact hg.cell h (by simpa using hb)
theorem SlAt.swap {α : Type} {e : El α} (k : e.Ok) (hf : ∀ (u : α) (j : Nat) (v : Value), (e.f u).toList[j]? = some v → ∃ kd z, v = .int kd z) {W W' : World} {g q : Nat} {x : Option Addr} {m d : Nat} {H' : Value} (sw : Swap W W' g q (.slice x m d) H') {a : Option Addr} {n c : Nat} {l : List α} (h : SlAt e W a n c l) : SlAt e W' a n c l := by
  refine ⟨h.len, h.cap, h.max, h.nil, fun y hy h0 => ?_⟩
  obtain ⟨b, o, e', hc⟩ := h.cells y hy h0
  refine ⟨b, o, e', fun j u hj => ?_⟩
  refine sw.keep _ _ _ (fun hh => ?_) (hc j u hj)
  have h1 := hc j u hj
  rw [hh.1, hh.2, sw.here] at h1
  rw [El.fl_get k] at hj
  obtain ⟨p, _, hp⟩ := Option.bind_eq_some_iff.1 hj
  obtain ⟨kd, z, hz⟩ := hf p _ _ hp
  rw [hz] at h1
  cases h1
theorem int_I (u : Int) (j : Nat) (v : Value) (h : (eI.f u).toList[j]? = some v) : ∃ kd z, v = .int kd z := by
  match j, h with
  | 0, h => exact ⟨_, _, (Option.some.inj h).symm⟩
theorem int_K (u : Int) (j : Nat) (v : Value) (h : (eK.f u).toList[j]? = some v) : ∃ kd z, v = .int kd z := by
  match j, h with
  | 0, h => exact ⟨_, _, (Option.some.inj h).symm⟩
theorem int_M (u : Mp) (j : Nat) (v : Value) (h : (eM.f u).toList[j]? = some v) : ∃ kd z, v = .int kd z := by
  match j, h with
  | 0, h => exact ⟨_, _, (Option.some.inj h).symm⟩
  | 1, h => exact ⟨_, _, (Option.some.inj h).symm⟩
  | 2, h => exact ⟨_, _, (Option.some.inj h).symm⟩
theorem int_C (u : Cr) (j : Nat) (v : Value) (h : (eC.f u).toList[j]? = some v) : ∃ kd z, v = .int kd z := by
  match j, h with
  | 0, h => exact ⟨_, _, (Option.some.inj h).symm⟩
  | 1, h => exact ⟨_, _, (Option.some.inj h).symm⟩
theorem fl_two (u : Mr) (j : Nat) (v : Value) (h : (eB.f u).toList[j]? = some v) : (j = 0 ∧ v = .int .i64 u.v) ∨ (j = 1 ∧ v = .slice u.a u.n u.c) := by
  match j, h with
  | 0, h => exact Or.inl ⟨rfl, (Option.some.inj h).symm⟩
  | 1, h => exact Or.inr ⟨rfl, (Option.some.inj h).symm⟩
theorem rows_swap {W W' : World} {g q : Nat} {x x' : Option Addr} {m d m' d' : Nat} (sw : Swap W W' g q (.slice x m d) (.slice x' m' d')) (hs : ∀ ps : List Int, ps.length ≤ 8 → SlAt eI W x m d ps → SlAt eI W' x' m' d' ps)
    {a : Option Addr} {n c : Nat} {r : List Mr} {l : List Mb} (h : SlAt eB W a n c r) (hm : Mem W r l) (hl : ∀ z ∈ l, z.ps.length ≤ 8) : ∃ r', SlAt eB W' a n c r' ∧ Mem W' r' l := by
  by_cases hit : ∃ o i, a = some ⟨g, o, none⟩ ∧ o + (i * 2 + 1) = q ∧ i < n
  · obtain ⟨o, i, rfl, hq, hi⟩ := hit
    obtain ⟨u, z, hu, hz, huz, hps⟩ := hm.get (i := i) (by rw [← hm.len, h.len]; exact hi)
    have hcell : W.cell? ⟨g, o + i * 2 + 1, none⟩ = some (.slice u.a u.n u.c) := lB1 h hu
    rw [show o + i * 2 + 1 = q by omega, sw.here] at hcell
    have hh := Option.some.inj hcell
    cases hh
    have hps' := hs z.ps (hl z (List.mem_of_getElem? hz)) hps
    have hil : i < r.length := by rw [h.len]; exact hi
    refine ⟨r.set i ⟨u.v, x', m', d'⟩, ⟨by rw [List.length_set]; exact h.len, h.cap, h.max, h.nil, fun y hy h0 => ?_⟩, by rw [List.length_set]; exact hm.len, fun j s t hs' ht => ?_⟩
    · cases hy
      obtain ⟨b, o', e', hc⟩ := h.cells _ rfl h0
      cases e'
      refine ⟨g, o, rfl, fun j v hj => ?_⟩
      rw [El.fl_get kB] at hj
      obtain ⟨s, hs1, hs2⟩ := Option.bind_eq_some_iff.1 hj
      have hK : eB.K = 2 := rfl
      rw [hK] at hs1 hs2
      rw [List.getElem?_set] at hs1
      by_cases hji : i = j / 2
      · rw [if_pos hji, if_pos hil] at hs1
        cases hs1
        rcases fl_two _ _ _ hs2 with ⟨h2, rfl⟩ | ⟨h2, rfl⟩
        · refine sw.keep _ _ _ (fun e => by omega) (hc j _ ?_)
          rw [El.fl_get kB, hK, ← hji, hu, h2]
          rfl
        · rw [show o + j = q by omega]
          exact sw.now
      · rw [if_neg hji] at hs1
        refine sw.keep _ _ _ (fun e => ?_) (hc j v ?_)
        · have := fl_two _ _ _ hs2
          have h1 := hc j v (by rw [El.fl_get kB, hK, hs1]; exact hs2)
          rw [e.2, sw.here] at h1
          rcases this with ⟨h2, rfl⟩ | ⟨h2, rfl⟩
          · cases h1
          · omega
        · rw [El.fl_get kB, hK, hs1]
          exact hs2
    · rw [List.getElem?_set] at hs'
      by_cases hji : i = j
      · subst hji
        rw [if_pos rfl, if_pos hil] at hs'
        cases hs'
        rw [hz] at ht
        cases ht
        exact ⟨huz, hps'⟩
      · rw [if_neg hji] at hs'
        obtain ⟨e1, e2⟩ := hm.at' j s t hs' ht
        exact ⟨e1, e2.swap kI int_I sw⟩
  · refine ⟨r, ⟨h.len, h.cap, h.max, h.nil, fun y hy h0 => ?_⟩, hm.len, fun j s t hs' ht => ⟨(hm.at' j s t hs' ht).1, (hm.at' j s t hs' ht).2.swap kI int_I sw⟩⟩
    obtain ⟨b, o, e', hc⟩ := h.cells y hy h0
    refine ⟨b, o, e', fun j v hj => sw.keep _ _ _ (fun e => ?_) (hc j v hj)⟩
    have h1 := hc j v hj
    rw [e.1, e.2, sw.here] at h1
    rw [El.fl_get kB] at hj
    obtain ⟨s, hs1, hs2⟩ := Option.bind_eq_some_iff.1 hj
    have hK : eB.K = 2 := rfl
    rw [hK] at hs1 hs2
    have hlt := (List.getElem?_eq_some_iff.1 hs1).1
    rcases fl_two _ _ _ hs2 with ⟨h2, rfl⟩ | ⟨h2, rfl⟩
    · cases h1
    · exact hit ⟨o, j / 2, by rw [hy, e', e.1], by have := e.2; omega, by rw [← h.len]; exact hlt⟩
theorem IsPv.swap {W W' : World} {g q : Nat} {x x' : Option Addr} {m d m' d' : Nat} (sw : Swap W W' g q (.slice x m d) (.slice x' m' d')) (hs : ∀ ps : List Int, ps.length ≤ 8 → SlAt eI W x m d ps → SlAt eI W' x' m' d' ps) {z : Pr} {p : Pv} (h : IsPv W z p) (hl : ∀ b ∈ p.bs, b.ps.length ≤ 8) : IsPv W' z p := by
  obtain ⟨a1, n1, c1, e1, s1⟩ := h.k
  obtain ⟨a2, n2, c2, e2, s2⟩ := h.m
  obtain ⟨a3, n3, c3, e3, s3⟩ := h.c
  obtain ⟨r, ⟨a4, n4, c4, e4, s4⟩, m4⟩ := h.b
  obtain ⟨r', s4', m4'⟩ := rows_swap sw hs s4 m4 hl
  exact ⟨h.o, h.wf, ⟨a1, n1, c1, e1, s1.swap kK int_K sw⟩, ⟨a2, n2, c2, e2, s2.swap kM int_M sw⟩, ⟨a3, n3, c3, e3, s3.swap kC int_C sw⟩, r', ⟨a4, n4, c4, e4, s4'⟩, m4'⟩
end Go.Proofs.Ytmfjlhcobhilcab
