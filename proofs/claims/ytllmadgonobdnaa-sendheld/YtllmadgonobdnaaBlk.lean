/-
  A block of the call's own that holds ports: what is stored through a pointer into it. Plain laws over the program's types.
-/
import Derived.Test.YtllmadgonobdnaaPtT
namespace Go.Proofs.Ytllmadgonobdnaa
set_option linter.unusedVariables false
set_option maxRecDepth 4000
set_option linter.unusedSimpArgs false
open Go.RowKit

/-- Block g holds the ports l, and has room for c. -/
def PAt (W : World) (g c : Nat) (l : List Pt) : Prop :=
  ∃ cur : Array Value, RvAt W g 53 cur ∧ l.length ≤ c ∧ c ≤ maxLen ∧ cur.size = c * 77 ∧ cur.toList.take (l.length * 77) = l.flatMap Row.cl
theorem PAt.lt {W : World} {g c : Nat} {l : List Pt} (h : PAt W g c l) : g < W.heap.size := by
  obtain ⟨cur, hb, _⟩ := h
  exact hb.lt
theorem PAt.own {W : World} {g c B : Nat} {l : List Pt} (h : PAt W g c l) (hB : B ≤ g) : Own W B (.slice (some ⟨g, 0, none⟩) l.length c) l := by
  obtain ⟨cur, hb, h1, h2, h3, h4⟩ := h
  exact ⟨flat_len l, Or.inr ⟨g, c, cur, rfl, hB, hb, h1, h2, h3, h4⟩⟩
theorem PAt.sl {W : World} {g c : Nat} {l : List Pt} (h : PAt W g c l) : SlAt W (some ⟨g, 0, none⟩) l.length c l := by
  obtain ⟨a, c', e, hs, _⟩ := (h.own (Nat.zero_le _)).form
  cases e
  exact hs
theorem Own.pat {W : World} {B : Nat} {v : Value} {l : List Pt} (h : Own W B v l) : (v = .slice none 0 0 ∧ l = []) ∨ ∃ g c, v = .slice (some ⟨g, 0, none⟩) l.length c ∧ B ≤ g ∧ PAt W g c l := by
  rcases h.2 with ⟨rfl, h0⟩ | ⟨g, cap, cur, rfl, hB, hb, h1, h2, h3, h4⟩
  · exact Or.inl ⟨rfl, List.eq_nil_of_length_eq_zero h0⟩
  · exact Or.inr ⟨g, cap, rfl, hB, cur, hb, h1, h2, h3, h4⟩
theorem PAt.keptBut {W W' : World} {g c : Nat} {l : List Pt} {row : Option Nat} (h : PAt W g c l) (hg : W.grownBy W' row) (hn : some g ≠ row) : PAt W' g c l := by
  obtain ⟨cur, hb, hr⟩ := h
  exact ⟨cur, hb.keptBut hg hn, hr⟩
theorem PAt.below {W W' : World} {g c : Nat} {l : List Pt} (h : PAt W g c l) (hb : Below W.heap.size W W') : PAt W' g c l := by
  obtain ⟨cur, h1, hr⟩ := h
  exact ⟨cur, h1.below hb, hr⟩
theorem PAt.num {W : World} {g c i j q : Nat} {k : IntKind} {l : List Pt} {p : Pt} (h : PAt W g c l) (hp : l[i]? = some p) (hk : kdP[j]? = some (some k)) (hq : q = i * 77 + j) : W.cell? ⟨g, q, none⟩ = some (.int k (p.nm j)) := by
  have hj : j < 77 := by rw [← lenP]; exact (List.getElem?_eq_some_iff.1 hk).1
  have := h.sl.cell hp (p.num hk) hj
  rw [Nat.zero_add] at this
  rw [hq]
  exact this
theorem PAt.bit {W : World} {g c i j q : Nat} {l : List Pt} {p : Pt} (h : PAt W g c l) (hp : l[i]? = some p) (hk : kdP[j]? = some none) (hq : q = i * 77 + j) : W.cell? ⟨g, q, none⟩ = some (.bool (p.bt j)) := by
  have hj : j < 77 := by rw [← lenP]; exact (List.getElem?_eq_some_iff.1 hk).1
  have := h.sl.cell hp (p.bit hk) hj
  rw [Nat.zero_add] at this
  rw [hq]
  exact this
theorem PAt.ld {W : World} {g c i q : Nat} {l : List Pt} {p : Pt} (h : PAt W g c l) (hp : l[i]? = some p) (hq : q = i * 77) : (ldS 53 (.pointer (some ⟨g, q, none⟩))).run Try.prog W = .ok (.agg p.cs) W := by
  have := h.sl.ld hp
  rw [Nat.zero_add] at this
  rw [hq]
  exact this
theorem flat_is {X : List Value} {l : List Pt} (hl : l.length * 77 ≤ X.length) (h : ∀ t, t < l.length * 77 → X[t]? = (l[t / 77]?).bind (fun x => x.cl[t % 77]?)) : X.take (l.length * 77) = l.flatMap Row.cl := by
  refine List.ext_getElem? fun t => ?_
  rw [List.getElem?_take]
  split
  · rename_i ht
    rw [h t ht, flat_get]
  · rw [List.getElem?_eq_none (by rw [flat_len]; omega)]
theorem take_at {X : List Value} {l : List Pt} (h : X.take (l.length * 77) = l.flatMap Row.cl) {t : Nat} (ht : t < l.length * 77) : X[t]? = (l[t / 77]?).bind (fun x => x.cl[t % 77]?) := by
  rw [← flat_get, ← h, List.getElem?_take, if_pos ht]
theorem PAt.st1 {W : World} {g c i j q : Nat} {tv : TypeId} {l : List Pt} {p : Pt} {v : Value} (h : PAt W g c l) (hp : l[i]? = some p) (hi : (Try.prog.info? tv).map (·.size) = some 1) (hj : j < 77) (hv : v.oneCell' = true) (hf : ∀ k, kdP[j]? = some k → Fit k v) (hq : q = i * 77 + j) :
    ∃ W', (stS tv (.pointer (some ⟨g, q, none⟩)) v).run Try.prog W = .ok () W' ∧ PAt W' g c (l.set i (p.set j v hf)) ∧ W.grownBy W' (some g) := by
  obtain ⟨cur, hb, h1, h2, h3, h4⟩ := h
  subst hq
  have hil : i < l.length := (List.getElem?_eq_some_iff.1 hp).1
  have hpl := p.len
  refine ⟨_, hb.st1 hi (by rw [h3]; omega) hv, ⟨_, hb.set, by rw [List.length_set]; exact h1, h2, by simp [h3], ?_⟩, ⟨rfl, rfl, rfl, by simp, fun k hk hne => setRow_other W g k _ (fun e => hne (by rw [e]))⟩⟩
  have e : (l.set i (p.set j v hf)).length = l.length := List.length_set ..
  refine flat_is (by simp [h3]; omega) fun t ht => ?_
  rw [e] at ht
  show ((cur.toList.set (i * 77 + j) v))[t]? = _
  rw [List.getElem?_set, List.getElem?_set]
  by_cases ht1 : i * 77 + j = t
  · rw [if_pos ht1, if_pos (by rw [Array.length_toList]; omega), if_pos (by omega), if_pos hil]
    show some v = (p.cl.set j v)[t % 77]?
    rw [show t % 77 = j by omega, List.getElem?_set, if_pos rfl, if_pos (by omega)]
  · rw [if_neg ht1, take_at h4 ht]
    by_cases hti : i = t / 77
    · rw [if_pos hti, if_pos hil, ← hti, hp]
      show p.cl[t % 77]? = (p.cl.set j v)[t % 77]?
      rw [List.getElem?_set, if_neg (by omega)]
    · rw [if_neg hti]
theorem PAt.stp {W : World} {g c i q : Nat} {l : List Pt} {p : Pt} (h : PAt W g c l) (hil : i < l.length) (hq : q = i * 77) :
    ∃ W', (stS 53 (.pointer (some ⟨g, q, none⟩)) (.agg p.cs)).run Try.prog W = .ok () W' ∧ PAt W' g c (l.set i p) ∧ W.grownBy W' (some g) := by
  obtain ⟨cur, hb, h1, h2, h3, h4⟩ := h
  subst hq
  have hps : p.cs.size = 77 := by rw [Row.csize, lenP]
  have hpl := p.len
  have hs := store_cells (ty := 53) (o := i * 77) (cs := p.cs) hb (by rw [hps]; exact infoP) (by omega) p.one'
  refine ⟨_, hs, ⟨_, hb.set, by rw [List.length_set]; exact h1, h2, by simp [hps, h3]; omega, ?_⟩, ⟨rfl, rfl, rfl, by simp, fun k hk hne => setRow_other W g k _ (fun e => hne (by rw [e]))⟩⟩
  have e : (l.set i p).length = l.length := List.length_set ..
  refine flat_is (by simp [hps, h3]; omega) fun t ht => ?_
  rw [e] at ht
  show ((cur.toList.take (i * 77) ++ p.cs.toList ++ cur.toList.drop (i * 77 + p.cs.size)))[t]? = _
  rw [hps, List.getElem?_set]
  have hcl : cur.toList.length = c * 77 := by rw [Array.length_toList, h3]
  have e1 : (cur.toList.take (i * 77)).length = i * 77 := by rw [List.length_take]; omega
  have e2 : p.cs.toList = p.cl := by simp [Row.cs]
  rw [e2]
  by_cases hti : i = t / 77
  · rw [if_pos hti, if_pos hil]
    rw [List.getElem?_append_left (by rw [List.length_append, e1, hpl]; omega), List.getElem?_append_right (by rw [e1]; omega), e1]
    show p.cl[t - i * 77]? = p.cl[t % 77]?
    rw [show t - i * 77 = t % 77 by omega]
  · rw [if_neg hti, ← take_at h4 ht]
    by_cases h0 : t < i * 77
    · rw [List.append_assoc, List.getElem?_append_left (by rw [e1]; exact h0), List.getElem?_take, if_pos h0]
    · rw [List.getElem?_append_right (by rw [List.length_append, e1, hpl]; omega), List.length_append, e1, hpl, List.getElem?_drop]
      rw [show i * 77 + 77 + (t - (i * 77 + 77)) = t by omega]
theorem grown_new {W W' V : World} {b : Nat} (h : Below W.heap.size W W') (k : W'.grownBy V (some b)) (hb : W.heap.size ≤ b) : Below W.heap.size W V := h.trans (below_of_grown k h.size (fun j e => by cases e; exact hb))
end Go.Proofs.Ytllmadgonobdnaa
