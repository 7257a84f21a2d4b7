/-
  What one service's entries are, and what calls make of them: plain laws.
-/
import Derived.Test.YtoelpbajaadfeaaLFd
namespace Go.Proofs.Ytoelpbajaadfeaa
set_option linter.unusedVariables false
set_option maxRecDepth 4000
set_option linter.unusedSimpArgs false
open Go.RowKit

def cA : Cf := ⟨256, 100⟩
theorem cA_ok : okC cA = true := by decide
/-- Is it of that service? -/
def ofS (one : Int) (x : En) : Bool := decide (x.k.vid = one)
theorem ap_flush (la : List En) (one s : Int) : ((remS la (flushSh [s])).1).filter (ofS one) = if s = one then (remS (la.filter (ofS one)) (flushSh [s])).1 else la.filter (ofS one) := by
  unfold remS
  show (la.filter (fun x => !flushSh [s] x)).filter (ofS one) = if s = one then (la.filter (ofS one)).filter (fun x => !flushSh [s] x) else la.filter (ofS one)
  rw [List.filter_filter]
  split
  · rw [List.filter_filter]
    exact List.filter_congr (fun x _ => Bool.and_comm _ _)
  · next h =>
    refine List.filter_congr (fun x _ => ?_)
    by_cases hx : x.k.vid = one
    · have : flushSh [s] x = false := by simp only [flushSh, List.mem_singleton]; exact decide_eq_false (fun e => h (by rw [← e, hx]))
      simp [ofS, hx, this]
    · simp [ofS, hx]
theorem ap_put {la : List En} (hs : Srt la) (hw : Wfs la) {e : En} (he : e.k.wf) (one : Int) : (put la e).filter (ofS one) = if e.k.vid = one then put (la.filter (ofS one)) e else la.filter (ofS one) := by
  split
  · next h =>
    refine srt_ext ((hs.put e).filter _) ((hs.filter _).put e) (fun x => ?_)
    rw [List.mem_filter, mem_put hs, mem_put (hs.filter _), List.mem_filter]
    constructor
    · rintro ⟨rfl | ⟨h1, h2⟩, h3⟩
      · exact .inl rfl
      · exact .inr ⟨⟨h1, h3⟩, h2⟩
    · rintro (rfl | ⟨⟨h1, h3⟩, h2⟩)
      · exact ⟨.inl rfl, by simp [ofS, h]⟩
      · exact ⟨.inr ⟨h1, h2⟩, h3⟩
  · next h =>
    refine srt_ext ((hs.put e).filter _) (hs.filter _) (fun x => ?_)
    rw [List.mem_filter, mem_put hs, List.mem_filter]
    constructor
    · rintro ⟨rfl | ⟨h1, h2⟩, h3⟩
      · exact absurd (of_decide_eq_true h3) h
      · exact ⟨h1, h3⟩
    · rintro ⟨h1, h3⟩
      refine ⟨.inr ⟨h1, fun e2 => h ?_⟩, h3⟩
      have := Ky.inj (hw x h1).k he e2
      rw [← this]
      exact of_decide_eq_true h3
/-- Two bases, the second with one service's entries. -/
structure Ap (la lb : List En) (one : Int) (i : Nat) : Prop where
  eq : lb = la.filter (ofS one)
  len : la.length ≤ i
theorem Ap.lenb {la lb : List En} {one : Int} {i : Nat} (h : Ap la lb one i) : lb.length ≤ i := by
  rw [h.eq]
  exact Nat.le_trans (List.length_filter_le _ _) h.len
theorem learn_room {l : List En} {e : En} (h : l.length < 256) : learnS cA l e = if mayOf e = true then (put l e, 0) else (l, 80) := by
  have : putS cA.room l e = put l e := by
    unfold putS
    rw [if_pos (.inr (by show (l.length : Int) < 256; omega))]
  unfold learnS
  rw [this]
theorem Ap.learn {la lb : List En} {one : Int} {i : Nat} (h : Ap la lb one i) (hi : i < 60) (hs : Srt la) (hw : Wfs la) {e : En} (he : e.k.wf) :
    Ap (learnS cA la e).1 (if e.k.vid = one then (learnS cA lb e).1 else lb) one (i + 1) := by
  have h1 := h.len
  have h2 := h.lenb
  rw [learn_room (l := la) (by omega), learn_room (l := lb) (by omega)]
  by_cases hm : mayOf e = true
  · simp only [hm, if_true]
    refine ⟨?_, Nat.le_trans (length_put_le hs e) (by omega)⟩
    rw [ap_put hs hw he one, h.eq]
  · simp only [hm]
    refine ⟨?_, ?_⟩
    · show (if e.k.vid = one then lb else lb) = la.filter (ofS one)
      split <;> exact h.eq
    · show la.length ≤ i + 1
      omega
theorem Ap.flush {la lb : List En} {one : Int} {i : Nat} (h : Ap la lb one i) (s : Int) : Ap (remS la (flushSh [s])).1 (if s = one then (remS lb (flushSh [s])).1 else lb) one (i + 1) := by
  refine ⟨?_, ?_⟩
  · rw [ap_flush, h.eq]
  · have h1 := h.len
    have : (remS la (flushSh [s])).1.length ≤ la.length := List.length_filter_le _ _
    omega
/-- A field of a call's variable, stored. -/
theorem RvAt.oset {W : World} {b : Nat} {o : Oq} (h : RvAt W b 40 o.cs) (s : Int) : RvAt (W.setCell ⟨b, 1, none⟩ (.int .i64 s)) b 40 ({ o with isid := s } : Oq).cs ∧ W.grownBy (W.setCell ⟨b, 1, none⟩ (.int .i64 s)) (some b) := by
  unfold RvAt at h ⊢
  constructor
  · simp [World.setCell, h, Array.getElem?_modify, Oq.cs]
  · refine ⟨rfl, rfl, rfl, by simp, fun i hi hne => ?_⟩
    exact RowKit.Below.heap_setCell _ _ _ _ (fun e => hne (by rw [e]))
theorem RvAt.fz {W : World} {b : Nat} {ty : TypeId} {cs : Array Value} (h : RvAt W b ty cs) (o : Nat) : W.frozen? ⟨b, o, none⟩ = false := by
  unfold RvAt at h
  simp [World.frozen?, h]
end Go.Proofs.Ytoelpbajaadfeaa
