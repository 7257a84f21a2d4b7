/-
  Bytes and calls that are handed in; closed facts of the program.
-/
import Derived.Test.YtoojoiindfgoeaaQq
import Derived.Handy
import Derived.OpenShut
import Derived.ChangeSlices
import Derived.ShutString
import Derived.ChangeOld
import Derived.Deep.Slices
namespace Go.Proofs.Ytoojoiindfgoeaa
set_option linter.unusedVariables false
set_option maxRecDepth 4000
open Go.ChangeShapes Go.WideShapes Go.ChangeAt Go.RowKit

theorem laidOut : laidOutB Try.prog = true := by kernel_rfl
theorem own : ownKnob Try.prog.godebug = none := by kernel_rfl
theorem cells_at {W : World} {base : Nat} {a : Addr} {n : Nat} {cs : List Value} (h : W.cells? base a n = some cs) (j : Nat) (x : Value) (hj : cs[j]? = some x) : W.cell? (a.add j) = some x := by
  unfold World.cells? at h
  split at h
  · have hl := mapM_some_length h
    rw [List.length_range] at hl
    have hjn : j < n := by rw [← hl]; exact (List.getElem?_eq_some_iff.1 hj).1
    have := mapM_some_get h j j (by rw [List.getElem?_range hjn])
    rw [this]
    exact hj
  · cases h
theorem open_tr {α : Type} [Inhabited α] {e : El α} (ke : e.Ok) (hK : Try.prog.cellsOf e.ty = e.K) (P : α → Prop) {H : Type} {enc : TypeId × Value → H} {W : World} {v : Value} {fuel : Nat} {r0 : DataW H × List MemPlace}
    (hel0 : ∀ (m : Nat) (cs : List Value) (r : DataW H × List MemPlace), DataW.trod enc Try.prog W 0 (fun _ => true) true m e.ty cs = some r → ∃ u : α, P u ∧ cs = (e.f u).toList)
    (hf : DataW.trod enc Try.prog W 0 (fun _ => true) true fuel e.st [v] = some r0) :
    ∃ (a : Option Addr) (n c : Nat) (l : List α), v = .slice a n c ∧ SlAt e W a n c l ∧ ∀ u ∈ l, P u := by
  rcases Go.Deep.open_slice ke.slc hf with ⟨hcs, _⟩ | ⟨a, len, cap, m, k, D, Pl, hcs, _, hl, hm, hmm, _, hel⟩
  · simp at hcs
    exact ⟨none, 0, 0, [], hcs, SlAt.none' W, by simp⟩
  · simp at hcs
    have hmm' : m = cap := by simpa using hmm
    have key : ∀ i, i < len → ∃ u : α, P u ∧ ∀ j x, (e.f u).toList[j]? = some x → W.cell? ((a.add (i * e.K)).add j) = some x := by
      intro i hi
      obtain ⟨cs', h1, h2⟩ := hel i (by omega)
      rw [hK] at h1
      obtain ⟨u, hu, rfl⟩ := hel0 k cs' _ h2
      exact ⟨u, hu, fun j x hj => cells_at h1 j x hj⟩
    obtain ⟨V, hV⟩ := Go.Deep.choose_lt key
    refine ⟨some a, len, cap, (List.range len).map V, hcs, ⟨by simp, hl, hm, (fun e => by cases e), fun x e' h0 => ?_⟩, fun u hu => ?_⟩
    · cases e'
      have hp := ke.pos
      have hs0 : 0 < (e.f (V 0)).toList.length := by rw [ke.len]; exact hp
      have hc := (hV 0 h0).2 0 _ (List.getElem?_eq_getElem hs0)
      obtain ⟨b, o, sp⟩ := a
      have hsp : sp = none := by simpa [Addr.add] using World.cell?_spot hc
      subst hsp
      refine ⟨b, o, rfl, fun j u hj => ?_⟩
      rw [El.fl_get ke] at hj
      obtain ⟨p, hp', hu⟩ := Option.bind_eq_some_iff.1 hj
      have hjl : j / e.K < len := by
        have := (List.getElem?_eq_some_iff.1 hp').1
        simpa using this
      have hpe : p = V (j / e.K) := by
        rw [List.getElem?_map, List.getElem?_range hjl] at hp'
        simpa using hp'.symm
      subst hpe
      have := (hV (j / e.K) hjl).2 (j % e.K) u hu
      rw [Addr.add_lit, Addr.add_lit] at this
      have hdm := Nat.div_add_mod j e.K
      rw [Nat.mul_comm] at hdm
      rw [show o + j = o + j / e.K * e.K + j % e.K by omega]
      exact this
    · obtain ⟨i, hi, rfl⟩ := List.mem_map.1 hu
      exact (hV i (List.mem_range.1 hi)).1
theorem cells8 : Try.prog.cellsOf 5 = 1 := by kernel_rfl
theorem cellsI : Try.prog.cellsOf 3 = 1 := by kernel_rfl
theorem cellsB : Try.prog.cellsOf 33 = 1 := by kernel_rfl
theorem cellsO : Try.prog.cellsOf 35 = 2 := by kernel_rfl
variable {H : Type} {enc : TypeId × Value → H} {W : World}
theorem open_bs {v : Value} {fuel : Nat} {r0 : DataW H × List MemPlace} (hf : DataW.trod enc Try.prog W 0 (fun _ => true) true fuel 33 [v] = some r0) : ∃ (a : Option Addr) (n c : Nat) (l : List Int), v = .slice a n c ∧ SlAt eU W a n c l := by
  obtain ⟨a, n, c, l, h1, h2, _⟩ := open_tr (e := eU) kU cells8 (fun _ => True) (fun m cs r hr => by
    obtain ⟨x, rfl, _, hw⟩ := DataW.trod_int Try.underlying5 hr
    exact ⟨x, trivial, rfl⟩) hf
  exact ⟨a, n, c, l, h1, h2⟩
theorem open_op {m : Nat} {cs : List Value} {r : DataW H × List MemPlace} (hr : DataW.trod enc Try.prog W 0 (fun _ => true) true m 35 cs = some r) : ∃ u : Oq, (∃ l, SlAt eU W u.a u.n u.c l) ∧ cs = (eO.f u).toList := by
  obtain ⟨y0, y1, k, _, hl, h0, h1⟩ := trod_struct2 Try.underlying35 hr
  rw [cellsO] at hl
  match cs, hl with
  | [c0, c1], _ =>
    have h0' : DataW.trod enc Try.prog W 0 (fun _ => true) true k 3 [c0] = some y0 := by
      have h : ([c0, c1].drop 0).take (Try.prog.cellsOf 3) = [c0] := by rw [cellsI]; rfl
      rw [← h]
      exact h0
    obtain ⟨x0, e0, _⟩ := DataW.trod_int Try.underlying3 h0'
    have h1' : DataW.trod enc Try.prog W 0 (fun _ => true) true k 33 [c1] = some y1 := by
      have h : ([c0, c1].drop 1).take (Try.prog.cellsOf 33) = [c1] := by rw [cellsB]; rfl
      rw [← h]
      exact h1
    obtain ⟨a, n, c, l, rfl, hs⟩ := open_bs h1'
    simp at e0
    subst e0
    exact ⟨⟨x0, a, n, c⟩, ⟨l, hs⟩, rfl⟩
theorem ops_of {tt : List Oq} (h : ∀ u ∈ tt, ∃ l, SlAt eU W u.a u.n u.c l) : ∃ os, Al (IsOp W) tt os := by
  induction tt with
  | nil => exact ⟨[], trivial⟩
  | cons x r ih =>
    obtain ⟨l, hl⟩ := ih fun u hu => h u (List.mem_cons_of_mem _ hu)
    obtain ⟨b, hb⟩ := h x (List.mem_cons_self ..)
    exact ⟨⟨x.k, b⟩ :: l, ⟨rfl, hb⟩, hl⟩
theorem open_ops {base : Nat} {v : Value} {dd : DataW H} {pl : List MemPlace} (hv : Value.okWide Try.prog W .any base 22 v) (h : DataW.Trod enc Try.prog W 0 (fun _ => true) true 22 v dd pl) :
    ∃ (a : Option Addr) (n c : Nat) (tt : List Oq) (os : List Oa), v = .slice a n c ∧ Ops W a n c tt os := by
  obtain ⟨a0, n0, c0, rfl⟩ := okWide_slice Try.underlying22 hv
  obtain ⟨fuel, hf⟩ := h
  have : Inhabited Oq := ⟨⟨0, none, 0, 0⟩⟩
  obtain ⟨a, n, c, tt, e, hs, hp⟩ := open_tr (e := eO) kO cellsO (fun u => ∃ l, SlAt eU W u.a u.n u.c l) (fun m cs r hr => open_op hr) hf
  obtain ⟨os, ho⟩ := ops_of hp
  exact ⟨a, n, c, tt, os, e, ⟨hs, ho⟩⟩
theorem open_bytes {base : Nat} {v : Value} {dd : DataW H} {pl : List MemPlace} (hv : Value.okWide Try.prog W .any base 33 v) (h : DataW.Trod enc Try.prog W 0 (fun _ => true) true 33 v dd pl) :
    ∃ (a : Option Addr) (n c : Nat) (l : List Int), v = .slice a n c ∧ SlAt eU W a n c l := by
  obtain ⟨a0, n0, c0, rfl⟩ := okWide_slice Try.underlying33 hv
  obtain ⟨fuel, hf⟩ := h
  exact open_bs hf
end Go.Proofs.Ytoojoiindfgoeaa
