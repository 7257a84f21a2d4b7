/-
  Calls, counters and texts that are handed in; closed facts of the program.
-/
import Derived.Test.YtammaaiknjgjbaaTx
import Derived.Handy
import Derived.OpenShut
import Derived.ChangeSlices
import Derived.ShutString
import Derived.ChangeOld
import Derived.ChangeMaps5
import Derived.Deep.Slices
namespace Go.Proofs.Ytammaaiknjgjbaa
set_option linter.unusedVariables false
set_option maxRecDepth 4000
open Go.ChangeShapes Go.WideShapes Go.ChangeAt Go.RowKit

theorem laidOut : laidOutB Try.prog = true := by kernel_rfl
theorem own : ownKnob Try.prog.godebug = none := by kernel_rfl
theorem cells_at {W : World} {base : Nat} {a : Addr} {n : Nat} {cs : List Value} (h : W.cells? base a n = some cs) (j : Nat) (x : Value) (hj : cs[j]? = some x) : W.cell? (a.add j) = some x := by
  unfold World.cells? at h
  split at h
  · have hl := mapM_some_length h
    rw [List.length_range] at hl
    have hjn : j < n := by rw [← hl]; exact (List.getElem?_eq_some_iff.1 hj).1
    have := mapM_some_get h j j (by rw [List.getElem?_range hjn])
    rw [this]
    exact hj
  · cases h
theorem open_tr {α : Type} [Inhabited α] {e : El α} (ke : e.Ok) (hK : Try.prog.cellsOf e.ty = e.K) (P : α → Prop) {H : Type} {enc : TypeId × Value → H} {W : World} {v : Value} {fuel : Nat} {r0 : DataW H × List MemPlace}
    (hel0 : ∀ (m : Nat) (cs : List Value) (r : DataW H × List MemPlace), DataW.trod enc Try.prog W 0 (fun _ => true) true m e.ty cs = some r → ∃ u : α, P u ∧ cs = (e.f u).toList)
    (hf : DataW.trod enc Try.prog W 0 (fun _ => true) true fuel e.st [v] = some r0) :
    ∃ (a : Option Addr) (n c : Nat) (l : List α), v = .slice a n c ∧ SlAt e W a n c l ∧ ∀ u ∈ l, P u := by
  rcases Go.Deep.open_slice ke.slc hf with ⟨hcs, _⟩ | ⟨a, len, cap, m, k, D, Pl, hcs, _, hl, hm, hmm, _, hel⟩
  · simp at hcs
    exact ⟨none, 0, 0, [], hcs, SlAt.none' W, by simp⟩
  · simp at hcs
    have hmm' : m = cap := by simpa using hmm
    have key : ∀ i, i < len → ∃ u : α, P u ∧ ∀ j x, (e.f u).toList[j]? = some x → W.cell? ((a.add (i * e.K)).add j) = some x := by
      intro i hi
      obtain ⟨cs', h1, h2⟩ := hel i (by omega)
      rw [hK] at h1
      obtain ⟨u, hu, rfl⟩ := hel0 k cs' _ h2
      exact ⟨u, hu, fun j x hj => cells_at h1 j x hj⟩
    obtain ⟨V, hV⟩ := Go.Deep.choose_lt key
    refine ⟨some a, len, cap, (List.range len).map V, hcs, ⟨by simp, hl, hm, (fun e => by cases e), fun x e' h0 => ?_⟩, fun u hu => ?_⟩
    · cases e'
      have hp := ke.pos
      have hs0 : 0 < (e.f (V 0)).toList.length := by rw [ke.len]; exact hp
      have hc := (hV 0 h0).2 0 _ (List.getElem?_eq_getElem hs0)
      obtain ⟨b, o, sp⟩ := a
      have hsp : sp = none := by simpa [Addr.add] using World.cell?_spot hc
      subst hsp
      refine ⟨b, o, rfl, fun j u hj => ?_⟩
      rw [El.fl_get ke] at hj
      obtain ⟨p, hp', hu⟩ := Option.bind_eq_some_iff.1 hj
      have hjl : j / e.K < len := by
        have := (List.getElem?_eq_some_iff.1 hp').1
        simpa using this
      have hpe : p = V (j / e.K) := by
        rw [List.getElem?_map, List.getElem?_range hjl] at hp'
        simpa using hp'.symm
      subst hpe
      have := (hV (j / e.K) hjl).2 (j % e.K) u hu
      rw [Addr.add_lit, Addr.add_lit] at this
      have hdm := Nat.div_add_mod j e.K
      rw [Nat.mul_comm] at hdm
      rw [show o + j = o + j / e.K * e.K + j % e.K by omega]
      exact this
    · obtain ⟨i, hi, rfl⟩ := List.mem_map.1 hu
      exact (hV i (List.mem_range.1 hi)).1
theorem cellsW : Try.prog.cellsOf 32 = 1 := by kernel_rfl
theorem cellsO : Try.prog.cellsOf 34 = 3 := by kernel_rfl
def kdO : List (Option IntKind) := [some .u8, some .i64, some .i64]
theorem kindsO : kindsOf Try.prog 6 34 = some kdO := by kernel_rfl
variable {H : Type} {enc : TypeId × Value → H} {W : World}
theorem open_op {m : Nat} {cs : List Value} {r : DataW H × List MemPlace} (hr : DataW.trod enc Try.prog W 0 (fun _ => true) true m 34 cs = some r) : ∃ u : Opt, (0 ≤ u.d ∧ u.d ≤ 255) ∧ cs = (eO.f u).toList := by
  have hf := fits_of_trod enc Try.prog W 0 _ 6 m _ kdO cs _ kindsO hr
  have hl := hf.len
  match cs, hl with
  | [c0, c1, c2], _ =>
    obtain ⟨x0, rfl, w0⟩ := hf.at' 0 _ c0 rfl rfl
    obtain ⟨x1, rfl, _⟩ := hf.at' 1 _ c1 rfl rfl
    obtain ⟨x2, rfl, _⟩ := hf.at' 2 _ c2 rfl rfl
    exact ⟨⟨x0, x1, x2⟩, bounds_u8 w0, rfl⟩
theorem open_ops {base : Nat} {v : Value} {dd : DataW H} {pl : List MemPlace} (hv : Value.okWide Try.prog W .any base 22 v) (h : DataW.Trod enc Try.prog W 0 (fun _ => true) true 22 v dd pl) :
    ∃ (a : Option Addr) (n c : Nat) (os : List Opt), v = .slice a n c ∧ SlAt eO W a n c os ∧ ∀ x ∈ os, 0 ≤ x.d ∧ x.d ≤ 255 := by
  obtain ⟨a0, n0, c0, rfl⟩ := okWide_slice Try.underlying22 hv
  obtain ⟨fuel, hf⟩ := h
  have : Inhabited Opt := ⟨⟨0, 0, 0⟩⟩
  exact open_tr (e := eO) kO cellsO (fun u => 0 ≤ u.d ∧ u.d ≤ 255) (fun m cs r hr => open_op hr) hf
theorem open_whys {base : Nat} {v : Value} {dd : DataW H} {pl : List MemPlace} (hv : Value.okWide Try.prog W .any base 23 v) (h : DataW.Trod enc Try.prog W 0 (fun _ => true) true 23 v dd pl) :
    ∃ (a : Option Addr) (n c : Nat) (l : List Int), v = .slice a n c ∧ SlAt eW W a n c l := by
  obtain ⟨a0, n0, c0, rfl⟩ := okWide_slice Try.underlying23 hv
  obtain ⟨fuel, hf⟩ := h
  obtain ⟨a, n, c, l, h1, h2, _⟩ := open_tr (e := eW) kW cellsW (fun _ => True) (fun m cs r hr => by
    obtain ⟨x, rfl, _, hw⟩ := DataW.trod_int Try.underlying32 hr
    exact ⟨x, trivial, rfl⟩) hf
  exact ⟨a, n, c, l, h1, h2⟩
theorem open_s {base : Nat} {v : Value} (hv : Value.okWide Try.prog W .any base 9 v) : ∃ s, v = .string s := okWide_string Try.underlying9 hv
end Go.Proofs.Ytammaaiknjgjbaa
