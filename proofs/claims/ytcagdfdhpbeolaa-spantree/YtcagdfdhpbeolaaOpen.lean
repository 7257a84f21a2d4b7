/-
  What rows of numbers and of edges that are handed in are; closed facts of the program.
-/
import Derived.Test.YtcagdfdhpbeolaaKnd
import Derived.Handy
import Derived.OpenShut
import Derived.ChangeSlices
import Derived.ShutString
import Derived.ChangeOld
import Derived.Deep.Slices
namespace Go.Proofs.Ytcagdfdhpbeolaa
set_option linter.unusedVariables false
set_option maxRecDepth 4000
open Go.ChangeShapes Go.WideShapes Go.ChangeAt Go.RowKit

theorem laidOut : laidOutB Try.prog = true := by kernel_rfl
theorem own : ownKnob Try.prog.godebug = none := by kernel_rfl
theorem cells_at {W : World} {base : Nat} {a : Addr} {n : Nat} {cs : List Value} (h : W.cells? base a n = some cs) (j : Nat) (x : Value) (hj : cs[j]? = some x) : W.cell? (a.add j) = some x := by
  unfold World.cells? at h
  split at h
  · have hl := mapM_some_length h
    rw [List.length_range] at hl
    have hjn : j < n := by rw [← hl]; exact (List.getElem?_eq_some_iff.1 hj).1
    have := mapM_some_get h j j (by rw [List.getElem?_range hjn])
    rw [this]
    exact hj
  · cases h
theorem open_sl {α : Type} [Inhabited α] {e : El α} (ke : e.Ok) (hK : Try.prog.cellsOf e.ty = e.K) (P : α → Prop) {H : Type} {enc : TypeId × Value → H} {W : World} {base : Nat} {v : Value} {dd : DataW H} {pl : List MemPlace}
    (hel0 : ∀ (m : Nat) (cs : List Value) (r : DataW H × List MemPlace), DataW.trod enc Try.prog W 0 (fun _ => true) true m e.ty cs = some r → ∃ u : α, P u ∧ cs = (e.f u).toList)
    (hv : Value.okWide Try.prog W .any base e.st v) (h : DataW.Trod enc Try.prog W 0 (fun _ => true) true e.st v dd pl) :
    ∃ (a : Option Addr) (n c : Nat) (l : List α), v = .slice a n c ∧ SlAt e W a n c l ∧ ∀ u ∈ l, P u := by
  obtain ⟨a0, n0, c0, rfl⟩ := okWide_slice ke.slc hv
  obtain ⟨fuel, hf⟩ := h
  rcases Go.Deep.open_slice ke.slc hf with ⟨hcs, _⟩ | ⟨a, len, cap, m, k, D, Pl, hcs, _, hl, hm, hmm, _, hel⟩
  · simp [Value.cells] at hcs
    obtain ⟨rfl, rfl, rfl⟩ := hcs
    exact ⟨none, 0, 0, [], rfl, SlAt.none' W, by simp⟩
  · simp [Value.cells] at hcs
    obtain ⟨rfl, rfl, rfl⟩ := hcs
    have hmm' : m = c0 := by simpa using hmm
    have key : ∀ i, i < n0 → ∃ u : α, P u ∧ ∀ j x, (e.f u).toList[j]? = some x → W.cell? ((a.add (i * e.K)).add j) = some x := by
      intro i hi
      obtain ⟨cs', h1, h2⟩ := hel i (by omega)
      rw [hK] at h1
      obtain ⟨u, hu, rfl⟩ := hel0 k cs' _ h2
      exact ⟨u, hu, fun j x hj => cells_at h1 j x hj⟩
    obtain ⟨V, hV⟩ := Go.Deep.choose_lt key
    refine ⟨some a, n0, c0, (List.range n0).map V, rfl, ⟨by simp, hl, hm, (fun e => by cases e), fun x e' h0 => ?_⟩, fun u hu => ?_⟩
    · cases e'
      have hp := ke.pos
      have hs0 : 0 < (e.f (V 0)).toList.length := by rw [ke.len]; exact hp
      have hc := (hV 0 h0).2 0 _ (List.getElem?_eq_getElem hs0)
      obtain ⟨b, o, sp⟩ := a
      have hsp : sp = none := by simpa [Addr.add] using World.cell?_spot hc
      subst hsp
      refine ⟨b, o, rfl, fun j u hj => ?_⟩
      rw [El.fl_get ke] at hj
      obtain ⟨p, hp', hu⟩ := Option.bind_eq_some_iff.1 hj
      have hjl : j / e.K < n0 := by
        have := (List.getElem?_eq_some_iff.1 hp').1
        simpa using this
      have hpe : p = V (j / e.K) := by
        rw [List.getElem?_map, List.getElem?_range hjl] at hp'
        simpa using hp'.symm
      subst hpe
      have := (hV (j / e.K) hjl).2 (j % e.K) u hu
      rw [Addr.add_lit, Addr.add_lit] at this
      have hdm := Nat.div_add_mod j e.K
      rw [Nat.mul_comm] at hdm
      rw [show o + j = o + j / e.K * e.K + j % e.K by omega]
      exact this
    · obtain ⟨i, hi, rfl⟩ := List.mem_map.1 hu
      exact (hV i (List.mem_range.1 hi)).1
theorem cellsU : Try.prog.cellsOf 53 = 1 := by kernel_rfl
theorem cellsE : Try.prog.cellsOf 50 = 6 := by kernel_rfl
def kdE : List (Option IntKind) := [some .i64, some .i64, some .i64, some .i64, some .u32, some .u32]
theorem kindsE : kindsOf Try.prog 6 50 = some kdE := by kernel_rfl
theorem open_ids {H : Type} {enc : TypeId × Value → H} {W : World} {base : Nat} {v : Value} {dd : DataW H} {pl : List MemPlace}
    (hv : Value.okWide Try.prog W .any base 22 v) (h : DataW.Trod enc Try.prog W 0 (fun _ => true) true 22 v dd pl) :
    ∃ (a : Option Addr) (n c : Nat) (l : List Nat), v = .slice a n c ∧ SlAt eU W a n c l ∧ ∀ u ∈ l, u < 18446744073709551616 :=
  open_sl (e := eU) kU cellsU (fun u => u < 18446744073709551616) (fun m cs r hr => by
    obtain ⟨x, rfl, _, hw⟩ := DataW.trod_int Try.underlying53 hr
    have := bounds_u64 hw
    refine ⟨x.toNat, by omega, ?_⟩
    show [Value.int .u64 x] = [.int .u64 ((x.toNat : Nat) : Int)]
    rw [show ((x.toNat : Nat) : Int) = x by omega]) hv h
theorem open_edges {H : Type} {enc : TypeId × Value → H} {W : World} {base : Nat} {v : Value} {dd : DataW H} {pl : List MemPlace}
    (hv : Value.okWide Try.prog W .any base 23 v) (h : DataW.Trod enc Try.prog W 0 (fun _ => true) true 23 v dd pl) :
    ∃ (a : Option Addr) (n c : Nat) (l : List Eg), v = .slice a n c ∧ SlAt eE W a n c l ∧ ∀ u ∈ l, True :=
  have : Inhabited Eg := ⟨⟨0, 0, 0, 0, 0, 0⟩⟩
  open_sl (e := eE) kE cellsE (fun _ => True) (fun m cs r hr => by
    have hf := fits_of_trod enc Try.prog W 0 _ 6 m _ kdE cs _ kindsE hr
    have hl := hf.len
    match cs, hl with
    | [c0, c1, c2, c3, c4, c5], _ =>
      obtain ⟨x0, rfl, _⟩ := hf.at' 0 _ c0 rfl rfl
      obtain ⟨x1, rfl, _⟩ := hf.at' 1 _ c1 rfl rfl
      obtain ⟨x2, rfl, _⟩ := hf.at' 2 _ c2 rfl rfl
      obtain ⟨x3, rfl, _⟩ := hf.at' 3 _ c3 rfl rfl
      obtain ⟨x4, rfl, _⟩ := hf.at' 4 _ c4 rfl rfl
      obtain ⟨x5, rfl, _⟩ := hf.at' 5 _ c5 rfl rfl
      exact ⟨⟨x0, x1, x2, x3, x4, x5⟩, trivial, rfl⟩) hv h
end Go.Proofs.Ytcagdfdhpbeolaa
