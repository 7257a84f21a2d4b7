/-
  What trees that are handed in are; closed facts of the program.
-/
import Derived.Test.YtllmadgonobdnaaPtT
import Derived.Handy
import Derived.OpenShut
import Derived.ChangeSlices
import Derived.ShutString
import Derived.ChangeOld
import Derived.Deep.Slices
namespace Go.Proofs.Ytllmadgonobdnaa
set_option linter.unusedVariables false
set_option maxRecDepth 4000
open Go.ChangeShapes Go.WideShapes Go.ChangeAt Go.RowKit

theorem laidOut : laidOutB Try.prog = true := by kernel_rfl
theorem own : ownKnob Try.prog.godebug = none := by kernel_rfl
theorem cellsP : Try.prog.cellsOf 53 = 77 := by kernel_rfl
theorem cellsT : Try.prog.cellsOf 31 = 17 := by kernel_rfl
theorem cells_at {W : World} {base : Nat} {a : Addr} {n : Nat} {cs : List Value} (h : W.cells? base a n = some cs) (j : Nat) (x : Value) (hj : cs[j]? = some x) : W.cell? (a.add j) = some x := by
  unfold World.cells? at h
  split at h
  · have hl := mapM_some_length h
    rw [List.length_range] at hl
    have hjn : j < n := by rw [← hl]; exact (List.getElem?_eq_some_iff.1 hj).1
    have := mapM_some_get h j j (by rw [List.getElem?_range hjn])
    rw [this]
    exact hj
  · cases h
/-- The plain fields ahead of a slice fit their kinds. -/
theorem head_fits {H : Type} {enc : TypeId × Value → H} {W : World} {b fuel : Nat} {sp : Nat → Bool} {t : TypeId} {fs : Array Field} {ks : List (Option IntKind)} {cs : List Value} {c : Value} {r : DataW H × List MemPlace} (k : Nat) (hu : Try.prog.underlying t = some (.struct fs))
    (hk : fieldKinds Try.prog (kindsOf Try.prog 5) 0 (fs.toList.take k) = some ks) (hs : cs.length = ks.length) (hall : ∀ f ∈ fs.toList.take k, f.offset + Try.prog.cellsOf f.type ≤ ks.length)
    (hf : DataW.trod enc Try.prog W b sp true fuel t (cs ++ [c]) = some r) : Fits ks cs := by
  obtain ⟨xs, m, _, _, _, hl, hg⟩ := DataW.trod_struct hu hf
  have := trodFields enc Try.prog W b sp m (kindsOf Try.prog 5) (fun t ks cs r => fits_of_trod enc Try.prog W b sp 5 m t ks cs r) cs (fs.toList.take k) 0 ks hk (by rw [hs]; omega) (fun f hf' => by
    obtain ⟨i, hi, e⟩ := List.mem_iff_getElem.1 (List.mem_of_mem_take hf')
    have hi' : i < fs.size := by simpa using hi
    have q := hg i f (by rw [Array.getElem?_eq_getElem hi']; simpa using e)
    rw [List.getElem?_eq_getElem (by omega)] at q
    have hb := hall f hf'
    have e1 : ((cs ++ [c]).drop f.offset).take (Try.prog.cellsOf f.type) = (cs.drop f.offset).take (Try.prog.cellsOf f.type) := by
      rw [List.drop_append_of_le_length (by omega), List.take_append_of_le_length (by rw [List.length_drop]; omega)]
    rw [e1] at q
    exact ⟨_, q⟩)
  rw [List.drop_zero] at this
  exact this
theorem open_ports {H : Type} {enc : TypeId × Value → H} {W : World} {fuel : Nat} {v : Value} {r : DataW H × List MemPlace} (hf : DataW.trod enc Try.prog W 0 (fun _ => true) true fuel 29 [v] = some r) :
    ∃ (a : Option Addr) (n c : Nat) (l : List Pt), v = .slice a n c ∧ SlAt W a n c l := by
  rcases Go.Deep.open_slice Try.underlying29 hf with ⟨hcs, _⟩ | ⟨a, len, cap, m, k, D, Pl, hcs, _, hl, hm, hmm, _, hel⟩
  · simp at hcs
    exact ⟨none, 0, 0, [], hcs, SlAt.none' W⟩
  · simp at hcs
    have hmm' : m = cap := by simpa using hmm
    have key : ∀ i, i < len → ∃ u : Pt, ∀ j x, u.cl[j]? = some x → W.cell? ((a.add (i * 77)).add j) = some x := by
      intro i hi
      obtain ⟨cs', h1, h2⟩ := hel i (by omega)
      rw [cellsP] at h1
      exact ⟨⟨cs', fits_of_trod enc Try.prog W 0 _ 6 k _ kdP cs' _ plainP.kinds h2⟩, fun j x hj => cells_at h1 j x hj⟩
    have : Inhabited Pt := ⟨zeroP⟩
    obtain ⟨V, hV⟩ := Go.Deep.choose_lt key
    refine ⟨some a, len, cap, (List.range len).map V, hcs, ⟨by simp, hl, hm, (fun e => by cases e), fun x e h0 => ?_⟩⟩
    cases e
    have h0' : ∃ x, (V 0).cl[0]? = some x := ⟨_, (V 0).num (k := .u16) rfl⟩
    obtain ⟨x0, hx0⟩ := h0'
    have hc := hV 0 h0 0 x0 hx0
    obtain ⟨b, o, sp⟩ := a
    have hsp : sp = none := by simpa [Addr.add] using World.cell?_spot hc
    subst hsp
    refine ⟨b, o, rfl, fun j u hj => ?_⟩
    rw [flat_get] at hj
    obtain ⟨p, hp, hu⟩ := Option.bind_eq_some_iff.1 hj
    have hjl : j / 77 < len := by
      have := (List.getElem?_eq_some_iff.1 hp).1
      simpa using this
    have hpe : p = V (j / 77) := by
      rw [List.getElem?_map, List.getElem?_range hjl] at hp
      simpa using hp.symm
    subst hpe
    have := hV (j / 77) hjl (j % 77) u hu
    rw [Addr.add_lit, Addr.add_lit] at this
    rw [show o + j = o + j / 77 * 77 + j % 77 by omega]
    exact this
theorem open_tree {H : Type} {enc : TypeId × Value → H} {W : World} {base : Nat} {v : Value} {dd : DataW H} {pl : List MemPlace}
    (hv : Value.okWide Try.prog W .any base 31 v) (h : DataW.Trod enc Try.prog W 0 (fun _ => true) true 31 v dd pl) :
    ∃ (g : Hd) (a : Option Addr) (n c : Nat) (l : List Pt), v = .agg (trc g (.slice a n c)) ∧ SlAt W a n c l := by
  obtain ⟨cs, rfl, hsz, _⟩ : ∃ cs, v = .agg cs ∧ cs.size = Try.prog.cellsOf 31 ∧ Row.okWide Try.prog W .any base 31 cs := by
    simpa [Value.okWide, Try.underlying31] using hv
  rw [cellsT] at hsz
  obtain ⟨l⟩ := cs
  obtain ⟨fuel, hf⟩ := h
  match l, hsz with
  | [c0, c1, c2, c3, c4, c5, c6, c7, c8, c9, c10, c11, c12, c13, c14, c15, c16], _ =>
    have hf' : DataW.trod enc Try.prog W 0 (fun _ => true) true fuel 31 ([c0, c1, c2, c3, c4, c5, c6, c7, c8, c9, c10, c11, c12, c13, c14, c15] ++ [c16]) = some (dd, pl) := hf
    have hh := head_fits (ks := kdH) 7 Try.underlying31 (by kernel_rfl) rfl (by decide +kernel) hf'
    obtain ⟨xs, m, _, _, _, hl, hg⟩ := DataW.trod_struct Try.underlying31 hf'
    have hl' : xs.length = 8 := hl
    have g7 : DataW.trod enc Try.prog W 0 (fun _ => true) true m 29 ((([c0, c1, c2, c3, c4, c5, c6, c7, c8, c9, c10, c11, c12, c13, c14, c15] ++ [c16]).drop 16).take (Try.prog.cellsOf 29)) = xs[7]? := hg 7 _ rfl
    rw [List.getElem?_eq_getElem (by omega)] at g7
    have g7' : DataW.trod enc Try.prog W 0 (fun _ => true) true m 29 [c16] = some xs[7] := by
      rw [show Try.prog.cellsOf 29 = 1 by kernel_rfl] at g7
      exact g7
    obtain ⟨a, n, c, ps, rfl, hs⟩ := open_ports g7'
    exact ⟨⟨[c0, c1, c2, c3, c4, c5, c6, c7, c8, c9, c10, c11, c12, c13, c14, c15], hh⟩, a, n, c, ps, rfl, hs⟩
end Go.Proofs.Ytllmadgonobdnaa
