/-
  Trees that are handed in.
-/
import Derived.Test.YtcejfkkhmlebdaaTre
import Derived.Test.YtcejfkkhmlebdaaOpn
namespace Go.Proofs.Ytcejfkkhmlebdaa
set_option linter.unusedVariables false
set_option maxRecDepth 4000
open Go.ChangeShapes Go.WideShapes Go.ChangeAt Go.RowKit

theorem cellsT : Try.prog.cellsOf 31 = 17 := by kernel_rfl
theorem cellsQ : Try.prog.cellsOf 82 = 77 := by kernel_rfl
theorem kindsQ : kindsOf Try.prog 6 82 = some kdP := by kernel_rfl
/-- The plain fields ahead of a slice fit their kinds. -/
theorem head_fits {H : Type} {enc : TypeId × Value → H} {W : World} {b fuel : Nat} {sp : Nat → Bool} {t : TypeId} {fs : Array Field} {ks : List (Option IntKind)} {cs : List Value} {c : Value} {r : DataW H × List MemPlace} (k : Nat) (hu : Try.prog.underlying t = some (.struct fs))
    (hk : fieldKinds Try.prog (kindsOf Try.prog 5) 0 (fs.toList.take k) = some ks) (hs : cs.length = ks.length) (hall : ∀ f ∈ fs.toList.take k, f.offset + Try.prog.cellsOf f.type ≤ ks.length)
    (hf : DataW.trod enc Try.prog W b sp true fuel t (cs ++ [c]) = some r) : Fits ks cs := by
  obtain ⟨xs, m, _, _, _, hl, hg⟩ := DataW.trod_struct hu hf
  have := trodFields enc Try.prog W b sp m (kindsOf Try.prog 5) (fun t ks cs r => fits_of_trod enc Try.prog W b sp 5 m t ks cs r) cs (fs.toList.take k) 0 ks hk (by rw [hs]; omega) (fun f hf' => by
    obtain ⟨i, hi, e⟩ := List.mem_iff_getElem.1 (List.mem_of_mem_take hf')
    have hi' : i < fs.size := by simpa using hi
    have q := hg i f (by rw [Array.getElem?_eq_getElem hi']; simpa using e)
    rw [List.getElem?_eq_getElem (by omega)] at q
    have hb := hall f hf'
    have e1 : ((cs ++ [c]).drop f.offset).take (Try.prog.cellsOf f.type) = (cs.drop f.offset).take (Try.prog.cellsOf f.type) := by
      rw [List.drop_append_of_le_length (by omega), List.take_append_of_le_length (by rw [List.length_drop]; omega)]
    rw [e1] at q
    exact ⟨_, q⟩)
  rw [List.drop_zero] at this
  exact this
theorem open_ports {H : Type} {enc : TypeId × Value → H} {W : World} {fuel : Nat} {v : Value} {r : DataW H × List MemPlace} (hf : DataW.trod enc Try.prog W 0 (fun _ => true) true fuel 29 [v] = some r) :
    ∃ (a : Option Addr) (n c : Nat) (l : List Pt), v = .slice a n c ∧ SlAt eQ W a n c l := by
  have : Inhabited Pt := ⟨zeroP⟩
  obtain ⟨a, n, c, r, e, hs, _⟩ := open_tr (e := eQ) kQ cellsQ (fun _ => True) (fun m cs r hr => ⟨⟨cs, fits_of_trod enc Try.prog W 0 _ 6 m _ kdP cs _ kindsQ hr⟩, trivial, rfl⟩) hf
  exact ⟨a, n, c, r, e, hs⟩
theorem open_tree {H : Type} {enc : TypeId × Value → H} {W : World} {base : Nat} {v : Value} {dd : DataW H} {pl : List MemPlace}
    (hv : Value.okWide Try.prog W .any base 31 v) (h : DataW.Trod enc Try.prog W 0 (fun _ => true) true 31 v dd pl) :
    ∃ (g : Hd) (a : Option Addr) (n c : Nat) (l : List Pt), v = .agg (trc g (.slice a n c)) ∧ SlAt eQ W a n c l := by
  obtain ⟨cs, rfl, hsz, _⟩ : ∃ cs, v = .agg cs ∧ cs.size = Try.prog.cellsOf 31 ∧ Row.okWide Try.prog W .any base 31 cs := by
    simpa [Value.okWide, Try.underlying31] using hv
  rw [cellsT] at hsz
  obtain ⟨l⟩ := cs
  obtain ⟨fuel, hf⟩ := h
  match l, hsz with
  | [c0, c1, c2, c3, c4, c5, c6, c7, c8, c9, c10, c11, c12, c13, c14, c15, c16], _ =>
    have hf' : DataW.trod enc Try.prog W 0 (fun _ => true) true fuel 31 ([c0, c1, c2, c3, c4, c5, c6, c7, c8, c9, c10, c11, c12, c13, c14, c15] ++ [c16]) = some (dd, pl) := hf
    have hh := head_fits (ks := kdH) 7 Try.underlying31 (by kernel_rfl) rfl (by decide +kernel) hf'
    obtain ⟨xs, m, _, _, _, hl, hg⟩ := DataW.trod_struct Try.underlying31 hf'
    have hl' : xs.length = 8 := hl
    have g7 : DataW.trod enc Try.prog W 0 (fun _ => true) true m 29 ((([c0, c1, c2, c3, c4, c5, c6, c7, c8, c9, c10, c11, c12, c13, c14, c15] ++ [c16]).drop 16).take (Try.prog.cellsOf 29)) = xs[7]? := hg 7 _ rfl
    rw [List.getElem?_eq_getElem (by omega)] at g7
    have g7' : DataW.trod enc Try.prog W 0 (fun _ => true) true m 29 [c16] = some xs[7] := by
      rw [show Try.prog.cellsOf 29 = 1 by kernel_rfl] at g7
      exact g7
    obtain ⟨a, n, c, ps, rfl, hs⟩ := open_ports g7'
    exact ⟨⟨[c0, c1, c2, c3, c4, c5, c6, c7, c8, c9, c10, c11, c12, c13, c14, c15], hh⟩, a, n, c, ps, rfl, hs⟩
end Go.Proofs.Ytcejfkkhmlebdaa
