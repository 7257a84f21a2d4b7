/-
  Commands, maps, carries, members that are handed in.
-/
import Derived.Test.YtmfjlhcobhilcabMad
import Derived.Test.YtmfjlhcobhilcabOpn
namespace Go.Proofs.Ytmfjlhcobhilcab
set_option linter.unusedVariables false
set_option maxRecDepth 4000
open Go.ChangeShapes Go.WideShapes Go.ChangeAt Go.RowKit

variable {H : Type} {enc : TypeId × Value → H} {W : World}
theorem open_b {t : TypeId} {fuel : Nat} {c : Value} {r : DataW H × List MemPlace} (hu : Try.prog.underlying t = some .bool) (hf : DataW.trod enc Try.prog W 0 (fun _ => true) true fuel t [c] = some r) : ∃ b : Bool, c = .bool b := by
  obtain ⟨b, e, _⟩ := DataW.trod_bool hu hf
  simp at e
  exact ⟨b, e⟩
theorem open_entry {m0 : Nat} {c0 c1 c2 c3 c4 c5 c6 c7 c8 c9 : Value} {r : DataW H × List MemPlace} (hr : DataW.trod enc Try.prog W 0 (fun _ => true) true m0 44 [c0, c1, c2, c3, c4, c5, c6, c7, c8, c9] = some r) :
    ∃ (v a b c d e f p : Int) (st : Bool) (s : Int), c0 = .int .i64 v ∧ c1 = .int .u8 a ∧ c2 = .int .u8 b ∧ c3 = .int .u8 c ∧ c4 = .int .u8 d ∧ c5 = .int .u8 e ∧ c6 = .int .u8 f ∧ c7 = .int .i64 p ∧ c8 = .bool st ∧ c9 = .int .i64 s := by
    obtain ⟨xs, m, _, _, _, hl, hg⟩ := DataW.trod_struct Try.underlying44 hr
    have hl' : xs.length = 5 := hl
    have g00 : DataW.trod enc Try.prog W 0 (fun _ => true) true m 3 (([c0, c1, c2, c3, c4, c5, c6, c7, c8, c9].drop 0).take (Try.prog.cellsOf 3)) = xs[0]? := hg 0 _ rfl
    rw [List.getElem?_eq_getElem (by omega), show Try.prog.cellsOf 3 = 1 by kernel_rfl] at g00
    have g0 : DataW.trod enc Try.prog W 0 (fun _ => true) true m 3 [c0] = some xs[0] := g00
    have g10 : DataW.trod enc Try.prog W 0 (fun _ => true) true m 23 (([c0, c1, c2, c3, c4, c5, c6, c7, c8, c9].drop 1).take (Try.prog.cellsOf 23)) = xs[1]? := hg 1 _ rfl
    rw [List.getElem?_eq_getElem (by omega), show Try.prog.cellsOf 23 = 6 by kernel_rfl] at g10
    have g1 : DataW.trod enc Try.prog W 0 (fun _ => true) true m 23 [c1, c2, c3, c4, c5, c6] = some xs[1] := g10
    have g20 : DataW.trod enc Try.prog W 0 (fun _ => true) true m 3 (([c0, c1, c2, c3, c4, c5, c6, c7, c8, c9].drop 7).take (Try.prog.cellsOf 3)) = xs[2]? := hg 2 _ rfl
    rw [List.getElem?_eq_getElem (by omega), show Try.prog.cellsOf 3 = 1 by kernel_rfl] at g20
    have g2 : DataW.trod enc Try.prog W 0 (fun _ => true) true m 3 [c7] = some xs[2] := g20
    have g30 : DataW.trod enc Try.prog W 0 (fun _ => true) true m 4 (([c0, c1, c2, c3, c4, c5, c6, c7, c8, c9].drop 8).take (Try.prog.cellsOf 4)) = xs[3]? := hg 3 _ rfl
    rw [List.getElem?_eq_getElem (by omega), show Try.prog.cellsOf 4 = 1 by kernel_rfl] at g30
    have g3 : DataW.trod enc Try.prog W 0 (fun _ => true) true m 4 [c8] = some xs[3] := g30
    have g40 : DataW.trod enc Try.prog W 0 (fun _ => true) true m 3 (([c0, c1, c2, c3, c4, c5, c6, c7, c8, c9].drop 9).take (Try.prog.cellsOf 3)) = xs[4]? := hg 4 _ rfl
    rw [List.getElem?_eq_getElem (by omega), show Try.prog.cellsOf 3 = 1 by kernel_rfl] at g40
    have g4 : DataW.trod enc Try.prog W 0 (fun _ => true) true m 3 [c9] = some xs[4] := g40
    obtain ⟨n0, rfl⟩ := open_n Try.underlying3 g0
    obtain ⟨u, rfl, rfl, rfl, rfl, rfl, rfl, _⟩ := open_six g1
    obtain ⟨n2, rfl⟩ := open_n Try.underlying3 g2
    obtain ⟨b3, rfl⟩ := open_b Try.underlying4 g3
    obtain ⟨n4, rfl⟩ := open_n Try.underlying3 g4
    exact ⟨n0, u.a, u.b, u.c, u.d, u.e, u.f, n2, b3, n4, rfl, rfl, rfl, rfl, rfl, rfl, rfl, rfl, rfl, rfl⟩
theorem open_cmd0 {m0 : Nat} {cs : List Value} {r : DataW H × List MemPlace} (hr : DataW.trod enc Try.prog W 0 (fun _ => true) true m0 48 cs = some r) : ∃ u : Cm, (∃ d, IsCm W u d) ∧ cs = (eD.f u).toList := by
  obtain ⟨xs, m, _, _, hsz, hl, hg⟩ := DataW.trod_struct Try.underlying48 hr
  rw [cellsD] at hsz
  match cs, hsz with
  | [c0, c1, c2, c3, c4, c5, c6, c7, c8, c9, c10, c11, c12, c13, c14, c15, c16, c17, c18, c19, c20], _ =>
    have hl' : xs.length = 8 := hl
    have g00 : DataW.trod enc Try.prog W 0 (fun _ => true) true m 35 (([c0, c1, c2, c3, c4, c5, c6, c7, c8, c9, c10, c11, c12, c13, c14, c15, c16, c17, c18, c19, c20].drop 0).take (Try.prog.cellsOf 35)) = xs[0]? := hg 0 _ rfl
    rw [List.getElem?_eq_getElem (by omega), show Try.prog.cellsOf 35 = 1 by kernel_rfl] at g00
    have g0 : DataW.trod enc Try.prog W 0 (fun _ => true) true m 35 [c0] = some xs[0] := g00
    have g10 : DataW.trod enc Try.prog W 0 (fun _ => true) true m 40 (([c0, c1, c2, c3, c4, c5, c6, c7, c8, c9, c10, c11, c12, c13, c14, c15, c16, c17, c18, c19, c20].drop 1).take (Try.prog.cellsOf 40)) = xs[1]? := hg 1 _ rfl
    rw [List.getElem?_eq_getElem (by omega), show Try.prog.cellsOf 40 = 3 by kernel_rfl] at g10
    have g1 : DataW.trod enc Try.prog W 0 (fun _ => true) true m 40 [c1, c2, c3] = some xs[1] := g10
    have g20 : DataW.trod enc Try.prog W 0 (fun _ => true) true m 42 (([c0, c1, c2, c3, c4, c5, c6, c7, c8, c9, c10, c11, c12, c13, c14, c15, c16, c17, c18, c19, c20].drop 4).take (Try.prog.cellsOf 42)) = xs[2]? := hg 2 _ rfl
    rw [List.getElem?_eq_getElem (by omega), show Try.prog.cellsOf 42 = 2 by kernel_rfl] at g20
    have g2 : DataW.trod enc Try.prog W 0 (fun _ => true) true m 42 [c4, c5] = some xs[2] := g20
    have g30 : DataW.trod enc Try.prog W 0 (fun _ => true) true m 38 (([c0, c1, c2, c3, c4, c5, c6, c7, c8, c9, c10, c11, c12, c13, c14, c15, c16, c17, c18, c19, c20].drop 6).take (Try.prog.cellsOf 38)) = xs[3]? := hg 3 _ rfl
    rw [List.getElem?_eq_getElem (by omega), show Try.prog.cellsOf 38 = 2 by kernel_rfl] at g30
    have g3 : DataW.trod enc Try.prog W 0 (fun _ => true) true m 38 [c6, c7] = some xs[3] := g30
    have g40 : DataW.trod enc Try.prog W 0 (fun _ => true) true m 44 (([c0, c1, c2, c3, c4, c5, c6, c7, c8, c9, c10, c11, c12, c13, c14, c15, c16, c17, c18, c19, c20].drop 8).take (Try.prog.cellsOf 44)) = xs[4]? := hg 4 _ rfl
    rw [List.getElem?_eq_getElem (by omega), show Try.prog.cellsOf 44 = 10 by kernel_rfl] at g40
    have g4 : DataW.trod enc Try.prog W 0 (fun _ => true) true m 44 [c8, c9, c10, c11, c12, c13, c14, c15, c16, c17] = some xs[4] := g40
    have g50 : DataW.trod enc Try.prog W 0 (fun _ => true) true m 45 (([c0, c1, c2, c3, c4, c5, c6, c7, c8, c9, c10, c11, c12, c13, c14, c15, c16, c17, c18, c19, c20].drop 18).take (Try.prog.cellsOf 45)) = xs[5]? := hg 5 _ rfl
    rw [List.getElem?_eq_getElem (by omega), show Try.prog.cellsOf 45 = 1 by kernel_rfl] at g50
    have g5 : DataW.trod enc Try.prog W 0 (fun _ => true) true m 45 [c18] = some xs[5] := g50
    have g60 : DataW.trod enc Try.prog W 0 (fun _ => true) true m 3 (([c0, c1, c2, c3, c4, c5, c6, c7, c8, c9, c10, c11, c12, c13, c14, c15, c16, c17, c18, c19, c20].drop 19).take (Try.prog.cellsOf 3)) = xs[6]? := hg 6 _ rfl
    rw [List.getElem?_eq_getElem (by omega), show Try.prog.cellsOf 3 = 1 by kernel_rfl] at g60
    have g6 : DataW.trod enc Try.prog W 0 (fun _ => true) true m 3 [c19] = some xs[6] := g60
    have g70 : DataW.trod enc Try.prog W 0 (fun _ => true) true m 46 (([c0, c1, c2, c3, c4, c5, c6, c7, c8, c9, c10, c11, c12, c13, c14, c15, c16, c17, c18, c19, c20].drop 20).take (Try.prog.cellsOf 46)) = xs[7]? := hg 7 _ rfl
    rw [List.getElem?_eq_getElem (by omega), show Try.prog.cellsOf 46 = 1 by kernel_rfl] at g70
    have g7 : DataW.trod enc Try.prog W 0 (fun _ => true) true m 46 [c20] = some xs[7] := g70
    obtain ⟨k, rfl⟩ := open_n Try.underlying35 g0
    obtain ⟨mm, _, em⟩ := open_map g1
    obtain ⟨cc, _, ec⟩ := open_carry g2
    obtain ⟨bb, ⟨l, hb⟩, eb⟩ := open_mem g3
    obtain ⟨v, a, b, c, d, e, f, p, st, s, rfl, rfl, rfl, rfl, rfl, rfl, rfl, rfl, rfl, rfl⟩ := open_entry g4
    obtain ⟨n5, rfl⟩ := open_n Try.underlying45 g5
    obtain ⟨n6, rfl⟩ := open_n Try.underlying3 g6
    obtain ⟨n7, rfl⟩ := open_n Try.underlying46 g7
    have em' : [c1, c2, c3] = [.int .i64 mm.p, .int .i64 mm.v, .int .i64 mm.s] := em
    have ec' : [c4, c5] = [.int .i64 cc.s, .int .i64 cc.v] := ec
    have eb' : [c6, c7] = [.int .i64 bb.v, .slice bb.a bb.n bb.c] := eb
    simp only [List.cons.injEq, and_true] at em' ec' eb'
    obtain ⟨rfl, rfl, rfl⟩ := em'
    obtain ⟨rfl, rfl⟩ := ec'
    obtain ⟨rfl, rfl⟩ := eb'
    exact ⟨⟨k, mm, cc, bb, ⟨v, a, b, c, d, e, f, p, st, s, n5, n6, n7⟩⟩, ⟨⟨k, mm, cc, ⟨bb.v, l⟩⟩, rfl, rfl, rfl, rfl, hb⟩, rfl⟩
theorem cms_of {a : Option Addr} {n c : Nat} {r : List Cm} (hs : SlAt eD W a n c r) (h : ∀ u ∈ r, ∃ d, IsCm W u d) : ∃ l, Cms W a n c r l := by
  have key : ∀ r : List Cm, (∀ u ∈ r, ∃ d, IsCm W u d) → ∃ l : List Cd, r.length = l.length ∧ ∀ (i : Nat) (x : Cm) (y : Cd), r[i]? = some x → l[i]? = some y → IsCm W x y := by
    intro r
    induction r with
    | nil => exact fun _ => ⟨[], rfl, fun i x y hx => by simp at hx⟩
    | cons x r ih =>
      intro h
      obtain ⟨l, hl, ha⟩ := ih fun u hu => h u (List.mem_cons_of_mem _ hu)
      obtain ⟨d, hd⟩ := h x (List.mem_cons_self ..)
      refine ⟨d :: l, by simp [hl], fun i u v hu hv => ?_⟩
      cases i with
      | zero => simp at hu hv; subst hu hv; exact hd
      | succ i => simp at hu hv; exact ha i u v hu hv
  obtain ⟨l, h1, h2⟩ := key r h
  exact ⟨l, hs, h1, h2⟩
theorem open_mapv {base : Nat} {v : Value} {dd : DataW H} {pl : List MemPlace} (hv : Value.okWide Try.prog W .any base 40 v) (h : DataW.Trod enc Try.prog W 0 (fun _ => true) true 40 v dd pl) : ∃ x : Mp, v = .agg x.cs := by
  obtain ⟨cs, rfl, hsz, _⟩ : ∃ cs, v = .agg cs ∧ cs.size = Try.prog.cellsOf 40 ∧ Row.okWide Try.prog W .any base 40 cs := by
    simpa [Value.okWide, Try.underlying40] using hv
  obtain ⟨l⟩ := cs
  obtain ⟨fuel, hf⟩ := h
  have hf : DataW.trod enc Try.prog W 0 (fun _ => true) true fuel 40 l = some (dd, pl) := hf
  obtain ⟨u, _, rfl⟩ := open_map hf
  exact ⟨u, rfl⟩
theorem open_carryv {base : Nat} {v : Value} {dd : DataW H} {pl : List MemPlace} (hv : Value.okWide Try.prog W .any base 42 v) (h : DataW.Trod enc Try.prog W 0 (fun _ => true) true 42 v dd pl) : ∃ x : Cr, v = .agg x.cs := by
  obtain ⟨cs, rfl, hsz, _⟩ : ∃ cs, v = .agg cs ∧ cs.size = Try.prog.cellsOf 42 ∧ Row.okWide Try.prog W .any base 42 cs := by
    simpa [Value.okWide, Try.underlying42] using hv
  obtain ⟨l⟩ := cs
  obtain ⟨fuel, hf⟩ := h
  have hf : DataW.trod enc Try.prog W 0 (fun _ => true) true fuel 42 l = some (dd, pl) := hf
  obtain ⟨u, _, rfl⟩ := open_carry hf
  exact ⟨u, rfl⟩
theorem open_member {base : Nat} {v : Value} {dd : DataW H} {pl : List MemPlace} (hv : Value.okWide Try.prog W .any base 38 v) (h : DataW.Trod enc Try.prog W 0 (fun _ => true) true 38 v dd pl) : ∃ (x : Mr) (y : List Int), v = .agg x.cs ∧ SlAt eI W x.a x.n x.c y := by
  obtain ⟨cs, rfl, hsz, _⟩ : ∃ cs, v = .agg cs ∧ cs.size = Try.prog.cellsOf 38 ∧ Row.okWide Try.prog W .any base 38 cs := by
    simpa [Value.okWide, Try.underlying38] using hv
  obtain ⟨l⟩ := cs
  obtain ⟨fuel, hf⟩ := h
  have hf : DataW.trod enc Try.prog W 0 (fun _ => true) true fuel 38 l = some (dd, pl) := hf
  obtain ⟨u, ⟨l, hl⟩, rfl⟩ := open_mem hf
  exact ⟨u, l, rfl, hl⟩
theorem open_cmd {base : Nat} {v : Value} {dd : DataW H} {pl : List MemPlace} (hv : Value.okWide Try.prog W .any base 48 v) (h : DataW.Trod enc Try.prog W 0 (fun _ => true) true 48 v dd pl) : ∃ (x : Cm) (y : Cd), v = .agg x.cs ∧ IsCm W x y := by
  obtain ⟨cs, rfl, hsz, _⟩ : ∃ cs, v = .agg cs ∧ cs.size = Try.prog.cellsOf 48 ∧ Row.okWide Try.prog W .any base 48 cs := by
    simpa [Value.okWide, Try.underlying48] using hv
  obtain ⟨l⟩ := cs
  obtain ⟨fuel, hf⟩ := h
  have hf : DataW.trod enc Try.prog W 0 (fun _ => true) true fuel 48 l = some (dd, pl) := hf
  obtain ⟨u, ⟨d, hd⟩, rfl⟩ := open_cmd0 hf
  exact ⟨u, d, rfl, hd⟩
theorem open_cmds {base : Nat} {v : Value} {dd : DataW H} {pl : List MemPlace} (hv : Value.okWide Try.prog W .any base 51 v) (h : DataW.Trod enc Try.prog W 0 (fun _ => true) true 51 v dd pl) :
    ∃ (a : Option Addr) (n c : Nat) (r : List Cm) (l : List Cd), v = .slice a n c ∧ Cms W a n c r l := by
  obtain ⟨a0, n0, c0, rfl⟩ := okWide_slice kD.slc hv
  obtain ⟨fuel, hf⟩ := h
  have : Inhabited Cm := ⟨zD⟩
  have hf' : DataW.trod enc Try.prog W 0 (fun _ => true) true fuel 51 [Value.slice a0 n0 c0] = some (dd, pl) := hf
  obtain ⟨a, n, c, r, e, hs, hp⟩ := open_tr (e := eD) kD cellsD (fun u => ∃ d, IsCm W u d) (fun m cs r hr => open_cmd0 hr) hf'
  obtain ⟨l, hl⟩ := cms_of hs hp
  exact ⟨a, n, c, r, l, e, hl⟩
end Go.Proofs.Ytmfjlhcobhilcab
