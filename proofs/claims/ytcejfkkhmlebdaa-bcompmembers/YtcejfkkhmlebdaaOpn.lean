/-
  What is provisioned, frames, gates, members that are handed in; closed facts of the program.
-/
import Derived.Test.YtcejfkkhmlebdaaBf
import Derived.Handy
import Derived.OpenShut
import Derived.ChangeSlices
import Derived.ShutString
import Derived.ChangeOld
import Derived.Deep.Slices
namespace Go.Proofs.Ytcejfkkhmlebdaa
set_option linter.unusedVariables false
set_option maxRecDepth 4000
open Go.ChangeShapes Go.WideShapes Go.ChangeAt Go.RowKit

theorem laidOut : laidOutB Try.prog = true := by kernel_rfl
theorem own : ownKnob Try.prog.godebug = none := by kernel_rfl
theorem cells_at {W : World} {base : Nat} {a : Addr} {n : Nat} {cs : List Value} (h : W.cells? base a n = some cs) (j : Nat) (x : Value) (hj : cs[j]? = some x) : W.cell? (a.add j) = some x := by
  unfold World.cells? at h
  split at h
  · have hl := mapM_some_length h
    rw [List.length_range] at hl
    have hjn : j < n := by rw [← hl]; exact (List.getElem?_eq_some_iff.1 hj).1
    have := mapM_some_get h j j (by rw [List.getElem?_range hjn])
    rw [this]
    exact hj
  · cases h
theorem open_tr {α : Type} [Inhabited α] {e : El α} (ke : e.Ok) (hK : Try.prog.cellsOf e.ty = e.K) (P : α → Prop) {H : Type} {enc : TypeId × Value → H} {W : World} {v : Value} {fuel : Nat} {r0 : DataW H × List MemPlace}
    (hel0 : ∀ (m : Nat) (cs : List Value) (r : DataW H × List MemPlace), DataW.trod enc Try.prog W 0 (fun _ => true) true m e.ty cs = some r → ∃ u : α, P u ∧ cs = (e.f u).toList)
    (hf : DataW.trod enc Try.prog W 0 (fun _ => true) true fuel e.st [v] = some r0) :
    ∃ (a : Option Addr) (n c : Nat) (l : List α), v = .slice a n c ∧ SlAt e W a n c l ∧ ∀ u ∈ l, P u := by
  rcases Go.Deep.open_slice ke.slc hf with ⟨hcs, _⟩ | ⟨a, len, cap, m, k, D, Pl, hcs, _, hl, hm, hmm, _, hel⟩
  · simp at hcs
    exact ⟨none, 0, 0, [], hcs, SlAt.none' W, by simp⟩
  · simp at hcs
    have hmm' : m = cap := by simpa using hmm
    have key : ∀ i, i < len → ∃ u : α, P u ∧ ∀ j x, (e.f u).toList[j]? = some x → W.cell? ((a.add (i * e.K)).add j) = some x := by
      intro i hi
      obtain ⟨cs', h1, h2⟩ := hel i (by omega)
      rw [hK] at h1
      obtain ⟨u, hu, rfl⟩ := hel0 k cs' _ h2
      exact ⟨u, hu, fun j x hj => cells_at h1 j x hj⟩
    obtain ⟨V, hV⟩ := Go.Deep.choose_lt key
    refine ⟨some a, len, cap, (List.range len).map V, hcs, ⟨by simp, hl, hm, (fun e => by cases e), fun x e' h0 => ?_⟩, fun u hu => ?_⟩
    · cases e'
      have hp := ke.pos
      have hs0 : 0 < (e.f (V 0)).toList.length := by rw [ke.len]; exact hp
      have hc := (hV 0 h0).2 0 _ (List.getElem?_eq_getElem hs0)
      obtain ⟨b, o, sp⟩ := a
      have hsp : sp = none := by simpa [Addr.add] using World.cell?_spot hc
      subst hsp
      refine ⟨b, o, rfl, fun j u hj => ?_⟩
      rw [El.fl_get ke] at hj
      obtain ⟨p, hp', hu⟩ := Option.bind_eq_some_iff.1 hj
      have hjl : j / e.K < len := by
        have := (List.getElem?_eq_some_iff.1 hp').1
        simpa using this
      have hpe : p = V (j / e.K) := by
        rw [List.getElem?_map, List.getElem?_range hjl] at hp'
        simpa using hp'.symm
      subst hpe
      have := (hV (j / e.K) hjl).2 (j % e.K) u hu
      rw [Addr.add_lit, Addr.add_lit] at this
      have hdm := Nat.div_add_mod j e.K
      rw [Nat.mul_comm] at hdm
      rw [show o + j = o + j / e.K * e.K + j % e.K by omega]
      exact this
    · obtain ⟨i, hi, rfl⟩ := List.mem_map.1 hu
      exact (hV i (List.mem_range.1 hi)).1
theorem cellsI : Try.prog.cellsOf 3 = 1 := by kernel_rfl
theorem cellsK : Try.prog.cellsOf 91 = 1 := by kernel_rfl
theorem cellsM : Try.prog.cellsOf 100 = 3 := by kernel_rfl
theorem cellsC : Try.prog.cellsOf 70 = 2 := by kernel_rfl
theorem cellsB : Try.prog.cellsOf 68 = 2 := by kernel_rfl
theorem cellsP : Try.prog.cellsOf 48 = 10 := by kernel_rfl
theorem cellsF : Try.prog.cellsOf 55 = 32 := by kernel_rfl
theorem cellsG : Try.prog.cellsOf 37 = 2 := by kernel_rfl
def kdM3 : List (Option IntKind) := [some .i64, some .i64, some .i64]
def kdC2 : List (Option IntKind) := [some .i64, some .i64]
theorem kindsM3 : kindsOf Try.prog 6 100 = some kdM3 := by kernel_rfl
theorem kindsC2 : kindsOf Try.prog 6 70 = some kdC2 := by kernel_rfl
variable {H : Type} {enc : TypeId × Value → H} {W : World}
theorem open_map {m : Nat} {cs : List Value} {r : DataW H × List MemPlace} (hr : DataW.trod enc Try.prog W 0 (fun _ => true) true m 100 cs = some r) : ∃ u : Mp, True ∧ cs = (eM.f u).toList := by
  have hf := fits_of_trod enc Try.prog W 0 _ 6 m _ kdM3 cs _ kindsM3 hr
  have hl := hf.len
  match cs, hl with
  | [c0, c1, c2], _ =>
    obtain ⟨x0, rfl, _⟩ := hf.at' 0 _ c0 rfl rfl
    obtain ⟨x1, rfl, _⟩ := hf.at' 1 _ c1 rfl rfl
    obtain ⟨x2, rfl, _⟩ := hf.at' 2 _ c2 rfl rfl
    exact ⟨⟨x0, x1, x2⟩, trivial, rfl⟩
theorem open_carry {m : Nat} {cs : List Value} {r : DataW H × List MemPlace} (hr : DataW.trod enc Try.prog W 0 (fun _ => true) true m 70 cs = some r) : ∃ u : Cr, True ∧ cs = (eC.f u).toList := by
  have hf := fits_of_trod enc Try.prog W 0 _ 6 m _ kdC2 cs _ kindsC2 hr
  have hl := hf.len
  match cs, hl with
  | [c0, c1], _ =>
    obtain ⟨x0, rfl, _⟩ := hf.at' 0 _ c0 rfl rfl
    obtain ⟨x1, rfl, _⟩ := hf.at' 1 _ c1 rfl rfl
    exact ⟨⟨x0, x1⟩, trivial, rfl⟩
theorem open_ints' {v : Value} {fuel : Nat} {r0 : DataW H × List MemPlace} (hf : DataW.trod enc Try.prog W 0 (fun _ => true) true fuel 59 [v] = some r0) : ∃ (a : Option Addr) (n c : Nat) (l : List Int), v = .slice a n c ∧ SlAt eI W a n c l := by
  obtain ⟨a, n, c, l, h1, h2, _⟩ := open_tr (e := eI) kI cellsI (fun _ => True) (fun m cs r hr => by
    obtain ⟨x, rfl, _, hw⟩ := DataW.trod_int Try.underlying3 hr
    exact ⟨x, trivial, rfl⟩) hf
  exact ⟨a, n, c, l, h1, h2⟩
theorem open_mem {m : Nat} {cs : List Value} {r : DataW H × List MemPlace} (hr : DataW.trod enc Try.prog W 0 (fun _ => true) true m 68 cs = some r) : ∃ u : Mr, (∃ l, SlAt eI W u.a u.n u.c l) ∧ cs = (eB.f u).toList := by
  obtain ⟨y0, y1, k, _, hl, h0, h1⟩ := trod_struct2 Try.underlying68 hr
  rw [cellsB] at hl
  match cs, hl with
  | [c0, c1], _ =>
    have h0' : DataW.trod enc Try.prog W 0 (fun _ => true) true k 3 [c0] = some y0 := by
      have h : ([c0, c1].drop 0).take (Try.prog.cellsOf 3) = [c0] := by rw [cellsI]; rfl
      rw [← h]
      exact h0
    obtain ⟨x0, e0, _⟩ := DataW.trod_int Try.underlying3 h0'
    have h1' : DataW.trod enc Try.prog W 0 (fun _ => true) true k 59 [c1] = some y1 := by
      have h : ([c0, c1].drop 1).take (Try.prog.cellsOf 59) = [c1] := by rw [show Try.prog.cellsOf 59 = 1 by kernel_rfl]; rfl
      rw [← h]
      exact h1
    obtain ⟨a, n, c, l, rfl, hs⟩ := open_ints' h1'
    simp at e0
    subst e0
    exact ⟨⟨x0, a, n, c⟩, ⟨l, hs⟩, rfl⟩
theorem mem_of {r : List Mr} (h : ∀ u ∈ r, ∃ l, SlAt eI W u.a u.n u.c l) : ∃ l, Mem W r l := by
  induction r with
  | nil => exact ⟨[], Mem.nil _⟩
  | cons x r ih =>
    obtain ⟨l, hl⟩ := ih fun u hu => h u (List.mem_cons_of_mem _ hu)
    obtain ⟨ps, hps⟩ := h x (List.mem_cons_self ..)
    exact ⟨[⟨x.v, ps⟩] ++ l, Mem.app (r := [x]) (Mem.one rfl hps) hl⟩
theorem cells8 : Try.prog.cellsOf 5 = 1 := by kernel_rfl
theorem open_six {fuel : Nat} {c0 c1 c2 c3 c4 c5 : Value} {r : DataW H × List MemPlace} (hf : DataW.trod enc Try.prog W 0 (fun _ => true) true fuel 42 [c0, c1, c2, c3, c4, c5] = some r) :
    ∃ u : O6, c0 = .int .u8 u.a ∧ c1 = .int .u8 u.b ∧ c2 = .int .u8 u.c ∧ c3 = .int .u8 u.d ∧ c4 = .int .u8 u.e ∧ c5 = .int .u8 u.f ∧ u.wf := by
  obtain ⟨xs, m, _, _, _, hl, hg⟩ := DataW.trod_array Try.underlying42 hf
  simp only [cells8] at hg
  have get : ∀ (i : Nat) (cv : Value), i < 6 → (([c0, c1, c2, c3, c4, c5] : List Value).drop (i * 1)).take 1 = [cv] → ∃ n : Int, cv = .int .u8 n ∧ 0 ≤ n ∧ n ≤ 255 := by
    intro i cv hi e
    have := hg i hi
    rw [e] at this
    rw [List.getElem?_eq_getElem (by omega)] at this
    obtain ⟨n, e1, _, wn⟩ := DataW.trod_int Try.underlying5 this
    simp at e1
    exact ⟨n, e1, bounds_u8 wn⟩
  obtain ⟨n0, rfl, g0⟩ := get 0 c0 (by omega) rfl
  obtain ⟨n1, rfl, g1⟩ := get 1 c1 (by omega) rfl
  obtain ⟨n2, rfl, g2⟩ := get 2 c2 (by omega) rfl
  obtain ⟨n3, rfl, g3⟩ := get 3 c3 (by omega) rfl
  obtain ⟨n4, rfl, g4⟩ := get 4 c4 (by omega) rfl
  obtain ⟨n5, rfl, g5⟩ := get 5 c5 (by omega) rfl
  exact ⟨⟨n0, n1, n2, n3, n4, n5⟩, rfl, rfl, rfl, rfl, rfl, rfl, g0⟩
theorem open_n {k : IntKind} {t : TypeId} {fuel : Nat} {c : Value} {r : DataW H × List MemPlace} (hu : Try.prog.underlying t = some (.int k)) (hf : DataW.trod enc Try.prog W 0 (fun _ => true) true fuel t [c] = some r) : ∃ n : Int, c = .int k n := by
  obtain ⟨n, e, _⟩ := DataW.trod_int hu hf
  simp at e
  exact ⟨n, e⟩
theorem open_prov {base : Nat} {v : Value} {dd : DataW H} {pl : List MemPlace} (hv : Value.okWide Try.prog W .any base 48 v) (h : DataW.Trod enc Try.prog W 0 (fun _ => true) true 48 v dd pl) :
    ∃ (x : Pr) (p : Pv), v = .agg x.cs ∧ IsPv W x p := by
  obtain ⟨cs, rfl, hsz, _⟩ : ∃ cs, v = .agg cs ∧ cs.size = Try.prog.cellsOf 48 ∧ Row.okWide Try.prog W .any base 48 cs := by
    simpa [Value.okWide, Try.underlying48] using hv
  rw [cellsP] at hsz
  obtain ⟨l⟩ := cs
  obtain ⟨fuel, hf⟩ := h
  match l, hsz with
  | [c0, c1, c2, c3, c4, c5, c6, c7, c8, c9], _ =>
    obtain ⟨xs, m, _, _, _, hl, hg⟩ := DataW.trod_struct Try.underlying48 hf
    have hl' : xs.length = 5 := hl
    have g0 : DataW.trod enc Try.prog W 0 (fun _ => true) true m 42 (([c0, c1, c2, c3, c4, c5, c6, c7, c8, c9].drop 0).take (Try.prog.cellsOf 42)) = xs[0]? := hg 0 _ rfl
    have g1 : DataW.trod enc Try.prog W 0 (fun _ => true) true m 43 (([c0, c1, c2, c3, c4, c5, c6, c7, c8, c9].drop 6).take (Try.prog.cellsOf 43)) = xs[1]? := hg 1 _ rfl
    have g2 : DataW.trod enc Try.prog W 0 (fun _ => true) true m 44 (([c0, c1, c2, c3, c4, c5, c6, c7, c8, c9].drop 7).take (Try.prog.cellsOf 44)) = xs[2]? := hg 2 _ rfl
    have g3 : DataW.trod enc Try.prog W 0 (fun _ => true) true m 45 (([c0, c1, c2, c3, c4, c5, c6, c7, c8, c9].drop 8).take (Try.prog.cellsOf 45)) = xs[3]? := hg 3 _ rfl
    have g4 : DataW.trod enc Try.prog W 0 (fun _ => true) true m 46 (([c0, c1, c2, c3, c4, c5, c6, c7, c8, c9].drop 9).take (Try.prog.cellsOf 46)) = xs[4]? := hg 4 _ rfl
    rw [List.getElem?_eq_getElem (by omega)] at g0 g1 g2 g3 g4
    rw [show Try.prog.cellsOf 42 = 6 by kernel_rfl] at g0
    rw [show Try.prog.cellsOf 43 = 1 by kernel_rfl] at g1
    rw [show Try.prog.cellsOf 44 = 1 by kernel_rfl] at g2
    rw [show Try.prog.cellsOf 45 = 1 by kernel_rfl] at g3
    rw [show Try.prog.cellsOf 46 = 1 by kernel_rfl] at g4
    have g0 : DataW.trod enc Try.prog W 0 (fun _ => true) true m 42 [c0, c1, c2, c3, c4, c5] = some xs[0] := g0
    have g1 : DataW.trod enc Try.prog W 0 (fun _ => true) true m 43 [c6] = some xs[1] := g1
    have g2 : DataW.trod enc Try.prog W 0 (fun _ => true) true m 44 [c7] = some xs[2] := g2
    have g3 : DataW.trod enc Try.prog W 0 (fun _ => true) true m 45 [c8] = some xs[3] := g3
    have g4 : DataW.trod enc Try.prog W 0 (fun _ => true) true m 46 [c9] = some xs[4] := g4
    obtain ⟨u0, rfl, rfl, rfl, rfl, rfl, rfl, w0⟩ := open_six g0
    obtain ⟨a1, n1, k1, l1, rfl, s1, _⟩ := open_tr (e := eK) kK cellsK (fun _ => True) (fun m cs r hr => by
      obtain ⟨x, rfl, _, hw⟩ := DataW.trod_int Try.underlying91 hr
      exact ⟨x, trivial, rfl⟩) g1
    have : Inhabited Mp := ⟨⟨0, 0, 0⟩⟩
    have : Inhabited Cr := ⟨⟨0, 0⟩⟩
    have : Inhabited Mr := ⟨⟨0, none, 0, 0⟩⟩
    obtain ⟨a2, n2, k2, l2, rfl, s2, _⟩ := open_tr (e := eM) kM cellsM (fun _ => True) (fun m cs r hr => open_map hr) g2
    obtain ⟨a3, n3, k3, l3, rfl, s3, _⟩ := open_tr (e := eC) kC cellsC (fun _ => True) (fun m cs r hr => open_carry hr) g3
    obtain ⟨a4, n4, k4, l4, rfl, s4, p4⟩ := open_tr (e := eB) kB cellsB (fun u => ∃ l, SlAt eI W u.a u.n u.c l) (fun m cs r hr => open_mem hr) g4
    obtain ⟨bs, hb⟩ := mem_of p4
    exact ⟨⟨u0, .slice a1 n1 k1, .slice a2 n2 k2, .slice a3 n3 k3, .slice a4 n4 k4⟩, ⟨u0, l1, l2, l3, bs⟩, rfl, ⟨rfl, w0, s1.slv, s2.slv, s3.slv, l4, s4.slv, hb⟩⟩
theorem open_b {t : TypeId} {fuel : Nat} {c : Value} {r : DataW H × List MemPlace} (hu : Try.prog.underlying t = some .bool) (hf : DataW.trod enc Try.prog W 0 (fun _ => true) true fuel t [c] = some r) : ∃ b : Bool, c = .bool b := by
  obtain ⟨b, e, _⟩ := DataW.trod_bool hu hf
  simp at e
  exact ⟨b, e⟩
theorem open_carryv {base : Nat} {v : Value} {dd : DataW H} {pl : List MemPlace} (hv : Value.okWide Try.prog W .any base 70 v) (h : DataW.Trod enc Try.prog W 0 (fun _ => true) true 70 v dd pl) : ∃ x : Cr, v = .agg x.cs := by
  obtain ⟨cs, rfl, hsz, _⟩ : ∃ cs, v = .agg cs ∧ cs.size = Try.prog.cellsOf 70 ∧ Row.okWide Try.prog W .any base 70 cs := by
    simpa [Value.okWide, Try.underlying70] using hv
  obtain ⟨l⟩ := cs
  obtain ⟨fuel, hf⟩ := h
  have hf : DataW.trod enc Try.prog W 0 (fun _ => true) true fuel 70 l = some (dd, pl) := hf
  obtain ⟨u, _, rfl⟩ := open_carry hf
  exact ⟨u, rfl⟩
theorem open_member {base : Nat} {v : Value} {dd : DataW H} {pl : List MemPlace} (hv : Value.okWide Try.prog W .any base 68 v) (h : DataW.Trod enc Try.prog W 0 (fun _ => true) true 68 v dd pl) : ∃ (x : Mr) (y : List Int), v = .agg x.cs ∧ SlAt eI W x.a x.n x.c y := by
  obtain ⟨cs, rfl, hsz, _⟩ : ∃ cs, v = .agg cs ∧ cs.size = Try.prog.cellsOf 68 ∧ Row.okWide Try.prog W .any base 68 cs := by
    simpa [Value.okWide, Try.underlying68] using hv
  obtain ⟨l⟩ := cs
  obtain ⟨fuel, hf⟩ := h
  have hf : DataW.trod enc Try.prog W 0 (fun _ => true) true fuel 68 l = some (dd, pl) := hf
  obtain ⟨u, ⟨l, hl⟩, rfl⟩ := open_mem hf
  exact ⟨u, l, rfl, hl⟩
theorem open_tag {m0 : Nat} {c0 c1 c2 : Value} {r : DataW H × List MemPlace} (hr : DataW.trod enc Try.prog W 0 (fun _ => true) true m0 50 [c0, c1, c2] = some r) :
    ∃ (p : Int) (e : Bool) (v : Int), c0 = .int .i64 p ∧ c1 = .bool e ∧ c2 = .int .i64 v := by
    obtain ⟨xs, m, _, _, _, hl, hg⟩ := DataW.trod_struct Try.underlying50 hr
    have hl' : xs.length = 3 := hl
    have g00 : DataW.trod enc Try.prog W 0 (fun _ => true) true m 3 ((([c0, c1, c2] : List Value).drop 0).take (Try.prog.cellsOf 3)) = xs[0]? := hg 0 _ rfl
    rw [List.getElem?_eq_getElem (by omega), show Try.prog.cellsOf 3 = 1 by kernel_rfl] at g00
    have g0 : DataW.trod enc Try.prog W 0 (fun _ => true) true m 3 [c0] = some xs[0] := g00
    have g10 : DataW.trod enc Try.prog W 0 (fun _ => true) true m 4 ((([c0, c1, c2] : List Value).drop 1).take (Try.prog.cellsOf 4)) = xs[1]? := hg 1 _ rfl
    rw [List.getElem?_eq_getElem (by omega), show Try.prog.cellsOf 4 = 1 by kernel_rfl] at g10
    have g1 : DataW.trod enc Try.prog W 0 (fun _ => true) true m 4 [c1] = some xs[1] := g10
    have g20 : DataW.trod enc Try.prog W 0 (fun _ => true) true m 3 ((([c0, c1, c2] : List Value).drop 2).take (Try.prog.cellsOf 3)) = xs[2]? := hg 2 _ rfl
    rw [List.getElem?_eq_getElem (by omega), show Try.prog.cellsOf 3 = 1 by kernel_rfl] at g20
    have g2 : DataW.trod enc Try.prog W 0 (fun _ => true) true m 3 [c2] = some xs[2] := g20
    obtain ⟨n0, rfl⟩ := open_n Try.underlying3 g0
    obtain ⟨b1, rfl⟩ := open_b Try.underlying4 g1
    obtain ⟨n2, rfl⟩ := open_n Try.underlying3 g2
    exact ⟨n0, b1, n2, rfl, rfl, rfl⟩
theorem open_itag {m0 : Nat} {c0 c1 c2 c3 c4 c5 c6 c7 c8 c9 c10 c11 c12 c13 c14 c15 : Value} {r : DataW H × List MemPlace} (hr : DataW.trod enc Try.prog W 0 (fun _ => true) true m0 52 [c0, c1, c2, c3, c4, c5, c6, c7, c8, c9, c10, c11, c12, c13, c14, c15] = some r) :
    ∃ (q : Int) (g u : Bool) (i : Int) (x y : O6), c0 = .int .i64 q ∧ c1 = .bool g ∧ c2 = .bool u ∧ c3 = .int .i64 i ∧ c4 = .int .u8 x.a ∧ c5 = .int .u8 x.b ∧ c6 = .int .u8 x.c ∧ c7 = .int .u8 x.d ∧ c8 = .int .u8 x.e ∧ c9 = .int .u8 x.f ∧ c10 = .int .u8 y.a ∧ c11 = .int .u8 y.b ∧ c12 = .int .u8 y.c ∧ c13 = .int .u8 y.d ∧ c14 = .int .u8 y.e ∧ c15 = .int .u8 y.f := by
    obtain ⟨xs, m, _, _, _, hl, hg⟩ := DataW.trod_struct Try.underlying52 hr
    have hl' : xs.length = 6 := hl
    have g00 : DataW.trod enc Try.prog W 0 (fun _ => true) true m 3 ((([c0, c1, c2, c3, c4, c5, c6, c7, c8, c9, c10, c11, c12, c13, c14, c15] : List Value).drop 0).take (Try.prog.cellsOf 3)) = xs[0]? := hg 0 _ rfl
    rw [List.getElem?_eq_getElem (by omega), show Try.prog.cellsOf 3 = 1 by kernel_rfl] at g00
    have g0 : DataW.trod enc Try.prog W 0 (fun _ => true) true m 3 [c0] = some xs[0] := g00
    have g10 : DataW.trod enc Try.prog W 0 (fun _ => true) true m 4 ((([c0, c1, c2, c3, c4, c5, c6, c7, c8, c9, c10, c11, c12, c13, c14, c15] : List Value).drop 1).take (Try.prog.cellsOf 4)) = xs[1]? := hg 1 _ rfl
    rw [List.getElem?_eq_getElem (by omega), show Try.prog.cellsOf 4 = 1 by kernel_rfl] at g10
    have g1 : DataW.trod enc Try.prog W 0 (fun _ => true) true m 4 [c1] = some xs[1] := g10
    have g20 : DataW.trod enc Try.prog W 0 (fun _ => true) true m 4 ((([c0, c1, c2, c3, c4, c5, c6, c7, c8, c9, c10, c11, c12, c13, c14, c15] : List Value).drop 2).take (Try.prog.cellsOf 4)) = xs[2]? := hg 2 _ rfl
    rw [List.getElem?_eq_getElem (by omega), show Try.prog.cellsOf 4 = 1 by kernel_rfl] at g20
    have g2 : DataW.trod enc Try.prog W 0 (fun _ => true) true m 4 [c2] = some xs[2] := g20
    have g30 : DataW.trod enc Try.prog W 0 (fun _ => true) true m 3 ((([c0, c1, c2, c3, c4, c5, c6, c7, c8, c9, c10, c11, c12, c13, c14, c15] : List Value).drop 3).take (Try.prog.cellsOf 3)) = xs[3]? := hg 3 _ rfl
    rw [List.getElem?_eq_getElem (by omega), show Try.prog.cellsOf 3 = 1 by kernel_rfl] at g30
    have g3 : DataW.trod enc Try.prog W 0 (fun _ => true) true m 3 [c3] = some xs[3] := g30
    have g40 : DataW.trod enc Try.prog W 0 (fun _ => true) true m 42 ((([c0, c1, c2, c3, c4, c5, c6, c7, c8, c9, c10, c11, c12, c13, c14, c15] : List Value).drop 4).take (Try.prog.cellsOf 42)) = xs[4]? := hg 4 _ rfl
    rw [List.getElem?_eq_getElem (by omega), show Try.prog.cellsOf 42 = 6 by kernel_rfl] at g40
    have g4 : DataW.trod enc Try.prog W 0 (fun _ => true) true m 42 [c4, c5, c6, c7, c8, c9] = some xs[4] := g40
    have g50 : DataW.trod enc Try.prog W 0 (fun _ => true) true m 42 ((([c0, c1, c2, c3, c4, c5, c6, c7, c8, c9, c10, c11, c12, c13, c14, c15] : List Value).drop 10).take (Try.prog.cellsOf 42)) = xs[5]? := hg 5 _ rfl
    rw [List.getElem?_eq_getElem (by omega), show Try.prog.cellsOf 42 = 6 by kernel_rfl] at g50
    have g5 : DataW.trod enc Try.prog W 0 (fun _ => true) true m 42 [c10, c11, c12, c13, c14, c15] = some xs[5] := g50
    obtain ⟨n0, rfl⟩ := open_n Try.underlying3 g0
    obtain ⟨b1, rfl⟩ := open_b Try.underlying4 g1
    obtain ⟨b2, rfl⟩ := open_b Try.underlying4 g2
    obtain ⟨n3, rfl⟩ := open_n Try.underlying3 g3
    obtain ⟨x, rfl, rfl, rfl, rfl, rfl, rfl, _⟩ := open_six g4
    obtain ⟨y, rfl, rfl, rfl, rfl, rfl, rfl, _⟩ := open_six g5
    exact ⟨n0, b1, b2, n3, x, y, rfl, rfl, rfl, rfl, rfl, rfl, rfl, rfl, rfl, rfl, rfl, rfl, rfl, rfl, rfl, rfl⟩
theorem open_rest {fuel : Nat} {v : Value} {r : DataW H × List MemPlace} (hf : DataW.trod enc Try.prog W 0 (fun _ => true) true fuel 53 [v] = some r) : v.oneCell' = true := by
  rcases Go.Deep.open_slice Try.underlying53 hf with ⟨hcs, _⟩ | ⟨a, len, cap, m, k, D, Pl, hcs, _⟩
  · simp at hcs
    rw [hcs]
    rfl
  · simp at hcs
    rw [hcs]
    rfl
theorem list32 {l : List Value} (h : l.length = 32) : ∃ c0 c1 c2 c3 c4 c5 c6 c7 c8 c9 c10 c11 c12 c13 c14 c15 c16 c17 c18 c19 c20 c21 c22 c23 c24 c25 c26 c27 c28 c29 c30 c31, l = [c0, c1, c2, c3, c4, c5, c6, c7, c8, c9, c10, c11, c12, c13, c14, c15, c16, c17, c18, c19, c20, c21, c22, c23, c24, c25, c26, c27, c28, c29, c30, c31] := by
  match l, h with
  | [c0, c1, c2, c3, c4, c5, c6, c7, c8, c9, c10, c11, c12, c13, c14, c15, c16, c17, c18, c19, c20, c21, c22, c23, c24, c25, c26, c27, c28, c29, c30, c31], _ => exact ⟨c0, c1, c2, c3, c4, c5, c6, c7, c8, c9, c10, c11, c12, c13, c14, c15, c16, c17, c18, c19, c20, c21, c22, c23, c24, c25, c26, c27, c28, c29, c30, c31, rfl⟩
set_option maxHeartbeats 1000000 in
theorem open_bframe {base : Nat} {v : Value} {dd : DataW H} {pl : List MemPlace} (hv : Value.okWide Try.prog W .any base 55 v) (h : DataW.Trod enc Try.prog W 0 (fun _ => true) true 55 v dd pl) :
    ∃ f : Bf, v = .agg f.cs ∧ f.ok := by
    obtain ⟨cs, rfl, hsz, _⟩ : ∃ cs, v = .agg cs ∧ cs.size = Try.prog.cellsOf 55 ∧ Row.okWide Try.prog W .any base 55 cs := by
      simpa [Value.okWide, Try.underlying55] using hv
    rw [cellsF] at hsz
    obtain ⟨l⟩ := cs
    obtain ⟨c0, c1, c2, c3, c4, c5, c6, c7, c8, c9, c10, c11, c12, c13, c14, c15, c16, c17, c18, c19, c20, c21, c22, c23, c24, c25, c26, c27, c28, c29, c30, c31, rfl⟩ := list32 (show l.length = 32 from hsz)
    obtain ⟨fuel, hf⟩ := h
    obtain ⟨xs, m, _, _, _, hl, hg⟩ := DataW.trod_struct Try.underlying55 hf
    have hl' : xs.length = 5 := hl
    have g00 : DataW.trod enc Try.prog W 0 (fun _ => true) true m 42 ((([c0, c1, c2, c3, c4, c5, c6, c7, c8, c9, c10, c11, c12, c13, c14, c15, c16, c17, c18, c19, c20, c21, c22, c23, c24, c25, c26, c27, c28, c29, c30, c31] : List Value).drop 0).take (Try.prog.cellsOf 42)) = xs[0]? := hg 0 _ rfl
    rw [List.getElem?_eq_getElem (by omega), show Try.prog.cellsOf 42 = 6 by kernel_rfl] at g00
    have g0 : DataW.trod enc Try.prog W 0 (fun _ => true) true m 42 [c0, c1, c2, c3, c4, c5] = some xs[0] := g00
    have g10 : DataW.trod enc Try.prog W 0 (fun _ => true) true m 42 ((([c0, c1, c2, c3, c4, c5, c6, c7, c8, c9, c10, c11, c12, c13, c14, c15, c16, c17, c18, c19, c20, c21, c22, c23, c24, c25, c26, c27, c28, c29, c30, c31] : List Value).drop 6).take (Try.prog.cellsOf 42)) = xs[1]? := hg 1 _ rfl
    rw [List.getElem?_eq_getElem (by omega), show Try.prog.cellsOf 42 = 6 by kernel_rfl] at g10
    have g1 : DataW.trod enc Try.prog W 0 (fun _ => true) true m 42 [c6, c7, c8, c9, c10, c11] = some xs[1] := g10
    have g20 : DataW.trod enc Try.prog W 0 (fun _ => true) true m 50 ((([c0, c1, c2, c3, c4, c5, c6, c7, c8, c9, c10, c11, c12, c13, c14, c15, c16, c17, c18, c19, c20, c21, c22, c23, c24, c25, c26, c27, c28, c29, c30, c31] : List Value).drop 12).take (Try.prog.cellsOf 50)) = xs[2]? := hg 2 _ rfl
    rw [List.getElem?_eq_getElem (by omega), show Try.prog.cellsOf 50 = 3 by kernel_rfl] at g20
    have g2 : DataW.trod enc Try.prog W 0 (fun _ => true) true m 50 [c12, c13, c14] = some xs[2] := g20
    have g30 : DataW.trod enc Try.prog W 0 (fun _ => true) true m 52 ((([c0, c1, c2, c3, c4, c5, c6, c7, c8, c9, c10, c11, c12, c13, c14, c15, c16, c17, c18, c19, c20, c21, c22, c23, c24, c25, c26, c27, c28, c29, c30, c31] : List Value).drop 15).take (Try.prog.cellsOf 52)) = xs[3]? := hg 3 _ rfl
    rw [List.getElem?_eq_getElem (by omega), show Try.prog.cellsOf 52 = 16 by kernel_rfl] at g30
    have g3 : DataW.trod enc Try.prog W 0 (fun _ => true) true m 52 [c15, c16, c17, c18, c19, c20, c21, c22, c23, c24, c25, c26, c27, c28, c29, c30] = some xs[3] := g30
    have g40 : DataW.trod enc Try.prog W 0 (fun _ => true) true m 53 ((([c0, c1, c2, c3, c4, c5, c6, c7, c8, c9, c10, c11, c12, c13, c14, c15, c16, c17, c18, c19, c20, c21, c22, c23, c24, c25, c26, c27, c28, c29, c30, c31] : List Value).drop 31).take (Try.prog.cellsOf 53)) = xs[4]? := hg 4 _ rfl
    rw [List.getElem?_eq_getElem (by omega), show Try.prog.cellsOf 53 = 1 by kernel_rfl] at g40
    have g4 : DataW.trod enc Try.prog W 0 (fun _ => true) true m 53 [c31] = some xs[4] := g40
    obtain ⟨d, rfl, rfl, rfl, rfl, rfl, rfl, wd⟩ := open_six g0
    obtain ⟨s, rfl, rfl, rfl, rfl, rfl, rfl, ws⟩ := open_six g1
    obtain ⟨p, e, vv, rfl, rfl, rfl⟩ := open_tag g2
    obtain ⟨q, g, u, i, x, y, rfl, rfl, rfl, rfl, rfl, rfl, rfl, rfl, rfl, rfl, rfl, rfl, rfl, rfl, rfl, rfl⟩ := open_itag g3
    have hz := open_rest g4
    exact ⟨⟨d, s, p, e, vv, q, g, u, i, x, y, c31⟩, rfl, ⟨wd, ws, hz⟩⟩
theorem open_gate0 {m0 : Nat} {cs : List Value} {r : DataW H × List MemPlace} (hr : DataW.trod enc Try.prog W 0 (fun _ => true) true m0 37 cs = some r) : ∃ u : Gt, True ∧ cs = (eG.f u).toList := by
  obtain ⟨y0, y1, k, _, hl, h0, h1⟩ := trod_struct2 Try.underlying37 hr
  rw [cellsG] at hl
  match cs, hl with
  | [c0, c1], _ =>
    have h0' : DataW.trod enc Try.prog W 0 (fun _ => true) true k 4 [c0] = some y0 := by
      have h : ([c0, c1].drop 0).take (Try.prog.cellsOf 4) = [c0] := by rw [show Try.prog.cellsOf 4 = 1 by kernel_rfl]; rfl
      rw [← h]
      exact h0
    have h1' : DataW.trod enc Try.prog W 0 (fun _ => true) true k 4 [c1] = some y1 := by
      have h : ([c0, c1].drop 1).take (Try.prog.cellsOf 4) = [c1] := by rw [show Try.prog.cellsOf 4 = 1 by kernel_rfl]; rfl
      rw [← h]
      exact h1
    obtain ⟨b0, rfl⟩ := open_b Try.underlying4 h0'
    obtain ⟨b1, rfl⟩ := open_b Try.underlying4 h1'
    exact ⟨⟨b0, b1⟩, trivial, rfl⟩
theorem open_gates {base : Nat} {v : Value} {dd : DataW H} {pl : List MemPlace} (hv : Value.okWide Try.prog W .any base 32 v) (h : DataW.Trod enc Try.prog W 0 (fun _ => true) true 32 v dd pl) :
    ∃ (a : Option Addr) (n c : Nat) (l : List Gt), v = .slice a n c ∧ SlAt eG W a n c l := by
  obtain ⟨a0, n0, c0, rfl⟩ := okWide_slice kG.slc hv
  obtain ⟨fuel, hf⟩ := h
  have : Inhabited Gt := ⟨zG⟩
  have hf' : DataW.trod enc Try.prog W 0 (fun _ => true) true fuel 32 [Value.slice a0 n0 c0] = some (dd, pl) := hf
  obtain ⟨a, n, c, r, e, hs, _⟩ := open_tr (e := eG) kG cellsG (fun _ => True) (fun m cs r hr => open_gate0 hr) hf'
  exact ⟨a, n, c, r, e, hs⟩
end Go.Proofs.Ytcejfkkhmlebdaa
