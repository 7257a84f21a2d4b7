/-
  What is being led: the variable, its tree, what went out, what was flushed; how stores change it. Plain laws over the program's types. And what follows from it here.
-/
import Derived.Test.YtlchejbggnbccaaGreatB17a
import Derived.Test.YtlchejbggnbccaaGreatB11c
import Derived.Test.YtlchejbggnbccaaGreatBbb
import Derived.Test.YtlchejbggnbccaaGreatBba
import Derived.Test.YtlchejbggnbccaaGreatB13a
import Derived.Deep.RegionHeld3
import Derived.Test.YtlchejbggnbccaaGreatB13e
import Derived.Test.YtlchejbggnbccaaGreatB14a
import Derived.Test.YtlchejbggnbccaaGreatB14b
import Derived.Deep.Cut
import Derived.Deep.CutRange
import Derived.Test.YtlchejbggnbccaaGreatB15a
import Derived.Test.YtlchejbggnbccaaGreatB12b
import Derived.Test.YtlchejbggnbccaaGreatB14c
import Derived.Test.YtlchejbggnbccaaGreatB15c
import Derived.Shelf.SortM.Plain
import Derived.Shelf.SortM.SortNone
import Derived.Shelf.SlicesE.Compact
import Derived.Test.YtlchejbggnbccaaGreatRows
namespace Go.Proofs.YtlchejbggnbccaaGreat
set_option linter.unusedVariables false
set_option linter.unusedSimpArgs false
set_option maxRecDepth 4000
section
namespace S17
open Go.RowKit
open S14 (gtP gtP_at set_self)

def eO : S16.El Ot := ⟨fun r => r.cs, 91, 49, 17, 72⟩
def eI : S16.El Int := ⟨fun n => #[.int .i64 n], 3, 50, 1, 8⟩
theorem one_of {l : List Value} (h : l.all (fun v => v.oneCell') = true) : ∀ v ∈ l, v.oneCell' = true := fun v hv => List.all_eq_true.1 h v hv
def zeroO : Ot := zeroR S15.kdO
theorem kO : eO.Ok := ⟨fun r => by show r.cs.size = 17; rw [Row.csize, S15.lenO], by decide, fun r => r.one', Tryz.underlying49, ⟨.agg zeroO.cs, by kernel_rfl, by show zeroO.cs.size = 17; rw [Row.csize, S15.lenO]⟩, by decide⟩
theorem kI : eI.Ok := ⟨fun _ => rfl, by decide, fun _ => one_of rfl, Tryz.underlying50, ⟨.int .i64 0, by kernel_rfl, rfl⟩, by decide⟩
theorem ne_type {W : World} {b b' : Nat} {t t' : TypeId} {cs cs' : Array Value} (h : RvAt W b t cs) (h' : RvAt W b' t' cs') (n : t ≠ t') : b ≠ b' := by
  intro e
  subst e
  have := h.symm.trans h'
  cases this
  exact n rfl
theorem own_type {α : Type} {e : S16.El α} {W : World} {B b : Nat} {v : Value} {l : List α} {t : TypeId} {cs : Array Value} (o : S16.Own e W B v l) (r : RvAt W b t cs) (n : t ≠ e.ty) : v.ownBlock = none ∨ v.ownBlock ≠ some b := by
  rcases o.pat with ⟨rfl, _⟩ | ⟨g, c, rfl, _, p⟩
  · exact Or.inl rfl
  · right
    obtain ⟨cur, hc, _⟩ := p
    intro e
    simp only [Value.ownBlock, Option.some.injEq] at e
    exact ne_type hc r (Ne.symm n) e
theorem own_one {α : Type} {e : S16.El α} {W : World} {B : Nat} {v : Value} {l : List α} (o : S16.Own e W B v l) : v.oneCell' = true := by
  rcases o.pat with ⟨rfl, _⟩ | ⟨g, c, rfl, _, _⟩ <;> rfl
def ldc (h : Hd) (x o f : Value) : Array Value := (h.cl ++ [x, o, f]).toArray
theorem ldc_size (h : Hd) (x o f : Value) : (ldc h x o f).size = 19 := by simp [ldc, h.len, lenH]
theorem infoD : (Tryz.prog.info? 52).map (·.size) = some 2 := by kernel_rfl
theorem rtD : RowTy 52 2 := ⟨infoD, _, Tryz.underlying52, rfl⟩
theorem infoLO : (Tryz.prog.info? 49).map (·.size) = some 1 := by kernel_rfl
theorem infoLI : (Tryz.prog.info? 50).map (·.size) = some 1 := by kernel_rfl
theorem ldc_get (h : Hd) (x o f : Value) : (ldc h x o f)[16]? = some x ∧ (ldc h x o f)[17]? = some o ∧ (ldc h x o f)[18]? = some f := by
  have := h.len
  rw [lenH] at this
  simp only [ldc, List.getElem?_toArray]
  refine ⟨?_, ?_, ?_⟩ <;> (rw [List.getElem?_append_right (by omega), this]; rfl)
theorem ldc_tree {h : Hd} {x o f v : Value} {j : Nat} (hv : (trc h x)[j]? = some v) : (ldc h x o f)[j]? = some v := by
  have hl := h.len
  rw [lenH] at hl
  have hj := (Array.getElem?_eq_some_iff.1 hv).1
  rw [trc_size] at hj
  simp only [trc, List.getElem?_toArray] at hv
  simp only [ldc, List.getElem?_toArray]
  rw [show h.cl ++ [x, o, f] = (h.cl ++ [x]) ++ [o, f] by simp, List.getElem?_append_left (by simp; omega)]
  exact hv
theorem ldc_st (h g : Hd) (x y o f : Value) : ((ldc h x o f).toList.take 0 ++ (trc g y).toList ++ (ldc h x o f).toList.drop (0 + (trc g y).size)).toArray = ldc g y o f := by
  have hl := h.len
  rw [lenH] at hl
  rw [trc_size]
  simp only [ldc, trc, List.take_zero, List.nil_append, Nat.zero_add]
  rw [show h.cl ++ [x, o, f] = (h.cl ++ [x]) ++ [o, f] by simp, List.drop_append_of_le_length (by simp; omega), List.drop_eq_nil_of_le (by simp; omega)]
  simp
theorem ldc_17 (h : Hd) (x o f y : Value) : ((ldc h x o f).toList.set 17 y).toArray = ldc h x y f := by
  have hl := h.len
  rw [lenH] at hl
  simp only [ldc]
  rw [List.set_append, if_neg (by omega), hl]
  rfl
theorem ldc_18 (h : Hd) (x o f y : Value) : ((ldc h x o f).toList.set 18 y).toArray = ldc h x o y := by
  have hl := h.len
  rw [lenH] at hl
  simp only [ldc]
  rw [List.set_append, if_neg (by omega), hl]
  rfl
theorem stLO (x y : Value) : Instr.storeAt 49 x y = stS 49 x y := rfl
theorem stLI (x y : Value) : Instr.storeAt 50 x y = stS 50 x y := rfl
theorem apLO (ty : TypeId) (xs : Array Value) : Builtin.append_ #[49, 49] ty xs = S16.apS 49 ty xs := rfl
theorem apLI (ty : TypeId) (xs : Array Value) : Builtin.append_ #[50, 50] ty xs = S16.apS 50 ty xs := rfl
theorem ldDn (x : Value) : Instr.loadAt 52 x = ldS 52 x := rfl
theorem stDn (x y : Value) : Instr.storeAt 52 x y = stS 52 x y := rfl
theorem _root_.Go.Proofs.YtlchejbggnbccaaGreat.SlAt.stp {W : World} {b o n c i : Nat} {l : List Pt} {p : Pt} (s : SlAt W (some ⟨b, o, none⟩) n c l) (hi : i < n) :
    ∃ W', (stS 74 (.pointer (some ⟨b, o + i * 77, none⟩)) (.agg p.cs)).run Tryz.prog W = .ok () W' ∧ SlAt W' (some ⟨b, o, none⟩) n c (l.set i p) ∧ W.grownBy W' (some b) := by
  have hl := s.len
  obtain ⟨cur, hb⟩ := s.soft _ rfl (by omega)
  simp only at hb
  obtain ⟨b', o', e, hc⟩ := s.cells _ rfl (by omega)
  cases e
  have hcur : ∀ j u, (l.flatMap Row.cl)[j]? = some u → cur[o + j]? = some u := fun j u hj => by
    have := hc j u hj
    unfold World.cell? at this
    rw [show W.heap[b]? = some (.cells cur 74 (0, 0)) from hb] at this
    simpa using this
  have hsz : o + n * 77 ≤ cur.size := by
    have hf := List.getElem?_eq_getElem (l := l.flatMap Row.cl) (i := n * 77 - 1) (by rw [flat_len, hl]; omega)
    have := (Array.getElem?_eq_some_iff.1 (hcur _ _ hf)).1
    omega
  have hpz : p.cs.size = 77 := by rw [Row.csize, lenP]
  have hin : o + i * 77 + 77 ≤ o + n * 77 := by omega
  have hs := store_cells (ty := 74) (o := o + i * 77) (cs := p.cs) hb (by rw [hpz]; exact infoP) (by rw [hpz]; omega) p.one'
  have hlen : (cur.toList.take (o + i * 77)).length = o + i * 77 := by rw [List.length_take, Array.length_toList]; omega
  refine ⟨_, hs, ⟨⟨by rw [List.length_set]; exact hl, s.cap, s.max, (fun e => by cases e), fun x e _ => ?_⟩, fun x e _ => ?_⟩, grown_row _ _ _⟩
  · cases e
    refine ⟨b, o, rfl, fun j u hj => ?_⟩
    refine RvAt.cell hb.set (o + j) u ?_
    rw [List.getElem?_toArray]
    rw [flat_get, List.getElem?_set] at hj
    have hd := Nat.div_add_mod j 77
    have hm := Nat.mod_lt j (show 0 < 77 by omega)
    by_cases hji : i = j / 77
    · rw [if_pos hji, if_pos (by omega)] at hj
      simp only [Option.bind_some] at hj
      rw [List.append_assoc, List.getElem?_append_right (by rw [hlen]; omega), hlen, show o + j - (o + i * 77) = j % 77 by omega, List.getElem?_append_left (by rw [Array.length_toList, hpz]; omega)]
      exact hj
    · rw [if_neg hji] at hj
      have hold := hcur j u (by rw [flat_get]; exact hj)
      have hju : j < n * 77 := by
        rw [← flat_get] at hj
        have := (List.getElem?_eq_some_iff.1 hj).1
        rw [flat_len, hl] at this
        exact this
      by_cases hlt : j < i * 77
      · rw [List.append_assoc, List.getElem?_append_left (by rw [hlen]; omega), List.getElem?_take, if_pos (by omega), Array.getElem?_toList]
        exact hold
      · have hge : i * 77 + 77 ≤ j := by omega
        rw [List.getElem?_append_right (by rw [List.length_append, hlen, Array.length_toList, hpz]; omega), List.length_append, hlen, Array.length_toList, hpz, List.getElem?_drop, show o + i * 77 + 77 + (o + j - (o + i * 77 + 77)) = o + j by omega, Array.getElem?_toList]
        exact hold
  · cases e
    exact ⟨_, hb.set⟩
theorem _root_.Go.Proofs.YtlchejbggnbccaaGreat.SlAt.stb {W : World} {b o n c i j : Nat} {l : List Pt} {p : Pt} {x : Bool} (s : SlAt W (some ⟨b, o, none⟩) n c l) (hp : l[i]? = some p) (hk : kdP[j]? = some none) :
    ∃ W', (stS 4 (.pointer (some ⟨b, o + i * 77 + j, none⟩)) (.bool x)).run Tryz.prog W = .ok () W' ∧ SlAt W' (some ⟨b, o, none⟩) n c (l.set i (p.setB j hk x)) ∧ W.grownBy W' (some b) := by
  have hl := s.len
  have hil : i < l.length := (List.getElem?_eq_some_iff.1 hp).1
  have hj : j < 77 := by rw [← lenP]; exact (List.getElem?_eq_some_iff.1 hk).1
  obtain ⟨cur, hb⟩ := s.soft _ rfl (by omega)
  simp only at hb
  obtain ⟨b', o', e, hc⟩ := s.cells _ rfl (by omega)
  cases e
  have hcur : ∀ j u, (l.flatMap Row.cl)[j]? = some u → cur[o + j]? = some u := fun j u hj => by
    have := hc j u hj
    unfold World.cell? at this
    rw [show W.heap[b]? = some (.cells cur 74 (0, 0)) from hb] at this
    simpa using this
  have hsz : o + n * 77 ≤ cur.size := by
    have hf := List.getElem?_eq_getElem (l := l.flatMap Row.cl) (i := n * 77 - 1) (by rw [flat_len, hl]; omega)
    have := (Array.getElem?_eq_some_iff.1 (hcur _ _ hf)).1
    omega
  have hs := RvAt.st1 (tv := 4) (k := o + i * 77 + j) (v := .bool x) hb info1.1 (by omega) rfl
  refine ⟨_, hs, ⟨⟨by rw [List.length_set]; exact hl, s.cap, s.max, (fun e => by cases e), fun y e _ => ?_⟩, fun y e _ => ?_⟩, grown_row _ _ _⟩
  · cases e
    refine ⟨b, o, rfl, fun t u ht => ?_⟩
    refine RvAt.cell hb.set (o + t) u ?_
    rw [List.getElem?_toArray, List.getElem?_set]
    rw [flat_get, List.getElem?_set] at ht
    have hd := Nat.div_add_mod t 77
    have hm := Nat.mod_lt t (show 0 < 77 by omega)
    by_cases hji : i = t / 77
    · rw [if_pos hji, if_pos (by omega)] at ht
      simp only [Option.bind_some] at ht
      have hq := Row.setB_get p hk x (t % 77)
      rw [hq] at ht
      by_cases htj : t % 77 = j
      · rw [if_pos htj] at ht
        rw [if_pos (by omega), if_pos (by rw [Array.length_toList]; omega)]
        exact ht
      · rw [if_neg htj] at ht
        rw [if_neg (by omega), Array.getElem?_toList]
        refine hcur t u ?_
        rw [flat_get, ← hji, hp]
        exact ht
    · rw [if_neg hji] at ht
      rw [if_neg (by omega), Array.getElem?_toList]
      exact hcur t u (by rw [flat_get]; exact ht)
  · cases e
    exact ⟨_, hb.set⟩
theorem own_next {α : Type} {e : S16.El α} {W : World} {B : Nat} {v : Value} {l : List α} (k : e.Ok) (o : S16.Own e W B v l) (hB : B ≤ W.heap.size) (hl : l.length ≤ 90000) (p : α) (ty : TypeId) :
    ∃ v' W', (S16.apS e.st ty #[v, .slice (some ⟨W.heap.size, 0, none⟩) 1 1]).run Tryz.prog (W.alloc (.cells (e.f p) e.ty)) = .ok v' W' ∧ S16.Own e W' B v' (l ++ [p]) ∧ W.grownBy W' v.ownBlock := by
  have bA : Below W.heap.size W (W.alloc (.cells (e.f p) e.ty)) := (Below.refl _ _).alloc (Nat.le_refl _) _
  obtain ⟨v', W', ap, o2, g2⟩ := (o.below bA).app k (S16.one_new W p k) (by simp; omega) (Nat.le_trans hB bA.size) ty
  exact ⟨v', W', ap, o2, grown_self (grown_of_below bA _) g2⟩
theorem out_sl {W : World} {v : Value} {u : Option Ot} (h : S15.OutAt W v u) : ∃ a m c, v = .slice a m c ∧ S16.SlAt eO W a m c (opt u) := by
  cases u with
  | none => exact ⟨none, 0, 0, h, S16.SlAt.none' W⟩
  | some r =>
    obtain ⟨b, rfl, hb⟩ := h
    refine ⟨some ⟨b, 0, none⟩, 1, 1, rfl, rfl, Nat.le_refl _, by unfold maxLen; omega, (fun e => by cases e), fun y e' _ => ?_, fun y e' _ => by cases e'; exact ⟨_, hb⟩⟩
    cases e'
    refine ⟨_, _, rfl, fun j u hj => ?_⟩
    rw [Nat.zero_add]
    refine hb.cell j u ?_
    have : eO.fl (opt (some r)) = r.cs.toList := by simp [S16.El.fl, opt, eO]
    rw [this] at hj
    rw [← Array.getElem?_toList]
    exact hj
def Kp (W V : World) : Prop := ∀ (b : Nat) (t : TypeId) (cs : Array Value), RvAt W b t cs → t ≠ 109 → t ≠ 74 → t ≠ 91 → t ≠ 3 → RvAt V b t cs
theorem Kp.of {W V : World} (k : Below W.heap.size W V) : Kp W V := fun b t cs r _ _ _ _ => r.below k
theorem Kp.trans {W V U : World} (h : Kp W V) (k : Kp V U) : Kp W U := fun b t cs r h1 h2 h3 h4 => k b t cs (h b t cs r h1 h2 h3 h4) h1 h2 h3 h4
theorem Kp.row {W V : World} {b : Nat} {t : TypeId} {cs : Array Value} (r : RvAt W b t cs) (g : W.grownBy V (some b)) (ht : t = 109 ∨ t = 74 ∨ t = 91 ∨ t = 3) : Kp W V := fun b' t' cs' r' h1 h2 h3 h4 => r'.keptBut g (by
  have : b' ≠ b := ne_type r' r (by rcases ht with rfl | rfl | rfl | rfl <;> assumption)
  simpa using this)
theorem Kp.own {α : Type} {e : S16.El α} {W V : World} {B : Nat} {v : Value} {l : List α} (o : S16.Own e W B v l) (g : W.grownBy V v.ownBlock) (ht : e.ty = 91 ∨ e.ty = 3) : Kp W V := fun b' t' cs' r' h1 h2 h3 h4 => r'.keptBut g (by
  rcases own_type o r' (by rcases ht with q | q <;> rw [q] <;> assumption) with q | q
  · rw [q]; simp
  · exact fun e => q e.symm)
structure LS (w W : World) (L : Nat) (h : Hd) (a : Option Addr) (n c : Nat) (l : List Pt) (vo vf : Value) (os : List Ot) (fs : List Int) : Prop where
  var : RvAt W L 109 (ldc h (.slice a n c) vo vf)
  sl : SlAt W a n c l
  nw : Nw w a
  ou : S16.Own eO W w.heap.size vo os
  fl : S16.Own eI W w.heap.size vf fs
  bel : Below w.heap.size w W
  hL : w.heap.size ≤ L
theorem LS.below {w W V : World} {L n c : Nat} {h : Hd} {a : Option Addr} {l : List Pt} {vo vf : Value} {os : List Ot} {fs : List Int} (s : LS w W L h a n c l vo vf os fs) (k : Below W.heap.size W V) : LS w V L h a n c l vo vf os fs :=
  ⟨s.var.below k, s.sl.below k, s.nw, s.ou.below k, s.fl.below k, below_over s.bel k, s.hL⟩
theorem LS.tld {w W : World} {L n c : Nat} {h : Hd} {a : Option Addr} {l : List Pt} {vo vf : Value} {os : List Ot} {fs : List Int} (s : LS w W L h a n c l vo vf os fs) : (ldS 39 (.pointer (some ⟨L, 0, none⟩))).run Tryz.prog W = .ok (.agg (trc h (.slice a n c))) W :=
  run_loadAt_mid W L 0 39 (trc h (.slice a n c)).toList _ (fun j v hv => by
    rw [Nat.zero_add]
    exact s.var.cell j v (ldc_tree (by simpa using hv))) Tryz.underlying39 rfl (by rw [Array.length_toList, trc_size]; exact infoT)
theorem LS.c16 {w W : World} {L n c : Nat} {h : Hd} {a : Option Addr} {l : List Pt} {vo vf : Value} {os : List Ot} {fs : List Int} (s : LS w W L h a n c l vo vf os fs) : W.cell? ⟨L, 16, none⟩ = some (.slice a n c) := s.var.cell 16 _ (ldc_get _ _ _ _).1
theorem LS.c17 {w W : World} {L n c : Nat} {h : Hd} {a : Option Addr} {l : List Pt} {vo vf : Value} {os : List Ot} {fs : List Int} (s : LS w W L h a n c l vo vf os fs) : W.cell? ⟨L, 17, none⟩ = some vo := s.var.cell 17 _ (ldc_get _ _ _ _).2.1
theorem LS.c18 {w W : World} {L n c : Nat} {h : Hd} {a : Option Addr} {l : List Pt} {vo vf : Value} {os : List Ot} {fs : List Int} (s : LS w W L h a n c l vo vf os fs) : W.cell? ⟨L, 18, none⟩ = some vf := s.var.cell 18 _ (ldc_get _ _ _ _).2.2
theorem LS.lo {w W : World} {L n c : Nat} {h : Hd} {a : Option Addr} {l : List Pt} {vo vf : Value} {os : List Ot} {fs : List Int} (s : LS w W L h a n c l vo vf os fs) : vo.ownBlock = none ∨ vo.ownBlock ≠ some L := own_type s.ou s.var (by decide)
theorem LS.lf {w W : World} {L n c : Nat} {h : Hd} {a : Option Addr} {l : List Pt} {vo vf : Value} {os : List Ot} {fs : List Int} (s : LS w W L h a n c l vo vf os fs) : vf.ownBlock = none ∨ vf.ownBlock ≠ some L := own_type s.fl s.var (by decide)
theorem LS.tree {w W : World} {L n c c' : Nat} {h h' : Hd} {a a' : Option Addr} {l l' : List Pt} {vo vf : Value} {os : List Ot} {fs : List Int} (s : LS w W L h a n c l vo vf os fs) (hs : SlAt W a' n c' l') (hn : Nw w a') :
    ∃ V, (stS 39 (.pointer (some ⟨L, 0, none⟩)) (.agg (trc h' (.slice a' n c')))).run Tryz.prog W = .ok () V ∧ LS w V L h' a' n c' l' vo vf os fs ∧ Kp W V := by
  have hs' := store_cells (ty := 39) (o := 0) (cs := trc h' (.slice a' n c')) s.var (by rw [trc_size]; exact infoT) (by rw [trc_size, ldc_size]; omega) (trc_one rfl)
  rw [ldc_st] at hs'
  exact ⟨_, hs', ⟨s.var.set, hs.keptZ s.var (by rw [ldc_size]; omega) (grown_row _ _ _), hn, s.ou.keptBut (grown_row _ _ _) s.lo, s.fl.keptBut (grown_row _ _ _) s.lf, gro s.bel (grown_row _ _ _) s.hL s.bel.size, s.hL⟩, Kp.row s.var (grown_row _ _ _) (Or.inl rfl)⟩
theorem LS.outs {w W X : World} {L n c : Nat} {h : Hd} {a : Option Addr} {l : List Pt} {vo vf vo' : Value} {os os' : List Ot} {fs : List Int} (s : LS w W L h a n c l vo vf os fs) (g : W.grownBy X vo.ownBlock) (ho : S16.Own eO X w.heap.size vo' os') :
    ∃ V, (stS 49 (.pointer (some ⟨L, 17, none⟩)) vo').run Tryz.prog X = .ok () V ∧ LS w V L h a n c l vo' vf os' fs ∧ (∀ (a' : Option Addr) (n' c' : Nat) (l' : List Pt), SlAt W a' n' c' l' → SlAt V a' n' c' l') ∧ (∀ (b : Nat) (t : TypeId) (cs : Array Value), RvAt W b t cs → t ≠ 91 → t ≠ 109 → RvAt V b t cs) := by
  have hv : RvAt X L 109 (ldc h (.slice a n c) vo vf) := s.var.keptBut g (by rcases s.lo with e | e <;> simp_all [Ne.symm])
  have ksl : ∀ (a' : Option Addr) (n' c' : Nat) (l' : List Pt), SlAt W a' n' c' l' → SlAt X a' n' c' l' := fun a' n' c' l' q => by
    by_cases h0 : 0 < n'
    · refine q.keptBut g (fun x hx e => ?_)
      obtain ⟨cs, r⟩ := q.soft x hx h0
      rcases own_type s.ou r (by decide) with q | q
      · rw [q] at e; cases e
      · exact q e.symm
    · exact ⟨⟨q.len, q.cap, q.max, q.nil, fun y _ h1 => absurd h1 h0⟩, fun y _ h1 => absurd h1 h0⟩
  have hf : S16.Own eI X w.heap.size vf fs := by
    refine s.fl.keptBut g ?_
    rcases s.ou.pat with ⟨e, _⟩ | ⟨gg, cc, rfl, _, p⟩
    · subst e
      exact (Classical.em (vf.ownBlock = none)).imp id fun q e => q e
    · obtain ⟨cur, hc, _⟩ := p
      exact own_type s.fl hc (by decide)
  have hb : Below w.heap.size w X := s.bel.trans (below_of_grown g s.bel.size (fun j e => (s.ou.blk j e).1))
  have hs := RvAt.st1 (tv := 49) (k := 17) (v := vo') hv infoLO (by rw [ldc_size]; omega) (own_one ho)
  rw [ldc_17] at hs
  have gr := grown_row X L (ldc h (.slice a n c) vo' vf)
  refine ⟨_, hs, ⟨hv.set, (ksl _ _ _ _ s.sl).keptZ hv (by rw [ldc_size]; omega) gr, s.nw, ho.keptBut gr (own_type ho hv (by decide)), hf.keptBut gr (own_type hf hv (by decide)), gro hb gr s.hL hb.size, s.hL⟩, fun a' n' c' l' q => (ksl a' n' c' l' q).keptZ hv (by rw [ldc_size]; omega) gr, fun b t cs r n1 n2 => ?_⟩
  have rX : RvAt X b t cs := r.keptBut g (by
    rcases own_type s.ou r n1 with q | q
    · rw [q]; simp
    · exact fun e => q e.symm)
  exact rX.keptBut gr (by have := ne_type rX hv n2; simpa using this)
theorem LS.flus {w W X : World} {L n c : Nat} {h : Hd} {a : Option Addr} {l : List Pt} {vo vf vf' : Value} {os : List Ot} {fs fs' : List Int} (s : LS w W L h a n c l vo vf os fs) (g : W.grownBy X vf.ownBlock) (ho : S16.Own eI X w.heap.size vf' fs') :
    ∃ V, (stS 50 (.pointer (some ⟨L, 18, none⟩)) vf').run Tryz.prog X = .ok () V ∧ LS w V L h a n c l vo vf' os fs' ∧ Kp W V := by
  have hv : RvAt X L 109 (ldc h (.slice a n c) vo vf) := s.var.keptBut g (by rcases s.lf with e | e <;> simp_all [Ne.symm])
  have hsl : SlAt X a n c l := by
    by_cases h0 : 0 < n
    · refine s.sl.keptBut g (fun x hx e => ?_)
      obtain ⟨cs, r⟩ := s.sl.soft x hx h0
      rcases own_type s.fl r (by decide) with q | q
      · rw [q] at e; cases e
      · exact q e.symm
    · exact ⟨⟨s.sl.len, s.sl.cap, s.sl.max, s.sl.nil, fun y _ h1 => absurd h1 h0⟩, fun y _ h1 => absurd h1 h0⟩
  have hf : S16.Own eO X w.heap.size vo os := by
    refine s.ou.keptBut g ?_
    rcases s.fl.pat with ⟨e, _⟩ | ⟨gg, cc, rfl, _, p⟩
    · subst e
      exact (Classical.em (vo.ownBlock = none)).imp id fun q e => q e
    · obtain ⟨cur, hc, _⟩ := p
      exact own_type s.ou hc (by decide)
  have hb : Below w.heap.size w X := s.bel.trans (below_of_grown g s.bel.size (fun j e => (s.fl.blk j e).1))
  have hs := RvAt.st1 (tv := 50) (k := 18) (v := vf') hv infoLI (by rw [ldc_size]; omega) (own_one ho)
  rw [ldc_18] at hs
  have gr := grown_row X L (ldc h (.slice a n c) vo vf')
  exact ⟨_, hs, ⟨hv.set, hsl.keptZ hv (by rw [ldc_size]; omega) gr, s.nw, hf.keptBut gr (own_type hf hv (by decide)), ho.keptBut gr (own_type ho hv (by decide)), gro hb gr s.hL hb.size, s.hL⟩, (Kp.own s.fl g (Or.inr rfl)).trans (Kp.row hv gr (Or.inl rfl))⟩
theorem LS.ports {w W V : World} {L n c b o : Nat} {h : Hd} {l l' : List Pt} {vo vf : Value} {os : List Ot} {fs : List Int} (s : LS w W L h (some ⟨b, o, none⟩) n c l vo vf os fs) (hn : 0 < n) (hs : SlAt V (some ⟨b, o, none⟩) n c l') (g : W.grownBy V (some b)) : LS w V L h (some ⟨b, o, none⟩) n c l' vo vf os fs := by
  obtain ⟨cs, r⟩ := s.sl.soft _ rfl hn
  simp only at r
  have hbL : b ≠ L := ne_type r s.var (by decide)
  exact ⟨s.var.keptBut g (by simp; omega), hs, s.nw, s.ou.keptBut g (own_type s.ou r (by decide)), s.fl.keptBut g (own_type s.fl r (by decide)), gro s.bel g (s.nw _ rfl) s.bel.size, s.hL⟩
end S17
end
section
namespace S17
open Go.RowKit

def slG (t : TypeId) (x : Value) (lo hi mx : Option Value) : Sem Value := Instr.sliceAt t x lo hi mx
theorem slO (x : Value) (lo hi mx : Option Value) : Instr.sliceAt 49 x lo hi mx = slG 49 x lo hi mx := rfl
def adv (a : Option Addr) (k c s : Nat) : Option Addr := if c = k then a else a.map (·.add (k * s))
theorem unO : Tryz.prog.underlying 49 = some (.slice (Tryz.prog.elem 49)) := by kernel_rfl
theorem elO : Tryz.prog.elem 49 = 91 := by kernel_rfl
theorem slO_l (a : Option Addr) (n c k : Nat) (hk : k ≤ n) (V : World) : (slG 49 (.slice a n c) (some (.int .i64 (k : Int))) none none).run Tryz.prog V = .ok (.slice (adv a k c 17) (n - k) (c - k)) V := by
  have hz := Tryz.sizeOf91
  unfold slG
  rw [run_sliceAt_slice _ _ _ _ _ _ unO, run_slice_l V 49 a n c unO .i64 (k : Int) (by omega) (by omega), elO, hz V]
  simp only [Result.andThen_ok, sliced, Int.toNat_natCast, adv]
section
variable {α : Type} {e : S16.El α} {W : World} {a : Option Addr} {n c : Nat} {l : List α}
theorem sl_drop (h : S16.SlAt e W a n c l) {k : Nat} (hk : k ≤ n) (ke : e.Ok) : S16.SlAt e W (adv a k c e.K) (n - k) (c - k) (l.drop k) := by
  have hcap := h.cap
  have hmax := h.max
  refine ⟨by rw [List.length_drop, h.len], by omega, by omega, fun q => ?_, fun x hx h0 => ?_, fun x hx h0 => ?_⟩
  · have : a = none := by
      unfold adv at q
      split at q
      · exact q
      · cases a with
        | none => rfl
        | some y => cases q
    have := h.nil this
    omega
  · unfold adv at hx
    rw [if_neg (by omega)] at hx
    cases a with
    | none => cases hx
    | some y =>
      obtain ⟨b, o, rfl, hc⟩ := h.cells y rfl (by omega)
      simp only [Option.map_some, Option.some.injEq] at hx
      subst hx
      refine ⟨b, o + k * e.K, Addr.add_lit _ _ _, fun j u hj => ?_⟩
      rw [Nat.add_assoc]
      refine hc _ u ?_
      rw [S16.El.fl_get ke] at hj ⊢
      rw [List.getElem?_drop] at hj
      have hp := ke.pos
      rw [show k * e.K + j = j + e.K * k by rw [Nat.mul_comm, Nat.add_comm], Nat.add_mul_div_left _ _ hp, Nat.add_mul_mod_self_left, Nat.add_comm]
      exact hj
  · unfold adv at hx
    rw [if_neg (by omega)] at hx
    cases a with
    | none => cases hx
    | some y =>
      simp only [Option.map_some, Option.some.injEq] at hx
      subst hx
      obtain ⟨b, o, rfl, _⟩ := h.cells y rfl (by omega)
      rw [Addr.add_lit]
      exact h.soft ⟨b, o, none⟩ rfl (by omega)
theorem zero_own (W : World) (B : Nat) (hB : B ≤ W.heap.size) : S16.Own e (W.alloc (.cells #[] e.ty)) B (.slice (some ⟨W.heap.size, 0, none⟩) 0 0) [] :=
  ⟨by simp [S16.El.fl], Or.inr ⟨W.heap.size, 0, #[], rfl, hB, alloc_at W _, Nat.le_refl _, by simp, by simp, by simp [S16.El.fl]⟩⟩
end
end S17
end
section
namespace S17
open Go.RowKit
open S14 (gtP gtP_at set_self)
theorem ldEn (x : Value) : Instr.loadAt 53 x = ldS 53 x := rfl
theorem stEn (x y : Value) : Instr.storeAt 53 x y = stS 53 x y := rfl
def isO (W : World) (v : Value) (l : List Ot) : Prop := ∃ a n c, v = .slice a n c ∧ S16.SlAt eO W a n c l
def isI (W : World) (v : Value) (l : List Int) : Prop := ∃ a n c, v = .slice a n c ∧ S16.SlAt eI W a n c l
theorem isO.below {W V : World} {v : Value} {l : List Ot} (h : isO W v l) (k : Below W.heap.size W V) : isO V v l := by
  obtain ⟨a, n, c, e, s⟩ := h
  exact ⟨a, n, c, e, s.below k⟩
theorem isO.row {W V : World} {v : Value} {l : List Ot} {b : Nat} {t : TypeId} {cs : Array Value} (h : isO W v l) (r : RvAt W b t cs) (ht : t ≠ 91) (g : W.grownBy V (some b)) : isO V v l := by
  obtain ⟨a, n, c, e, s⟩ := h
  exact ⟨a, n, c, e, s.keptV r ht g⟩
theorem isI.row {W V : World} {v : Value} {l : List Int} {b : Nat} {t : TypeId} {cs : Array Value} (h : isI W v l) (r : RvAt W b t cs) (ht : t ≠ 3) (g : W.grownBy V (some b)) : isI V v l := by
  obtain ⟨a, n, c, e, s⟩ := h
  exact ⟨a, n, c, e, s.keptV r ht g⟩
theorem isO.one {W : World} {v : Value} {l : List Ot} (h : isO W v l) : v.oneCell' = true := by
  obtain ⟨a, n, c, rfl, s⟩ := h
  rfl
theorem isI.one {W : World} {v : Value} {l : List Int} (h : isI W v l) : v.oneCell' = true := by
  obtain ⟨a, n, c, rfl, s⟩ := h
  rfl
section
variable {w W V X : World} {h : Hd} {a a' : Option Addr} {n c c' : Nat} {l l' : List Pt} {vo vf vo' vf' : Value} {os os' : List Ot} {fs fs' : List Int}
end
attribute [local go_sem ↓] ldP stP ldT stT ldEn stEn stLO stLI apLO apLI st4 alP
attribute [local go_sem] alP_run
end S17
end
section
namespace S17
open Go.RowKit
open S14 (gtP gtP_at set_self)

attribute [local go_sem ↓] ldP stP ldT stT ldDn stDn stLO stLI apLO apLI st4
theorem one_t (w : World) (h : Hd) (x : Value) : ∃ W, w.alloc (.cells (trc h x) 39) = W ∧ RvAt W w.heap.size 39 (trc h x) ∧ Below w.heap.size w W := ⟨_, rfl, RvAt.new _ _ _, (Below.refl _ _).alloc (Nat.le_refl _) _⟩
set_option maxHeartbeats 2000000 in
theorem take_any {w W : World} {L n c c' : Nat} {h h' : Hd} {a a' : Option Addr} {l l' : List Pt} {vo vf : Value} {os : List Ot} {fs : List Int} (s : LS w W L h a n c l vo vf os fs) (hs : SlAt W a' n c' l') (hn : Nw w a') (x : Bool) :
    Calls Tryz.prog 98 #[.pointer (some ⟨L, 0, none⟩), .agg (trc h' (.slice a' n c')), .bool x] W fun r V => r = .returned (.bool x) ∧ LS w V L h' a' n c' l' vo vf os fs ∧ Kp W V := by
  obtain ⟨X, hX, r0, b0⟩ := one_t W h' (.slice a' n c')
  have l0 := r0.tld
  obtain ⟨V, sV, s', k'⟩ := (s.below b0).tree (h' := h') (hs.below b0) hn
  have S : Hid (LS w V L h' a' n c' l' vo vf os fs ∧ Kp W V) := ⟨s', (Kp.of b0).trans k'⟩
  clear s hs hn r0 b0 s' k'
  go_enter Tryz.func98, Tryz.ntmps98
  go_wp2
  go_ret
  exact ⟨rfl, S.out⟩
set_option maxHeartbeats 2000000 in
theorem sel_any {w W : World} {L n c : Nat} {h : Hd} {a : Option Addr} {l : List Pt} {vo vf : Value} {os : List Ot} {fs : List Int} (s : LS w W L h a n c l vo vf os fs) (hn : n ≤ 1000) :
    Calls Tryz.prog 74 #[.pointer (some ⟨L, 0, none⟩)] W fun r V => r = .returned (.bool (S12.stpB h l)) ∧ ∃ a' c', LS w V L (S12.stpH h l) a' n c' (S12.stpL h l) vo vf os fs ∧ Kp W V := by
  have l0 := s.tld
  have S : Hid (LS w W L h a n c l vo vf os fs) := s
  clear s
  go_enter Tryz.func74, Tryz.ntmps74
  go_wp2_with fail
  refine (S12.step_any h a n c l W S.out.sl hn).mono ?_
  rintro _ X ⟨a', c', rfl, s1, b1, f1⟩
  have N : Hid (Nw w a') := f1.elim (fun e => by rw [e]; exact S.out.nw) (fun q => q.up S.out.bel.size)
  have T : Hid (LS w X L h a n c l vo vf os fs) := S.out.below b1
  have S1 : Hid (SlAt X a' n c' (S12.stpL h l)) := s1
  have KB : Hid (Kp W X) := Kp.of b1
  clear l0 s1 b1 f1
  obtain ⟨hh, ehh⟩ : ∃ z, S12.stpH h l = z := ⟨_, rfl⟩
  obtain ⟨bb, ebb⟩ : ∃ z, S12.stpB h l = z := ⟨_, rfl⟩
  rw [ehh, ebb]
  have EH : Hid (S12.stpH h l = hh) := ehh
  have EB : Hid (S12.stpB h l = bb) := ebb
  clear ehh ebb
  go_wp2_with fail
  refine (take_any T.out S1.out N.out bb).mono ?_
  rintro _ V ⟨rfl, s2, k2⟩
  have S2 : Hid _ := s2
  have K2 : Hid (Kp W V) := KB.out.trans k2
  clear s2 k2
  go_wp2
  go_ret
  exact ⟨by rw [EB.out]; rfl, a', c', by rw [EH.out]; exact S2.out, K2.out⟩
def StepC (F k : Nat) : Prop := ∀ (w W : World) (L n c : Nat) (h : Hd) (a : Option Addr) (vo vf : Value) (s : Ps) (i : Nat), LS w W L h a n c s.l vo vf s.o s.f → n ≤ 1000 → s.o.length ≤ 90000 → s.f.length ≤ 90000 → i < n →
  Calls Tryz.prog F #[.pointer (some ⟨L, 0, none⟩), .int .i64 (i : Int)] W fun r V => ∃ (x : Bool) (a' : Option Addr) (c' : Nat) (vo' vf' : Value), r = .returned (.bool x) ∧ (stK h i s k).b = (s.b || x) ∧ LS w V L h a' n c' (stK h i s k).l vo' vf' (stK h i s k).o (stK h i s k).f ∧ Kp W V
set_option maxHeartbeats 2000000 in
theorem inf_any : StepC 91 0 := by
  intro w W L n c h a vo vf s i hS hn ho hf hi
  have l0 := hS.tld
  have S : Hid (LS w W L h a n c s.l vo vf s.o s.f) := hS
  clear hS ho hf
  go_enter Tryz.func91, Tryz.ntmps91
  go_wp2_with fail
  refine (S11.pstep_any h a n c s.l (i : Int) W S.out.sl hn).mono ?_
  rintro _ X ⟨a', c', rfl, s1, b1, f1⟩
  have N : Hid (Nw w a') := f1.elim (fun e => by rw [e]; exact S.out.nw) (fun q => q.up S.out.bel.size)
  have T : Hid (LS w X L h a n c s.l vo vf s.o s.f) := S.out.below b1
  have S1 : Hid (SlAt X a' n c' (S11.stepL s.l (i : Int))) := s1
  have E : Hid ((stK h i s 0).b = (s.b || S11.stepB s.l (i : Int))) := rfl
  have KB : Hid (Kp W X) := Kp.of b1
  clear l0 s1 b1 f1
  obtain ⟨bb, ebb⟩ : ∃ z, S11.stepB s.l (i : Int) = z := ⟨_, rfl⟩
  rw [ebb] at E ⊢
  clear ebb
  go_wp2_with fail
  refine (take_any T.out S1.out N.out bb).mono ?_
  rintro _ V ⟨rfl, s2, k2⟩
  have S2 : Hid _ := s2
  have K2 : Hid (Kp W V) := KB.out.trans k2
  clear s2 k2
  go_wp2
  go_ret
  exact ⟨bb, a', c', vo, vf, rfl, E.out, S2.out, K2.out⟩
set_option maxHeartbeats 2000000 in
theorem tra_any : StepC 92 1 := by
  intro w W L n c h a vo vf s i hS hn ho hf hi
  have l0 := hS.tld
  have S : Hid (LS w W L h a n c s.l vo vf s.o s.f) := hS
  clear hS ho hf
  go_enter Tryz.func92, Tryz.ntmps92
  go_wp2_with fail
  refine (S13.pstep_any h a n c s.l (i : Int) W S.out.sl hn).mono ?_
  rintro _ X ⟨a', c', rfl, s1, b1, f1⟩
  have N : Hid (Nw w a') := f1.elim (fun e => by rw [e]; exact S.out.nw) (fun q => q.up S.out.bel.size)
  have T : Hid (LS w X L h a n c s.l vo vf s.o s.f) := S.out.below b1
  have S1 : Hid (SlAt X a' n c' (S13.stepL s.l (i : Int))) := s1
  have E : Hid ((stK h i s 1).b = (s.b || S13.stepB s.l (i : Int))) := rfl
  have KB : Hid (Kp W X) := Kp.of b1
  clear l0 s1 b1 f1
  obtain ⟨bb, ebb⟩ : ∃ z, S13.stepB s.l (i : Int) = z := ⟨_, rfl⟩
  rw [ebb] at E ⊢
  clear ebb
  go_wp2_with fail
  refine (take_any T.out S1.out N.out bb).mono ?_
  rintro _ V ⟨rfl, s2, k2⟩
  have S2 : Hid _ := s2
  have K2 : Hid (Kp W V) := KB.out.trans k2
  clear s2 k2
  go_wp2
  go_ret
  exact ⟨bb, a', c', vo, vf, rfl, E.out, S2.out, K2.out⟩
set_option maxHeartbeats 2000000 in
theorem top_any : StepC 94 3 := by
  intro w W L n c h a vo vf s i hS hn ho hf hi
  have l0 := hS.tld
  have S : Hid (LS w W L h a n c s.l vo vf s.o s.f) := hS
  clear hS ho hf
  go_enter Tryz.func94, Tryz.ntmps94
  go_wp2_with fail
  refine (S14.tcm_in h a n c s.l i W S.out.sl hn hi).mono ?_
  rintro _ X ⟨a', c', rfl, s1, b1, f1⟩
  have N : Hid (Nw w a') := f1.elim (fun e => by rw [e]; exact S.out.nw) (fun q => q.up S.out.bel.size)
  have T : Hid (LS w X L h a n c s.l vo vf s.o s.f) := S.out.below b1
  have S1 : Hid (SlAt X a' n c' ((S14.tcmO h s.l i).getD s.l)) := s1
  have E : Hid ((stK h i s 3).b = (s.b || (S14.tcmO h s.l i).isSome)) := rfl
  have KB : Hid (Kp W X) := Kp.of b1
  clear l0 s1 b1 f1
  obtain ⟨bb, ebb⟩ : ∃ z, (S14.tcmO h s.l i).isSome = z := ⟨_, rfl⟩
  rw [ebb] at E ⊢
  clear ebb
  go_wp2_with fail
  refine (take_any T.out S1.out N.out bb).mono ?_
  rintro _ V ⟨rfl, s2, k2⟩
  have S2 : Hid _ := s2
  have K2 : Hid (Kp W V) := KB.out.trans k2
  clear s2 k2
  go_wp2
  go_ret
  exact ⟨bb, a', c', vo, vf, rfl, E.out, S2.out, K2.out⟩
set_option maxHeartbeats 2000000 in
theorem ver_any : StepC 96 5 := by
  intro w W L n c h a vo vf s i hS hn ho hf hi
  have l0 := hS.tld
  have S : Hid (LS w W L h a n c s.l vo vf s.o s.f) := hS
  clear hS ho hf
  go_enter Tryz.func96, Tryz.ntmps96
  go_wp2_with fail
  refine (S15.ppm_new h a n c s.l i W S.out.sl hn hi).mono ?_
  rintro _ X ⟨a', c', rfl, f1, s1, b1⟩
  have N : Hid (Nw w a') := f1.elim (fun e => by rw [e]; exact S.out.nw) (fun q => Nw.up (W := W) q S.out.bel.size)
  have T : Hid (LS w X L h a n c s.l vo vf s.o s.f) := S.out.below b1
  have S1 : Hid (SlAt X a' n c' ((S15.ppmO s.l i).getD s.l)) := s1
  have E : Hid ((stK h i s 5).b = (s.b || (S15.ppmO s.l i).isSome)) := rfl
  have KB : Hid (Kp W X) := Kp.of b1
  clear l0 s1 b1 f1
  obtain ⟨bb, ebb⟩ : ∃ z, (S15.ppmO s.l i).isSome = z := ⟨_, rfl⟩
  rw [ebb] at E ⊢
  clear ebb
  go_wp2_with fail
  refine (take_any T.out S1.out N.out bb).mono ?_
  rintro _ V ⟨rfl, s2, k2⟩
  have S2 : Hid _ := s2
  have K2 : Hid (Kp W V) := KB.out.trans k2
  clear s2 k2
  go_wp2
  go_ret
  exact ⟨bb, a', c', vo, vf, rfl, E.out, S2.out, K2.out⟩
end S17
end
section
namespace S17
open Go.RowKit
open S14 (gtP gtP_at set_self)

attribute [local go_sem ↓] ldP stP ldT stT ldDn stDn stLO stLI apLO apLI st4 alP
attribute [local go_sem] alP_run
set_option maxHeartbeats 4000000 in
theorem sta_any : StepC 93 2 := by
  intro w W L n c h a vo vf s i hS hn ho hf hi
  obtain ⟨b, o, rfl⟩ := hS.sl.some' (by omega)
  have hil : i < s.l.length := by rw [hS.sl.len]; exact hi
  have hin0 : (0 : Int) ≤ (i : Int) := by omega
  have hin1 : (i : Int) < (n : Int) := by omega
  have c16 := hS.c16
  have lp := hS.sl.ld (gtP_at hil)
  have S : Hid (LS w W L h (some ⟨b, o, none⟩) n c s.l vo vf s.o s.f) := hS
  obtain ⟨q, hq⟩ : ∃ z, (S14.pstO (gtP s.l i)).getD (gtP s.l i) = z := ⟨_, rfl⟩
  obtain ⟨bb, hbb⟩ : ∃ z, (S14.pstO (gtP s.l i)).isSome = z := ⟨_, rfl⟩
  have E : Hid ((stK h i s 2).b = (s.b || bb) ∧ stK h i s 2 = ⟨s.l.set i q, s.b || bb, s.o, s.f⟩) := ⟨by rw [← hbb]; rfl, by rw [← hbb, ← hq]; rfl⟩
  obtain ⟨p, hp⟩ : ∃ z, gtP s.l i = z := ⟨_, rfl⟩
  rw [hp] at lp hq hbb
  have P : Hid _ := S14.pst_any p
  clear hS ho hf hp
  go_enter Tryz.func93, Tryz.ntmps93
  go_wp2_with fail
  refine (P.out W).mono ?_
  rintro _ X ⟨e1, b1⟩
  rw [hq, hbb] at e1
  subst e1
  obtain ⟨Y, sY, rY, bY, zY⟩ := S11.var_p X q
  have T : Hid (LS w Y L h (some ⟨b, o, none⟩) n c s.l vo vf s.o s.f) := (S.out.below b1).below bY
  obtain ⟨z, hz⟩ : ∃ z, X.heap.size = z := ⟨_, rfl⟩
  rw [hz] at sY rY
  have f16 := fun x : Later Y => (T.out.below x.below).c16
  have fp := fun x : Later Y => (rY.below x.below).pld
  have KB : Hid (Kp W Y) := (Kp.of b1).trans (Kp.of bY)
  clear c16 lp b1 bY zY rY S P hq hbb
  go_wp2_with fail
  refine wp_region_later_tail 8 (by kernel_rfl) (by kernel_rfl) ?_
  simp only [List.take_succ_cons, List.take_zero]
  repeat (go_big_quiet_step (first | exact rfl))
  refine wpQuiet_nil ?_
  intro u
  simp only [List.drop_succ_cons, List.drop_zero]
  obtain ⟨V, sV, slV, gV⟩ := (T.out.below u.below).sl.stp (i := i) (p := q) hi
  have R : Hid (LS w V L h (some ⟨b, o, none⟩) n c (s.l.set i q) vo vf s.o s.f) := (T.out.below u.below).ports (by omega) slV gV
  have K2 : Hid (Kp W V) := by
    obtain ⟨cs, r⟩ := (T.out.below u.below).sl.soft _ rfl (by omega)
    exact (KB.out.trans (Kp.of u.below)).trans (Kp.row r gV (Or.inr (Or.inl rfl)))
  clear slV gV T f16 fp
  go_wp2
  go_ret
  refine ⟨bb, some ⟨b, o, none⟩, c, vo, vf, rfl, E.out.1, ?_, K2.out⟩
  rw [E.out.2]
  exact R.out
set_option maxHeartbeats 4000000 in
theorem flu_any : StepC 95 4 := by
  intro w W L n c h a vo vf s i hS hn ho hf hi
  obtain ⟨b, o, rfl⟩ := hS.sl.some' (by omega)
  have hil : i < s.l.length := by rw [hS.sl.len]; exact hi
  have hin0 : (0 : Int) ≤ (i : Int) := by omega
  have hin1 : (i : Int) < (n : Int) := by omega
  have c16 := hS.c16
  have c6 := hS.sl.cell (gtP_at hil) ((gtP s.l i).bit (j := 6) rfl) (by omega)
  have S : Hid (LS w W L h (some ⟨b, o, none⟩) n c s.l vo vf s.o s.f) := hS
  cases hb : (gtP s.l i).bt 6
  · have E : Hid (stK h i s 4 = s) := if_neg (by rw [hb]; simp)
    rw [hb] at c6
    clear hS ho hf hb
    go_enter Tryz.func95, Tryz.ntmps95
    go_wp2
    go_ret
    refine ⟨false, some ⟨b, o, none⟩, c, vo, vf, rfl, ?_, ?_, Kp.of (Below.refl _ _)⟩
    · rw [E.out]; simp
    · rw [E.out]; exact S.out
  · have E : Hid (stK h i s 4 = ⟨s.l.set i ((gtP s.l i).setB 6 kf6 false), true, s.o, s.f ++ [(i : Int)]⟩) := if_pos hb
    rw [hb] at c6
    obtain ⟨V, sV, slV, gV⟩ := hS.sl.stb (x := false) (gtP_at hil) kf6
    have R := hS.ports (by omega) slV gV
    have c18 := R.c18
    obtain ⟨v', X, ap, oX, gX⟩ := own_next kI R.fl R.bel.size hf (i : Int) 50
    have ap : (S16.apS 50 50 #[vf, .slice (some ⟨V.heap.size, 0, none⟩) 1 1]).run Tryz.prog (V.alloc (.cells #[.int .i64 (i : Int)] 3)) = .ok v' X := ap
    obtain ⟨Y, sY, RY, kY⟩ := R.flus gX oX
    have K2 : Hid (Kp W Y) := by
      obtain ⟨cs, r⟩ := hS.sl.soft _ rfl (by omega)
      exact (Kp.row r gV (Or.inr (Or.inl rfl))).trans kY
    clear kY
    have S2 : Hid (LS w Y L h (some ⟨b, o, none⟩) n c (s.l.set i ((gtP s.l i).setB 6 kf6 false)) vo v' s.o (s.f ++ [(i : Int)])) := RY
    clear hS ho hf hb S R slV gV oX gX RY
    go_enter Tryz.func95, Tryz.ntmps95
    go_wp2
    go_ret
    refine ⟨true, some ⟨b, o, none⟩, c, vo, v', rfl, ?_, ?_, K2.out⟩
    · rw [E.out]; simp
    · rw [E.out]; exact S2.out
theorem var_t (W : World) (h : Hd) (x : Value) (hx : x.oneCell' = true) : ∃ W', (stS 39 (.pointer (some ⟨W.heap.size, 0, none⟩)) (.agg (trc h x))).run Tryz.prog (W.alloc (.cells #[.int .u64 0, .int .u8 0, .int .u8 0, .int .u8 0, .int .u8 0, .int .u8 0, .bool false, .int .u16 0, .int .u64 0, .int .u32 0, .int .u64 0, .int .u16 0, .int .u8 0, .int .u8 0, .int .u8 0, .int .u8 0, .slice none 0 0] 39)) = .ok () W' ∧ RvAt W' W.heap.size 39 (trc h x) ∧ Below W.heap.size W W' ∧ W'.heap.size = W.heap.size + 1 :=
  row_new rtT W _ (trc h x) rfl (trc_size h x) (trc_one hx)
set_option maxHeartbeats 4000000 in
theorem trn_any : StepC 97 6 := by
  intro w W L n c h a vo vf s i hS hn ho hf hi
  have l0 := hS.tld
  have S : Hid (LS w W L h a n c s.l vo vf s.o s.f) := hS
  obtain ⟨bb, hbb⟩ : ∃ z, (S15.ptxO h s.l i).isSome = z := ⟨_, rfl⟩
  obtain ⟨lq, hlq⟩ : ∃ z, (S15.ptxO h s.l i).getD s.l = z := ⟨_, rfl⟩
  have E : Hid (stK h i s 6 = ⟨lq, s.b || bb, s.o ++ opt (S15.ptxU h s.l i), s.f⟩) := by rw [← hbb, ← hlq]; exact rfl
  have HO : Hid (s.o.length ≤ 90000) := ho
  have P : Hid _ := S15.ptx_in h a n c s.l i W hS.sl hn hi
  clear hS ho hf
  go_enter Tryz.func97, Tryz.ntmps97
  go_wp2_with fail
  refine Calls.mono P.out ?_
  rintro _ X ⟨a', c', v, rfl, s1, o1, b1, f1⟩
  rw [hbb]
  rw [hlq] at s1
  have N : Hid (Nw w a') := f1.elim (fun e => by rw [e]; exact S.out.nw) (fun q => q.up S.out.bel.size)
  obtain ⟨ao, mo, co, rfl, so⟩ := out_sl o1
  obtain ⟨Y, sY, rY, bY, zY⟩ := var_t X h (.slice a' n c') rfl
  have T := (S.out.below b1).below bY
  have c17 := T.c17
  obtain ⟨v', Z, ap, oZ, gZ⟩ := T.ou.app kO (so.below bY) (by have := HO.out; have := opt_len (S15.ptxU h s.l i); omega) T.bel.size 49
  have ap : (S16.apS 49 49 #[vo, .slice ao mo co]).run Tryz.prog Y = .ok v' Z := ap
  obtain ⟨U, sU, RU, kS, kR⟩ := T.outs gZ oZ
  obtain ⟨z, hz⟩ : ∃ z, X.heap.size = z := ⟨_, rfl⟩
  rw [hz] at sY rY
  have rU : RvAt U z 39 (trc h (.slice a' n c')) ∧ SlAt U a' n c' lq := ⟨kR _ _ _ rY (by decide) (by decide), kS _ _ _ _ (s1.below bY)⟩
  have KB : Hid (Kp W U) := ((Kp.of b1).trans (Kp.of bY)).trans (fun b t cs r h1 _ h3 _ => kR b t cs r h3 h1)
  have l5 := rU.1.tld
  have R : Hid (LS w U L h a n c s.l v' vf (s.o ++ opt (S15.ptxU h s.l i)) s.f ∧ SlAt U a' n c' lq) := ⟨RU, rU.2⟩
  clear l0 P s1 o1 b1 f1 rY bY zY T oZ gZ RU rU so kS kR
  go_wp2_with fail
  refine (take_any R.out.1 R.out.2 N.out bb).mono ?_
  rintro _ V ⟨rfl, s2, k2⟩
  have S2 : Hid _ := s2
  have K2 : Hid (Kp W V) := KB.out.trans k2
  clear s2 k2
  go_wp2
  go_ret
  refine ⟨bb, a', c', v', vf, rfl, ?_, ?_, K2.out⟩
  · rw [E.out]
  · rw [E.out]; exact S2.out
end S17
end
section
namespace S17
open Go.RowKit
open S14 (gtP gtP_at set_self)

def fvL (F L : Nat) : Value := .func (.func F) #[.pointer (some ⟨L, 0, none⟩)] #[]
def arr (L : Nat) : Array Value := #[fvL 91 L, fvL 92 L, fvL 93 L, fvL 94 L, fvL 95 L, fvL 96 L, fvL 97 L]
theorem infoA7 : (Tryz.prog.info? 128).map (·.size) = some 7 := by kernel_rfl
theorem rtA7 : RowTy 128 7 := ⟨infoA7, _, Tryz.underlying128, rfl⟩
theorem ldA7 (x : Value) : Instr.loadAt 128 x = ldS 128 x := rfl
theorem stA7 (x y : Value) : Instr.storeAt 128 x y = stS 128 x y := rfl
theorem arr_one (L : Nat) : ∀ v ∈ (arr L).toList, v.oneCell' = true := one_of rfl
theorem new_a7 (W : World) (L : Nat) : ∃ W', (stS 128 (.pointer (some ⟨W.heap.size, 0, none⟩)) (.agg (arr L))).run Tryz.prog (W.alloc (.cells #[.nilFunc, .nilFunc, .nilFunc, .nilFunc, .nilFunc, .nilFunc, .nilFunc] 128)) = .ok () W' ∧ RvAt W' W.heap.size 128 (arr L) ∧ Below W.heap.size W W' ∧ W'.heap.size = W.heap.size + 1 := row_new rtA7 W _ _ rfl rfl (arr_one L)
theorem ix0 (L : Nat) (w : World) : (Instr.index 128 (.agg (arr L)) (.int .i64 0)).run Tryz.prog w = .ok (.func (.func 91) #[.pointer (some ⟨L, 0, none⟩)] #[]) w := by kernel_rfl
theorem ix1 (L : Nat) (w : World) : (Instr.index 128 (.agg (arr L)) (.int .i64 1)).run Tryz.prog w = .ok (.func (.func 92) #[.pointer (some ⟨L, 0, none⟩)] #[]) w := by kernel_rfl
theorem ix2 (L : Nat) (w : World) : (Instr.index 128 (.agg (arr L)) (.int .i64 2)).run Tryz.prog w = .ok (.func (.func 93) #[.pointer (some ⟨L, 0, none⟩)] #[]) w := by kernel_rfl
theorem ix3 (L : Nat) (w : World) : (Instr.index 128 (.agg (arr L)) (.int .i64 3)).run Tryz.prog w = .ok (.func (.func 94) #[.pointer (some ⟨L, 0, none⟩)] #[]) w := by kernel_rfl
theorem ix4 (L : Nat) (w : World) : (Instr.index 128 (.agg (arr L)) (.int .i64 4)).run Tryz.prog w = .ok (.func (.func 95) #[.pointer (some ⟨L, 0, none⟩)] #[]) w := by kernel_rfl
theorem ix5 (L : Nat) (w : World) : (Instr.index 128 (.agg (arr L)) (.int .i64 5)).run Tryz.prog w = .ok (.func (.func 96) #[.pointer (some ⟨L, 0, none⟩)] #[]) w := by kernel_rfl
theorem ix6 (L : Nat) (w : World) : (Instr.index 128 (.agg (arr L)) (.int .i64 6)).run Tryz.prog w = .ok (.func (.func 97) #[.pointer (some ⟨L, 0, none⟩)] #[]) w := by kernel_rfl
attribute [local go_sem ↓] ldA7 stA7
attribute [local go_sem] ix0 ix1 ix2 ix3 ix4 ix5 ix6
set_option maxHeartbeats 2000000 in
theorem steps_any (L : Nat) (W : World) :
    Calls Tryz.prog 73 #[.pointer (some ⟨L, 0, none⟩)] W fun r V => r = .returned (.agg (arr L)) ∧ Below W.heap.size W V := by
  obtain ⟨V, sV, rV, bV, zV⟩ := new_a7 W L
  unfold arr fvL at sV
  have F : Hid (RvAt V W.heap.size 128 (arr L) ∧ Below W.heap.size W V) := ⟨rV, bV⟩
  clear rV bV zV
  go_enter Tryz.func73, Tryz.ntmps73
  go_wp2
  refine bodyPost_ret (results_row rtA7 Tryz.results73 _ _ _ _ rfl F.out.1 rfl) rfl ?_
  exact ⟨rfl, F.out.2⟩
def LT (w W : World) (L n : Nat) (h : Hd) (s : Ps) : Prop := ∃ (a : Option Addr) (c : Nat) (vo vf : Value), LS w W L h a n c s.l vo vf s.o s.f
theorem LT.below {w W V : World} {L n : Nat} {h : Hd} {s : Ps} (t : LT w W L n h s) (k : Below W.heap.size W V) : LT w V L n h s := by
  obtain ⟨a, c, vo, vf, q⟩ := t
  exact ⟨a, c, vo, vf, q.below k⟩
theorem stp0 {w W : World} {L n i : Nat} {h : Hd} {s : Ps} (t : LT w W L n h s) (hn : n ≤ 100) (ho : s.o.length ≤ 90000) (hf : s.f.length ≤ 90000) (hi : i < n) :
    Calls Tryz.prog 91 #[.pointer (some ⟨L, 0, none⟩), .int .i64 (i : Int)] W fun r V => ∃ x : Bool, r = .returned (.bool x) ∧ (stK h i s 0).b = (s.b || x) ∧ LT w V L n h (stK h i s 0) ∧ Kp W V := by
  obtain ⟨a, c, vo, vf, q⟩ := t
  exact (inf_any w W L n c h a vo vf s i q (by omega) ho hf hi).mono fun r V ⟨x, a', c', vo', vf', e, eb, q', k'⟩ => ⟨x, e, eb, ⟨a', c', vo', vf', q'⟩, k'⟩
theorem stp1 {w W : World} {L n i : Nat} {h : Hd} {s : Ps} (t : LT w W L n h s) (hn : n ≤ 100) (ho : s.o.length ≤ 90000) (hf : s.f.length ≤ 90000) (hi : i < n) :
    Calls Tryz.prog 92 #[.pointer (some ⟨L, 0, none⟩), .int .i64 (i : Int)] W fun r V => ∃ x : Bool, r = .returned (.bool x) ∧ (stK h i s 1).b = (s.b || x) ∧ LT w V L n h (stK h i s 1) ∧ Kp W V := by
  obtain ⟨a, c, vo, vf, q⟩ := t
  exact (tra_any w W L n c h a vo vf s i q (by omega) ho hf hi).mono fun r V ⟨x, a', c', vo', vf', e, eb, q', k'⟩ => ⟨x, e, eb, ⟨a', c', vo', vf', q'⟩, k'⟩
theorem stp2 {w W : World} {L n i : Nat} {h : Hd} {s : Ps} (t : LT w W L n h s) (hn : n ≤ 100) (ho : s.o.length ≤ 90000) (hf : s.f.length ≤ 90000) (hi : i < n) :
    Calls Tryz.prog 93 #[.pointer (some ⟨L, 0, none⟩), .int .i64 (i : Int)] W fun r V => ∃ x : Bool, r = .returned (.bool x) ∧ (stK h i s 2).b = (s.b || x) ∧ LT w V L n h (stK h i s 2) ∧ Kp W V := by
  obtain ⟨a, c, vo, vf, q⟩ := t
  exact (sta_any w W L n c h a vo vf s i q (by omega) ho hf hi).mono fun r V ⟨x, a', c', vo', vf', e, eb, q', k'⟩ => ⟨x, e, eb, ⟨a', c', vo', vf', q'⟩, k'⟩
theorem stp3 {w W : World} {L n i : Nat} {h : Hd} {s : Ps} (t : LT w W L n h s) (hn : n ≤ 100) (ho : s.o.length ≤ 90000) (hf : s.f.length ≤ 90000) (hi : i < n) :
    Calls Tryz.prog 94 #[.pointer (some ⟨L, 0, none⟩), .int .i64 (i : Int)] W fun r V => ∃ x : Bool, r = .returned (.bool x) ∧ (stK h i s 3).b = (s.b || x) ∧ LT w V L n h (stK h i s 3) ∧ Kp W V := by
  obtain ⟨a, c, vo, vf, q⟩ := t
  exact (top_any w W L n c h a vo vf s i q (by omega) ho hf hi).mono fun r V ⟨x, a', c', vo', vf', e, eb, q', k'⟩ => ⟨x, e, eb, ⟨a', c', vo', vf', q'⟩, k'⟩
theorem stp4 {w W : World} {L n i : Nat} {h : Hd} {s : Ps} (t : LT w W L n h s) (hn : n ≤ 100) (ho : s.o.length ≤ 90000) (hf : s.f.length ≤ 90000) (hi : i < n) :
    Calls Tryz.prog 95 #[.pointer (some ⟨L, 0, none⟩), .int .i64 (i : Int)] W fun r V => ∃ x : Bool, r = .returned (.bool x) ∧ (stK h i s 4).b = (s.b || x) ∧ LT w V L n h (stK h i s 4) ∧ Kp W V := by
  obtain ⟨a, c, vo, vf, q⟩ := t
  exact (flu_any w W L n c h a vo vf s i q (by omega) ho hf hi).mono fun r V ⟨x, a', c', vo', vf', e, eb, q', k'⟩ => ⟨x, e, eb, ⟨a', c', vo', vf', q'⟩, k'⟩
theorem stp5 {w W : World} {L n i : Nat} {h : Hd} {s : Ps} (t : LT w W L n h s) (hn : n ≤ 100) (ho : s.o.length ≤ 90000) (hf : s.f.length ≤ 90000) (hi : i < n) :
    Calls Tryz.prog 96 #[.pointer (some ⟨L, 0, none⟩), .int .i64 (i : Int)] W fun r V => ∃ x : Bool, r = .returned (.bool x) ∧ (stK h i s 5).b = (s.b || x) ∧ LT w V L n h (stK h i s 5) ∧ Kp W V := by
  obtain ⟨a, c, vo, vf, q⟩ := t
  exact (ver_any w W L n c h a vo vf s i q (by omega) ho hf hi).mono fun r V ⟨x, a', c', vo', vf', e, eb, q', k'⟩ => ⟨x, e, eb, ⟨a', c', vo', vf', q'⟩, k'⟩
theorem stp6 {w W : World} {L n i : Nat} {h : Hd} {s : Ps} (t : LT w W L n h s) (hn : n ≤ 100) (ho : s.o.length ≤ 90000) (hf : s.f.length ≤ 90000) (hi : i < n) :
    Calls Tryz.prog 97 #[.pointer (some ⟨L, 0, none⟩), .int .i64 (i : Int)] W fun r V => ∃ x : Bool, r = .returned (.bool x) ∧ (stK h i s 6).b = (s.b || x) ∧ LT w V L n h (stK h i s 6) ∧ Kp W V := by
  obtain ⟨a, c, vo, vf, q⟩ := t
  exact (trn_any w W L n c h a vo vf s i q (by omega) ho hf hi).mono fun r V ⟨x, a', c', vo', vf', e, eb, q', k'⟩ => ⟨x, e, eb, ⟨a', c', vo', vf', q'⟩, k'⟩
theorem run_go {n m : Nat} {t : Ts} (h : (pass n t).s.b = true) : runN n (m + 1) t = runN n m (pass n t) := if_pos h
theorem run_end {n m : Nat} {t : Ts} (h : (pass n t).s.b = false) : runN n (m + 1) t = pass n t := if_neg (by rw [h]; simp)
set_option maxHeartbeats 8000000 in
theorem rest_any {w W : World} {L n c : Nat} {h : Hd} {a : Option Addr} {l : List Pt} {vo vf : Value} (s : LS w W L h a n c l vo vf [] []) (hn : n ≤ 100) :
    Calls Tryz.prog 54 #[.pointer (some ⟨L, 0, none⟩)] W fun r V => r = .returned (.tuple #[]) ∧ LT w V L n (runN n 100 (start h l)).h (runN n 100 (start h l)).s ∧ Kp W V := by
  obtain ⟨T, hT⟩ : ∃ z, runN n 100 (start h l) = z := ⟨_, rfl⟩
  rw [hT]
  have S0 : Hid (LT w W L n (start h l).h (start h l).s ∧ runN n (100 - 0) (start h l) = T) := ⟨⟨a, c, vo, vf, s⟩, hT⟩
  have E0 : Hid ((start h l).s.o.length ≤ 0 ∧ (start h l).s.f.length ≤ 0) := ⟨Nat.le_refl _, Nat.le_refl _⟩
  obtain ⟨t0, ht0⟩ : ∃ z, start h l = z := ⟨_, rfl⟩
  rw [ht0] at S0 E0
  clear s hT ht0
  go_enter Tryz.func54, Tryz.ntmps54
  go_wp2_with fail
  go_step3
  go_wp2_with fail
  refine (steps_any L W).mono ?_
  rintro _ X ⟨rfl, b1⟩
  obtain ⟨Y, sY, rY, bY, zY⟩ := new_a7 X L
  obtain ⟨z, hz⟩ : ∃ z, X.heap.size = z := ⟨_, rfl⟩
  rw [hz] at sY rY
  have A0 : Hid (RvAt Y z 128 (arr L) ∧ LT w Y L n t0.h t0.s ∧ Kp W Y) := ⟨rY, (S0.out.1.below b1).below bY, (Kp.of b1).trans (Kp.of bY)⟩
  have HT : Hid (runN n (100 - 0) t0 = T) := S0.out.2
  clear b1 rY bY zY S0
  go_wp2_with fail
  try go_step3
  go_wp2_with fail
  go_loopw [9] (fun v9 wr => ∃ (j : Nat) (t : Ts), j ≤ 100 ∧ v9 = .int .i64 j ∧ runN n (100 - j) t = T ∧ LT w wr L n t.h t.s ∧ t.s.o.length ≤ j * n ∧ t.s.f.length ≤ j * n ∧ RvAt wr z 128 (arr L) ∧ Kp W wr) (fun v9 _ => 100 - (intOf v9).toNat)
  case atStart => exact ⟨0, t0, by omega, rfl, HT.out, A0.out.2.1, by rw [Nat.zero_mul]; exact E0.out.1, by rw [Nat.zero_mul]; exact E0.out.2, A0.out.1, A0.out.2.2⟩
  case round =>
    obtain ⟨j, t, hj, rfl, hrun, hL, ho, hf, hA, hK⟩ := hrel
    obtain ⟨V0, rfl⟩ : ∃ V, V = wr := ⟨_, rfl⟩
    by_cases hj1 : j < 100
    rotate_left
    · have hj2 : j = 100 := by omega
      subst hj2
      have F : Hid (LT w V0 L n T.h T.s ∧ Kp W V0) := by
        have : t = T := hrun
        rw [← this]
        exact ⟨hL, hK⟩
      clear hrun hL ho hf hA hK A0
      go_wp2
      try rw [Exit.noGoto_normal]
      go_end0
      exact ⟨rfl, F.out.1, F.out.2⟩
    have hj3 : (j : Int) < 100 := by omega
    have J : Hid (runN n (100 - j) t = T ∧ t.s.o.length ≤ j * n ∧ t.s.f.length ≤ j * n ∧ j * n + n ≤ 10000) := ⟨hrun, ho, hf, by have : j * n ≤ 99 * 100 := Nat.mul_le_mul (by omega) hn; omega⟩
    obtain ⟨a, c, vo, vf, q⟩ := hL
    have Q : Hid (LS w V0 L t.h a n c t.s.l vo vf t.s.o t.s.f ∧ RvAt V0 z 128 (arr L) ∧ Kp W V0) := ⟨q, hA, hK⟩
    clear hrun ho hf q hA hK A0
    go_wp2_with fail
    refine (sel_any Q.out.1 (by omega)).mono ?_
    rintro _ V1 ⟨rfl, a1, c1, q1, k1⟩
    obtain ⟨hh, ehh⟩ : ∃ z, S12.stpH t.h t.s.l = z := ⟨_, rfl⟩
    obtain ⟨s1, es1⟩ : ∃ z : Ps, (⟨S12.stpL t.h t.s.l, S12.stpB t.h t.s.l, t.s.o, t.s.f⟩ : Ps) = z := ⟨_, rfl⟩
    have EP : Hid (pass n t = ⟨hh, psN hh n s1⟩ ∧ s1.o.length ≤ j * n ∧ s1.f.length ≤ j * n) := ⟨by unfold pass; rw [ehh, es1], by rw [← es1]; exact J.out.2.1, by rw [← es1]; exact J.out.2.2.1⟩
    have eb1 : S12.stpB t.h t.s.l = s1.b := by rw [← es1]
    rw [eb1]
    have c16 := q1.c16
    have Q1 : Hid (LT w V1 L n hh s1 ∧ RvAt V1 z 128 (arr L) ∧ Kp W V1) := ⟨⟨a1, c1, vo, vf, by rw [← ehh, ← es1]; exact q1⟩, k1 _ _ _ Q.out.2.1 (by decide) (by decide) (by decide) (by decide), Q.out.2.2.trans k1⟩
    clear q1 k1 ehh es1 eb1 Q
    go_wp2_with fail
    go_loopw [3, 19] (fun v3 v19 wr => ∃ i : Nat, i ≤ n ∧ v19 = .int .i64 i ∧ v3 = .bool (psN hh i s1).b ∧ LT w wr L n hh (psN hh i s1) ∧ RvAt wr z 128 (arr L) ∧ Kp W wr) (fun _ v19 _ => n - (intOf v19).toNat)
    case atStart => exact ⟨0, by omega, rfl, rfl, Q1.out.1, Q1.out.2.1, Q1.out.2.2⟩
    case round =>
      obtain ⟨i, hi, rfl, rfl, hL, hA, hK⟩ := hrel
      obtain ⟨V2, rfl⟩ : ∃ V, V = wr := ⟨_, rfl⟩
      by_cases hi1 : i < n
      rotate_left
      · have hi2 : i = n := by omega
        subst hi2
        have hlt : ¬ (i : Int) < (i : Int) := by omega
        have PE := EP.out.1
        obtain ⟨sn, esn⟩ : ∃ z, psN hh i s1 = z := ⟨_, rfl⟩
        have LN := psN_o hh s1 i
        rw [esn] at PE hL LN ⊢
        have F : Hid (LT w V2 L i hh sn ∧ RvAt V2 z 128 (arr L) ∧ Kp W V2 ∧ pass i t = ⟨hh, sn⟩ ∧ sn.o.length ≤ (j + 1) * i ∧ sn.f.length ≤ (j + 1) * i) := ⟨hL, hA, hK, PE, by rw [Nat.succ_mul]; have := EP.out.2.1; omega, by rw [Nat.succ_mul]; have := EP.out.2.2; omega⟩
        clear hL hA hK PE LN esn c16 Q1 EP
        obtain ⟨bb, hbb⟩ : ∃ z, sn.b = z := ⟨_, rfl⟩
        rw [hbb]
        cases bb
        · have G : Hid (T = ⟨hh, sn⟩) := by
            have e1 : 100 - j = (100 - j - 1) + 1 := by omega
            have e2 := J.out.1
            rw [e1, run_end (by rw [F.out.2.2.2.1]; exact hbb), F.out.2.2.2.1] at e2
            exact e2.symm
          clear hbb
          go_wp2
          try rw [Exit.noGoto_normal]
          go_end0
          refine ⟨rfl, ?_, F.out.2.2.1⟩
          rw [G.out]
          exact F.out.1
        · have G : Hid (runN i (100 - (j + 1)) ⟨hh, sn⟩ = T) := by
            have e1 : 100 - j = (100 - (j + 1)) + 1 := by omega
            have e2 := J.out.1
            rw [e1, run_go (by rw [F.out.2.2.2.1]; exact hbb), F.out.2.2.2.1] at e2
            exact e2
          clear hbb
          go_wp2
          go_roundw
          case rel => exact ⟨j + 1, ⟨hh, sn⟩, by omega, by go_num, G.out, F.out.1, F.out.2.2.2.2.1, F.out.2.2.2.2.2, F.out.2.1, F.out.2.2.1⟩
          case measure => simp [intOf]; omega
      have hi3 : (i : Int) < (n : Int) := by omega
      obtain ⟨si, esi⟩ : ∃ z, psN hh i s1 = z := ⟨_, rfl⟩
      have LN := psN_o hh s1 i
      rw [esi] at hL LN ⊢
      have I : Hid (psN hh (i + 1) s1 = ptN hh i 7 si ∧ si.o.length ≤ 10000 ∧ si.f.length ≤ 10000) := ⟨by rw [← esi]; rfl, by have := EP.out.2.1; have := J.out.2.2.2; omega, by have := EP.out.2.2; have := J.out.2.2.2; omega⟩
      have la := hA.ld rtA7 rfl
      have Q2 : Hid (LT w V2 L n hh si ∧ RvAt V2 z 128 (arr L) ∧ Kp W V2) := ⟨hL, hA, hK⟩
      clear hL hA hK LN esi c16 Q1
      go_wp2_with fail
      go_loopw [3, 23] (fun v3 v23 wr => ∃ k : Nat, k ≤ 7 ∧ v23 = .int .i64 k ∧ v3 = .bool (ptN hh i k si).b ∧ LT w wr L n hh (ptN hh i k si) ∧ RvAt wr z 128 (arr L) ∧ Kp W wr) (fun _ v23 _ => 7 - (intOf v23).toNat)
      case atStart => exact ⟨0, by omega, rfl, rfl, Q2.out.1, Q2.out.2.1, Q2.out.2.2⟩
      case round =>
        obtain ⟨k, hk, rfl, rfl, hL, hA, hK⟩ := hrel
        clear la
        have LN := ptN_o hh i si k
        have hB : (ptN hh i k si).o.length ≤ 90000 ∧ (ptN hh i k si).f.length ≤ 90000 := by
          have := I.out.2.1
          have := I.out.2.2
          have h1 := LN.1
          have h2 := LN.2
          constructor
          · split at h1 <;> omega
          · split at h2 <;> omega
        clear LN
        obtain ⟨sk, esk⟩ : ∃ z, ptN hh i k si = z := ⟨_, rfl⟩
        rw [esk] at hL hB ⊢
        have K0 : Hid (LT w wr L n hh sk ∧ RvAt wr z 128 (arr L) ∧ Kp W wr ∧ sk.o.length ≤ 90000 ∧ sk.f.length ≤ 90000) := ⟨hL, hA, hK, hB.1, hB.2⟩
        have ES : Hid (ptN hh i k si = sk) := esk
        clear hL hA hK hB esk
        obtain ⟨bk, hbk⟩ : ∃ z, sk.b = z := ⟨_, rfl⟩
        have BK : Hid (sk.b = bk) := hbk
        rw [hbk]
        clear hbk
        rcases (show k = 0 ∨ k = 1 ∨ k = 2 ∨ k = 3 ∨ k = 4 ∨ k = 5 ∨ k = 6 ∨ k = 7 by omega) with rfl | rfl | rfl | rfl | rfl | rfl | rfl | rfl
        · go_wp2_with fail
          refine (stp0 K0.out.1 hn K0.out.2.2.2.1 K0.out.2.2.2.2 hi1).mono ?_
          rintro _ V3 ⟨x, rfl, eb, q3, k3⟩
          have KX : Hid (ptN hh i 1 si = stK hh i sk 0) := by rw [← ES.out]; exact rfl
          have Q3 : Hid (LT w V3 L n hh (stK hh i sk 0) ∧ RvAt V3 z 128 (arr L) ∧ Kp W V3 ∧ (stK hh i sk 0).b = (bk || x)) := ⟨q3, k3 _ _ _ K0.out.2.1 (by decide) (by decide) (by decide) (by decide), K0.out.2.2.1.trans k3, by rw [eb, BK.out]⟩
          clear eb q3 k3 K0
          cases x
          · go_wp2
            go_roundw
            case rel => exact ⟨1, by omega, by go_num, by rw [KX.out, Q3.out.2.2.2]; simp, by rw [KX.out]; exact Q3.out.1, Q3.out.2.1, Q3.out.2.2.1⟩
            case measure => simp [intOf]
          · go_wp2
            go_roundw
            case rel => exact ⟨1, by omega, by go_num, by rw [KX.out, Q3.out.2.2.2]; simp, by rw [KX.out]; exact Q3.out.1, Q3.out.2.1, Q3.out.2.2.1⟩
            case measure => simp [intOf]
        · go_wp2_with fail
          refine (stp1 K0.out.1 hn K0.out.2.2.2.1 K0.out.2.2.2.2 hi1).mono ?_
          rintro _ V3 ⟨x, rfl, eb, q3, k3⟩
          have KX : Hid (ptN hh i 2 si = stK hh i sk 1) := by rw [← ES.out]; exact rfl
          have Q3 : Hid (LT w V3 L n hh (stK hh i sk 1) ∧ RvAt V3 z 128 (arr L) ∧ Kp W V3 ∧ (stK hh i sk 1).b = (bk || x)) := ⟨q3, k3 _ _ _ K0.out.2.1 (by decide) (by decide) (by decide) (by decide), K0.out.2.2.1.trans k3, by rw [eb, BK.out]⟩
          clear eb q3 k3 K0
          cases x
          · go_wp2
            go_roundw
            case rel => exact ⟨2, by omega, by go_num, by rw [KX.out, Q3.out.2.2.2]; simp, by rw [KX.out]; exact Q3.out.1, Q3.out.2.1, Q3.out.2.2.1⟩
            case measure => simp [intOf]
          · go_wp2
            go_roundw
            case rel => exact ⟨2, by omega, by go_num, by rw [KX.out, Q3.out.2.2.2]; simp, by rw [KX.out]; exact Q3.out.1, Q3.out.2.1, Q3.out.2.2.1⟩
            case measure => simp [intOf]
        · go_wp2_with fail
          refine (stp2 K0.out.1 hn K0.out.2.2.2.1 K0.out.2.2.2.2 hi1).mono ?_
          rintro _ V3 ⟨x, rfl, eb, q3, k3⟩
          have KX : Hid (ptN hh i 3 si = stK hh i sk 2) := by rw [← ES.out]; exact rfl
          have Q3 : Hid (LT w V3 L n hh (stK hh i sk 2) ∧ RvAt V3 z 128 (arr L) ∧ Kp W V3 ∧ (stK hh i sk 2).b = (bk || x)) := ⟨q3, k3 _ _ _ K0.out.2.1 (by decide) (by decide) (by decide) (by decide), K0.out.2.2.1.trans k3, by rw [eb, BK.out]⟩
          clear eb q3 k3 K0
          cases x
          · go_wp2
            go_roundw
            case rel => exact ⟨3, by omega, by go_num, by rw [KX.out, Q3.out.2.2.2]; simp, by rw [KX.out]; exact Q3.out.1, Q3.out.2.1, Q3.out.2.2.1⟩
            case measure => simp [intOf]
          · go_wp2
            go_roundw
            case rel => exact ⟨3, by omega, by go_num, by rw [KX.out, Q3.out.2.2.2]; simp, by rw [KX.out]; exact Q3.out.1, Q3.out.2.1, Q3.out.2.2.1⟩
            case measure => simp [intOf]
        · go_wp2_with fail
          refine (stp3 K0.out.1 hn K0.out.2.2.2.1 K0.out.2.2.2.2 hi1).mono ?_
          rintro _ V3 ⟨x, rfl, eb, q3, k3⟩
          have KX : Hid (ptN hh i 4 si = stK hh i sk 3) := by rw [← ES.out]; exact rfl
          have Q3 : Hid (LT w V3 L n hh (stK hh i sk 3) ∧ RvAt V3 z 128 (arr L) ∧ Kp W V3 ∧ (stK hh i sk 3).b = (bk || x)) := ⟨q3, k3 _ _ _ K0.out.2.1 (by decide) (by decide) (by decide) (by decide), K0.out.2.2.1.trans k3, by rw [eb, BK.out]⟩
          clear eb q3 k3 K0
          cases x
          · go_wp2
            go_roundw
            case rel => exact ⟨4, by omega, by go_num, by rw [KX.out, Q3.out.2.2.2]; simp, by rw [KX.out]; exact Q3.out.1, Q3.out.2.1, Q3.out.2.2.1⟩
            case measure => simp [intOf]
          · go_wp2
            go_roundw
            case rel => exact ⟨4, by omega, by go_num, by rw [KX.out, Q3.out.2.2.2]; simp, by rw [KX.out]; exact Q3.out.1, Q3.out.2.1, Q3.out.2.2.1⟩
            case measure => simp [intOf]
        · go_wp2_with fail
          refine (stp4 K0.out.1 hn K0.out.2.2.2.1 K0.out.2.2.2.2 hi1).mono ?_
          rintro _ V3 ⟨x, rfl, eb, q3, k3⟩
          have KX : Hid (ptN hh i 5 si = stK hh i sk 4) := by rw [← ES.out]; exact rfl
          have Q3 : Hid (LT w V3 L n hh (stK hh i sk 4) ∧ RvAt V3 z 128 (arr L) ∧ Kp W V3 ∧ (stK hh i sk 4).b = (bk || x)) := ⟨q3, k3 _ _ _ K0.out.2.1 (by decide) (by decide) (by decide) (by decide), K0.out.2.2.1.trans k3, by rw [eb, BK.out]⟩
          clear eb q3 k3 K0
          cases x
          · go_wp2
            go_roundw
            case rel => exact ⟨5, by omega, by go_num, by rw [KX.out, Q3.out.2.2.2]; simp, by rw [KX.out]; exact Q3.out.1, Q3.out.2.1, Q3.out.2.2.1⟩
            case measure => simp [intOf]
          · go_wp2
            go_roundw
            case rel => exact ⟨5, by omega, by go_num, by rw [KX.out, Q3.out.2.2.2]; simp, by rw [KX.out]; exact Q3.out.1, Q3.out.2.1, Q3.out.2.2.1⟩
            case measure => simp [intOf]
        · go_wp2_with fail
          refine (stp5 K0.out.1 hn K0.out.2.2.2.1 K0.out.2.2.2.2 hi1).mono ?_
          rintro _ V3 ⟨x, rfl, eb, q3, k3⟩
          have KX : Hid (ptN hh i 6 si = stK hh i sk 5) := by rw [← ES.out]; exact rfl
          have Q3 : Hid (LT w V3 L n hh (stK hh i sk 5) ∧ RvAt V3 z 128 (arr L) ∧ Kp W V3 ∧ (stK hh i sk 5).b = (bk || x)) := ⟨q3, k3 _ _ _ K0.out.2.1 (by decide) (by decide) (by decide) (by decide), K0.out.2.2.1.trans k3, by rw [eb, BK.out]⟩
          clear eb q3 k3 K0
          cases x
          · go_wp2
            go_roundw
            case rel => exact ⟨6, by omega, by go_num, by rw [KX.out, Q3.out.2.2.2]; simp, by rw [KX.out]; exact Q3.out.1, Q3.out.2.1, Q3.out.2.2.1⟩
            case measure => simp [intOf]
          · go_wp2
            go_roundw
            case rel => exact ⟨6, by omega, by go_num, by rw [KX.out, Q3.out.2.2.2]; simp, by rw [KX.out]; exact Q3.out.1, Q3.out.2.1, Q3.out.2.2.1⟩
            case measure => simp [intOf]
        · go_wp2_with fail
          refine (stp6 K0.out.1 hn K0.out.2.2.2.1 K0.out.2.2.2.2 hi1).mono ?_
          rintro _ V3 ⟨x, rfl, eb, q3, k3⟩
          have KX : Hid (ptN hh i 7 si = stK hh i sk 6) := by rw [← ES.out]; exact rfl
          have Q3 : Hid (LT w V3 L n hh (stK hh i sk 6) ∧ RvAt V3 z 128 (arr L) ∧ Kp W V3 ∧ (stK hh i sk 6).b = (bk || x)) := ⟨q3, k3 _ _ _ K0.out.2.1 (by decide) (by decide) (by decide) (by decide), K0.out.2.2.1.trans k3, by rw [eb, BK.out]⟩
          clear eb q3 k3 K0
          cases x
          · go_wp2
            go_roundw
            case rel => exact ⟨7, by omega, by go_num, by rw [KX.out, Q3.out.2.2.2]; simp, by rw [KX.out]; exact Q3.out.1, Q3.out.2.1, Q3.out.2.2.1⟩
            case measure => simp [intOf]
          · go_wp2
            go_roundw
            case rel => exact ⟨7, by omega, by go_num, by rw [KX.out, Q3.out.2.2.2]; simp, by rw [KX.out]; exact Q3.out.1, Q3.out.2.1, Q3.out.2.2.1⟩
            case measure => simp [intOf]
        · have KX : Hid (psN hh (i + 1) s1 = sk) := by rw [I.out.1]; exact ES.out
          go_wp2
          go_roundw
          case rel => exact ⟨i + 1, by omega, by go_num, by rw [KX.out, BK.out], by rw [KX.out]; exact K0.out.1, K0.out.2.1, K0.out.2.2.1⟩
          case measure => simp [intOf]; omega
end S17
end
section
namespace S17
open Go.Shelf
def sortI_ren : Go.Shelf.Ren := ⟨fun | 5 => 55 | 8 => 76 | 7 => 75 | 19 => 109 | 20 => 110 | 10 => 100 | 11 => 101 | 12 => 102 | 13 => 103 | 14 => 104 | 15 => 105 | 16 => 106 | 17 => 107 | 18 => 108 | 30 => 140 | 31 => 141 | 32 => 142 | 33 => 143 | 34 => 144 | 35 => 145 | 40 => 187 | n => n, fun | 23 => 50 | 25 => 3 | 3 => 3 | 32 => 87 | 22 => 50 | 0 => 0 | 44 => 34 | 46 => 22 | 4 => 4 | 36 => 145 | 35 => 144 | 41 => 150 | 5 => 5 | 9 => 9 | 53 => 166 | 57 => 170 | 63 => 194 | 64 => 195 | n => n, fun | n => n⟩
theorem sortI : Go.Proofs.SlLaysM.n5 Tryz.prog sortI_ren := {
  mixed := by kernel_rfl
  f5 := ⟨Tryz.f55.name, by decide, Tryz.func55.trans (congrArg some (by kernel_rfl))⟩
  f7 := ⟨Tryz.f75.name, by decide, Tryz.func75.trans (congrArg some (by kernel_rfl))⟩
  f8 := Tryz.func76.trans (congrArg some (by kernel_rfl))
  f10 := ⟨Tryz.f100.name, by decide, Tryz.func100.trans (congrArg some (by kernel_rfl))⟩
  f11 := ⟨Tryz.f101.name, by decide, Tryz.func101.trans (congrArg some (by kernel_rfl))⟩
  f12 := ⟨Tryz.f102.name, by decide, Tryz.func102.trans (congrArg some (by kernel_rfl))⟩
  f13 := ⟨Tryz.f103.name, by decide, Tryz.func103.trans (congrArg some (by kernel_rfl))⟩
  f14 := ⟨Tryz.f104.name, by decide, Tryz.func104.trans (congrArg some (by kernel_rfl))⟩
  f15 := ⟨Tryz.f105.name, by decide, Tryz.func105.trans (congrArg some (by kernel_rfl))⟩
  f16 := ⟨Tryz.f106.name, by decide, Tryz.func106.trans (congrArg some (by kernel_rfl))⟩
  f17 := ⟨Tryz.f107.name, by decide, Tryz.func107.trans (congrArg some (by kernel_rfl))⟩
  f18 := ⟨Tryz.f108.name, by decide, Tryz.func108.trans (congrArg some (by kernel_rfl))⟩
  f19 := Tryz.func109.trans (congrArg some (by kernel_rfl))
  f20 := Tryz.func110.trans (congrArg some (by kernel_rfl))
  f30 := ⟨Tryz.f140.name, by decide, Tryz.func140.trans (congrArg some (by kernel_rfl))⟩
  f31 := Tryz.func141.trans (congrArg some (by kernel_rfl))
  f32 := Tryz.func142.trans (congrArg some (by kernel_rfl))
  f33 := ⟨Tryz.f143.name, by decide, Tryz.func143.trans (congrArg some (by kernel_rfl))⟩
  f34 := ⟨Tryz.f144.name, by decide, Tryz.func144.trans (congrArg some (by kernel_rfl))⟩
  f35 := ⟨Tryz.f145.name, by decide, Tryz.func145.trans (congrArg some (by kernel_rfl))⟩
  f40 := ⟨Tryz.f187.name, by decide, Tryz.func187.trans (congrArg some (by kernel_rfl))⟩
  t0 := Tryz.underlying0
  a0 := Tryz.isAgg0
  z0 := Tryz.sizeOf0
  v0 := Tryz.zeroValue0
  t3 := Tryz.underlying3
  a3 := Tryz.isAgg3
  z3 := Tryz.sizeOf3
  v3 := Tryz.zeroValue3
  t4 := Tryz.underlying4
  a4 := Tryz.isAgg4
  z4 := Tryz.sizeOf4
  v4 := Tryz.zeroValue4
  t5 := Tryz.underlying5
  a5 := Tryz.isAgg5
  z5 := Tryz.sizeOf5
  v5 := Tryz.zeroValue5
  t9 := Tryz.underlying9
  a9 := Tryz.isAgg9
  z9 := Tryz.sizeOf9
  v9 := Tryz.zeroValue9
  t22 := Tryz.underlying50
  a22 := Tryz.isAgg50
  z22 := Tryz.sizeOf50
  v22 := Tryz.zeroValue50
  t23 := Tryz.underlying50
  a23 := Tryz.isAgg50
  z23 := Tryz.sizeOf50
  v23 := Tryz.zeroValue50
  t25 := Tryz.underlying3
  a25 := Tryz.isAgg3
  z25 := Tryz.sizeOf3
  v25 := Tryz.zeroValue3
  t32 := Tryz.underlying87
  a32 := Tryz.isAgg87
  z32 := Tryz.sizeOf87
  v32 := Tryz.zeroValue87
  t35 := Tryz.underlying144
  a35 := Tryz.isAgg144
  z35 := Tryz.sizeOf144
  v35 := Tryz.zeroValue144
  t36 := Tryz.underlying145
  a36 := Tryz.isAgg145
  z36 := Tryz.sizeOf145
  v36 := Tryz.zeroValue145
  t41 := Tryz.underlying150
  a41 := Tryz.isAgg150
  z41 := Tryz.sizeOf150
  v41 := Tryz.zeroValue150
  t44 := Tryz.underlying34
  a44 := Tryz.isAgg34
  z44 := Tryz.sizeOf34
  v44 := Tryz.zeroValue34
  t46 := Tryz.underlying22
  a46 := Tryz.isAgg22
  z46 := Tryz.sizeOf22
  v46 := Tryz.zeroValue22
  t53 := Tryz.underlying166
  a53 := Tryz.isAgg166
  z53 := Tryz.sizeOf166
  v53 := Tryz.zeroValue166
  t57 := Tryz.underlying170
  a57 := Tryz.isAgg170
  z57 := Tryz.sizeOf170
  v57 := Tryz.zeroValue170
  t63 := Tryz.underlying194
  a63 := Tryz.isAgg194
  z63 := Tryz.sizeOf194
  v63 := Tryz.zeroValue194
  t64 := Tryz.underlying195
  a64 := Tryz.isAgg195
  z64 := Tryz.sizeOf195
  v64 := Tryz.zeroValue195 }
def compI_ren : Go.Shelf.Ren := ⟨fun | 43 => 56 | n => n, fun | 22 => 50 | 23 => 3 | 3 => 3 | 4 => 4 | 0 => 0 | n => n, fun | n => n⟩
theorem compI : Go.Proofs.SlLaysE.n43 Tryz.prog compI_ren := {
  mixed := by kernel_rfl
  f43 := ⟨Tryz.f56.name, by decide, Tryz.func56.trans (congrArg some (by kernel_rfl))⟩
  t0 := Tryz.underlying0
  a0 := Tryz.isAgg0
  z0 := Tryz.sizeOf0
  v0 := Tryz.zeroValue0
  t3 := Tryz.underlying3
  a3 := Tryz.isAgg3
  z3 := Tryz.sizeOf3
  v3 := Tryz.zeroValue3
  t4 := Tryz.underlying4
  a4 := Tryz.isAgg4
  z4 := Tryz.sizeOf4
  v4 := Tryz.zeroValue4
  t22 := Tryz.underlying50
  a22 := Tryz.isAgg50
  z22 := Tryz.sizeOf50
  v22 := Tryz.zeroValue50
  a23 := Tryz.isAgg3
  z23 := Tryz.sizeOf3 }
end S17
end
end Go.Proofs.YtlchejbggnbccaaGreat
