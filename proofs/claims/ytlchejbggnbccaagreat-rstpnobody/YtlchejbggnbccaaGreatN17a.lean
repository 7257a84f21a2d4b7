/-
  Slices of rows of any kind: what they lead to, what is loaded from them, appended to them, stored into them. Plain laws over the program's types. And what follows from it here.
-/
import Derived.Test.YtlchejbggnbccaaGreatNbb
import Derived.Test.YtlchejbggnbccaaGreatN11b
import Derived.Test.YtlchejbggnbccaaGreatN12a
import Derived.Test.YtlchejbggnbccaaGreatN13e
import Derived.Test.YtlchejbggnbccaaGreatN14a
import Derived.Test.YtlchejbggnbccaaGreatN15a
import Derived.Test.YtlchejbggnbccaaGreatN13a
import Derived.Deep.RegionHeld3
import Derived.Test.YtlchejbggnbccaaGreatNba
import Derived.Test.YtlchejbggnbccaaGreatN14b
import Derived.Deep.Cut
import Derived.Deep.CutRange
import Derived.Test.YtlchejbggnbccaaGreatN12b
import Derived.Test.YtlchejbggnbccaaGreatN14c
import Derived.Test.YtlchejbggnbccaaGreatN15c
namespace Go.Proofs.YtlchejbggnbccaaGreat
set_option linter.unusedVariables false
set_option linter.unusedSimpArgs false
set_option maxRecDepth 4000
section
namespace S16
open Go.RowKit

structure El (α : Type) where
  f : α → Array Value
  ty : TypeId
  st : TypeId
  K : Nat
  B : Nat
structure El.Ok {α : Type} (e : El α) : Prop where
  size : ∀ x, (e.f x).size = e.K
  pos : 0 < e.K
  one : ∀ x, ∀ v ∈ (e.f x).toList, v.oneCell' = true
  slc : Tryz.prog.underlying e.st = some (.slice e.ty)
  info : ∃ z, (Tryz.prog.info? e.ty).map (fun i => (i.zero, i.size, i.bytes)) = some (some z, e.K, e.B) ∧ z.cells.size = e.K
  byt : e.B ≤ 1000
def El.fl {α : Type} (e : El α) (l : List α) : List Value := l.flatMap fun x => (e.f x).toList
section
variable {α : Type} {e : El α}
theorem El.Ok.len (k : e.Ok) (x : α) : (e.f x).toList.length = e.K := by rw [Array.length_toList, k.size]
theorem El.fl_get (k : e.Ok) : ∀ (l : List α) (t : Nat), (e.fl l)[t]? = (l[t / e.K]?).bind (fun x => (e.f x).toList[t % e.K]?)
  | [], t => by simp [El.fl]
  | x :: r, t => by
    have hp := k.pos
    unfold El.fl
    rw [List.flatMap_cons]
    by_cases h : t < e.K
    · rw [List.getElem?_append_left (by rw [k.len]; exact h), Nat.div_eq_of_lt h, Nat.mod_eq_of_lt h]
      rfl
    · have ih := El.fl_get k r (t - e.K)
      unfold El.fl at ih
      rw [List.getElem?_append_right (by rw [k.len]; omega), k.len, ih]
      have h1 : t / e.K = (t - e.K) / e.K + 1 := by
        rw [← Nat.add_div_right _ hp, Nat.sub_add_cancel (by omega)]
      have h2 : (t - e.K) % e.K = t % e.K := by
        rw [← Nat.add_mod_right, Nat.sub_add_cancel (by omega)]
      rw [h1, h2, List.getElem?_cons_succ]
theorem El.fl_len (k : e.Ok) (l : List α) : (e.fl l).length = l.length * e.K := by
  induction l with
  | nil => simp [El.fl]
  | cons x r ih =>
    unfold El.fl at ih ⊢
    rw [List.flatMap_cons, List.length_append, ih, k.len, List.length_cons, Nat.add_mul, Nat.one_mul, Nat.add_comm]
theorem El.fl_one (k : e.Ok) (l : List α) : ∀ v ∈ e.fl l, v.oneCell' = true := by
  intro v hv
  obtain ⟨x, _, hx⟩ := List.mem_flatMap.1 hv
  exact k.one x v hx
theorem El.fl_app (l m : List α) : e.fl (l ++ m) = e.fl l ++ e.fl m := by simp [El.fl]
theorem El.fl_at (k : e.Ok) {l : List α} {i j : Nat} {x : α} {v : Value} (hx : l[i]? = some x) (hv : (e.f x)[j]? = some v) : (e.fl l)[i * e.K + j]? = some v := by
  have hp := k.pos
  have hj : j < e.K := by rw [← k.size x]; exact (Array.getElem?_eq_some_iff.1 hv).1
  have d1 : (i * e.K + j) / e.K = i := by rw [Nat.mul_comm, Nat.mul_add_div hp, Nat.div_eq_of_lt hj, Nat.add_zero]
  have d2 : (i * e.K + j) % e.K = j := by rw [Nat.mul_comm, Nat.mul_add_mod, Nat.mod_eq_of_lt hj]
  rw [El.fl_get k, d1, d2, hx]
  simpa using hv
structure SlAt (e : El α) (W : World) (a : Option Addr) (n c : Nat) (l : List α) : Prop where
  len : l.length = n
  cap : n ≤ c
  max : c ≤ maxLen
  nil : a = none → n = 0 ∧ c = 0
  cells : ∀ x, a = some x → 0 < n → ∃ b o, x = ⟨b, o, none⟩ ∧ ∀ j u, (e.fl l)[j]? = some u → W.cell? ⟨b, o + j, none⟩ = some u
  soft : ∀ x, a = some x → 0 < n → ∃ cs, RvAt W x.block e.ty cs
variable {W W' : World} {a : Option Addr} {n c : Nat} {l : List α}
theorem SlAt.below (h : SlAt e W a n c l) (hb : Below W.heap.size W W') : SlAt e W' a n c l := by
  refine ⟨h.len, h.cap, h.max, h.nil, fun x hx h0 => ?_, fun x hx h0 => (h.soft x hx h0).imp fun cs r => r.below hb⟩
  obtain ⟨b, o, e, hc⟩ := h.cells x hx h0
  exact ⟨b, o, e, fun j u hj => (hb.cell (World.block_lt_of_cell? W _ (hc j u hj))).trans (hc j u hj)⟩
theorem SlAt.keptBut {row : Option Nat} (h : SlAt e W a n c l) (hg : W.grownBy W' row) (hn : ∀ x, a = some x → 0 < n → some x.block ≠ row) : SlAt e W' a n c l := by
  refine ⟨h.len, h.cap, h.max, h.nil, fun x hx h0 => ?_, fun x hx h0 => (h.soft x hx h0).imp fun cs r => r.keptBut hg (hn x hx h0)⟩
  obtain ⟨b, o, e, hc⟩ := h.cells x hx h0
  refine ⟨b, o, e, fun j u hj => ?_⟩
  subst e
  exact hg.cell (hc j u hj) (hn ⟨b, o, none⟩ hx h0)
theorem SlAt.none' (W : World) : SlAt e W none 0 0 [] := ⟨rfl, Nat.le_refl _, by simp, fun _ => ⟨rfl, rfl⟩, (fun x h => by cases h), fun x h => by cases h⟩
theorem SlAt.keptV (h : SlAt e W a n c l) {b : Nat} {t : TypeId} {cs : Array Value} (r : RvAt W b t cs) (ht : t ≠ e.ty) (hg : W.grownBy W' (some b)) : SlAt e W' a n c l := h.keptBut hg (fun x hx h0 q => by
  obtain ⟨ds, rd⟩ := h.soft x hx h0
  simp only [Option.some.injEq] at q
  rw [q] at rd
  have := rd.symm.trans r
  cases this
  exact ht rfl)
theorem SlAt.some' (h : SlAt e W a n c l) (hn : 0 < n) : ∃ b o, a = some ⟨b, o, none⟩ := by
  cases a with
  | none => have := (h.nil rfl).1; omega
  | some x =>
    obtain ⟨b, o, e, _⟩ := h.cells x rfl hn
    exact ⟨b, o, by rw [e]⟩
theorem SlAt.cell (k : e.Ok) {b o : Nat} (h : SlAt e W (some ⟨b, o, none⟩) n c l) {i j q : Nat} {x : α} {v : Value} (hx : l[i]? = some x) (hv : (e.f x)[j]? = some v) (hq : q = o + (i * e.K + j)) : W.cell? ⟨b, q, none⟩ = some v := by
  obtain ⟨b', o', e', hc⟩ := h.cells _ rfl (by rw [← h.len]; exact Nat.lt_of_le_of_lt (Nat.zero_le _) (List.getElem?_eq_some_iff.1 hx).1)
  cases e'
  rw [hq]
  exact hc _ _ (El.fl_at k hx hv)
def Own (e : El α) (W : World) (B : Nat) (v : Value) (l : List α) : Prop := W.ownsRow B e.ty e.K v l.length (e.fl l)
variable {B : Nat} {v : Value}
theorem Own.form (h : Own e W B v l) : ∃ a c, v = .slice a l.length c ∧ SlAt e W a l.length c l ∧ ∀ x, a = some x → B ≤ x.block ∧ x.block < W.heap.size := by
  rcases h.2 with ⟨rfl, h0⟩ | ⟨g, cap, cur, rfl, hB, hb, h1, h2, h3, h4⟩
  · have : l = [] := List.eq_nil_of_length_eq_zero h0
    subst this
    exact ⟨none, 0, rfl, SlAt.none' W, fun x e => by cases e⟩
  · refine ⟨some ⟨g, 0, none⟩, cap, rfl, ⟨rfl, h1, h2, (fun e => by cases e), fun x e _ => ?_, fun x e _ => by cases e; exact ⟨cur, hb⟩⟩, fun x e => ?_⟩
    · cases e
      refine ⟨g, 0, rfl, fun j u hj => ?_⟩
      rw [Nat.zero_add]
      refine cell_at hb j u ?_
      rw [← h4, List.getElem?_take] at hj
      split at hj
      · rw [← Array.getElem?_toList]; exact hj
      · cases hj
    · cases e
      exact ⟨hB, lt_of_block hb⟩
theorem Own.nil (W : World) (B : Nat) : Own e W B (.slice none 0 0) [] := World.ownsRow_nil W B _ _
theorem Own.keptBut {row : Option Nat} (h : Own e W B v l) (hg : W.grownBy W' row) (hne : v.ownBlock = none ∨ v.ownBlock ≠ row) : Own e W' B v l := World.ownsRow.kept h hg hne
theorem Own.below (h : Own e W B v l) (hb : Below W.heap.size W W') : Own e W' B v l := by
  refine h.keptBut (grown_of_below hb none) ?_
  cases v.ownBlock <;> simp
theorem Own.blk (h : Own e W B v l) : ∀ k, v.ownBlock = some k → B ≤ k ∧ k < W.heap.size := World.ownsRow.lt h
def apS (st ty : TypeId) (xs : Array Value) : Sem Value := Builtin.append_ #[st, st] ty xs
theorem Own.app (k : e.Ok) {m : List α} (h : Own e W B v l) (hs : SlAt e W a n c m) (hl : l.length + m.length ≤ 100000) (hB : B ≤ W.heap.size) (ty : TypeId) :
    ∃ v' W', (apS e.st ty #[v, .slice a n c]).run Tryz.prog W = .ok v' W' ∧ Own e W' B v' (l ++ m) ∧ W.grownBy W' v.ownBlock := by
  obtain ⟨z, hz, hzs⟩ := k.info
  obtain ⟨i0, hi, hz0, hz1, hz2⟩ := info_parts hz
  have hby := k.byt
  unfold apS
  cases a with
  | none =>
    obtain ⟨rfl, rfl⟩ := hs.nil rfl
    have hm : m = [] := List.eq_nil_of_length_eq_zero hs.len
    subst hm
    have hrun := run_append_owned_none (P := Tryz.prog) (w := W) B e.st ty e.ty i0 e.K k.slc hi v l.length _ h
    exact ⟨v, W, hrun, by rw [List.append_nil]; exact h, World.grownBy.refl _ _⟩
  | some x =>
    by_cases hn0 : n = 0
    · subst hn0
      have hm : m = [] := List.eq_nil_of_length_eq_zero hs.len
      subst hm
      obtain ⟨v', W', hrun, h1, h2, _⟩ := run_append_own (P := Tryz.prog) W B e.st ty e.ty i0 z e.K e.B k.slc hi hz0 hz1 hz2 hzs k.pos v l.length _ h x 0 c [] (by simp)
        (fun j u hj => by cases hj) (fun u hu => by cases hu) (by unfold maxLen; omega) (by
          have : (l.length + 0) * e.B ≤ 100000 * 1000 := Nat.mul_le_mul (by omega) hby
          omega) hB
      refine ⟨v', W', hrun, ?_, h2⟩
      unfold Own
      rw [List.append_nil] at h1 ⊢
      exact h1
    obtain ⟨b, o, rfl, hc⟩ := hs.cells x rfl (by omega)
    obtain ⟨v', W', hrun, h1, h2, _⟩ := run_append_own (P := Tryz.prog) W B e.st ty e.ty i0 z e.K e.B k.slc hi hz0 hz1 hz2 hzs k.pos v l.length _ h ⟨b, o, none⟩ n c (e.fl m) (by rw [El.fl_len k, hs.len])
      (fun j u hj => by rw [Addr.add_lit]; exact hc j u hj) (El.fl_one k m) (by have := hs.len; unfold maxLen; omega) (by
        have := hs.len
        have : (l.length + n) * e.B ≤ 100000 * 1000 := Nat.mul_le_mul (by omega) hby
        omega) hB
    refine ⟨v', W', hrun, ?_, h2⟩
    unfold Own
    rw [El.fl_app, List.length_append, hs.len]
    exact h1
theorem one_new (W : World) (x : α) (k : e.Ok) : SlAt e (W.alloc (.cells (e.f x) e.ty)) (some ⟨W.heap.size, 0, none⟩) 1 1 [x] := by
  refine ⟨rfl, Nat.le_refl _, by unfold maxLen; omega, (fun e => by cases e), fun y e' _ => ?_, fun y e' _ => by cases e'; exact ⟨_, RvAt.new W _ _⟩⟩
  cases e'
  refine ⟨_, _, rfl, fun j u hj => ?_⟩
  rw [Nat.zero_add]
  refine RvAt.cell (RvAt.new W e.ty (e.f x)) j u ?_
  have : e.fl [x] = (e.f x).toList := by simp [El.fl]
  rw [this] at hj
  rw [← Array.getElem?_toList]
  exact hj
def PAt (e : El α) (W : World) (g c : Nat) (l : List α) : Prop :=
  ∃ cur : Array Value, RvAt W g e.ty cur ∧ l.length ≤ c ∧ c ≤ maxLen ∧ cur.size = c * e.K ∧ cur.toList.take (l.length * e.K) = e.fl l
variable {g : Nat}
theorem PAt.lt (h : PAt e W g c l) : g < W.heap.size := by
  obtain ⟨cur, hb, _⟩ := h
  exact hb.lt
theorem PAt.own (k : e.Ok) (h : PAt e W g c l) (hB : B ≤ g) : Own e W B (.slice (some ⟨g, 0, none⟩) l.length c) l := by
  obtain ⟨cur, hb, h1, h2, h3, h4⟩ := h
  exact ⟨El.fl_len k l, Or.inr ⟨g, c, cur, rfl, hB, hb, h1, h2, h3, h4⟩⟩
theorem Own.pat (h : Own e W B v l) : (v = .slice none 0 0 ∧ l = []) ∨ ∃ g c, v = .slice (some ⟨g, 0, none⟩) l.length c ∧ B ≤ g ∧ PAt e W g c l := by
  rcases h.2 with ⟨rfl, h0⟩ | ⟨g, cap, cur, rfl, hB, hb, h1, h2, h3, h4⟩
  · exact Or.inl ⟨rfl, List.eq_nil_of_length_eq_zero h0⟩
  · exact Or.inr ⟨g, cap, rfl, hB, cur, hb, h1, h2, h3, h4⟩
end
end S16
end
section
namespace S17
open Go.RowKit
open S14 (gtP gtP_at set_self)

abbrev Ot := S15.Ot
theorem kf6 : kdP[6]? = some none := rfl
structure Ps where
  l : List Pt
  b : Bool
  o : List Ot
  f : List Int
def opt {α : Type} : Option α → List α
  | none => []
  | some x => [x]
def stK (h : Hd) (i : Nat) (s : Ps) : Nat → Ps
  | 0 => ⟨S11.stepL s.l (i : Int), s.b || S11.stepB s.l (i : Int), s.o, s.f⟩
  | 1 => ⟨S13.stepL s.l (i : Int), s.b || S13.stepB s.l (i : Int), s.o, s.f⟩
  | 2 => ⟨s.l.set i ((S14.pstO (gtP s.l i)).getD (gtP s.l i)), s.b || (S14.pstO (gtP s.l i)).isSome, s.o, s.f⟩
  | 3 => ⟨(S14.tcmO h s.l i).getD s.l, s.b || (S14.tcmO h s.l i).isSome, s.o, s.f⟩
  | 4 => if (gtP s.l i).bt 6 = true then ⟨s.l.set i ((gtP s.l i).setB 6 kf6 false), true, s.o, s.f ++ [(i : Int)]⟩ else s
  | 5 => ⟨(S15.ppmO s.l i).getD s.l, s.b || (S15.ppmO s.l i).isSome, s.o, s.f⟩
  | 6 => ⟨(S15.ptxO h s.l i).getD s.l, s.b || (S15.ptxO h s.l i).isSome, s.o ++ opt (S15.ptxU h s.l i), s.f⟩
  | _ => s
def ptN (h : Hd) (i : Nat) : Nat → Ps → Ps
  | 0, s => s
  | k + 1, s => stK h i (ptN h i k s) k
def ptF (h : Hd) (i : Nat) (s : Ps) : Ps := ptN h i 7 s
def psN (h : Hd) : Nat → Ps → Ps
  | 0, s => s
  | m + 1, s => ptF h m (psN h m s)
structure Ts where
  h : Hd
  s : Ps
def pass (n : Nat) (t : Ts) : Ts := ⟨S12.stpH t.h t.s.l, psN (S12.stpH t.h t.s.l) n ⟨S12.stpL t.h t.s.l, S12.stpB t.h t.s.l, t.s.o, t.s.f⟩⟩
def runN (n : Nat) : Nat → Ts → Ts
  | 0, t => t
  | m + 1, t => if (pass n t).s.b = true then runN n m (pass n t) else pass n t
def start (h : Hd) (l : List Pt) : Ts := ⟨h, ⟨l, false, [], []⟩⟩
def runT (h : Hd) (l : List Pt) : Ts := runN l.length 100 (start h l)
def noteL : List Int → Int → List Int
  | [], i => [i]
  | x :: r, i => if x < i then x :: noteL r i else if x = i then x :: r else i :: x :: r
def noted (l : List Int) : List Int := l.foldl noteL []
/-! ### what is told grows -/
theorem opt_len {α : Type} (x : Option α) : (opt x).length ≤ 1 := by cases x <;> simp [opt]
theorem stK_o (h : Hd) (i : Nat) (s : Ps) (k : Nat) : (stK h i s k).o.length ≤ s.o.length + (if k = 6 then 1 else 0) ∧ (stK h i s k).f.length ≤ s.f.length + (if k = 4 then 1 else 0) := by
  match k with
  | 0 => exact ⟨by simp [stK], by simp [stK]⟩
  | 1 => exact ⟨by simp [stK], by simp [stK]⟩
  | 2 => exact ⟨by simp [stK], by simp [stK]⟩
  | 3 => exact ⟨by simp [stK], by simp [stK]⟩
  | 4 =>
    simp only [stK]
    split <;> simp
  | 5 => exact ⟨by simp [stK], by simp [stK]⟩
  | 6 =>
    have := opt_len (S15.ptxU h s.l i)
    exact ⟨by simp [stK]; omega, by simp [stK]⟩
  | k + 7 => exact ⟨by simp [stK], by simp [stK]⟩
theorem ptN_o (h : Hd) (i : Nat) (s : Ps) : ∀ k, (ptN h i k s).o.length ≤ s.o.length + (if 6 < k then 1 else 0) ∧ (ptN h i k s).f.length ≤ s.f.length + (if 4 < k then 1 else 0)
  | 0 => by simp [ptN]
  | k + 1 => by
    have h1 := ptN_o h i s k
    have h2 := stK_o h i (ptN h i k s) k
    simp only [ptN]
    constructor
    · have a := h1.1
      have b := h2.1
      split at a <;> split at b <;> split <;> omega
    · have a := h1.2
      have b := h2.2
      split at a <;> split at b <;> split <;> omega
theorem psN_o (h : Hd) (s : Ps) : ∀ m, (psN h m s).o.length ≤ s.o.length + m ∧ (psN h m s).f.length ≤ s.f.length + m
  | 0 => by simp [psN]
  | m + 1 => by
    have h1 := psN_o h s m
    have h2 := ptN_o h m (psN h m s) 7
    simp only [psN, ptF]
    simp only [show (6 < 7) = True by simp, show (4 < 7) = True by simp, if_true] at h2
    omega
end S17
end
section
namespace S17
open Go.RowKit
open S14 (gtP gtP_at set_self)

def eO : S16.El Ot := ⟨fun r => r.cs, 91, 49, 17, 72⟩
def eI : S16.El Int := ⟨fun n => #[.int .i64 n], 3, 50, 1, 8⟩
theorem one_of {l : List Value} (h : l.all (fun v => v.oneCell') = true) : ∀ v ∈ l, v.oneCell' = true := fun v hv => List.all_eq_true.1 h v hv
def zeroO : Ot := zeroR S15.kdO
theorem kO : eO.Ok := ⟨fun r => by show r.cs.size = 17; rw [Row.csize, S15.lenO], by decide, fun r => r.one', Tryz.underlying49, ⟨.agg zeroO.cs, by kernel_rfl, by show zeroO.cs.size = 17; rw [Row.csize, S15.lenO]⟩, by decide⟩
theorem kI : eI.Ok := ⟨fun _ => rfl, by decide, fun _ => one_of rfl, Tryz.underlying50, ⟨.int .i64 0, by kernel_rfl, rfl⟩, by decide⟩
theorem ne_type {W : World} {b b' : Nat} {t t' : TypeId} {cs cs' : Array Value} (h : RvAt W b t cs) (h' : RvAt W b' t' cs') (n : t ≠ t') : b ≠ b' := by
  intro e
  subst e
  have := h.symm.trans h'
  cases this
  exact n rfl
theorem own_type {α : Type} {e : S16.El α} {W : World} {B b : Nat} {v : Value} {l : List α} {t : TypeId} {cs : Array Value} (o : S16.Own e W B v l) (r : RvAt W b t cs) (n : t ≠ e.ty) : v.ownBlock = none ∨ v.ownBlock ≠ some b := by
  rcases o.pat with ⟨rfl, _⟩ | ⟨g, c, rfl, _, p⟩
  · exact Or.inl rfl
  · right
    obtain ⟨cur, hc, _⟩ := p
    intro e
    simp only [Value.ownBlock, Option.some.injEq] at e
    exact ne_type hc r (Ne.symm n) e
theorem own_one {α : Type} {e : S16.El α} {W : World} {B : Nat} {v : Value} {l : List α} (o : S16.Own e W B v l) : v.oneCell' = true := by
  rcases o.pat with ⟨rfl, _⟩ | ⟨g, c, rfl, _, _⟩ <;> rfl
def ldc (h : Hd) (x o f : Value) : Array Value := (h.cl ++ [x, o, f]).toArray
theorem ldc_size (h : Hd) (x o f : Value) : (ldc h x o f).size = 19 := by simp [ldc, h.len, lenH]
theorem infoD : (Tryz.prog.info? 52).map (·.size) = some 2 := by kernel_rfl
theorem rtD : RowTy 52 2 := ⟨infoD, _, Tryz.underlying52, rfl⟩
theorem infoLO : (Tryz.prog.info? 49).map (·.size) = some 1 := by kernel_rfl
theorem infoLI : (Tryz.prog.info? 50).map (·.size) = some 1 := by kernel_rfl
theorem ldc_get (h : Hd) (x o f : Value) : (ldc h x o f)[16]? = some x ∧ (ldc h x o f)[17]? = some o ∧ (ldc h x o f)[18]? = some f := by
  have := h.len
  rw [lenH] at this
  simp only [ldc, List.getElem?_toArray]
  refine ⟨?_, ?_, ?_⟩ <;> (rw [List.getElem?_append_right (by omega), this]; rfl)
theorem ldc_tree {h : Hd} {x o f v : Value} {j : Nat} (hv : (trc h x)[j]? = some v) : (ldc h x o f)[j]? = some v := by
  have hl := h.len
  rw [lenH] at hl
  have hj := (Array.getElem?_eq_some_iff.1 hv).1
  rw [trc_size] at hj
  simp only [trc, List.getElem?_toArray] at hv
  simp only [ldc, List.getElem?_toArray]
  rw [show h.cl ++ [x, o, f] = (h.cl ++ [x]) ++ [o, f] by simp, List.getElem?_append_left (by simp; omega)]
  exact hv
theorem ldc_st (h g : Hd) (x y o f : Value) : ((ldc h x o f).toList.take 0 ++ (trc g y).toList ++ (ldc h x o f).toList.drop (0 + (trc g y).size)).toArray = ldc g y o f := by
  have hl := h.len
  rw [lenH] at hl
  rw [trc_size]
  simp only [ldc, trc, List.take_zero, List.nil_append, Nat.zero_add]
  rw [show h.cl ++ [x, o, f] = (h.cl ++ [x]) ++ [o, f] by simp, List.drop_append_of_le_length (by simp; omega), List.drop_eq_nil_of_le (by simp; omega)]
  simp
theorem ldc_17 (h : Hd) (x o f y : Value) : ((ldc h x o f).toList.set 17 y).toArray = ldc h x y f := by
  have hl := h.len
  rw [lenH] at hl
  simp only [ldc]
  rw [List.set_append, if_neg (by omega), hl]
  rfl
theorem ldc_18 (h : Hd) (x o f y : Value) : ((ldc h x o f).toList.set 18 y).toArray = ldc h x o y := by
  have hl := h.len
  rw [lenH] at hl
  simp only [ldc]
  rw [List.set_append, if_neg (by omega), hl]
  rfl
theorem stLO (x y : Value) : Instr.storeAt 49 x y = stS 49 x y := rfl
theorem stLI (x y : Value) : Instr.storeAt 50 x y = stS 50 x y := rfl
theorem apLO (ty : TypeId) (xs : Array Value) : Builtin.append_ #[49, 49] ty xs = S16.apS 49 ty xs := rfl
theorem apLI (ty : TypeId) (xs : Array Value) : Builtin.append_ #[50, 50] ty xs = S16.apS 50 ty xs := rfl
theorem ldDn (x : Value) : Instr.loadAt 52 x = ldS 52 x := rfl
theorem stDn (x y : Value) : Instr.storeAt 52 x y = stS 52 x y := rfl
theorem _root_.Go.Proofs.YtlchejbggnbccaaGreat.SlAt.stp {W : World} {b o n c i : Nat} {l : List Pt} {p : Pt} (s : SlAt W (some ⟨b, o, none⟩) n c l) (hi : i < n) :
    ∃ W', (stS 74 (.pointer (some ⟨b, o + i * 77, none⟩)) (.agg p.cs)).run Tryz.prog W = .ok () W' ∧ SlAt W' (some ⟨b, o, none⟩) n c (l.set i p) ∧ W.grownBy W' (some b) := by
  have hl := s.len
  obtain ⟨cur, hb⟩ := s.soft _ rfl (by omega)
  simp only at hb
  obtain ⟨b', o', e, hc⟩ := s.cells _ rfl (by omega)
  cases e
  have hcur : ∀ j u, (l.flatMap Row.cl)[j]? = some u → cur[o + j]? = some u := fun j u hj => by
    have := hc j u hj
    unfold World.cell? at this
    rw [show W.heap[b]? = some (.cells cur 74 (0, 0)) from hb] at this
    simpa using this
  have hsz : o + n * 77 ≤ cur.size := by
    have hf := List.getElem?_eq_getElem (l := l.flatMap Row.cl) (i := n * 77 - 1) (by rw [flat_len, hl]; omega)
    have := (Array.getElem?_eq_some_iff.1 (hcur _ _ hf)).1
    omega
  have hpz : p.cs.size = 77 := by rw [Row.csize, lenP]
  have hin : o + i * 77 + 77 ≤ o + n * 77 := by omega
  have hs := store_cells (ty := 74) (o := o + i * 77) (cs := p.cs) hb (by rw [hpz]; exact infoP) (by rw [hpz]; omega) p.one'
  have hlen : (cur.toList.take (o + i * 77)).length = o + i * 77 := by rw [List.length_take, Array.length_toList]; omega
  refine ⟨_, hs, ⟨⟨by rw [List.length_set]; exact hl, s.cap, s.max, (fun e => by cases e), fun x e _ => ?_⟩, fun x e _ => ?_⟩, grown_row _ _ _⟩
  · cases e
    refine ⟨b, o, rfl, fun j u hj => ?_⟩
    refine RvAt.cell hb.set (o + j) u ?_
    rw [List.getElem?_toArray]
    rw [flat_get, List.getElem?_set] at hj
    have hd := Nat.div_add_mod j 77
    have hm := Nat.mod_lt j (show 0 < 77 by omega)
    by_cases hji : i = j / 77
    · rw [if_pos hji, if_pos (by omega)] at hj
      simp only [Option.bind_some] at hj
      rw [List.append_assoc, List.getElem?_append_right (by rw [hlen]; omega), hlen, show o + j - (o + i * 77) = j % 77 by omega, List.getElem?_append_left (by rw [Array.length_toList, hpz]; omega)]
      exact hj
    · rw [if_neg hji] at hj
      have hold := hcur j u (by rw [flat_get]; exact hj)
      have hju : j < n * 77 := by
        rw [← flat_get] at hj
        have := (List.getElem?_eq_some_iff.1 hj).1
        rw [flat_len, hl] at this
        exact this
      by_cases hlt : j < i * 77
      · rw [List.append_assoc, List.getElem?_append_left (by rw [hlen]; omega), List.getElem?_take, if_pos (by omega), Array.getElem?_toList]
        exact hold
      · have hge : i * 77 + 77 ≤ j := by omega
        rw [List.getElem?_append_right (by rw [List.length_append, hlen, Array.length_toList, hpz]; omega), List.length_append, hlen, Array.length_toList, hpz, List.getElem?_drop, show o + i * 77 + 77 + (o + j - (o + i * 77 + 77)) = o + j by omega, Array.getElem?_toList]
        exact hold
  · cases e
    exact ⟨_, hb.set⟩
theorem _root_.Go.Proofs.YtlchejbggnbccaaGreat.SlAt.stb {W : World} {b o n c i j : Nat} {l : List Pt} {p : Pt} {x : Bool} (s : SlAt W (some ⟨b, o, none⟩) n c l) (hp : l[i]? = some p) (hk : kdP[j]? = some none) :
    ∃ W', (stS 4 (.pointer (some ⟨b, o + i * 77 + j, none⟩)) (.bool x)).run Tryz.prog W = .ok () W' ∧ SlAt W' (some ⟨b, o, none⟩) n c (l.set i (p.setB j hk x)) ∧ W.grownBy W' (some b) := by
  have hl := s.len
  have hil : i < l.length := (List.getElem?_eq_some_iff.1 hp).1
  have hj : j < 77 := by rw [← lenP]; exact (List.getElem?_eq_some_iff.1 hk).1
  obtain ⟨cur, hb⟩ := s.soft _ rfl (by omega)
  simp only at hb
  obtain ⟨b', o', e, hc⟩ := s.cells _ rfl (by omega)
  cases e
  have hcur : ∀ j u, (l.flatMap Row.cl)[j]? = some u → cur[o + j]? = some u := fun j u hj => by
    have := hc j u hj
    unfold World.cell? at this
    rw [show W.heap[b]? = some (.cells cur 74 (0, 0)) from hb] at this
    simpa using this
  have hsz : o + n * 77 ≤ cur.size := by
    have hf := List.getElem?_eq_getElem (l := l.flatMap Row.cl) (i := n * 77 - 1) (by rw [flat_len, hl]; omega)
    have := (Array.getElem?_eq_some_iff.1 (hcur _ _ hf)).1
    omega
  have hs := RvAt.st1 (tv := 4) (k := o + i * 77 + j) (v := .bool x) hb info1.1 (by omega) rfl
  refine ⟨_, hs, ⟨⟨by rw [List.length_set]; exact hl, s.cap, s.max, (fun e => by cases e), fun y e _ => ?_⟩, fun y e _ => ?_⟩, grown_row _ _ _⟩
  · cases e
    refine ⟨b, o, rfl, fun t u ht => ?_⟩
    refine RvAt.cell hb.set (o + t) u ?_
    rw [List.getElem?_toArray, List.getElem?_set]
    rw [flat_get, List.getElem?_set] at ht
    have hd := Nat.div_add_mod t 77
    have hm := Nat.mod_lt t (show 0 < 77 by omega)
    by_cases hji : i = t / 77
    · rw [if_pos hji, if_pos (by omega)] at ht
      simp only [Option.bind_some] at ht
      have hq := Row.setB_get p hk x (t % 77)
      rw [hq] at ht
      by_cases htj : t % 77 = j
      · rw [if_pos htj] at ht
        rw [if_pos (by omega), if_pos (by rw [Array.length_toList]; omega)]
        exact ht
      · rw [if_neg htj] at ht
        rw [if_neg (by omega), Array.getElem?_toList]
        refine hcur t u ?_
        rw [flat_get, ← hji, hp]
        exact ht
    · rw [if_neg hji] at ht
      rw [if_neg (by omega), Array.getElem?_toList]
      exact hcur t u (by rw [flat_get]; exact ht)
  · cases e
    exact ⟨_, hb.set⟩
theorem own_next {α : Type} {e : S16.El α} {W : World} {B : Nat} {v : Value} {l : List α} (k : e.Ok) (o : S16.Own e W B v l) (hB : B ≤ W.heap.size) (hl : l.length ≤ 90000) (p : α) (ty : TypeId) :
    ∃ v' W', (S16.apS e.st ty #[v, .slice (some ⟨W.heap.size, 0, none⟩) 1 1]).run Tryz.prog (W.alloc (.cells (e.f p) e.ty)) = .ok v' W' ∧ S16.Own e W' B v' (l ++ [p]) ∧ W.grownBy W' v.ownBlock := by
  have bA : Below W.heap.size W (W.alloc (.cells (e.f p) e.ty)) := (Below.refl _ _).alloc (Nat.le_refl _) _
  obtain ⟨v', W', ap, o2, g2⟩ := (o.below bA).app k (S16.one_new W p k) (by simp; omega) (Nat.le_trans hB bA.size) ty
  exact ⟨v', W', ap, o2, grown_self (grown_of_below bA _) g2⟩
theorem out_sl {W : World} {v : Value} {u : Option Ot} (h : S15.OutAt W v u) : ∃ a m c, v = .slice a m c ∧ S16.SlAt eO W a m c (opt u) := by
  cases u with
  | none => exact ⟨none, 0, 0, h, S16.SlAt.none' W⟩
  | some r =>
    obtain ⟨b, rfl, hb⟩ := h
    refine ⟨some ⟨b, 0, none⟩, 1, 1, rfl, rfl, Nat.le_refl _, by unfold maxLen; omega, (fun e => by cases e), fun y e' _ => ?_, fun y e' _ => by cases e'; exact ⟨_, hb⟩⟩
    cases e'
    refine ⟨_, _, rfl, fun j u hj => ?_⟩
    rw [Nat.zero_add]
    refine hb.cell j u ?_
    have : eO.fl (opt (some r)) = r.cs.toList := by simp [S16.El.fl, opt, eO]
    rw [this] at hj
    rw [← Array.getElem?_toList]
    exact hj
def Kp (W V : World) : Prop := ∀ (b : Nat) (t : TypeId) (cs : Array Value), RvAt W b t cs → t ≠ 109 → t ≠ 74 → t ≠ 91 → t ≠ 3 → RvAt V b t cs
theorem Kp.of {W V : World} (k : Below W.heap.size W V) : Kp W V := fun b t cs r _ _ _ _ => r.below k
theorem Kp.trans {W V U : World} (h : Kp W V) (k : Kp V U) : Kp W U := fun b t cs r h1 h2 h3 h4 => k b t cs (h b t cs r h1 h2 h3 h4) h1 h2 h3 h4
theorem Kp.row {W V : World} {b : Nat} {t : TypeId} {cs : Array Value} (r : RvAt W b t cs) (g : W.grownBy V (some b)) (ht : t = 109 ∨ t = 74 ∨ t = 91 ∨ t = 3) : Kp W V := fun b' t' cs' r' h1 h2 h3 h4 => r'.keptBut g (by
  have : b' ≠ b := ne_type r' r (by rcases ht with rfl | rfl | rfl | rfl <;> assumption)
  simpa using this)
theorem Kp.own {α : Type} {e : S16.El α} {W V : World} {B : Nat} {v : Value} {l : List α} (o : S16.Own e W B v l) (g : W.grownBy V v.ownBlock) (ht : e.ty = 91 ∨ e.ty = 3) : Kp W V := fun b' t' cs' r' h1 h2 h3 h4 => r'.keptBut g (by
  rcases own_type o r' (by rcases ht with q | q <;> rw [q] <;> assumption) with q | q
  · rw [q]; simp
  · exact fun e => q e.symm)
structure LS (w W : World) (L : Nat) (h : Hd) (a : Option Addr) (n c : Nat) (l : List Pt) (vo vf : Value) (os : List Ot) (fs : List Int) : Prop where
  var : RvAt W L 109 (ldc h (.slice a n c) vo vf)
  sl : SlAt W a n c l
  nw : Nw w a
  ou : S16.Own eO W w.heap.size vo os
  fl : S16.Own eI W w.heap.size vf fs
  bel : Below w.heap.size w W
  hL : w.heap.size ≤ L
theorem LS.below {w W V : World} {L n c : Nat} {h : Hd} {a : Option Addr} {l : List Pt} {vo vf : Value} {os : List Ot} {fs : List Int} (s : LS w W L h a n c l vo vf os fs) (k : Below W.heap.size W V) : LS w V L h a n c l vo vf os fs :=
  ⟨s.var.below k, s.sl.below k, s.nw, s.ou.below k, s.fl.below k, below_over s.bel k, s.hL⟩
theorem LS.tld {w W : World} {L n c : Nat} {h : Hd} {a : Option Addr} {l : List Pt} {vo vf : Value} {os : List Ot} {fs : List Int} (s : LS w W L h a n c l vo vf os fs) : (ldS 39 (.pointer (some ⟨L, 0, none⟩))).run Tryz.prog W = .ok (.agg (trc h (.slice a n c))) W :=
  run_loadAt_mid W L 0 39 (trc h (.slice a n c)).toList _ (fun j v hv => by
    rw [Nat.zero_add]
    exact s.var.cell j v (ldc_tree (by simpa using hv))) Tryz.underlying39 rfl (by rw [Array.length_toList, trc_size]; exact infoT)
theorem LS.c16 {w W : World} {L n c : Nat} {h : Hd} {a : Option Addr} {l : List Pt} {vo vf : Value} {os : List Ot} {fs : List Int} (s : LS w W L h a n c l vo vf os fs) : W.cell? ⟨L, 16, none⟩ = some (.slice a n c) := s.var.cell 16 _ (ldc_get _ _ _ _).1
theorem LS.c17 {w W : World} {L n c : Nat} {h : Hd} {a : Option Addr} {l : List Pt} {vo vf : Value} {os : List Ot} {fs : List Int} (s : LS w W L h a n c l vo vf os fs) : W.cell? ⟨L, 17, none⟩ = some vo := s.var.cell 17 _ (ldc_get _ _ _ _).2.1
theorem LS.c18 {w W : World} {L n c : Nat} {h : Hd} {a : Option Addr} {l : List Pt} {vo vf : Value} {os : List Ot} {fs : List Int} (s : LS w W L h a n c l vo vf os fs) : W.cell? ⟨L, 18, none⟩ = some vf := s.var.cell 18 _ (ldc_get _ _ _ _).2.2
theorem LS.lo {w W : World} {L n c : Nat} {h : Hd} {a : Option Addr} {l : List Pt} {vo vf : Value} {os : List Ot} {fs : List Int} (s : LS w W L h a n c l vo vf os fs) : vo.ownBlock = none ∨ vo.ownBlock ≠ some L := own_type s.ou s.var (by decide)
theorem LS.lf {w W : World} {L n c : Nat} {h : Hd} {a : Option Addr} {l : List Pt} {vo vf : Value} {os : List Ot} {fs : List Int} (s : LS w W L h a n c l vo vf os fs) : vf.ownBlock = none ∨ vf.ownBlock ≠ some L := own_type s.fl s.var (by decide)
theorem LS.tree {w W : World} {L n c c' : Nat} {h h' : Hd} {a a' : Option Addr} {l l' : List Pt} {vo vf : Value} {os : List Ot} {fs : List Int} (s : LS w W L h a n c l vo vf os fs) (hs : SlAt W a' n c' l') (hn : Nw w a') :
    ∃ V, (stS 39 (.pointer (some ⟨L, 0, none⟩)) (.agg (trc h' (.slice a' n c')))).run Tryz.prog W = .ok () V ∧ LS w V L h' a' n c' l' vo vf os fs ∧ Kp W V := by
  have hs' := store_cells (ty := 39) (o := 0) (cs := trc h' (.slice a' n c')) s.var (by rw [trc_size]; exact infoT) (by rw [trc_size, ldc_size]; omega) (trc_one rfl)
  rw [ldc_st] at hs'
  exact ⟨_, hs', ⟨s.var.set, hs.keptZ s.var (by rw [ldc_size]; omega) (grown_row _ _ _), hn, s.ou.keptBut (grown_row _ _ _) s.lo, s.fl.keptBut (grown_row _ _ _) s.lf, gro s.bel (grown_row _ _ _) s.hL s.bel.size, s.hL⟩, Kp.row s.var (grown_row _ _ _) (Or.inl rfl)⟩
theorem LS.outs {w W X : World} {L n c : Nat} {h : Hd} {a : Option Addr} {l : List Pt} {vo vf vo' : Value} {os os' : List Ot} {fs : List Int} (s : LS w W L h a n c l vo vf os fs) (g : W.grownBy X vo.ownBlock) (ho : S16.Own eO X w.heap.size vo' os') :
    ∃ V, (stS 49 (.pointer (some ⟨L, 17, none⟩)) vo').run Tryz.prog X = .ok () V ∧ LS w V L h a n c l vo' vf os' fs ∧ (∀ (a' : Option Addr) (n' c' : Nat) (l' : List Pt), SlAt W a' n' c' l' → SlAt V a' n' c' l') ∧ (∀ (b : Nat) (t : TypeId) (cs : Array Value), RvAt W b t cs → t ≠ 91 → t ≠ 109 → RvAt V b t cs) := by
  have hv : RvAt X L 109 (ldc h (.slice a n c) vo vf) := s.var.keptBut g (by rcases s.lo with e | e <;> simp_all [Ne.symm])
  have ksl : ∀ (a' : Option Addr) (n' c' : Nat) (l' : List Pt), SlAt W a' n' c' l' → SlAt X a' n' c' l' := fun a' n' c' l' q => by
    by_cases h0 : 0 < n'
    · refine q.keptBut g (fun x hx e => ?_)
      obtain ⟨cs, r⟩ := q.soft x hx h0
      rcases own_type s.ou r (by decide) with q | q
      · rw [q] at e; cases e
      · exact q e.symm
    · exact ⟨⟨q.len, q.cap, q.max, q.nil, fun y _ h1 => absurd h1 h0⟩, fun y _ h1 => absurd h1 h0⟩
  have hf : S16.Own eI X w.heap.size vf fs := by
    refine s.fl.keptBut g ?_
    rcases s.ou.pat with ⟨e, _⟩ | ⟨gg, cc, rfl, _, p⟩
    · subst e
      exact (Classical.em (vf.ownBlock = none)).imp id fun q e => q e
    · obtain ⟨cur, hc, _⟩ := p
      exact own_type s.fl hc (by decide)
  have hb : Below w.heap.size w X := s.bel.trans (below_of_grown g s.bel.size (fun j e => (s.ou.blk j e).1))
  have hs := RvAt.st1 (tv := 49) (k := 17) (v := vo') hv infoLO (by rw [ldc_size]; omega) (own_one ho)
  rw [ldc_17] at hs
  have gr := grown_row X L (ldc h (.slice a n c) vo' vf)
  refine ⟨_, hs, ⟨hv.set, (ksl _ _ _ _ s.sl).keptZ hv (by rw [ldc_size]; omega) gr, s.nw, ho.keptBut gr (own_type ho hv (by decide)), hf.keptBut gr (own_type hf hv (by decide)), gro hb gr s.hL hb.size, s.hL⟩, fun a' n' c' l' q => (ksl a' n' c' l' q).keptZ hv (by rw [ldc_size]; omega) gr, fun b t cs r n1 n2 => ?_⟩
  have rX : RvAt X b t cs := r.keptBut g (by
    rcases own_type s.ou r n1 with q | q
    · rw [q]; simp
    · exact fun e => q e.symm)
  exact rX.keptBut gr (by have := ne_type rX hv n2; simpa using this)
theorem LS.flus {w W X : World} {L n c : Nat} {h : Hd} {a : Option Addr} {l : List Pt} {vo vf vf' : Value} {os : List Ot} {fs fs' : List Int} (s : LS w W L h a n c l vo vf os fs) (g : W.grownBy X vf.ownBlock) (ho : S16.Own eI X w.heap.size vf' fs') :
    ∃ V, (stS 50 (.pointer (some ⟨L, 18, none⟩)) vf').run Tryz.prog X = .ok () V ∧ LS w V L h a n c l vo vf' os fs' ∧ Kp W V := by
  have hv : RvAt X L 109 (ldc h (.slice a n c) vo vf) := s.var.keptBut g (by rcases s.lf with e | e <;> simp_all [Ne.symm])
  have hsl : SlAt X a n c l := by
    by_cases h0 : 0 < n
    · refine s.sl.keptBut g (fun x hx e => ?_)
      obtain ⟨cs, r⟩ := s.sl.soft x hx h0
      rcases own_type s.fl r (by decide) with q | q
      · rw [q] at e; cases e
      · exact q e.symm
    · exact ⟨⟨s.sl.len, s.sl.cap, s.sl.max, s.sl.nil, fun y _ h1 => absurd h1 h0⟩, fun y _ h1 => absurd h1 h0⟩
  have hf : S16.Own eO X w.heap.size vo os := by
    refine s.ou.keptBut g ?_
    rcases s.fl.pat with ⟨e, _⟩ | ⟨gg, cc, rfl, _, p⟩
    · subst e
      exact (Classical.em (vo.ownBlock = none)).imp id fun q e => q e
    · obtain ⟨cur, hc, _⟩ := p
      exact own_type s.ou hc (by decide)
  have hb : Below w.heap.size w X := s.bel.trans (below_of_grown g s.bel.size (fun j e => (s.fl.blk j e).1))
  have hs := RvAt.st1 (tv := 50) (k := 18) (v := vf') hv infoLI (by rw [ldc_size]; omega) (own_one ho)
  rw [ldc_18] at hs
  have gr := grown_row X L (ldc h (.slice a n c) vo vf')
  exact ⟨_, hs, ⟨hv.set, hsl.keptZ hv (by rw [ldc_size]; omega) gr, s.nw, hf.keptBut gr (own_type hf hv (by decide)), ho.keptBut gr (own_type ho hv (by decide)), gro hb gr s.hL hb.size, s.hL⟩, (Kp.own s.fl g (Or.inr rfl)).trans (Kp.row hv gr (Or.inl rfl))⟩
theorem LS.ports {w W V : World} {L n c b o : Nat} {h : Hd} {l l' : List Pt} {vo vf : Value} {os : List Ot} {fs : List Int} (s : LS w W L h (some ⟨b, o, none⟩) n c l vo vf os fs) (hn : 0 < n) (hs : SlAt V (some ⟨b, o, none⟩) n c l') (g : W.grownBy V (some b)) : LS w V L h (some ⟨b, o, none⟩) n c l' vo vf os fs := by
  obtain ⟨cs, r⟩ := s.sl.soft _ rfl hn
  simp only at r
  have hbL : b ≠ L := ne_type r s.var (by decide)
  exact ⟨s.var.keptBut g (by simp; omega), hs, s.nw, s.ou.keptBut g (own_type s.ou r (by decide)), s.fl.keptBut g (own_type s.fl r (by decide)), gro s.bel g (s.nw _ rfl) s.bel.size, s.hL⟩
end S17
end
section
namespace S17
open Go.RowKit
open S14 (gtP gtP_at set_self)
theorem ldEn (x : Value) : Instr.loadAt 53 x = ldS 53 x := rfl
theorem stEn (x y : Value) : Instr.storeAt 53 x y = stS 53 x y := rfl
def isO (W : World) (v : Value) (l : List Ot) : Prop := ∃ a n c, v = .slice a n c ∧ S16.SlAt eO W a n c l
def isI (W : World) (v : Value) (l : List Int) : Prop := ∃ a n c, v = .slice a n c ∧ S16.SlAt eI W a n c l
theorem isO.row {W V : World} {v : Value} {l : List Ot} {b : Nat} {t : TypeId} {cs : Array Value} (h : isO W v l) (r : RvAt W b t cs) (ht : t ≠ 91) (g : W.grownBy V (some b)) : isO V v l := by
  obtain ⟨a, n, c, e, s⟩ := h
  exact ⟨a, n, c, e, s.keptV r ht g⟩
theorem isI.row {W V : World} {v : Value} {l : List Int} {b : Nat} {t : TypeId} {cs : Array Value} (h : isI W v l) (r : RvAt W b t cs) (ht : t ≠ 3) (g : W.grownBy V (some b)) : isI V v l := by
  obtain ⟨a, n, c, e, s⟩ := h
  exact ⟨a, n, c, e, s.keptV r ht g⟩
theorem isO.one {W : World} {v : Value} {l : List Ot} (h : isO W v l) : v.oneCell' = true := by
  obtain ⟨a, n, c, rfl, s⟩ := h
  rfl
theorem isI.one {W : World} {v : Value} {l : List Int} (h : isI W v l) : v.oneCell' = true := by
  obtain ⟨a, n, c, rfl, s⟩ := h
  rfl
section
variable {w W V X : World} {h : Hd} {a a' : Option Addr} {n c c' : Nat} {l l' : List Pt} {vo vf vo' vf' : Value} {os os' : List Ot} {fs fs' : List Int}
end
attribute [local go_sem ↓] ldP stP ldT stT ldEn stEn stLO stLI apLO apLI st4 alP
attribute [local go_sem] alP_run
end S17
end
section
namespace S17
open Go.RowKit
open S14 (gtP gtP_at set_self)

attribute [local go_sem ↓] ldP stP ldT stT ldDn stDn stLO stLI apLO apLI st4
theorem one_t (w : World) (h : Hd) (x : Value) : ∃ W, w.alloc (.cells (trc h x) 39) = W ∧ RvAt W w.heap.size 39 (trc h x) ∧ Below w.heap.size w W := ⟨_, rfl, RvAt.new _ _ _, (Below.refl _ _).alloc (Nat.le_refl _) _⟩
set_option maxHeartbeats 2000000 in
theorem take_any {w W : World} {L n c c' : Nat} {h h' : Hd} {a a' : Option Addr} {l l' : List Pt} {vo vf : Value} {os : List Ot} {fs : List Int} (s : LS w W L h a n c l vo vf os fs) (hs : SlAt W a' n c' l') (hn : Nw w a') (x : Bool) :
    Calls Tryz.prog 98 #[.pointer (some ⟨L, 0, none⟩), .agg (trc h' (.slice a' n c')), .bool x] W fun r V => r = .returned (.bool x) ∧ LS w V L h' a' n c' l' vo vf os fs ∧ Kp W V := by
  obtain ⟨X, hX, r0, b0⟩ := one_t W h' (.slice a' n c')
  have l0 := r0.tld
  obtain ⟨V, sV, s', k'⟩ := (s.below b0).tree (h' := h') (hs.below b0) hn
  have S : Hid (LS w V L h' a' n c' l' vo vf os fs ∧ Kp W V) := ⟨s', (Kp.of b0).trans k'⟩
  clear s hs hn r0 b0 s' k'
  go_enter Tryz.func98, Tryz.ntmps98
  go_wp2
  go_ret
  exact ⟨rfl, S.out⟩
set_option maxHeartbeats 2000000 in
theorem sel_any {w W : World} {L n c : Nat} {h : Hd} {a : Option Addr} {l : List Pt} {vo vf : Value} {os : List Ot} {fs : List Int} (s : LS w W L h a n c l vo vf os fs) (hn : n ≤ 1000) :
    Calls Tryz.prog 74 #[.pointer (some ⟨L, 0, none⟩)] W fun r V => r = .returned (.bool (S12.stpB h l)) ∧ ∃ a' c', LS w V L (S12.stpH h l) a' n c' (S12.stpL h l) vo vf os fs ∧ Kp W V := by
  have l0 := s.tld
  have S : Hid (LS w W L h a n c l vo vf os fs) := s
  clear s
  go_enter Tryz.func74, Tryz.ntmps74
  go_wp2_with fail
  refine (S12.step_any h a n c l W S.out.sl hn).mono ?_
  rintro _ X ⟨a', c', rfl, s1, b1, f1⟩
  have N : Hid (Nw w a') := f1.elim (fun e => by rw [e]; exact S.out.nw) (fun q => q.up S.out.bel.size)
  have T : Hid (LS w X L h a n c l vo vf os fs) := S.out.below b1
  have S1 : Hid (SlAt X a' n c' (S12.stpL h l)) := s1
  have KB : Hid (Kp W X) := Kp.of b1
  clear l0 s1 b1 f1
  obtain ⟨hh, ehh⟩ : ∃ z, S12.stpH h l = z := ⟨_, rfl⟩
  obtain ⟨bb, ebb⟩ : ∃ z, S12.stpB h l = z := ⟨_, rfl⟩
  rw [ehh, ebb]
  have EH : Hid (S12.stpH h l = hh) := ehh
  have EB : Hid (S12.stpB h l = bb) := ebb
  clear ehh ebb
  go_wp2_with fail
  refine (take_any T.out S1.out N.out bb).mono ?_
  rintro _ V ⟨rfl, s2, k2⟩
  have S2 : Hid _ := s2
  have K2 : Hid (Kp W V) := KB.out.trans k2
  clear s2 k2
  go_wp2
  go_ret
  exact ⟨by rw [EB.out]; rfl, a', c', by rw [EH.out]; exact S2.out, K2.out⟩
def StepC (F k : Nat) : Prop := ∀ (w W : World) (L n c : Nat) (h : Hd) (a : Option Addr) (vo vf : Value) (s : Ps) (i : Nat), LS w W L h a n c s.l vo vf s.o s.f → n ≤ 1000 → s.o.length ≤ 90000 → s.f.length ≤ 90000 → i < n →
  Calls Tryz.prog F #[.pointer (some ⟨L, 0, none⟩), .int .i64 (i : Int)] W fun r V => ∃ (x : Bool) (a' : Option Addr) (c' : Nat) (vo' vf' : Value), r = .returned (.bool x) ∧ (stK h i s k).b = (s.b || x) ∧ LS w V L h a' n c' (stK h i s k).l vo' vf' (stK h i s k).o (stK h i s k).f ∧ Kp W V
set_option maxHeartbeats 2000000 in
theorem inf_any : StepC 91 0 := by
  intro w W L n c h a vo vf s i hS hn ho hf hi
  have l0 := hS.tld
  have S : Hid (LS w W L h a n c s.l vo vf s.o s.f) := hS
  clear hS ho hf
  go_enter Tryz.func91, Tryz.ntmps91
  go_wp2_with fail
  refine (S11.pstep_any h a n c s.l (i : Int) W S.out.sl hn).mono ?_
  rintro _ X ⟨a', c', rfl, s1, b1, f1⟩
  have N : Hid (Nw w a') := f1.elim (fun e => by rw [e]; exact S.out.nw) (fun q => q.up S.out.bel.size)
  have T : Hid (LS w X L h a n c s.l vo vf s.o s.f) := S.out.below b1
  have S1 : Hid (SlAt X a' n c' (S11.stepL s.l (i : Int))) := s1
  have E : Hid ((stK h i s 0).b = (s.b || S11.stepB s.l (i : Int))) := rfl
  have KB : Hid (Kp W X) := Kp.of b1
  clear l0 s1 b1 f1
  obtain ⟨bb, ebb⟩ : ∃ z, S11.stepB s.l (i : Int) = z := ⟨_, rfl⟩
  rw [ebb] at E ⊢
  clear ebb
  go_wp2_with fail
  refine (take_any T.out S1.out N.out bb).mono ?_
  rintro _ V ⟨rfl, s2, k2⟩
  have S2 : Hid _ := s2
  have K2 : Hid (Kp W V) := KB.out.trans k2
  clear s2 k2
  go_wp2
  go_ret
  exact ⟨bb, a', c', vo, vf, rfl, E.out, S2.out, K2.out⟩
set_option maxHeartbeats 2000000 in
theorem tra_any : StepC 92 1 := by
  intro w W L n c h a vo vf s i hS hn ho hf hi
  have l0 := hS.tld
  have S : Hid (LS w W L h a n c s.l vo vf s.o s.f) := hS
  clear hS ho hf
  go_enter Tryz.func92, Tryz.ntmps92
  go_wp2_with fail
  refine (S13.pstep_any h a n c s.l (i : Int) W S.out.sl hn).mono ?_
  rintro _ X ⟨a', c', rfl, s1, b1, f1⟩
  have N : Hid (Nw w a') := f1.elim (fun e => by rw [e]; exact S.out.nw) (fun q => q.up S.out.bel.size)
  have T : Hid (LS w X L h a n c s.l vo vf s.o s.f) := S.out.below b1
  have S1 : Hid (SlAt X a' n c' (S13.stepL s.l (i : Int))) := s1
  have E : Hid ((stK h i s 1).b = (s.b || S13.stepB s.l (i : Int))) := rfl
  have KB : Hid (Kp W X) := Kp.of b1
  clear l0 s1 b1 f1
  obtain ⟨bb, ebb⟩ : ∃ z, S13.stepB s.l (i : Int) = z := ⟨_, rfl⟩
  rw [ebb] at E ⊢
  clear ebb
  go_wp2_with fail
  refine (take_any T.out S1.out N.out bb).mono ?_
  rintro _ V ⟨rfl, s2, k2⟩
  have S2 : Hid _ := s2
  have K2 : Hid (Kp W V) := KB.out.trans k2
  clear s2 k2
  go_wp2
  go_ret
  exact ⟨bb, a', c', vo, vf, rfl, E.out, S2.out, K2.out⟩
set_option maxHeartbeats 2000000 in
theorem top_any : StepC 94 3 := by
  intro w W L n c h a vo vf s i hS hn ho hf hi
  have l0 := hS.tld
  have S : Hid (LS w W L h a n c s.l vo vf s.o s.f) := hS
  clear hS ho hf
  go_enter Tryz.func94, Tryz.ntmps94
  go_wp2_with fail
  refine (S14.tcm_in h a n c s.l i W S.out.sl hn hi).mono ?_
  rintro _ X ⟨a', c', rfl, s1, b1, f1⟩
  have N : Hid (Nw w a') := f1.elim (fun e => by rw [e]; exact S.out.nw) (fun q => q.up S.out.bel.size)
  have T : Hid (LS w X L h a n c s.l vo vf s.o s.f) := S.out.below b1
  have S1 : Hid (SlAt X a' n c' ((S14.tcmO h s.l i).getD s.l)) := s1
  have E : Hid ((stK h i s 3).b = (s.b || (S14.tcmO h s.l i).isSome)) := rfl
  have KB : Hid (Kp W X) := Kp.of b1
  clear l0 s1 b1 f1
  obtain ⟨bb, ebb⟩ : ∃ z, (S14.tcmO h s.l i).isSome = z := ⟨_, rfl⟩
  rw [ebb] at E ⊢
  clear ebb
  go_wp2_with fail
  refine (take_any T.out S1.out N.out bb).mono ?_
  rintro _ V ⟨rfl, s2, k2⟩
  have S2 : Hid _ := s2
  have K2 : Hid (Kp W V) := KB.out.trans k2
  clear s2 k2
  go_wp2
  go_ret
  exact ⟨bb, a', c', vo, vf, rfl, E.out, S2.out, K2.out⟩
set_option maxHeartbeats 2000000 in
theorem ver_any : StepC 96 5 := by
  intro w W L n c h a vo vf s i hS hn ho hf hi
  have l0 := hS.tld
  have S : Hid (LS w W L h a n c s.l vo vf s.o s.f) := hS
  clear hS ho hf
  go_enter Tryz.func96, Tryz.ntmps96
  go_wp2_with fail
  refine (S15.ppm_new h a n c s.l i W S.out.sl hn hi).mono ?_
  rintro _ X ⟨a', c', rfl, f1, s1, b1⟩
  have N : Hid (Nw w a') := f1.elim (fun e => by rw [e]; exact S.out.nw) (fun q => Nw.up (W := W) q S.out.bel.size)
  have T : Hid (LS w X L h a n c s.l vo vf s.o s.f) := S.out.below b1
  have S1 : Hid (SlAt X a' n c' ((S15.ppmO s.l i).getD s.l)) := s1
  have E : Hid ((stK h i s 5).b = (s.b || (S15.ppmO s.l i).isSome)) := rfl
  have KB : Hid (Kp W X) := Kp.of b1
  clear l0 s1 b1 f1
  obtain ⟨bb, ebb⟩ : ∃ z, (S15.ppmO s.l i).isSome = z := ⟨_, rfl⟩
  rw [ebb] at E ⊢
  clear ebb
  go_wp2_with fail
  refine (take_any T.out S1.out N.out bb).mono ?_
  rintro _ V ⟨rfl, s2, k2⟩
  have S2 : Hid _ := s2
  have K2 : Hid (Kp W V) := KB.out.trans k2
  clear s2 k2
  go_wp2
  go_ret
  exact ⟨bb, a', c', vo, vf, rfl, E.out, S2.out, K2.out⟩
end S17
end
section
namespace S17
open Go.RowKit
open S14 (gtP gtP_at set_self)

attribute [local go_sem ↓] ldP stP ldT stT ldDn stDn stLO stLI apLO apLI st4 alP
attribute [local go_sem] alP_run
set_option maxHeartbeats 4000000 in
theorem sta_any : StepC 93 2 := by
  intro w W L n c h a vo vf s i hS hn ho hf hi
  obtain ⟨b, o, rfl⟩ := hS.sl.some' (by omega)
  have hil : i < s.l.length := by rw [hS.sl.len]; exact hi
  have hin0 : (0 : Int) ≤ (i : Int) := by omega
  have hin1 : (i : Int) < (n : Int) := by omega
  have c16 := hS.c16
  have lp := hS.sl.ld (gtP_at hil)
  have S : Hid (LS w W L h (some ⟨b, o, none⟩) n c s.l vo vf s.o s.f) := hS
  obtain ⟨q, hq⟩ : ∃ z, (S14.pstO (gtP s.l i)).getD (gtP s.l i) = z := ⟨_, rfl⟩
  obtain ⟨bb, hbb⟩ : ∃ z, (S14.pstO (gtP s.l i)).isSome = z := ⟨_, rfl⟩
  have E : Hid ((stK h i s 2).b = (s.b || bb) ∧ stK h i s 2 = ⟨s.l.set i q, s.b || bb, s.o, s.f⟩) := ⟨by rw [← hbb]; rfl, by rw [← hbb, ← hq]; rfl⟩
  obtain ⟨p, hp⟩ : ∃ z, gtP s.l i = z := ⟨_, rfl⟩
  rw [hp] at lp hq hbb
  have P : Hid _ := S14.pst_any p
  clear hS ho hf hp
  go_enter Tryz.func93, Tryz.ntmps93
  go_wp2_with fail
  refine (P.out W).mono ?_
  rintro _ X ⟨e1, b1⟩
  rw [hq, hbb] at e1
  subst e1
  obtain ⟨Y, sY, rY, bY, zY⟩ := S11.var_p X q
  have T : Hid (LS w Y L h (some ⟨b, o, none⟩) n c s.l vo vf s.o s.f) := (S.out.below b1).below bY
  obtain ⟨z, hz⟩ : ∃ z, X.heap.size = z := ⟨_, rfl⟩
  rw [hz] at sY rY
  have f16 := fun x : Later Y => (T.out.below x.below).c16
  have fp := fun x : Later Y => (rY.below x.below).pld
  have KB : Hid (Kp W Y) := (Kp.of b1).trans (Kp.of bY)
  clear c16 lp b1 bY zY rY S P hq hbb
  go_wp2_with fail
  refine wp_region_later_tail 8 (by kernel_rfl) (by kernel_rfl) ?_
  simp only [List.take_succ_cons, List.take_zero]
  repeat (go_big_quiet_step (first | exact rfl))
  refine wpQuiet_nil ?_
  intro u
  simp only [List.drop_succ_cons, List.drop_zero]
  obtain ⟨V, sV, slV, gV⟩ := (T.out.below u.below).sl.stp (i := i) (p := q) hi
  have R : Hid (LS w V L h (some ⟨b, o, none⟩) n c (s.l.set i q) vo vf s.o s.f) := (T.out.below u.below).ports (by omega) slV gV
  have K2 : Hid (Kp W V) := by
    obtain ⟨cs, r⟩ := (T.out.below u.below).sl.soft _ rfl (by omega)
    exact (KB.out.trans (Kp.of u.below)).trans (Kp.row r gV (Or.inr (Or.inl rfl)))
  clear slV gV T f16 fp
  go_wp2
  go_ret
  refine ⟨bb, some ⟨b, o, none⟩, c, vo, vf, rfl, E.out.1, ?_, K2.out⟩
  rw [E.out.2]
  exact R.out
set_option maxHeartbeats 4000000 in
theorem flu_any : StepC 95 4 := by
  intro w W L n c h a vo vf s i hS hn ho hf hi
  obtain ⟨b, o, rfl⟩ := hS.sl.some' (by omega)
  have hil : i < s.l.length := by rw [hS.sl.len]; exact hi
  have hin0 : (0 : Int) ≤ (i : Int) := by omega
  have hin1 : (i : Int) < (n : Int) := by omega
  have c16 := hS.c16
  have c6 := hS.sl.cell (gtP_at hil) ((gtP s.l i).bit (j := 6) rfl) (by omega)
  have S : Hid (LS w W L h (some ⟨b, o, none⟩) n c s.l vo vf s.o s.f) := hS
  cases hb : (gtP s.l i).bt 6
  · have E : Hid (stK h i s 4 = s) := if_neg (by rw [hb]; simp)
    rw [hb] at c6
    clear hS ho hf hb
    go_enter Tryz.func95, Tryz.ntmps95
    go_wp2
    go_ret
    refine ⟨false, some ⟨b, o, none⟩, c, vo, vf, rfl, ?_, ?_, Kp.of (Below.refl _ _)⟩
    · rw [E.out]; simp
    · rw [E.out]; exact S.out
  · have E : Hid (stK h i s 4 = ⟨s.l.set i ((gtP s.l i).setB 6 kf6 false), true, s.o, s.f ++ [(i : Int)]⟩) := if_pos hb
    rw [hb] at c6
    obtain ⟨V, sV, slV, gV⟩ := hS.sl.stb (x := false) (gtP_at hil) kf6
    have R := hS.ports (by omega) slV gV
    have c18 := R.c18
    obtain ⟨v', X, ap, oX, gX⟩ := own_next kI R.fl R.bel.size hf (i : Int) 50
    have ap : (S16.apS 50 50 #[vf, .slice (some ⟨V.heap.size, 0, none⟩) 1 1]).run Tryz.prog (V.alloc (.cells #[.int .i64 (i : Int)] 3)) = .ok v' X := ap
    obtain ⟨Y, sY, RY, kY⟩ := R.flus gX oX
    have K2 : Hid (Kp W Y) := by
      obtain ⟨cs, r⟩ := hS.sl.soft _ rfl (by omega)
      exact (Kp.row r gV (Or.inr (Or.inl rfl))).trans kY
    clear kY
    have S2 : Hid (LS w Y L h (some ⟨b, o, none⟩) n c (s.l.set i ((gtP s.l i).setB 6 kf6 false)) vo v' s.o (s.f ++ [(i : Int)])) := RY
    clear hS ho hf hb S R slV gV oX gX RY
    go_enter Tryz.func95, Tryz.ntmps95
    go_wp2
    go_ret
    refine ⟨true, some ⟨b, o, none⟩, c, vo, v', rfl, ?_, ?_, K2.out⟩
    · rw [E.out]; simp
    · rw [E.out]; exact S2.out
theorem var_t (W : World) (h : Hd) (x : Value) (hx : x.oneCell' = true) : ∃ W', (stS 39 (.pointer (some ⟨W.heap.size, 0, none⟩)) (.agg (trc h x))).run Tryz.prog (W.alloc (.cells #[.int .u64 0, .int .u8 0, .int .u8 0, .int .u8 0, .int .u8 0, .int .u8 0, .bool false, .int .u16 0, .int .u64 0, .int .u32 0, .int .u64 0, .int .u16 0, .int .u8 0, .int .u8 0, .int .u8 0, .int .u8 0, .slice none 0 0] 39)) = .ok () W' ∧ RvAt W' W.heap.size 39 (trc h x) ∧ Below W.heap.size W W' ∧ W'.heap.size = W.heap.size + 1 :=
  row_new rtT W _ (trc h x) rfl (trc_size h x) (trc_one hx)
set_option maxHeartbeats 4000000 in
theorem trn_any : StepC 97 6 := by
  intro w W L n c h a vo vf s i hS hn ho hf hi
  have l0 := hS.tld
  have S : Hid (LS w W L h a n c s.l vo vf s.o s.f) := hS
  obtain ⟨bb, hbb⟩ : ∃ z, (S15.ptxO h s.l i).isSome = z := ⟨_, rfl⟩
  obtain ⟨lq, hlq⟩ : ∃ z, (S15.ptxO h s.l i).getD s.l = z := ⟨_, rfl⟩
  have E : Hid (stK h i s 6 = ⟨lq, s.b || bb, s.o ++ opt (S15.ptxU h s.l i), s.f⟩) := by rw [← hbb, ← hlq]; exact rfl
  have HO : Hid (s.o.length ≤ 90000) := ho
  have P : Hid _ := S15.ptx_in h a n c s.l i W hS.sl hn hi
  clear hS ho hf
  go_enter Tryz.func97, Tryz.ntmps97
  go_wp2_with fail
  refine Calls.mono P.out ?_
  rintro _ X ⟨a', c', v, rfl, s1, o1, b1, f1⟩
  rw [hbb]
  rw [hlq] at s1
  have N : Hid (Nw w a') := f1.elim (fun e => by rw [e]; exact S.out.nw) (fun q => q.up S.out.bel.size)
  obtain ⟨ao, mo, co, rfl, so⟩ := out_sl o1
  obtain ⟨Y, sY, rY, bY, zY⟩ := var_t X h (.slice a' n c') rfl
  have T := (S.out.below b1).below bY
  have c17 := T.c17
  obtain ⟨v', Z, ap, oZ, gZ⟩ := T.ou.app kO (so.below bY) (by have := HO.out; have := opt_len (S15.ptxU h s.l i); omega) T.bel.size 49
  have ap : (S16.apS 49 49 #[vo, .slice ao mo co]).run Tryz.prog Y = .ok v' Z := ap
  obtain ⟨U, sU, RU, kS, kR⟩ := T.outs gZ oZ
  obtain ⟨z, hz⟩ : ∃ z, X.heap.size = z := ⟨_, rfl⟩
  rw [hz] at sY rY
  have rU : RvAt U z 39 (trc h (.slice a' n c')) ∧ SlAt U a' n c' lq := ⟨kR _ _ _ rY (by decide) (by decide), kS _ _ _ _ (s1.below bY)⟩
  have KB : Hid (Kp W U) := ((Kp.of b1).trans (Kp.of bY)).trans (fun b t cs r h1 _ h3 _ => kR b t cs r h3 h1)
  have l5 := rU.1.tld
  have R : Hid (LS w U L h a n c s.l v' vf (s.o ++ opt (S15.ptxU h s.l i)) s.f ∧ SlAt U a' n c' lq) := ⟨RU, rU.2⟩
  clear l0 P s1 o1 b1 f1 rY bY zY T oZ gZ RU rU so kS kR
  go_wp2_with fail
  refine (take_any R.out.1 R.out.2 N.out bb).mono ?_
  rintro _ V ⟨rfl, s2, k2⟩
  have S2 : Hid _ := s2
  have K2 : Hid (Kp W V) := KB.out.trans k2
  clear s2 k2
  go_wp2
  go_ret
  refine ⟨bb, a', c', v', vf, rfl, ?_, ?_, K2.out⟩
  · rw [E.out]
  · rw [E.out]; exact S2.out
end S17
end
end Go.Proofs.YtlchejbggnbccaaGreat
