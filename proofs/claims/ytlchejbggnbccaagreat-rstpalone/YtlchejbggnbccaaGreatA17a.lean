/-
  Slices of rows of any kind: what they lead to, what is loaded from them, appended to them, stored into them. Plain laws over the program's types. And what follows from it here.
-/
import Derived.Test.YtlchejbggnbccaaGreatAbb
import Derived.Test.YtlchejbggnbccaaGreatA11b
import Derived.Test.YtlchejbggnbccaaGreatA12a
import Derived.Test.YtlchejbggnbccaaGreatA13e
import Derived.Test.YtlchejbggnbccaaGreatA14a
import Derived.Test.YtlchejbggnbccaaGreatA15a
import Derived.Test.YtlchejbggnbccaaGreatA9a
namespace Go.Proofs.YtlchejbggnbccaaGreat
set_option linter.unusedVariables false
set_option linter.unusedSimpArgs false
set_option maxRecDepth 4000
section
namespace S16
open Go.RowKit

structure El (α : Type) where
  f : α → Array Value
  ty : TypeId
  st : TypeId
  K : Nat
  B : Nat
structure El.Ok {α : Type} (e : El α) : Prop where
  size : ∀ x, (e.f x).size = e.K
  pos : 0 < e.K
  one : ∀ x, ∀ v ∈ (e.f x).toList, v.oneCell' = true
  slc : Tryz.prog.underlying e.st = some (.slice e.ty)
  info : ∃ z, (Tryz.prog.info? e.ty).map (fun i => (i.zero, i.size, i.bytes)) = some (some z, e.K, e.B) ∧ z.cells.size = e.K
  byt : e.B ≤ 1000
def El.fl {α : Type} (e : El α) (l : List α) : List Value := l.flatMap fun x => (e.f x).toList
section
variable {α : Type} {e : El α}
theorem El.Ok.len (k : e.Ok) (x : α) : (e.f x).toList.length = e.K := by rw [Array.length_toList, k.size]
theorem El.fl_get (k : e.Ok) : ∀ (l : List α) (t : Nat), (e.fl l)[t]? = (l[t / e.K]?).bind (fun x => (e.f x).toList[t % e.K]?)
  | [], t => by simp [El.fl]
  | x :: r, t => by
    have hp := k.pos
    unfold El.fl
    rw [List.flatMap_cons]
    by_cases h : t < e.K
    · rw [List.getElem?_append_left (by rw [k.len]; exact h), Nat.div_eq_of_lt h, Nat.mod_eq_of_lt h]
      rfl
    · have ih := El.fl_get k r (t - e.K)
      unfold El.fl at ih
      rw [List.getElem?_append_right (by rw [k.len]; omega), k.len, ih]
      have h1 : t / e.K = (t - e.K) / e.K + 1 := by
        rw [← Nat.add_div_right _ hp, Nat.sub_add_cancel (by omega)]
      have h2 : (t - e.K) % e.K = t % e.K := by
        rw [← Nat.add_mod_right, Nat.sub_add_cancel (by omega)]
      rw [h1, h2, List.getElem?_cons_succ]
theorem El.fl_len (k : e.Ok) (l : List α) : (e.fl l).length = l.length * e.K := by
  induction l with
  | nil => simp [El.fl]
  | cons x r ih =>
    unfold El.fl at ih ⊢
    rw [List.flatMap_cons, List.length_append, ih, k.len, List.length_cons, Nat.add_mul, Nat.one_mul, Nat.add_comm]
theorem El.fl_one (k : e.Ok) (l : List α) : ∀ v ∈ e.fl l, v.oneCell' = true := by
  intro v hv
  obtain ⟨x, _, hx⟩ := List.mem_flatMap.1 hv
  exact k.one x v hx
theorem El.fl_app (l m : List α) : e.fl (l ++ m) = e.fl l ++ e.fl m := by simp [El.fl]
theorem El.fl_at (k : e.Ok) {l : List α} {i j : Nat} {x : α} {v : Value} (hx : l[i]? = some x) (hv : (e.f x)[j]? = some v) : (e.fl l)[i * e.K + j]? = some v := by
  have hp := k.pos
  have hj : j < e.K := by rw [← k.size x]; exact (Array.getElem?_eq_some_iff.1 hv).1
  have d1 : (i * e.K + j) / e.K = i := by rw [Nat.mul_comm, Nat.mul_add_div hp, Nat.div_eq_of_lt hj, Nat.add_zero]
  have d2 : (i * e.K + j) % e.K = j := by rw [Nat.mul_comm, Nat.mul_add_mod, Nat.mod_eq_of_lt hj]
  rw [El.fl_get k, d1, d2, hx]
  simpa using hv
structure SlAt (e : El α) (W : World) (a : Option Addr) (n c : Nat) (l : List α) : Prop where
  len : l.length = n
  cap : n ≤ c
  max : c ≤ maxLen
  nil : a = none → n = 0 ∧ c = 0
  cells : ∀ x, a = some x → 0 < n → ∃ b o, x = ⟨b, o, none⟩ ∧ ∀ j u, (e.fl l)[j]? = some u → W.cell? ⟨b, o + j, none⟩ = some u
  soft : ∀ x, a = some x → 0 < n → ∃ cs, RvAt W x.block e.ty cs
variable {W W' : World} {a : Option Addr} {n c : Nat} {l : List α}
theorem SlAt.below (h : SlAt e W a n c l) (hb : Below W.heap.size W W') : SlAt e W' a n c l := by
  refine ⟨h.len, h.cap, h.max, h.nil, fun x hx h0 => ?_, fun x hx h0 => (h.soft x hx h0).imp fun cs r => r.below hb⟩
  obtain ⟨b, o, e, hc⟩ := h.cells x hx h0
  exact ⟨b, o, e, fun j u hj => (hb.cell (World.block_lt_of_cell? W _ (hc j u hj))).trans (hc j u hj)⟩
theorem SlAt.keptBut {row : Option Nat} (h : SlAt e W a n c l) (hg : W.grownBy W' row) (hn : ∀ x, a = some x → 0 < n → some x.block ≠ row) : SlAt e W' a n c l := by
  refine ⟨h.len, h.cap, h.max, h.nil, fun x hx h0 => ?_, fun x hx h0 => (h.soft x hx h0).imp fun cs r => r.keptBut hg (hn x hx h0)⟩
  obtain ⟨b, o, e, hc⟩ := h.cells x hx h0
  refine ⟨b, o, e, fun j u hj => ?_⟩
  subst e
  exact hg.cell (hc j u hj) (hn ⟨b, o, none⟩ hx h0)
theorem SlAt.none' (W : World) : SlAt e W none 0 0 [] := ⟨rfl, Nat.le_refl _, by simp, fun _ => ⟨rfl, rfl⟩, (fun x h => by cases h), fun x h => by cases h⟩
theorem SlAt.keptV (h : SlAt e W a n c l) {b : Nat} {t : TypeId} {cs : Array Value} (r : RvAt W b t cs) (ht : t ≠ e.ty) (hg : W.grownBy W' (some b)) : SlAt e W' a n c l := h.keptBut hg (fun x hx h0 q => by
  obtain ⟨ds, rd⟩ := h.soft x hx h0
  simp only [Option.some.injEq] at q
  rw [q] at rd
  have := rd.symm.trans r
  cases this
  exact ht rfl)
theorem SlAt.some' (h : SlAt e W a n c l) (hn : 0 < n) : ∃ b o, a = some ⟨b, o, none⟩ := by
  cases a with
  | none => have := (h.nil rfl).1; omega
  | some x =>
    obtain ⟨b, o, e, _⟩ := h.cells x rfl hn
    exact ⟨b, o, by rw [e]⟩
theorem SlAt.cell (k : e.Ok) {b o : Nat} (h : SlAt e W (some ⟨b, o, none⟩) n c l) {i j q : Nat} {x : α} {v : Value} (hx : l[i]? = some x) (hv : (e.f x)[j]? = some v) (hq : q = o + (i * e.K + j)) : W.cell? ⟨b, q, none⟩ = some v := by
  obtain ⟨b', o', e', hc⟩ := h.cells _ rfl (by rw [← h.len]; exact Nat.lt_of_le_of_lt (Nat.zero_le _) (List.getElem?_eq_some_iff.1 hx).1)
  cases e'
  rw [hq]
  exact hc _ _ (El.fl_at k hx hv)
def Own (e : El α) (W : World) (B : Nat) (v : Value) (l : List α) : Prop := W.ownsRow B e.ty e.K v l.length (e.fl l)
variable {B : Nat} {v : Value}
theorem Own.form (h : Own e W B v l) : ∃ a c, v = .slice a l.length c ∧ SlAt e W a l.length c l ∧ ∀ x, a = some x → B ≤ x.block ∧ x.block < W.heap.size := by
  rcases h.2 with ⟨rfl, h0⟩ | ⟨g, cap, cur, rfl, hB, hb, h1, h2, h3, h4⟩
  · have : l = [] := List.eq_nil_of_length_eq_zero h0
    subst this
    exact ⟨none, 0, rfl, SlAt.none' W, fun x e => by cases e⟩
  · refine ⟨some ⟨g, 0, none⟩, cap, rfl, ⟨rfl, h1, h2, (fun e => by cases e), fun x e _ => ?_, fun x e _ => by cases e; exact ⟨cur, hb⟩⟩, fun x e => ?_⟩
    · cases e
      refine ⟨g, 0, rfl, fun j u hj => ?_⟩
      rw [Nat.zero_add]
      refine cell_at hb j u ?_
      rw [← h4, List.getElem?_take] at hj
      split at hj
      · rw [← Array.getElem?_toList]; exact hj
      · cases hj
    · cases e
      exact ⟨hB, lt_of_block hb⟩
theorem Own.nil (W : World) (B : Nat) : Own e W B (.slice none 0 0) [] := World.ownsRow_nil W B _ _
theorem Own.keptBut {row : Option Nat} (h : Own e W B v l) (hg : W.grownBy W' row) (hne : v.ownBlock = none ∨ v.ownBlock ≠ row) : Own e W' B v l := World.ownsRow.kept h hg hne
theorem Own.below (h : Own e W B v l) (hb : Below W.heap.size W W') : Own e W' B v l := by
  refine h.keptBut (grown_of_below hb none) ?_
  cases v.ownBlock <;> simp
theorem Own.blk (h : Own e W B v l) : ∀ k, v.ownBlock = some k → B ≤ k ∧ k < W.heap.size := World.ownsRow.lt h
def apS (st ty : TypeId) (xs : Array Value) : Sem Value := Builtin.append_ #[st, st] ty xs
theorem Own.app (k : e.Ok) {m : List α} (h : Own e W B v l) (hs : SlAt e W a n c m) (hl : l.length + m.length ≤ 100000) (hB : B ≤ W.heap.size) (ty : TypeId) :
    ∃ v' W', (apS e.st ty #[v, .slice a n c]).run Tryz.prog W = .ok v' W' ∧ Own e W' B v' (l ++ m) ∧ W.grownBy W' v.ownBlock := by
  obtain ⟨z, hz, hzs⟩ := k.info
  obtain ⟨i0, hi, hz0, hz1, hz2⟩ := info_parts hz
  have hby := k.byt
  unfold apS
  cases a with
  | none =>
    obtain ⟨rfl, rfl⟩ := hs.nil rfl
    have hm : m = [] := List.eq_nil_of_length_eq_zero hs.len
    subst hm
    have hrun := run_append_owned_none (P := Tryz.prog) (w := W) B e.st ty e.ty i0 e.K k.slc hi v l.length _ h
    exact ⟨v, W, hrun, by rw [List.append_nil]; exact h, World.grownBy.refl _ _⟩
  | some x =>
    by_cases hn0 : n = 0
    · subst hn0
      have hm : m = [] := List.eq_nil_of_length_eq_zero hs.len
      subst hm
      obtain ⟨v', W', hrun, h1, h2, _⟩ := run_append_own (P := Tryz.prog) W B e.st ty e.ty i0 z e.K e.B k.slc hi hz0 hz1 hz2 hzs k.pos v l.length _ h x 0 c [] (by simp)
        (fun j u hj => by cases hj) (fun u hu => by cases hu) (by unfold maxLen; omega) (by
          have : (l.length + 0) * e.B ≤ 100000 * 1000 := Nat.mul_le_mul (by omega) hby
          omega) hB
      refine ⟨v', W', hrun, ?_, h2⟩
      unfold Own
      rw [List.append_nil] at h1 ⊢
      exact h1
    obtain ⟨b, o, rfl, hc⟩ := hs.cells x rfl (by omega)
    obtain ⟨v', W', hrun, h1, h2, _⟩ := run_append_own (P := Tryz.prog) W B e.st ty e.ty i0 z e.K e.B k.slc hi hz0 hz1 hz2 hzs k.pos v l.length _ h ⟨b, o, none⟩ n c (e.fl m) (by rw [El.fl_len k, hs.len])
      (fun j u hj => by rw [Addr.add_lit]; exact hc j u hj) (El.fl_one k m) (by have := hs.len; unfold maxLen; omega) (by
        have := hs.len
        have : (l.length + n) * e.B ≤ 100000 * 1000 := Nat.mul_le_mul (by omega) hby
        omega) hB
    refine ⟨v', W', hrun, ?_, h2⟩
    unfold Own
    rw [El.fl_app, List.length_append, hs.len]
    exact h1
theorem one_new (W : World) (x : α) (k : e.Ok) : SlAt e (W.alloc (.cells (e.f x) e.ty)) (some ⟨W.heap.size, 0, none⟩) 1 1 [x] := by
  refine ⟨rfl, Nat.le_refl _, by unfold maxLen; omega, (fun e => by cases e), fun y e' _ => ?_, fun y e' _ => by cases e'; exact ⟨_, RvAt.new W _ _⟩⟩
  cases e'
  refine ⟨_, _, rfl, fun j u hj => ?_⟩
  rw [Nat.zero_add]
  refine RvAt.cell (RvAt.new W e.ty (e.f x)) j u ?_
  have : e.fl [x] = (e.f x).toList := by simp [El.fl]
  rw [this] at hj
  rw [← Array.getElem?_toList]
  exact hj
def PAt (e : El α) (W : World) (g c : Nat) (l : List α) : Prop :=
  ∃ cur : Array Value, RvAt W g e.ty cur ∧ l.length ≤ c ∧ c ≤ maxLen ∧ cur.size = c * e.K ∧ cur.toList.take (l.length * e.K) = e.fl l
variable {g : Nat}
theorem PAt.lt (h : PAt e W g c l) : g < W.heap.size := by
  obtain ⟨cur, hb, _⟩ := h
  exact hb.lt
theorem PAt.own (k : e.Ok) (h : PAt e W g c l) (hB : B ≤ g) : Own e W B (.slice (some ⟨g, 0, none⟩) l.length c) l := by
  obtain ⟨cur, hb, h1, h2, h3, h4⟩ := h
  exact ⟨El.fl_len k l, Or.inr ⟨g, c, cur, rfl, hB, hb, h1, h2, h3, h4⟩⟩
theorem Own.pat (h : Own e W B v l) : (v = .slice none 0 0 ∧ l = []) ∨ ∃ g c, v = .slice (some ⟨g, 0, none⟩) l.length c ∧ B ≤ g ∧ PAt e W g c l := by
  rcases h.2 with ⟨rfl, h0⟩ | ⟨g, cap, cur, rfl, hB, hb, h1, h2, h3, h4⟩
  · exact Or.inl ⟨rfl, List.eq_nil_of_length_eq_zero h0⟩
  · exact Or.inr ⟨g, cap, rfl, hB, cur, hb, h1, h2, h3, h4⟩
end
end S16
end
section
namespace S17
open Go.RowKit
open S14 (gtP gtP_at set_self)

abbrev Ot := S15.Ot
theorem kf6 : kdP[6]? = some none := rfl
structure Ps where
  l : List Pt
  b : Bool
  o : List Ot
  f : List Int
def opt {α : Type} : Option α → List α
  | none => []
  | some x => [x]
def stK (h : Hd) (i : Nat) (s : Ps) : Nat → Ps
  | 0 => ⟨S11.stepL s.l (i : Int), s.b || S11.stepB s.l (i : Int), s.o, s.f⟩
  | 1 => ⟨S13.stepL s.l (i : Int), s.b || S13.stepB s.l (i : Int), s.o, s.f⟩
  | 2 => ⟨s.l.set i ((S14.pstO (gtP s.l i)).getD (gtP s.l i)), s.b || (S14.pstO (gtP s.l i)).isSome, s.o, s.f⟩
  | 3 => ⟨(S14.tcmO h s.l i).getD s.l, s.b || (S14.tcmO h s.l i).isSome, s.o, s.f⟩
  | 4 => if (gtP s.l i).bt 6 = true then ⟨s.l.set i ((gtP s.l i).setB 6 kf6 false), true, s.o, s.f ++ [(i : Int)]⟩ else s
  | 5 => ⟨(S15.ppmO s.l i).getD s.l, s.b || (S15.ppmO s.l i).isSome, s.o, s.f⟩
  | 6 => ⟨(S15.ptxO h s.l i).getD s.l, s.b || (S15.ptxO h s.l i).isSome, s.o ++ opt (S15.ptxU h s.l i), s.f⟩
  | _ => s
def ptN (h : Hd) (i : Nat) : Nat → Ps → Ps
  | 0, s => s
  | k + 1, s => stK h i (ptN h i k s) k
def ptF (h : Hd) (i : Nat) (s : Ps) : Ps := ptN h i 7 s
def psN (h : Hd) : Nat → Ps → Ps
  | 0, s => s
  | m + 1, s => ptF h m (psN h m s)
structure Ts where
  h : Hd
  s : Ps
def pass (n : Nat) (t : Ts) : Ts := ⟨S12.stpH t.h t.s.l, psN (S12.stpH t.h t.s.l) n ⟨S12.stpL t.h t.s.l, S12.stpB t.h t.s.l, t.s.o, t.s.f⟩⟩
def runN (n : Nat) : Nat → Ts → Ts
  | 0, t => t
  | m + 1, t => if (pass n t).s.b = true then runN n m (pass n t) else pass n t
def start (h : Hd) (l : List Pt) : Ts := ⟨h, ⟨l, false, [], []⟩⟩
def runT (h : Hd) (l : List Pt) : Ts := runN l.length 100 (start h l)
def noteL : List Int → Int → List Int
  | [], i => [i]
  | x :: r, i => if x < i then x :: noteL r i else if x = i then x :: r else i :: x :: r
def noted (l : List Int) : List Int := l.foldl noteL []
/-! ### what is told grows -/
theorem opt_len {α : Type} (x : Option α) : (opt x).length ≤ 1 := by cases x <;> simp [opt]
theorem stK_o (h : Hd) (i : Nat) (s : Ps) (k : Nat) : (stK h i s k).o.length ≤ s.o.length + (if k = 6 then 1 else 0) ∧ (stK h i s k).f.length ≤ s.f.length + (if k = 4 then 1 else 0) := by
  match k with
  | 0 => exact ⟨by simp [stK], by simp [stK]⟩
  | 1 => exact ⟨by simp [stK], by simp [stK]⟩
  | 2 => exact ⟨by simp [stK], by simp [stK]⟩
  | 3 => exact ⟨by simp [stK], by simp [stK]⟩
  | 4 =>
    simp only [stK]
    split <;> simp
  | 5 => exact ⟨by simp [stK], by simp [stK]⟩
  | 6 =>
    have := opt_len (S15.ptxU h s.l i)
    exact ⟨by simp [stK]; omega, by simp [stK]⟩
  | k + 7 => exact ⟨by simp [stK], by simp [stK]⟩
theorem ptN_o (h : Hd) (i : Nat) (s : Ps) : ∀ k, (ptN h i k s).o.length ≤ s.o.length + (if 6 < k then 1 else 0) ∧ (ptN h i k s).f.length ≤ s.f.length + (if 4 < k then 1 else 0)
  | 0 => by simp [ptN]
  | k + 1 => by
    have h1 := ptN_o h i s k
    have h2 := stK_o h i (ptN h i k s) k
    simp only [ptN]
    constructor
    · have a := h1.1
      have b := h2.1
      split at a <;> split at b <;> split <;> omega
    · have a := h1.2
      have b := h2.2
      split at a <;> split at b <;> split <;> omega
theorem psN_o (h : Hd) (s : Ps) : ∀ m, (psN h m s).o.length ≤ s.o.length + m ∧ (psN h m s).f.length ≤ s.f.length + m
  | 0 => by simp [psN]
  | m + 1 => by
    have h1 := psN_o h s m
    have h2 := ptN_o h m (psN h m s) 7
    simp only [psN, ptF]
    simp only [show (6 < 7) = True by simp, show (4 < 7) = True by simp, if_true] at h2
    omega
end S17
end
section
namespace S17
open Go.RowKit
open S14 (gtP gtP_at set_self)

structure Ev where
  h : Hd
  l : List Pt
  o : List Ot
  f : List Int
  e : Int
def Ev.of (T : Ts) : Ev := ⟨T.h, T.s.l, T.s.o, noted T.s.f, 0⟩
def Ev.no (h : Hd) (l : List Pt) (e : Int) : Ev := ⟨h, l, [], [], e⟩
def inP (l : List Pt) (i : Int) : Prop := 0 ≤ i ∧ i < l.length
def inD (l : List Pt) (i : Int) : Decidable (inP l i) := decidable_of_iff (0 ≤ i ∧ i < l.length) Iff.rfl
def evUp (h : Hd) (l : List Pt) (i : Int) (on : Bool) : Ev := @ite _ (inP l i) (inD l i) (if (gtP l i.toNat).bt 2 = on then Ev.no h l 0 else Ev.of (runT h (S9.upL l i on))) (Ev.no h l 5)
def evTick (h : Hd) (l : List Pt) : Ev := Ev.of (runT h (l.map S9.tickP))
theorem upL_len (l : List Pt) (i : Int) (b : Bool) : (S9.upL l i b).length = l.length := by
  unfold S9.upL
  split
  · rw [List.length_set]
  · rfl
theorem evUp_out {h : Hd} {l : List Pt} {i : Int} {on : Bool} (hi : ¬ inP l i) : evUp h l i on = Ev.no h l 5 := @if_neg _ (inD l i) hi _ _ _
theorem evUp_same {h : Hd} {l : List Pt} {k : Nat} {on : Bool} (hk : k < l.length) (hb : (gtP l k).bt 2 = on) : evUp h l (k : Int) on = Ev.no h l 0 := by
  have : evUp h l (k : Int) on = _ := @if_pos _ (inD l k) ⟨by omega, by omega⟩ _ _ _
  rw [this, Int.toNat_natCast, if_pos hb]
theorem evUp_go {h : Hd} {l : List Pt} {k : Nat} {on : Bool} (hk : k < l.length) (hb : (gtP l k).bt 2 ≠ on) : evUp h l (k : Int) on = Ev.of (runT h (S9.upL l (k : Int) on)) := by
  have : evUp h l (k : Int) on = _ := @if_pos _ (inD l k) ⟨by omega, by omega⟩ _ _ _
  rw [this, Int.toNat_natCast, if_neg hb]
end S17
end
section
namespace S17
open Go.RowKit
open S14 (gtP gtP_at set_self)

theorem get_none {α : Type} {o : Option α} {x : α} (h : o.isSome = false) : o.getD x = x := by cases o <;> first | rfl | cases h
theorem stK_b (h : Hd) (i : Nat) (s : Ps) (k : Nat) : s.b = true → (stK h i s k).b = true := by
  intro e
  match k with
  | 0 => simp [stK, e]
  | 1 => simp [stK, e]
  | 2 => simp [stK, e]
  | 3 => simp [stK, e]
  | 4 =>
    simp only [stK]
    split
    · rfl
    · exact e
  | 5 => simp [stK, e]
  | 6 => simp [stK, e]
  | n + 7 => exact e
theorem stK_still (h : Hd) (i : Nat) (s : Ps) (k : Nat) (e : (stK h i s k).b = false) : stK h i s k = s := by
  obtain ⟨l, b, o, f⟩ := s
  match k with
  | 0 =>
    simp only [stK, Bool.or_eq_false_iff] at e ⊢
    obtain ⟨rfl, e⟩ := e
    have : S11.stepL l (i : Int) = l := by
      unfold S11.stepB at e
      unfold S11.stepL S11.tellO
      split
      · rename_i c
        rw [if_pos c] at e
        rw [get_none e]
        exact set_self (by omega)
      · rfl
    rw [this, e]; rfl
  | 1 =>
    simp only [stK, Bool.or_eq_false_iff] at e ⊢
    obtain ⟨rfl, e⟩ := e
    have : S13.stepL l (i : Int) = l := by
      unfold S13.stepB at e
      unfold S13.stepL
      split
      · rename_i c
        rw [if_pos c] at e
        exact get_none e
      · rfl
    rw [this, e]; rfl
  | 2 =>
    simp only [stK, Bool.or_eq_false_iff] at e ⊢
    obtain ⟨rfl, e⟩ := e
    rw [get_none e, e]
    by_cases c : i < l.length
    · rw [set_self c]; rfl
    · rw [List.set_eq_of_length_le (by omega)]; rfl
  | 3 =>
    simp only [stK, Bool.or_eq_false_iff] at e ⊢
    obtain ⟨rfl, e⟩ := e
    rw [get_none e, e]; rfl
  | 4 =>
    simp only [stK] at e ⊢
    split at e
    · cases e
    · rename_i c
      rw [if_neg c]
  | 5 =>
    simp only [stK, Bool.or_eq_false_iff] at e ⊢
    obtain ⟨rfl, e⟩ := e
    rw [get_none e, e]; rfl
  | 6 =>
    simp only [stK, Bool.or_eq_false_iff] at e ⊢
    obtain ⟨rfl, e⟩ := e
    have u : S15.ptxU h l i = none := by
      unfold S15.ptxO at e
      unfold S15.ptxU
      split at e
      · rename_i c
        rw [if_neg (by omega)]
      · cases e
    rw [get_none e, e, u]
    simp [opt]
  | n + 7 => rfl
theorem ptN_still (h : Hd) (i : Nat) (s : Ps) : ∀ k, (ptN h i k s).b = false → ptN h i k s = s
  | 0, _ => rfl
  | k + 1, e => by
    have e1 := stK_still h i (ptN h i k s) k e
    have e2 : (ptN h i k s).b = false := by
      cases z : (ptN h i k s).b with
      | false => rfl
      | true => exact absurd (stK_b h i _ k z) (by rw [show (stK h i (ptN h i k s) k).b = false from e]; simp)
    show stK h i (ptN h i k s) k = s
    rw [e1]
    exact ptN_still h i s k e2
theorem psN_s (h : Hd) (s : Ps) (k : Nat) : psN h (k + 1) s = ptN h k 7 (psN h k s) := by simp only [psN, ptF]
theorem two_still (h : Hd) (k m : Nat) (s u : Ps) (e : (ptN h k m u).b = false) (ih : u.b = false → u = s) : ptN h k m u = s := by
  have e1 := ptN_still h k u m e
  have e2 : u.b = false := by rw [e1] at e; exact e
  rw [e1]
  exact ih e2
theorem psN_still (h : Hd) (s : Ps) (k : Nat) : (psN h k s).b = false → psN h k s = s := by
  induction k with
  | zero => intro _; rfl
  | succ k ih =>
    intro e
    rw [psN_s] at e ⊢
    exact two_still h k 7 s _ e ih
theorem pass_still (n : Nat) (t : Ts) (e : (pass n t).s.b = false) : S12.stpB t.h t.s.l = false ∧ (pass n t).h = t.h ∧ (pass n t).s = ⟨t.s.l, false, t.s.o, t.s.f⟩ := by
  have e1 := psN_still _ _ n e
  have e2 : S12.stpB t.h t.s.l = false := by
    have := e
    rw [show (pass n t).s = _ from e1] at this
    exact this
  have e3 : S12.stpH t.h t.s.l = t.h := by unfold S12.stpH; rw [e2]; simp
  have e4 : S12.stpL t.h t.s.l = t.s.l := by unfold S12.stpL; rw [e2]; simp
  refine ⟨e2, e3, ?_⟩
  show psN _ n _ = _
  rw [e1, e4, e2]
theorem run_keeps (P : Ts → Prop) (n : Nat) (hP : ∀ t, P t → P (pass n t)) : ∀ (m : Nat) (t : Ts), P t → P (runN n m t)
  | 0, t, h => h
  | m + 1, t, h => by
    unfold runN
    split
    · exact run_keeps P n hP m _ (hP t h)
    · exact hP t h
theorem run_first (P Q : Ts → Prop) (n m : Nat) (t : Ts) (hP : P t) (hQ : ∀ t, P t → Q (pass n t)) (hn : ∀ t : Ts, P t → Q t → False) (hm : ∀ (t : Ts) (u : Ps), Q t → u.l = t.s.l → Q ⟨t.h, u⟩) (R : Ts → Prop) (hR : ∀ t, Q t → R (runN n m t)) : R (runN n (m + 1) t) := by
  unfold runN
  split
  · exact hR _ (hQ t hP)
  · rename_i c
    exfalso
    have e := pass_still n t (by simpa using c)
    refine hn t hP ?_
    have q := hQ t hP
    have q2 := hm _ t.s q (by rw [e.2.2])
    rw [e.2.1] at q2
    exact q2
theorem run_last (P Q : Ts → Prop) (n m : Nat) (t : Ts) (hP : P t) (hQ : ∀ t, P t → Q (pass n t)) (hs : ∀ t, Q t → Q (pass n t)) : Q (runN n (m + 1) t) := by
  unfold runN
  split
  · exact run_keeps Q n hs m _ (hQ t hP)
  · exact hQ t hP
end S17
end
section
namespace S17
open Go.RowKit
open S14 (gtP gtP_at set_self)

theorem bt_c {ks ks' : List (Option IntKind)} {r : Row ks} {q : Row ks'} {i j : Nat} (h : r.cl[i]? = q.cl[j]?) : r.bt i = q.bt j := by unfold Row.bt; rw [h]
theorem nm_c {ks ks' : List (Option IntKind)} {r : Row ks} {q : Row ks'} {i j : Nat} (h : r.cl[i]? = q.cl[j]?) : r.nm i = q.nm j := by unfold Row.nm; rw [h]
theorem gBb {ks : List (Option IntKind)} (r : Row ks) {j : Nat} (h : ks[j]? = some none) (b : Bool) (i : Nat) : (r.setB j h b).bt i = if i = j then b else r.bt i := by
  unfold Row.bt
  rw [r.setB_get]
  by_cases e : i = j
  · rw [if_pos e, if_pos e]
  · rw [if_neg e, if_neg e]
theorem gBn {ks : List (Option IntKind)} (r : Row ks) {j : Nat} (h : ks[j]? = some none) (b : Bool) (i : Nat) : (r.setB j h b).nm i = if i = j then 0 else r.nm i := by
  unfold Row.nm
  rw [r.setB_get]
  by_cases e : i = j
  · rw [if_pos e, if_pos e]
  · rw [if_neg e, if_neg e]
theorem gNn {ks : List (Option IntKind)} (r : Row ks) {j : Nat} (h : ks[j]? = some (some .i64)) (n : Int) (hw : (Lit.int .i64 n).wf = true) (i : Nat) : (r.setN j h n hw).nm i = if i = j then n else r.nm i := by
  unfold Row.nm
  rw [r.setN_get]
  by_cases e : i = j
  · rw [if_pos e, if_pos e]
  · rw [if_neg e, if_neg e]
theorem gNb {ks : List (Option IntKind)} (r : Row ks) {j : Nat} (h : ks[j]? = some (some .i64)) (n : Int) (hw : (Lit.int .i64 n).wf = true) (i : Nat) : (r.setN j h n hw).bt i = if i = j then false else r.bt i := by
  unfold Row.bt
  rw [r.setN_get]
  by_cases e : i = j
  · rw [if_pos e, if_pos e]
  · rw [if_neg e, if_neg e]
theorem gUb {ks : List (Option IntKind)} (r : Row ks) (j : Nat) (n : Int) (i : Nat) : (r.setU j n).bt i = r.bt i := by
  by_cases e : j = i
  · subst e
    unfold Row.setU
    split
    · rename_i c
      have h1 := r.num c.1
      unfold Row.bt
      rw [r.set_get _ (List.getElem?_eq_some_iff.1 c.1).1, if_pos rfl, h1]
    · rfl
  · exact bt_c (r.setU_ne e)
theorem gUe {ks : List (Option IntKind)} (r : Row ks) (j : Nat) (n : Int) {i : Nat} (e : j ≠ i) : (r.setU j n).nm i = r.nm i := nm_c (r.setU_ne e)
theorem gUn (r : Pt) {j : Nat} {n : Int} (h : kdP[j]? = some (some .u8)) (hn : 0 ≤ n ∧ n ≤ 255) : (r.setU j n).nm j = n := r.setU_at h (wf8 hn)
def cB : List Nat := [2, 4, 5, 7, 8, 9, 10, 13, 14, 20, 21, 22, 24, 25, 28]
def cN : List Nat := [0, 29, 30, 31, 65, 70, 72, 73, 41, 42]
def cA : List Nat := cB ++ cN ++ [32, 33, 34, 35, 36, 37, 38, 39, 40, 41, 42, 43, 44, 45, 46, 47]
structure Vq (p q : Pt) : Prop where
  b : ∀ j ∈ cB, p.bt j = q.bt j
  n : ∀ j ∈ cN, p.nm j = q.nm j
  d : ∀ j, 32 ≤ j → j < 48 → p.cl[j]? = q.cl[j]?
theorem Vq.refl (p : Pt) : Vq p p := ⟨fun _ _ => rfl, fun _ _ => rfl, fun _ _ _ => rfl⟩
theorem Vq.trans {p q r : Pt} (h : Vq p q) (k : Vq q r) : Vq p r := ⟨fun j hj => (h.b j hj).trans (k.b j hj), fun j hj => (h.n j hj).trans (k.n j hj), fun j a b => (h.d j a b).trans (k.d j a b)⟩
theorem Vq.of {p q : Pt} {j : Nat} (hj : cA.contains j = false) (h : ∀ i, i ≠ j → q.cl[i]? = p.cl[i]?) : Vq p q := by
  have ne : ∀ i ∈ cA, i ≠ j := fun i hi e => by
    subst e
    have := List.contains_iff_mem.2 hi
    rw [this] at hj
    cases hj
  refine ⟨fun i hi => (bt_c (h i (ne i ?_))).symm, fun i hi => (nm_c (h i (ne i ?_))).symm, fun i a b => (h i (ne i ?_)).symm⟩
  · exact List.mem_append_left _ (List.mem_append_left _ hi)
  · exact List.mem_append_left _ (List.mem_append_right _ hi)
  · refine List.mem_append_right _ ?_
    have : i = 32 ∨ i = 33 ∨ i = 34 ∨ i = 35 ∨ i = 36 ∨ i = 37 ∨ i = 38 ∨ i = 39 ∨ i = 40 ∨ i = 41 ∨ i = 42 ∨ i = 43 ∨ i = 44 ∨ i = 45 ∨ i = 46 ∨ i = 47 := by omega
    rcases this with rfl | rfl | rfl | rfl | rfl | rfl | rfl | rfl | rfl | rfl | rfl | rfl | rfl | rfl | rfl | rfl <;> decide
theorem Vq.sB (p : Pt) {j : Nat} (h : kdP[j]? = some none) (b : Bool) (hj : cA.contains j = false) : Vq p (p.setB j h b) := Vq.of hj fun i e => by rw [p.setB_get, if_neg e]
theorem Vq.sN (p : Pt) {j : Nat} (h : kdP[j]? = some (some .i64)) (n : Int) (hw : (Lit.int .i64 n).wf = true) (hj : cA.contains j = false) : Vq p (p.setN j h n hw) := Vq.of hj fun i e => by rw [p.setN_get, if_neg e]
theorem Vq.sU (p : Pt) (j : Nat) (n : Int) (hj : cA.contains j = false) : Vq p (p.setU j n) := Vq.of hj fun i e => p.setU_ne (fun z => e z.symm)
structure Pm (p : Pt) : Prop where
  a : p.bt 23 = true
  b : p.bt 16 = false
  c : p.nm 76 = 1 ∨ p.nm 76 = 3
theorem Pm.of {p q : Pt} (h : Pm p) (h1 : q.bt 23 = p.bt 23) (h2 : q.bt 16 = p.bt 16) (h3 : q.nm 76 = p.nm 76) : Pm q := ⟨h1.trans h.a, h2.trans h.b, by rw [h3]; exact h.c⟩
structure Vp (p q : Pt) : Prop where
  v : Vq p q
  m : Pm p → Pm q
  z : p.nm 76 = 0 ∧ p.bt 16 = false → q.nm 76 = 0 ∧ q.bt 16 = false
theorem Vp.refl (p : Pt) : Vp p p := ⟨Vq.refl p, fun h => h, fun h => h⟩
theorem Vp.trans {p q r : Pt} (h : Vp p q) (k : Vp q r) : Vp p r := ⟨h.v.trans k.v, fun z => k.m (h.m z), fun z => k.z (h.z z)⟩
theorem Vp.sB {p q : Pt} (k : Vp p q) {j : Nat} (h : kdP[j]? = some none) (b : Bool) (hj : (16 :: 23 :: 76 :: cA).contains j = false) : Vp p (q.setB j h b) := by
  simp only [List.contains_cons, Bool.or_eq_false_iff, beq_eq_false_iff_ne] at hj
  exact k.trans ⟨Vq.sB q h b hj.2.2.2, fun z => z.of (by rw [gBb, if_neg (fun e => hj.2.1 e.symm)]) (by rw [gBb, if_neg (fun e => hj.1 e.symm)]) (by rw [gBn, if_neg (fun e => hj.2.2.1 e.symm)]), fun w => ⟨by rw [gBn, if_neg (fun e => hj.2.2.1 e.symm)]; exact w.1, by rw [gBb, if_neg (fun e => hj.1 e.symm)]; exact w.2⟩⟩
theorem Vp.sN {p q : Pt} (k : Vp p q) {j : Nat} (h : kdP[j]? = some (some .i64)) (n : Int) (hw : (Lit.int .i64 n).wf = true) (hj : (16 :: 23 :: 76 :: cA).contains j = false) : Vp p (q.setN j h n hw) := by
  simp only [List.contains_cons, Bool.or_eq_false_iff, beq_eq_false_iff_ne] at hj
  exact k.trans ⟨Vq.sN q h n hw hj.2.2.2, fun z => z.of (by rw [gNb, if_neg (fun e => hj.2.1 e.symm)]) (by rw [gNb, if_neg (fun e => hj.1 e.symm)]) (by rw [gNn, if_neg (fun e => hj.2.2.1 e.symm)]), fun w => ⟨by rw [gNn, if_neg (fun e => hj.2.2.1 e.symm)]; exact w.1, by rw [gNb, if_neg (fun e => hj.1 e.symm)]; exact w.2⟩⟩
theorem Vp.sU {p q : Pt} (k : Vp p q) (j : Nat) (n : Int) (hj : (16 :: 23 :: 76 :: cA).contains j = false) : Vp p (q.setU j n) := by
  simp only [List.contains_cons, Bool.or_eq_false_iff, beq_eq_false_iff_ne] at hj
  exact k.trans ⟨Vq.sU q j n hj.2.2.2, fun z => z.of (gUb _ _ _ _) (gUb _ _ _ _) (gUe _ _ _ hj.2.2.1), fun w => ⟨by rw [gUe _ _ _ hj.2.2.1]; exact w.1, by rw [gUb]; exact w.2⟩⟩
structure Ot' (i : Nat) (l m : List Pt) : Prop where
  len : m.length = l.length
  at' : ∀ j, j ≠ i → Vp (gtP l j) (gtP m j)
theorem Ot'.refl (i : Nat) (l : List Pt) : Ot' i l l := ⟨rfl, fun j _ => Vp.refl _⟩
theorem Ot'.trans {i : Nat} {l m r : List Pt} (h : Ot' i l m) (k : Ot' i m r) : Ot' i l r := ⟨k.len.trans h.len, fun j hj => (h.at' j hj).trans (k.at' j hj)⟩
theorem gt_set {l : List Pt} {i : Nat} (hi : i < l.length) (p : Pt) (j : Nat) : gtP (l.set i p) j = if j = i then p else gtP l j := by
  unfold gtP
  rw [List.getD_eq_getElem?_getD, List.getElem?_set]
  by_cases e : j = i
  · subst e
    rw [if_pos rfl, if_pos hi, if_pos rfl]; rfl
  · rw [if_neg (fun z => e z.symm), if_neg e, List.getD_eq_getElem?_getD]
theorem Ot'.set {l : List Pt} {i : Nat} (hi : i < l.length) (p : Pt) : Ot' i l (l.set i p) := ⟨List.length_set .., fun j hj => by rw [gt_set hi, if_neg hj]; exact Vp.refl _⟩
theorem Vp.tc (p : Pt) : Vp p (p.setB 27 S14.kb27 true) := (Vp.refl p).sB _ _ (by decide)
theorem gt_spr {l : List Pt} {i : Nat} (hi : i < l.length) (q : Pt) : Ot' i l (S14.sprL l i q) ∧ gtP (S14.sprL l i q) i = q := by
  refine ⟨⟨by simp [S14.sprL], fun j hj => ?_⟩, ?_⟩
  · by_cases c : j < l.length
    · rw [S14.spr_at q c, if_neg hj]; exact Vp.tc _
    · have e1 : gtP l j = zeroP := by unfold gtP; rw [List.getD_eq_getElem?_getD, List.getElem?_eq_none (by omega)]; rfl
      have e2 : gtP (S14.sprL l i q) j = zeroP := by unfold gtP; rw [List.getD_eq_getElem?_getD, List.getElem?_eq_none (by simp [S14.sprL]; omega)]; rfl
      rw [e1, e2]; exact Vp.refl _
  · rw [S14.spr_at q hi, if_pos rfl]
structure Lt (i : Nat) (l m : List Pt) : Prop where
  o : Ot' i l m
  i : Vp (gtP l i) (gtP m i)
theorem Lt.refl (i : Nat) (l : List Pt) : Lt i l l := ⟨Ot'.refl i l, Vp.refl _⟩
theorem Lt.trans {i : Nat} {l m r : List Pt} (h : Lt i l m) (k : Lt i m r) : Lt i l r := ⟨h.o.trans k.o, h.i.trans k.i⟩
theorem Lt.set {l : List Pt} {i : Nat} (hi : i < l.length) {p : Pt} (h : Vp (gtP l i) p) : Lt i l (l.set i p) := ⟨Ot'.set hi p, by rw [gt_set hi, if_pos rfl]; exact h⟩
theorem Lt.spr {l : List Pt} {i : Nat} (hi : i < l.length) {q : Pt} (h : Vp (gtP l i) q) : Lt i l (S14.sprL l i q) := ⟨(gt_spr hi q).1, by rw [(gt_spr hi q).2]; exact h⟩
theorem v_nw (h : Hd) {p q : Pt} (k : Vp p q) : Vp p (S14.nwP h q) := by
  unfold S14.nwP
  split
  · split
    · exact (k.sU _ _ (by decide)).sB _ _ (by decide)
    · exact k.sU _ _ (by decide)
  · exact k
theorem lt_tcm (h : Hd) {l : List Pt} {i : Nat} (hi : i < l.length) : Lt i l ((S14.tcmO h l i).getD l) := by
  have r := Vp.refl (gtP l i)
  have e1 : Lt i l (l.set i (S14.lrnP (gtP l i))) := Lt.set hi (((((r.sB _ _ (by decide)).sB _ _ (by decide)).sB _ _ (by decide)).sB _ _ (by decide)).sN _ _ _ (by decide))
  have e2 : Lt i l (l.set i (S14.quiP (gtP l i))) := Lt.set hi ((((r.sB _ _ (by decide)).sB _ _ (by decide)).sU _ _ (by decide)).sN _ _ _ (by decide))
  have e3 : Lt i l (S14.sprL l i (S14.detP h (gtP l i))) := Lt.spr hi (((v_nw h r).sB kb11 true (by decide)).sN S14.kn74 3 S14.wi3 (by decide))
  have e4 : Lt i l (S14.sprL l i (S14.ntfP h (gtP l i))) := Lt.spr hi (by
    have k : Vp (gtP l i) (S14.heaQ h (gtP l i)) := by
      unfold S14.heaQ
      split
      · exact v_nw h r
      · exact r
    exact ((k.sB kb19 false (by decide)).sB kb17 false (by decide)).sB S14.kb26 _ (by decide))
  have e5 : Lt i l (l.set i (S14.prgP h (gtP l i))) := Lt.set hi (((v_nw h r).sB S14.kb6 true (by decide)).sB S14.kb27 false (by decide))
  have e6 : Lt i l (l.set i (S14.ackP (gtP l i))) := Lt.set hi ((r.sU _ _ (by decide)).sB _ _ (by decide))
  unfold S14.tcmO S14.inaO S14.leaO S14.actO
  repeat' split
  all_goals first | exact e1 | exact e2 | exact e3 | exact e4 | exact e5 | exact e6 | exact Lt.refl i l
theorem lt_flu (h : Hd) {s : Ps} {i : Nat} (hi : i < s.l.length) : Lt i s.l (stK h i s 4).l := by
  simp only [stK]
  split
  · exact Lt.set hi ((Vp.refl _).sB _ _ (by decide))
  · exact Lt.refl i _
theorem lt_ptx (h : Hd) {l : List Pt} {i : Nat} (hi : i < l.length) : Lt i l ((S15.ptxO h l i).getD l) := by
  have r := Vp.refl (gtP l i)
  unfold S15.ptxO
  split
  · exact Lt.refl i l
  · refine Lt.set hi ?_
    show Vp (gtP l i) (S15.ptxQ (gtP l i) _)
    match S15.ptxC h (S15.gtP l i) with
    | 0 => exact r
    | 1 => exact (((r.sB kb11 true (by decide)).sU 64 0 (by decide)).sN S15.kn75 1 S15.wi1 (by decide)).sU _ _ (by decide)
    | 2 => exact (r.sB _ _ (by decide)).sU _ _ (by decide)
    | n + 3 => exact (((r.sB _ _ (by decide)).sU _ _ (by decide)).sB _ _ (by decide)).sU _ _ (by decide)
theorem v_ppm (p : Pt) (n : Nat) : Vq p (S15.ppmQ p n) := by
  match n with
  | 0 => exact Vq.refl p
  | 1 => exact ((Vq.sB p S15.kb23 true (by decide)).trans (Vq.sU _ 67 3 (by decide))).trans (Vq.sN _ S15.kn76 1 S15.wi1 (by decide))
  | 2 => exact ((Vq.sB p kb15 false (by decide)).trans (Vq.sB _ kb16 false (by decide))).trans (Vq.sN _ S15.kn76 3 S15.wi3 (by decide))
  | n + 3 => exact ((Vq.sB p S15.kb23 false (by decide)).trans (Vq.sU _ 67 3 (by decide))).trans (Vq.sN _ S15.kn76 2 S15.wi2 (by decide))
theorem m_ppm (p : Pt) (h : Pm p ∨ (p.nm 76 = 0 ∧ p.bt 16 = false)) : Pm (S15.ppmQ p (S15.ppmC p)) := by
  have k1 : p.bt 16 = false → Pm (S15.ppmQ p 1) := fun e => by
    refine ⟨?_, ?_, Or.inl ?_⟩ <;> simp [S15.ppmQ, S15.chkP, gBb, gNb, gUb, gNn, e]
  have k2 : p.bt 23 = true → Pm (S15.ppmQ p 2) := fun e => by
    refine ⟨?_, ?_, Or.inr ?_⟩ <;> simp [S15.ppmQ, S15.senP, gBb, gNb, gUb, gNn, e]
  rcases h with h | h
  · have e23 := h.a
    have e16 := h.b
    have hc : S15.ppmC p = 0 ∨ S15.ppmC p = 1 ∨ S15.ppmC p = 2 := by
      unfold S15.ppmC
      rcases h.c with e | e
      · rw [e, if_pos rfl]
        repeat' split
        all_goals simp
      · rw [e, if_neg (by decide), if_pos rfl, e23, e16]
        repeat' split
        all_goals simp_all
    rcases hc with c | c | c
    · rw [c]; exact h
    · rw [c]; exact k1 e16
    · rw [c]; exact k2 e23
  · have c : S15.ppmC p = 1 := by
      unfold S15.ppmC
      rw [h.1, if_neg (by decide), if_neg (by decide), if_neg (by decide)]
    rw [c]
    exact k1 h.2
theorem des_of {h : Hd} {p q : Pt} (e : p.nm 0 = q.nm 0) : S12.desV h (rOf h) p = S12.desV h (rOf h) q := Row.ext' (by show [Value.int .u64 _, .int .u32 _, .int .u64 _, .int .u16 _] = [Value.int .u64 _, .int .u32 _, .int .u64 _, .int .u16 _]; rw [e])
structure Zr (h : Hd) (fd : Int) (p : Pt) : Prop where
  b2 : p.bt 2 = false
  b4 : p.bt 4 = false
  b5 : p.bt 5 = false
  b7 : p.bt 7 = false
  b8 : p.bt 8 = false
  b9 : p.bt 9 = false
  b10 : p.bt 10 = false
  b13 : p.bt 13 = false
  b14 : p.bt 14 = false
  b20 : p.bt 20 = false
  b21 : p.bt 21 = false
  b22 : p.bt 22 = false
  b24 : p.bt 24 = false
  b25 : p.bt 25 = false
  b28 : p.bt 28 = false
  n29 : p.nm 29 = 0
  n30 : p.nm 30 = 0
  n31 : p.nm 31 = 0
  n65 : p.nm 65 = 0
  n70 : p.nm 70 = 0
  n72 : p.nm 72 = 0
  n73 : p.nm 73 = 0
structure Zs (h : Hd) (fd : Int) (p : Pt) : Prop where
  b2 : p.bt 2 = false
  b4 : p.bt 4 = false
  b5 : p.bt 5 = false
  b7 : p.bt 7 = false
  b8 : p.bt 8 = false
  b9 : p.bt 9 = false
  b10 : p.bt 10 = false
  b13 : p.bt 13 = false
  b14 : p.bt 14 = false
  b20 : p.bt 20 = false
  b21 : p.bt 21 = false
  b22 : p.bt 22 = true
  b24 : p.bt 24 = false
  b25 : p.bt 25 = false
  b28 : p.bt 28 = false
  n29 : p.nm 29 = 0
  n30 : p.nm 30 = 0
  n31 : p.nm 31 = 0
  n65 : p.nm 65 = 0
  n70 : p.nm 70 = 0
  n72 : p.nm 72 = 0
  n73 : p.nm 73 = 0
  n41 : p.nm 41 = h.nm 13
  n42 : p.nm 42 = h.nm 3
theorem Zs.to {h : Hd} {fd : Int} {p q : Pt} (s : Zs h fd p) (k : Vq p q) : Zs h fd q := by
  exact ⟨by rw [← k.b 2 (by decide)]; exact s.b2, by rw [← k.b 4 (by decide)]; exact s.b4, by rw [← k.b 5 (by decide)]; exact s.b5, by rw [← k.b 7 (by decide)]; exact s.b7, by rw [← k.b 8 (by decide)]; exact s.b8, by rw [← k.b 9 (by decide)]; exact s.b9, by rw [← k.b 10 (by decide)]; exact s.b10, by rw [← k.b 13 (by decide)]; exact s.b13, by rw [← k.b 14 (by decide)]; exact s.b14, by rw [← k.b 20 (by decide)]; exact s.b20, by rw [← k.b 21 (by decide)]; exact s.b21, by rw [← k.b 22 (by decide)]; exact s.b22, by rw [← k.b 24 (by decide)]; exact s.b24, by rw [← k.b 25 (by decide)]; exact s.b25, by rw [← k.b 28 (by decide)]; exact s.b28, by rw [← k.n 29 (by decide)]; exact s.n29, by rw [← k.n 30 (by decide)]; exact s.n30, by rw [← k.n 31 (by decide)]; exact s.n31, by rw [← k.n 65 (by decide)]; exact s.n65, by rw [← k.n 70 (by decide)]; exact s.n70, by rw [← k.n 72 (by decide)]; exact s.n72, by rw [← k.n 73 (by decide)]; exact s.n73, by rw [← k.n 41 (by decide)]; exact s.n41, by rw [← k.n 42 (by decide)]; exact s.n42⟩
structure Na (h : Hd) (fd : Int) (p : Pt) : Prop where
  b2 : p.bt 2 = false
  b4 : p.bt 4 = false
  b5 : p.bt 5 = false
  b7 : p.bt 7 = false
  b8 : p.bt 8 = false
  b9 : p.bt 9 = false
  b10 : p.bt 10 = false
  b13 : p.bt 13 = false
  b14 : p.bt 14 = false
  b20 : p.bt 20 = true
  b21 : p.bt 21 = true
  b22 : p.bt 22 = false
  b24 : p.bt 24 = true
  b25 : p.bt 25 = false
  b28 : p.bt 28 = false
  n29 : p.nm 29 = 0
  n30 : p.nm 30 = 0
  n31 : p.nm 31 = 0
  n65 : p.nm 65 = fd
  n72 : p.nm 72 = 1
  n73 : p.nm 73 = 1
  n41 : p.nm 41 = h.nm 13
  n42 : p.nm 42 = h.nm 3
theorem Na.to {h : Hd} {fd : Int} {p q : Pt} (s : Na h fd p) (k : Vq p q) : Na h fd q := by
  exact ⟨by rw [← k.b 2 (by decide)]; exact s.b2, by rw [← k.b 4 (by decide)]; exact s.b4, by rw [← k.b 5 (by decide)]; exact s.b5, by rw [← k.b 7 (by decide)]; exact s.b7, by rw [← k.b 8 (by decide)]; exact s.b8, by rw [← k.b 9 (by decide)]; exact s.b9, by rw [← k.b 10 (by decide)]; exact s.b10, by rw [← k.b 13 (by decide)]; exact s.b13, by rw [← k.b 14 (by decide)]; exact s.b14, by rw [← k.b 20 (by decide)]; exact s.b20, by rw [← k.b 21 (by decide)]; exact s.b21, by rw [← k.b 22 (by decide)]; exact s.b22, by rw [← k.b 24 (by decide)]; exact s.b24, by rw [← k.b 25 (by decide)]; exact s.b25, by rw [← k.b 28 (by decide)]; exact s.b28, by rw [← k.n 29 (by decide)]; exact s.n29, by rw [← k.n 30 (by decide)]; exact s.n30, by rw [← k.n 31 (by decide)]; exact s.n31, by rw [← k.n 65 (by decide)]; exact s.n65, by rw [← k.n 72 (by decide)]; exact s.n72, by rw [← k.n 73 (by decide)]; exact s.n73, by rw [← k.n 41 (by decide)]; exact s.n41, by rw [← k.n 42 (by decide)]; exact s.n42⟩
structure Nb (h : Hd) (fd : Int) (p : Pt) : Prop where
  b2 : p.bt 2 = false
  b4 : p.bt 4 = false
  b5 : p.bt 5 = false
  b7 : p.bt 7 = false
  b8 : p.bt 8 = false
  b9 : p.bt 9 = false
  b10 : p.bt 10 = false
  b13 : p.bt 13 = false
  b14 : p.bt 14 = false
  b20 : p.bt 20 = true
  b21 : p.bt 21 = false
  b22 : p.bt 22 = true
  b24 : p.bt 24 = true
  b25 : p.bt 25 = false
  b28 : p.bt 28 = false
  n29 : p.nm 29 = 0
  n30 : p.nm 30 = 0
  n31 : p.nm 31 = 0
  n65 : p.nm 65 = fd
  n72 : p.nm 72 = 1
  n73 : p.nm 73 = 1
  n41 : p.nm 41 = h.nm 13
  n42 : p.nm 42 = h.nm 3
theorem Nb.to {h : Hd} {fd : Int} {p q : Pt} (s : Nb h fd p) (k : Vq p q) : Nb h fd q := by
  exact ⟨by rw [← k.b 2 (by decide)]; exact s.b2, by rw [← k.b 4 (by decide)]; exact s.b4, by rw [← k.b 5 (by decide)]; exact s.b5, by rw [← k.b 7 (by decide)]; exact s.b7, by rw [← k.b 8 (by decide)]; exact s.b8, by rw [← k.b 9 (by decide)]; exact s.b9, by rw [← k.b 10 (by decide)]; exact s.b10, by rw [← k.b 13 (by decide)]; exact s.b13, by rw [← k.b 14 (by decide)]; exact s.b14, by rw [← k.b 20 (by decide)]; exact s.b20, by rw [← k.b 21 (by decide)]; exact s.b21, by rw [← k.b 22 (by decide)]; exact s.b22, by rw [← k.b 24 (by decide)]; exact s.b24, by rw [← k.b 25 (by decide)]; exact s.b25, by rw [← k.b 28 (by decide)]; exact s.b28, by rw [← k.n 29 (by decide)]; exact s.n29, by rw [← k.n 30 (by decide)]; exact s.n30, by rw [← k.n 31 (by decide)]; exact s.n31, by rw [← k.n 65 (by decide)]; exact s.n65, by rw [← k.n 72 (by decide)]; exact s.n72, by rw [← k.n 73 (by decide)]; exact s.n73, by rw [← k.n 41 (by decide)]; exact s.n41, by rw [← k.n 42 (by decide)]; exact s.n42⟩
structure Dn (h : Hd) (fd : Int) (p : Pt) : Prop where
  b2 : p.bt 2 = false
  b4 : p.bt 4 = false
  b5 : p.bt 5 = false
  b7 : p.bt 7 = false
  b8 : p.bt 8 = false
  b9 : p.bt 9 = false
  b10 : p.bt 10 = false
  b13 : p.bt 13 = false
  b14 : p.bt 14 = false
  b20 : p.bt 20 = false
  b21 : p.bt 21 = false
  b22 : p.bt 22 = true
  b24 : p.bt 24 = false
  b25 : p.bt 25 = true
  b28 : p.bt 28 = false
  n29 : p.nm 29 = 0
  n30 : p.nm 30 = 0
  n31 : p.nm 31 = 0
  n65 : p.nm 65 = fd
  n70 : p.nm 70 = 0
  n72 : p.nm 72 = 1
  n73 : p.nm 73 = 2
  n41 : p.nm 41 = h.nm 13
  n42 : p.nm 42 = h.nm 3
theorem Dn.to {h : Hd} {fd : Int} {p q : Pt} (s : Dn h fd p) (k : Vq p q) : Dn h fd q := by
  exact ⟨by rw [← k.b 2 (by decide)]; exact s.b2, by rw [← k.b 4 (by decide)]; exact s.b4, by rw [← k.b 5 (by decide)]; exact s.b5, by rw [← k.b 7 (by decide)]; exact s.b7, by rw [← k.b 8 (by decide)]; exact s.b8, by rw [← k.b 9 (by decide)]; exact s.b9, by rw [← k.b 10 (by decide)]; exact s.b10, by rw [← k.b 13 (by decide)]; exact s.b13, by rw [← k.b 14 (by decide)]; exact s.b14, by rw [← k.b 20 (by decide)]; exact s.b20, by rw [← k.b 21 (by decide)]; exact s.b21, by rw [← k.b 22 (by decide)]; exact s.b22, by rw [← k.b 24 (by decide)]; exact s.b24, by rw [← k.b 25 (by decide)]; exact s.b25, by rw [← k.b 28 (by decide)]; exact s.b28, by rw [← k.n 29 (by decide)]; exact s.n29, by rw [← k.n 30 (by decide)]; exact s.n30, by rw [← k.n 31 (by decide)]; exact s.n31, by rw [← k.n 65 (by decide)]; exact s.n65, by rw [← k.n 70 (by decide)]; exact s.n70, by rw [← k.n 72 (by decide)]; exact s.n72, by rw [← k.n 73 (by decide)]; exact s.n73, by rw [← k.n 41 (by decide)]; exact s.n41, by rw [← k.n 42 (by decide)]; exact s.n42⟩
structure Ua (h : Hd) (fd : Int) (p : Pt) : Prop where
  b2 : p.bt 2 = true
  b4 : p.bt 4 = false
  b5 : p.bt 5 = false
  b7 : p.bt 7 = false
  b8 : p.bt 8 = false
  b9 : p.bt 9 = false
  b10 : p.bt 10 = false
  b13 : p.bt 13 = false
  b14 : p.bt 14 = false
  b20 : p.bt 20 = false
  b21 : p.bt 21 = false
  b22 : p.bt 22 = true
  b24 : p.bt 24 = false
  b25 : p.bt 25 = true
  b28 : p.bt 28 = false
  n29 : p.nm 29 = 0
  n30 : p.nm 30 = 0
  n31 : p.nm 31 = 0
  n65 : p.nm 65 = fd
  n70 : p.nm 70 = 0
  n72 : p.nm 72 = 1
  n73 : p.nm 73 = 2
  n41 : p.nm 41 = h.nm 13
  n42 : p.nm 42 = h.nm 3
theorem Ua.to {h : Hd} {fd : Int} {p q : Pt} (s : Ua h fd p) (k : Vq p q) : Ua h fd q := by
  exact ⟨by rw [← k.b 2 (by decide)]; exact s.b2, by rw [← k.b 4 (by decide)]; exact s.b4, by rw [← k.b 5 (by decide)]; exact s.b5, by rw [← k.b 7 (by decide)]; exact s.b7, by rw [← k.b 8 (by decide)]; exact s.b8, by rw [← k.b 9 (by decide)]; exact s.b9, by rw [← k.b 10 (by decide)]; exact s.b10, by rw [← k.b 13 (by decide)]; exact s.b13, by rw [← k.b 14 (by decide)]; exact s.b14, by rw [← k.b 20 (by decide)]; exact s.b20, by rw [← k.b 21 (by decide)]; exact s.b21, by rw [← k.b 22 (by decide)]; exact s.b22, by rw [← k.b 24 (by decide)]; exact s.b24, by rw [← k.b 25 (by decide)]; exact s.b25, by rw [← k.b 28 (by decide)]; exact s.b28, by rw [← k.n 29 (by decide)]; exact s.n29, by rw [← k.n 30 (by decide)]; exact s.n30, by rw [← k.n 31 (by decide)]; exact s.n31, by rw [← k.n 65 (by decide)]; exact s.n65, by rw [← k.n 70 (by decide)]; exact s.n70, by rw [← k.n 72 (by decide)]; exact s.n72, by rw [← k.n 73 (by decide)]; exact s.n73, by rw [← k.n 41 (by decide)]; exact s.n41, by rw [← k.n 42 (by decide)]; exact s.n42⟩
structure Ub (h : Hd) (fd : Int) (p : Pt) : Prop where
  b2 : p.bt 2 = true
  b4 : p.bt 4 = false
  b5 : p.bt 5 = false
  b7 : p.bt 7 = false
  b8 : p.bt 8 = false
  b9 : p.bt 9 = false
  b10 : p.bt 10 = false
  b13 : p.bt 13 = false
  b14 : p.bt 14 = false
  b20 : p.bt 20 = false
  b21 : p.bt 21 = true
  b22 : p.bt 22 = false
  b24 : p.bt 24 = false
  b25 : p.bt 25 = true
  b28 : p.bt 28 = false
  n29 : p.nm 29 = 1
  n30 : p.nm 30 = 0
  n31 : p.nm 31 = 0
  n65 : p.nm 65 = fd
  n70 : p.nm 70 = 0
  n72 : p.nm 72 = 2
  n73 : p.nm 73 = 2
  n41 : p.nm 41 = h.nm 13
  n42 : p.nm 42 = h.nm 3
theorem Ub.to {h : Hd} {fd : Int} {p q : Pt} (s : Ub h fd p) (k : Vq p q) : Ub h fd q := by
  exact ⟨by rw [← k.b 2 (by decide)]; exact s.b2, by rw [← k.b 4 (by decide)]; exact s.b4, by rw [← k.b 5 (by decide)]; exact s.b5, by rw [← k.b 7 (by decide)]; exact s.b7, by rw [← k.b 8 (by decide)]; exact s.b8, by rw [← k.b 9 (by decide)]; exact s.b9, by rw [← k.b 10 (by decide)]; exact s.b10, by rw [← k.b 13 (by decide)]; exact s.b13, by rw [← k.b 14 (by decide)]; exact s.b14, by rw [← k.b 20 (by decide)]; exact s.b20, by rw [← k.b 21 (by decide)]; exact s.b21, by rw [← k.b 22 (by decide)]; exact s.b22, by rw [← k.b 24 (by decide)]; exact s.b24, by rw [← k.b 25 (by decide)]; exact s.b25, by rw [← k.b 28 (by decide)]; exact s.b28, by rw [← k.n 29 (by decide)]; exact s.n29, by rw [← k.n 30 (by decide)]; exact s.n30, by rw [← k.n 31 (by decide)]; exact s.n31, by rw [← k.n 65 (by decide)]; exact s.n65, by rw [← k.n 70 (by decide)]; exact s.n70, by rw [← k.n 72 (by decide)]; exact s.n72, by rw [← k.n 73 (by decide)]; exact s.n73, by rw [← k.n 41 (by decide)]; exact s.n41, by rw [← k.n 42 (by decide)]; exact s.n42⟩
structure Uc (h : Hd) (fd : Int) (p : Pt) : Prop where
  b2 : p.bt 2 = true
  b4 : p.bt 4 = false
  b5 : p.bt 5 = false
  b7 : p.bt 7 = false
  b8 : p.bt 8 = false
  b9 : p.bt 9 = false
  b10 : p.bt 10 = false
  b13 : p.bt 13 = false
  b14 : p.bt 14 = false
  b20 : p.bt 20 = false
  b21 : p.bt 21 = false
  b22 : p.bt 22 = true
  b24 : p.bt 24 = false
  b25 : p.bt 25 = true
  b28 : p.bt 28 = true
  n29 : p.nm 29 = 1
  n30 : p.nm 30 = 0
  n31 : p.nm 31 = 4
  n65 : p.nm 65 = fd
  n70 : p.nm 70 = 0
  n72 : p.nm 72 = 2
  n73 : p.nm 73 = 2
  n41 : p.nm 41 = h.nm 13
  n42 : p.nm 42 = h.nm 3
  tv : dsg p = S12.desV h (rOf h) p
  tt : S12.dsgT p = S12.desT h (uOf h)
theorem Uc.to {h : Hd} {fd : Int} {p q : Pt} (s : Uc h fd p) (k : Vq p q) : Uc h fd q := by
  have e1 : dsg p = dsg q := S12.dsg_of fun j hj => k.d _ (by omega) (by omega)
  have e2 : S12.dsgT p = S12.dsgT q := S12.dsgT_of fun j hj => k.d _ (by omega) (by omega)
  have e3 : S12.desV h (rOf h) p = S12.desV h (rOf h) q := des_of (k.n 0 (by decide))
  exact ⟨by rw [← k.b 2 (by decide)]; exact s.b2, by rw [← k.b 4 (by decide)]; exact s.b4, by rw [← k.b 5 (by decide)]; exact s.b5, by rw [← k.b 7 (by decide)]; exact s.b7, by rw [← k.b 8 (by decide)]; exact s.b8, by rw [← k.b 9 (by decide)]; exact s.b9, by rw [← k.b 10 (by decide)]; exact s.b10, by rw [← k.b 13 (by decide)]; exact s.b13, by rw [← k.b 14 (by decide)]; exact s.b14, by rw [← k.b 20 (by decide)]; exact s.b20, by rw [← k.b 21 (by decide)]; exact s.b21, by rw [← k.b 22 (by decide)]; exact s.b22, by rw [← k.b 24 (by decide)]; exact s.b24, by rw [← k.b 25 (by decide)]; exact s.b25, by rw [← k.b 28 (by decide)]; exact s.b28, by rw [← k.n 29 (by decide)]; exact s.n29, by rw [← k.n 30 (by decide)]; exact s.n30, by rw [← k.n 31 (by decide)]; exact s.n31, by rw [← k.n 65 (by decide)]; exact s.n65, by rw [← k.n 70 (by decide)]; exact s.n70, by rw [← k.n 72 (by decide)]; exact s.n72, by rw [← k.n 73 (by decide)]; exact s.n73, by rw [← k.n 41 (by decide)]; exact s.n41, by rw [← k.n 42 (by decide)]; exact s.n42, by rw [← e1, ← e3]; exact s.tv, by rw [← e2]; exact s.tt⟩
structure Ud (h : Hd) (fd : Int) (p : Pt) : Prop where
  b2 : p.bt 2 = true
  b4 : p.bt 4 = false
  b5 : p.bt 5 = false
  b7 : p.bt 7 = false
  b8 : p.bt 8 = false
  b9 : p.bt 9 = false
  b10 : p.bt 10 = false
  b13 : p.bt 13 = false
  b14 : p.bt 14 = false
  b20 : p.bt 20 = false
  b21 : p.bt 21 = false
  b22 : p.bt 22 = true
  b24 : p.bt 24 = false
  b25 : p.bt 25 = false
  b28 : p.bt 28 = false
  n29 : p.nm 29 = 2
  n30 : p.nm 30 = 4
  n31 : p.nm 31 = 4
  n65 : p.nm 65 = fd
  n70 : p.nm 70 = 0
  n72 : p.nm 72 = 3
  n73 : p.nm 73 = 4
  n41 : p.nm 41 = h.nm 13
  n42 : p.nm 42 = h.nm 3
  tv : pri p = S12.desV h (rOf h) p
  tt : priT p = S12.desT h (uOf h)
theorem Ud.to {h : Hd} {fd : Int} {p q : Pt} (s : Ud h fd p) (k : Vq p q) : Ud h fd q := by
  have e1 : pri p = pri q := S12.pri_of fun j hj => k.d _ (by omega) (by omega)
  have e2 : priT p = priT q := S12.priT_of fun j hj => k.d _ (by omega) (by omega)
  have e3 : S12.desV h (rOf h) p = S12.desV h (rOf h) q := des_of (k.n 0 (by decide))
  exact ⟨by rw [← k.b 2 (by decide)]; exact s.b2, by rw [← k.b 4 (by decide)]; exact s.b4, by rw [← k.b 5 (by decide)]; exact s.b5, by rw [← k.b 7 (by decide)]; exact s.b7, by rw [← k.b 8 (by decide)]; exact s.b8, by rw [← k.b 9 (by decide)]; exact s.b9, by rw [← k.b 10 (by decide)]; exact s.b10, by rw [← k.b 13 (by decide)]; exact s.b13, by rw [← k.b 14 (by decide)]; exact s.b14, by rw [← k.b 20 (by decide)]; exact s.b20, by rw [← k.b 21 (by decide)]; exact s.b21, by rw [← k.b 22 (by decide)]; exact s.b22, by rw [← k.b 24 (by decide)]; exact s.b24, by rw [← k.b 25 (by decide)]; exact s.b25, by rw [← k.b 28 (by decide)]; exact s.b28, by rw [← k.n 29 (by decide)]; exact s.n29, by rw [← k.n 30 (by decide)]; exact s.n30, by rw [← k.n 31 (by decide)]; exact s.n31, by rw [← k.n 65 (by decide)]; exact s.n65, by rw [← k.n 70 (by decide)]; exact s.n70, by rw [← k.n 72 (by decide)]; exact s.n72, by rw [← k.n 73 (by decide)]; exact s.n73, by rw [← k.n 41 (by decide)]; exact s.n41, by rw [← k.n 42 (by decide)]; exact s.n42, by rw [← e1, ← e3]; exact s.tv, by rw [← e2]; exact s.tt⟩
structure Ue (h : Hd) (fd : Int) (p : Pt) : Prop where
  b2 : p.bt 2 = true
  b4 : p.bt 4 = false
  b5 : p.bt 5 = false
  b7 : p.bt 7 = false
  b8 : p.bt 8 = false
  b9 : p.bt 9 = false
  b10 : p.bt 10 = false
  b13 : p.bt 13 = true
  b14 : p.bt 14 = false
  b20 : p.bt 20 = false
  b21 : p.bt 21 = false
  b22 : p.bt 22 = true
  b24 : p.bt 24 = false
  b25 : p.bt 25 = false
  b28 : p.bt 28 = false
  n29 : p.nm 29 = 2
  n30 : p.nm 30 = 4
  n31 : p.nm 31 = 4
  n65 : p.nm 65 = fd
  n70 : p.nm 70 = 0
  n72 : p.nm 72 = 3
  n73 : p.nm 73 = 4
  n41 : p.nm 41 = h.nm 13
  n42 : p.nm 42 = h.nm 3
  tv : pri p = S12.desV h (rOf h) p
  tt : priT p = S12.desT h (uOf h)
theorem Ue.to {h : Hd} {fd : Int} {p q : Pt} (s : Ue h fd p) (k : Vq p q) : Ue h fd q := by
  have e1 : pri p = pri q := S12.pri_of fun j hj => k.d _ (by omega) (by omega)
  have e2 : priT p = priT q := S12.priT_of fun j hj => k.d _ (by omega) (by omega)
  have e3 : S12.desV h (rOf h) p = S12.desV h (rOf h) q := des_of (k.n 0 (by decide))
  exact ⟨by rw [← k.b 2 (by decide)]; exact s.b2, by rw [← k.b 4 (by decide)]; exact s.b4, by rw [← k.b 5 (by decide)]; exact s.b5, by rw [← k.b 7 (by decide)]; exact s.b7, by rw [← k.b 8 (by decide)]; exact s.b8, by rw [← k.b 9 (by decide)]; exact s.b9, by rw [← k.b 10 (by decide)]; exact s.b10, by rw [← k.b 13 (by decide)]; exact s.b13, by rw [← k.b 14 (by decide)]; exact s.b14, by rw [← k.b 20 (by decide)]; exact s.b20, by rw [← k.b 21 (by decide)]; exact s.b21, by rw [← k.b 22 (by decide)]; exact s.b22, by rw [← k.b 24 (by decide)]; exact s.b24, by rw [← k.b 25 (by decide)]; exact s.b25, by rw [← k.b 28 (by decide)]; exact s.b28, by rw [← k.n 29 (by decide)]; exact s.n29, by rw [← k.n 30 (by decide)]; exact s.n30, by rw [← k.n 31 (by decide)]; exact s.n31, by rw [← k.n 65 (by decide)]; exact s.n65, by rw [← k.n 70 (by decide)]; exact s.n70, by rw [← k.n 72 (by decide)]; exact s.n72, by rw [← k.n 73 (by decide)]; exact s.n73, by rw [← k.n 41 (by decide)]; exact s.n41, by rw [← k.n 42 (by decide)]; exact s.n42, by rw [← e1, ← e3]; exact s.tv, by rw [← e2]; exact s.tt⟩
structure Uf (h : Hd) (fd : Int) (p : Pt) : Prop where
  b2 : p.bt 2 = true
  b4 : p.bt 4 = false
  b5 : p.bt 5 = false
  b7 : p.bt 7 = false
  b8 : p.bt 8 = false
  b9 : p.bt 9 = false
  b10 : p.bt 10 = false
  b13 : p.bt 13 = true
  b14 : p.bt 14 = false
  b20 : p.bt 20 = false
  b21 : p.bt 21 = false
  b22 : p.bt 22 = true
  b24 : p.bt 24 = false
  b25 : p.bt 25 = true
  b28 : p.bt 28 = false
  n29 : p.nm 29 = 2
  n30 : p.nm 30 = 4
  n31 : p.nm 31 = 4
  n65 : p.nm 65 = fd
  n70 : p.nm 70 = 0
  n72 : p.nm 72 = 3
  n73 : p.nm 73 = 4
  n41 : p.nm 41 = h.nm 13
  n42 : p.nm 42 = h.nm 3
  tv : pri p = S12.desV h (rOf h) p
  tt : priT p = S12.desT h (uOf h)
theorem Uf.to {h : Hd} {fd : Int} {p q : Pt} (s : Uf h fd p) (k : Vq p q) : Uf h fd q := by
  have e1 : pri p = pri q := S12.pri_of fun j hj => k.d _ (by omega) (by omega)
  have e2 : priT p = priT q := S12.priT_of fun j hj => k.d _ (by omega) (by omega)
  have e3 : S12.desV h (rOf h) p = S12.desV h (rOf h) q := des_of (k.n 0 (by decide))
  exact ⟨by rw [← k.b 2 (by decide)]; exact s.b2, by rw [← k.b 4 (by decide)]; exact s.b4, by rw [← k.b 5 (by decide)]; exact s.b5, by rw [← k.b 7 (by decide)]; exact s.b7, by rw [← k.b 8 (by decide)]; exact s.b8, by rw [← k.b 9 (by decide)]; exact s.b9, by rw [← k.b 10 (by decide)]; exact s.b10, by rw [← k.b 13 (by decide)]; exact s.b13, by rw [← k.b 14 (by decide)]; exact s.b14, by rw [← k.b 20 (by decide)]; exact s.b20, by rw [← k.b 21 (by decide)]; exact s.b21, by rw [← k.b 22 (by decide)]; exact s.b22, by rw [← k.b 24 (by decide)]; exact s.b24, by rw [← k.b 25 (by decide)]; exact s.b25, by rw [← k.b 28 (by decide)]; exact s.b28, by rw [← k.n 29 (by decide)]; exact s.n29, by rw [← k.n 30 (by decide)]; exact s.n30, by rw [← k.n 31 (by decide)]; exact s.n31, by rw [← k.n 65 (by decide)]; exact s.n65, by rw [← k.n 70 (by decide)]; exact s.n70, by rw [← k.n 72 (by decide)]; exact s.n72, by rw [← k.n 73 (by decide)]; exact s.n73, by rw [← k.n 41 (by decide)]; exact s.n41, by rw [← k.n 42 (by decide)]; exact s.n42, by rw [← e1, ← e3]; exact s.tv, by rw [← e2]; exact s.tt⟩
structure Ul (h : Hd) (fd : Int) (p : Pt) : Prop where
  b2 : p.bt 2 = true
  b4 : p.bt 4 = false
  b5 : p.bt 5 = false
  b7 : p.bt 7 = false
  b8 : p.bt 8 = false
  b9 : p.bt 9 = true
  b10 : p.bt 10 = true
  b13 : p.bt 13 = true
  b14 : p.bt 14 = false
  b20 : p.bt 20 = false
  b21 : p.bt 21 = false
  b22 : p.bt 22 = true
  b24 : p.bt 24 = false
  b25 : p.bt 25 = true
  b28 : p.bt 28 = false
  n29 : p.nm 29 = 2
  n30 : p.nm 30 = 4
  n31 : p.nm 31 = 4
  n65 : p.nm 65 = fd
  n70 : p.nm 70 = 0
  n72 : p.nm 72 = 3
  n73 : p.nm 73 = 4
  n41 : p.nm 41 = h.nm 13
  n42 : p.nm 42 = h.nm 3
  tv : pri p = S12.desV h (rOf h) p
  tt : priT p = S12.desT h (uOf h)
theorem Ul.to {h : Hd} {fd : Int} {p q : Pt} (s : Ul h fd p) (k : Vq p q) : Ul h fd q := by
  have e1 : pri p = pri q := S12.pri_of fun j hj => k.d _ (by omega) (by omega)
  have e2 : priT p = priT q := S12.priT_of fun j hj => k.d _ (by omega) (by omega)
  have e3 : S12.desV h (rOf h) p = S12.desV h (rOf h) q := des_of (k.n 0 (by decide))
  exact ⟨by rw [← k.b 2 (by decide)]; exact s.b2, by rw [← k.b 4 (by decide)]; exact s.b4, by rw [← k.b 5 (by decide)]; exact s.b5, by rw [← k.b 7 (by decide)]; exact s.b7, by rw [← k.b 8 (by decide)]; exact s.b8, by rw [← k.b 9 (by decide)]; exact s.b9, by rw [← k.b 10 (by decide)]; exact s.b10, by rw [← k.b 13 (by decide)]; exact s.b13, by rw [← k.b 14 (by decide)]; exact s.b14, by rw [← k.b 20 (by decide)]; exact s.b20, by rw [← k.b 21 (by decide)]; exact s.b21, by rw [← k.b 22 (by decide)]; exact s.b22, by rw [← k.b 24 (by decide)]; exact s.b24, by rw [← k.b 25 (by decide)]; exact s.b25, by rw [← k.b 28 (by decide)]; exact s.b28, by rw [← k.n 29 (by decide)]; exact s.n29, by rw [← k.n 30 (by decide)]; exact s.n30, by rw [← k.n 31 (by decide)]; exact s.n31, by rw [← k.n 65 (by decide)]; exact s.n65, by rw [← k.n 70 (by decide)]; exact s.n70, by rw [← k.n 72 (by decide)]; exact s.n72, by rw [← k.n 73 (by decide)]; exact s.n73, by rw [← k.n 41 (by decide)]; exact s.n41, by rw [← k.n 42 (by decide)]; exact s.n42, by rw [← e1, ← e3]; exact s.tv, by rw [← e2]; exact s.tt⟩
structure Ug (h : Hd) (fd : Int) (p : Pt) : Prop where
  b2 : p.bt 2 = true
  b4 : p.bt 4 = true
  b5 : p.bt 5 = false
  b7 : p.bt 7 = true
  b8 : p.bt 8 = true
  b9 : p.bt 9 = true
  b10 : p.bt 10 = true
  b14 : p.bt 14 = false
  b20 : p.bt 20 = false
  b21 : p.bt 21 = false
  b22 : p.bt 22 = true
  b24 : p.bt 24 = false
  b25 : p.bt 25 = true
  b28 : p.bt 28 = false
  n29 : p.nm 29 = 2
  n30 : p.nm 30 = 4
  n31 : p.nm 31 = 4
  n65 : p.nm 65 = fd
  n70 : p.nm 70 = 0
  n72 : p.nm 72 = 3
  n73 : p.nm 73 = 4
  n41 : p.nm 41 = h.nm 13
  n42 : p.nm 42 = h.nm 3
  tv : pri p = S12.desV h (rOf h) p
  tt : priT p = S12.desT h (uOf h)
theorem Ug.to {h : Hd} {fd : Int} {p q : Pt} (s : Ug h fd p) (k : Vq p q) : Ug h fd q := by
  have e1 : pri p = pri q := S12.pri_of fun j hj => k.d _ (by omega) (by omega)
  have e2 : priT p = priT q := S12.priT_of fun j hj => k.d _ (by omega) (by omega)
  have e3 : S12.desV h (rOf h) p = S12.desV h (rOf h) q := des_of (k.n 0 (by decide))
  exact ⟨by rw [← k.b 2 (by decide)]; exact s.b2, by rw [← k.b 4 (by decide)]; exact s.b4, by rw [← k.b 5 (by decide)]; exact s.b5, by rw [← k.b 7 (by decide)]; exact s.b7, by rw [← k.b 8 (by decide)]; exact s.b8, by rw [← k.b 9 (by decide)]; exact s.b9, by rw [← k.b 10 (by decide)]; exact s.b10, by rw [← k.b 14 (by decide)]; exact s.b14, by rw [← k.b 20 (by decide)]; exact s.b20, by rw [← k.b 21 (by decide)]; exact s.b21, by rw [← k.b 22 (by decide)]; exact s.b22, by rw [← k.b 24 (by decide)]; exact s.b24, by rw [← k.b 25 (by decide)]; exact s.b25, by rw [← k.b 28 (by decide)]; exact s.b28, by rw [← k.n 29 (by decide)]; exact s.n29, by rw [← k.n 30 (by decide)]; exact s.n30, by rw [← k.n 31 (by decide)]; exact s.n31, by rw [← k.n 65 (by decide)]; exact s.n65, by rw [← k.n 70 (by decide)]; exact s.n70, by rw [← k.n 72 (by decide)]; exact s.n72, by rw [← k.n 73 (by decide)]; exact s.n73, by rw [← k.n 41 (by decide)]; exact s.n41, by rw [← k.n 42 (by decide)]; exact s.n42, by rw [← e1, ← e3]; exact s.tv, by rw [← e2]; exact s.tt⟩
end S17
end
end Go.Proofs.YtlchejbggnbccaaGreat
