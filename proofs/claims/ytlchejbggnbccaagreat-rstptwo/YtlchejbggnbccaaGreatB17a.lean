/-
  Slices of rows of any kind: what they lead to, what is loaded from them, appended to them, stored into them. Plain laws over the program's types. And what follows from it here.
-/
import Derived.Test.YtlchejbggnbccaaGreatBbb
import Derived.Test.YtlchejbggnbccaaGreatB11c
import Derived.Test.YtlchejbggnbccaaGreatB12a
import Derived.Test.YtlchejbggnbccaaGreatB13e
import Derived.Test.YtlchejbggnbccaaGreatB14a
import Derived.Test.YtlchejbggnbccaaGreatB15a
import Derived.Test.YtlchejbggnbccaaGreatB9a
namespace Go.Proofs.YtlchejbggnbccaaGreat
set_option linter.unusedVariables false
set_option linter.unusedSimpArgs false
set_option maxRecDepth 4000
section
namespace S16
open Go.RowKit

structure El (α : Type) where
  f : α → Array Value
  ty : TypeId
  st : TypeId
  K : Nat
  B : Nat
structure El.Ok {α : Type} (e : El α) : Prop where
  size : ∀ x, (e.f x).size = e.K
  pos : 0 < e.K
  one : ∀ x, ∀ v ∈ (e.f x).toList, v.oneCell' = true
  slc : Tryz.prog.underlying e.st = some (.slice e.ty)
  info : ∃ z, (Tryz.prog.info? e.ty).map (fun i => (i.zero, i.size, i.bytes)) = some (some z, e.K, e.B) ∧ z.cells.size = e.K
  byt : e.B ≤ 1000
def El.fl {α : Type} (e : El α) (l : List α) : List Value := l.flatMap fun x => (e.f x).toList
section
variable {α : Type} {e : El α}
theorem El.Ok.len (k : e.Ok) (x : α) : (e.f x).toList.length = e.K := by rw [Array.length_toList, k.size]
theorem El.fl_get (k : e.Ok) : ∀ (l : List α) (t : Nat), (e.fl l)[t]? = (l[t / e.K]?).bind (fun x => (e.f x).toList[t % e.K]?)
  | [], t => by simp [El.fl]
  | x :: r, t => by
    have hp := k.pos
    unfold El.fl
    rw [List.flatMap_cons]
    by_cases h : t < e.K
    · rw [List.getElem?_append_left (by rw [k.len]; exact h), Nat.div_eq_of_lt h, Nat.mod_eq_of_lt h]
      rfl
    · have ih := El.fl_get k r (t - e.K)
      unfold El.fl at ih
      rw [List.getElem?_append_right (by rw [k.len]; omega), k.len, ih]
      have h1 : t / e.K = (t - e.K) / e.K + 1 := by
        rw [← Nat.add_div_right _ hp, Nat.sub_add_cancel (by omega)]
      have h2 : (t - e.K) % e.K = t % e.K := by
        rw [← Nat.add_mod_right, Nat.sub_add_cancel (by omega)]
      rw [h1, h2, List.getElem?_cons_succ]
theorem El.fl_len (k : e.Ok) (l : List α) : (e.fl l).length = l.length * e.K := by
  induction l with
  | nil => simp [El.fl]
  | cons x r ih =>
    unfold El.fl at ih ⊢
    rw [List.flatMap_cons, List.length_append, ih, k.len, List.length_cons, Nat.add_mul, Nat.one_mul, Nat.add_comm]
theorem El.fl_one (k : e.Ok) (l : List α) : ∀ v ∈ e.fl l, v.oneCell' = true := by
  intro v hv
  obtain ⟨x, _, hx⟩ := List.mem_flatMap.1 hv
  exact k.one x v hx
theorem El.fl_app (l m : List α) : e.fl (l ++ m) = e.fl l ++ e.fl m := by simp [El.fl]
theorem El.fl_at (k : e.Ok) {l : List α} {i j : Nat} {x : α} {v : Value} (hx : l[i]? = some x) (hv : (e.f x)[j]? = some v) : (e.fl l)[i * e.K + j]? = some v := by
  have hp := k.pos
  have hj : j < e.K := by rw [← k.size x]; exact (Array.getElem?_eq_some_iff.1 hv).1
  have d1 : (i * e.K + j) / e.K = i := by rw [Nat.mul_comm, Nat.mul_add_div hp, Nat.div_eq_of_lt hj, Nat.add_zero]
  have d2 : (i * e.K + j) % e.K = j := by rw [Nat.mul_comm, Nat.mul_add_mod, Nat.mod_eq_of_lt hj]
  rw [El.fl_get k, d1, d2, hx]
  simpa using hv
structure SlAt (e : El α) (W : World) (a : Option Addr) (n c : Nat) (l : List α) : Prop where
  len : l.length = n
  cap : n ≤ c
  max : c ≤ maxLen
  nil : a = none → n = 0 ∧ c = 0
  cells : ∀ x, a = some x → 0 < n → ∃ b o, x = ⟨b, o, none⟩ ∧ ∀ j u, (e.fl l)[j]? = some u → W.cell? ⟨b, o + j, none⟩ = some u
  soft : ∀ x, a = some x → 0 < n → ∃ cs, RvAt W x.block e.ty cs
variable {W W' : World} {a : Option Addr} {n c : Nat} {l : List α}
theorem SlAt.below (h : SlAt e W a n c l) (hb : Below W.heap.size W W') : SlAt e W' a n c l := by
  refine ⟨h.len, h.cap, h.max, h.nil, fun x hx h0 => ?_, fun x hx h0 => (h.soft x hx h0).imp fun cs r => r.below hb⟩
  obtain ⟨b, o, e, hc⟩ := h.cells x hx h0
  exact ⟨b, o, e, fun j u hj => (hb.cell (World.block_lt_of_cell? W _ (hc j u hj))).trans (hc j u hj)⟩
theorem SlAt.keptBut {row : Option Nat} (h : SlAt e W a n c l) (hg : W.grownBy W' row) (hn : ∀ x, a = some x → 0 < n → some x.block ≠ row) : SlAt e W' a n c l := by
  refine ⟨h.len, h.cap, h.max, h.nil, fun x hx h0 => ?_, fun x hx h0 => (h.soft x hx h0).imp fun cs r => r.keptBut hg (hn x hx h0)⟩
  obtain ⟨b, o, e, hc⟩ := h.cells x hx h0
  refine ⟨b, o, e, fun j u hj => ?_⟩
  subst e
  exact hg.cell (hc j u hj) (hn ⟨b, o, none⟩ hx h0)
theorem SlAt.none' (W : World) : SlAt e W none 0 0 [] := ⟨rfl, Nat.le_refl _, by simp, fun _ => ⟨rfl, rfl⟩, (fun x h => by cases h), fun x h => by cases h⟩
theorem SlAt.keptV (h : SlAt e W a n c l) {b : Nat} {t : TypeId} {cs : Array Value} (r : RvAt W b t cs) (ht : t ≠ e.ty) (hg : W.grownBy W' (some b)) : SlAt e W' a n c l := h.keptBut hg (fun x hx h0 q => by
  obtain ⟨ds, rd⟩ := h.soft x hx h0
  simp only [Option.some.injEq] at q
  rw [q] at rd
  have := rd.symm.trans r
  cases this
  exact ht rfl)
theorem SlAt.some' (h : SlAt e W a n c l) (hn : 0 < n) : ∃ b o, a = some ⟨b, o, none⟩ := by
  cases a with
  | none => have := (h.nil rfl).1; omega
  | some x =>
    obtain ⟨b, o, e, _⟩ := h.cells x rfl hn
    exact ⟨b, o, by rw [e]⟩
theorem SlAt.cell (k : e.Ok) {b o : Nat} (h : SlAt e W (some ⟨b, o, none⟩) n c l) {i j q : Nat} {x : α} {v : Value} (hx : l[i]? = some x) (hv : (e.f x)[j]? = some v) (hq : q = o + (i * e.K + j)) : W.cell? ⟨b, q, none⟩ = some v := by
  obtain ⟨b', o', e', hc⟩ := h.cells _ rfl (by rw [← h.len]; exact Nat.lt_of_le_of_lt (Nat.zero_le _) (List.getElem?_eq_some_iff.1 hx).1)
  cases e'
  rw [hq]
  exact hc _ _ (El.fl_at k hx hv)
theorem SlAt.part (k : e.Ok) {b o : Nat} (h : SlAt e W (some ⟨b, o, none⟩) n c l) {i j q : Nat} {x : α} {t : TypeId} {cs : Array Value} (hx : l[i]? = some x) (hv : ∀ r v, cs[r]? = some v → (e.f x)[j + r]? = some v) {d : TypeDesc} (hu : Tryz.prog.underlying t = some d) (hr : d.isRow = true) (hi : (Tryz.prog.info? t).map (·.size) = some cs.size) (hq : q = o + (i * e.K + j)) : (ldS t (.pointer (some ⟨b, q, none⟩))).run Tryz.prog W = .ok (.agg cs) W :=
  run_loadAt_mid W b q t cs.toList _ (fun r v hv' => h.cell k hx (hv r v (by simpa using hv')) (by rw [hq]; omega)) hu hr (by rw [Array.length_toList]; exact hi)
def Own (e : El α) (W : World) (B : Nat) (v : Value) (l : List α) : Prop := W.ownsRow B e.ty e.K v l.length (e.fl l)
variable {B : Nat} {v : Value}
theorem Own.form (h : Own e W B v l) : ∃ a c, v = .slice a l.length c ∧ SlAt e W a l.length c l ∧ ∀ x, a = some x → B ≤ x.block ∧ x.block < W.heap.size := by
  rcases h.2 with ⟨rfl, h0⟩ | ⟨g, cap, cur, rfl, hB, hb, h1, h2, h3, h4⟩
  · have : l = [] := List.eq_nil_of_length_eq_zero h0
    subst this
    exact ⟨none, 0, rfl, SlAt.none' W, fun x e => by cases e⟩
  · refine ⟨some ⟨g, 0, none⟩, cap, rfl, ⟨rfl, h1, h2, (fun e => by cases e), fun x e _ => ?_, fun x e _ => by cases e; exact ⟨cur, hb⟩⟩, fun x e => ?_⟩
    · cases e
      refine ⟨g, 0, rfl, fun j u hj => ?_⟩
      rw [Nat.zero_add]
      refine cell_at hb j u ?_
      rw [← h4, List.getElem?_take] at hj
      split at hj
      · rw [← Array.getElem?_toList]; exact hj
      · cases hj
    · cases e
      exact ⟨hB, lt_of_block hb⟩
theorem Own.nil (W : World) (B : Nat) : Own e W B (.slice none 0 0) [] := World.ownsRow_nil W B _ _
theorem Own.keptBut {row : Option Nat} (h : Own e W B v l) (hg : W.grownBy W' row) (hne : v.ownBlock = none ∨ v.ownBlock ≠ row) : Own e W' B v l := World.ownsRow.kept h hg hne
theorem Own.below (h : Own e W B v l) (hb : Below W.heap.size W W') : Own e W' B v l := by
  refine h.keptBut (grown_of_below hb none) ?_
  cases v.ownBlock <;> simp
theorem Own.blk (h : Own e W B v l) : ∀ k, v.ownBlock = some k → B ≤ k ∧ k < W.heap.size := World.ownsRow.lt h
def apS (st ty : TypeId) (xs : Array Value) : Sem Value := Builtin.append_ #[st, st] ty xs
theorem Own.app (k : e.Ok) {m : List α} (h : Own e W B v l) (hs : SlAt e W a n c m) (hl : l.length + m.length ≤ 100000) (hB : B ≤ W.heap.size) (ty : TypeId) :
    ∃ v' W', (apS e.st ty #[v, .slice a n c]).run Tryz.prog W = .ok v' W' ∧ Own e W' B v' (l ++ m) ∧ W.grownBy W' v.ownBlock := by
  obtain ⟨z, hz, hzs⟩ := k.info
  obtain ⟨i0, hi, hz0, hz1, hz2⟩ := info_parts hz
  have hby := k.byt
  unfold apS
  cases a with
  | none =>
    obtain ⟨rfl, rfl⟩ := hs.nil rfl
    have hm : m = [] := List.eq_nil_of_length_eq_zero hs.len
    subst hm
    have hrun := run_append_owned_none (P := Tryz.prog) (w := W) B e.st ty e.ty i0 e.K k.slc hi v l.length _ h
    exact ⟨v, W, hrun, by rw [List.append_nil]; exact h, World.grownBy.refl _ _⟩
  | some x =>
    by_cases hn0 : n = 0
    · subst hn0
      have hm : m = [] := List.eq_nil_of_length_eq_zero hs.len
      subst hm
      obtain ⟨v', W', hrun, h1, h2, _⟩ := run_append_own (P := Tryz.prog) W B e.st ty e.ty i0 z e.K e.B k.slc hi hz0 hz1 hz2 hzs k.pos v l.length _ h x 0 c [] (by simp)
        (fun j u hj => by cases hj) (fun u hu => by cases hu) (by unfold maxLen; omega) (by
          have : (l.length + 0) * e.B ≤ 100000 * 1000 := Nat.mul_le_mul (by omega) hby
          omega) hB
      refine ⟨v', W', hrun, ?_, h2⟩
      unfold Own
      rw [List.append_nil] at h1 ⊢
      exact h1
    obtain ⟨b, o, rfl, hc⟩ := hs.cells x rfl (by omega)
    obtain ⟨v', W', hrun, h1, h2, _⟩ := run_append_own (P := Tryz.prog) W B e.st ty e.ty i0 z e.K e.B k.slc hi hz0 hz1 hz2 hzs k.pos v l.length _ h ⟨b, o, none⟩ n c (e.fl m) (by rw [El.fl_len k, hs.len])
      (fun j u hj => by rw [Addr.add_lit]; exact hc j u hj) (El.fl_one k m) (by have := hs.len; unfold maxLen; omega) (by
        have := hs.len
        have : (l.length + n) * e.B ≤ 100000 * 1000 := Nat.mul_le_mul (by omega) hby
        omega) hB
    refine ⟨v', W', hrun, ?_, h2⟩
    unfold Own
    rw [El.fl_app, List.length_append, hs.len]
    exact h1
theorem one_new (W : World) (x : α) (k : e.Ok) : SlAt e (W.alloc (.cells (e.f x) e.ty)) (some ⟨W.heap.size, 0, none⟩) 1 1 [x] := by
  refine ⟨rfl, Nat.le_refl _, by unfold maxLen; omega, (fun e => by cases e), fun y e' _ => ?_, fun y e' _ => by cases e'; exact ⟨_, RvAt.new W _ _⟩⟩
  cases e'
  refine ⟨_, _, rfl, fun j u hj => ?_⟩
  rw [Nat.zero_add]
  refine RvAt.cell (RvAt.new W e.ty (e.f x)) j u ?_
  have : e.fl [x] = (e.f x).toList := by simp [El.fl]
  rw [this] at hj
  rw [← Array.getElem?_toList]
  exact hj
def PAt (e : El α) (W : World) (g c : Nat) (l : List α) : Prop :=
  ∃ cur : Array Value, RvAt W g e.ty cur ∧ l.length ≤ c ∧ c ≤ maxLen ∧ cur.size = c * e.K ∧ cur.toList.take (l.length * e.K) = e.fl l
variable {g : Nat}
theorem PAt.lt (h : PAt e W g c l) : g < W.heap.size := by
  obtain ⟨cur, hb, _⟩ := h
  exact hb.lt
theorem PAt.own (k : e.Ok) (h : PAt e W g c l) (hB : B ≤ g) : Own e W B (.slice (some ⟨g, 0, none⟩) l.length c) l := by
  obtain ⟨cur, hb, h1, h2, h3, h4⟩ := h
  exact ⟨El.fl_len k l, Or.inr ⟨g, c, cur, rfl, hB, hb, h1, h2, h3, h4⟩⟩
theorem Own.pat (h : Own e W B v l) : (v = .slice none 0 0 ∧ l = []) ∨ ∃ g c, v = .slice (some ⟨g, 0, none⟩) l.length c ∧ B ≤ g ∧ PAt e W g c l := by
  rcases h.2 with ⟨rfl, h0⟩ | ⟨g, cap, cur, rfl, hB, hb, h1, h2, h3, h4⟩
  · exact Or.inl ⟨rfl, List.eq_nil_of_length_eq_zero h0⟩
  · exact Or.inr ⟨g, cap, rfl, hB, cur, hb, h1, h2, h3, h4⟩
end
end S16
end
section
namespace S17
open Go.RowKit
open S14 (gtP gtP_at set_self)

abbrev Ot := S15.Ot
theorem kf6 : kdP[6]? = some none := rfl
structure Ps where
  l : List Pt
  b : Bool
  o : List Ot
  f : List Int
def opt {α : Type} : Option α → List α
  | none => []
  | some x => [x]
def stK (h : Hd) (i : Nat) (s : Ps) : Nat → Ps
  | 0 => ⟨S11.stepL s.l (i : Int), s.b || S11.stepB s.l (i : Int), s.o, s.f⟩
  | 1 => ⟨S13.stepL s.l (i : Int), s.b || S13.stepB s.l (i : Int), s.o, s.f⟩
  | 2 => ⟨s.l.set i ((S14.pstO (gtP s.l i)).getD (gtP s.l i)), s.b || (S14.pstO (gtP s.l i)).isSome, s.o, s.f⟩
  | 3 => ⟨(S14.tcmO h s.l i).getD s.l, s.b || (S14.tcmO h s.l i).isSome, s.o, s.f⟩
  | 4 => if (gtP s.l i).bt 6 = true then ⟨s.l.set i ((gtP s.l i).setB 6 kf6 false), true, s.o, s.f ++ [(i : Int)]⟩ else s
  | 5 => ⟨(S15.ppmO s.l i).getD s.l, s.b || (S15.ppmO s.l i).isSome, s.o, s.f⟩
  | 6 => ⟨(S15.ptxO h s.l i).getD s.l, s.b || (S15.ptxO h s.l i).isSome, s.o ++ opt (S15.ptxU h s.l i), s.f⟩
  | _ => s
def ptN (h : Hd) (i : Nat) : Nat → Ps → Ps
  | 0, s => s
  | k + 1, s => stK h i (ptN h i k s) k
def ptF (h : Hd) (i : Nat) (s : Ps) : Ps := ptN h i 7 s
def psN (h : Hd) : Nat → Ps → Ps
  | 0, s => s
  | m + 1, s => ptF h m (psN h m s)
structure Ts where
  h : Hd
  s : Ps
def pass (n : Nat) (t : Ts) : Ts := ⟨S12.stpH t.h t.s.l, psN (S12.stpH t.h t.s.l) n ⟨S12.stpL t.h t.s.l, S12.stpB t.h t.s.l, t.s.o, t.s.f⟩⟩
def runN (n : Nat) : Nat → Ts → Ts
  | 0, t => t
  | m + 1, t => if (pass n t).s.b = true then runN n m (pass n t) else pass n t
def start (h : Hd) (l : List Pt) : Ts := ⟨h, ⟨l, false, [], []⟩⟩
def runT (h : Hd) (l : List Pt) : Ts := runN l.length 100 (start h l)
def noteL : List Int → Int → List Int
  | [], i => [i]
  | x :: r, i => if x < i then x :: noteL r i else if x = i then x :: r else i :: x :: r
def noted (l : List Int) : List Int := l.foldl noteL []
/-! ### what is told grows -/
theorem opt_len {α : Type} (x : Option α) : (opt x).length ≤ 1 := by cases x <;> simp [opt]
theorem stK_o (h : Hd) (i : Nat) (s : Ps) (k : Nat) : (stK h i s k).o.length ≤ s.o.length + (if k = 6 then 1 else 0) ∧ (stK h i s k).f.length ≤ s.f.length + (if k = 4 then 1 else 0) := by
  match k with
  | 0 => exact ⟨by simp [stK], by simp [stK]⟩
  | 1 => exact ⟨by simp [stK], by simp [stK]⟩
  | 2 => exact ⟨by simp [stK], by simp [stK]⟩
  | 3 => exact ⟨by simp [stK], by simp [stK]⟩
  | 4 =>
    simp only [stK]
    split <;> simp
  | 5 => exact ⟨by simp [stK], by simp [stK]⟩
  | 6 =>
    have := opt_len (S15.ptxU h s.l i)
    exact ⟨by simp [stK]; omega, by simp [stK]⟩
  | k + 7 => exact ⟨by simp [stK], by simp [stK]⟩
theorem ptN_o (h : Hd) (i : Nat) (s : Ps) : ∀ k, (ptN h i k s).o.length ≤ s.o.length + (if 6 < k then 1 else 0) ∧ (ptN h i k s).f.length ≤ s.f.length + (if 4 < k then 1 else 0)
  | 0 => by simp [ptN]
  | k + 1 => by
    have h1 := ptN_o h i s k
    have h2 := stK_o h i (ptN h i k s) k
    simp only [ptN]
    constructor
    · have a := h1.1
      have b := h2.1
      split at a <;> split at b <;> split <;> omega
    · have a := h1.2
      have b := h2.2
      split at a <;> split at b <;> split <;> omega
theorem psN_o (h : Hd) (s : Ps) : ∀ m, (psN h m s).o.length ≤ s.o.length + m ∧ (psN h m s).f.length ≤ s.f.length + m
  | 0 => by simp [psN]
  | m + 1 => by
    have h1 := psN_o h s m
    have h2 := ptN_o h m (psN h m s) 7
    simp only [psN, ptF]
    simp only [show (6 < 7) = True by simp, show (4 < 7) = True by simp, if_true] at h2
    omega
end S17
end
section
namespace S17
open Go.RowKit
open S14 (gtP gtP_at set_self)

structure Ev where
  h : Hd
  l : List Pt
  o : List Ot
  f : List Int
  e : Int
def Ev.of (T : Ts) : Ev := ⟨T.h, T.s.l, T.s.o, noted T.s.f, 0⟩
def Ev.no (h : Hd) (l : List Pt) (e : Int) : Ev := ⟨h, l, [], [], e⟩
def inP (l : List Pt) (i : Int) : Prop := 0 ≤ i ∧ i < l.length
def inD (l : List Pt) (i : Int) : Decidable (inP l i) := decidable_of_iff (0 ≤ i ∧ i < l.length) Iff.rfl
def evUp (h : Hd) (l : List Pt) (i : Int) (on : Bool) : Ev := @ite _ (inP l i) (inD l i) (if (gtP l i.toNat).bt 2 = on then Ev.no h l 0 else Ev.of (runT h (S9.upL l i on))) (Ev.no h l 5)
def evTick (h : Hd) (l : List Pt) : Ev := Ev.of (runT h (l.map S9.tickP))
def evHear (h : Hd) (l : List Pt) (i : Int) (m : Mg) : Ev := @ite _ (inP l i) (inD l i) (if m.nm 0 = 1 ∨ m.nm 0 = 2 ∨ m.nm 0 = 3 then Ev.of (runT h (S11.hearL l i m)) else Ev.no h l 170) (Ev.no h l 5)
theorem upL_len (l : List Pt) (i : Int) (b : Bool) : (S9.upL l i b).length = l.length := by
  unfold S9.upL
  split
  · rw [List.length_set]
  · rfl
theorem evUp_out {h : Hd} {l : List Pt} {i : Int} {on : Bool} (hi : ¬ inP l i) : evUp h l i on = Ev.no h l 5 := @if_neg _ (inD l i) hi _ _ _
theorem evUp_same {h : Hd} {l : List Pt} {k : Nat} {on : Bool} (hk : k < l.length) (hb : (gtP l k).bt 2 = on) : evUp h l (k : Int) on = Ev.no h l 0 := by
  have : evUp h l (k : Int) on = _ := @if_pos _ (inD l k) ⟨by omega, by omega⟩ _ _ _
  rw [this, Int.toNat_natCast, if_pos hb]
theorem evUp_go {h : Hd} {l : List Pt} {k : Nat} {on : Bool} (hk : k < l.length) (hb : (gtP l k).bt 2 ≠ on) : evUp h l (k : Int) on = Ev.of (runT h (S9.upL l (k : Int) on)) := by
  have : evUp h l (k : Int) on = _ := @if_pos _ (inD l k) ⟨by omega, by omega⟩ _ _ _
  rw [this, Int.toNat_natCast, if_neg hb]
theorem evHear_out {h : Hd} {l : List Pt} {i : Int} {m : Mg} (hi : ¬ inP l i) : evHear h l i m = Ev.no h l 5 := @if_neg _ (inD l i) hi _ _ _
theorem evHear_go {h : Hd} {l : List Pt} {i : Int} {m : Mg} (hi : inP l i) (hm : m.nm 0 = 1 ∨ m.nm 0 = 2 ∨ m.nm 0 = 3) : evHear h l i m = Ev.of (runT h (S11.hearL l i m)) := by
  have : evHear h l i m = _ := @if_pos _ (inD l i) hi _ _ _
  rw [this, if_pos hm]
theorem evHear_no {h : Hd} {l : List Pt} {i : Int} {m : Mg} (hi : inP l i) (hm : ¬ (m.nm 0 = 1 ∨ m.nm 0 = 2 ∨ m.nm 0 = 3)) : evHear h l i m = Ev.no h l 170 := by
  have : evHear h l i m = _ := @if_pos _ (inD l i) hi _ _ _
  rw [this, if_neg hm]
end S17
end
section
namespace S17
open Go.RowKit

def Ro (x y m n : Int) : Prop := (m = 0 ∧ n = 0) ∨ (m = 1 ∧ n = x) ∨ (m = 2 ∧ n = y)
structure Tw (x y : Int) : Prop where
  pos : 0 < x
  lt : x < y
  ax : x % 281474976710656 ≠ 0
  ay : y % 281474976710656 ≠ 0
  ne : x % 281474976710656 ≠ y % 281474976710656
theorem Ro.lt {x y m n m' n' : Int} (t : Tw x y) (h : Ro x y m n) (k : Ro x y m' n') : (m < m') ↔ (n < n') := by
  have := t.pos
  have := t.lt
  rcases h with ⟨rfl, rfl⟩ | ⟨rfl, rfl⟩ | ⟨rfl, rfl⟩ <;> rcases k with ⟨rfl, rfl⟩ | ⟨rfl, rfl⟩ | ⟨rfl, rfl⟩ <;> omega
theorem Ro.eq {x y m n m' n' : Int} (t : Tw x y) (h : Ro x y m n) (k : Ro x y m' n') : (m = m') ↔ (n = n') := by
  have := t.pos
  have := t.lt
  rcases h with ⟨rfl, rfl⟩ | ⟨rfl, rfl⟩ | ⟨rfl, rfl⟩ <;> rcases k with ⟨rfl, rfl⟩ | ⟨rfl, rfl⟩ | ⟨rfl, rfl⟩ <;> omega
theorem Ro.ad {x y m n m' n' : Int} (t : Tw x y) (h : Ro x y m n) (k : Ro x y m' n') : (m % 281474976710656 = m' % 281474976710656) ↔ (n % 281474976710656 = n' % 281474976710656) := by
  have := t.ax
  have := t.ay
  have := t.ne
  rcases h with ⟨rfl, rfl⟩ | ⟨rfl, rfl⟩ | ⟨rfl, rfl⟩ <;> rcases k with ⟨rfl, rfl⟩ | ⟨rfl, rfl⟩ | ⟨rfl, rfl⟩ <;> omega
structure Rl (x y : Int) {ks : List (Option IntKind)} (r q : Row ks) : Prop where
  id : ∀ j : Nat, ks[j]? = some (some .u64) → Ro x y (r.nm j) (q.nm j)
  eq : ∀ j : Nat, ks[j]? ≠ some (some .u64) → r.cl[j]? = q.cl[j]?
variable {x y : Int}
theorem Rl.bt {ks : List (Option IntKind)} {r q : Row ks} (h : Rl x y r q) (j : Nat) : r.bt j = q.bt j := by
  by_cases e : ks[j]? = some (some .u64)
  · have h1 := r.num e
    have h2 := q.num e
    simp [Row.bt, h1, h2]
  · simp only [Row.bt, h.eq j e]
theorem Rl.nm {ks : List (Option IntKind)} {r q : Row ks} (h : Rl x y r q) {j : Nat} (e : ks[j]? ≠ some (some .u64)) : r.nm j = q.nm j := by simp only [Row.nm, h.eq j e]
theorem Rl.zero (ks : List (Option IntKind)) : Rl x y (zeroR ks) (zeroR ks) := by
  refine ⟨fun j hj => Or.inl ?_, fun j _ => rfl⟩
  have : (zeroR ks).nm j = 0 := by
    simp [Row.nm, zeroR, hj, zeroV]
  exact ⟨this, this⟩
theorem nm_cell {ks : List (Option IntKind)} {r q : Row ks} {i : Nat} (h : r.cl[i]? = q.cl[i]?) : r.nm i = q.nm i := by unfold Row.nm; rw [h]
theorem Rl.set {ks : List (Option IntKind)} {r q : Row ks} (h : Rl x y r q) {j : Nat} {v : Value} (e : ks[j]? ≠ some (some .u64)) (f g : ∀ k, ks[j]? = some k → Fit k v) : Rl x y (r.set j v f) (q.set j v g) := by
  have l1 := r.len
  have l2 := q.len
  have c1 : ∀ i, j ≠ i → (r.set j v f).cl[i]? = r.cl[i]? := fun i hi => by
    show (r.cl.set j v)[i]? = _
    rw [List.getElem?_set, if_neg hi]
  have c2 : ∀ i, j ≠ i → (q.set j v g).cl[i]? = q.cl[i]? := fun i hi => by
    show (q.cl.set j v)[i]? = _
    rw [List.getElem?_set, if_neg hi]
  refine ⟨fun i hi => ?_, fun i hi => ?_⟩
  · have hn : j ≠ i := fun e' => e (e' ▸ hi)
    rw [nm_cell (c1 i hn), nm_cell (c2 i hn)]
    exact h.id i hi
  · by_cases hn : j = i
    · subst hn
      show (r.cl.set j v)[j]? = (q.cl.set j v)[j]?
      rw [List.getElem?_set, List.getElem?_set, if_pos rfl, if_pos rfl, l1, l2]
    · rw [c1 i hn, c2 i hn]
      exact h.eq i hi
theorem Rl.setB {ks : List (Option IntKind)} {r q : Row ks} {j : Nat} {k : ks[j]? = some none} {b c : Bool} (h : Rl x y r q) (e : b = c) : Rl x y (r.setB j k b) (q.setB j k c) := by
  subst e
  exact h.set (by rw [k]; simp) _ _
theorem Rl.setN {ks : List (Option IntKind)} {r q : Row ks} {j : Nat} {k : ks[j]? = some (some .i64)} {m n : Int} {hw : (Lit.int .i64 m).wf = true} {hv : (Lit.int .i64 n).wf = true} (h : Rl x y r q) (e : m = n) : Rl x y (r.setN j k m hw) (q.setN j k n hv) := by
  subst e
  exact h.set (by rw [k]; simp) _ _
theorem Rl.setU {ks : List (Option IntKind)} {r q : Row ks} {j : Nat} {m n : Int} (h : Rl x y r q) (e : m = n) : Rl x y (r.setU j m) (q.setU j n) := by
  subst e
  unfold Row.setU
  by_cases c : ks[j]? = some (some .u8) ∧ (Lit.int .u8 m).wf = true
  · rw [dif_pos c, dif_pos c]
    exact h.set (by rw [c.1]; simp) _ _
  · rw [dif_neg c, dif_neg c]
    exact h
theorem Rl.setH {ks : List (Option IntKind)} {r q : Row ks} {j : Nat} {m n : Int} (h : Rl x y r q) (e : m = n) : Rl x y (r.setH j m) (q.setH j n) := by
  subst e
  unfold Row.setH
  by_cases c : ks[j]? = some (some .u16) ∧ (Lit.int .u16 m).wf = true
  · rw [dif_pos c, dif_pos c]
    exact h.set (by rw [c.1]; simp) _ _
  · rw [dif_neg c, dif_neg c]
    exact h
theorem Rl.put {ks ks' : List (Option IntKind)} {r q : Row ks} {o : Nat} {s s' : Row ks'} {e : (ks.drop o).take ks'.length = ks'} {el : o + ks'.length ≤ ks.length} (h : Rl x y r q) (k : Rl x y s s') : Rl x y (r.put o s e el) (q.put o s' e el) := by
  have kd : ∀ i, o ≤ i → i < o + ks'.length → ks'[i - o]? = ks[i]? := fun i h1 h2 => by
    have := congrArg (fun z => z[i - o]?) e
    simp only [List.getElem?_take, List.getElem?_drop] at this
    rw [← this, if_pos (by omega), show o + (i - o) = i by omega]
  refine ⟨fun i hi => ?_, fun i hi => ?_⟩
  · by_cases c : o ≤ i ∧ i < o + ks'.length
    · have e1 : (r.put o s e el).nm i = s.nm (i - o) := by unfold Row.nm; rw [r.put_get, if_pos c]
      have e2 : (q.put o s' e el).nm i = s'.nm (i - o) := by unfold Row.nm; rw [q.put_get, if_pos c]
      rw [e1, e2]
      exact k.id _ (by rw [kd i c.1 c.2]; exact hi)
    · have e1 : (r.put o s e el).nm i = r.nm i := by unfold Row.nm; rw [r.put_get, if_neg c]
      have e2 : (q.put o s' e el).nm i = q.nm i := by unfold Row.nm; rw [q.put_get, if_neg c]
      rw [e1, e2]
      exact h.id _ hi
  · rw [r.put_get, q.put_get]
    by_cases c : o ≤ i ∧ i < o + ks'.length
    · rw [if_pos c, if_pos c]
      exact k.eq _ (by rw [kd i c.1 c.2]; exact hi)
    · rw [if_neg c, if_neg c]
      exact h.eq _ hi
theorem Rl.ite {ks : List (Option IntKind)} {c d : Prop} {hc : Decidable c} {hd : Decidable d} {a b a' b' : Row ks} (e : c ↔ d) (h : Rl x y a a') (k : Rl x y b b') : Rl x y (@ite _ c hc a b) (@ite _ d hd a' b') := by
  by_cases z : c
  · rw [if_pos z, if_pos (e.1 z)]; exact h
  · rw [if_neg z, if_neg (fun w => z (e.2 w))]; exact k
theorem dr (l : List Value) {o n j : Nat} (h : j < n) : ((l.drop o).take n)[j]? = l[o + j]? := by rw [List.getElem?_take, if_pos h, List.getElem?_drop]
theorem Rl.part {ks ks' : List (Option IntKind)} {r q : Row ks} {s s' : Row ks'} (h : Rl x y r q) (o : Nat) (hk : ∀ j, j < ks'.length → ks'[j]? = ks[o + j]?) (h1 : ∀ j, j < ks'.length → s.cl[j]? = r.cl[o + j]?) (h2 : ∀ j, j < ks'.length → s'.cl[j]? = q.cl[o + j]?) : Rl x y s s' := by
  refine ⟨fun j hj => ?_, fun j hj => ?_⟩
  · have lj : j < ks'.length := (List.getElem?_eq_some_iff.1 hj).1
    have e1 : s.nm j = r.nm (o + j) := by unfold Row.nm; rw [h1 j lj]
    have e2 : s'.nm j = q.nm (o + j) := by unfold Row.nm; rw [h2 j lj]
    rw [e1, e2]
    exact h.id _ (by rw [← hk j lj]; exact hj)
  · by_cases lj : j < ks'.length
    · rw [h1 j lj, h2 j lj]
      exact h.eq _ (by rw [← hk j lj]; exact hj)
    · rw [List.getElem?_eq_none (by rw [s.len]; omega), List.getElem?_eq_none (by rw [s'.len]; omega)]
theorem Rl.dsg {p q : Pt} (h : Rl x y p q) : Rl x y (dsg p) (dsg q) := h.part 32 (by decide) (fun j hj => dr _ hj) (fun j hj => dr _ hj)
theorem Rl.pri {p q : Pt} (h : Rl x y p q) : Rl x y (pri p) (pri q) := h.part 36 (by decide) (fun j hj => dr _ hj) (fun j hj => dr _ hj)
theorem Rl.mV {p q : Pt} (h : Rl x y p q) : Rl x y (mV p) (mV q) := h.part 56 (by decide) (fun j hj => dr _ hj) (fun j hj => dr _ hj)
theorem Rl.msg {p q : Pt} (h : Rl x y p q) : Rl x y (msg p) (msg q) := h.part 48 (by decide) (fun j hj => dr _ hj) (fun j hj => dr _ hj)
theorem Rl.rOf {p q : Hd} (h : Rl x y p q) : Rl x y (rOf p) (rOf q) := h.part 8 (by decide) (fun j hj => dr _ hj) (fun j hj => dr _ hj)
theorem Rl.tm {t u : Tm} (h : Rl x y t u) : t = u := Row.ext' (List.ext_getElem? fun j => h.eq j (by
  match j with
  | 0 => decide
  | 1 => decide
  | 2 => decide
  | 3 => decide
  | n + 4 => simp [kdT]))
theorem Rl.refl (t : Tm) : Rl x y t t := ⟨fun j hj => by
  match j with
  | 0 => cases hj
  | 1 => cases hj
  | 2 => cases hj
  | 3 => cases hj
  | n + 4 => simp [kdT] at hj, fun j _ => rfl⟩
theorem Rl.tme {t u : Tm} (h : t = u) : Rl x y t u := h ▸ Rl.refl t
theorem Rl.priT {p q : Pt} (h : Rl x y p q) : priT p = priT q := (h.part (s := Go.Proofs.YtlchejbggnbccaaGreat.priT p) (s' := Go.Proofs.YtlchejbggnbccaaGreat.priT q) 44 (by decide) (fun j hj => dr _ hj) (fun j hj => dr _ hj)).tm
theorem Rl.mT {p q : Pt} (h : Rl x y p q) : mT p = mT q := (h.part (s := Go.Proofs.YtlchejbggnbccaaGreat.mT p) (s' := Go.Proofs.YtlchejbggnbccaaGreat.mT q) 60 (by decide) (fun j hj => dr _ hj) (fun j hj => dr _ hj)).tm
theorem Rl.dsT {p q : Pt} (h : Rl x y p q) : S15.dsT p = S15.dsT q := (h.part (s := S15.dsT p) (s' := S15.dsT q) 40 (by decide) (fun j hj => dr _ hj) (fun j hj => dr _ hj)).tm
theorem Rl.dsT1 {p q : Pt} (h : Rl x y p q) : S11.dsgT p = S11.dsgT q := h.dsT
theorem Rl.dsT2 {p q : Pt} (h : Rl x y p q) : S12.dsgT p = S12.dsgT q := h.dsT
theorem Rl.uOf {p q : Hd} (h : Rl x y p q) : uOf p = uOf q := (h.part (s := Go.Proofs.YtlchejbggnbccaaGreat.uOf p) (s' := Go.Proofs.YtlchejbggnbccaaGreat.uOf q) 12 (by decide) (fun j hj => dr _ hj) (fun j hj => dr _ hj)).tm
theorem Rl.tOfH {p q : Hd} (h : Rl x y p q) : tOfH p = tOfH q := (h.part (s := Go.Proofs.YtlchejbggnbccaaGreat.tOfH p) (s' := Go.Proofs.YtlchejbggnbccaaGreat.tOfH q) 1 (by decide) (fun j hj => dr _ hj) (fun j hj => dr _ hj)).tm
theorem Rl.four {a b c d a' b' c' d' : Int} {f : Fits kdV [.int .u64 a, .int .u32 b, .int .u64 c, .int .u16 d]} {g : Fits kdV [.int .u64 a', .int .u32 b', .int .u64 c', .int .u16 d']} (h0 : Ro x y a a') (h1 : b = b') (h2 : Ro x y c c') (h3 : d = d') : Rl x y (⟨_, f⟩ : Vc) ⟨_, g⟩ := by
  subst h1 h3
  refine ⟨fun j hj => ?_, fun j hj => ?_⟩
  · match j with
    | 0 => exact h0
    | 1 => cases hj
    | 2 => exact h2
    | 3 => cases hj
    | n + 4 => simp [kdV] at hj
  · match j with
    | 0 => exact absurd rfl hj
    | 1 => rfl
    | 2 => exact absurd rfl hj
    | 3 => rfl
    | n + 4 => rfl
theorem Rl.veq (t : Tw x y) {a b a' b' : Vc} (h : Rl x y a a') (k : Rl x y b b') : a.eq b = a'.eq b' := by
  rw [Bool.eq_iff_iff, Row.eq_iff, Row.eq_iff]
  have num : ∀ {a b : Vc}, a = b ↔ (a.nm 0 = b.nm 0 ∧ a.nm 1 = b.nm 1 ∧ a.nm 2 = b.nm 2 ∧ a.nm 3 = b.nm 3) := fun {a b} => by
    constructor
    · rintro rfl; exact ⟨rfl, rfl, rfl, rfl⟩
    · rintro ⟨e0, e1, e2, e3⟩
      refine Row.ext' (List.ext_getElem? fun j => ?_)
      match j with
      | 0 => rw [a.num (k := .u64) rfl, b.num (k := .u64) rfl, e0]
      | 1 => rw [a.num (k := .u32) rfl, b.num (k := .u32) rfl, e1]
      | 2 => rw [a.num (k := .u64) rfl, b.num (k := .u64) rfl, e2]
      | 3 => rw [a.num (k := .u16) rfl, b.num (k := .u16) rfl, e3]
      | n + 4 => rw [List.getElem?_eq_none (by rw [a.len]; show 4 ≤ _; omega), List.getElem?_eq_none (by rw [b.len]; show 4 ≤ _; omega)]
  rw [num, num, (h.id 0 rfl).eq t (k.id 0 rfl), (h.id 2 rfl).eq t (k.id 2 rfl), h.nm (j := 1) (by decide), h.nm (j := 3) (by decide), k.nm (j := 1) (by decide), k.nm (j := 3) (by decide)]
theorem ite_eq {α : Type} {c d : Prop} {hc : Decidable c} {hd : Decidable d} {a b a' b' : α} (e : c ↔ d) (h : a = a') (k : b = b') : (@ite _ c hc a b) = (@ite _ d hd a' b') := by
  by_cases z : c
  · rw [if_pos z, if_pos (e.1 z)]; exact h
  · rw [if_neg z, if_neg (fun w => z (e.2 w))]; exact k
theorem Rl.cmp1 (t : Tw x y) {a b a' b' : Vc} (h : Rl x y a a') (k : Rl x y b b') : S11.cmpV (S11.v4 a) (S11.v4 b) = S11.cmpV (S11.v4 a') (S11.v4 b') := by
  have e1 := h.nm (j := 1) (by decide)
  have e3 := h.nm (j := 3) (by decide)
  have f1 := k.nm (j := 1) (by decide)
  have f3 := k.nm (j := 3) (by decide)
  unfold S11.cmpV S11.v4
  exact ite_eq ((h.id 0 rfl).lt t (k.id 0 rfl)) rfl (ite_eq ((k.id 0 rfl).lt t (h.id 0 rfl)) rfl (ite_eq (by rw [e1, f1]) rfl (ite_eq (by rw [e1, f1]) rfl (ite_eq ((h.id 2 rfl).lt t (k.id 2 rfl)) rfl (ite_eq ((k.id 2 rfl).lt t (h.id 2 rfl)) rfl (ite_eq (by rw [e3, f3]) rfl (ite_eq (by rw [e3, f3]) rfl rfl)))))))
theorem Rl.cmp2 (t : Tw x y) {a b a' b' : Vc} (h : Rl x y a a') (k : Rl x y b b') : S12.cmpV (S12.v4 a) (S12.v4 b) = S12.cmpV (S12.v4 a') (S12.v4 b') := by
  have e1 := h.nm (j := 1) (by decide)
  have e3 := h.nm (j := 3) (by decide)
  have f1 := k.nm (j := 1) (by decide)
  have f3 := k.nm (j := 3) (by decide)
  unfold S12.cmpV S12.v4
  exact ite_eq ((h.id 0 rfl).lt t (k.id 0 rfl)) rfl (ite_eq ((k.id 0 rfl).lt t (h.id 0 rfl)) rfl (ite_eq (by rw [e1, f1]) rfl (ite_eq (by rw [e1, f1]) rfl (ite_eq ((h.id 2 rfl).lt t (k.id 2 rfl)) rfl (ite_eq ((k.id 2 rfl).lt t (h.id 2 rfl)) rfl (ite_eq (by rw [e3, f3]) rfl (ite_eq (by rw [e3, f3]) rfl rfl)))))))
theorem Rl.bet1 (t : Tw x y) {a b a' b' : Vc} (h : Rl x y a a') (k : Rl x y b b') : S11.bet a b = S11.bet a' b' := by simp only [S11.bet, S11.betV, h.cmp1 t k]
theorem Rl.bet2 (t : Tw x y) {a b a' b' : Vc} (h : Rl x y a a') (k : Rl x y b b') : S12.bet a b = S12.bet a' b' := by simp only [S12.bet, S12.betV, h.cmp2 t k]
theorem Rl.sup1 (t : Tw x y) {a b a' b' : Vc} (h : Rl x y a a') (k : Rl x y b b') : S11.sup a b = S11.sup a' b' := by
  have e : S11.betV (S11.v4 a) (S11.v4 b) = S11.betV (S11.v4 a') (S11.v4 b') := h.bet1 t k
  have e3 := h.nm (j := 3) (by decide)
  have f3 := k.nm (j := 3) (by decide)
  have d : decide (a.nm 2 % 281474976710656 = b.nm 2 % 281474976710656) = decide (a'.nm 2 % 281474976710656 = b'.nm 2 % 281474976710656) := decide_eq_decide.2 ((h.id 2 rfl).ad t (k.id 2 rfl))
  show (S11.betV (S11.v4 a) (S11.v4 b) || (decide (a.nm 2 % 281474976710656 = b.nm 2 % 281474976710656) && decide (a.nm 3 % 4096 = b.nm 3 % 4096))) = (S11.betV (S11.v4 a') (S11.v4 b') || (decide (a'.nm 2 % 281474976710656 = b'.nm 2 % 281474976710656) && decide (a'.nm 3 % 4096 = b'.nm 3 % 4096)))
  rw [e, d, e3, f3]
end S17
end
section
namespace S17
open Go.RowKit

variable {x y : Int}
structure LR (x y : Int) (l m : List Pt) : Prop where
  len : l.length = m.length
  at' : ∀ i, Rl x y (l.getD i zeroP) (m.getD i zeroP)
theorem LR.set {l m : List Pt} {p q : Pt} (h : LR x y l m) (i : Nat) (k : Rl x y p q) : LR x y (l.set i p) (m.set i q) := by
  refine ⟨by rw [List.length_set, List.length_set, h.len], fun j => ?_⟩
  have e := h.at' j
  have hl := h.len
  simp only [List.getD_eq_getElem?_getD, List.getElem?_set] at e ⊢
  by_cases c : i = j
  · subst c
    by_cases d : i < l.length
    · rw [if_pos rfl, if_pos d, if_pos rfl, if_pos (by omega)]; exact k
    · rw [if_pos rfl, if_neg d, if_pos rfl, if_neg (by omega)]; exact Rl.zero kdP
  · rw [if_neg c, if_neg c]; exact e
theorem LR.mapIdx {l m : List Pt} {f g : Nat → Pt → Pt} (h : LR x y l m) (k : ∀ i p q, Rl x y p q → Rl x y (f i p) (g i q)) : LR x y (l.mapIdx f) (m.mapIdx g) := by
  refine ⟨by simp [h.len], fun j => ?_⟩
  have e := h.at' j
  have hl := h.len
  simp only [List.getD_eq_getElem?_getD, List.getElem?_mapIdx] at e ⊢
  by_cases d : j < l.length
  · rw [List.getElem?_eq_getElem d, List.getElem?_eq_getElem (show j < m.length by omega)] at e ⊢
    exact k _ _ _ e
  · rw [List.getElem?_eq_none (by omega), List.getElem?_eq_none (by omega)]
    exact Rl.zero kdP
theorem LR.map {l m : List Pt} {f : Pt → Pt} (h : LR x y l m) (k : ∀ p q, Rl x y p q → Rl x y (f p) (f q)) : LR x y (l.map f) (m.map f) := by
  refine ⟨by simp [h.len], fun j => ?_⟩
  have e := h.at' j
  have hl := h.len
  simp only [List.getD_eq_getElem?_getD, List.getElem?_map] at e ⊢
  by_cases d : j < l.length
  · rw [List.getElem?_eq_getElem d, List.getElem?_eq_getElem (show j < m.length by omega)] at e ⊢
    exact k _ _ e
  · rw [List.getElem?_eq_none (by omega), List.getElem?_eq_none (by omega)]
    exact Rl.zero kdP
theorem LR.ite {c d : Prop} {hc : Decidable c} {hd : Decidable d} {a b a' b' : List Pt} (e : c ↔ d) (h : LR x y a a') (k : LR x y b b') : LR x y (@ite _ c hc a b) (@ite _ d hd a' b') := by
  by_cases z : c
  · rw [if_pos z, if_pos (e.1 z)]; exact h
  · rw [if_neg z, if_neg (fun w => z (e.2 w))]; exact k
def OL (x y : Int) : Option (List Pt) → Option (List Pt) → Prop
  | none, none => True
  | some l, some m => LR x y l m
  | _, _ => False
theorem OL.is {o u : Option (List Pt)} (h : OL x y o u) : o.isSome = u.isSome := by
  cases o <;> cases u <;> first | rfl | exact h.elim
theorem OL.get {o u : Option (List Pt)} {l m : List Pt} (h : OL x y o u) (k : LR x y l m) : LR x y (o.getD l) (u.getD m) := by
  cases o <;> cases u <;> first | exact h | exact k | exact h.elim
theorem OL.ite {c d : Prop} {hc : Decidable c} {hd : Decidable d} {a b a' b' : Option (List Pt)} (e : c ↔ d) (h : OL x y a a') (k : OL x y b b') : OL x y (@ite _ c hc a b) (@ite _ d hd a' b') := by
  by_cases z : c
  · rw [if_pos z, if_pos (e.1 z)]; exact h
  · rw [if_neg z, if_neg (fun w => z (e.2 w))]; exact k
theorem OL.none : OL x y none none := trivial
/-! ### stage 11: information -/
theorem f_bos (t : Tw x y) {p q : Pt} (h : Rl x y p q) (is : Int) : S11.bosP p is = S11.bosP q is := by
  unfold S11.bosP
  rw [h.nm (j := 29) (by decide), h.pri.bet1 t h.mV, h.pri.bet1 t h.dsg]
theorem f_prop {p q : Pt} (h : Rl x y p q) : Rl x y (S11.propP p) (S11.propP q) := by
  unfold S11.propP S11.propB
  exact Rl.ite (by simp (disch := decide) only [h.bt, h.nm]) (h.setB rfl) h
theorem f_agr {p q : Pt} (h : Rl x y p q) : Rl x y (S11.agrP p) (S11.agrP q) := by
  unfold S11.agrP S11.agrB
  exact Rl.ite (by simp (disch := decide) only [h.bt, h.nm]) ((h.setB rfl).setB rfl) (h.setB rfl)
theorem f_disp {p q : Pt} (h : Rl x y p q) : Rl x y (S11.dispP p) (S11.dispP q) := by
  unfold S11.dispP S11.dispB
  exact Rl.ite (by simp (disch := decide) only [h.bt, h.nm]) ((h.setB rfl).setB rfl) h
theorem f_tc {p q : Pt} (h : Rl x y p q) : Rl x y (S11.tcP p) (S11.tcP q) := h.setB (by rw [h.bt, h.bt])
theorem f_ack {p q : Pt} (h : Rl x y p q) : Rl x y (S11.ackP p) (S11.ackP q) := h.setB (by rw [h.bt, h.bt])
theorem f_flag {p q : Pt} (h : Rl x y p q) : Rl x y (S11.flagP p) (S11.flagP q) := by
  unfold S11.flagP
  rw [h.nm (j := 48) (by decide)]
  exact Rl.ite Iff.rfl (h.setB rfl) (Rl.ite Iff.rfl (f_tc (f_ack h)) (Rl.ite Iff.rfl (f_tc h) h))
theorem f_prio {p q : Pt} (h : Rl x y p q) : Rl x y (S11.prioP p) (S11.prioP q) := h.put h.mV
theorem f_timQ {p q : Pt} (h : Rl x y p q) : Rl x y (S11.timQ p) (S11.timQ q) := h.put (Rl.tme h.mT)
theorem f_tim {p q : Pt} (h : Rl x y p q) : Rl x y (S11.timP p) (S11.timP q) := by
  unfold S11.timP
  rw [h.nm (j := 62) (by decide)]
  exact Rl.ite Iff.rfl ((f_timQ h).setU rfl) (f_timQ h)
theorem f_whi {p q : Pt} (h : Rl x y p q) : Rl x y (S11.whiP p) (S11.whiP q) := h.setU (by unfold S11.whiN; simp (disch := decide) only [h.nm])
theorem f_rsl {p q : Pt} (h : Rl x y p q) : Rl x y (S11.rslP p) (S11.rslP q) := (h.setB rfl).setB rfl
theorem f_dis {p q : Pt} (h : Rl x y p q) : Rl x y (S11.disP p) (S11.disP q) := f_rsl ((((((((h.setB rfl).setB rfl).setB rfl).setB rfl).setB rfl).setU rfl).setN rfl).setN rfl)
theorem f_agd {p q : Pt} (h : Rl x y p q) : Rl x y (S11.agdP p) (S11.agdP q) := f_rsl ((h.setN rfl).setN rfl)
theorem f_updA (t : Tw x y) {p q : Pt} (h : Rl x y p q) : Rl x y (S11.updA p) (S11.updA q) := h.setB (by rw [h.bt, f_bos t h])
theorem f_syn {p q : Pt} (h : Rl x y p q) : Rl x y (S11.synP p) (S11.synP q) := h.setB (by rw [h.bt, h.bt])
theorem f_clr {p q : Pt} (h : Rl x y p q) : Rl x y (S11.clrP p) (S11.clrP q) := (h.setB rfl).setB rfl
theorem f_own {p q : Pt} (h : Rl x y p q) : Rl x y (S11.ownP p) (S11.ownP q) := (h.put h.dsg).put (Rl.tme h.dsT1)
theorem f_cur {p q : Pt} (h : Rl x y p q) : Rl x y (S11.curP p) (S11.curP q) := (((h.setB rfl).setB rfl).setN rfl).setN rfl
theorem f_upd (t : Tw x y) {p q : Pt} (h : Rl x y p q) : Rl x y (S11.updP p) (S11.updP q) := f_cur (f_own (f_clr (f_syn (f_updA t h))))
theorem f_d1 {p q : Pt} (h : Rl x y p q) : Rl x y (S11.d1P p) (S11.d1P q) := (h.setB rfl).setB rfl
theorem f_d2 (t : Tw x y) {p q : Pt} (h : Rl x y p q) : Rl x y (S11.d2P p) (S11.d2P q) := h.setB (by rw [h.bt, f_bos t h])
theorem f_d4 {p q : Pt} (h : Rl x y p q) : Rl x y (S11.d4P p) (S11.d4P q) := f_rsl (h.setN rfl)
theorem f_oth {p q : Pt} (h : Rl x y p q) : Rl x y (S11.othP p) (S11.othP q) := by
  unfold S11.othP
  rw [h.nm (j := 48) (by decide)]
  exact Rl.ite Iff.rfl (f_flag h) h
theorem f_sup (t : Tw x y) {p q : Pt} (h : Rl x y p q) : Rl x y (S11.supP p) (S11.supP q) := f_d4 (f_whi (f_tim (f_prio (f_syn (f_agr (f_d2 t (f_flag (f_prop (f_d1 h)))))))))
theorem f_inf (t : Tw x y) {p q : Pt} (h : Rl x y p q) : S11.infP p = S11.infP q := by
  unfold S11.infP S11.ofDes S11.samP S11.desM S11.othM
  rw [h.mV.sup1 t h.pri, h.mV.bet1 t h.pri, h.mV.veq t h.pri, h.mT, h.priT, h.msg.nm (j := 0) (by decide), h.msg.nm (j := 7) (by decide)]
theorem f_rec (t : Tw x y) {p q : Pt} (h : Rl x y p q) : Rl x y (S11.recP p) (S11.recP q) := by
  unfold S11.recP S11.recQ
  rw [f_inf t h]
  exact Rl.setB (Rl.ite Iff.rfl (f_sup t h) (Rl.ite Iff.rfl (f_whi (f_agr (f_flag (f_prop h)))) (Rl.ite Iff.rfl (f_disp h) (Rl.ite Iff.rfl (f_flag (f_agr h)) (f_oth h))))) rfl
def OP (x y : Int) : Option Pt → Option Pt → Prop
  | none, none => True
  | some l, some m => Rl x y l m
  | _, _ => False
theorem OP.is {o u : Option Pt} (h : OP x y o u) : o.isSome = u.isSome := by
  cases o <;> cases u <;> first | rfl | exact h.elim
theorem OP.get {o u : Option Pt} {l m : Pt} (h : OP x y o u) (k : Rl x y l m) : Rl x y (o.getD l) (u.getD m) := by
  cases o <;> cases u <;> first | exact h | exact k | exact h.elim
theorem OP.ite {c d : Prop} {hc : Decidable c} {hd : Decidable d} {a b a' b' : Option Pt} (e : c ↔ d) (h : OP x y a a') (k : OP x y b b') : OP x y (@ite _ c hc a b) (@ite _ d hd a' b') := by
  by_cases z : c
  · rw [if_pos z, if_pos (e.1 z)]; exact h
  · rw [if_neg z, if_neg (fun w => z (e.2 w))]; exact k
theorem OP.none : OP x y none none := trivial
theorem f_step11 (t : Tw x y) {p q : Pt} (h : Rl x y p q) : OP x y (S11.stepO p) (S11.stepO q) := by
  have e1 : OP x y (some (S11.disP p)) (some (S11.disP q)) := f_dis h
  have e2 : OP x y (some (S11.agdP p)) (some (S11.agdP q)) := f_agd h
  have e3 : OP x y (some (S11.updP p)) (some (S11.updP q)) := f_upd t h
  have e4 : OP x y (some (S11.recP p)) (some (S11.recP q)) := f_rec t h
  unfold S11.stepO S11.fdsO S11.fagO S11.fcuO
  simp (disch := decide) only [h.bt, h.nm]
  exact OP.ite Iff.rfl e1 (OP.ite Iff.rfl (OP.ite Iff.rfl e2 (OP.ite Iff.rfl e1 OP.none)) (OP.ite Iff.rfl (OP.ite Iff.rfl e3 OP.none) (OP.ite Iff.rfl (OP.ite Iff.rfl e4 (OP.ite Iff.rfl e3 (OP.ite Iff.rfl e2 OP.none))) e1)))
theorem L_step11 (t : Tw x y) {l m : List Pt} (h : LR x y l m) (i : Int) : LR x y (S11.stepL l i) (S11.stepL m i) ∧ S11.stepB l i = S11.stepB m i := by
  have k := f_step11 t (h.at' i.toNat)
  unfold S11.stepL S11.stepB S11.tellO
  rw [h.len]
  by_cases c : 0 ≤ i ∧ i < (m.length : Int)
  · rw [if_pos c, if_pos c, if_pos c, if_pos c]
    exact ⟨h.set _ (k.get (h.at' _)), k.is⟩
  · rw [if_neg c, if_neg c, if_neg c, if_neg c]
    exact ⟨h, rfl⟩
theorem f_take {p q : Pt} {m n : Mg} (h : Rl x y p q) (k : Rl x y m n) : Rl x y (S11.takeP p m) (S11.takeP q n) := by
  unfold S11.takeP S11.gotP
  rw [h.bt, k.nm (j := 0) (by decide)]
  exact Rl.ite Iff.rfl (Rl.ite Iff.rfl (((h.setB rfl).put k).setB rfl) (Rl.ite Iff.rfl (((h.setB rfl).put k).setB rfl) h)) h
theorem L_hear {l m : List Pt} {a b : Mg} (h : LR x y l m) (k : Rl x y a b) (i : Int) : LR x y (S11.hearL l i a) (S11.hearL m i b) := by
  unfold S11.hearL
  rw [h.len]
  by_cases c : 0 ≤ i ∧ i < (m.length : Int)
  · rw [if_pos c, if_pos c]; exact h.set _ (f_take (h.at' _) k)
  · rw [if_neg c, if_neg c]; exact h
/-! ### stage 13: from roles to what ports may do -/
theorem all_of {f : Nat → Pt → Bool} {l m : List Pt} (h : LR x y l m) (k : ∀ i p q, Rl x y p q → f i p = f i q) : S13.allK f l = S13.allK f m := by
  unfold S13.allK
  rw [h.len]
  congr 1
  funext i
  exact k i _ _ (h.at' i)
theorem f_del {p q : Pt} (h : Rl x y p q) : S13.delayP p = S13.delayP q := by unfold S13.delayP; rw [h.bt, h.nm (j := 42) (by decide), h.nm (j := 43) (by decide)]
theorem f_rest {p q : Pt} (h : Rl x y p q) : Rl x y (S13.restP p) (S13.restP q) := (((h.setB rfl).setB rfl).setB rfl).setU rfl
theorem f_dis13 {p q : Pt} (h : Rl x y p q) : Rl x y (S13.disP p) (S13.disP q) := ((f_rest h).setU ((f_rest h).nm (by decide))).setN rfl
theorem f_blk {p q : Pt} (h : Rl x y p q) : Rl x y (S13.blkP p) (S13.blkP q) := ((f_rest h).setU ((f_rest h).nm (by decide))).setN rfl
theorem f_tak {p q : Pt} (h : Rl x y p q) : Rl x y (S13.takP p) (S13.takP q) := h.setN (h.nm (by decide))
theorem f_rol {p q : Pt} (h : Rl x y p q) : Rl x y (S13.rolP p) (S13.rolP q) := by
  unfold S13.rolP
  rw [h.nm (j := 31) (by decide)]
  have k := f_tak h
  exact Rl.ite Iff.rfl (((k.setB rfl).setB rfl).setN rfl) (Rl.ite Iff.rfl ((k.setU (k.nm (by decide))).setN rfl) (Rl.ite Iff.rfl (k.setN rfl) (((k.setB rfl).setB rfl).setN rfl)))
theorem f_begA {p q : Pt} (h : Rl x y p q) : Rl x y (S13.begA p) (S13.begA q) := ((((((h.setN rfl).setN rfl).setB rfl).setB rfl).setB rfl).setB rfl).setB rfl
theorem f_beg13 {p q : Pt} (h : Rl x y p q) : Rl x y (S13.begP p) (S13.begP q) := (((f_begA h).setU ((f_begA h).nm (by decide))).setU ((f_begA h).nm (by decide))).setU rfl
theorem f_agr13 {p q : Pt} (h : Rl x y p q) : Rl x y (S13.agrP p) (S13.agrP q) := ((h.setB rfl).setB rfl).setB rfl
theorem f_lrn {p q : Pt} (h : Rl x y p q) : Rl x y (S13.lrnP p) (S13.lrnP q) := (h.setB rfl).setU (f_del h)
theorem f_fwd {p q : Pt} (h : Rl x y p q) : Rl x y (S13.fwdP p) (S13.fwdP q) := (h.setB rfl).setU rfl
theorem f_stpA {p q : Pt} (h : Rl x y p q) : Rl x y (S13.stpA p) (S13.stpA q) := ((h.setB rfl).setB rfl).setB rfl
theorem L_fn {l m : List Pt} (h : LR x y l m) (F k : Nat) : LR x y (S13.fnOf F k l) (S13.fnOf F k m) := by
  have g := h.at' k
  unfold S13.fnOf
  refine LR.ite Iff.rfl ?_ (LR.ite Iff.rfl ?_ (LR.ite Iff.rfl ?_ (LR.ite Iff.rfl ?_ (LR.ite Iff.rfl ?_ (LR.ite Iff.rfl ?_ (LR.ite Iff.rfl ?_ (LR.ite Iff.rfl ?_ (LR.ite Iff.rfl ?_ (LR.ite Iff.rfl ?_ (LR.ite Iff.rfl ?_ (LR.ite Iff.rfl ?_ (LR.ite Iff.rfl ?_ (LR.ite Iff.rfl ?_ (LR.ite Iff.rfl ?_ (LR.ite Iff.rfl ?_ (LR.ite Iff.rfl ?_ (?_)))))))))))))))))
  · exact h.set _ (f_beg13 g)
  · exact h.set _ (f_rol g)
  · exact h.set _ (f_dis13 g)
  · exact h.set _ (f_blk g)
  · exact h.set _ (f_agr13 (g.setB rfl))
  · exact h.set _ (f_agr13 g)
  · exact h.set _ (g.setB rfl)
  · exact h.set _ (f_lrn g)
  · exact h.set _ (f_fwd g)
  · exact h.set _ (g.setU (g.nm (by decide)))
  · exact h.set _ ((g.setB rfl).setB rfl)
  · exact h.set _ (((g.setU rfl).setB rfl).setB rfl)
  · exact h.set _ ((f_stpA g).setU (f_del (f_stpA g)))
  · exact h.set _ ((f_fwd g).setB ((f_fwd g).bt _))
  · exact h.set _ (g.setU (congrArg S13.twN (g.nm (j := 42) (by decide))))
  · exact (h.set _ (g.setB rfl)).map fun p q hp => hp.setB rfl
  · exact h.map fun p q hp => hp.setB rfl
  · exact h
theorem f_setl {p q : Pt} (h : Rl x y p q) : S13.setlP p = S13.setlP q := by unfold S13.setlP; rw [h.bt, h.bt, h.nm (j := 30) (by decide), h.nm (j := 31) (by decide)]
theorem L_inS {l m : List Pt} (h : LR x y l m) (k : Nat) : S13.inS l k = S13.inS m k := all_of h fun i p q hp => by unfold S13.okS; rw [f_setl hp, hp.bt, hp.nm (j := 30) (by decide)]
theorem L_wasR {l m : List Pt} (h : LR x y l m) (k : Nat) : S13.wasR l k = S13.wasR m k := all_of h fun i p q hp => by unfold S13.okR; rw [hp.nm (j := 70) (by decide)]
theorem L_rul {l m : List Pt} (h : LR x y l m) (k : Nat) : S13.rulL l k = S13.rulL m k := by
  have g : Rl x y (S13.gtP l k) (S13.gtP m k) := h.at' k
  have e1 := L_inS h k
  have e2 := L_wasR h k
  unfold S13.rulL S13.stR S13.rootR S13.altR S13.dsgR S13.rdyB S13.raoB S13.ansB S13.prpB S13.begB S13.stopB S13.looB S13.askP S13.mayP S13.mustB S13.bckB
  simp (disch := decide) only [g.bt, g.nm, e1, e2]
theorem L_step13 {l m : List Pt} (h : LR x y l m) (i : Int) : LR x y (S13.stepL l i) (S13.stepL m i) ∧ S13.stepB l i = S13.stepB m i := by
  unfold S13.stepL S13.stepB S13.stepO
  rw [h.len, L_rul h]
  by_cases c : 0 ≤ i ∧ i < (m.length : Int)
  · rw [if_pos c, if_pos c, if_pos c, if_pos c]
    cases S13.firstF (S13.rulL m i.toNat) with
    | none => exact ⟨h, rfl⟩
    | some F => exact ⟨L_fn h F _, rfl⟩
  · rw [if_neg c, if_neg c, if_neg c, if_neg c]
    exact ⟨h, rfl⟩
/-! ### stage 14: states and changes -/
theorem f_pst {p q : Pt} (h : Rl x y p q) : OP x y (S14.pstO p) (S14.pstO q) := by
  have e : ∀ a b, OP x y (some (S14.doesP a b p)) (some (S14.doesP a b q)) := fun a b => (h.setB rfl).setB rfl
  unfold S14.pstO
  simp only [h.bt]
  exact OP.ite Iff.rfl (e _ _) (OP.ite Iff.rfl (e _ _) (OP.ite Iff.rfl (e _ _) (OP.ite Iff.rfl (e _ _) OP.none)))
theorem f_nw {g k : Hd} {p q : Pt} (hh : Rl x y g k) (h : Rl x y p q) : Rl x y (S14.nwP g p) (S14.nwP k q) := by
  unfold S14.nwP
  rw [h.bt, h.nm (j := 71) (by decide), hh.nm (j := 14) (by decide), hh.nm (j := 13) (by decide), hh.nm (j := 15) (by decide)]
  exact Rl.ite Iff.rfl (Rl.ite Iff.rfl ((h.setU rfl).setB rfl) (h.setU rfl)) h
theorem L_spr {l m : List Pt} {p q : Pt} (h : LR x y l m) (k : Nat) (g : Rl x y p q) : LR x y (S14.sprL l k p) (S14.sprL m k q) := by
  unfold S14.sprL
  refine h.mapIdx fun i a b hab => ?_
  exact Rl.ite Iff.rfl g (hab.setB rfl)
theorem f_lrn14 {p q : Pt} (h : Rl x y p q) : Rl x y (S14.lrnP p) (S14.lrnP q) := ((((h.setB rfl).setB rfl).setB rfl).setB rfl).setN rfl
theorem f_qui {p q : Pt} (h : Rl x y p q) : Rl x y (S14.quiP p) (S14.quiP q) := (((h.setB rfl).setB rfl).setU rfl).setN rfl
theorem f_heaQ {g k : Hd} {p q : Pt} (hh : Rl x y g k) (h : Rl x y p q) : Rl x y (S14.heaQ g p) (S14.heaQ k q) := by
  unfold S14.heaQ
  rw [h.bt]
  exact Rl.ite Iff.rfl (f_nw hh h) h
theorem f_hea {p q : Pt} (h : Rl x y p q) : Rl x y (S14.heaP p) (S14.heaP q) := ((h.setB rfl).setB rfl).setB (by rw [h.bt, h.nm (j := 30) (by decide)])
theorem L_tcm {g k : Hd} {l m : List Pt} (hh : Rl x y g k) (h : LR x y l m) (i : Nat) : OL x y (S14.tcmO g l i) (S14.tcmO k m i) := by
  have G : Rl x y (S14.gtP l i) (S14.gtP m i) := h.at' i
  have e1 : OL x y (some (l.set i (S14.lrnP (S14.gtP l i)))) (some (m.set i (S14.lrnP (S14.gtP m i)))) := h.set _ (f_lrn14 G)
  have e2 : OL x y (some (l.set i (S14.quiP (S14.gtP l i)))) (some (m.set i (S14.quiP (S14.gtP m i)))) := h.set _ (f_qui G)
  have e3 : OL x y (some (S14.sprL l i (S14.detP g (S14.gtP l i)))) (some (S14.sprL m i (S14.detP k (S14.gtP m i)))) := L_spr h i (show Rl x y (S14.detP g (S14.gtP l i)) (S14.detP k (S14.gtP m i)) from Rl.setN (k := S14.kn74) (hw := S14.wi3) (hv := S14.wi3) (Rl.setB (f_nw hh G) rfl) rfl)
  have e4 : OL x y (some (S14.sprL l i (S14.ntfP g (S14.gtP l i)))) (some (S14.sprL m i (S14.ntfP k (S14.gtP m i)))) := L_spr h i (show Rl x y (S14.ntfP g (S14.gtP l i)) (S14.ntfP k (S14.gtP m i)) from f_hea (f_heaQ hh G))
  have e5 : OL x y (some (l.set i (S14.prgP g (S14.gtP l i)))) (some (m.set i (S14.prgP k (S14.gtP m i)))) := h.set _ (show Rl x y (S14.prgP g (S14.gtP l i)) (S14.prgP k (S14.gtP m i)) from Rl.setB (k := S14.kb27) (Rl.setB (k := S14.kb6) (f_nw hh G) rfl) rfl)
  have e6 : OL x y (some (l.set i (S14.ackP (S14.gtP l i)))) (some (m.set i (S14.ackP (S14.gtP m i)))) := h.set _ (show Rl x y (S14.ackP (S14.gtP l i)) (S14.ackP (S14.gtP m i)) from Rl.setB (k := kb18) (G.setU rfl) rfl)
  unfold S14.tcmO S14.inaO S14.leaO S14.actO
  refine OL.ite (by simp (disch := decide) only [G.nm]) (OL.ite (by simp only [G.bt]) e1 OL.none) (OL.ite (by simp (disch := decide) only [G.nm]) (OL.ite ?_ e3 (OL.ite ?_ e2 (OL.ite ?_ e1 OL.none))) (OL.ite (by simp (disch := decide) only [G.nm]) (OL.ite ?_ e1 (OL.ite (by simp only [G.bt]) e4 (OL.ite (by simp only [G.bt]) e5 (OL.ite (by simp only [G.bt]) e6 OL.none)))) e2))
  all_goals simp (disch := decide) only [S14.hasB, S14.tldB, G.bt, G.nm]
/-! ### stage 15: transmission -/
theorem L_ppm {l m : List Pt} (h : LR x y l m) (i : Nat) : OL x y (S15.ppmO l i) (S15.ppmO m i) := by
  have G : Rl x y (S15.gtP l i) (S15.gtP m i) := h.at' i
  have c : S15.ppmC (S15.gtP l i) = S15.ppmC (S15.gtP m i) := by
    unfold S15.ppmC
    simp (disch := decide) only [G.bt, G.nm]
  unfold S15.ppmO
  rw [c]
  refine OL.ite Iff.rfl OL.none ?_
  refine h.set _ ?_
  match S15.ppmC (S15.gtP m i) with
  | 0 => exact G
  | 1 => exact Rl.setN (k := S15.kn76) (hw := S15.wi1) (hv := S15.wi1) (Rl.setU (Rl.setB G rfl) rfl) rfl
  | 2 => exact Rl.setN (k := S15.kn76) (hw := S15.wi3) (hv := S15.wi3) (Rl.setB (Rl.setB G rfl) rfl) rfl
  | n + 3 => exact Rl.setN (k := S15.kn76) (hw := S15.wi2) (hv := S15.wi2) (Rl.setU (Rl.setB G rfl) rfl) rfl
theorem f_wai {p q : Pt} (h : Rl x y p q) : Rl x y (S15.waiP p) (S15.waiP q) := h.setU (by unfold S15.waiN; rw [h.nm (j := 42) (by decide)])
theorem f_ptxC {g k : Hd} {p q : Pt} (hh : Rl x y g k) (G : Rl x y p q) : S15.ptxC g p = S15.ptxC k q := by
  unfold S15.ptxC S15.voiB
  simp (disch := decide) only [G.bt, G.nm, hh.nm]
theorem L_ptx {g k : Hd} {l m : List Pt} (hh : Rl x y g k) (h : LR x y l m) (i : Nat) : OL x y (S15.ptxO g l i) (S15.ptxO k m i) := by
  have G : Rl x y (S15.gtP l i) (S15.gtP m i) := h.at' i
  unfold S15.ptxO
  rw [f_ptxC hh G]
  refine OL.ite Iff.rfl OL.none ?_
  refine h.set _ ?_
  match S15.ptxC k (S15.gtP m i) with
  | 0 => exact G
  | 1 => exact f_wai (show Rl x y (S15.begP (S15.gtP l i)) (S15.begP (S15.gtP m i)) from Rl.setN (k := S15.kn75) (hw := S15.wi1) (hv := S15.wi1) (Rl.setU (Rl.setB G rfl) rfl) rfl)
  | 2 => exact f_wai (G.setB (by unfold S15.remB; simp (disch := decide) only [G.bt, G.nm]))
  | n + 3 => exact f_wai (((G.setB rfl).setU (by rw [G.nm (j := 64) (by decide)])).setB (by unfold S15.ackB S15.kinN; simp (disch := decide) only [G.bt, G.nm]))
theorem f_msg {p q : Pt} (G : Rl x y p q) : Rl x y (S15.msgP p) (S15.msgP q) := by
  have z : Rl x y zeroM zeroM := Rl.zero kdM
  have e : S15.tcB p = S15.tcB q := by unfold S15.tcB; rw [G.nm (j := 71) (by decide)]
  unfold S15.msgP
  rw [G.bt, G.nm (j := 30) (by decide)]
  refine Rl.ite Iff.rfl ?_ (Rl.ite Iff.rfl ?_ ?_)
  · exact ((((((((((z.setN rfl).setN (by rw [G.nm (j := 30) (by decide)])).setB (G.bt _)).setB (G.bt _)).setB (G.bt _)).setB (G.bt _)).setB e).setB rfl).put G.dsg).put (Rl.tme G.dsT))
  · exact ((((z.setN rfl).setB e).setB (G.bt _)).put G.dsg).put (Rl.tme G.dsT)
  · exact z.setN rfl
theorem f_outR {m n : Mg} (h : Rl x y m n) (i : Int) (hw : (Lit.int .i64 i).wf = true) : Rl x y (S15.outR i hw m) (S15.outR i hw n) := by
  refine ⟨fun j hj => ?_, fun j hj => ?_⟩
  · cases j with
    | zero => cases hj
    | succ j => exact h.id j hj
  · cases j with
    | zero => rfl
    | succ j => exact h.eq j hj
theorem f_outI {m n : Mg} (h : Rl x y m n) (i : Int) : Rl x y (S15.outI i m) (S15.outI i n) := by
  unfold S15.outI
  split
  · exact f_outR h _ _
  · exact f_outR h _ _
def OO (x y : Int) : List Ot → List Ot → Prop
  | [], [] => True
  | a :: l, b :: m => Rl x y a b ∧ OO x y l m
  | _, _ => False
theorem OO.app : ∀ {l m l' m' : List Ot}, OO x y l m → OO x y l' m' → OO x y (l ++ l') (m ++ m')
  | [], [], _, _, _, k => k
  | a :: l, b :: m, _, _, h, k => ⟨h.1, OO.app h.2 k⟩
  | [], _ :: _, _, _, h, _ => h.elim
  | _ :: _, [], _, _, h, _ => h.elim
theorem L_ptxU {g k : Hd} {l m : List Pt} (hh : Rl x y g k) (h : LR x y l m) (i : Nat) : OO x y (opt (S15.ptxU g l i)) (opt (S15.ptxU k m i)) := by
  have G : Rl x y (S15.gtP l i) (S15.gtP m i) := h.at' i
  unfold S15.ptxU
  rw [f_ptxC hh G]
  by_cases c : S15.ptxC k (S15.gtP m i) = 3
  · rw [if_pos c, if_pos c]
    exact ⟨f_outI (f_msg G) _, trivial⟩
  · rw [if_neg c, if_neg c]
    trivial
end S17
end
section
namespace S17
open Go.RowKit

variable {x y : Int}
/-! ### stage 12: roles -/
theorem f_ow (t : Tw x y) {g k : Hd} {p q : Pt} (hh : Rl x y g k) (h : Rl x y p q) : S12.owB g p = S12.owB k q := by
  unfold S12.owB S12.sameA
  simp only [(h.id 38 rfl).ad t (hh.id 0 rfl)]
theorem f_ld (t : Tw x y) {g k : Hd} {p q : Pt} (hh : Rl x y g k) (h : Rl x y p q) : S12.ldB g p = S12.ldB k q := by
  unfold S12.ldB
  rw [f_ow t hh h, h.nm (j := 29) (by decide)]
theorem f_addV {p q : Pt} (h : Rl x y p q) : Rl x y (S12.addV p) (S12.addV q) := Rl.four (h.id 36 rfl) (by rw [h.nm (j := 37) (by decide), h.nm (j := 1) (by decide)]) (h.id 38 rfl) (h.nm (by decide))
theorem f_ownV {g k : Hd} (hh : Rl x y g k) : Rl x y (S12.ownV g) (S12.ownV k) := Rl.four (hh.id 0 rfl) rfl (hh.id 0 rfl) rfl
theorem f_desV {g k : Hd} {v u : Vc} {p q : Pt} (hh : Rl x y g k) (hv : Rl x y v u) (h : Rl x y p q) : Rl x y (S12.desV g v p) (S12.desV k u q) := Rl.four (hv.id 0 rfl) (hv.nm (by decide)) (hh.id 0 rfl) (h.nm (by decide))
theorem L_rtF (t : Tw x y) {g k : Hd} {l m : List Pt} (hh : Rl x y g k) (h : LR x y l m) : ∀ i, Rl x y (S12.rtF g l i).1 (S12.rtF k m i).1 ∧ (S12.rtF g l i).2 = (S12.rtF k m i).2
  | 0 => ⟨f_ownV hh, rfl⟩
  | i + 1 => by
    have e := L_rtF t hh h i
    have G : Rl x y (S12.gtP l i) (S12.gtP m i) := h.at' i
    have K : ∀ z : Int, Rl x y (S12.gtP l z.toNat) (S12.gtP m z.toNat) := fun z => h.at' z.toNat
    have c : (S12.ldB g (S12.gtP l i) && S12.tkB l (S12.gtP l i) (S12.addV (S12.gtP l i)) (S12.rtF g l i).1 (S12.rtF g l i).2) = (S12.ldB k (S12.gtP m i) && S12.tkB m (S12.gtP m i) (S12.addV (S12.gtP m i)) (S12.rtF k m i).1 (S12.rtF k m i).2) := by
      unfold S12.tkB S12.cmp
      rw [f_ld t hh G, (f_addV G).cmp2 t e.1, e.2, G.nm (j := 0) (by decide), (K _).nm (j := 0) (by decide)]
    unfold S12.rtF S12.rtS
    rw [c]
    by_cases z : (S12.ldB k (S12.gtP m i) && S12.tkB m (S12.gtP m i) (S12.addV (S12.gtP m i)) (S12.rtF k m i).1 (S12.rtF k m i).2) = true
    · rw [if_pos z, if_pos z]; exact ⟨f_addV G, rfl⟩
    · rw [if_neg z, if_neg z]; exact e
theorem L_rooK (t : Tw x y) {g k : Hd} {l m : List Pt} (hh : Rl x y g k) (h : LR x y l m) : S12.rooK g l = S12.rooK k m := by
  unfold S12.rooK
  rw [h.len]
  exact (L_rtF t hh h _).2
theorem L_rooV (t : Tw x y) {g k : Hd} {l m : List Pt} (hh : Rl x y g k) (h : LR x y l m) : Rl x y (S12.rooV g l) (S12.rooV k m) := by
  unfold S12.rooV
  rw [h.len]
  exact (L_rtF t hh h _).1
theorem L_hdS (t : Tw x y) {g k : Hd} {l m : List Pt} (hh : Rl x y g k) (h : LR x y l m) : Rl x y (S12.hdS g l) (S12.hdS k m) := by
  unfold S12.hdS
  refine Rl.put (Rl.setH (Rl.put hh (L_rooV t hh h)) ?_) (Rl.tme ?_)
  · unfold S12.ridN
    rw [L_rooK t hh h]
    have K : Rl x y (S12.gtP l (S12.rooK k m).toNat) (S12.gtP m (S12.rooK k m).toNat) := h.at' _
    rw [K.nm (j := 0) (by decide)]
  · unfold S12.rtmT
    rw [L_rooK t hh h]
    have K : Rl x y (S12.gtP l (S12.rooK k m).toNat) (S12.gtP m (S12.rooK k m).toNat) := h.at' _
    rw [K.priT, hh.tOfH]
theorem f_tel {g k : Hd} {p q : Pt} (hh : Rl x y g k) (h : Rl x y p q) : Rl x y (S12.telP g p) (S12.telP k q) := by
  unfold S12.telP
  refine Rl.put (Rl.put h (f_desV hh hh.rOf h)) (Rl.tme ?_)
  refine Row.ext' ?_
  show [Value.int .u8 _, .int .u8 _, .int .u8 _, .int .u8 _] = [Value.int .u8 _, .int .u8 _, .int .u8 _, .int .u8 _]
  rw [hh.uOf, hh.nm (j := 3) (by decide)]
theorem f_out (t : Tw x y) {p q : Pt} (h : Rl x y p q) : S12.outB p = S12.outB q := by
  unfold S12.outB
  rw [h.pri.veq t h.dsg, h.priT, h.dsT2]
theorem f_heaN (t : Tw x y) {g k : Hd} {p q : Pt} (hh : Rl x y g k) (h : Rl x y p q) (r : Bool) : S12.heaN g r p = S12.heaN k r q := by
  unfold S12.heaN
  rw [h.dsg.bet2 t h.pri, f_ow t hh h]
theorem f_asg (t : Tw x y) {g k : Hd} {p q : Pt} (hh : Rl x y g k) (h : Rl x y p q) (r : Bool) : Rl x y (S12.asgP g r p) (S12.asgP k r q) := by
  unfold S12.asgP
  refine Rl.setB (Rl.setN (Rl.setB (Rl.setB h rfl) rfl) ?_) ?_
  · unfold S12.wanN
    rw [f_heaN t hh h, h.nm (j := 29) (by decide)]
  · unfold S12.updB
    rw [f_heaN t hh h, h.nm (j := 29) (by decide), h.bt, f_out t h]
theorem any_of {f : Pt → Bool} {l m : List Pt} (h : LR x y l m) (k : ∀ p q, Rl x y p q → f p = f q) : l.any f = m.any f := by
  have e : ∀ l : List Pt, l.any f = (List.range l.length).any fun i => f (l.getD i zeroP) := fun l => by
    rw [Bool.eq_iff_iff, List.any_eq_true, List.any_eq_true]
    constructor
    · rintro ⟨p, hp, hf⟩
      obtain ⟨i, hi, rfl⟩ := List.mem_iff_getElem.1 hp
      exact ⟨i, List.mem_range.2 hi, by rw [List.getD_eq_getElem?_getD, List.getElem?_eq_getElem hi]; exact hf⟩
    · rintro ⟨i, hi, hf⟩
      have hi' := List.mem_range.1 hi
      rw [List.getD_eq_getElem?_getD, List.getElem?_eq_getElem hi'] at hf
      exact ⟨_, List.getElem_mem hi', hf⟩
  rw [e, e, h.len]
  congr 1
  funext i
  exact k _ _ (h.at' i)
theorem L_stp (t : Tw x y) {g k : Hd} {l m : List Pt} (hh : Rl x y g k) (h : LR x y l m) : Rl x y (S12.stpH g l) (S12.stpH k m) ∧ LR x y (S12.stpL g l) (S12.stpL k m) ∧ S12.stpB g l = S12.stpB k m := by
  have e : S12.stpB g l = S12.stpB k m := by
    unfold S12.stpB S12.anyR
    rw [hh.bt, any_of h fun p q hp => hp.bt 21]
  have H : Rl x y (g.setB 6 S12.kh6 true) (k.setB 6 S12.kh6 true) := hh.setB rfl
  unfold S12.stpH S12.stpL
  rw [e]
  refine ⟨Rl.ite Iff.rfl (L_hdS t H h) hh, ?_, rfl⟩
  by_cases c : S12.stpB k m = true
  · rw [if_pos c, if_pos c]
    unfold S12.selL S12.selP
    rw [L_rooK t H h]
    exact h.mapIdx fun i p q hp => f_asg t (L_hdS t H h) (f_tel (L_hdS t H h) hp) _
  · rw [if_neg c, if_neg c]
    exact h
/-! ### passes -/
structure PsR (x y : Int) (s u : Ps) : Prop where
  l : LR x y s.l u.l
  b : s.b = u.b
  o : OO x y s.o u.o
  f : s.f = u.f
theorem P_stK (t : Tw x y) {g k : Hd} {s u : Ps} (hh : Rl x y g k) (h : PsR x y s u) (i : Nat) : ∀ j, PsR x y (stK g i s j) (stK k i u j)
  | 0 => ⟨(L_step11 t h.l i).1, by show (s.b || _) = (u.b || _); rw [h.b, (L_step11 t h.l i).2], h.o, h.f⟩
  | 1 => ⟨(L_step13 h.l i).1, by show (s.b || _) = (u.b || _); rw [h.b, (L_step13 h.l i).2], h.o, h.f⟩
  | 2 => ⟨h.l.set _ ((f_pst (h.l.at' i)).get (h.l.at' i)), by show (s.b || (S14.pstO (s.l.getD i zeroP)).isSome) = (u.b || (S14.pstO (u.l.getD i zeroP)).isSome); rw [h.b, (f_pst (h.l.at' i)).is], h.o, h.f⟩
  | 3 => ⟨(L_tcm hh h.l i).get h.l, by show (s.b || _) = (u.b || _); rw [h.b, (L_tcm hh h.l i).is], h.o, h.f⟩
  | 4 => by
    have G : Rl x y (S14.gtP s.l i) (S14.gtP u.l i) := h.l.at' i
    simp only [stK]
    rw [G.bt]
    by_cases c : (S14.gtP u.l i).bt 6 = true
    · rw [if_pos c, if_pos c]
      exact ⟨h.l.set _ (G.setB rfl), rfl, h.o, by show s.f ++ _ = u.f ++ _; rw [h.f]⟩
    · rw [if_neg c, if_neg c]
      exact h
  | 5 => ⟨(L_ppm h.l i).get h.l, by show (s.b || _) = (u.b || _); rw [h.b, (L_ppm h.l i).is], h.o, h.f⟩
  | 6 => ⟨(L_ptx hh h.l i).get h.l, by show (s.b || _) = (u.b || _); rw [h.b, (L_ptx hh h.l i).is], h.o.app (L_ptxU hh h.l i), h.f⟩
  | _ + 7 => h
theorem P_ptN (t : Tw x y) {g k : Hd} {s u : Ps} (hh : Rl x y g k) (h : PsR x y s u) (i : Nat) : ∀ j, PsR x y (ptN g i j s) (ptN k i j u)
  | 0 => h
  | j + 1 => P_stK t hh (P_ptN t hh h i j) i j
theorem P_psN (t : Tw x y) {g k : Hd} {s u : Ps} (hh : Rl x y g k) (h : PsR x y s u) : ∀ j, PsR x y (psN g j s) (psN k j u)
  | 0 => h
  | j + 1 => P_ptN t hh (P_psN t hh h j) j 7
structure TsR (x y : Int) (s u : Ts) : Prop where
  h : Rl x y s.h u.h
  s : PsR x y s.s u.s
theorem T_pass (t : Tw x y) {s u : Ts} (h : TsR x y s u) (n : Nat) : TsR x y (pass n s) (pass n u) := by
  have e := L_stp t h.h h.s.l
  have k : PsR x y ⟨S12.stpL s.h s.s.l, S12.stpB s.h s.s.l, s.s.o, s.s.f⟩ ⟨S12.stpL u.h u.s.l, S12.stpB u.h u.s.l, u.s.o, u.s.f⟩ := ⟨e.2.1, e.2.2, h.s.o, h.s.f⟩
  exact ⟨e.1, P_psN t e.1 k n⟩
theorem T_run (t : Tw x y) (n : Nat) : ∀ (m : Nat) {s u : Ts}, TsR x y s u → TsR x y (runN n m s) (runN n m u)
  | 0, _, _, h => h
  | m + 1, s, u, h => by
    have e := T_pass t h n
    unfold runN
    rw [e.s.b]
    by_cases c : (pass n u).s.b = true
    · rw [if_pos c, if_pos c]; exact T_run t n m e
    · rw [if_neg c, if_neg c]; exact e
theorem T_runT (t : Tw x y) {g k : Hd} {l m : List Pt} (hh : Rl x y g k) (h : LR x y l m) : TsR x y (runT g l) (runT k m) := by
  unfold runT
  rw [h.len]
  exact T_run t _ _ ⟨hh, h, rfl, trivial, rfl⟩
/-! ### events -/
structure EvR (x y : Int) (s u : Ev) : Prop where
  h : Rl x y s.h u.h
  l : LR x y s.l u.l
  o : OO x y s.o u.o
theorem E_of {s u : Ts} (h : TsR x y s u) : EvR x y (Ev.of s) (Ev.of u) := ⟨h.h, h.s.l, h.s.o⟩
theorem E_no {g k : Hd} {l m : List Pt} (hh : Rl x y g k) (h : LR x y l m) (e e' : Int) : EvR x y (Ev.no g l e) (Ev.no k m e') := ⟨hh, h, trivial⟩
theorem in_of {l m : List Pt} (h : LR x y l m) (i : Int) : inP l i ↔ inP m i := by unfold inP; rw [h.len]
theorem E_up (t : Tw x y) {g k : Hd} {l m : List Pt} (hh : Rl x y g k) (h : LR x y l m) (i : Nat) (on : Bool) : EvR x y (evUp g l i on) (evUp k m i on) := by
  by_cases c : i < l.length
  · have d : i < m.length := by rw [← h.len]; exact c
    have G : Rl x y (S14.gtP l i) (S14.gtP m i) := h.at' i
    by_cases b : (S14.gtP l i).bt 2 = on
    · rw [evUp_same c b, evUp_same d (by rw [← G.bt]; exact b)]
      exact E_no hh h _ _
    · rw [evUp_go c b, evUp_go d (by rw [← G.bt]; exact b)]
      refine E_of (T_runT t hh ?_)
      unfold S9.upL
      rw [if_pos ⟨by omega, by omega⟩, if_pos ⟨by omega, by omega⟩]
      exact h.set _ (Rl.setB (h.at' _) rfl)
  · have d : ¬ i < m.length := by rw [← h.len]; exact c
    rw [evUp_out (fun z => c (by have := z.2; omega)), evUp_out (fun z => d (by have := z.2; omega))]
    exact E_no hh h _ _
theorem E_hear (t : Tw x y) {g k : Hd} {l m : List Pt} {a b : Mg} (hh : Rl x y g k) (h : LR x y l m) (hm : Rl x y a b) (i : Int) : EvR x y (evHear g l i a) (evHear k m i b) := by
  have e := hm.nm (j := 0) (by decide)
  by_cases c : inP l i
  · have d := (in_of h i).1 c
    by_cases z : a.nm 0 = 1 ∨ a.nm 0 = 2 ∨ a.nm 0 = 3
    · rw [evHear_go c z, evHear_go d (by rw [← e]; exact z)]
      exact E_of (T_runT t hh (L_hear h hm i))
    · rw [evHear_no c z, evHear_no d (by rw [← e]; exact z)]
      exact E_no hh h _ _
  · have d : ¬ inP m i := fun z => c ((in_of h i).2 z)
    rw [evHear_out c, evHear_out d]
    exact E_no hh h _ _
theorem tm_no (i : Nat) : kdP[S9.tm i]? ≠ some (some .u64) := by
  match i with
  | 0 => decide
  | 1 => decide
  | 2 => decide
  | 3 => decide
  | 4 => decide
  | 5 => decide
  | 6 => decide
  | 7 => decide
  | n + 8 => simp [S9.tm, kdP]
theorem f_tick {p q : Pt} (h : Rl x y p q) : ∀ i, Rl x y (S9.tickTo p i) (S9.tickTo q i)
  | 0 => h
  | i + 1 => (f_tick h i).setU (by rw [(f_tick h i).nm (tm_no i)])
theorem E_tick (t : Tw x y) {g k : Hd} {l m : List Pt} (hh : Rl x y g k) (h : LR x y l m) : EvR x y (evTick g l) (evTick k m) :=
  E_of (T_runT t hh (h.map fun p q hp => f_tick hp 8))
theorem L_new : ∀ (l : List Int), LR x y (S9.newPs l) (S9.newPs l) := fun l => by
  refine ⟨rfl, fun i => ?_⟩
  unfold S9.newPs
  rw [List.getD_eq_getElem?_getD, List.getElem?_mapIdx]
  cases l[i]? with
  | none => exact Rl.zero kdP
  | some z =>
    show Rl x y (S9.newP _ z) (S9.newP _ z)
    unfold S9.newP
    split
    · exact ((Rl.zero kdP).set (by decide) _ _).set (by decide) _ _
    · exact Rl.zero kdP
theorem H_new {c d : Cf} (h : Rl x y c d) : Rl x y (S9.newH c) (S9.newH d) := by
  have e1 := h.nm (j := 1) (by decide)
  have e2 := h.nm (j := 2) (by decide)
  have e3 := h.nm (j := 3) (by decide)
  have e4 := h.nm (j := 4) (by decide)
  have e5 := h.nm (j := 5) (by decide)
  refine ⟨fun j hj => ?_, fun j hj => ?_⟩
  · match j with
    | 0 => exact h.id 0 rfl
    | 1 => cases hj
    | 2 => cases hj
    | 3 => cases hj
    | 4 => cases hj
    | 5 => cases hj
    | 6 => cases hj
    | 7 => cases hj
    | 8 => exact Or.inl ⟨rfl, rfl⟩
    | 9 => cases hj
    | 10 => exact Or.inl ⟨rfl, rfl⟩
    | 11 => cases hj
    | 12 => cases hj
    | 13 => cases hj
    | 14 => cases hj
    | 15 => cases hj
    | n + 16 => simp [kdH, kdT, kdV] at hj
  · match j with
    | 0 => exact absurd rfl hj
    | 1 => show some (Value.int .u8 _) = some (Value.int .u8 _); rw [e1]
    | 2 => show some (Value.int .u8 _) = some (Value.int .u8 _); rw [e2]
    | 3 => show some (Value.int .u8 _) = some (Value.int .u8 _); rw [e3]
    | 4 => show some (Value.int .u8 _) = some (Value.int .u8 _); rw [e4]
    | 5 => show some (Value.int .u8 _) = some (Value.int .u8 _); rw [e5]
    | 6 => rfl
    | 7 => rfl
    | 8 => rfl
    | 9 => rfl
    | 10 => rfl
    | 11 => rfl
    | 12 => rfl
    | 13 => rfl
    | 14 => rfl
    | 15 => rfl
    | n + 16 => rfl
/-! ### two bridges that are linked -/
def mOf (r : Ot) : Mg := ⟨(r.cl.drop 1).take 16, (r.sub 1 16).ok⟩
theorem f_mOf {r q : Ot} (h : Rl x y r q) : Rl x y (mOf r) (mOf q) := h.part 1 (by decide) (fun j hj => dr _ hj) (fun j hj => dr _ hj)
structure Sy where
  ha : Hd
  la : List Pt
  hb : Hd
  lb : List Pt
  u : List Ot
  v : List Ot
def come : Nat → Sy → Sy
  | 0, s => s
  | k + 1, s => match s.u with
    | m :: u => come k ⟨s.ha, s.la, (evHear s.hb s.lb 0 (mOf m)).h, (evHear s.hb s.lb 0 (mOf m)).l, u, s.v ++ (evHear s.hb s.lb 0 (mOf m)).o⟩
    | [] => match s.v with
      | m :: v => come k ⟨(evHear s.ha s.la 0 (mOf m)).h, (evHear s.ha s.la 0 (mOf m)).l, s.hb, s.lb, (evHear s.ha s.la 0 (mOf m)).o, v⟩
      | [] => s
def later (s : Sy) : Sy := ⟨(evTick s.ha s.la).h, (evTick s.ha s.la).l, (evTick s.hb s.lb).h, (evTick s.hb s.lb).l, s.u ++ (evTick s.ha s.la).o, s.v ++ (evTick s.hb s.lb).o⟩
def secs : Nat → Sy → Sy
  | 0, s => s
  | n + 1, s => later (come 200 (secs n s))
structure SyR (x y : Int) (s r : Sy) : Prop where
  ha : Rl x y s.ha r.ha
  la : LR x y s.la r.la
  hb : Rl x y s.hb r.hb
  lb : LR x y s.lb r.lb
  u : OO x y s.u r.u
  v : OO x y s.v r.v
theorem S_come (t : Tw x y) : ∀ (k : Nat) {s r : Sy}, SyR x y s r → SyR x y (come k s) (come k r)
  | 0, _, _, h => h
  | k + 1, ⟨ha, la, hb, lb, u, v⟩, ⟨ha', la', hb', lb', u', v'⟩, h => by
    obtain ⟨h1, h2, h3, h4, h5, h6⟩ := h
    match u, u', h5 with
    | m :: u, m' :: u', h5 =>
      have e := E_hear t h3 h4 (f_mOf h5.1) 0
      exact S_come t k ⟨h1, h2, e.h, e.l, h5.2, h6.app e.o⟩
    | [], [], h5 =>
      match v, v', h6 with
      | m :: v, m' :: v', h6 =>
        have e := E_hear t h1 h2 (f_mOf h6.1) 0
        exact S_come t k ⟨e.h, e.l, h3, h4, e.o, h6.2⟩
      | [], [], h6 => exact ⟨h1, h2, h3, h4, h5, h6⟩
theorem S_secs (t : Tw x y) {s r : Sy} (h : SyR x y s r) : ∀ n, SyR x y (secs n s) (secs n r)
  | 0 => h
  | n + 1 => by
    have e := S_come t 200 (S_secs t h n)
    have a := E_tick t e.ha e.la
    have b := E_tick t e.hb e.lb
    exact ⟨a.h, a.l, b.h, b.l, e.u.app a.o, e.v.app b.o⟩
def lift (c : Cf) (l : List Int) : Ev := evUp (runT (S9.newH c) (S9.newPs l)).h (runT (S9.newH c) (S9.newPs l)).s.l (0 : Nat) true
def pair (c d : Cf) (l : List Int) : Sy := ⟨(lift c l).h, (lift c l).l, (lift d l).h, (lift d l).l, (lift c l).o, (lift d l).o⟩
theorem E_lift (t : Tw x y) {c d : Cf} (h : Rl x y c d) (l : List Int) : EvR x y (lift c l) (lift d l) := by
  have e := T_runT t (H_new h) (L_new l)
  exact E_up t e.h e.s.l 0 true
theorem S_pair (t : Tw x y) {c d c' d' : Cf} (h : Rl x y c c') (k : Rl x y d d') (l : List Int) : SyR x y (pair c d l) (pair c' d' l) := by
  have a := E_lift t h l
  have b := E_lift t k l
  exact ⟨a.h, a.l, b.h, b.l, a.o, b.o⟩
end S17
end
section
namespace S17
open Go.RowKit
open S14 (gtP gtP_at set_self)

def cfl (i t : Int) : List Value := [.int .u64 i, .int .u8 0, .int .u8 20, .int .u8 2, .int .u8 15, .int .u8 t]
def cF (i t : Int) (h : (Lit.int .u64 i).wf = true) (k : (Lit.int .u8 t).wf = true) : Cf := ⟨cfl i t, by
  refine ⟨rfl, fun j q v hq hv => ?_⟩
  match j, hq, hv with
  | 0, hq, hv => cases hq; cases hv; exact ⟨_, rfl, h⟩
  | 1, hq, hv => cases hq; cases hv; exact ⟨_, rfl, by decide⟩
  | 2, hq, hv => cases hq; cases hv; exact ⟨_, rfl, by decide⟩
  | 3, hq, hv => cases hq; cases hv; exact ⟨_, rfl, by decide⟩
  | 4, hq, hv => cases hq; cases hv; exact ⟨_, rfl, by decide⟩
  | 5, hq, hv => cases hq; cases hv; exact ⟨_, rfl, k⟩
  | n + 6, hq, hv => cases hv⟩
def chkT (lo hi : Hd) (la lb : List Pt) : Bool := lo.nm 7 == 0 && hi.nm 7 == 32769 && hi.nm 8 == 1 && la.length == 2 && lb.length == 2 && (gtP la 0).nm 30 == 4 && (gtP lb 0).nm 30 == 3 && (gtP la 0).bt 8 && (gtP lb 0).bt 8
def chkS (t : Int) (k : (Lit.int .u8 t).wf = true) : Bool :=
  let s := secs 12 (pair (cF 1 t (by decide) k) (cF 2 t (by decide) k) [20000, 20000])
  chkT s.ha s.hb s.la s.lb
def chkR (t : Int) (k : (Lit.int .u8 t).wf = true) : Bool :=
  let s := secs 12 (pair (cF 2 t (by decide) k) (cF 1 t (by decide) k) [20000, 20000])
  chkT s.hb s.ha s.lb s.la
end S17
end
end Go.Proofs.YtlchejbggnbccaaGreat
