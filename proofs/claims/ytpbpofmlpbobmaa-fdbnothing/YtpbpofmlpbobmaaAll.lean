/-
  The walk of All, for every database.
-/
import Derived.Test.YtpbpofmlpbobmaaSortE
namespace Go.Proofs.Ytpbpofmlpbobmaa
set_option linter.unusedVariables false
set_option maxRecDepth 4000
set_option linter.unusedSimpArgs false
open Go.RowKit Go.Sort

attribute [local go_sem ↓] ldK stK ldM stM ldP stP ldE stE
/-- What has been collected. -/
structure Coll (l todo acc : List En) : Prop where
  mem : ∀ x, x ∈ acc ↔ x ∈ l ∧ x ∉ todo
  ne : acc.Pairwise (fun x y => x.rk ≠ y.rk)
  len : acc.length + todo.length = l.length
theorem Coll.step {l todo acc : List En} (h : Coll l todo acc) (hs : Srt l) (ht : Srt todo) {x : En} (hx : x ∈ todo) (hxl : x ∈ l) : Coll l (del todo x.rk) (acc ++ [x]) := by
  refine ⟨fun y => ?_, ?_, ?_⟩
  · rw [List.mem_append, List.mem_singleton, h.mem y]
    constructor
    · rintro (⟨h1, h2⟩ | rfl)
      · exact ⟨h1, fun h3 => h2 (mem_del.1 h3).1⟩
      · exact ⟨hxl, fun h3 => (mem_del.1 h3).2 rfl⟩
    · rintro ⟨h1, h2⟩
      rcases notin_del ht hx h2 with h3 | h3
      · exact .inr h3
      · exact .inl ⟨h1, h3⟩
  · refine List.pairwise_append.2 ⟨h.ne, List.pairwise_singleton _ _, fun a ha b hb => ?_⟩
    rw [List.mem_singleton] at hb
    subst hb
    obtain ⟨h1, h2⟩ := (h.mem a).1 ha
    intro e
    rw [hs.inj h1 hxl e] at h2
    exact h2 hx
  · have h1 := length_del ht hx
    have h2 := h.len
    rw [List.length_append, List.length_singleton]
    omega
theorem nodup_perm {l m : List En} (hl : l.Pairwise (fun x y => x.rk ≠ y.rk)) (hm : m.Pairwise (fun x y => x.rk ≠ y.rk)) (h : ∀ x, x ∈ l ↔ x ∈ m) : l.Perm m := by
  induction l generalizing m with
  | nil =>
    cases m with
    | nil => exact List.Perm.nil
    | cons y r => have := (h y).2 (by simp); simp at this
  | cons x r ih =>
    obtain ⟨h1, h2⟩ := List.pairwise_cons.1 hl
    have hx := (h x).1 (by simp)
    obtain ⟨s, t, rfl⟩ := List.append_of_mem hx
    have hp : (s ++ x :: t).Perm (x :: (s ++ t)) := List.perm_middle
    have hm' := (hp.pairwise_iff (fun {a b} (h : a.rk ≠ b.rk) => h.symm)).1 hm
    obtain ⟨m1, m2⟩ := List.pairwise_cons.1 hm'
    refine (List.Perm.cons x (ih h2 m2 (fun y => ?_))).trans hp.symm
    constructor
    · intro hy
      have := (h y).1 (List.mem_cons_of_mem _ hy)
      rcases List.mem_cons.1 (hp.mem_iff.1 this) with e | e
      · exact absurd (by rw [e]) (h1 y hy)
      · exact e
    · intro hy
      have := (h y).2 (hp.mem_iff.2 (List.mem_cons_of_mem _ hy))
      rcases List.mem_cons.1 this with e | e
      · exact absurd (by rw [e]) (m1 y hy)
      · exact e
theorem Coll.perm {l acc : List En} (h : Coll l [] acc) (hs : Srt l) : acc.Perm l :=
  nodup_perm h.ne (hs.imp (fun {a b} h => by omega)) (fun x => by rw [h.mem x]; simp)
/-- An entry alone in a new row. -/
theorem one_new (W : World) (x : En) : SlAt (W.alloc (.cells x.cs 55)) (some ⟨W.heap.size, 0, none⟩) 1 1 [x] := by
  refine ⟨rfl, Nat.le_refl _, by unfold maxLen; omega, (fun e => by cases e), (fun y e => by cases e; simp), fun y e => ?_⟩
  cases e
  refine ⟨_, _, rfl, fun j u hj => ?_⟩
  rw [Nat.zero_add]
  refine RvAt.cell (RvAt.new W 55 x.cs) j u ?_
  have : [x].flatMap En.cl = x.cl := by simp
  rw [this] at hj
  rw [← Array.getElem?_toList]
  exact hj
theorem slots (d : List En) (h : Wfs d) : ∃ e : List WEn, e.map (·.val) = d := by
  induction d with
  | nil => exact ⟨[], rfl⟩
  | cons x r ih =>
    obtain ⟨e, he⟩ := ih (fun y hy => h y (List.mem_cons_of_mem _ hy))
    exact ⟨⟨x, h x (by simp)⟩ :: e, by simp [he]⟩
/-- The sort of a slice of the call's own that holds the entries l in some order. -/
theorem sort_own {W : World} {B : Nat} {v : Value} {acc l : List En} (h : Own W B v acc) (hv : v ≠ .slice none 0 0) (hp : acc.Perm l) (hs : Srt l) (hw : Wfs l) (hl : l.length ≤ 1000) :
    Calls Try.prog 44 #[v, .func (.func 45) #[] #[]] W fun r w' => r = .returned (.tuple #[]) ∧ Own w' B v l ∧ W.grownBy w' v.ownBlock := by
  haveI : Inhabited WEn := ⟨wen0⟩
  rcases h.2 with ⟨h0, _⟩ | ⟨g, cap, cur, rfl, hB, hb, h1, h2, h3, h4⟩
  · exact absurd h0 hv
  · obtain ⟨e, he⟩ := slots acc (fun x hx => hw x (hp.mem_iff.1 hx))
    have hel : e.length = acc.length := by rw [← he]; simp
    have hH : HoldsK encE 10 W g 0 e.toArray := holdsE hb (by rw [he, hel]; exact h4)
    have hal := hp.length_eq
    have eg : ∀ args w, (callFunc 45 args).run Try.prog w = .ok (.enter 45 args) w := enters_of Try.func45 (by kernel_rfl) rfl
    have hcon := AnyQ.slices_SortFunc sortEn 10 Try.isAgg55 Try.sizeOf55 encE (fun _ => rfl) (fun x => x.val.one) cfE swoE 45 #[] g 0 cap e.toArray W eg (cmpLaysE g 0 _ W) hH (lt_of_block hb) (by simp; omega)
    have hz : (e.toArray.size : Nat) = acc.length := by simp [hel]
    rw [hz] at hcon
    refine Calls.mono (show Calls Try.prog 44 #[.slice (some ⟨g, 0, none⟩) acc.length cap, .func (.func 45) #[] #[]] W _ from hcon) ?_
    rintro _ w' ⟨rfl, d', n, os, hpm, hso, rfl⟩
    have hd' := sorted_is (l := l) hs (by rw [hz]; exact hpm) (by rw [hz]; exact hso) (by simpa [he] using hp)
    have hsz : d'.size = acc.length := hpm.1.trans hz
    refine ⟨rfl, ?_, grown_sortK d'⟩
    unfold Own
    refine ⟨flat_len l, .inr ⟨g, cap, _, by rw [hal], hB, heap_sortK d' hb, by omega, h2, by simp [putCells, h3], ?_⟩⟩
    have hF : (flatK encE 10 d').size = l.length * 10 := by simp [hsz, hal]
    have hle : (flatK encE 10 d').size ≤ cur.size := by rw [hF, h3]; exact Nat.mul_le_mul_right 10 (by omega)
    have := take_putK cur (flatK encE 10 d') hle
    rw [hF] at this
    rw [this]
    have hk := flat_flatK d'.toList
    rw [Array.toArray_toList] at hk
    rw [hk, hd']
end Go.Proofs.Ytpbpofmlpbobmaa
