/-
  The walk of taking a tag, for all bytes.
-/
import Derived.Test.YteljcgdenagcmaaReads
import Derived.Deep.RegionHeld3
namespace Go.Proofs.Yteljcgdenagcmaa
set_option linter.unusedVariables false
open Go.RowKit

/-- The first two bytes as a number. -/
def tkN (l : List Int) : Int := l.getD 0 0 * 256 + l.getD 1 0
/-- The error of taking a tag. -/
def tkE (l : List Int) : Int := if l.length < 2 then 6 else if tagOk (tkN l / 8192) (tkN l % 4096) then 0 else 20
def tkP (l : List Int) : Int := if tkE l = 0 then tkN l / 8192 else 0
def tkD (l : List Int) : Bool := if tkE l = 0 then tkN l / 4096 % 2 == 1 else false
def tkV (l : List Int) : Int := if tkE l = 0 then tkN l % 4096 else 0
/-- What stands behind the tag. -/
def tkR (l : List Int) : List Int := if tkE l = 0 then l.drop 2 else []

/-- What taking a tag answers. -/
def TkOut (w : World) (l : List Int) (r : Ending) (w' : World) : Prop :=
  ∃ s, r = .returned (.tuple #[.agg #[.int .i64 (tkP l), .bool (tkD l), .int .i64 (tkV l)], s, .int .i64 (tkE l)]) ∧ Own w' w.heap.size s (tkR l) ∧ Below w.heap.size w w'

theorem own_nil (w : World) (B : Nat) : Own w B (.slice none 0 0) [] := World.ownsRow_nil _ _ _ _

theorem tk_out_err {w w' : World} {l : List Int} (e : Int) (he : tkE l = e) (h0 : e ≠ 0) (hb : Below w.heap.size w w') :
    TkOut w l (.returned (.tuple #[.agg #[.int .i64 0, .bool false, .int .i64 0], .slice none 0 0, .int .i64 e])) w' := by
  have h : ¬ tkE l = 0 := by rw [he]; exact h0
  refine ⟨.slice none 0 0, ?_, ?_, hb⟩
  · unfold tkP tkD tkV
    rw [if_neg h, if_neg h, if_neg h, he]
  · unfold tkR
    rw [if_neg h]
    exact own_nil _ _

theorem src_short {w : World} {a : Option Addr} {n c : Nat} {l : List Int} (h : Src w (.slice a n c) l) : n = l.length ∧ n ≤ c ∧ c ≤ maxLen := by
  obtain ⟨a', c', e, h2, h3, _, _⟩ := h
  cases e
  exact ⟨rfl, h2, h3⟩

theorem src_some {w : World} {a : Option Addr} {n c : Nat} {l : List Int} (h : Src w (.slice a n c) l) (hn : 0 < l.length) :
    ∃ b o, a = some ⟨b, o, none⟩ ∧ b < w.heap.size ∧ ∀ j, j < l.length → w.cell? ⟨b, o + j, none⟩ = some (.int .u8 (l.getD j 0)) := by
  obtain ⟨a', c', e, h2, h3, h4, h5⟩ := h
  cases e
  cases a with
  | none => rw [(h4 rfl).1] at hn; simp at hn
  | some ad =>
    obtain ⟨b, o, sp⟩ := ad
    have h0 := h5 _ rfl 0 hn
    have hsp : sp = none := by simpa [Addr.add] using World.cell?_spot h0
    subst hsp
    have hj : ∀ j, j < l.length → w.cell? ⟨b, o + j, none⟩ = some (.int .u8 (l.getD j 0)) := fun j hj => by
      have := h5 _ rfl j hj
      rwa [Addr.add_lit] at this
    exact ⟨b, o, rfl, World.block_lt_of_cell? w _ (hj 0 hn), hj⟩

set_option maxHeartbeats 400000 in
theorem take_short (a : Option Addr) (n c : Nat) (l : List Int) (w : World) (h : Src w (.slice a n c) l) (hs : l.length < 2) :
    Calls Try.prog 60 #[.slice a n c] w fun r w' => TkOut w l r w' := by
  obtain ⟨hn, hc, hm⟩ := src_short h
  clear h
  have hn2 : n < 2 := by omega
  have hn3 : (n : Int) < 2 := by omega
  have hE : Hid (tkE l = 6) := by unfold tkE; rw [if_pos hs]; rfl
  clear hn hs
  go_enter Try.func60, Try.ntmps60
  go_wp2
  go_returns
  exact tk_out_err 6 hE.out (by decide) (by go_grown)

/-- A slice of bytes, cut at its head. -/
theorem src_drop {w : World} {b o n c : Nat} {l : List Int} (h : Src w (.slice (some ⟨b, o, none⟩) n c) l) (k : Nat) (hk : k ≤ n) :
    Src w (.slice (some ⟨b, o + k, none⟩) (n - k) (c - k)) (l.drop k) := by
  obtain ⟨a', c', e, h2, h3, h4, h5⟩ := h
  cases e
  have hl : (l.drop k).length = l.length - k := by simp
  refine ⟨some ⟨b, o + k, none⟩, c - k, by rw [hl], by rw [hl]; omega, by omega, (fun e => by cases e), (fun ad e j hj => ?_)⟩
  cases e
  rw [hl] at hj
  have := h5 _ rfl (k + j) (by omega)
  rw [Addr.add_lit] at this ⊢
  rw [Nat.add_assoc, this]
  simp [List.getD]

/-- What the reader stands on: the bytes, its box, its count. -/
structure RdSt (w W : World) (b o L c x g n N k : Nat) : Prop where
  row : ∀ j, j < n → W.cell? ⟨b, o + j, none⟩ = some (.int .u8 (byN n N j))
  box : W.cell? ⟨x, 0, none⟩ = some (.slice (some ⟨b, o, none⟩) L c)
  at_ : W.heap[g]? = some (.cells #[.int .i64 k] 3 (0, 0))
  below : Below w.heap.size w W
  bg : b ≠ g
  xg : x ≠ g
  hg : w.heap.size ≤ g

theorem RdSt.but {w W : World} {b o L c x g n N k k' : Nat} (h : RdSt w W b o L c x g n N k) (z : But W g) (hz : z.val.heap[g]? = some (.cells #[.int .i64 k'] 3 (0, 0))) : RdSt w z.val b o L c x g n N k' :=
  ⟨fun j hj => (z.cell _ _ h.bg).trans (h.row j hj), (z.cell _ _ h.xg).trans h.box, hz, h.below.trans (z.below _ h.hg), h.bg, h.xg, h.hg⟩

theorem RdSt.set {w W : World} {b o L c x g n N k : Nat} (h : RdSt w W b o L c x g n N k) (i f : Nat) (v : Value) (h1 : b ≠ i) (h2 : x ≠ i) (h3 : g ≠ i) (h4 : w.heap.size ≤ i) : RdSt w (W.setCell ⟨i, f, none⟩ v) b o L c x g n N k :=
  ⟨fun j hj => (World.cell?_of_block (w := W) (heap_setCell_other W ⟨i, f, none⟩ b v h1)).trans (h.row j hj), (World.cell?_of_block (w := W) (heap_setCell_other W ⟨i, f, none⟩ x v h2)).trans h.box,
    (heap_setCell_other W ⟨i, f, none⟩ g v h3).trans h.at_, h.below.setCell (p := ⟨i, f, none⟩) h4 _, h.bg, h.xg, h.hg⟩

theorem RdSt.start (w W : World) (b o L c n N : Nat) (hw : Below w.heap.size w W) (hb : b < w.heap.size) (h : ∀ j, j < n → w.cell? ⟨b, o + j, none⟩ = some (.int .u8 (byN n N j))) :
    RdSt w ((W.alloc (.cells #[.slice (some ⟨b, o, none⟩) L c] 28)).alloc (.cells #[.int .i64 0] 3)) b o L c W.heap.size (W.heap.size + 1) n N 0 := by
  have hs := hw.size
  have hbel : Below w.heap.size w ((W.alloc (.cells #[.slice (some ⟨b, o, none⟩) L c] 28)).alloc (.cells #[.int .i64 0] 3)) := (hw.alloc hs _).alloc (by simp; omega) _
  refine ⟨fun j hj => (hbel.cell (p := ⟨b, o + j, none⟩) hb).trans (h j hj), ?_, ?_, hbel, by omega, by omega, by omega⟩
  · rw [World.cell?_alloc_lt _ _ _ (by simp)]
    exact cell_new _ _ _
  · have := alloc_at (W.alloc (.cells #[.slice (some ⟨b, o, none⟩) L c] 28)) (.cells #[.int .i64 0] 3)
    simpa using this

theorem RdSt.read {w W : World} {b o L c x g n N k : Nat} (h : RdSt w W b o L c x g n N k) (m : Nat) (hn : n ≤ L) (hL : L ≤ 2000) (hk : k + m ≤ 8 * n) (hm : m ≤ 24) (hcp : n ≤ 4) :
    Calls Try.prog 73 #[.int .i64 m, .pointer (some ⟨x, 0, none⟩), .pointer (some ⟨g, 0, none⟩)] W fun r w' => r = .returned (.int .i64 (rN n N k m)) ∧ RBt W w' g (k + m) :=
  reads_any m k n b o L c g x N W h.bg h.xg hn (by unfold maxLen; omega) hk hm hcp h.row h.box h.at_

theorem src_drop' {w : World} {b o n c : Nat} {l : List Int} (h : Src w (.slice (some ⟨b, o, none⟩) n c) l) (k : Nat) (hk : k ≤ n) :
    Src w (.slice (if c = k then some ⟨b, o, none⟩ else some ⟨b, o + k, none⟩) (n - k) (c - k)) (l.drop k) := by
  obtain ⟨hn, hc, hm⟩ := src_short h
  by_cases e : c = k
  · rw [if_pos e]
    have e1 : l.drop k = [] := by apply List.drop_eq_nil_of_le; omega
    rw [e1]
    exact ⟨_, c - k, by rw [show n - k = 0 by omega]; rfl, by simp, by omega, (fun e => by cases e), (fun ad e j hj => by simp at hj)⟩
  · rw [if_neg e]
    exact src_drop h k hk

/-- A slice, cut at its head. -/
def dropV (b o n c k : Nat) : Value := .slice (if c = k then some ⟨b, o, none⟩ else some ⟨b, o + k, none⟩) (n - k) (c - k)
/-- A cut of a slice. -/
def slS (x : Value) (lo hi mx : Option Value) : Sem Value := Instr.sliceAt 28 x lo hi mx
theorem slS_eq (x : Value) (lo hi mx : Option Value) : Instr.sliceAt 28 x lo hi mx = slS x lo hi mx := rfl
theorem slS_drop (b o n c k : Nat) (hk : k ≤ n) (hc : n ≤ c) (hm : c ≤ maxLen) (w : World) : (slS (.slice (some ⟨b, o, none⟩) n c) (some (.int .i64 (k : Nat))) none none).run Try.prog w = .ok (dropV b o n c k) w := by
  unfold slS dropV maxLen at *
  have h1 : (k : Int) ≤ (n : Int) := by omega
  have h2 : (n : Int) ≤ (c : Int) := by omega
  go_simp
theorem src_dropV {w : World} {b o n c : Nat} {l : List Int} (h : Src w (.slice (some ⟨b, o, none⟩) n c) l) (k : Nat) (hk : k ≤ n) : Src w (dropV b o n c k) (l.drop k) := src_drop' h k hk
theorem clone_v (v : Value) (l : List Int) (w : World) (h : Src w v l) (hl : l.length ≤ 2000) :
    Calls Try.prog 36 #[v] w fun r w' => ∃ s, r = .returned s ∧ Own w' w.heap.size s l ∧ Below w.heap.size w w' := by
  obtain ⟨a, c, rfl, h2, h3, h4, h5⟩ := h
  exact clone_any a _ c l w ⟨a, c, rfl, h2, h3, h4, h5⟩ hl

attribute [local go_sem ↓] slS_eq

theorem cell3_0 {w : World} {b : Nat} {t : TypeId} {u0 u1 u2 : Value} (h : w.heap[b]? = some (.cells #[u0, u1, u2] t (0, 0))) : w.cell? ⟨b, 0, none⟩ = some u0 := by simp [World.cell?, h]
theorem cell3_1 {w : World} {b : Nat} {t : TypeId} {u0 u1 u2 : Value} (h : w.heap[b]? = some (.cells #[u0, u1, u2] t (0, 0))) : w.cell? ⟨b, 1, none⟩ = some u1 := by simp [World.cell?, h]
theorem cell3_2 {w : World} {b : Nat} {t : TypeId} {u0 u1 u2 : Value} (h : w.heap[b]? = some (.cells #[u0, u1, u2] t (0, 0))) : w.cell? ⟨b, 2, none⟩ = some u2 := by simp [World.cell?, h]
theorem frozen3 {w : World} {b : Nat} {t : TypeId} {cs : Array Value} (h : w.heap[b]? = some (.cells cs t (0, 0))) (o : Nat) : w.frozen? ⟨b, o, none⟩ = false := by simp [World.frozen?, h]

theorem set3_0 {w : World} {b : Nat} {t : TypeId} {u0 u1 u2 : Value} (h : w.heap[b]? = some (.cells #[u0, u1, u2] t (0, 0))) (v : Value) : (w.setCell ⟨b, 0, none⟩ v).cell? ⟨b, 0, none⟩ = some v :=
  World.cell?_setCell_same _ _ _ (cell3_0 h)
theorem set3_1 {w : World} {b : Nat} {t : TypeId} {u0 u1 u2 : Value} (h : w.heap[b]? = some (.cells #[u0, u1, u2] t (0, 0))) (v v0 : Value) : ((w.setCell ⟨b, 0, none⟩ v0).setCell ⟨b, 1, none⟩ v).cell? ⟨b, 1, none⟩ = some v :=
  World.cell?_setCell_same _ _ _ ((World.cell?_setCell_other _ _ _ _ (by simp)).trans (cell3_1 h))
theorem set3_2 {w : World} {b : Nat} {t : TypeId} {u0 u1 u2 : Value} (h : w.heap[b]? = some (.cells #[u0, u1, u2] t (0, 0))) (v v0 v1 : Value) : (((w.setCell ⟨b, 0, none⟩ v0).setCell ⟨b, 1, none⟩ v1).setCell ⟨b, 2, none⟩ v).cell? ⟨b, 2, none⟩ = some v :=
  World.cell?_setCell_same _ _ _ ((World.cell?_setCell_other _ _ _ _ (by simp)).trans ((World.cell?_setCell_other _ _ _ _ (by simp)).trans (cell3_2 h)))

set_option maxHeartbeats 800000 in
theorem take_long (b o n c N : Nat) (l : List Int) (w : World) (h : Src w (.slice (some ⟨b, o, none⟩) n c) l) (h2 : 2 ≤ l.length) (hl : l.length ≤ 2000) (hrow : ∀ j, j < 2 → w.cell? ⟨b, o + j, none⟩ = some (.int .u8 (byN 2 N j)))
    (hE : tagOk (rN 2 N 0 3) (rN 2 N 4 12) = false → tkE l = 20)
    (hY : tagOk (rN 2 N 0 3) (rN 2 N 4 12) = true → tkE l = 0 ∧ tkP l = (rN 2 N 0 3 : Nat) ∧ tkD l = (((rN 2 N 3 1 : Nat) : Int) == 1) ∧ tkV l = (rN 2 N 4 12 : Nat)) :
    Calls Try.prog 60 #[.slice (some ⟨b, o, none⟩) n c] w fun r w' => TkOut w l r w' := by
  obtain ⟨hn, hc, hm⟩ := src_short h
  have hbw : b < w.heap.size := (by obtain ⟨b', o', e, h5, _⟩ := src_some h (by omega); cases e; exact h5)
  have hn2 : 2 ≤ n := by omega
  have hn4 : n ≤ 2000 := by omega
  have hn3 : ¬ (n : Int) < 2 := by omega
  have st : Hid (∀ W, Below w.heap.size w W → RdSt w ((W.alloc (.cells #[.slice (some ⟨b, o, none⟩) n c] 28)).alloc (.cells #[.int .i64 0] 3)) b o n c W.heap.size (W.heap.size + 1) 2 N 0) := fun W hW => RdSt.start w W b o n c 2 N hW hbw hrow
  have hH : Hid (Src w (.slice (some ⟨b, o, none⟩) n c) l) := h
  have hlD : (l.drop 2).length ≤ 2000 := by simp; omega
  have hbc := @But.cell
  have hbf := @But.frozen
  have n1 : b ≠ w.heap.size + 1 := by omega
  clear h hn hrow h2 hl
  go_enter Try.func60, Try.ntmps60
  go_wp2_with fail
  refine (readers_any _ _ _ _).mono ?_
  rintro _ _ ⟨rfl, rfl⟩
  have st0 := st.out ((w.alloc (.cells #[.int .i64 0, .bool false, .int .i64 0] 25)).alloc (.cells #[.int .i64 0, .bool false, .int .i64 0] 25)) (by go_grown)
  simp only [World.size_alloc] at st0
  have S0 : Hid (RdSt w _ b o n c (w.heap.size + 1 + 1) (w.heap.size + 1 + 1 + 1) 2 N 0) := st0
  clear st0 st
  go_wp2_with fail
  refine Calls.on_read (S0.out.read 3 hn2 hn4 (by omega) (by omega) (by omega)) ?_
  intro z1 hz1
  have S1 : Hid (RdSt w _ b o n c (w.heap.size + 1 + 1) (w.heap.size + 1 + 1 + 1) 2 N 3) := (S0.out.but z1 hz1).set (w.heap.size + 1) 0 (.int .i64 (rN 2 N 0 3)) n1 (by omega) (by omega) (by omega)
  clear hz1
  go_wp2_with fail
  refine Calls.on_read (S1.out.read 1 hn2 hn4 (by omega) (by omega) (by omega)) ?_
  intro z2 hz2
  have q1 : z1.val.heap.size = w.heap.size + 4 := by have := z1.size; simpa using this
  have q2 : z2.val.heap.size = w.heap.size + 4 := by have := z2.size; simpa [q1] using this
  have S2 : Hid (RdSt w z2.val b o n c (w.heap.size + 1 + 1) (w.heap.size + 1 + 1 + 1) 2 N 4) := S1.out.but z2 hz2
  clear hz2 S0 S1
  go_wp2_with fail
  refine Calls.on_read ((S2.out.set (w.heap.size + 1) 1 _ n1 (by omega) (by omega) (by omega)).read 12 hn2 hn4 (by omega) (by omega) (by omega)) ?_
  intro z3 hz3
  have q3 : z3.val.heap.size = w.heap.size + 4 := by have := z3.size; simpa [q2] using this
  have B3 : Hid (Below w.heap.size w z3.val) := ((S2.out.set (w.heap.size + 1) 1 _ n1 (by omega) (by omega) (by omega)).but z3 hz3).below
  clear hz3 S2
  have hlc := @Later.cell
  by_cases hk : tagOk (rN 2 N 0 3) (rN 2 N 4 12) = true
  · go_wp2_with fail
    refine Calls.on_later (check_yes _ _ _ _ hk) ?_
    intro y
    have By : Hid (Below w.heap.size w y.val) := below_over (B3.out.setCell (by simp) _) y.below
    have t2 : y.val.heap[w.heap.size]? = some (.cells #[.int .i64 0, .bool false, .int .i64 0] 25 (0, 0)) := by
      rw [y.below.block _ (by simp [q3]), heap_setCell_other _ _ _ _ (by simp), z3.rest _ (by omega), heap_setCell_other _ _ _ _ (by simp), z2.rest _ (by omega), heap_setCell_other _ _ _ _ (by simp), z1.rest _ (by omega),
        Below.heap_alloc _ _ _ (by simp; omega), Below.heap_alloc _ _ _ (by simp; omega), Below.heap_alloc _ _ _ (by simp), alloc_at]
    have t50 : y.val.cell? ⟨w.heap.size + 1, 0, none⟩ = some (.int .i64 (rN 2 N 0 3)) := by
      rw [hlc y _ _ (by simp [q3])]; simp [hbc, go_sem]
    have t51 : y.val.cell? ⟨w.heap.size + 1, 1, none⟩ = some (.bool (((rN 2 N 3 1 : Nat) : Int) == 1)) := by
      rw [hlc y _ _ (by simp [q3])]; simp [hbc, go_sem]
    have t52 : y.val.cell? ⟨w.heap.size + 1, 2, none⟩ = some (.int .i64 (rN 2 N 4 12)) := by
      rw [hlc y _ _ (by simp [q3])]; simp [hbc, go_sem]
    obtain ⟨Wy, hWy⟩ : ∃ Wy, y.val = Wy := ⟨_, rfl⟩
    rw [hWy] at t2 t50 t51 t52 By ⊢
    clear hlc hbc hbf q1 q2 q3 B3 hWy y z3 z2 z1
    have c20 := cell3_0 t2
    have c21 := cell3_1 t2
    have c22 := cell3_2 t2
    have f2 := frozen3 t2
    have s0 := set3_0 t2
    have s1 := set3_1 t2
    have s2 := set3_2 t2
    have hD : Hid (Src Wy.drew (dropV b o n c 2) (l.drop 2)) := (src_dropV (hH.out.below By.out) 2 hn2).below (Below.refl _ _).drew
    have hsl : ∀ W, (slS (.slice (some ⟨b, o, none⟩) n c) (some (.int .i64 2)) none none).run Try.prog W = .ok (dropV b o n c 2) W := fun W => slS_drop b o n c 2 hn2 hc hm W
    have hlt := lt_of_block t2
    have hlt5 := World.block_lt_of_cell? _ _ t50
    go_wp2
    go_region_held3 (fun w' => w'.cell? ⟨w.heap.size + 1, 0, none⟩ = some (.int .i64 (rN 2 N 0 3)) ∧ w'.cell? ⟨w.heap.size + 1, 1, none⟩ = some (.bool (((rN 2 N 3 1 : Nat) : Int) == 1)) ∧ w'.cell? ⟨w.heap.size + 1, 2, none⟩ = some (.int .i64 (rN 2 N 4 12))) (go_keep) ((first | (go_at_call 36; refine (clone_v _ (l.drop 2) _ hD.out hlD).mono ?_; rintro _ w7 ⟨s7, rfl, ho7, hb7⟩; have t7 := (hb7.block _ hlt).trans t2; have k0 := (hb7.cell (p := ⟨w.heap.size + 1, 0, none⟩) hlt5).trans t50; have k1 := (hb7.cell (p := ⟨w.heap.size + 1, 1, none⟩) hlt5).trans t51; have k2 := (hb7.cell (p := ⟨w.heap.size + 1, 2, none⟩) hlt5).trans t52; have d0 := cell3_0 t7; have d1 := cell3_1 t7; have d2 := cell3_2 t7; have f7 := frozen3 t7)))
    have r0 := set3_0 t7
    have r1 := set3_1 t7
    have r2 := set3_2 t7
    have HO : Hid (Own w7 Wy.heap.size s7 (l.drop 2)) := ho7
    have HB : Hid (Below w.heap.size w w7) := By.out.trans ((Below.refl _ _).drew.trans (hb7.mono (Nat.le_of_lt hlt)))
    clear ho7 hb7 d0 d1 d2 f7 k0 k1 k2 t7 hD hsl
    go_wp2
    refine bodyPost_ret (v := .tuple #[.agg #[.int .i64 (rN 2 N 0 3), .bool (((rN 2 N 3 1 : Nat) : Int) == 1), .int .i64 (rN 2 N 4 12)], s7, .int .i64 0]) (by simp [results, Try.results60, go_sem, r0, r1, r2]) rfl ?_
    obtain ⟨y1, y2, y3, y4⟩ := hY hk
    refine ⟨s7, by rw [y1, y2, y3, y4], ?_, ((HB.out.setCell (by simp) _).setCell (by simp) _).setCell (by simp) _⟩
    have e : tkR l = l.drop 2 := by unfold tkR; rw [if_pos y1]
    rw [e]
    exact Own.base (ownsRow_setCell_below (ownsRow_setCell_below (ownsRow_setCell_below HO.out (by simpa using hlt) _) (by simpa using hlt) _) (by simpa using hlt) _) (Nat.le_of_lt hlt)
  · have hk' : tagOk (rN 2 N 0 3) (rN 2 N 4 12) = false := by simpa using hk
    clear hk
    go_wp2_with fail
    refine Calls.on_later (check_no _ _ _ _ hk') ?_
    intro y
    have By : Hid (Below w.heap.size w y.val) := below_over (B3.out.setCell (by simp) _) y.below
    have t2 : y.val.heap[w.heap.size]? = some (.cells #[.int .i64 0, .bool false, .int .i64 0] 25 (0, 0)) := by
      rw [y.below.block _ (by simp [q3]), heap_setCell_other _ _ _ _ (by simp), z3.rest _ (by omega), heap_setCell_other _ _ _ _ (by simp), z2.rest _ (by omega), heap_setCell_other _ _ _ _ (by simp), z1.rest _ (by omega),
        Below.heap_alloc _ _ _ (by simp; omega), Below.heap_alloc _ _ _ (by simp; omega), Below.heap_alloc _ _ _ (by simp), alloc_at]
    have t50 : y.val.cell? ⟨w.heap.size + 1, 0, none⟩ = some (.int .i64 (rN 2 N 0 3)) := by
      rw [hlc y _ _ (by simp [q3])]; simp [hbc, go_sem]
    have t51 : y.val.cell? ⟨w.heap.size + 1, 1, none⟩ = some (.bool (((rN 2 N 3 1 : Nat) : Int) == 1)) := by
      rw [hlc y _ _ (by simp [q3])]; simp [hbc, go_sem]
    have t52 : y.val.cell? ⟨w.heap.size + 1, 2, none⟩ = some (.int .i64 (rN 2 N 4 12)) := by
      rw [hlc y _ _ (by simp [q3])]; simp [hbc, go_sem]
    obtain ⟨Wy, hWy⟩ : ∃ Wy, y.val = Wy := ⟨_, rfl⟩
    rw [hWy] at t2 t50 t51 t52 By ⊢
    clear hlc hbc hbf q1 q2 q3 B3 hWy y z3 z2 z1
    have c20 := cell3_0 t2
    have c21 := cell3_1 t2
    have c22 := cell3_2 t2
    have f2 := frozen3 t2
    have s0 := set3_0 t2
    have s1 := set3_1 t2
    have s2 := set3_2 t2
    go_wp2
    refine bodyPost_ret (v := .tuple #[.agg #[.int .i64 0, .bool false, .int .i64 0], .slice none 0 0, .int .i64 20]) (by simp [results, Try.results60, go_sem, s0, s1, s2]) rfl ?_
    refine tk_out_err 20 (hE hk') (by decide) ?_
    exact ((By.out.setCell (by simp) _).setCell (by simp) _).setCell (by simp) _

theorem two_bytes {l : List Int} (h2 : 2 ≤ l.length) (hb : ∀ x ∈ l, 0 ≤ x ∧ x ≤ 255) : ∃ N : Nat, tkN l = (N : Int) ∧ N < 65536 ∧ (∀ j, j < 2 → byN 2 N j = l.getD j 0) := by
  match l, h2 with
  | x :: y :: r, _ =>
    have hx := hb x (by simp)
    have hy := hb y (by simp)
    obtain ⟨X, rfl⟩ := Int.eq_ofNat_of_zero_le hx.1
    obtain ⟨Y, rfl⟩ := Int.eq_ofNat_of_zero_le hy.1
    refine ⟨X * 256 + Y, by unfold tkN; simp, by omega, ?_⟩
    intro j hj
    have hj' : j = 0 ∨ j = 1 := by omega
    rcases hj' with rfl | rfl
    · unfold byN; simp; omega
    · unfold byN; simp; omega

theorem take_any (a : Option Addr) (n c : Nat) (l : List Int) (w : World) (h : Src w (.slice a n c) l) (hl : l.length ≤ 2000) (hb : ∀ x ∈ l, 0 ≤ x ∧ x ≤ 255) :
    Calls Try.prog 60 #[.slice a n c] w fun r w' => TkOut w l r w' := by
  by_cases h2 : l.length < 2
  · exact take_short a n c l w h h2
  · obtain ⟨b, o, rfl, _, hj⟩ := src_some h (by omega)
    obtain ⟨N, hN, hN2, hby⟩ := two_bytes (by omega) hb
    have e1 : ((rN 2 N 0 3 : Nat) : Int) = tkN l / 8192 := by rw [hN]; unfold rN; simp; omega
    have e2 : ((rN 2 N 3 1 : Nat) : Int) = tkN l / 4096 % 2 := by rw [hN]; unfold rN; simp
    have e3 : ((rN 2 N 4 12 : Nat) : Int) = tkN l % 4096 := by rw [hN]; unfold rN; simp
    refine take_long b o n c N l w h (by omega) hl (fun j hj2 => by rw [hj j (by omega), hby j hj2]) ?_ ?_
    · intro hk
      rw [e1, e3] at hk
      unfold tkE
      rw [if_neg h2, hk]
      rfl
    · intro hk
      rw [e1, e3] at hk
      have h0 : tkE l = 0 := by unfold tkE; rw [if_neg h2, hk]; rfl
      unfold tkP tkD tkV
      rw [h0, e1, e2, e3]
      exact ⟨rfl, if_pos rfl, if_pos rfl, if_pos rfl⟩
end Go.Proofs.Yteljcgdenagcmaa
