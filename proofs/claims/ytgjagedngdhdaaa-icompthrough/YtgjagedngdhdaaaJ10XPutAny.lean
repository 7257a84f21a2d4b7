/-
  TagPuts: for every tag and service's tag, which may be, and their bytes, as defined: the walk. The walk of the closure that reads bits, and of the one that makes it, told by the one block that they change. The walk of taking a tag, for all bytes.
-/
import Derived.Test.YtgjagedngdhdaaaJ09XPutINo
import Derived.Deep.MidRow
import Derived.Deep.RegionHeld3
namespace Go.Proofs.Ytgjagedngdhdaaa

section
namespace S4
set_option linter.unusedVariables false
open Go.RowKit

/-- The bytes that are told of a tag. -/
def putL (p : Int) (d : Bool) (v : Int) : List Int := if tagOk p v then tagL p d v else []
/-- The bytes that are told of a service's tag. -/
def putiL (p : Int) (d u : Bool) (i : Int) (a0 a1 a2 a3 a4 a5 s0 s1 s2 s3 s4 s5 : Int) : List Int := if itagOk p i then itagL p d u i a0 a1 a2 a3 a4 a5 s0 s1 s2 s3 s4 s5 else []

theorem put_any (p v : Int) (d : Bool) (w : World) :
    Calls Try.prog 114 #[.agg #[.int .i64 p, .bool d, .int .i64 v]] w fun r w' => ∃ s, r = .returned (.tuple #[s, .int .i64 (chk (tagOk p v))]) ∧ Src w' s (putL p d v) ∧ Below w.heap.size w w' := by
  unfold putL
  cases h : tagOk p v
  · exact (put_no p v d w h).mono fun r w' ⟨hr, hb⟩ => ⟨_, hr, ⟨none, 0, rfl, Nat.le_refl _, by simp, (fun _ => ⟨rfl, rfl⟩), (fun ad e => by cases e)⟩, hb⟩
  · exact (put_yes p v d w h).mono fun r w' ⟨s, hr, ho, hb⟩ => ⟨s, hr, ho.src, hb⟩

theorem Calls.on_src {f : FuncId} {args : Array Value} {W : World} {y : Later W} {e : Value} {l : List Int} {K : Ending → World → Prop}
    (h : Calls Try.prog f args y.val fun r w' => ∃ s, r = .returned (.tuple #[s, e]) ∧ Src w' s l ∧ Below y.val.heap.size y.val w')
    (k : ∀ (z : Later W) (s : Value), Below y.val.heap.size y.val z.val → Src z.val s l → K (.returned (.tuple #[s, e])) z.val) : Calls Try.prog f args y.val K :=
  h.mono fun _ w' ⟨s, he, hs, hb⟩ => by subst he; exact k (Later.mk w' (y.below.trans (hb.mono y.below.size))) s hb hs

theorem Calls.on_src0 {f : FuncId} {args : Array Value} {W : World} {e : Value} {l : List Int} {K : Ending → World → Prop}
    (h : Calls Try.prog f args W fun r w' => ∃ s, r = .returned (.tuple #[s, e]) ∧ Src w' s l ∧ Below W.heap.size W w')
    (k : ∀ (z : Later W) (s : Value), Src z.val s l → K (.returned (.tuple #[s, e])) z.val) : Calls Try.prog f args W K :=
  h.mono fun _ w' ⟨s, he, hs, hb⟩ => by subst he; exact k (Later.mk w' hb) s hs

/-- The string of bytes, in every later world. -/
theorem Src.strings {w : World} {v : Value} {l : List Int} (h : Src w v l) (x : Later w) : (convert 30 9 v).run Try.prog x.val = .ok (.string (bs l)) x.val := (h.below x.below).string

/-- A whole service's tag, loaded. -/
def ldS_ITag (x : Value) : Sem Value := Instr.loadAt 47 x
theorem ldS27_eq (x : Value) : Instr.loadAt 47 x = ldS_ITag x := rfl

theorem info_ITag : (Try.prog.info? 47).map (·.size) = some 16 := by kernel_rfl

theorem load27 {w : World} {b : Nat} {p : Int} {d u : Bool} {i : Int} {a0 a1 a2 a3 a4 a5 s0 s1 s2 s3 s4 s5 : Int} (h : w.heap[b]? = some (.cells #[.int .i64 p, .bool d, .bool u, .int .i64 i, .int .u8 a0, .int .u8 a1, .int .u8 a2, .int .u8 a3, .int .u8 a4, .int .u8 a5, .int .u8 s0, .int .u8 s1, .int .u8 s2, .int .u8 s3, .int .u8 s4, .int .u8 s5] 47 (0, 0))) :
    (ldS_ITag (.pointer (some ⟨b, 0, none⟩))).run Try.prog w = .ok (.agg #[.int .i64 p, .bool d, .bool u, .int .i64 i, .int .u8 a0, .int .u8 a1, .int .u8 a2, .int .u8 a3, .int .u8 a4, .int .u8 a5, .int .u8 s0, .int .u8 s1, .int .u8 s2, .int .u8 s3, .int .u8 s4, .int .u8 s5]) w := by
  have hr := World.rangeAt_of_block h 0 16
  exact run_loadAt_mid w b 0 47 _ _ hr Try.underlying47 rfl info_ITag

theorem load27_later {W : World} {b : Nat} {p : Int} {d u : Bool} {i : Int} {a0 a1 a2 a3 a4 a5 s0 s1 s2 s3 s4 s5 : Int} (h : W.heap[b]? = some (.cells #[.int .i64 p, .bool d, .bool u, .int .i64 i, .int .u8 a0, .int .u8 a1, .int .u8 a2, .int .u8 a3, .int .u8 a4, .int .u8 a5, .int .u8 s0, .int .u8 s1, .int .u8 s2, .int .u8 s3, .int .u8 s4, .int .u8 s5] 47 (0, 0))) (x : Later W) :
    (ldS_ITag (.pointer (some ⟨b, 0, none⟩))).run Try.prog x.val = .ok (.agg #[.int .i64 p, .bool d, .bool u, .int .i64 i, .int .u8 a0, .int .u8 a1, .int .u8 a2, .int .u8 a3, .int .u8 a4, .int .u8 a5, .int .u8 s0, .int .u8 s1, .int .u8 s2, .int .u8 s3, .int .u8 s4, .int .u8 s5]) x.val :=
  load27 ((x.below.block b (lt_of_block h)).trans h)

end S4
end

section
namespace S4
set_option linter.unusedVariables false
open Go.RowKit

/-- A world that is as W was, but for block g. -/
structure But (W : World) (g : Nat) where
  val : World
  os : val.os = W.os
  tape : val.tape = W.tape
  output : val.output = W.output
  size : val.heap.size = W.heap.size
  rest : ∀ i, i ≠ g → val.heap[i]? = W.heap[i]?

theorem But.cell {W : World} {g : Nat} (x : But W g) (b o : Nat) (h : b ≠ g) : x.val.cell? ⟨b, o, none⟩ = W.cell? ⟨b, o, none⟩ := World.cell?_of_block (w := W) (x.rest b h)
theorem But.frozen {W : World} {g : Nat} (x : But W g) (b o : Nat) (h : b ≠ g) : x.val.frozen? ⟨b, o, none⟩ = W.frozen? ⟨b, o, none⟩ := World.frozen?_of_block (w := W) (x.rest b h)
theorem But.below {W : World} {g : Nat} (x : But W g) (B : Nat) (h : B ≤ g) : Below B W x.val := ⟨x.os, x.tape, x.output, by rw [x.size]; exact Nat.le_refl _, fun i hi => x.rest i (by omega)⟩

/-- The count g is k, and all else is as in w. -/
structure RBt (w wr : World) (g : Nat) (k : Nat) : Prop where
  os : wr.os = w.os
  tape : wr.tape = w.tape
  output : wr.output = w.output
  size : wr.heap.size = w.heap.size
  rest : ∀ i, i ≠ g → wr.heap[i]? = w.heap[i]?
  at_ : wr.heap[g]? = some (.cells #[.int .i64 k] 3 (0, 0))

theorem RBt.step {w wr : World} {g k : Nat} (h : RBt w wr g k) (d k' : Nat) : RBt w ((wr.drewN d).setCell ⟨g, 0, none⟩ (.int .i64 k')) g k' where
  os := h.os
  tape := h.tape
  output := h.output
  size := by simpa using h.size
  rest := fun i h1 => by
    show (wr.setCell ⟨g, 0, none⟩ (.int .i64 k')).heap[i]? = _
    rw [heap_setCell_other _ _ _ _ (by simpa using h1)]
    exact h.rest i h1
  at_ := by
    show (wr.setCell ⟨g, 0, none⟩ (.int .i64 k')).heap[g]? = _
    exact one_setCell h.at_

theorem RBt.cell {w wr : World} {g k : Nat} (h : RBt w wr g k) (i o : Nat) (h1 : i ≠ g) : wr.cell? ⟨i, o, none⟩ = w.cell? ⟨i, o, none⟩ :=
  World.cell?_of_block (w := w) (h.rest i h1)

set_option maxHeartbeats 400000 in
theorem reads_any (m k n b o L c g x N : Nat) (W : World) (hbg : b ≠ g) (hxg : x ≠ g) (hn : n ≤ L) (hL : L ≤ maxLen) (hk : k + m ≤ 8 * n) (hm : m ≤ 24) (hcp : n ≤ 4)
    (hrow : ∀ j, j < n → W.cell? ⟨b, o + j, none⟩ = some (.int .u8 (byN n N j))) (hbox : W.cell? ⟨x, 0, none⟩ = some (.slice (some ⟨b, o, none⟩) L c))
    (h0 : W.heap[g]? = some (.cells #[.int .i64 k] 3 (0, 0))) :
    Calls Try.prog 113 #[.int .i64 m, .pointer (some ⟨x, 0, none⟩), .pointer (some ⟨g, 0, none⟩)] W fun r w' => r = .returned (.int .i64 (rN n N k m)) ∧ RBt W w' g (k + m) := by
  have h : RBt W W g k := ⟨rfl, rfl, rfl, rfl, fun _ _ => rfl, h0⟩
  clear h0
  go_enter Try.func113, Try.ntmps113
  go_wp2
  go_loopw [5, 7] (fun v5 v7 wr => ∃ i : Nat, i ≤ m ∧ v5 = .int .i64 (rN n N k i) ∧ v7 = .int .i64 i ∧ RBt W wr g (k + i)) (fun _ v7 _ => m - (intOf v7).toNat)
  case atStart =>
    refine ⟨0, by omega, ?_, rfl, h⟩
    have : rN n N k 0 = 0 := by unfold rN; rw [Nat.pow_zero, Nat.mod_one]
    rw [this]
    rfl
  case round =>
    obtain ⟨i, hi, rfl, rfl, ht⟩ := hrel
    have hr0 := rN_lt n N k i
    have hr1 : 2 ^ i ≤ 2 ^ 24 := Nat.pow_le_pow_right (by omega) (by omega)
    have hr : rN n N k i < 16777216 := Nat.lt_of_lt_of_le hr0 hr1
    clear hr0 hr1
    by_cases hlt : i < m
    · have h1 := (ht.cell x 0 hxg).trans hbox
      have h2 := cell_of_one ht.at_
      have h3 := free_of_one ht.at_
      have hj : (k + i) / 8 < n := by omega
      have hjL : (k + i) / 8 < L := by omega
      have h4 := (ht.cell b (o + (k + i) / 8) hbg).trans (hrow _ hj)
      have hT : Hid (RBt W _ g (k + i)) := ht
      clear ht h hbox hrow
      unfold maxLen at hL
      go_wp2
      go_quiet (fail)
      go_wp2
      go_roundw
      case rel =>
        refine ⟨i + 1, by omega, ?_, ?_, hT.out.step nq (k + (i + 1))⟩
        · rw [get_bit n N (k + i) (by omega), or_two _ _ (Nat.mod_lt _ (by omega)) (by omega), rN_step (by omega)]
        · go_num
      case measure => simp [intOf]; omega
    · have : i = m := by omega
      subst this
      have hT : Hid (RBt W _ g (k + i)) := ht
      clear ht h hbox hrow
      go_wp2
      go_ret
      exact ⟨rfl, hT.out⟩

/-- A reading, met in the walk. -/
theorem Calls.on_read {args : Array Value} {W : World} {g k : Nat} {v : Value} {K : Ending → World → Prop}
    (h : Calls Try.prog 113 args W fun r w' => r = .returned v ∧ RBt W w' g k) (k' : ∀ z : But W g, z.val.heap[g]? = some (.cells #[.int .i64 k] 3 (0, 0)) → K (.returned v) z.val) : Calls Try.prog 113 args W K :=
  h.mono fun _ w' ⟨he, hb⟩ => by subst he; exact k' ⟨w', hb.os, hb.tape, hb.output, hb.size, hb.rest⟩ hb.at_

theorem readers_any (a : Option Addr) (n c : Nat) (w : World) :
    Calls Try.prog 91 #[.slice a n c] w fun r w' => r = .returned (.func (.func 113) #[] #[.pointer (some ⟨w.heap.size, 0, none⟩), .pointer (some ⟨w.heap.size + 1, 0, none⟩)]) ∧ w' = (w.alloc (.cells #[.slice a n c] 30)).alloc (.cells #[.int .i64 0] 3) := by
  go_enter Try.func91, Try.ntmps91
  go_wp2
  go_ret
  exact ⟨rfl, rfl⟩

theorem eqnil_some (ad : Addr) (n c : Nat) (w : World) : (binOp .eql 30 (.slice (some ad) n c) (.slice none 0 0)).run Try.prog w = .ok (.bool false) w := by kernel_rfl
theorem eqnil_none (w : World) : (binOp .eql 30 (.slice none 0 0) (.slice none 0 0)).run Try.prog w = .ok (.bool true) w := by kernel_rfl

/-- A slice of bytes, cloned. -/
theorem clone_any (a : Option Addr) (n c : Nat) (l : List Int) (w : World) (h : Src w (.slice a n c) l) (hl : l.length ≤ 2000) :
    Calls Try.prog 66 #[.slice a n c] w fun r w' => ∃ s, r = .returned s ∧ Own w' w.heap.size s l ∧ Below w.heap.size w w' := by
  cases a with
  | none =>
    obtain ⟨a', c', e, _, _, h4, _⟩ := h
    cases e
    obtain ⟨rfl, rfl⟩ := h4 rfl
    have hq := eqnil_none
    go_enter Try.func66, Try.ntmps66
    go_wp2
    go_ret
    exact ⟨_, rfl, World.ownsRow_nil _ _ _ _, Below.refl _ _⟩
  | some ad =>
    have h' : Hid (Src (w.alloc (.cells #[] 5)) (.slice (some ad) n c) l) := h.below ((Below.refl _ _).alloc (Nat.le_refl _) _)
    have ho : Hid (Own (w.alloc (.cells #[] 5)) w.heap.size (.slice (some ⟨w.heap.size, 0, none⟩) 0 0) []) := own_new w [] _ _ #[] rfl rfl (Nat.le_refl _) (by simp)
    clear h
    have hq := eqnil_some ad n c
    go_enter Try.func66, Try.ntmps66
    go_wp2_with (at_builtin; refine wpList_app rfl _ _ rfl (by rfl) (by rfl) ho.out h'.out (by simp; omega) (by simp) ?_)
    intro v7 w7 ho7 hg7 hat7
    have hb7 : Hid (Below w.heap.size w w7) := ((Below.refl _ _).alloc (Nat.le_refl _) _).trans (grown_below ho.out hg7 (by simp))
    have HO7 : Hid (Own w7 w.heap.size v7 l) := ho7
    clear ho7 hg7 hat7
    go_wp2
    go_ret
    exact ⟨_, rfl, HO7.out, hb7.out⟩
end S4
end

section
namespace S4
set_option linter.unusedVariables false
open Go.RowKit

/-- The first two bytes as a number. -/
def tkN (l : List Int) : Int := l.getD 0 0 * 256 + l.getD 1 0
/-- The error of taking a tag. -/
def tkE (l : List Int) : Int := if l.length < 2 then 6 else if tagOk (tkN l / 8192) (tkN l % 4096) then 0 else 20
def tkP (l : List Int) : Int := if tkE l = 0 then tkN l / 8192 else 0
def tkD (l : List Int) : Bool := if tkE l = 0 then tkN l / 4096 % 2 == 1 else false
def tkV (l : List Int) : Int := if tkE l = 0 then tkN l % 4096 else 0
/-- What stands behind the tag. -/
def tkR (l : List Int) : List Int := if tkE l = 0 then l.drop 2 else []

/-- What taking a tag answers. -/
def TkOut (w : World) (l : List Int) (r : Ending) (w' : World) : Prop :=
  ∃ s, r = .returned (.tuple #[.agg #[.int .i64 (tkP l), .bool (tkD l), .int .i64 (tkV l)], s, .int .i64 (tkE l)]) ∧ Own w' w.heap.size s (tkR l) ∧ Below w.heap.size w w'

theorem own_nil (w : World) (B : Nat) : Own w B (.slice none 0 0) [] := World.ownsRow_nil _ _ _ _

theorem tk_out_err {w w' : World} {l : List Int} (e : Int) (he : tkE l = e) (h0 : e ≠ 0) (hb : Below w.heap.size w w') :
    TkOut w l (.returned (.tuple #[.agg #[.int .i64 0, .bool false, .int .i64 0], .slice none 0 0, .int .i64 e])) w' := by
  have h : ¬ tkE l = 0 := by rw [he]; exact h0
  refine ⟨.slice none 0 0, ?_, ?_, hb⟩
  · unfold tkP tkD tkV
    rw [if_neg h, if_neg h, if_neg h, he]
  · unfold tkR
    rw [if_neg h]
    exact own_nil _ _

theorem src_short {w : World} {a : Option Addr} {n c : Nat} {l : List Int} (h : Src w (.slice a n c) l) : n = l.length ∧ n ≤ c ∧ c ≤ maxLen := by
  obtain ⟨a', c', e, h2, h3, _, _⟩ := h
  cases e
  exact ⟨rfl, h2, h3⟩

theorem src_some {w : World} {a : Option Addr} {n c : Nat} {l : List Int} (h : Src w (.slice a n c) l) (hn : 0 < l.length) :
    ∃ b o, a = some ⟨b, o, none⟩ ∧ b < w.heap.size ∧ ∀ j, j < l.length → w.cell? ⟨b, o + j, none⟩ = some (.int .u8 (l.getD j 0)) := by
  obtain ⟨a', c', e, h2, h3, h4, h5⟩ := h
  cases e
  cases a with
  | none => rw [(h4 rfl).1] at hn; simp at hn
  | some ad =>
    obtain ⟨b, o, sp⟩ := ad
    have h0 := h5 _ rfl 0 hn
    have hsp : sp = none := by simpa [Addr.add] using World.cell?_spot h0
    subst hsp
    have hj : ∀ j, j < l.length → w.cell? ⟨b, o + j, none⟩ = some (.int .u8 (l.getD j 0)) := fun j hj => by
      have := h5 _ rfl j hj
      rwa [Addr.add_lit] at this
    exact ⟨b, o, rfl, World.block_lt_of_cell? w _ (hj 0 hn), hj⟩

set_option maxHeartbeats 400000 in
theorem take_short (a : Option Addr) (n c : Nat) (l : List Int) (w : World) (h : Src w (.slice a n c) l) (hs : l.length < 2) :
    Calls Try.prog 65 #[.slice a n c] w fun r w' => TkOut w l r w' := by
  obtain ⟨hn, hc, hm⟩ := src_short h
  clear h
  have hn2 : n < 2 := by omega
  have hn3 : (n : Int) < 2 := by omega
  have hE : Hid (tkE l = 6) := by unfold tkE; rw [if_pos hs]; rfl
  clear hn hs
  go_enter Try.func65, Try.ntmps65
  go_wp2
  go_returns
  exact tk_out_err 6 hE.out (by decide) (by go_grown)

/-- A slice of bytes, cut at its head. -/
theorem src_drop {w : World} {b o n c : Nat} {l : List Int} (h : Src w (.slice (some ⟨b, o, none⟩) n c) l) (k : Nat) (hk : k ≤ n) :
    Src w (.slice (some ⟨b, o + k, none⟩) (n - k) (c - k)) (l.drop k) := by
  obtain ⟨a', c', e, h2, h3, h4, h5⟩ := h
  cases e
  have hl : (l.drop k).length = l.length - k := by simp
  refine ⟨some ⟨b, o + k, none⟩, c - k, by rw [hl], by rw [hl]; omega, by omega, (fun e => by cases e), (fun ad e j hj => ?_)⟩
  cases e
  rw [hl] at hj
  have := h5 _ rfl (k + j) (by omega)
  rw [Addr.add_lit] at this ⊢
  rw [Nat.add_assoc, this]
  simp [List.getD]

/-- What the reader stands on: the bytes, its box, its count. -/
structure RdSt (w W : World) (b o L c x g n N k : Nat) : Prop where
  row : ∀ j, j < n → W.cell? ⟨b, o + j, none⟩ = some (.int .u8 (byN n N j))
  box : W.cell? ⟨x, 0, none⟩ = some (.slice (some ⟨b, o, none⟩) L c)
  at_ : W.heap[g]? = some (.cells #[.int .i64 k] 3 (0, 0))
  below : Below w.heap.size w W
  bg : b ≠ g
  xg : x ≠ g
  hg : w.heap.size ≤ g

theorem RdSt.but {w W : World} {b o L c x g n N k k' : Nat} (h : RdSt w W b o L c x g n N k) (z : But W g) (hz : z.val.heap[g]? = some (.cells #[.int .i64 k'] 3 (0, 0))) : RdSt w z.val b o L c x g n N k' :=
  ⟨fun j hj => (z.cell _ _ h.bg).trans (h.row j hj), (z.cell _ _ h.xg).trans h.box, hz, h.below.trans (z.below _ h.hg), h.bg, h.xg, h.hg⟩

theorem RdSt.set {w W : World} {b o L c x g n N k : Nat} (h : RdSt w W b o L c x g n N k) (i f : Nat) (v : Value) (h1 : b ≠ i) (h2 : x ≠ i) (h3 : g ≠ i) (h4 : w.heap.size ≤ i) : RdSt w (W.setCell ⟨i, f, none⟩ v) b o L c x g n N k :=
  ⟨fun j hj => (World.cell?_of_block (w := W) (heap_setCell_other W ⟨i, f, none⟩ b v h1)).trans (h.row j hj), (World.cell?_of_block (w := W) (heap_setCell_other W ⟨i, f, none⟩ x v h2)).trans h.box,
    (heap_setCell_other W ⟨i, f, none⟩ g v h3).trans h.at_, h.below.setCell (p := ⟨i, f, none⟩) h4 _, h.bg, h.xg, h.hg⟩

theorem RdSt.start (w W : World) (b o L c n N : Nat) (hw : Below w.heap.size w W) (hb : b < w.heap.size) (h : ∀ j, j < n → w.cell? ⟨b, o + j, none⟩ = some (.int .u8 (byN n N j))) :
    RdSt w ((W.alloc (.cells #[.slice (some ⟨b, o, none⟩) L c] 30)).alloc (.cells #[.int .i64 0] 3)) b o L c W.heap.size (W.heap.size + 1) n N 0 := by
  have hs := hw.size
  have hbel : Below w.heap.size w ((W.alloc (.cells #[.slice (some ⟨b, o, none⟩) L c] 30)).alloc (.cells #[.int .i64 0] 3)) := (hw.alloc hs _).alloc (by simp; omega) _
  refine ⟨fun j hj => (hbel.cell (p := ⟨b, o + j, none⟩) hb).trans (h j hj), ?_, ?_, hbel, by omega, by omega, by omega⟩
  · rw [World.cell?_alloc_lt _ _ _ (by simp)]
    exact cell_new _ _ _
  · have := alloc_at (W.alloc (.cells #[.slice (some ⟨b, o, none⟩) L c] 30)) (.cells #[.int .i64 0] 3)
    simpa using this

theorem RdSt.read {w W : World} {b o L c x g n N k : Nat} (h : RdSt w W b o L c x g n N k) (m : Nat) (hn : n ≤ L) (hL : L ≤ 2000) (hk : k + m ≤ 8 * n) (hm : m ≤ 24) (hcp : n ≤ 4) :
    Calls Try.prog 113 #[.int .i64 m, .pointer (some ⟨x, 0, none⟩), .pointer (some ⟨g, 0, none⟩)] W fun r w' => r = .returned (.int .i64 (rN n N k m)) ∧ RBt W w' g (k + m) :=
  reads_any m k n b o L c g x N W h.bg h.xg hn (by unfold maxLen; omega) hk hm hcp h.row h.box h.at_

theorem src_drop' {w : World} {b o n c : Nat} {l : List Int} (h : Src w (.slice (some ⟨b, o, none⟩) n c) l) (k : Nat) (hk : k ≤ n) :
    Src w (.slice (if c = k then some ⟨b, o, none⟩ else some ⟨b, o + k, none⟩) (n - k) (c - k)) (l.drop k) := by
  obtain ⟨hn, hc, hm⟩ := src_short h
  by_cases e : c = k
  · rw [if_pos e]
    have e1 : l.drop k = [] := by apply List.drop_eq_nil_of_le; omega
    rw [e1]
    exact ⟨_, c - k, by rw [show n - k = 0 by omega]; rfl, by simp, by omega, (fun e => by cases e), (fun ad e j hj => by simp at hj)⟩
  · rw [if_neg e]
    exact src_drop h k hk

/-- A slice, cut at its head. -/
def dropV (b o n c k : Nat) : Value := .slice (if c = k then some ⟨b, o, none⟩ else some ⟨b, o + k, none⟩) (n - k) (c - k)
/-- A cut of a slice. -/
def slS (x : Value) (lo hi mx : Option Value) : Sem Value := Instr.sliceAt 30 x lo hi mx
theorem slS_eq (x : Value) (lo hi mx : Option Value) : Instr.sliceAt 30 x lo hi mx = slS x lo hi mx := rfl
theorem slS_drop (b o n c k : Nat) (hk : k ≤ n) (hc : n ≤ c) (hm : c ≤ maxLen) (w : World) : (slS (.slice (some ⟨b, o, none⟩) n c) (some (.int .i64 (k : Nat))) none none).run Try.prog w = .ok (dropV b o n c k) w := by
  unfold slS dropV maxLen at *
  have h1 : (k : Int) ≤ (n : Int) := by omega
  have h2 : (n : Int) ≤ (c : Int) := by omega
  go_simp
theorem src_dropV {w : World} {b o n c : Nat} {l : List Int} (h : Src w (.slice (some ⟨b, o, none⟩) n c) l) (k : Nat) (hk : k ≤ n) : Src w (dropV b o n c k) (l.drop k) := src_drop' h k hk
theorem clone_v (v : Value) (l : List Int) (w : World) (h : Src w v l) (hl : l.length ≤ 2000) :
    Calls Try.prog 66 #[v] w fun r w' => ∃ s, r = .returned s ∧ Own w' w.heap.size s l ∧ Below w.heap.size w w' := by
  obtain ⟨a, c, rfl, h2, h3, h4, h5⟩ := h
  exact clone_any a _ c l w ⟨a, c, rfl, h2, h3, h4, h5⟩ hl

attribute [local go_sem ↓] slS_eq

theorem cell3_0 {w : World} {b : Nat} {t : TypeId} {u0 u1 u2 : Value} (h : w.heap[b]? = some (.cells #[u0, u1, u2] t (0, 0))) : w.cell? ⟨b, 0, none⟩ = some u0 := by simp [World.cell?, h]
theorem cell3_1 {w : World} {b : Nat} {t : TypeId} {u0 u1 u2 : Value} (h : w.heap[b]? = some (.cells #[u0, u1, u2] t (0, 0))) : w.cell? ⟨b, 1, none⟩ = some u1 := by simp [World.cell?, h]
theorem cell3_2 {w : World} {b : Nat} {t : TypeId} {u0 u1 u2 : Value} (h : w.heap[b]? = some (.cells #[u0, u1, u2] t (0, 0))) : w.cell? ⟨b, 2, none⟩ = some u2 := by simp [World.cell?, h]
theorem frozen3 {w : World} {b : Nat} {t : TypeId} {cs : Array Value} (h : w.heap[b]? = some (.cells cs t (0, 0))) (o : Nat) : w.frozen? ⟨b, o, none⟩ = false := by simp [World.frozen?, h]

theorem set3_0 {w : World} {b : Nat} {t : TypeId} {u0 u1 u2 : Value} (h : w.heap[b]? = some (.cells #[u0, u1, u2] t (0, 0))) (v : Value) : (w.setCell ⟨b, 0, none⟩ v).cell? ⟨b, 0, none⟩ = some v :=
  World.cell?_setCell_same _ _ _ (cell3_0 h)
theorem set3_1 {w : World} {b : Nat} {t : TypeId} {u0 u1 u2 : Value} (h : w.heap[b]? = some (.cells #[u0, u1, u2] t (0, 0))) (v v0 : Value) : ((w.setCell ⟨b, 0, none⟩ v0).setCell ⟨b, 1, none⟩ v).cell? ⟨b, 1, none⟩ = some v :=
  World.cell?_setCell_same _ _ _ ((World.cell?_setCell_other _ _ _ _ (by simp)).trans (cell3_1 h))
theorem set3_2 {w : World} {b : Nat} {t : TypeId} {u0 u1 u2 : Value} (h : w.heap[b]? = some (.cells #[u0, u1, u2] t (0, 0))) (v v0 v1 : Value) : (((w.setCell ⟨b, 0, none⟩ v0).setCell ⟨b, 1, none⟩ v1).setCell ⟨b, 2, none⟩ v).cell? ⟨b, 2, none⟩ = some v :=
  World.cell?_setCell_same _ _ _ ((World.cell?_setCell_other _ _ _ _ (by simp)).trans ((World.cell?_setCell_other _ _ _ _ (by simp)).trans (cell3_2 h)))

set_option maxHeartbeats 800000 in
theorem take_long (b o n c N : Nat) (l : List Int) (w : World) (h : Src w (.slice (some ⟨b, o, none⟩) n c) l) (h2 : 2 ≤ l.length) (hl : l.length ≤ 2000) (hrow : ∀ j, j < 2 → w.cell? ⟨b, o + j, none⟩ = some (.int .u8 (byN 2 N j)))
    (hE : tagOk (rN 2 N 0 3) (rN 2 N 4 12) = false → tkE l = 20)
    (hY : tagOk (rN 2 N 0 3) (rN 2 N 4 12) = true → tkE l = 0 ∧ tkP l = (rN 2 N 0 3 : Nat) ∧ tkD l = (((rN 2 N 3 1 : Nat) : Int) == 1) ∧ tkV l = (rN 2 N 4 12 : Nat)) :
    Calls Try.prog 65 #[.slice (some ⟨b, o, none⟩) n c] w fun r w' => TkOut w l r w' := by
  obtain ⟨hn, hc, hm⟩ := src_short h
  have hbw : b < w.heap.size := (by obtain ⟨b', o', e, h5, _⟩ := src_some h (by omega); cases e; exact h5)
  have hn2 : 2 ≤ n := by omega
  have hn4 : n ≤ 2000 := by omega
  have hn3 : ¬ (n : Int) < 2 := by omega
  have st : Hid (∀ W, Below w.heap.size w W → RdSt w ((W.alloc (.cells #[.slice (some ⟨b, o, none⟩) n c] 30)).alloc (.cells #[.int .i64 0] 3)) b o n c W.heap.size (W.heap.size + 1) 2 N 0) := fun W hW => RdSt.start w W b o n c 2 N hW hbw hrow
  have hH : Hid (Src w (.slice (some ⟨b, o, none⟩) n c) l) := h
  have hlD : (l.drop 2).length ≤ 2000 := by simp; omega
  have hbc := @But.cell
  have hbf := @But.frozen
  have n1 : b ≠ w.heap.size + 1 := by omega
  clear h hn hrow h2 hl
  go_enter Try.func65, Try.ntmps65
  go_wp2_with fail
  refine (readers_any _ _ _ _).mono ?_
  rintro _ _ ⟨rfl, rfl⟩
  have st0 := st.out ((w.alloc (.cells #[.int .i64 0, .bool false, .int .i64 0] 32)).alloc (.cells #[.int .i64 0, .bool false, .int .i64 0] 32)) (by go_grown)
  simp only [World.size_alloc] at st0
  have S0 : Hid (RdSt w _ b o n c (w.heap.size + 1 + 1) (w.heap.size + 1 + 1 + 1) 2 N 0) := st0
  clear st0 st
  go_wp2_with fail
  refine Calls.on_read (S0.out.read 3 hn2 hn4 (by omega) (by omega) (by omega)) ?_
  intro z1 hz1
  have S1 : Hid (RdSt w _ b o n c (w.heap.size + 1 + 1) (w.heap.size + 1 + 1 + 1) 2 N 3) := (S0.out.but z1 hz1).set (w.heap.size + 1) 0 (.int .i64 (rN 2 N 0 3)) n1 (by omega) (by omega) (by omega)
  clear hz1
  go_wp2_with fail
  refine Calls.on_read (S1.out.read 1 hn2 hn4 (by omega) (by omega) (by omega)) ?_
  intro z2 hz2
  have q1 : z1.val.heap.size = w.heap.size + 4 := by have := z1.size; simpa using this
  have q2 : z2.val.heap.size = w.heap.size + 4 := by have := z2.size; simpa [q1] using this
  have S2 : Hid (RdSt w z2.val b o n c (w.heap.size + 1 + 1) (w.heap.size + 1 + 1 + 1) 2 N 4) := S1.out.but z2 hz2
  clear hz2 S0 S1
  go_wp2_with fail
  refine Calls.on_read ((S2.out.set (w.heap.size + 1) 1 _ n1 (by omega) (by omega) (by omega)).read 12 hn2 hn4 (by omega) (by omega) (by omega)) ?_
  intro z3 hz3
  have q3 : z3.val.heap.size = w.heap.size + 4 := by have := z3.size; simpa [q2] using this
  have B3 : Hid (Below w.heap.size w z3.val) := ((S2.out.set (w.heap.size + 1) 1 _ n1 (by omega) (by omega) (by omega)).but z3 hz3).below
  clear hz3 S2
  have hlc := @Later.cell
  by_cases hk : tagOk (rN 2 N 0 3) (rN 2 N 4 12) = true
  · go_wp2_with fail
    refine Calls.on_later (check_yes _ _ _ _ hk) ?_
    intro y
    have By : Hid (Below w.heap.size w y.val) := below_over (B3.out.setCell (by simp) _) y.below
    have t2 : y.val.heap[w.heap.size]? = some (.cells #[.int .i64 0, .bool false, .int .i64 0] 32 (0, 0)) := by
      rw [y.below.block _ (by simp [q3]), heap_setCell_other _ _ _ _ (by simp), z3.rest _ (by omega), heap_setCell_other _ _ _ _ (by simp), z2.rest _ (by omega), heap_setCell_other _ _ _ _ (by simp), z1.rest _ (by omega),
        Below.heap_alloc _ _ _ (by simp; omega), Below.heap_alloc _ _ _ (by simp; omega), Below.heap_alloc _ _ _ (by simp), alloc_at]
    have t50 : y.val.cell? ⟨w.heap.size + 1, 0, none⟩ = some (.int .i64 (rN 2 N 0 3)) := by
      rw [hlc y _ _ (by simp [q3])]; simp [hbc, go_sem]
    have t51 : y.val.cell? ⟨w.heap.size + 1, 1, none⟩ = some (.bool (((rN 2 N 3 1 : Nat) : Int) == 1)) := by
      rw [hlc y _ _ (by simp [q3])]; simp [hbc, go_sem]
    have t52 : y.val.cell? ⟨w.heap.size + 1, 2, none⟩ = some (.int .i64 (rN 2 N 4 12)) := by
      rw [hlc y _ _ (by simp [q3])]; simp [hbc, go_sem]
    obtain ⟨Wy, hWy⟩ : ∃ Wy, y.val = Wy := ⟨_, rfl⟩
    rw [hWy] at t2 t50 t51 t52 By ⊢
    clear hlc hbc hbf q1 q2 q3 B3 hWy y z3 z2 z1
    have c20 := cell3_0 t2
    have c21 := cell3_1 t2
    have c22 := cell3_2 t2
    have f2 := frozen3 t2
    have s0 := set3_0 t2
    have s1 := set3_1 t2
    have s2 := set3_2 t2
    have hD : Hid (Src Wy.drew (dropV b o n c 2) (l.drop 2)) := (src_dropV (hH.out.below By.out) 2 hn2).below (Below.refl _ _).drew
    have hsl : ∀ W, (slS (.slice (some ⟨b, o, none⟩) n c) (some (.int .i64 2)) none none).run Try.prog W = .ok (dropV b o n c 2) W := fun W => slS_drop b o n c 2 hn2 hc hm W
    have hlt := lt_of_block t2
    have hlt5 := World.block_lt_of_cell? _ _ t50
    go_wp2
    go_region_held3 (fun w' => w'.cell? ⟨w.heap.size + 1, 0, none⟩ = some (.int .i64 (rN 2 N 0 3)) ∧ w'.cell? ⟨w.heap.size + 1, 1, none⟩ = some (.bool (((rN 2 N 3 1 : Nat) : Int) == 1)) ∧ w'.cell? ⟨w.heap.size + 1, 2, none⟩ = some (.int .i64 (rN 2 N 4 12))) (go_keep) ((first | (go_at_call 66; refine (clone_v _ (l.drop 2) _ hD.out hlD).mono ?_; rintro _ w7 ⟨s7, rfl, ho7, hb7⟩; have t7 := (hb7.block _ hlt).trans t2; have k0 := (hb7.cell (p := ⟨w.heap.size + 1, 0, none⟩) hlt5).trans t50; have k1 := (hb7.cell (p := ⟨w.heap.size + 1, 1, none⟩) hlt5).trans t51; have k2 := (hb7.cell (p := ⟨w.heap.size + 1, 2, none⟩) hlt5).trans t52; have d0 := cell3_0 t7; have d1 := cell3_1 t7; have d2 := cell3_2 t7; have f7 := frozen3 t7)))
    have r0 := set3_0 t7
    have r1 := set3_1 t7
    have r2 := set3_2 t7
    have HO : Hid (Own w7 Wy.heap.size s7 (l.drop 2)) := ho7
    have HB : Hid (Below w.heap.size w w7) := By.out.trans ((Below.refl _ _).drew.trans (hb7.mono (Nat.le_of_lt hlt)))
    clear ho7 hb7 d0 d1 d2 f7 k0 k1 k2 t7 hD hsl
    go_wp2
    refine bodyPost_ret (v := .tuple #[.agg #[.int .i64 (rN 2 N 0 3), .bool (((rN 2 N 3 1 : Nat) : Int) == 1), .int .i64 (rN 2 N 4 12)], s7, .int .i64 0]) (by simp [results, Try.results65, go_sem, r0, r1, r2]) rfl ?_
    obtain ⟨y1, y2, y3, y4⟩ := hY hk
    refine ⟨s7, by rw [y1, y2, y3, y4], ?_, ((HB.out.setCell (by simp) _).setCell (by simp) _).setCell (by simp) _⟩
    have e : tkR l = l.drop 2 := by unfold tkR; rw [if_pos y1]
    rw [e]
    exact Own.base (ownsRow_setCell_below (ownsRow_setCell_below (ownsRow_setCell_below HO.out (by simpa using hlt) _) (by simpa using hlt) _) (by simpa using hlt) _) (Nat.le_of_lt hlt)
  · have hk' : tagOk (rN 2 N 0 3) (rN 2 N 4 12) = false := by simpa using hk
    clear hk
    go_wp2_with fail
    refine Calls.on_later (check_no _ _ _ _ hk') ?_
    intro y
    have By : Hid (Below w.heap.size w y.val) := below_over (B3.out.setCell (by simp) _) y.below
    have t2 : y.val.heap[w.heap.size]? = some (.cells #[.int .i64 0, .bool false, .int .i64 0] 32 (0, 0)) := by
      rw [y.below.block _ (by simp [q3]), heap_setCell_other _ _ _ _ (by simp), z3.rest _ (by omega), heap_setCell_other _ _ _ _ (by simp), z2.rest _ (by omega), heap_setCell_other _ _ _ _ (by simp), z1.rest _ (by omega),
        Below.heap_alloc _ _ _ (by simp; omega), Below.heap_alloc _ _ _ (by simp; omega), Below.heap_alloc _ _ _ (by simp), alloc_at]
    have t50 : y.val.cell? ⟨w.heap.size + 1, 0, none⟩ = some (.int .i64 (rN 2 N 0 3)) := by
      rw [hlc y _ _ (by simp [q3])]; simp [hbc, go_sem]
    have t51 : y.val.cell? ⟨w.heap.size + 1, 1, none⟩ = some (.bool (((rN 2 N 3 1 : Nat) : Int) == 1)) := by
      rw [hlc y _ _ (by simp [q3])]; simp [hbc, go_sem]
    have t52 : y.val.cell? ⟨w.heap.size + 1, 2, none⟩ = some (.int .i64 (rN 2 N 4 12)) := by
      rw [hlc y _ _ (by simp [q3])]; simp [hbc, go_sem]
    obtain ⟨Wy, hWy⟩ : ∃ Wy, y.val = Wy := ⟨_, rfl⟩
    rw [hWy] at t2 t50 t51 t52 By ⊢
    clear hlc hbc hbf q1 q2 q3 B3 hWy y z3 z2 z1
    have c20 := cell3_0 t2
    have c21 := cell3_1 t2
    have c22 := cell3_2 t2
    have f2 := frozen3 t2
    have s0 := set3_0 t2
    have s1 := set3_1 t2
    have s2 := set3_2 t2
    go_wp2
    refine bodyPost_ret (v := .tuple #[.agg #[.int .i64 0, .bool false, .int .i64 0], .slice none 0 0, .int .i64 20]) (by simp [results, Try.results65, go_sem, s0, s1, s2]) rfl ?_
    refine tk_out_err 20 (hE hk') (by decide) ?_
    exact ((By.out.setCell (by simp) _).setCell (by simp) _).setCell (by simp) _

theorem two_bytes {l : List Int} (h2 : 2 ≤ l.length) (hb : ∀ x ∈ l, 0 ≤ x ∧ x ≤ 255) : ∃ N : Nat, tkN l = (N : Int) ∧ N < 65536 ∧ (∀ j, j < 2 → byN 2 N j = l.getD j 0) := by
  match l, h2 with
  | x :: y :: r, _ =>
    have hx := hb x (by simp)
    have hy := hb y (by simp)
    obtain ⟨X, rfl⟩ := Int.eq_ofNat_of_zero_le hx.1
    obtain ⟨Y, rfl⟩ := Int.eq_ofNat_of_zero_le hy.1
    refine ⟨X * 256 + Y, by unfold tkN; simp, by omega, ?_⟩
    intro j hj
    have hj' : j = 0 ∨ j = 1 := by omega
    rcases hj' with rfl | rfl
    · unfold byN; simp; omega
    · unfold byN; simp; omega

theorem take_any (a : Option Addr) (n c : Nat) (l : List Int) (w : World) (h : Src w (.slice a n c) l) (hl : l.length ≤ 2000) (hb : ∀ x ∈ l, 0 ≤ x ∧ x ≤ 255) :
    Calls Try.prog 65 #[.slice a n c] w fun r w' => TkOut w l r w' := by
  by_cases h2 : l.length < 2
  · exact take_short a n c l w h h2
  · obtain ⟨b, o, rfl, _, hj⟩ := src_some h (by omega)
    obtain ⟨N, hN, hN2, hby⟩ := two_bytes (by omega) hb
    have e1 : ((rN 2 N 0 3 : Nat) : Int) = tkN l / 8192 := by rw [hN]; unfold rN; simp; omega
    have e2 : ((rN 2 N 3 1 : Nat) : Int) = tkN l / 4096 % 2 := by rw [hN]; unfold rN; simp
    have e3 : ((rN 2 N 4 12 : Nat) : Int) = tkN l % 4096 := by rw [hN]; unfold rN; simp
    refine take_long b o n c N l w h (by omega) hl (fun j hj2 => by rw [hj j (by omega), hby j hj2]) ?_ ?_
    · intro hk
      rw [e1, e3] at hk
      unfold tkE
      rw [if_neg h2, hk]
      rfl
    · intro hk
      rw [e1, e3] at hk
      have h0 : tkE l = 0 := by unfold tkE; rw [if_neg h2, hk]; rfl
      unfold tkP tkD tkV
      rw [h0, e1, e2, e3]
      exact ⟨rfl, if_pos rfl, if_pos rfl, if_pos rfl⟩
end S4
end

end Go.Proofs.Ytgjagedngdhdaaa
