/-
  Rows with one more, rows without one: walks of the code, each for every input. What is provisioned in memory of one's own: plain laws, and the walks of twinMember and twin, each for every input. Rows of bytes: a row that the call itself made; bytes that a slice leads to; what stays of them. Plain laws.
-/
import Derived.Test.YtgjagedngdhdaaaJ05Mor
import Derived.Test.YtgjagedngdhdaaaRows
import Derived.Test.YtgjagedngdhdaaaJ00Later
import Derived.WalkSpells
import Derived.WalkLawsBesides
import Derived.OneCell
import Derived.OwnWalk
import Derived.Laws.Rows
import Derived.Laws.AppendOwn
import Derived.Laws.AppendOwnNone
namespace Go.Proofs.Ytgjagedngdhdaaa

section
set_option linter.unusedVariables false
set_option maxRecDepth 4000
set_option linter.unusedSimpArgs false
open Go.RowKit
attribute [local go_sem ↓] ldM stM ldC stC ldB stB ldP stP apI bsI
attribute [local go_sem] bsI_is bsI2_is

attribute [local go_sem ↓] apM apC apB bsM bsC bsB mkM mkC mkB slM slC slB
attribute [local go_sem] bsM_is bsC_is bsB_is
theorem put_lt {α : Type} {c : α → Int} {x : α} {l : List α} {i : Nat} {y : α} (h : l[i]? = some y) (hc : c y < 0) : l.take i ++ putL c x (l.drop i) = l.take (i + 1) ++ putL c x (l.drop (i + 1)) := by
  rw [drop_at h, putL, if_pos hc, List.take_add_one, h]
  simp
theorem put_eq {α : Type} {c : α → Int} {x : α} {l : List α} {i : Nat} {y : α} (h : l[i]? = some y) (hc : c y = 0) : l.take i ++ putL c x (l.drop i) = l.take i ++ [x] ++ l.drop (i + 1) := by
  rw [drop_at h, putL, if_neg (by omega), if_pos hc]
  simp
theorem put_gt {α : Type} {c : α → Int} {x : α} {l : List α} {i : Nat} {y : α} (h : l[i]? = some y) (hc : 0 < c y) : l.take i ++ putL c x (l.drop i) = l.take i ++ [x] ++ l.drop i := by
  rw [drop_at h, putL, if_neg (by omega), if_neg (by omega)]
  simp
theorem put_end {α : Type} {c : α → Int} {x : α} {l : List α} {i : Nat} (h : l.length ≤ i) : l.take i ++ putL c x (l.drop i) = l.take i ++ [x] ++ l.drop i := by
  rw [drop_end h]
  simp [putL]
theorem own_app {α : Type} {e : El α} (k : e.Ok) {W : World} {B : Nat} {v : Value} {l m : List α} {a : Option Addr} {n c : Nat} (h : Own e W B v l) (hs : SlAt e W a n c m) (hl : l.length + m.length ≤ 100000) (hB : B ≤ W.heap.size) :
    ∃ v' W', (apS e.st e.st #[v, .slice a n c]).run Try.prog W = .ok v' W' ∧ Own e W' B v' (l ++ m) ∧ Below B W W' := by
  obtain ⟨v', W', h1, h2, h3⟩ := h.app k hs hl hB e.st
  exact ⟨v', W', h1, h2, below_of_grown h3 hB (fun j e => (h.blk j e).1)⟩
end

section
set_option linter.unusedVariables false
set_option maxRecDepth 4000
set_option linter.unusedSimpArgs false
open Go.RowKit
attribute [local go_sem ↓] ldM stM ldC stC ldB stB ldP stP apI bsI
attribute [local go_sem] bsI_is bsI2_is

attribute [local go_sem ↓] stIs stKs stMs stCs stBs
/-- Two rows, one for one. -/
def Al (R : Mr → Mb → Prop) : List Mr → List Mb → Prop
  | [], [] => True
  | x :: r, y :: l => R x y ∧ Al R r l
  | _, _ => False
theorem Al.len {R : Mr → Mb → Prop} : ∀ {r : List Mr} {l : List Mb}, Al R r l → r.length = l.length
  | [], [], _ => rfl
  | x :: r, y :: l, h => by rw [List.length_cons, List.length_cons, h.2.len]
  | [], _ :: _, h => h.elim
  | _ :: _, [], h => h.elim
theorem Al.mono {R S : Mr → Mb → Prop} (hm : ∀ x y, R x y → S x y) : ∀ {r : List Mr} {l : List Mb}, Al R r l → Al S r l
  | [], [], _ => trivial
  | x :: r, y :: l, h => ⟨hm x y h.1, h.2.mono hm⟩
  | [], _ :: _, h => h.elim
  | _ :: _, [], h => h.elim
theorem Al.snoc {R : Mr → Mb → Prop} {x : Mr} {y : Mb} (hx : R x y) : ∀ {r : List Mr} {l : List Mb}, Al R r l → Al R (r ++ [x]) (l ++ [y])
  | [], [], _ => ⟨hx, trivial⟩
  | a :: r, b :: l, h => ⟨h.1, h.2.snoc hx⟩
  | [], _ :: _, h => h.elim
  | _ :: _, [], h => h.elim
theorem Al.put {R : Mr → Mb → Prop} {x : Mr} {y : Mb} {c : Mr → Int} {d : Mb → Int} (hx : R x y) (hc : ∀ a b, R a b → c a = d b) : ∀ {r : List Mr} {l : List Mb}, Al R r l → Al R (putL c x r) (putL d y l)
  | [], [], _ => ⟨hx, trivial⟩
  | a :: r, b :: l, h => by
    rw [putL, putL, hc a b h.1]
    split
    · exact ⟨h.1, h.2.put hx hc⟩
    · split
      · exact ⟨hx, h.2⟩
      · exact ⟨hx, h.1, h.2⟩
  | [], _ :: _, h => h.elim
  | _ :: _, [], h => h.elim
theorem Al.fil {R : Mr → Mb → Prop} {c : Mr → Bool} {d : Mb → Bool} (hc : ∀ a b, R a b → c a = d b) : ∀ {r : List Mr} {l : List Mb}, Al R r l → Al R (r.filter c) (l.filter d)
  | [], [], _ => trivial
  | a :: r, b :: l, h => by
    rw [List.filter_cons, List.filter_cons, hc a b h.1]
    split
    · exact ⟨h.1, h.2.fil hc⟩
    · exact h.2.fil hc
  | [], _ :: _, h => h.elim
  | _ :: _, [], h => h.elim
theorem Al.at' {R : Mr → Mb → Prop} : ∀ {r : List Mr} {l : List Mb}, Al R r l → ∀ (i : Nat) (x : Mr) (y : Mb), r[i]? = some x → l[i]? = some y → R x y
  | [], [], _, i, x, y, hx, _ => by simp at hx
  | a :: r, b :: l, h, 0, x, y, hx, hy => by
    simp at hx hy
    rw [← hx, ← hy]
    exact h.1
  | a :: r, b :: l, h, i + 1, x, y, hx, hy => h.2.at' i x y (by simpa using hx) (by simpa using hy)
  | [], _ :: _, h, _, _, _, _, _ => h.elim
  | _ :: _, [], h, _, _, _, _, _ => h.elim
/-- A member whose ports are one's own. -/
def OwnP (W : World) (B : Nat) (x : Mr) (y : Mb) : Prop := x.v = y.v ∧ Own eI W B (.slice x.a x.n x.c) y.ps
theorem Al.mem {W : World} {B : Nat} {r : List Mr} {l : List Mb} (h : Al (OwnP W B) r l) : Mem W r l := by
  refine ⟨h.len, fun i x y hx hy => ?_⟩
  obtain ⟨h1, h2⟩ := h.at' i x y hx hy
  obtain ⟨a, c, e, hs, _⟩ := h2.form
  simp only [Value.slice.injEq] at e
  rw [e.1, e.2.1, e.2.2]
  exact ⟨h1, hs⟩
/-- What is provisioned, all in memory from B on. -/
structure IsOwn (W : World) (B : Nat) (x : Pr) (p : Pv) : Prop where
  o : x.o = p.o
  wf : p.o.wf
  k : Own eK W B x.k p.ks
  m : Own eM W B x.m p.ms
  c : Own eC W B x.c p.cs
  b : ∃ r, Own eB W B x.b r ∧ Al (OwnP W B) r p.bs
theorem IsOwn.pv {W : World} {B : Nat} {x : Pr} {p : Pv} (h : IsOwn W B x p) : IsPv W x p := by
  obtain ⟨r, h1, h2⟩ := h.b
  exact ⟨h.o, h.wf, h.k.slv, h.m.slv, h.c.slv, ⟨r, h1.slv, h2.mem⟩⟩
theorem IsOwn.below {W W' : World} {B : Nat} {x : Pr} {p : Pv} (h : IsOwn W B x p) (hb : Below W.heap.size W W') : IsOwn W' B x p := by
  obtain ⟨r, h1, h2⟩ := h.b
  exact ⟨h.o, h.wf, h.k.below hb, h.m.below hb, h.c.below hb, ⟨r, h1.below hb, h2.mono fun a b h => ⟨h.1, h.2.below hb⟩⟩⟩
theorem IsOwn.mono {W : World} {B B' : Nat} {x : Pr} {p : Pv} (h : IsOwn W B x p) (hb : B' ≤ B) : IsOwn W B' x p := by
  obtain ⟨r, h1, h2⟩ := h.b
  exact ⟨h.o, h.wf, h.k.mono hb, h.m.mono hb, h.c.mono hb, ⟨r, h1.mono hb, h2.mono fun a b h => ⟨h.1, h.2.mono hb⟩⟩⟩
theorem Own.kept {α : Type} {e : El α} {W W' : World} {B g : Nat} {v : Value} {l : List α} (h : Own e W B v l) (hg : W.grownBy W' (some g)) (hl : g < B) : Own e W' B v l := by
  refine h.keptBut hg ?_
  cases hv : v.ownBlock with
  | none => exact Or.inl rfl
  | some k =>
    refine Or.inr fun e => ?_
    cases e
    have := (h.blk g hv).1
    omega
theorem IsOwn.kept {W W' : World} {B g : Nat} {x : Pr} {p : Pv} (h : IsOwn W B x p) (hg : W.grownBy W' (some g)) (hl : g < B) : IsOwn W' B x p := by
  obtain ⟨r, h1, h2⟩ := h.b
  exact ⟨h.o, h.wf, h.k.kept hg hl, h.m.kept hg hl, h.c.kept hg hl, ⟨r, h1.kept hg hl, h2.mono fun a b h => ⟨h.1, h.2.kept hg hl⟩⟩⟩
/-- Rows of another type are not touched by a store into a block of rows. -/
theorem Own.other {α β : Type} {e : El α} {f : El β} {W W' : World} {B g c : Nat} {v : Value} {l : List α} {m : List β} (h : Own e W B v l) (hp : PAt f W g c m) (hne : e.ty ≠ f.ty) (hg : W.grownBy W' (some g)) : Own e W' B v l := by
  refine h.keptBut hg ?_
  rcases h.pat with ⟨rfl, _⟩ | ⟨g', c', rfl, _, hq⟩
  · exact Or.inl rfl
  · refine Or.inr fun e' => hne ?_
    have e2 : g' = g := by simpa [Value.ownBlock] using e'
    subst e2
    obtain ⟨cur, h1, _⟩ := hp
    obtain ⟨cur', h2, _⟩ := hq
    have h3 := h1.symm.trans h2
    simp only [Option.some.injEq, Obj.cells.injEq] at h3
    exact h3.2.1.symm
/-! ### variables stored into -/
theorem PrAt.stK {W : World} {b : Nat} {x : Pr} (h : PrAt W b x) (v : Value) (hv : v.oneCell' = true) : ∃ V, (stS 24 (.pointer (some ⟨b, 6, none⟩)) v).run Try.prog W = .ok () V ∧ PrAt V b { x with k := v } ∧ W.grownBy V (some b) := ⟨_, RvAt.st1 h infoKs (by show 6 < 10; omega) hv, RvAt.set h, grown_row _ _ _⟩
theorem PrAt.stM {W : World} {b : Nat} {x : Pr} (h : PrAt W b x) (v : Value) (hv : v.oneCell' = true) : ∃ V, (stS 25 (.pointer (some ⟨b, 7, none⟩)) v).run Try.prog W = .ok () V ∧ PrAt V b { x with m := v } ∧ W.grownBy V (some b) := ⟨_, RvAt.st1 h infoMs (by show 7 < 10; omega) hv, RvAt.set h, grown_row _ _ _⟩
theorem PrAt.stC {W : World} {b : Nat} {x : Pr} (h : PrAt W b x) (v : Value) (hv : v.oneCell' = true) : ∃ V, (stS 26 (.pointer (some ⟨b, 8, none⟩)) v).run Try.prog W = .ok () V ∧ PrAt V b { x with c := v } ∧ W.grownBy V (some b) := ⟨_, RvAt.st1 h infoCs (by show 8 < 10; omega) hv, RvAt.set h, grown_row _ _ _⟩
theorem PrAt.stB {W : World} {b : Nat} {x : Pr} (h : PrAt W b x) (v : Value) (hv : v.oneCell' = true) : ∃ V, (stS 27 (.pointer (some ⟨b, 9, none⟩)) v).run Try.prog W = .ok () V ∧ PrAt V b { x with b := v } ∧ W.grownBy V (some b) := ⟨_, RvAt.st1 h infoBs (by show 9 < 10; omega) hv, RvAt.set h, grown_row _ _ _⟩
theorem PrAt.st {W : World} {b : Nat} {x y : Pr} (h : PrAt W b x) (hy : ∀ v ∈ y.cs.toList, v.oneCell' = true) : ∃ V, (stS 29 (.pointer (some ⟨b, 0, none⟩)) (.agg y.cs)).run Try.prog W = .ok () V ∧ PrAt V b y ∧ W.grownBy V (some b) := ⟨_, RvAt.st rtP h rfl rfl hy, RvAt.set h, grown_row _ _ _⟩
theorem MrAt.stP {W : World} {b : Nat} {x : Mr} (h : MrAt W b x) (a : Option Addr) (n c : Nat) : ∃ V, (stS 61 (.pointer (some ⟨b, 1, none⟩)) (.slice a n c)).run Try.prog W = .ok () V ∧ MrAt V b ⟨x.v, a, n, c⟩ ∧ W.grownBy V (some b) := ⟨_, RvAt.st1 h infoIs (by show 1 < 2; omega) rfl, RvAt.set h, grown_row _ _ _⟩
theorem MrAt.st {W : World} {b : Nat} {x : Mr} (h : MrAt W b x) (y : Mr) : ∃ V, (stS 76 (.pointer (some ⟨b, 0, none⟩)) (.agg y.cs)).run Try.prog W = .ok () V ∧ MrAt V b y ∧ W.grownBy V (some b) := ⟨_, RvAt.st rtB h rfl rfl (one_of rfl), RvAt.set h, grown_row _ _ _⟩
theorem MrAt.keptBut {W W' : World} {b : Nat} {x : Mr} {row : Option Nat} (h : MrAt W b x) (hg : W.grownBy W' row) (hn : some b ≠ row) : MrAt W' b x := RvAt.keptBut h hg hn
theorem PrAt.keptBut {W W' : World} {b : Nat} {x : Pr} {row : Option Nat} (h : PrAt W b x) (hg : W.grownBy W' row) (hn : some b ≠ row) : PrAt W' b x := RvAt.keptBut h hg hn
def zR : Mr := ⟨0, none, 0, 0⟩
theorem MrAt.zero (W : World) : ∃ V, W.alloc (.cells #[.int .i64 0, .slice none 0 0] 76) = V ∧ MrAt V W.heap.size zR ∧ Below W.heap.size W V ∧ V.heap.size = W.heap.size + 1 := MrAt.new W zR
def zP : Pr := ⟨⟨0, 0, 0, 0, 0, 0⟩, .slice none 0 0, .slice none 0 0, .slice none 0 0, .slice none 0 0⟩
theorem PrAt.zero (W : World) : ∃ V, W.alloc (.cells #[.int .u8 0, .int .u8 0, .int .u8 0, .int .u8 0, .int .u8 0, .int .u8 0, .slice none 0 0, .slice none 0 0, .slice none 0 0, .slice none 0 0] 29) = V ∧ PrAt V W.heap.size zP ∧ Below W.heap.size W V ∧ V.heap.size = W.heap.size + 1 := PrAt.new W zP
/-- What is not too much to be copied. -/
def Sz (p : Pv) : Prop := p.ks.length ≤ 100 ∧ p.ms.length ≤ 100 ∧ p.cs.length ≤ 100 ∧ p.bs.length ≤ 100 ∧ ∀ m ∈ p.bs, m.ps.length ≤ 1000
/-- twin's variables. -/
structure TwS (w V : World) (x : Pr) : Prop where
  var : PrAt V w.heap.size x
  res : PrAt V (w.heap.size + 1) zP
  bel : Below w.heap.size w V
  siz : w.heap.size + 2 ≤ V.heap.size
theorem TwS.below {w V V' : World} {x : Pr} (h : TwS w V x) (hb : Below V.heap.size V V') : TwS w V' x := ⟨h.var.below hb, h.res.below hb, below_over h.bel hb, Nat.le_trans h.siz hb.size⟩
theorem TwS.set {w V V' : World} {x y : Pr} (h : TwS w V x) (hy : PrAt V' w.heap.size y) (hg : V.grownBy V' (some w.heap.size)) : TwS w V' y := ⟨hy, h.res.keptBut hg (by simp), gro h.bel hg (Nat.le_refl _) h.bel.size, Nat.le_trans h.siz hg.size⟩
theorem take_one {l : List Mb} {i : Nat} {z : Mb} (h : l[i]? = some z) : l.take (i + 1) = l.take i ++ [z] := by rw [List.take_add_one, h]; rfl
end

section
namespace S4
set_option linter.unusedVariables false
open Go.RowKit

/-- Block b is a row of cp bytes, byte j is f j. -/
def RowAt (w : World) (b cp : Nat) (f : Nat → Int) : Prop :=
  ∃ cur : Array Value, w.heap[b]? = some (.cells cur 5 (0, 0)) ∧ cur.size = cp ∧ ∀ j, j < cp → cur[j]? = some (.int .u8 (f j))

theorem RowAt.lt {w : World} {b cp : Nat} {f : Nat → Int} (h : RowAt w b cp f) : b < w.heap.size := by
  obtain ⟨cur, h1, _⟩ := h
  exact lt_of_block h1

theorem RowAt.cell {w : World} {b cp : Nat} {f : Nat → Int} (h : RowAt w b cp f) (j : Nat) (hj : j < cp) : w.cell? ⟨b, j, none⟩ = some (.int .u8 (f j)) := by
  obtain ⟨cur, h1, h2, h3⟩ := h
  simp [World.cell?, h1, h3 j hj]

theorem RowAt.live {w : World} {b cp : Nat} {f : Nat → Int} (h : RowAt w b cp f) (j : Nat) : w.frozen? ⟨b, j, none⟩ = false := by
  obtain ⟨cur, h1, h2, h3⟩ := h
  simp [World.frozen?, h1]

theorem RowAt.of_block {w w' : World} {b cp : Nat} {f : Nat → Int} (h : RowAt w b cp f) (e : w'.heap[b]? = w.heap[b]?) : RowAt w' b cp f := by
  obtain ⟨cur, h1, h2⟩ := h
  exact ⟨cur, e.trans h1, h2⟩

theorem RowAt.congr {w : World} {b cp : Nat} {f g : Nat → Int} (h : RowAt w b cp f) (e : ∀ j, j < cp → f j = g j) : RowAt w b cp g := by
  obtain ⟨cur, h1, h2, h3⟩ := h
  exact ⟨cur, h1, h2, fun j hj => by rw [← e j hj]; exact h3 j hj⟩

theorem RowAt.set {w : World} {b cp : Nat} {f : Nat → Int} (h : RowAt w b cp f) (j : Nat) (hj : j < cp) (v : Int) :
    RowAt (w.setCell ⟨b, j, none⟩ (.int .u8 v)) b cp (fun i => if i = j then v else f i) := by
  obtain ⟨cur, h1, h2, h3⟩ := h
  refine ⟨_, heap_setCell_same w b j cur 5 (.int .u8 v) h1, by simp [h2], ?_⟩
  intro i hi
  by_cases e : i = j
  · subst e
    simp [h2, hi]
  · have e' : j ≠ i := fun h => e h.symm
    simp [e, e', h3 i hi]

theorem RowAt.other {w : World} {b cp : Nat} {f : Nat → Int} (h : RowAt w b cp f) {a : Addr} (ha : b ≠ a.block) (v : Value) : RowAt (w.setCell a v) b cp f :=
  h.of_block (heap_setCell_other w a b v ha)
end S4
end

end Go.Proofs.Ytgjagedngdhdaaa
