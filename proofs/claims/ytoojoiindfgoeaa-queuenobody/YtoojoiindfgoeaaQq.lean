/-
  A queue beside the definition's: what stays where; calls that are handed in.
-/
import Derived.Test.YtoojoiindfgoeaaQf
import Derived.Test.YtoojoiindfgoeaaQt
import Derived.Test.YtoojoiindfgoeaaQa
namespace Go.Proofs.Ytoojoiindfgoeaa
set_option linter.unusedVariables false
set_option maxRecDepth 4000
set_option linter.unusedSimpArgs false
open Go.RowKit Go.Conc

theorem RvAt.get {W : World} {b : Nat} {ty : TypeId} {cs : Array Value} (h : RvAt W b ty cs) (o : Nat) : W.cell? ⟨b, o, none⟩ = cs[o]? := by
  unfold RvAt at h
  simp [World.cell?, h]
theorem SlAt.chan {α : Type} {e : El α} (k : e.Ok) {W W' : World} {a : Option Addr} {n c' : Nat} {l : List α} {c cap : Nat} {buf : Array Value} {cl tm : Bool} {s r : Nat} (h : SlAt e W a n c' l) (hc : W.heap[c]? = some (.chan cap buf cl s r tm)) (hg : W.grownBy W' (some c)) : SlAt e W' a n c' l := by
  refine h.keptBut hg fun x hx h0 => ?_
  intro e'
  obtain ⟨b, o, rfl⟩ := h.some' h0
  cases hx
  cases e'
  obtain ⟨y, hy⟩ : ∃ y, l[0]? = some y := ⟨_, List.getElem?_eq_getElem (by rw [h.len]; exact h0)⟩
  have hs : 0 < (e.f y).size := by rw [k.size]; exact k.pos
  have := h.cell k hy (Array.getElem?_eq_getElem hs) rfl
  unfold World.cell? at this
  rw [hc] at this
  cases this
theorem RowsS.chan {W W' : World} {a : Option Addr} {n c' : Nat} {L : List (List Int)} {c cap : Nat} {buf : Array Value} {cl tm : Bool} {s r : Nat} (h : RowsS W a n c' L) (hc : W.heap[c]? = some (.chan cap buf cl s r tm)) (hg : W.grownBy W' (some c)) : RowsS W' a n c' L := by
  obtain ⟨tt, h1, h2⟩ := h
  exact ⟨tt, h1.chan kS hc hg, h2.mono fun _ _ hh => SlAt.chan kU hh hc hg⟩
/-- Bytes stay where a definition's queue is stored. -/
theorem SlAt.apartR {W W' : World} {g : Nat} {m : Int} {z : Value} {a : Option Addr} {n c : Nat} {l : List Int} (h : SlAt eU W a n c l) (hq : RqAt W g m z) (hz : ∃ x y u, z = .slice x y u) (hg : W.grownBy W' (some g)) : SlAt eU W' a n c l := by
  refine h.keptBut hg fun x hx h0 => ?_
  intro e'
  obtain ⟨b, o, rfl⟩ := h.some' h0
  cases hx
  cases e'
  obtain ⟨y, hy⟩ : ∃ y, l[0]? = some y := ⟨_, List.getElem?_eq_getElem (by rw [h.len]; exact h0)⟩
  have h1 := lU h hy
  rw [Nat.add_zero] at h1
  have h2 : W.cell? ⟨b, o, none⟩ = (qcs m z)[o]? := RvAt.get hq o
  rw [h2] at h1
  obtain ⟨x1, x2, x3, rfl⟩ := hz
  match o, h1 with
  | 0, h1 => cases h1
  | 1, h1 => cases h1
theorem RowsS.apartR {W W' : World} {g : Nat} {m : Int} {z : Value} {a : Option Addr} {n c : Nat} {L : List (List Int)} (h : RowsS W a n c L) (hq : RqAt W g m z) (hz : ∃ x y u, z = .slice x y u) (hne : ∀ y, a = some y → y.block ≠ g) (hg : W.grownBy W' (some g)) : RowsS W' a n c L := by
  obtain ⟨tt, h1, h2⟩ := h
  exact ⟨tt, h1.keptBut hg fun x hx _ e => hne x hx (by cases e; rfl), h2.mono fun _ _ hh => SlAt.apartR hh hq hz hg⟩
theorem QAt.apartR {w W W' : World} {b c cap : Nat} {rr : List Sl} {L : List (List Int)} {s r : Nat} {g : Nat} {m : Int} {z : Value} (h : QAt w W b c cap rr L s r) (hq : RqAt W g m z) (hlo : w.heap.size ≤ g) (hg : W.grownBy W' (some g)) : QAt w W' b c cap rr L s r := by
  refine h.keep hg fun j e => ?_
  cases e
  have hq' : W.heap[g]? = some (.cells (qcs m z) 29 (0, 0)) := hq
  refine ⟨hlo, fun e => ?_, fun e => ?_, fun x hx e => ?_⟩
  · have h1 : W.heap[b]? = some (.cells #[.chan (some c)] 50 (0, 0)) := h.pt
    rw [← e, hq'] at h1
    cases h1
  · have h1 := h.ch
    rw [← e, hq'] at h1
    cases h1
  · obtain ⟨j, hj, ej⟩ := List.getElem_of_mem hx
    have := h.al.at' j x _ (by rw [← ej]; exact List.getElem?_eq_getElem hj) (List.getElem?_eq_getElem (by rw [← h.rlen]; exact hj))
    obtain ⟨c2, q2⟩ := Own.kind (e := eU) this e
    rw [hq'] at q2
    cases q2
/-- Both queues, the definition's in block g. -/
structure QrS (w V : World) (g b c cap : Nat) (rr : List Sl) (L : List (List Int)) (s r : Nat) (ra : Option Addr) (rn rc : Nat) : Prop where
  q : QAt w V b c cap rr L s r
  v : RqAt V g cap (.slice ra rn rc)
  rs : RowsS V ra rn rc L
  ne : ∀ y, ra = some y → y.block ≠ g
  lo : w.heap.size ≤ g
theorem QrS.below {w V V' : World} {g b c cap : Nat} {rr : List Sl} {L : List (List Int)} {s r : Nat} {ra : Option Addr} {rn rc : Nat} (h : QrS w V g b c cap rr L s r ra rn rc) (hb : Below V.heap.size V V') : QrS w V' g b c cap rr L s r ra rn rc := ⟨h.q.below hb, h.v.below hb, h.rs.below hb, h.ne, h.lo⟩
/-- The code's queue turned. -/
theorem QrS.code {w V V' : World} {g b c cap : Nat} {rr rr' : List Sl} {L L' : List (List Int)} {s r s' r' : Nat} {ra : Option Addr} {rn rc : Nat} (h : QrS w V g b c cap rr L s r ra rn rc) (q : QAt w V' b c cap rr' L' s' r') (hg : V.grownBy V' (some c)) : RqAt V' g cap (.slice ra rn rc) ∧ RowsS V' ra rn rc L := by
  refine ⟨RvAt.keptBut h.v hg fun e => ?_, h.rs.chan h.q.ch hg⟩
  cases e
  have h1 := h.q.ch
  have h2 : V.heap[g]? = some (.cells (qcs cap (.slice ra rn rc)) 29 (0, 0)) := h.v
  rw [h2] at h1
  cases h1
theorem rq_code {w V V' : World} {g b c cap : Nat} {rr : List Sl} {L M : List (List Int)} {s r : Nat} {m : Int} {z : Value} {ra : Option Addr} {rn rc : Nat} (q : QAt w V b c cap rr M s r) (v : RqAt V g m z) (rs : RowsS V ra rn rc L) (hg : V.grownBy V' (some c)) : RqAt V' g m z ∧ RowsS V' ra rn rc L := by
  refine ⟨RvAt.keptBut v hg fun e => ?_, rs.chan q.ch hg⟩
  cases e
  have h1 := q.ch
  have h2 : V.heap[g]? = some (.cells (qcs m z) 29 (0, 0)) := v
  rw [h2] at h1
  cases h1
theorem TakeOut.any {w W W' : World} {b c cap : Nat} {rr : List Sl} {L : List (List Int)} {e : Ending} (h : TakeOut w W b c cap rr L e W') : ∃ v1 v2, e = .returned (.tuple #[v1, .bool v2]) ∧ ∃ rr' L' s' r', QAt w W' b c cap rr' L' s' r' := by
  cases L with
  | nil =>
    obtain ⟨e1, s, r, q⟩ := h.none rfl
    exact ⟨_, _, e1, _, _, _, _, q⟩
  | cons l L =>
    obtain ⟨x, rr', _, e1, _, s, r, q⟩ := h.some l L rfl
    exact ⟨_, _, e1, _, _, _, _, q⟩
/-- The definition's queue stored anew. -/
theorem QrS.ref {w V : World} {g b c cap : Nat} {rr : List Sl} {L : List (List Int)} {s r : Nat} {a : Option Addr} {n k : Nat} {m : Int} {z : Value} (q : QAt w V b c cap rr L s r) (v : RqAt V g m z) (hz : ∃ x y u, z = .slice x y u) (lo : w.heap.size ≤ g) (rs : RowsS V a n k L) (ne : ∀ y, a = some y → y.block ≠ g) :
    ∃ V', (stS 29 (.pointer (some ⟨g, 0, none⟩)) (.agg #[.int .i64 cap, .slice a n k])).run Try.prog V = .ok () V' ∧ QrS w V' g b c cap rr L s r a n k := by
  obtain ⟨V', s1, m1, g1⟩ := v.st cap (.slice a n k) rfl
  exact ⟨V', s1, ⟨q.apartR v lo g1, m1, rs.apartR v hz ne g1, ne, lo⟩⟩
/-! ### calls that are handed in -/
structure Oq where
  k : Int
  a : Option Addr
  n : Nat
  c : Nat
def Oq.cs (x : Oq) : Array Value := #[.int .i64 x.k, .slice x.a x.n x.c]
def eO : El Oq := ⟨Oq.cs, 35, 22, 2, 32⟩
theorem kO : eO.Ok := ⟨fun _ => rfl, by decide, fun _ => one_of rfl, Try.underlying22, ⟨.agg (Oq.cs ⟨0, none, 0, 0⟩), by kernel_rfl, rfl⟩, by decide⟩
structure Oa where
  k : Int
  b : List Int
def IsOp (W : World) (x : Oq) (y : Oa) : Prop := x.k = y.k ∧ SlAt eU W x.a x.n x.c y.b
/-- The calls. -/
structure Ops (W : World) (a : Option Addr) (n c : Nat) (tt : List Oq) (os : List Oa) : Prop where
  sl : SlAt eO W a n c tt
  al : Al (IsOp W) tt os
theorem Ops.below {W W' : World} {a : Option Addr} {n c : Nat} {tt : List Oq} {os : List Oa} (h : Ops W a n c tt os) (hb : Below W.heap.size W W') : Ops W' a n c tt os := ⟨h.sl.below hb, h.al.mono fun _ _ hh => ⟨hh.1, hh.2.below hb⟩⟩
theorem lO0 {W : World} {b o n c i : Nat} {l : List Oq} {x : Oq} (h : SlAt eO W (some ⟨b, o, none⟩) n c l) (hx : l[i]? = some x) : W.cell? ⟨b, o + i * 2, none⟩ = some (.int .i64 x.k) := h.cell kO (j := 0) hx rfl rfl
theorem lO1 {W : World} {b o n c i : Nat} {l : List Oq} {x : Oq} (h : SlAt eO W (some ⟨b, o, none⟩) n c l) (hx : l[i]? = some x) : W.cell? ⟨b, o + i * 2 + 1, none⟩ = some (.slice x.a x.n x.c) := h.cell kO (j := 1) hx rfl rfl
theorem Ops.get {W : World} {a : Option Addr} {n c : Nat} {tt : List Oq} {os : List Oa} (h : Ops W a n c tt os) {i : Nat} (hi : i < n) : ∃ x y, tt[i]? = some x ∧ os[i]? = some y ∧ IsOp W x y := by
  obtain ⟨x, hx⟩ : ∃ x, tt[i]? = some x := ⟨_, List.getElem?_eq_getElem (by rw [h.sl.len]; exact hi)⟩
  obtain ⟨y, hy⟩ : ∃ y, os[i]? = some y := ⟨_, List.getElem?_eq_getElem (by rw [← h.al.len, h.sl.len]; exact hi)⟩
  exact ⟨x, y, hx, hy, h.al.at' i x y hx hy⟩
/-- A slice's first part. -/
theorem sl_take {W : World} {a : Option Addr} {n c : Nat} {l : List Int} (h : SlAt eU W a n c l) {m : Nat} (hm : m ≤ n) : SlAt eU W a m c (l.take m) := by
  refine ⟨by rw [List.length_take, h.len]; omega, Nat.le_trans hm h.cap, h.max, fun e => ?_, fun x hx h0 => ?_⟩
  · have := h.nil e
    omega
  · obtain ⟨b, o, e, hc⟩ := h.cells x hx (by omega)
    refine ⟨b, o, e, fun j u hj => hc j u ?_⟩
    rw [El.fl_get kU] at hj ⊢
    have hK : eU.K = 1 := rfl
    rw [hK, Nat.div_one, Nat.mod_one] at hj ⊢
    rw [List.getElem?_take] at hj
    split at hj
    · exact hj
    · cases hj
end Go.Proofs.Ytoojoiindfgoeaa
