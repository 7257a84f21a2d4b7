/-
  Bytes and rows of bytes in memory; a queue in memory; walks of Clone, nobody, New, Len and Room, each for every input.
-/
import Derived.Test.YtoojoiindfgoeaaSq
import Derived.Test.YtoojoiindfgoeaaTail
import Derived.Test.YtoojoiindfgoeaaCw
import Derived.Laws.BytesString
import Derived.Laws.Cells
namespace Go.Proofs.Ytoojoiindfgoeaa
set_option linter.unusedVariables false
set_option maxRecDepth 4000
set_option linter.unusedSimpArgs false
open Go.RowKit Go.Conc

theorem one_of {l : List Value} (h : l.all (fun v => v.oneCell') = true) : ∀ v ∈ l, v.oneCell' = true := fun v hv => List.all_eq_true.1 h v hv
/-- Two lists, member by member. -/
def Al {α β : Type} (R : α → β → Prop) : List α → List β → Prop
  | [], [] => True
  | x :: r, y :: l => R x y ∧ Al R r l
  | _, _ => False
section
variable {α β : Type} {R S : α → β → Prop}
theorem Al.len : ∀ {r : List α} {l : List β}, Al R r l → r.length = l.length
  | [], [], _ => rfl
  | x :: r, y :: l, h => by rw [List.length_cons, List.length_cons, Al.len h.2]
  | [], _ :: _, h => h.elim
  | _ :: _, [], h => h.elim
theorem Al.mono (hm : ∀ x y, R x y → S x y) : ∀ {r : List α} {l : List β}, Al R r l → Al S r l
  | [], [], _ => trivial
  | x :: r, y :: l, h => ⟨hm x y h.1, Al.mono hm h.2⟩
  | [], _ :: _, h => h.elim
  | _ :: _, [], h => h.elim
theorem Al.monoM : ∀ {r : List α} {l : List β}, (∀ x ∈ r, ∀ y, R x y → S x y) → Al R r l → Al S r l
  | [], [], _, _ => trivial
  | x :: r, y :: l, hm, h => ⟨hm x (List.mem_cons_self ..) y h.1, Al.monoM (fun z hz => hm z (List.mem_cons_of_mem _ hz)) h.2⟩
  | [], _ :: _, _, h => h.elim
  | _ :: _, [], _, h => h.elim
theorem Al.snoc {x : α} {y : β} (hx : R x y) : ∀ {r : List α} {l : List β}, Al R r l → Al R (r ++ [x]) (l ++ [y])
  | [], [], _ => ⟨hx, trivial⟩
  | z :: r, t :: l, h => ⟨h.1, Al.snoc hx h.2⟩
  | [], _ :: _, h => h.elim
  | _ :: _, [], h => h.elim
theorem Al.at' : ∀ {r : List α} {l : List β}, Al R r l → ∀ (i : Nat) (x : α) (y : β), r[i]? = some x → l[i]? = some y → R x y
  | [], [], _, i, x, y, hx, _ => by simp at hx
  | z :: r, t :: l, h, 0, x, y, hx, hy => by
    cases hx
    cases hy
    exact h.1
  | z :: r, t :: l, h, i + 1, x, y, hx, hy => Al.at' h.2 i x y hx hy
  | [], _ :: _, h, _, _, _, _, _ => h.elim
  | _ :: _, [], h, _, _, _, _, _ => h.elim
theorem Al.app : ∀ {r r' : List α} {l l' : List β}, Al R r l → Al R r' l' → Al R (r ++ r') (l ++ l')
  | [], _, [], _, _, h' => h'
  | z :: r, _, t :: l, _, h, h' => ⟨h.1, Al.app h.2 h'⟩
  | [], _, _ :: _, _, h, _ => h.elim
  | _ :: _, _, [], _, h, _ => h.elim
end
/-! ### rows -/
def eU : El Int := ⟨fun n => #[.int .u8 n], 5, 33, 1, 1⟩
theorem kU : eU.Ok := ⟨fun _ => rfl, by decide, fun _ => one_of rfl, Try.underlying33, ⟨.int .u8 0, by kernel_rfl, rfl⟩, by decide⟩
/-- A slice, as it stands in a row. -/
structure Sl where
  a : Option Addr
  n : Nat
  c : Nat
def Sl.v (x : Sl) : Value := .slice x.a x.n x.c
def eS : El Sl := ⟨fun x => #[x.v], 33, 27, 1, 24⟩
theorem kS : eS.Ok := ⟨fun _ => rfl, by decide, fun _ => one_of rfl, Try.underlying27, ⟨.slice none 0 0, by kernel_rfl, rfl⟩, by decide⟩
/-- A slice of one's own that holds bytes. -/
def OwnS (W : World) (B : Nat) (x : Sl) (l : List Int) : Prop := Own eU W B x.v l
/-- .. that leads to them. -/
def SrcS (W : World) (x : Sl) (l : List Int) : Prop := SlAt eU W x.a x.n x.c l
theorem OwnS.src {W : World} {B : Nat} {x : Sl} {l : List Int} (h : OwnS W B x l) : SrcS W x l := by
  obtain ⟨a, c, e, s, _⟩ := Own.form h
  cases x
  cases e
  exact s
theorem OwnS.below {W W' : World} {B : Nat} {x : Sl} {l : List Int} (h : OwnS W B x l) (hb : Below W.heap.size W W') : OwnS W' B x l := Own.below h hb
theorem SrcS.below {W W' : World} {x : Sl} {l : List Int} (h : SrcS W x l) (hb : Below W.heap.size W W') : SrcS W' x l := SlAt.below h hb
theorem lU {W : World} {b o n c i : Nat} {l : List Int} {x : Int} (h : SlAt eU W (some ⟨b, o, none⟩) n c l) (hx : l[i]? = some x) : W.cell? ⟨b, o + i, none⟩ = some (.int .u8 x) := h.cell kU (j := 0) hx rfl (by show o + i = o + (i * 1 + 0); omega)
theorem lS {W : World} {b o n c i : Nat} {l : List Sl} {x : Sl} (h : SlAt eS W (some ⟨b, o, none⟩) n c l) (hx : l[i]? = some x) : W.cell? ⟨b, o + i, none⟩ = some x.v := h.cell kS (j := 0) hx rfl (by show o + i = o + (i * 1 + 0); omega)
def bs (l : List Int) : ByteArray := l.foldl (fun r n => r.push (UInt8.ofNat n.toNat)) ByteArray.empty
theorem str_sl {W : World} {a : Option Addr} {n c : Nat} {l : List Int} (h : SlAt eU W a n c l) : (convert 33 9 (.slice a n c)).run Try.prog W = .ok (.string (bs l)) W := by
  rw [run_convert_bytes_string W 33 9 5 _ _ _ Try.underlying33 Try.underlying5 Try.underlying9]
  by_cases h0 : n = 0
  · subst h0
    have hl : l = [] := List.eq_nil_of_length_eq_zero h.len
    subst hl
    cases a with
    | none => rfl
    | some ad =>
      unfold bs
      rw [run_bytesToString W ad _ _ [] ?_]
      rw [run_loadCells W ad _ (fun j => .int .u8 0) (fun j hj => absurd hj (Nat.not_lt_zero _))]
      rfl
  · obtain ⟨b, o, rfl⟩ := h.some' (by omega)
    unfold bs
    rw [run_bytesToString W ⟨b, o, none⟩ _ _ l ?_]
    rw [run_loadCells W ⟨b, o, none⟩ _ (fun j => .int .u8 (l.getD j 0)) (fun j hj => by
      have hj' : j < l.length := by rw [h.len]; exact hj
      rw [Addr.add_lit]
      have := lU h (List.getElem?_eq_getElem hj')
      rw [this]
      simp [hj'])]
    congr 1
    apply congrArg
    apply List.ext_getElem?
    intro j
    have hl := h.len
    by_cases hj : j < l.length
    · simp [hj, hl ▸ hj]
    · rw [List.getElem?_eq_none (by simp; omega), List.getElem?_eq_none (by simp; omega)]
/-! ### sealed words -/
theorem stU (x y : Value) : Instr.storeAt 33 x y = stS 33 x y := rfl
theorem apU (ty : TypeId) (xs : Array Value) : Builtin.append_ #[33, 33] ty xs = apS 33 ty xs := rfl
theorem apL (ty : TypeId) (xs : Array Value) : Builtin.append_ #[27, 27] ty xs = apS 27 ty xs := rfl
def bsS (t : TypeId) (n : Nat) (ps : Array (Nat × Value)) : Sem Value := Instr.buildSlice t n ps
theorem bsU (n : Nat) (ps : Array (Nat × Value)) : Instr.buildSlice 33 n ps = bsS 33 n ps := rfl
theorem bsL (n : Nat) (ps : Array (Nat × Value)) : Instr.buildSlice 27 n ps = bsS 27 n ps := rfl
theorem bzU (w : World) : (bsS 33 0 #[]).run Try.prog w = .ok (.slice (some ⟨w.heap.size, 0, none⟩) 0 0) (w.alloc (.cells #[] 5)) := by kernel_rfl
theorem bzL (w : World) : (bsS 27 0 #[]).run Try.prog w = .ok (.slice (some ⟨w.heap.size, 0, none⟩) 0 0) (w.alloc (.cells #[] 33)) := by kernel_rfl
theorem b1L (x : Sl) (w : World) : (bsS 27 1 #[(0, x.v)]).run Try.prog w = .ok (.slice (some ⟨w.heap.size, 0, none⟩) 1 1) (w.alloc (.cells #[x.v] 33)) := by cases x; kernel_rfl
theorem b1S (a : Option Addr) (n c : Nat) (w : World) : (bsS 27 1 #[(0, .slice a n c)]).run Try.prog w = .ok (.slice (some ⟨w.heap.size, 0, none⟩) 1 1) (w.alloc (.cells #[.slice a n c] 33)) := by kernel_rfl
attribute [local go_sem ↓] apU apL bsU bsL
attribute [local go_sem] bzU bzL
theorem Own.zero {α : Type} {e : El α} (k : e.Ok) (w : World) : Own e (w.alloc (.cells #[] e.ty)) w.heap.size (.slice (some ⟨w.heap.size, 0, none⟩) 0 0) [] := by
  have h : PAt e (w.alloc (.cells #[] e.ty)) w.heap.size 0 ([] : List α) := ⟨#[], RvAt.new _ _ _, Nat.le_refl _, by unfold maxLen; omega, by simp, by simp [El.fl]⟩
  exact h.own k (Nat.le_refl _)
theorem nyU (w : World) : (binOp .eql 33 (.slice none 0 0) (.slice none 0 0)).run Try.prog w = .ok (.bool true) w := by kernel_rfl
theorem nnU (x : Addr) (n c : Nat) (w : World) : (binOp .eql 33 (.slice (some x) n c) (.slice none 0 0)).run Try.prog w = .ok (.bool false) w := by kernel_rfl
section
attribute [local go_sem] nyU nnU
set_option maxHeartbeats 2000000 in
theorem clone_any (a : Option Addr) (n c : Nat) (l : List Int) (w : World) (hs : SlAt eU w a n c l) (hn : n ≤ 50000) :
    Calls Try.prog 21 #[.slice a n c] w fun r w' => ∃ x : Sl, r = .returned x.v ∧ OwnS w' w.heap.size x l ∧ Below w.heap.size w w' := by
  cases a with
  | none =>
    obtain ⟨rfl, rfl⟩ := hs.nil rfl
    have hl : l = [] := List.eq_nil_of_length_eq_zero hs.len
    subst hl
    go_enter Try.func21, Try.ntmps21
    go_wp2
    go_ret
    exact ⟨⟨none, 0, 0⟩, rfl, Own.nil _ _, Below.refl _ _⟩
  | some x =>
    obtain ⟨W1, hW1⟩ : ∃ W1, w.alloc (.cells #[] 5) = W1 := ⟨_, rfl⟩
    have b1 : Below w.heap.size w W1 := by rw [← hW1]; exact (Below.refl _ _).alloc (Nat.le_refl _) _
    have o1 : Own eU W1 w.heap.size (.slice (some ⟨w.heap.size, 0, none⟩) 0 0) [] := by rw [← hW1]; exact Own.zero kU w
    obtain ⟨v, W2, ap0, o2, g2⟩ := o1.app kU (hs.below b1) (by have := hs.len; simp; omega) b1.size 33
    have ap : (apS 33 33 #[.slice (some ⟨w.heap.size, 0, none⟩) 0 0, .slice (some x) n c]).run Try.prog W1 = .ok v W2 := ap0
    rw [List.nil_append] at o2
    have b2 : Below w.heap.size w W2 := b1.trans (below_of_grown g2 b1.size (fun j e => by cases e; exact Nat.le_refl _))
    obtain ⟨a', c', rfl, _, _⟩ := o2.form
    have F : Hid (Own eU W2 w.heap.size (.slice a' l.length c') l ∧ Below w.heap.size w W2) := ⟨o2, b2⟩
    clear hs b1 o1 o2 g2 b2 hn ap0
    go_enter Try.func21, Try.ntmps21
    go_wp2
    go_ret
    exact ⟨⟨a', l.length, c'⟩, rfl, F.out.1, F.out.2⟩
end
theorem Own.base {α : Type} {e : El α} {W : World} {B B' : Nat} {v : Value} {l : List α} (h : Own e W B v l) (hb : B' ≤ B) : Own e W B' v l := by
  rcases h.2 with h0 | ⟨g, cap, cur, h1, hB, h2⟩
  · exact ⟨h.1, .inl h0⟩
  · exact ⟨h.1, .inr ⟨g, cap, cur, h1, Nat.le_trans hb hB, h2⟩⟩
theorem OwnS.base {W : World} {B B' : Nat} {x : Sl} {l : List Int} (h : OwnS W B x l) (hb : B' ≤ B) : OwnS W B' x l := Own.base (e := eU) h hb
theorem OwnS.lo {W : World} {B : Nat} {x : Sl} {l : List Int} (h : OwnS W B x l) : ∀ z, x.a = some z → B ≤ z.block ∧ z.block < W.heap.size := by
  obtain ⟨a', c', e, _, hbk⟩ := Own.form (e := eU) h
  cases x
  cases e
  exact hbk
/-- Of what kind the block is that a slice owns. -/
theorem Own.kind {α : Type} {e : El α} {W : World} {B : Nat} {v : Value} {l : List α} (h : Own e W B v l) {g : Nat} (hg : v.ownBlock = some g) : ∃ cur, W.heap[g]? = some (.cells cur e.ty (0, 0)) := by
  rcases h.2 with ⟨h0, _⟩ | ⟨g', cap, cur, h1, _, h2, _⟩
  · rw [h0] at hg
    cases hg
  · rw [h1] at hg
    cases hg
    exact ⟨cur, h2⟩
/-- Bytes that one owns stay where rows that one owns grow. -/
theorem OwnS.apart {W W' : World} {B B' : Nat} {x : Sl} {l : List Int} {v : Value} {tt : List Sl} (h : OwnS W B x l) (o : Own eS W B' v tt) (hg : W.grownBy W' v.ownBlock) : OwnS W' B x l := by
  refine Own.keptBut (e := eU) h hg ?_
  cases hx : x.v.ownBlock with
  | none => exact .inl rfl
  | some g =>
    refine .inr fun e => ?_
    obtain ⟨c1, h1⟩ := Own.kind (e := eU) h hx
    obtain ⟨c2, h2⟩ := Own.kind o e.symm
    rw [h1] at h2
    cases h2
/-- What one owns stays where a channel turns. -/
theorem Own.chan {α : Type} {e : El α} {W W' : World} {B c cap : Nat} {buf : Array Value} {cl tm : Bool} {s r : Nat} {v : Value} {l : List α} (h : Own e W B v l) (hc : W.heap[c]? = some (.chan cap buf cl s r tm)) (hg : W.grownBy W' (some c)) : Own e W' B v l := by
  refine h.keptBut hg ?_
  cases hx : v.ownBlock with
  | none => exact .inl rfl
  | some g =>
    refine .inr fun e' => ?_
    obtain ⟨cur, h1⟩ := h.kind hx
    cases e'
    rw [hc] at h1
    cases h1
theorem grown_over {W X X' : World} {r1 r2 : Option Nat} (h : W.grownBy X r1) (k : X.grownBy X' r2) (hr : ∀ g, r2 = some g → W.heap.size ≤ g) : W.grownBy X' r1 :=
  ⟨k.os.trans h.os, k.tape.trans h.tape, k.output.trans h.output, Nat.le_trans h.size k.size, fun i hi hne => (k.block i (Nat.lt_of_lt_of_le hi h.size) (fun e => by have := hr i e.symm; omega)).trans (h.block i hi hne)⟩
/-! ### a queue -/
/-- Who q is: its variable, its channel, what waits there. -/
structure QAt (w W : World) (b c cap : Nat) (rr : List Sl) (L : List (List Int)) (s r : Nat) : Prop where
  bel : Below w.heap.size w W
  pt : RvAt W b 50 #[.chan (some c)]
  ch : W.heap[c]? = some (.chan cap (rr.map Sl.v).toArray false s r false)
  al : Al (OwnS W w.heap.size) rr L
  lo : w.heap.size ≤ b ∧ w.heap.size ≤ c
  cap : L.length ≤ cap ∧ 1 ≤ cap ∧ cap ≤ 32
  sz : ∀ l ∈ L, l.length ≤ 2048
theorem QAt.below {w W W' : World} {b c cap : Nat} {rr : List Sl} {L : List (List Int)} {s r : Nat} (h : QAt w W b c cap rr L s r) (hb : Below W.heap.size W W') : QAt w W' b c cap rr L s r :=
  ⟨below_over h.bel hb, h.pt.below hb, (hb.block c (lt_of_block h.ch)).trans h.ch, h.al.mono fun _ _ hh => hh.below hb, h.lo, h.cap, h.sz⟩
/-- What a queue stands on stays where another block is written. -/
theorem QAt.keep {w W W' : World} {b c cap : Nat} {rr : List Sl} {L : List (List Int)} {s r : Nat} {row : Option Nat} (h : QAt w W b c cap rr L s r) (hg : W.grownBy W' row) (hr : ∀ g, row = some g → w.heap.size ≤ g ∧ g ≠ b ∧ g ≠ c ∧ ∀ x ∈ rr, x.v.ownBlock ≠ some g) : QAt w W' b c cap rr L s r := by
  refine ⟨h.bel.trans (below_of_grown hg h.bel.size (fun j e => (hr j e).1)), h.pt.keptBut hg (fun e => (hr b e.symm).2.1 rfl), ?_, ?_, h.lo, h.cap, h.sz⟩
  · rw [hg.block c (lt_of_block h.ch) (fun e => (hr c e.symm).2.2.1 rfl)]
    exact h.ch
  · refine Al.monoM (fun x hx l hxl => Own.keptBut (e := eU) hxl hg ?_) h.al
    cases hq : x.v.ownBlock with
    | none => exact .inl rfl
    | some g => exact .inr fun e => (hr g e.symm).2.2.2 x hx hq
theorem QAt.ld {w W : World} {b c cap : Nat} {rr : List Sl} {L : List (List Int)} {s r : Nat} (h : QAt w W b c cap rr L s r) : W.cell? ⟨b, 0, none⟩ = some (.chan (some c)) := h.pt.cell 0 _ rfl
theorem QAt.rlen {w W : World} {b c cap : Nat} {rr : List Sl} {L : List (List Int)} {s r : Nat} (h : QAt w W b c cap rr L s r) : rr.length = L.length := h.al.len
theorem ncY (w : World) : (binOp .neq 48 (.chan none) (.chan none)).run Try.prog w = .ok (.bool false) w := by kernel_rfl
theorem ncN (c : Nat) (w : World) : (binOp .neq 48 (.chan (some c)) (.chan none)).run Try.prog w = .ok (.bool true) w := by kernel_rfl
section
attribute [local go_sem] ncN ncY
set_option maxHeartbeats 2000000 in
theorem some_any {b c : Nat} {W : World} (h : RvAt W b 50 #[.chan (some c)]) : Calls Try.prog 19 #[.pointer (some ⟨b, 0, none⟩)] W fun e W' => e = .returned (.bool true) ∧ W = W' := by
  have l0 := h.cell 0 _ rfl
  clear h
  go_enter Try.func19, Try.ntmps19
  go_wp2
  go_ret
  exact ⟨rfl, rfl⟩
set_option maxHeartbeats 2000000 in
theorem none_any (W : World) : Calls Try.prog 19 #[.pointer none] W fun e W' => e = .returned (.bool false) ∧ W = W' := by
  go_enter Try.func19, Try.ntmps19
  go_wp2
  go_ret
  exact ⟨rfl, rfl⟩
set_option maxHeartbeats 2000000 in
theorem bare_any {b : Nat} {W : World} (h : RvAt W b 50 #[.chan none]) : Calls Try.prog 19 #[.pointer (some ⟨b, 0, none⟩)] W fun e W' => e = .returned (.bool false) ∧ W = W' := by
  have l0 := h.cell 0 _ rfl
  clear h
  go_enter Try.func19, Try.ntmps19
  go_wp2
  go_ret
  exact ⟨rfl, rfl⟩
end
end Go.Proofs.Ytoojoiindfgoeaa
