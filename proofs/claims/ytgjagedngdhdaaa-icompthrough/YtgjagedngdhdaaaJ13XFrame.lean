/-
  Frames in memory: as values, in a variable, loaded and stored whole and by parts. Plain laws over the program's types. The walks of what cuts bytes, of the number that they begin with, and of what tells whether they are too few: for all bytes. The walks of a frame's type, and of whether bytes begin with a tag's type, by definition: for every frame.
-/
import Derived.Test.YtgjagedngdhdaaaJ03Kind
import Derived.Test.YtgjagedngdhdaaaJ11XWhole
import Derived.Test.YtgjagedngdhdaaaJ12XTType
import Derived.Deep.MidRow
import Derived.Laws.CopyRow
import Derived.Laws.Tables
import Derived.Laws.CopyOwn
namespace Go.Proofs.Ytgjagedngdhdaaa

section
namespace S4
set_option linter.unusedVariables false
set_option linter.unusedSimpArgs false
open Go.RowKit

/-- An address of a station. -/
structure M6 where
  a : Int
  b : Int
  c : Int
  d : Int
  e : Int
  f : Int
/-- .. as a value. -/
def M6.v (m : M6) : Value := .agg #[.int .u8 m.a, .int .u8 m.b, .int .u8 m.c, .int .u8 m.d, .int .u8 m.e, .int .u8 m.f]
def M6.l (m : M6) : List Int := [m.a, m.b, m.c, m.d, m.e, m.f]
/-- Its class. -/
def M6.kd (m : M6) : Int := kindOf m.a m.b m.c m.d m.e m.f
/-- Is it bytes? -/
def M6.ok (m : M6) : Prop := ∀ x ∈ m.l, 0 ≤ x ∧ x ≤ 255

/-- A frame, but for its rest. -/
structure Fr where
  d : M6
  s : M6
  t : Bool
  p : Int
  e : Bool
  v : Int
/-- Its tag. -/
def Fr.tag (f : Fr) : Value := .agg #[.int .i64 f.p, .bool f.e, .int .i64 f.v]
def Fr.ok (f : Fr) : Prop := f.d.ok ∧ f.s.ok

/-- A frame's cells; x: its rest. -/
def fcs (f : Fr) (x : Value) : Array Value :=
  #[.int .u8 f.d.a, .int .u8 f.d.b, .int .u8 f.d.c, .int .u8 f.d.d, .int .u8 f.d.e, .int .u8 f.d.f, .int .u8 f.s.a, .int .u8 f.s.b, .int .u8 f.s.c, .int .u8 f.s.d, .int .u8 f.s.e, .int .u8 f.s.f, .bool f.t, .int .i64 f.p, .bool f.e, .int .i64 f.v, x]
theorem fcs_size (f : Fr) (x : Value) : (fcs f x).size = 17 := rfl

/-- Block b is a frame's variable. -/
def FrAt (W : World) (b : Nat) (f : Fr) (x : Value) : Prop := W.heap[b]? = some (.cells (fcs f x) 34 (0, 0))

theorem FrAt.lt {W : World} {b : Nat} {f : Fr} {x : Value} (h : FrAt W b f x) : b < W.heap.size := lt_of_block h
theorem FrAt.below {W W' : World} {b : Nat} {f : Fr} {x : Value} (h : FrAt W b f x) (hb : Below W.heap.size W W') : FrAt W' b f x := (hb.block b h.lt).trans h
theorem FrAt.new (w : World) (f : Fr) (x : Value) : FrAt (w.alloc (.cells (fcs f x) 34)) w.heap.size f x := alloc_at w _
theorem FrAt.of_block {W W' : World} {b : Nat} {f : Fr} {x : Value} (h : FrAt W b f x) (e : W'.heap[b]? = W.heap[b]?) : FrAt W' b f x := e.trans h

/-- A value of many cells, loaded. -/
def ldS (t : TypeId) (x : Value) : Sem Value := Instr.loadAt t x
theorem ldS_MAC (x : Value) : Instr.loadAt 23 x = ldS 23 x := rfl
theorem ldS_Tag (x : Value) : Instr.loadAt 32 x = ldS 32 x := rfl
theorem ldS_Frame (x : Value) : Instr.loadAt 34 x = ldS 34 x := rfl
/-- A whole frame, stored. -/
def stS (t : TypeId) (x y : Value) : Sem Unit := Instr.storeAt t x y
theorem stS_Frame (x y : Value) : Instr.storeAt 34 x y = stS 34 x y := rfl
theorem stS_Tag (x y : Value) : Instr.storeAt 32 x y = stS 32 x y := rfl

theorem info_Frame : (Try.prog.info? 34).map (·.size) = some 17 := by kernel_rfl
theorem info_Tag : (Try.prog.info? 32).map (·.size) = some 3 := by kernel_rfl
theorem info_MAC : (Try.prog.info? 23).map (·.size) = some 6 := by kernel_rfl

theorem FrAt.ld {W : World} {b : Nat} {f : Fr} {x : Value} (h : FrAt W b f x) : (ldS 34 (.pointer (some ⟨b, 0, none⟩))).run Try.prog W = .ok (.agg (fcs f x)) W := by
  unfold ldS
  have := run_loadVar_row (P := Try.prog) W b 34 34 (fcs f x) (0, 0) _ h Try.underlying34 rfl (by rw [fcs_size]; exact info_Frame)
  simp only [Instr.loadAt, Instr.sureAddr, Sem.run_bind, Sem.run_pure, Result.andThen_ok, this]
theorem FrAt.ldd {W : World} {b : Nat} {f : Fr} {x : Value} (h : FrAt W b f x) : (ldS 23 (.pointer (some ⟨b, 0, none⟩))).run Try.prog W = .ok f.d.v W := by
  have hr := World.rangeAt_of_block h 0 6
  exact run_loadAt_mid W b 0 23 _ _ hr Try.underlying23 rfl info_MAC
theorem FrAt.lds {W : World} {b : Nat} {f : Fr} {x : Value} (h : FrAt W b f x) : (ldS 23 (.pointer (some ⟨b, 6, none⟩))).run Try.prog W = .ok f.s.v W := by
  have hr := World.rangeAt_of_block h 6 6
  exact run_loadAt_mid W b 6 23 _ _ hr Try.underlying23 rfl info_MAC
theorem FrAt.ldt {W : World} {b : Nat} {f : Fr} {x : Value} (h : FrAt W b f x) : (ldS 32 (.pointer (some ⟨b, 13, none⟩))).run Try.prog W = .ok f.tag W := by
  have hr := World.rangeAt_of_block h 13 3
  exact run_loadAt_mid W b 13 32 _ _ hr Try.underlying32 rfl info_Tag
theorem FrAt.c {W : World} {b : Nat} {f : Fr} {x : Value} (h : FrAt W b f x) (k : Nat) (v : Value) (hk : (fcs f x)[k]? = some v) : W.cell? ⟨b, k, none⟩ = some v := by
  unfold FrAt at h
  simp [World.cell?, h, hk]
theorem FrAt.c12 {W : World} {b : Nat} {f : Fr} {x : Value} (h : FrAt W b f x) : W.cell? ⟨b, 12, none⟩ = some (.bool f.t) := h.c 12 _ rfl
theorem FrAt.c13 {W : World} {b : Nat} {f : Fr} {x : Value} (h : FrAt W b f x) : W.cell? ⟨b, 13, none⟩ = some (.int .i64 f.p) := h.c 13 _ rfl
theorem FrAt.c14 {W : World} {b : Nat} {f : Fr} {x : Value} (h : FrAt W b f x) : W.cell? ⟨b, 14, none⟩ = some (.bool f.e) := h.c 14 _ rfl
theorem FrAt.c15 {W : World} {b : Nat} {f : Fr} {x : Value} (h : FrAt W b f x) : W.cell? ⟨b, 15, none⟩ = some (.int .i64 f.v) := h.c 15 _ rfl
theorem FrAt.c16 {W : World} {b : Nat} {f : Fr} {x : Value} (h : FrAt W b f x) : W.cell? ⟨b, 16, none⟩ = some x := h.c 16 _ rfl
theorem FrAt.live {W : World} {b : Nat} {f : Fr} {x : Value} (h : FrAt W b f x) (o : Nat) : W.frozen? ⟨b, o, none⟩ = false := by
  unfold FrAt at h
  simp [World.frozen?, h]

theorem fcs_one (g : Fr) (y : Value) (hy : y.oneCell' = true) : ∀ v ∈ (fcs g y).toList, v.oneCell' = true := by
  intro v hv
  simp only [fcs, List.mem_cons, List.not_mem_nil, or_false] at hv
  rcases hv with rfl | rfl | rfl | rfl | rfl | rfl | rfl | rfl | rfl | rfl | rfl | rfl | rfl | rfl | rfl | rfl | rfl
  all_goals first | exact hy | rfl

theorem FrAt.st {W : World} {b : Nat} {f g : Fr} {x y : Value} (h : FrAt W b f x) (hy : y.oneCell' = true) : (stS 34 (.pointer (some ⟨b, 0, none⟩)) (.agg (fcs g y))).run Try.prog W = .ok () (W.setRow b (fcs g y)) := by
  have hs := run_storeCells_at Try.prog b 0 34 (fcs g y).toList 0 (fcs f x) W h (by simp [fcs]) (fcs_one g y hy)
  have hi : ∃ i, Try.prog.info? 34 = some i ∧ i.size = 17 := by
    have := info_Frame
    cases hq : Try.prog.info? 34 with
    | none => rw [hq] at this; cases this
    | some i => rw [hq] at this; exact ⟨i, rfl, by simpa using this⟩
  obtain ⟨i, hi1, hi2⟩ := hi
  have e : ((fcs f x).toList.take (0 + 0) ++ (fcs g y).toList ++ (fcs f x).toList.drop (0 + 0 + (fcs g y).toList.length)).toArray = fcs g y := by
    have : (fcs f x).toList.drop (0 + 0 + (fcs g y).toList.length) = [] := List.drop_eq_nil_of_le (by simp [fcs])
    rw [this]
    simp
  rw [e] at hs
  unfold stS
  simp [Instr.storeAt, Instr.sureAddr, storeVar, sizeOf, typeInfo, hi1, hi2, Value.cells, fcs_size, hs]
theorem FrAt.set {W : World} {b : Nat} {f g : Fr} {x y : Value} (h : FrAt W b f x) : FrAt (W.setRow b (fcs g y)) b g y := setRow_heap W b (fcs f x) (fcs g y) 34 (0, 0) h
theorem FrAt.other {W : World} {b k : Nat} {f : Fr} {x : Value} (h : FrAt W b f x) (hk : b ≠ k) (cs : Array Value) : FrAt (W.setRow k cs) b f x := (setRow_other W k b cs hk).trans h

/-- The frame of zeros. -/
def zeroF : Fr := ⟨⟨0, 0, 0, 0, 0, 0⟩, ⟨0, 0, 0, 0, 0, 0⟩, false, 0, false, 0⟩
theorem zero_agg : (.agg #[.int .u8 0, .int .u8 0, .int .u8 0, .int .u8 0, .int .u8 0, .int .u8 0, .int .u8 0, .int .u8 0, .int .u8 0, .int .u8 0, .int .u8 0, .int .u8 0, .bool false, .int .i64 0, .bool false, .int .i64 0, .slice none 0 0] : Value) = .agg (fcs zeroF (.slice none 0 0)) := rfl
theorem slice_one (a : Option Addr) (n c : Nat) : (Value.slice a n c).oneCell' = true := rfl

theorem src_form {W : World} {x : Value} {l : List Int} (h : Src W x l) : ∃ a n c, x = .slice a n c := by
  obtain ⟨a, c, e, _⟩ := h
  exact ⟨_, _, _, e⟩
theorem src_one {W : World} {x : Value} {l : List Int} (h : Src W x l) : x.oneCell' = true := by
  obtain ⟨a, c, rfl, _⟩ := h
  rfl

theorem Src.take {w : World} {a : Option Addr} {n c : Nat} {l : List Int} (h : Src w (.slice a n c) l) (k : Nat) (hk : k ≤ n) (ha : a ≠ none) : Src w (.slice a k c) (l.take k) := by
  obtain ⟨a', c', e, h2, h3, h4, h5⟩ := h
  cases e
  have hl : (l.take k).length = k := by simp; omega
  refine ⟨a, c, by rw [hl], by rw [hl]; omega, h3, (fun e => absurd e ha), (fun ad e j hj => ?_)⟩
  rw [hl] at hj
  rw [h5 ad e j (by omega)]
  simp [List.getD, List.getElem?_take_of_lt hj]
theorem Src.cap {w : World} {a : Option Addr} {n c c' : Nat} {l : List Int} (h : Src w (.slice a n c) l) (ha : a ≠ none) (h1 : n ≤ c') (h2 : c' ≤ maxLen) : Src w (.slice a n c') l := by
  obtain ⟨a', c0, e, _, _, _, h5⟩ := h
  cases e
  exact ⟨a, c', rfl, h1, h2, (fun e => absurd e ha), h5⟩
end S4
end

section
namespace S4
set_option linter.unusedVariables false
set_option linter.unusedSimpArgs false
open Go.RowKit

theorem slS_front (b o n c k : Nat) (hk : k ≤ n) (hc : n ≤ c) (hm : c ≤ maxLen) (w : World) : (slS (.slice (some ⟨b, o, none⟩) n c) none (some (.int .i64 (k : Nat))) (some (.int .i64 (k : Nat)))).run Try.prog w = .ok (.slice (some ⟨b, o, none⟩) k k) w := by
  unfold slS maxLen at *
  have h1 : (k : Int) ≤ (n : Int) := by omega
  have h2 : (n : Int) ≤ (c : Int) := by omega
  have h3 : (k : Int) ≤ (c : Int) := by omega
  go_simp

attribute [local go_sem ↓] slS_eq

set_option maxHeartbeats 400000 in
theorem cutk_any (a : Option Addr) (n c k : Nat) (l : List Int) (w : World) (h : Src w (.slice a n c) l) (hk : k ≤ l.length) (hk0 : 0 < k) :
    Calls Try.prog 63 #[.slice a n c, .int .i64 (k : Nat)] w fun r w' => ∃ x y, r = .returned (.tuple #[x, y]) ∧ Src w x (l.take k) ∧ Src w y (l.drop k) ∧ Below w.heap.size w w' := by
  obtain ⟨b, o, rfl, _, hj⟩ := src_some h (by omega)
  obtain ⟨hn, hc, hm⟩ := src_short h
  have hs1 : ∀ W, (slS (.slice (some ⟨b, o, none⟩) n c) none (some (.int .i64 (k : Nat))) (some (.int .i64 (k : Nat)))).run Try.prog W = .ok (.slice (some ⟨b, o, none⟩) k k) W := fun W => slS_front b o n c k (by omega) hc hm W
  have hs2 : ∀ W, (slS (.slice (some ⟨b, o, none⟩) n c) (some (.int .i64 (k : Nat))) none none).run Try.prog W = .ok (dropV b o n c k) W := fun W => slS_drop b o n c k (by omega) hc hm W
  have H1 : Hid (Src w (.slice (some ⟨b, o, none⟩) k k) (l.take k)) := (h.take k (by omega) (by simp)).cap (by simp) (Nat.le_refl _) (by omega)
  have H2 : Hid (Src w (dropV b o n c k) (l.drop k)) := src_dropV h k (by omega)
  clear h hj hn hc hm hk hk0
  go_enter Try.func63, Try.ntmps63
  go_wp2
  go_quiet (fail)
  go_wp2
  go_ret2
  exact ⟨_, _, rfl, H1.out, H2.out, below_dn (Below.refl _ _) _⟩

theorem tyN_take {l : List Int} (h : ¬ l.length < 2) : tyN (l.take 2) = tyN l := by
  have h1 : (l.take 2).length = 2 := by simp; omega
  unfold tyN
  rw [if_neg (by omega), if_neg h]
  match l, h with
  | x :: y :: r, _ => rfl
  | [x], h => simp at h
  | [], h => simp at h

set_option maxHeartbeats 400000 in
theorem number_any (x : Value) (l : List Int) (w : World) (h : Src w x l) (hb : ∀ x ∈ l, 0 ≤ x ∧ x ≤ 255) :
    Calls Try.prog 64 #[x] w fun r w' => r = .returned (.int .i64 (tyN l)) ∧ Below w.heap.size w w' := by
  obtain ⟨a, n, c, rfl⟩ := src_form h
  obtain ⟨hn, hc, hm⟩ := src_short h
  by_cases h2 : l.length < 2
  · have h3 : (n : Int) < 2 := by omega
    have e : Hid (tyN l = 0) := by unfold tyN; rw [if_pos h2]; rfl
    clear h hn h2 hb
    go_enter Try.func64, Try.ntmps64
    go_wp2
    go_ret
    exact ⟨ret_int e.out.symm, by go_grown⟩
  · have h3 : ¬ (n : Int) < 2 := by omega
    have H : Hid (Src w (.slice a n c) l ∧ 2 ≤ l.length ∧ ∀ x ∈ l, 0 ≤ x ∧ x ≤ 255) := ⟨h, by omega, hb⟩
    have e : Hid (tyN (l.take 2) = tyN l) := tyN_take h2
    clear h hn h2 hb
    go_enter Try.func64, Try.ntmps64
    go_wp2_with fail
    refine (cutk_any a n c 2 l _ H.out.1 H.out.2.1 (by omega)).mono ?_
    rintro _ w1 ⟨x1, y1, rfl, s1, s2, hb1⟩
    obtain ⟨a1, n1, c1, rfl⟩ := src_form s1
    have S1 : Hid (Src w1 (.slice a1 n1 c1) (l.take 2)) := s1.below hb1
    have B1 : Hid (Below w.heap.size w w1) := hb1
    clear s1 s2 hb1
    go_wp2_with fail
    refine (ttype_any a1 n1 c1 (l.take 2) _ S1.out (by simp; omega) (fun x hx => H.out.2.2 x (List.mem_of_mem_take hx))).mono ?_
    rintro _ w2 ⟨s3, rfl, ho3, hb3⟩
    have B2 : Hid (Below w.heap.size w w2) := below_over B1.out hb3
    clear ho3 hb3
    go_wp2
    go_ret
    exact ⟨ret_int e.out, B2.out⟩

/-- Are bytes too few? -/
def shortB (l : List Int) : Bool := decide (l.length < 14) || (tyN (l.drop 12) == 34984 && decide (l.length < 18))

end S4
end

section
namespace S4
set_option linter.unusedVariables false
set_option linter.unusedSimpArgs false
open Go.RowKit

attribute [local go_sem ↓] slS_eq ldS_MAC ldS_Tag ldS_Frame stS_Frame

theorem kind_m (m : M6) (w : World) (h : m.ok) : Calls Try.prog 70 #[m.v] w fun r w' => r = .returned (.int .i64 m.kd) ∧ Below w.heap.size w w' :=
  kind_any m.a m.b m.c m.d m.e m.f w (h m.a (by simp [M6.l]))
theorem kind_r (m : M6) (w : World) (h : m.ok) : Calls Try.prog 45 #[m.v] w fun r w' => r = .returned (.int .i64 m.kd) ∧ Below w.heap.size w w' :=
  kind_ref m.a m.b m.c m.d m.e m.f w (h m.a (by simp [M6.l]))
theorem check_f (f : Fr) (w : World) : Calls Try.prog 81 #[f.tag] w fun r w' => r = .returned (.int .i64 (chk (tagOk f.p f.v))) ∧ Below w.heap.size w w' := check_any f.p f.v f.e w
theorem check_r (f : Fr) (w : World) : Calls Try.prog 61 #[f.tag] w fun r w' => r = .returned (.int .i64 (chk (tagOk f.p f.v))) ∧ Below w.heap.size w w' := check_ref f.p f.v f.e w

set_option maxHeartbeats 400000 in
theorem type_any (f : Fr) (x : Value) (l : List Int) (w : World) (h : Src w x l) (hb : ∀ x ∈ l, 0 ≤ x ∧ x ≤ 255) :
    Calls Try.prog 92 #[.agg (fcs f x)] w fun r w' => r = .returned (.int .i64 (tyN l)) ∧ Below w.heap.size w w' := by
  have hB : Below w.heap.size w (w.alloc (.cells (fcs f x) 34)) := (Below.refl _ _).alloc (Nat.le_refl _) _
  have c16 := (FrAt.new w f x).c16
  have H : Hid (Src (w.alloc (.cells (fcs f x) 34)) x l ∧ ∀ x ∈ l, 0 ≤ x ∧ x ≤ 255) := ⟨h.below hB, hb⟩
  have HB : Hid (Below w.heap.size w (w.alloc (.cells (fcs f x) 34))) := hB
  clear h hb hB
  go_enter Try.func92, Try.ntmps92
  go_wp2_with fail
  refine Calls.on_later (number_any _ l _ H.out.1 H.out.2) ?_
  intro y
  go_wp2
  go_ret
  exact ⟨rfl, below_later HB.out y⟩

theorem tyN_val {l : List Int} {x y : Int} (h2 : ¬ l.length < 2) (h0 : l.getD 0 0 = x) (h1 : l.getD 1 0 = y) : tyN l = x * 256 + y := by
  unfold tyN tkN
  rw [if_neg h2, h0, h1]

/-- Do bytes begin with the type of a tag? -/
theorem tagged_eq {l : List Int} {x y : Int} (h2 : ¬ l.length < 2) (h0 : l.getD 0 0 = x) (h1 : l.getD 1 0 = y) (g0 : 0 ≤ x ∧ x ≤ 255) (g1 : 0 ≤ y ∧ y ≤ 255) : (tyN l == 34984) = ((x == 136) && (y == 168)) := by
  rw [tyN_val h2 h0 h1, Bool.eq_iff_iff]
  simp only [beq_iff_eq, Bool.and_eq_true]
  omega

set_option maxHeartbeats 400000 in
theorem tagged_any (x : Value) (l : List Int) (w : World) (h : Src w x l) (hb : ∀ x ∈ l, 0 ≤ x ∧ x ≤ 255) :
    Calls Try.prog 59 #[x] w fun r w' => r = .returned (.bool (tyN l == 34984)) ∧ Below w.heap.size w w' := by
  obtain ⟨a, n, c, rfl⟩ := src_form h
  obtain ⟨hn, hc, hm⟩ := src_short h
  by_cases h2 : l.length < 2
  · have h3 : ¬ (2 : Int) ≤ (n : Int) := by omega
    have e0 : (tyN l == 34984) = false := by unfold tyN; rw [if_pos h2]; rfl
    have e : Hid ((tyN l == 34984) = false) := e0
    clear h hn h2 hb e0
    go_enter Try.func59, Try.ntmps59
    go_wp2
    go_ret
    exact ⟨ret_bool e.out.symm, Below.refl _ _⟩
  · have h3 : (2 : Int) ≤ (n : Int) := by omega
    have i0 : (0 : Int) < (n : Int) := by omega
    have i1 : (1 : Int) < (n : Int) := by omega
    obtain ⟨b, o, rfl, hlt, hj⟩ := src_some h (by omega)
    obtain ⟨x0, hx0⟩ : ∃ x0, l.getD 0 0 = x0 := ⟨_, rfl⟩
    obtain ⟨x1, hx1⟩ : ∃ x1, l.getD 1 0 = x1 := ⟨_, rfl⟩
    have q0 : w.cell? ⟨b, o, none⟩ = some (.int .u8 x0) := by rw [← hx0]; exact hj 0 (by omega)
    have q1 : w.cell? ⟨b, o + 1, none⟩ = some (.int .u8 x1) := by rw [← hx1]; exact hj 1 (by omega)
    have g0 : 0 ≤ x0 ∧ x0 ≤ 255 := by rw [← hx0, List.getD_eq_getElem?_getD, List.getElem?_eq_getElem (by omega)]; exact hb _ (List.getElem_mem _)
    have g1 : 0 ≤ x1 ∧ x1 ≤ 255 := by rw [← hx1, List.getD_eq_getElem?_getD, List.getElem?_eq_getElem (by omega)]; exact hb _ (List.getElem_mem _)
    have e : Hid ((tyN l == 34984) = ((x0 == 136) && (x1 == 168))) := tagged_eq h2 hx0 hx1 g0 g1
    clear h hn h2 hb hj hx0 hx1 hlt g0 g1
    cases hq : (x0 == 136)
    all_goals
      go_enter Try.func59, Try.ntmps59
      go_wp2
      go_ret
      refine ⟨ret_bool ?_, Below.refl _ _⟩
      rw [e.out, hq]
      simp
end S4
end

end Go.Proofs.Ytgjagedngdhdaaa
