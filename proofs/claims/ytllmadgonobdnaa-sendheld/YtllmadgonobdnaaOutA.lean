/-
  Messages that go out of a port: plain laws over the program's types.
-/
import Derived.Test.YtllmadgonobdnaaRes
import Derived.Test.YtllmadgonobdnaaMsgA
namespace Go.Proofs.Ytllmadgonobdnaa
set_option linter.unusedVariables false
set_option maxRecDepth 4000
set_option linter.unusedSimpArgs false
open Go.RowKit

theorem mg_cl (m : Mg) : m.cl = [.int .i64 (m.nm 0), .bool (m.bt 1), .bool (m.bt 2), .bool (m.bt 3), .bool (m.bt 4), .bool (m.bt 5), .bool (m.bt 6), .int .i64 (m.nm 7), .int .u64 (m.nm 8), .int .u32 (m.nm 9), .int .u64 (m.nm 10), .int .u16 (m.nm 11), .int .u8 (m.nm 12), .int .u8 (m.nm 13), .int .u8 (m.nm 14), .int .u8 (m.nm 15)] := by
  have h0 := m.num (j := 0) (k := .i64) rfl
  have h1 := m.bit (j := 1) rfl
  have h2 := m.bit (j := 2) rfl
  have h3 := m.bit (j := 3) rfl
  have h4 := m.bit (j := 4) rfl
  have h5 := m.bit (j := 5) rfl
  have h6 := m.bit (j := 6) rfl
  have h7 := m.num (j := 7) (k := .i64) rfl
  have h8 := m.num (j := 8) (k := .u64) rfl
  have h9 := m.num (j := 9) (k := .u32) rfl
  have h10 := m.num (j := 10) (k := .u64) rfl
  have h11 := m.num (j := 11) (k := .u16) rfl
  have h12 := m.num (j := 12) (k := .u8) rfl
  have h13 := m.num (j := 13) (k := .u8) rfl
  have h14 := m.num (j := 14) (k := .u8) rfl
  have h15 := m.num (j := 15) (k := .u8) rfl
  have hl := m.len
  rw [lenM] at hl
  generalize m.cl = x at *
  match x, hl with
  | [a0, a1, a2, a3, a4, a5, a6, a7, a8, a9, a10, a11, a12, a13, a14, a15], _ =>
    simp only [List.getElem?_cons_zero, List.getElem?_cons_succ, Option.some.injEq] at h0 h1 h2 h3 h4 h5 h6 h7 h8 h9 h10 h11 h12 h13 h14 h15
    rw [h0, h1, h2, h3, h4, h5, h6, h7, h8, h9, h10, h11, h12, h13, h14, h15]
theorem mg_cs (m : Mg) : m.cs = #[.int .i64 (m.nm 0), .bool (m.bt 1), .bool (m.bt 2), .bool (m.bt 3), .bool (m.bt 4), .bool (m.bt 5), .bool (m.bt 6), .int .i64 (m.nm 7), .int .u64 (m.nm 8), .int .u32 (m.nm 9), .int .u64 (m.nm 10), .int .u16 (m.nm 11), .int .u8 (m.nm 12), .int .u8 (m.nm 13), .int .u8 (m.nm 14), .int .u8 (m.nm 15)] := by
  show m.cl.toArray = _
  rw [mg_cl]
theorem ot_cs (i : Int) (h : (Lit.int .i64 i).wf = true) (m : Mg) : (outR i h m).cs = #[.int .i64 i, .int .i64 (m.nm 0), .bool (m.bt 1), .bool (m.bt 2), .bool (m.bt 3), .bool (m.bt 4), .bool (m.bt 5), .bool (m.bt 6), .int .i64 (m.nm 7), .int .u64 (m.nm 8), .int .u32 (m.nm 9), .int .u64 (m.nm 10), .int .u16 (m.nm 11), .int .u8 (m.nm 12), .int .u8 (m.nm 13), .int .u8 (m.nm 14), .int .u8 (m.nm 15)] := by
  show (.int .i64 i :: m.cl).toArray = _
  rw [mg_cl]
/-- Sealed: a message that goes out, and a row of one. -/
def bdO (ps : Array (Nat × Value)) : Sem Value := Instr.build 48 ps
theorem bdOs (ps : Array (Nat × Value)) : Instr.build 48 ps = bdO ps := rfl
def bsO (n : Nat) (ps : Array (Nat × Value)) : Sem Value := Instr.buildSlice 33 n ps
theorem bsOs (n : Nat) (ps : Array (Nat × Value)) : Instr.buildSlice 33 n ps = bsO n ps := rfl
theorem bdO0 (i x0 : Int) (x1 x2 x3 x4 x5 x6 : Bool) (x7 x8 x9 x10 x11 x12 x13 x14 x15 : Int) (w : World) : (bdO #[(0, .int .i64 i), (1, .agg #[.int .i64 x0, .bool x1, .bool x2, .bool x3, .bool x4, .bool x5, .bool x6, .int .i64 x7, .int .u64 x8, .int .u32 x9, .int .u64 x10, .int .u16 x11, .int .u8 x12, .int .u8 x13, .int .u8 x14, .int .u8 x15])]).run Try.prog w = .ok (.agg #[.int .i64 i, .int .i64 x0, .bool x1, .bool x2, .bool x3, .bool x4, .bool x5, .bool x6, .int .i64 x7, .int .u64 x8, .int .u32 x9, .int .u64 x10, .int .u16 x11, .int .u8 x12, .int .u8 x13, .int .u8 x14, .int .u8 x15]) w := by kernel_rfl
theorem bsO0 (i x0 : Int) (x1 x2 x3 x4 x5 x6 : Bool) (x7 x8 x9 x10 x11 x12 x13 x14 x15 : Int) (w : World) : (bsO 1 #[(0, .agg #[.int .i64 i, .int .i64 x0, .bool x1, .bool x2, .bool x3, .bool x4, .bool x5, .bool x6, .int .i64 x7, .int .u64 x8, .int .u32 x9, .int .u64 x10, .int .u16 x11, .int .u8 x12, .int .u8 x13, .int .u8 x14, .int .u8 x15])]).run Try.prog w = .ok (.slice (some ⟨w.heap.size, 0, none⟩) 1 1) (w.alloc (.cells #[.int .i64 i, .int .i64 x0, .bool x1, .bool x2, .bool x3, .bool x4, .bool x5, .bool x6, .int .i64 x7, .int .u64 x8, .int .u32 x9, .int .u64 x10, .int .u16 x11, .int .u8 x12, .int .u8 x13, .int .u8 x14, .int .u8 x15] 48)) := by kernel_rfl
theorem bdO_is (i : Int) (h : (Lit.int .i64 i).wf = true) (m : Mg) (w : World) : (bdO #[(0, .int .i64 i), (1, .agg m.cs)]).run Try.prog w = .ok (.agg (outR i h m).cs) w := by
  rw [ot_cs, mg_cs]
  exact bdO0 ..
theorem bsO_is (i : Int) (h : (Lit.int .i64 i).wf = true) (m : Mg) (w : World) : (bsO 1 #[(0, .agg (outR i h m).cs)]).run Try.prog w = .ok (.slice (some ⟨w.heap.size, 0, none⟩) 1 1) (w.alloc (.cells (outR i h m).cs 48)) := by
  rw [ot_cs]
  exact bsO0 ..
theorem new_ot (w : World) (cs : Array Value) : ∃ W, w.alloc (.cells cs 48) = W ∧ RvAt W w.heap.size 48 cs ∧ Below w.heap.size w W :=
  ⟨_, rfl, RvAt.new w _ _, (Below.refl _ _).alloc (Nat.le_refl _) _⟩
/-- What goes out: nothing, or one message. -/
def OutAt (w : World) (v : Value) : Option Ot → Prop
  | none => v = .slice none 0 0
  | some r => ∃ b, v = .slice (some ⟨b, 0, none⟩) 1 1 ∧ RvAt w b 48 r.cs
theorem OutAt.below {w W : World} {v : Value} {u : Option Ot} (h : OutAt w v u) (k : Below w.heap.size w W) : OutAt W v u := by
  cases u with
  | none => exact h
  | some r =>
    obtain ⟨b, e, hr⟩ := h
    exact ⟨b, e, hr.below k⟩
abbrev TOs (w : World) (h : Hd) (n : Nat) (l : List Pt) (O : Option (List Pt)) (u : Option Ot) (r : Ending) (w' : World) : Prop := ∃ a' c' v, r = .returned (.tuple #[.agg (trc h (.slice a' n c')), v, .bool O.isSome]) ∧ SlAt w' a' n c' (O.getD l) ∧ OutAt w' v u ∧ Below w.heap.size w w'
def ptxO (h : Hd) (l : List Pt) (k : Nat) : Option (List Pt) := if ptxC h (gtP l k) = 0 then none else some (l.set k (ptxQ (gtP l k) (ptxC h (gtP l k))))
theorem ptxO_no {h : Hd} {l : List Pt} {k : Nat} (e : ptxC h (gtP l k) = 0) : ptxO h l k = none := if_pos e
theorem ptxO_yes {h : Hd} {l : List Pt} {k c : Nat} (e : ptxC h (gtP l k) = c) (h0 : c ≠ 0) : ptxO h l k = some (l.set k (ptxQ (gtP l k) c)) := by
  unfold ptxO
  rw [e, if_neg h0]
/-- A message and its place. -/
def outI (i : Int) (m : Mg) : Ot := if h : (Lit.int .i64 i).wf = true then outR i h m else outR 0 wi0 m
theorem outI_is {i : Int} (h : (Lit.int .i64 i).wf = true) (m : Mg) : outI i m = outR i h m := dif_pos h
def ptxU (h : Hd) (l : List Pt) (k : Nat) : Option Ot := if ptxC h (gtP l k) = 3 then some (outI (k : Int) (msgP (gtP l k))) else none
theorem ptxU_no {h : Hd} {l : List Pt} {k c : Nat} (e : ptxC h (gtP l k) = c) (h0 : c ≠ 3) : ptxU h l k = none := if_neg (by rw [e]; exact h0)
theorem ptxU_yes {h : Hd} {l : List Pt} {k : Nat} (e : ptxC h (gtP l k) = 3) : ptxU h l k = some (outI (k : Int) (msgP (gtP l k))) := if_pos e
def ptxI (h : Hd) (l : List Pt) (i : Int) : Option (List Pt) := if 0 ≤ i ∧ i < (l.length : Int) then ptxO h l i.toNat else none
def ptxV (h : Hd) (l : List Pt) (i : Int) : Option Ot := if 0 ≤ i ∧ i < (l.length : Int) then ptxU h l i.toNat else none
theorem ptxI_in {h : Hd} {l : List Pt} {k : Nat} (e : k < l.length) : ptxI h l (k : Int) = ptxO h l k := by
  unfold ptxI
  rw [if_pos ⟨by omega, by omega⟩]
  rfl
theorem ptxV_in {h : Hd} {l : List Pt} {k : Nat} (e : k < l.length) : ptxV h l (k : Int) = ptxU h l k := by
  unfold ptxV
  rw [if_pos ⟨by omega, by omega⟩]
  rfl
theorem ptxI_out {h : Hd} {l : List Pt} {i : Int} (e : ¬ (0 ≤ i ∧ i < (l.length : Int))) : ptxI h l i = none := if_neg e
theorem ptxV_out {h : Hd} {l : List Pt} {i : Int} (e : ¬ (0 ≤ i ∧ i < (l.length : Int))) : ptxV h l i = none := if_neg e
theorem wi_k {k : Nat} (h : k ≤ 1000) : (Lit.int .i64 (k : Int)).wf = true := by
  simp [Lit.wf, IntKind.min, IntKind.max, IntKind.signed, IntKind.bits]
  omega
theorem results_tob {fn : Func} {k t s : Nat} (hr : fn.results = #[.cell k 31, .tmp t, .tmp s]) (tmps : Array Value) (w : World) (b : Nat) (h : Hd) (x : Value) (h2 : tmps.getD k undef = .pointer (some ⟨b, 0, none⟩)) (r : RvAt w b 31 (trc h x)) :
    (results fn tmps).run Try.prog w = .ok (.tuple #[.agg (trc h x), tmps.getD t undef, tmps.getD s undef]) w := by
  have hl := r.lv rtT (trc_size h x)
  have h2' : tmps[k]?.getD undef = .pointer (some ⟨b, 0, none⟩) := by simpa using h2
  simp [results, hr, asAddr, hl, h2']
theorem msg_kind (p : Pt) : (msgP p).nm 0 = kinN p := by
  unfold msgP kinN
  split
  · rfl
  · split <;> rfl
end Go.Proofs.Ytllmadgonobdnaa
