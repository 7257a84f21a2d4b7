/-
  Ports and messages in memory: variables, their parts loaded and stored. Plain laws over the program's types.
-/
import Derived.Test.YtllmadgonobdnaaRow
namespace Go.Proofs.Ytllmadgonobdnaa
set_option linter.unusedVariables false
set_option maxRecDepth 4000
set_option linter.unusedSimpArgs false
open Go.RowKit

def kdT : List (Option IntKind) := [some .u8, some .u8, some .u8, some .u8]
def kdV : List (Option IntKind) := [some .u64, some .u32, some .u64, some .u16]
def kdM : List (Option IntKind) := [some .i64, none, none, none, none, none, none, some .i64] ++ kdV ++ kdT
/-- The kinds of a port's cells. -/
def kdP : List (Option IntKind) := [some .u16, some .u32] ++ [none, none, none, none, none, none, none, none, none, none, none, none, none, none, none, none, none, none, none, none, none, none, none, none, none, none, none] ++ [some .i64, some .i64, some .i64] ++ kdV ++ kdV ++ kdT ++ kdT ++ kdM ++ kdT ++ kdT ++ [some .i64, some .i64, some .i64, some .i64, some .i64]
abbrev Pt := Row kdP
abbrev Mg := Row kdM
abbrev Tm := Row kdT
abbrev Vc := Row kdV
theorem kb2 : kdP[2]? = some none := rfl
theorem kb3 : kdP[3]? = some none := rfl
theorem kb4 : kdP[4]? = some none := rfl
theorem kb5 : kdP[5]? = some none := rfl
theorem kb11 : kdP[11]? = some none := rfl
theorem kb12 : kdP[12]? = some none := rfl
theorem kb13 : kdP[13]? = some none := rfl
theorem kb14 : kdP[14]? = some none := rfl
theorem kb15 : kdP[15]? = some none := rfl
theorem kb16 : kdP[16]? = some none := rfl
theorem kb17 : kdP[17]? = some none := rfl
theorem kb18 : kdP[18]? = some none := rfl
theorem kb19 : kdP[19]? = some none := rfl
theorem kb21 : kdP[21]? = some none := rfl
theorem kb22 : kdP[22]? = some none := rfl
theorem kb25 : kdP[25]? = some none := rfl
theorem kb28 : kdP[28]? = some none := rfl
theorem kn29 : kdP[29]? = some (some .i64) := rfl
theorem kn72 : kdP[72]? = some (some .i64) := rfl
theorem infoV : (Try.prog.info? 28).map (·.size) = some 4 := by kernel_rfl
theorem rtV : RowTy 28 4 := ⟨infoV, _, Try.underlying28, rfl⟩
theorem ldV (x : Value) : Instr.loadAt 28 x = ldS 28 x := rfl
theorem stV (x y : Value) : Instr.storeAt 28 x y = stS 28 x y := rfl
theorem kb20 : kdP[20]? = some none := rfl
theorem kb24 : kdP[24]? = some none := rfl
theorem lenP : kdP.length = 77 := by kernel_rfl
theorem lenM : kdM.length = 16 := by kernel_rfl
theorem lenT : kdT.length = 4 := by kernel_rfl
theorem lenV : kdV.length = 4 := by kernel_rfl
theorem Pt.len (p : Pt) : p.cl.length = 77 := by rw [Row.len, lenP]
theorem infoP : (Try.prog.info? 53).map (·.size) = some 77 := by kernel_rfl
theorem rtP : RowTy 53 77 := ⟨infoP, _, Try.underlying53, rfl⟩
theorem infoM : (Try.prog.info? 43).map (·.size) = some 16 := by kernel_rfl
theorem rtM : RowTy 43 16 := ⟨infoM, _, Try.underlying43, rfl⟩
theorem infoTm : (Try.prog.info? 24).map (·.size) = some 4 := by kernel_rfl
theorem plainP : PlainTy 53 kdP := ⟨by kernel_rfl, by kernel_rfl, ⟨_, Try.underlying53⟩, by kernel_rfl⟩
theorem plainM : PlainTy 43 kdM := ⟨by kernel_rfl, by kernel_rfl, ⟨_, Try.underlying43⟩, by kernel_rfl⟩
theorem plainT : PlainTy 24 kdT := ⟨by kernel_rfl, by kernel_rfl, ⟨_, Try.underlying24⟩, by kernel_rfl⟩
theorem plainV : PlainTy 28 kdV := ⟨by kernel_rfl, by kernel_rfl, ⟨_, Try.underlying28⟩, by kernel_rfl⟩
theorem eqPort (a b : Pt) (w : World) : (Op.equalIn 10000 53 (.agg a.cs) (.agg b.cs)).run Try.prog w = .ok (a.eq b) w := run_eqRow plainP a b w
theorem eqTimes (a b : Tm) (w : World) : (Op.equalIn 10000 24 (.agg a.cs) (.agg b.cs)).run Try.prog w = .ok (a.eq b) w := run_eqRow plainT a b w
theorem eqVector (a b : Vc) (w : World) : (Op.equalIn 10000 28 (.agg a.cs) (.agg b.cs)).run Try.prog w = .ok (a.eq b) w := run_eqRow plainV a b w
theorem gdP : Try.prog.eqGuardType Try.prog.depth 53 = false := by kernel_rfl
theorem eqgP (op : BinOp) (x y : Operand) (a b : Pt) (w : World) : (eqGuard op 53 x y (.agg a.cs) (.agg b.cs)).run Try.prog w = .ok () w := run_eqGuard_agg w op _ x y _ _ gdP
theorem eqlP (a b : Pt) (w : World) : (binOp .eql 53 (.agg a.cs) (.agg b.cs)).run Try.prog w = .ok (.bool (a.eq b)) w := by
  rw [run_eql_struct, eqPort]
  rfl
theorem gdTm : Try.prog.eqGuardType Try.prog.depth 24 = false := by kernel_rfl
theorem eqgTm (op : BinOp) (x y : Operand) (a b : Tm) (w : World) : (eqGuard op 24 x y (.agg a.cs) (.agg b.cs)).run Try.prog w = .ok () w := run_eqGuard_agg w op _ x y _ _ gdTm
theorem eqlTm (a b : Tm) (w : World) : (binOp .eql 24 (.agg a.cs) (.agg b.cs)).run Try.prog w = .ok (.bool (a.eq b)) w := by
  rw [run_eql_struct, eqTimes]
  rfl
theorem gdV : Try.prog.eqGuardType Try.prog.depth 28 = false := by kernel_rfl
theorem eqgV (op : BinOp) (x y : Operand) (a b : Vc) (w : World) : (eqGuard op 28 x y (.agg a.cs) (.agg b.cs)).run Try.prog w = .ok () w := run_eqGuard_agg w op _ x y _ _ gdV
theorem eqlV (a b : Vc) (w : World) : (binOp .eql 28 (.agg a.cs) (.agg b.cs)).run Try.prog w = .ok (.bool (a.eq b)) w := by
  rw [run_eql_struct, eqVector]
  rfl
theorem ldP (x : Value) : Instr.loadAt 53 x = ldS 53 x := rfl
theorem stP (x y : Value) : Instr.storeAt 53 x y = stS 53 x y := rfl
theorem ldM (x : Value) : Instr.loadAt 43 x = ldS 43 x := rfl
theorem stM (x y : Value) : Instr.storeAt 43 x y = stS 43 x y := rfl
theorem ldTm (x : Value) : Instr.loadAt 24 x = ldS 24 x := rfl
theorem stTm (x y : Value) : Instr.storeAt 24 x y = stS 24 x y := rfl
theorem stB (x y : Value) : Instr.storeAt 4 x y = stS 4 x y := rfl
theorem stU (x y : Value) : Instr.storeAt 5 x y = stS 5 x y := rfl
theorem info2 : (Try.prog.info? 4).map (·.size) = some 1 ∧ (Try.prog.info? 5).map (·.size) = some 1 := ⟨by kernel_rfl, by kernel_rfl⟩
/-- One cell of a block, stored. -/
theorem RvAt.st1 {W : World} {b k : Nat} {ty tv : TypeId} {cs : Array Value} {v : Value} (h : RvAt W b ty cs) (hi : (Try.prog.info? tv).map (·.size) = some 1) (hk : k < cs.size) (hv : v.oneCell' = true) :
    (stS tv (.pointer (some ⟨b, k, none⟩)) v).run Try.prog W = .ok () (W.setRow b (cs.toList.set k v).toArray) := by
  have hs := run_storeCells_at Try.prog b k ty [v] 0 cs W h (by simp; omega) (by simpa using hv)
  have hi' : ∃ i, Try.prog.info? tv = some i ∧ i.size = 1 := by
    cases hq : Try.prog.info? tv with
    | none => rw [hq] at hi; cases hi
    | some i => rw [hq] at hi; exact ⟨i, rfl, by simpa using hi⟩
  obtain ⟨i, hi1, hi2⟩ := hi'
  have e : cs.toList.take k ++ [v] ++ cs.toList.drop (k + 1) = cs.toList.set k v := by
    rw [List.set_eq_take_append_cons_drop, if_pos (by simpa using hk)]
    simp
  have hc : v.cells = #[v] := by cases v <;> first | rfl | (cases hv; done)
  simp only [Nat.add_zero, List.length_singleton] at hs
  rw [e] at hs
  unfold stS
  simp [Instr.storeAt, Instr.sureAddr, storeVar, sizeOf, typeInfo, hi1, hi2, hc, hs]
theorem sub_get {ks ks' : List (Option IntKind)} {r : Row ks} {q : Row ks'} {o n : Nat} (e : q.cl = (r.cl.drop o).take n) {j : Nat} {v : Value} (h : q.cl[j]? = some v) : r.cl[o + j]? = some v := by
  rw [e, List.getElem?_take] at h
  split at h
  · rw [List.getElem?_drop] at h; exact h
  · cases h
theorem Row.idx {ks : List (Option IntKind)} {r : Row ks} {j : Nat} {v : Value} (h : r.cs.toList[j]? = some v) : r.cl[j]? = some v := by simpa [Row.cs] using h
theorem grown_of_below {W W' : World} (h : Below W.heap.size W W') (row : Option Nat) : W.grownBy W' row := ⟨h.os, h.tape, h.output, h.size, fun i hi _ => h.block i hi⟩
theorem below_of_grown {W W' : World} {row : Option Nat} (h : W.grownBy W' row) {B : Nat} (hB : B ≤ W.heap.size) (hr : ∀ j, row = some j → B ≤ j) : Below B W W' :=
  ⟨h.os, h.tape, h.output, h.size, fun i hi => h.block i (by omega) (fun e => by have := hr i e.symm; omega)⟩
theorem gro {W W' : World} {b B : Nat} {w : World} (h : Below B w W) (k : W.grownBy W' (some b)) (hb : B ≤ b) (hB : B ≤ W.heap.size) : Below B w W' := h.trans (below_of_grown k hB (fun j e => by cases e; exact hb))
theorem grown_self {W W' V : World} {row : Option Nat} (h : W.grownBy W' row) (k : W'.grownBy V row) : W.grownBy V row :=
  ⟨k.os.trans h.os, k.tape.trans h.tape, k.output.trans h.output, Nat.le_trans h.size k.size, fun i hi hne => (k.block i (Nat.lt_of_lt_of_le hi h.size) hne).trans (h.block i hi hne)⟩
theorem RvAt.keptBut {W W' : World} {b : Nat} {ty : TypeId} {cs : Array Value} {row : Option Nat} (h : RvAt W b ty cs) (hg : W.grownBy W' row) (hn : some b ≠ row) : RvAt W' b ty cs := (hg.block b h.lt hn).trans h
/-! ### parts of rows -/
/-- A part of a row, put in its place. -/
def Row.put {ks ks' : List (Option IntKind)} (r : Row ks) (o : Nat) (s : Row ks') (h : (ks.drop o).take ks'.length = ks') (hl : o + ks'.length ≤ ks.length) : Row ks :=
  ⟨r.cl.take o ++ s.cl ++ r.cl.drop (o + ks'.length), by
    have h1 := r.len
    have h2 := s.len
    refine ⟨by simp [h1, h2]; omega, fun i k x hk hx => ?_⟩
    have e1 : (r.cl.take o).length = o := by rw [List.length_take]; omega
    by_cases hi : i < o
    · rw [List.append_assoc, List.getElem?_append_left (by omega), List.getElem?_take, if_pos hi] at hx
      exact r.ok.at' i k x hk hx
    · by_cases hi2 : i < o + ks'.length
      · rw [List.getElem?_append_left (by rw [List.length_append]; omega), List.getElem?_append_right (by omega), e1] at hx
        refine s.ok.at' (i - o) k x ?_ hx
        rw [← h, List.getElem?_take, if_pos (by omega), List.getElem?_drop, show o + (i - o) = i by omega]
        exact hk
      · rw [List.getElem?_append_right (by rw [List.length_append]; omega), List.getElem?_drop, List.length_append, e1, h2, show o + ks'.length + (i - (o + ks'.length)) = i by omega] at hx
        exact r.ok.at' i k x hk hx⟩
theorem Row.put_get {ks ks' : List (Option IntKind)} (r : Row ks) (o : Nat) (s : Row ks') (h : (ks.drop o).take ks'.length = ks') (hl : o + ks'.length ≤ ks.length) (i : Nat) :
    (r.put o s h hl).cl[i]? = if o ≤ i ∧ i < o + ks'.length then s.cl[i - o]? else r.cl[i]? := by
  have h1 := r.len
  have h2 := s.len
  have e1 : (r.cl.take o).length = o := by rw [List.length_take]; omega
  show (r.cl.take o ++ s.cl ++ r.cl.drop (o + ks'.length))[i]? = _
  by_cases hi : i < o
  · rw [List.append_assoc, List.getElem?_append_left (by omega), List.getElem?_take, if_pos hi, if_neg (by omega)]
  · by_cases hi2 : i < o + ks'.length
    · rw [List.getElem?_append_left (by rw [List.length_append]; omega), List.getElem?_append_right (by omega), e1, if_pos ⟨by omega, hi2⟩]
    · rw [List.getElem?_append_right (by rw [List.length_append]; omega), List.getElem?_drop, List.length_append, e1, h2, show o + ks'.length + (i - (o + ks'.length)) = i by omega, if_neg (by omega)]
theorem Row.set_get {ks : List (Option IntKind)} (r : Row ks) {j : Nat} {v : Value} (h : ∀ k, ks[j]? = some k → Fit k v) (hj : j < ks.length) (i : Nat) : (r.set j v h).cl[i]? = if i = j then some v else r.cl[i]? := by
  have := r.len
  show (r.cl.set j v)[i]? = _
  rw [List.getElem?_set]
  by_cases e : j = i
  · subst e
    rw [if_pos rfl, if_pos rfl, if_pos (by omega)]
  · rw [if_neg e, if_neg (fun h => e h.symm)]
theorem fit_bit {ks : List (Option IntKind)} {j : Nat} {b : Bool} (h : ks[j]? = some none) : ∀ k, ks[j]? = some k → Fit k (.bool b) := by
  intro k hk
  rw [h] at hk
  cases hk
  exact ⟨b, rfl⟩
theorem fit_num {ks : List (Option IntKind)} {j : Nat} {q : IntKind} {n : Int} (h : ks[j]? = some (some q)) (hw : (Lit.int q n).wf = true) : ∀ k, ks[j]? = some k → Fit k (.int q n) := by
  intro k hk
  rw [h] at hk
  cases hk
  exact ⟨n, rfl, hw⟩
def Row.setB {ks : List (Option IntKind)} (r : Row ks) (j : Nat) (h : ks[j]? = some none) (b : Bool) : Row ks := r.set j (.bool b) (fit_bit h)
theorem Row.setB_get {ks : List (Option IntKind)} (r : Row ks) {j : Nat} (h : ks[j]? = some none) (b : Bool) (i : Nat) : (r.setB j h b).cl[i]? = if i = j then some (.bool b) else r.cl[i]? := r.set_get _ (List.getElem?_eq_some_iff.1 h).1 i
/-- A number set in a row, where it may be. -/
def Row.setU {ks : List (Option IntKind)} (r : Row ks) (j : Nat) (n : Int) : Row ks :=
  if h : ks[j]? = some (some .u8) ∧ (Lit.int .u8 n).wf = true then r.set j (.int .u8 n) (fit_num h.1 h.2) else r
theorem Row.setU_is {ks : List (Option IntKind)} (r : Row ks) {j : Nat} {n : Int} (h : ks[j]? = some (some .u8)) (hw : (Lit.int .u8 n).wf = true) : r.setU j n = r.set j (.int .u8 n) (fit_num h hw) := by
  unfold Row.setU
  rw [dif_pos ⟨h, hw⟩]
theorem Row.setU_get {ks : List (Option IntKind)} (r : Row ks) {j : Nat} {n : Int} (h : ks[j]? = some (some .u8)) (hw : (Lit.int .u8 n).wf = true) (i : Nat) : (r.setU j n).cl[i]? = if i = j then some (.int .u8 n) else r.cl[i]? := by
  rw [r.setU_is h hw]
  exact r.set_get _ (List.getElem?_eq_some_iff.1 h).1 i
theorem wf8 {n : Int} (h : 0 ≤ n ∧ n ≤ 255) : (Lit.int .u8 n).wf = true := by simp [Lit.wf, IntKind.min, IntKind.max, IntKind.signed, IntKind.bits]; omega
theorem Row.u8 {ks : List (Option IntKind)} (r : Row ks) {j : Nat} (h : ks[j]? = some (some .u8)) : 0 ≤ r.nm j ∧ r.nm j ≤ 255 := by
  have := r.nwf h
  simp [Lit.wf, IntKind.min, IntKind.max, IntKind.signed, IntKind.bits] at this
  omega
theorem Row.u16 {ks : List (Option IntKind)} (r : Row ks) {j : Nat} (h : ks[j]? = some (some .u16)) : 0 ≤ r.nm j ∧ r.nm j ≤ 65535 := by
  have := r.nwf h
  simp [Lit.wf, IntKind.min, IntKind.max, IntKind.signed, IntKind.bits] at this
  omega
theorem Row.u32 {ks : List (Option IntKind)} (r : Row ks) {j : Nat} (h : ks[j]? = some (some .u32)) : 0 ≤ r.nm j ∧ r.nm j ≤ 4294967295 := by
  have := r.nwf h
  simp [Lit.wf, IntKind.min, IntKind.max, IntKind.signed, IntKind.bits] at this
  omega
theorem Row.u64 {ks : List (Option IntKind)} (r : Row ks) {j : Nat} (h : ks[j]? = some (some .u64)) : 0 ≤ r.nm j ∧ r.nm j ≤ 18446744073709551615 := by
  have := r.nwf h
  simp [Lit.wf, IntKind.min, IntKind.max, IntKind.signed, IntKind.bits] at this
  omega
/-! ### a port's and a message's parts -/
def dsg (p : Pt) : Vc := ⟨(p.cl.drop 32).take 4, (p.sub 32 4).ok⟩
def pri (p : Pt) : Vc := ⟨(p.cl.drop 36).take 4, (p.sub 36 4).ok⟩
def priT (p : Pt) : Tm := ⟨(p.cl.drop 44).take 4, (p.sub 44 4).ok⟩
def msg (p : Pt) : Mg := ⟨(p.cl.drop 48).take 16, (p.sub 48 16).ok⟩
def mV (p : Pt) : Vc := ⟨(p.cl.drop 56).take 4, (p.sub 56 4).ok⟩
def mT (p : Pt) : Tm := ⟨(p.cl.drop 60).take 4, (p.sub 60 4).ok⟩
def vOf (m : Mg) : Vc := ⟨(m.cl.drop 8).take 4, (m.sub 8 4).ok⟩
def tOf (m : Mg) : Tm := ⟨(m.cl.drop 12).take 4, (m.sub 12 4).ok⟩
/-! ### ports in variables -/
theorem RvAt.part {W : World} {b o n : Nat} {ty t : TypeId} {ks ks' : List (Option IntKind)} {r : Row ks} {q : Row ks'} (hb : RvAt W b ty r.cs) (e : q.cl = (r.cl.drop o).take n) (hn : ks'.length = n) {d : TypeDesc} (hu : Try.prog.underlying t = some d) (hr : d.isRow = true) (hi : (Try.prog.info? t).map (·.size) = some n) :
    (ldS t (.pointer (some ⟨b, o, none⟩))).run Try.prog W = .ok (.agg q.cs) W :=
  run_loadAt_mid W b o t q.cs.toList _ (fun j v hv => hb.cell _ _ (by rw [Row.cget]; exact sub_get e (Row.idx hv))) hu hr (by rw [Array.length_toList, Row.csize, hn]; exact hi)
theorem RvAt.pld {W : World} {b : Nat} {p : Pt} (hb : RvAt W b 53 p.cs) : (ldS 53 (.pointer (some ⟨b, 0, none⟩))).run Try.prog W = .ok (.agg p.cs) W := hb.ld rtP (by rw [Row.csize, lenP])
theorem RvAt.mld {W : World} {b : Nat} {m : Mg} (hb : RvAt W b 43 m.cs) : (ldS 43 (.pointer (some ⟨b, 0, none⟩))).run Try.prog W = .ok (.agg m.cs) W := hb.ld rtM (by rw [Row.csize, lenM])
theorem RvAt.pdsg {W : World} {b : Nat} {p : Pt} (hb : RvAt W b 53 p.cs) : (ldS 28 (.pointer (some ⟨b, 32, none⟩))).run Try.prog W = .ok (.agg (dsg p).cs) W := hb.part rfl rfl Try.underlying28 rfl infoV
theorem RvAt.ppri {W : World} {b : Nat} {p : Pt} (hb : RvAt W b 53 p.cs) : (ldS 28 (.pointer (some ⟨b, 36, none⟩))).run Try.prog W = .ok (.agg (pri p).cs) W := hb.part rfl rfl Try.underlying28 rfl infoV
theorem RvAt.ppriT {W : World} {b : Nat} {p : Pt} (hb : RvAt W b 53 p.cs) : (ldS 24 (.pointer (some ⟨b, 44, none⟩))).run Try.prog W = .ok (.agg (priT p).cs) W := hb.part rfl rfl Try.underlying24 rfl infoTm
theorem RvAt.pmsg {W : World} {b : Nat} {p : Pt} (hb : RvAt W b 53 p.cs) : (ldS 43 (.pointer (some ⟨b, 48, none⟩))).run Try.prog W = .ok (.agg (msg p).cs) W := hb.part rfl rfl Try.underlying43 rfl infoM
theorem RvAt.pmV {W : World} {b : Nat} {p : Pt} (hb : RvAt W b 53 p.cs) : (ldS 28 (.pointer (some ⟨b, 56, none⟩))).run Try.prog W = .ok (.agg (mV p).cs) W := hb.part rfl rfl Try.underlying28 rfl infoV
theorem RvAt.pmT {W : World} {b : Nat} {p : Pt} (hb : RvAt W b 53 p.cs) : (ldS 24 (.pointer (some ⟨b, 60, none⟩))).run Try.prog W = .ok (.agg (mT p).cs) W := hb.part rfl rfl Try.underlying24 rfl infoTm
theorem RvAt.mvof {W : World} {b : Nat} {m : Mg} (hb : RvAt W b 43 m.cs) : (ldS 28 (.pointer (some ⟨b, 8, none⟩))).run Try.prog W = .ok (.agg (vOf m).cs) W := hb.part rfl rfl Try.underlying28 rfl infoV
theorem RvAt.mtof {W : World} {b : Nat} {m : Mg} (hb : RvAt W b 43 m.cs) : (ldS 24 (.pointer (some ⟨b, 12, none⟩))).run Try.prog W = .ok (.agg (tOf m).cs) W := hb.part rfl rfl Try.underlying24 rfl infoTm
theorem RvAt.num {W : World} {b j : Nat} {k : IntKind} {ty : TypeId} {ks : List (Option IntKind)} {r : Row ks} (hb : RvAt W b ty r.cs) (hk : ks[j]? = some (some k)) : W.cell? ⟨b, j, none⟩ = some (.int k (r.nm j)) := hb.cell j _ (by rw [Row.cget]; exact r.num hk)
theorem RvAt.bit {W : World} {b j : Nat} {ty : TypeId} {ks : List (Option IntKind)} {r : Row ks} (hb : RvAt W b ty r.cs) (hk : ks[j]? = some none) : W.cell? ⟨b, j, none⟩ = some (.bool (r.bt j)) := hb.cell j _ (by rw [Row.cget]; exact r.bit hk)
theorem grown_row (W : World) (b : Nat) (cs : Array Value) : W.grownBy (W.setRow b cs) (some b) := ⟨rfl, rfl, rfl, by simp, fun i hi hne => setRow_other W b i _ (fun e => hne (by rw [e]))⟩
/-- One cell of a row's variable, stored. -/
theorem RvAt.rset {W : World} {b j : Nat} {ty tv : TypeId} {v : Value} {ks : List (Option IntKind)} {p : Row ks} (hb : RvAt W b ty p.cs) (hi : (Try.prog.info? tv).map (·.size) = some 1) (hj : j < ks.length) (hv : v.oneCell' = true) (hf : ∀ k, ks[j]? = some k → Fit k v) :
    ∃ W', (stS tv (.pointer (some ⟨b, j, none⟩)) v).run Try.prog W = .ok () W' ∧ RvAt W' b ty (p.set j v hf).cs ∧ W.grownBy W' (some b) :=
  ⟨_, hb.st1 hi (by rw [Row.csize]; exact hj) hv, hb.set, grown_row _ _ _⟩
theorem RvAt.setB {W : World} {b j : Nat} {ty : TypeId} {ks : List (Option IntKind)} {p : Row ks} (hb : RvAt W b ty p.cs) (h : ks[j]? = some none) (x : Bool) :
    ∃ W', (stS 4 (.pointer (some ⟨b, j, none⟩)) (.bool x)).run Try.prog W = .ok () W' ∧ RvAt W' b ty (p.setB j h x).cs ∧ W.grownBy W' (some b) := hb.rset info2.1 (List.getElem?_eq_some_iff.1 h).1 rfl _
theorem RvAt.setU {W : World} {b j : Nat} {ty : TypeId} {ks : List (Option IntKind)} {p : Row ks} (hb : RvAt W b ty p.cs) (h : ks[j]? = some (some .u8)) {n : Int} (hn : 0 ≤ n ∧ n ≤ 255) :
    ∃ W', (stS 5 (.pointer (some ⟨b, j, none⟩)) (.int .u8 n)).run Try.prog W = .ok () W' ∧ RvAt W' b ty (p.setU j n).cs ∧ W.grownBy W' (some b) := by
  rw [p.setU_is h (wf8 hn)]
  exact hb.rset info2.2 (List.getElem?_eq_some_iff.1 h).1 rfl _
/-- A part of a row's variable, stored. -/
theorem RvAt.rput {W : World} {b o : Nat} {ty tv : TypeId} {ks ks' : List (Option IntKind)} {p : Row ks} (hb : RvAt W b ty p.cs) (s : Row ks') (h : (ks.drop o).take ks'.length = ks') (hl : o + ks'.length ≤ ks.length) (hi : (Try.prog.info? tv).map (·.size) = some ks'.length) :
    ∃ W', (stS tv (.pointer (some ⟨b, o, none⟩)) (.agg s.cs)).run Try.prog W = .ok () W' ∧ RvAt W' b ty (p.put o s h hl).cs ∧ W.grownBy W' (some b) := by
  have hs := store_cells (ty := tv) (o := o) (cs := s.cs) hb (by rw [Row.csize]; exact hi) (by rw [Row.csize, Row.csize]; exact hl) s.one'
  refine ⟨_, hs, ?_, grown_row _ _ _⟩
  have e : (p.cs.toList.take o ++ s.cs.toList ++ p.cs.toList.drop (o + s.cs.size)).toArray = (p.put o s h hl).cs := by
    rw [Row.csize]
    rfl
  rw [e]
  exact hb.set
theorem kq48 : (kdP.drop 48).take kdM.length = kdM := rfl
theorem kl48 : 48 + kdM.length ≤ kdP.length := by decide
theorem kq36 : (kdP.drop 36).take kdV.length = kdV := rfl
theorem kl36 : 36 + kdV.length ≤ kdP.length := by decide
theorem kq44 : (kdP.drop 44).take kdT.length = kdT := rfl
theorem kl44 : 44 + kdT.length ≤ kdP.length := by decide
theorem RvAt.putM {W : World} {b : Nat} {p : Pt} (hb : RvAt W b 53 p.cs) (m : Mg) : ∃ W', (stS 43 (.pointer (some ⟨b, 48, none⟩)) (.agg m.cs)).run Try.prog W = .ok () W' ∧ RvAt W' b 53 (p.put 48 m kq48 kl48).cs ∧ W.grownBy W' (some b) := hb.rput m kq48 kl48 infoM
theorem RvAt.putV {W : World} {b : Nat} {p : Pt} (hb : RvAt W b 53 p.cs) (v : Vc) : ∃ W', (stS 28 (.pointer (some ⟨b, 36, none⟩)) (.agg v.cs)).run Try.prog W = .ok () W' ∧ RvAt W' b 53 (p.put 36 v kq36 kl36).cs ∧ W.grownBy W' (some b) := hb.rput v kq36 kl36 infoV
theorem RvAt.putT {W : World} {b : Nat} {p : Pt} (hb : RvAt W b 53 p.cs) (v : Tm) : ∃ W', (stS 24 (.pointer (some ⟨b, 44, none⟩)) (.agg v.cs)).run Try.prog W = .ok () W' ∧ RvAt W' b 53 (p.put 44 v kq44 kl44).cs ∧ W.grownBy W' (some b) := hb.rput v kq44 kl44 infoTm
def zeroV (k : Option IntKind) : Value := match k with | none => .bool false | some k => .int k 0
theorem fitz (k : Option IntKind) : Fit k (zeroV k) := by
  cases k with
  | none => exact ⟨_, rfl⟩
  | some k => exact ⟨0, rfl, by cases k <;> decide⟩
/-- A row of nothing. -/
def zeroR (ks : List (Option IntKind)) : Row ks := ⟨ks.map zeroV, by
  refine ⟨by simp, fun j k v hk hv => ?_⟩
  rw [List.getElem?_map, hk] at hv
  cases hv
  exact fitz k⟩
def zeroP : Pt := zeroR kdP
def zeroM : Mg := zeroR kdM
theorem zeroPort (w : World) : (zeroValue 53).run Try.prog w = .ok (.agg zeroP.cs) w := by kernel_rfl
theorem zeroMsg (w : World) : (zeroValue 43).run Try.prog w = .ok (.agg zeroM.cs) w := by kernel_rfl
/-- Room for a value, sealed. -/
def alS (t : TypeId) : Sem Value := Instr.alloc t true (.tuple #[])
theorem alP : Instr.alloc 53 true (.tuple #[]) = alS 53 := rfl
theorem alM : Instr.alloc 43 true (.tuple #[]) = alS 43 := rfl
theorem alP_run (w : World) : (alS 53).run Try.prog w = .ok (.pointer (some ⟨w.heap.size, 0, none⟩)) (w.alloc (.cells zeroP.cs 53)) := by
  unfold alS Instr.alloc
  rw [Sem.run_bind, zeroPort]
  rfl
theorem alM_run (w : World) : (alS 43).run Try.prog w = .ok (.pointer (some ⟨w.heap.size, 0, none⟩)) (w.alloc (.cells zeroM.cs 43)) := by
  unfold alS Instr.alloc
  rw [Sem.run_bind, zeroMsg]
  rfl
/-- A port's variable, stored whole. -/
theorem RvAt.pst {W : World} {b : Nat} {p q : Pt} (hb : RvAt W b 53 p.cs) : ∃ W', (stS 53 (.pointer (some ⟨b, 0, none⟩)) (.agg q.cs)).run Try.prog W = .ok () W' ∧ RvAt W' b 53 q.cs ∧ W.grownBy W' (some b) :=
  ⟨_, hb.st rtP (by rw [Row.csize, lenP]) (by rw [Row.csize, lenP]) q.one', hb.set, grown_row _ _ _⟩
theorem results_port {fn : Func} {k : Nat} (hr : fn.results = #[.cell k 53]) (tmps : Array Value) (w : World) (b : Nat) (p : Pt) (h2 : tmps.getD k undef = .pointer (some ⟨b, 0, none⟩)) (h : RvAt w b 53 p.cs) :
    (results fn tmps).run Try.prog w = .ok (.agg p.cs) w := results_row rtP hr tmps w b p.cs h2 h (by rw [Row.csize, lenP])
/-- A function that tells a port, at its end. -/
theorem ret_port {fn : Func} {k : Nat} (hr : fn.results = #[.cell k 53]) {R : Ending → World → Prop} {a : Act} {w : World} {b : Nat} {p : Pt} (hd : a.defers = []) (h2 : a.tmps.getD k undef = .pointer (some ⟨b, 0, none⟩)) (h : RvAt w b 53 p.cs) (hR : R (.returned (.agg p.cs)) w) : bodyPost Try.prog fn R .ret a w :=
  bodyPost_ret (results_port hr _ _ _ _ h2 h) hd hR
theorem new_p (w : World) (p : Pt) : ∃ W, w.alloc (.cells p.cs 53) = W ∧ RvAt W w.heap.size 53 p.cs ∧ Below w.heap.size w W ∧ W.heap.size = w.heap.size + 1 :=
  ⟨_, rfl, RvAt.new w _ _, (Below.refl _ _).alloc (Nat.le_refl _) _, by simp⟩
theorem new_m (w : World) (p : Mg) : ∃ W, w.alloc (.cells p.cs 43) = W ∧ RvAt W w.heap.size 43 p.cs ∧ Below w.heap.size w W ∧ W.heap.size = w.heap.size + 1 :=
  ⟨_, rfl, RvAt.new w _ _, (Below.refl _ _).alloc (Nat.le_refl _) _, by simp⟩
/-- A port handed in and room for one. -/
theorem two_p (w : World) (p : Pt) : ∃ W, (w.alloc (.cells p.cs 53)).alloc (.cells zeroP.cs 53) = W ∧ RvAt W w.heap.size 53 p.cs ∧ RvAt W (w.heap.size + 1) 53 zeroP.cs ∧ Below w.heap.size w W ∧ W.heap.size = w.heap.size + 2 := by
  obtain ⟨A, hA, rA, bA, zA⟩ := new_p w p
  obtain ⟨C, hC, rC, bC, zC⟩ := new_p A zeroP
  rw [zA] at rC
  exact ⟨C, by rw [hA, hC], rA.below bC, rC, below_over bA bC, by omega⟩
/-- A port and a message handed in and room for a port. -/
theorem three_p (w : World) (p : Pt) (m : Mg) : ∃ W, ((w.alloc (.cells p.cs 53)).alloc (.cells m.cs 43)).alloc (.cells zeroP.cs 53) = W ∧ RvAt W w.heap.size 53 p.cs ∧ RvAt W (w.heap.size + 1) 43 m.cs ∧ RvAt W (w.heap.size + 1 + 1) 53 zeroP.cs ∧ Below w.heap.size w W ∧ W.heap.size = w.heap.size + 3 := by
  obtain ⟨A, hA, rA, bA, zA⟩ := new_p w p
  obtain ⟨D, hD, rD, bD, zD⟩ := new_m A m
  obtain ⟨C, hC, rC, bC, zC⟩ := new_p D zeroP
  rw [zD, zA] at rC
  rw [zA] at rD
  exact ⟨C, by rw [hA, hD, hC], (rA.below bD).below bC, rD.below bC, rC, below_over (below_over bA bD) bC, by omega⟩
end Go.Proofs.Ytllmadgonobdnaa
