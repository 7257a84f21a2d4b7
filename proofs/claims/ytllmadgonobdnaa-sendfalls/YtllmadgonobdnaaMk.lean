/-
  Trees as they begin: what is built of settings. Plain laws over the program's types.
-/
import Derived.Test.YtllmadgonobdnaaCfg
import Derived.Test.YtllmadgonobdnaaPh
namespace Go.Proofs.Ytllmadgonobdnaa
set_option linter.unusedVariables false
set_option maxRecDepth 4000
set_option linter.unusedSimpArgs false
open Go.RowKit

/-- A port as it begins. -/
def newP (a b : Int) : Pt :=
  if h : (Lit.int .u16 a).wf = true ∧ (Lit.int .u32 b).wf = true then (zeroP.set 0 (.int .u16 a) (fit_num rfl h.1)).set 1 (.int .u32 b) (fit_num rfl h.2) else zeroP
theorem newP_is {a b : Int} (ha : (Lit.int .u16 a).wf = true) (hb : (Lit.int .u32 b).wf = true) : newP a b = (zeroP.set 0 (.int .u16 a) (fit_num rfl ha)).set 1 (.int .u32 b) (fit_num rfl hb) := dif_pos ⟨ha, hb⟩
/-- The ports of a tree as it begins. -/
def newPs (l : List Int) : List Pt := l.mapIdx fun i x => newP (32769 + (i : Int)) x
theorem newPs_len (l : List Int) : (newPs l).length = l.length := by simp [newPs]
theorem newPs_next {l : List Int} {i : Nat} (h : i < l.length) : newPs (l.take (i + 1)) = newPs (l.take i) ++ [newP (32769 + (i : Int)) l[i]] := by
  have e : l.take (i + 1) = l.take i ++ [l[i]] := by rw [List.take_add_one, List.getElem?_eq_getElem h]; rfl
  unfold newPs
  rw [e, List.mapIdx_append]
  simp only [List.mapIdx_cons, List.mapIdx_nil, List.length_take]
  rw [Nat.min_eq_left (by omega), Nat.zero_add]
def newHl (c : Cf) : List Value := [.int .u64 (c.nm 0), .int .u8 (c.nm 1), .int .u8 (c.nm 2), .int .u8 (c.nm 3), .int .u8 (c.nm 4), .int .u8 (c.nm 5), .bool false, .int .u16 0, .int .u64 0, .int .u32 0, .int .u64 0, .int .u16 0, .int .u8 0, .int .u8 0, .int .u8 0, .int .u8 0]
/-- The head of a tree as it begins. -/
def newH (c : Cf) : Hd := ⟨newHl c, by
  refine ⟨rfl, fun j k v hk hv => ?_⟩
  match j, hk, hv with
  | 0, hk, hv => cases hk; cases hv; exact ⟨_, rfl, c.nwf rfl⟩
  | 1, hk, hv => cases hk; cases hv; exact ⟨_, rfl, c.nwf rfl⟩
  | 2, hk, hv => cases hk; cases hv; exact ⟨_, rfl, c.nwf rfl⟩
  | 3, hk, hv => cases hk; cases hv; exact ⟨_, rfl, c.nwf rfl⟩
  | 4, hk, hv => cases hk; cases hv; exact ⟨_, rfl, c.nwf rfl⟩
  | 5, hk, hv => cases hk; cases hv; exact ⟨_, rfl, c.nwf rfl⟩
  | 6, hk, hv => cases hk; cases hv; exact ⟨_, rfl⟩
  | 7, hk, hv => cases hk; cases hv; exact ⟨_, rfl, by decide⟩
  | 8, hk, hv => cases hk; cases hv; exact ⟨_, rfl, by decide⟩
  | 9, hk, hv => cases hk; cases hv; exact ⟨_, rfl, by decide⟩
  | 10, hk, hv => cases hk; cases hv; exact ⟨_, rfl, by decide⟩
  | 11, hk, hv => cases hk; cases hv; exact ⟨_, rfl, by decide⟩
  | 12, hk, hv => cases hk; cases hv; exact ⟨_, rfl, by decide⟩
  | 13, hk, hv => cases hk; cases hv; exact ⟨_, rfl, by decide⟩
  | 14, hk, hv => cases hk; cases hv; exact ⟨_, rfl, by decide⟩
  | 15, hk, hv => cases hk; cases hv; exact ⟨_, rfl, by decide⟩
  | j + 16, hk, hv => simp [newHl] at hv⟩
/-- Sealed: a port, a tree, a slice of one port, built. -/
def bdP (ps : Array (Nat × Value)) : Sem Value := Instr.build 53 ps
theorem bd55 (ps : Array (Nat × Value)) : Instr.build 53 ps = bdP ps := rfl
def bdT (ps : Array (Nat × Value)) : Sem Value := Instr.build 31 ps
theorem bd34 (ps : Array (Nat × Value)) : Instr.build 31 ps = bdT ps := rfl
def newC (a b : Int) : List Value := (zeroP.cl.set 0 (.int .u16 a)).set 1 (.int .u32 b)
theorem bdP_run (a b : Int) (w : World) : (bdP #[(0, .int .u16 a), (1, .int .u32 b)]).run Try.prog w = .ok (.agg (newC a b).toArray) w := by kernel_rfl
theorem bdP_is {a b : Int} (ha : (Lit.int .u16 a).wf = true) (hb : (Lit.int .u32 b).wf = true) (w : World) : (bdP #[(0, .int .u16 a), (1, .int .u32 b)]).run Try.prog w = .ok (.agg (newP a b).cs) w := by
  rw [bdP_run, newP_is ha hb]
  rfl
theorem bdT_run (i t0 t1 t2 t3 u : Int) (w : World) : (bdT #[(0, .int .u64 i), (1, .agg #[.int .u8 t0, .int .u8 t1, .int .u8 t2, .int .u8 t3]), (2, .int .u8 u)]).run Try.prog w = .ok (.agg #[.int .u64 i, .int .u8 t0, .int .u8 t1, .int .u8 t2, .int .u8 t3, .int .u8 u, .bool false, .int .u16 0, .int .u64 0, .int .u32 0, .int .u64 0, .int .u16 0, .int .u8 0, .int .u8 0, .int .u8 0, .int .u8 0, .slice none 0 0]) w := by kernel_rfl
theorem bdT_is (c : Cf) (w : World) : (bdT #[(0, .int .u64 (c.nm 0)), (1, .agg #[.int .u8 (c.nm 1), .int .u8 (c.nm 2), .int .u8 (c.nm 3), .int .u8 (c.nm 4)]), (2, .int .u8 (c.nm 5))]).run Try.prog w = .ok (.agg (trc (newH c) (.slice none 0 0))) w := by
  rw [bdT_run]
  rfl
theorem bdT_no (w : World) : (bdT #[]).run Try.prog w = .ok (.agg (trc zeroH (.slice none 0 0))) w := by
  have : (bdT #[]).run Try.prog w = .ok (.agg zeroT) w := by kernel_rfl
  rw [this, zeroT_is]
end Go.Proofs.Ytllmadgonobdnaa
