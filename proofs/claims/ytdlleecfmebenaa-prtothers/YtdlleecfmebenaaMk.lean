/-
  Trees as they begin: what is built of settings. Plain laws over the program's types.
-/
import Derived.Test.YtdlleecfmebenaaCfg
import Derived.Test.YtdlleecfmebenaaPh
namespace Go.Proofs.Ytdlleecfmebenaa
set_option linter.unusedVariables false
set_option maxRecDepth 4000
set_option linter.unusedSimpArgs false
open Go.RowKit

/-- A port as it begins. -/
def newP (a b : Int) : Pt :=
  if h : (Lit.int .u16 a).wf = true ∧ (Lit.int .u32 b).wf = true then (zeroP.set 0 (.int .u16 a) (fit_num rfl h.1)).set 1 (.int .u32 b) (fit_num rfl h.2) else zeroP
theorem newP_is {a b : Int} (ha : (Lit.int .u16 a).wf = true) (hb : (Lit.int .u32 b).wf = true) : newP a b = (zeroP.set 0 (.int .u16 a) (fit_num rfl ha)).set 1 (.int .u32 b) (fit_num rfl hb) := dif_pos ⟨ha, hb⟩
/-- The ports of a tree as it begins. -/
def newPs (l : List Int) : List Pt := l.mapIdx fun i x => newP (32769 + (i : Int)) x
theorem newPs_len (l : List Int) : (newPs l).length = l.length := by simp [newPs]
theorem newPs_next {l : List Int} {i : Nat} (h : i < l.length) : newPs (l.take (i + 1)) = newPs (l.take i) ++ [newP (32769 + (i : Int)) l[i]] := by
  have e : l.take (i + 1) = l.take i ++ [l[i]] := by rw [List.take_add_one, List.getElem?_eq_getElem h]; rfl
  unfold newPs
  rw [e, List.mapIdx_append]
  simp only [List.mapIdx_cons, List.mapIdx_nil, List.length_take]
  rw [Nat.min_eq_left (by omega), Nat.zero_add]
def newHl (c : Cf) : List Value := [.int .u64 (c.nm 0), .int .u8 (c.nm 1), .int .u8 (c.nm 2), .int .u8 (c.nm 3), .int .u8 (c.nm 4), .int .u8 (c.nm 5), .bool false, .int .u16 0, .int .u64 0, .int .u32 0, .int .u64 0, .int .u16 0, .int .u8 0, .int .u8 0, .int .u8 0, .int .u8 0]
/-- The head of a tree as it begins. -/
def newH (c : Cf) : Hd := ⟨newHl c, by
  refine ⟨rfl, fun j k v hk hv => ?_⟩
  match j, hk, hv with
  | 0, hk, hv => cases hk; cases hv; exact ⟨_, rfl, c.nwf rfl⟩
  | 1, hk, hv => cases hk; cases hv; exact ⟨_, rfl, c.nwf rfl⟩
  | 2, hk, hv => cases hk; cases hv; exact ⟨_, rfl, c.nwf rfl⟩
  | 3, hk, hv => cases hk; cases hv; exact ⟨_, rfl, c.nwf rfl⟩
  | 4, hk, hv => cases hk; cases hv; exact ⟨_, rfl, c.nwf rfl⟩
  | 5, hk, hv => cases hk; cases hv; exact ⟨_, rfl, c.nwf rfl⟩
  | 6, hk, hv => cases hk; cases hv; exact ⟨_, rfl⟩
  | 7, hk, hv => cases hk; cases hv; exact ⟨_, rfl, by decide⟩
  | 8, hk, hv => cases hk; cases hv; exact ⟨_, rfl, by decide⟩
  | 9, hk, hv => cases hk; cases hv; exact ⟨_, rfl, by decide⟩
  | 10, hk, hv => cases hk; cases hv; exact ⟨_, rfl, by decide⟩
  | 11, hk, hv => cases hk; cases hv; exact ⟨_, rfl, by decide⟩
  | 12, hk, hv => cases hk; cases hv; exact ⟨_, rfl, by decide⟩
  | 13, hk, hv => cases hk; cases hv; exact ⟨_, rfl, by decide⟩
  | 14, hk, hv => cases hk; cases hv; exact ⟨_, rfl, by decide⟩
  | 15, hk, hv => cases hk; cases hv; exact ⟨_, rfl, by decide⟩
  | j + 16, hk, hv => simp [newHl] at hv⟩
/-- Sealed: a port, a tree, a slice of one port, built. -/
def bdP (ps : Array (Nat × Value)) : Sem Value := Instr.build 45 ps
theorem bd55 (ps : Array (Nat × Value)) : Instr.build 45 ps = bdP ps := rfl
def bdT (ps : Array (Nat × Value)) : Sem Value := Instr.build 31 ps
theorem bd34 (ps : Array (Nat × Value)) : Instr.build 31 ps = bdT ps := rfl
def bsP (n : Nat) (ps : Array (Nat × Value)) : Sem Value := Instr.buildSlice 29 n ps
theorem bs32 (n : Nat) (ps : Array (Nat × Value)) : Instr.buildSlice 29 n ps = bsP n ps := rfl
def newC (a b : Int) : List Value := (zeroP.cl.set 0 (.int .u16 a)).set 1 (.int .u32 b)
theorem bdP_run (a b : Int) (w : World) : (bdP #[(0, .int .u16 a), (1, .int .u32 b)]).run Try.prog w = .ok (.agg (newC a b).toArray) w := by kernel_rfl
theorem bdP_is {a b : Int} (ha : (Lit.int .u16 a).wf = true) (hb : (Lit.int .u32 b).wf = true) (w : World) : (bdP #[(0, .int .u16 a), (1, .int .u32 b)]).run Try.prog w = .ok (.agg (newP a b).cs) w := by
  rw [bdP_run, newP_is ha hb]
  rfl
theorem bdT_run (i t0 t1 t2 t3 u : Int) (w : World) : (bdT #[(0, .int .u64 i), (1, .agg #[.int .u8 t0, .int .u8 t1, .int .u8 t2, .int .u8 t3]), (2, .int .u8 u)]).run Try.prog w = .ok (.agg #[.int .u64 i, .int .u8 t0, .int .u8 t1, .int .u8 t2, .int .u8 t3, .int .u8 u, .bool false, .int .u16 0, .int .u64 0, .int .u32 0, .int .u64 0, .int .u16 0, .int .u8 0, .int .u8 0, .int .u8 0, .int .u8 0, .slice none 0 0]) w := by kernel_rfl
theorem bdT_is (c : Cf) (w : World) : (bdT #[(0, .int .u64 (c.nm 0)), (1, .agg #[.int .u8 (c.nm 1), .int .u8 (c.nm 2), .int .u8 (c.nm 3), .int .u8 (c.nm 4)]), (2, .int .u8 (c.nm 5))]).run Try.prog w = .ok (.agg (trc (newH c) (.slice none 0 0))) w := by
  rw [bdT_run]
  rfl
theorem bdT_no (w : World) : (bdT #[]).run Try.prog w = .ok (.agg (trc zeroH (.slice none 0 0))) w := by
  have : (bdT #[]).run Try.prog w = .ok (.agg zeroT) w := by kernel_rfl
  rw [this, zeroT_is]
/-- A row into which another of the same length is laid is that other. -/
theorem fill_all : ∀ (l m : List Value) (k : Nat) (pre : List Value), l.length = m.length → pre.length = k → ((l.zipIdx k).foldl (fun (cs : Array Value) (x : Value × Nat) => cs.setIfInBounds (0 + x.2) x.1) (pre ++ m).toArray) = (pre ++ l).toArray
  | [], [], k, pre, _, _ => by simp
  | x :: l, y :: m, k, pre, h, hp => by
    rw [List.zipIdx_cons, List.foldl_cons]
    have e : ((pre ++ y :: m).toArray.setIfInBounds (0 + k) x) = ((pre ++ [x]) ++ m).toArray := by
      rw [Nat.zero_add, List.setIfInBounds_toArray, List.set_append_right _ _ (by omega), hp, Nat.sub_self, List.set_cons_zero]
      simp
    simp only
    rw [e, fill_all l m (k + 1) (pre ++ [x]) (by simpa using h) (by simp [hp])]
    simp
theorem bsP_is (p : Pt) (w : World) : (bsP 1 #[(0, .agg p.cs)]).run Try.prog w = .ok (.slice (some ⟨w.heap.size, 0, none⟩) 1 1) (w.alloc (.cells p.cs 45)) := by
  have hz : ∀ V : World, (sizeOf 45).run Try.prog V = .ok 77 V := Try.sizeOf45
  have hv : (zeroValue 45).run Try.prog w = .ok (.agg zeroP.cs) w := by kernel_rfl
  have hu : Try.prog.underlying 29 = some (.slice 45) := Try.underlying29
  have hf : Instr.fill (fun i => some (i * 77, 77)) ((Array.range (1 * 77)).map (zeroP.cs[· % zeroP.cs.size]!)) [(0, .agg p.cs)] = some p.cs := by
    have hps : p.cs.size = 77 := by rw [Row.csize, lenP]
    have e : ((Array.range (1 * 77)).map (zeroP.cs[· % zeroP.cs.size]!)).size = 77 := by simp
    unfold Instr.fill
    simp only [Value.cells, hps, e]
    rw [if_neg (by simp)]
    unfold Instr.fill
    have q := fill_all p.cl ((Array.range (1 * 77)).map (zeroP.cs[· % zeroP.cs.size]!)).toList 0 [] (by rw [Array.length_toList, e, Pt.len]) rfl
    simp only [List.nil_append, Array.toArray_toList] at q
    have e2 : p.cs = p.cl.toArray := rfl
    have e3 : p.cs.zipIdx.toList = p.cl.zipIdx := by rw [e2]; simp
    rw [← Array.foldl_toList, e3, e2, Nat.zero_mul]
    exact congrArg some q
  unfold bsP Instr.buildSlice
  simp only [Sem.run_bind, run_underlying hu, Result.andThen_ok, hz]
  simp [hv, hf, Value.cells]
  rfl
end Go.Proofs.Ytdlleecfmebenaa
