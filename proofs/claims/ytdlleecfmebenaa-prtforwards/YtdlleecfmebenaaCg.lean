/-
  The port that is being changed, with its tree: the variable, and the walk of port.
-/
import Derived.Test.YtdlleecfmebenaaSym
import Derived.Test.YtdlleecfmebenaaAsks
namespace Go.Proofs.Ytdlleecfmebenaa
set_option linter.unusedVariables false
set_option maxRecDepth 4000
set_option linter.unusedSimpArgs false
open Go.RowKit

/-- The cells of a tree and a port's place. -/
def chc (h : Hd) (x : Value) (k : Int) : Array Value := (h.cl ++ [x, .int .i64 k]).toArray
theorem chc_size (h : Hd) (x : Value) (k : Int) : (chc h x k).size = 18 := by simp [chc, h.len, lenH]
theorem infoCh : (Try.prog.info? 50).map (·.size) = some 18 := by kernel_rfl
theorem rtCh : RowTy 50 18 := ⟨infoCh, _, Try.underlying50, rfl⟩
theorem chc_16 (h : Hd) (x : Value) (k : Int) : (chc h x k)[16]? = some x := by
  have := h.len
  rw [lenH] at this
  simp only [chc, List.getElem?_toArray]
  rw [List.getElem?_append_right (by omega), this]
  rfl
theorem chc_17 (h : Hd) (x : Value) (k : Int) : (chc h x k)[17]? = some (.int .i64 k) := by
  have := h.len
  rw [lenH] at this
  simp only [chc, List.getElem?_toArray]
  rw [List.getElem?_append_right (by omega), this]
  rfl
theorem chc_get {h : Hd} {x v : Value} {k : Int} {j : Nat} (hv : (trc h x)[j]? = some v) : (chc h x k)[j]? = some v := by
  have hl := h.len
  rw [lenH] at hl
  have hj := (Array.getElem?_eq_some_iff.1 hv).1
  rw [trc_size] at hj
  simp only [trc, List.getElem?_toArray] at hv
  simp only [chc, List.getElem?_toArray]
  rw [show h.cl ++ [x, .int .i64 k] = (h.cl ++ [x]) ++ [.int .i64 k] by simp, List.getElem?_append_left (by simp; omega)]
  exact hv
theorem chc_one {h : Hd} {x : Value} {k : Int} (hx : x.oneCell' = true) : ∀ v ∈ (chc h x k).toList, v.oneCell' = true := by
  intro v hv
  simp only [chc, List.mem_append, List.mem_cons, List.not_mem_nil, or_false] at hv
  rcases hv with hv | rfl | rfl
  · exact h.one v hv
  · exact hx
  · rfl
theorem RvAt.h16 {W : World} {b : Nat} {h : Hd} {x : Value} {k : Int} (hb : RvAt W b 50 (chc h x k)) : W.cell? ⟨b, 16, none⟩ = some x := hb.cell 16 _ (chc_16 h x k)
theorem RvAt.h17 {W : World} {b : Nat} {h : Hd} {x : Value} {k : Int} (hb : RvAt W b 50 (chc h x k)) : W.cell? ⟨b, 17, none⟩ = some (.int .i64 k) := hb.cell 17 _ (chc_17 h x k)
/-- Its tree, loaded. -/
theorem RvAt.htree {W : World} {b : Nat} {h : Hd} {x : Value} {k : Int} (hb : RvAt W b 50 (chc h x k)) : (ldS 31 (.pointer (some ⟨b, 0, none⟩))).run Try.prog W = .ok (.agg (trc h x)) W :=
  run_loadAt_mid W b 0 31 (trc h x).toList _ (fun j v hv => by
    rw [Nat.zero_add]
    exact hb.cell j v (chc_get (by simpa using hv))) Try.underlying31 rfl (by rw [Array.length_toList, trc_size]; exact infoT)
theorem chc_tree (h g : Hd) (x y : Value) (k : Int) : ((chc h x k).toList.take 0 ++ (trc g y).toList ++ (chc h x k).toList.drop (0 + (trc g y).size)).toArray = chc g y k := by
  have hl := h.len
  rw [lenH] at hl
  rw [trc_size]
  simp only [chc, trc, List.take_zero, List.nil_append, Nat.zero_add]
  rw [show h.cl ++ [x, .int .i64 k] = (h.cl ++ [x]) ++ [.int .i64 k] by simp, List.drop_append_of_le_length (by simp; omega), List.drop_eq_nil_of_le (by simp; omega)]
  simp
/-- .. stored. -/
theorem RvAt.hst {W : World} {b : Nat} {h g : Hd} {x y : Value} {k : Int} (hb : RvAt W b 50 (chc h x k)) (hy : y.oneCell' = true) :
    ∃ W', (stS 31 (.pointer (some ⟨b, 0, none⟩)) (.agg (trc g y))).run Try.prog W = .ok () W' ∧ RvAt W' b 50 (chc g y k) ∧ W.grownBy W' (some b) := by
  have hs := store_cells (ty := 31) (o := 0) (cs := trc g y) hb (by rw [trc_size]; exact infoT) (by rw [trc_size, chc_size]; omega) (trc_one hy)
  rw [chc_tree] at hs
  exact ⟨_, hs, hb.set, grown_row _ _ _⟩
/-- A tree and a port of it, as they are looked at. -/
structure CS (W : World) (b : Nat) (h : Hd) (g o n c k : Nat) (l : List Pt) : Prop where
  var : RvAt W b 50 (chc h (.slice (some ⟨g, o, none⟩) n c) k)
  sl : SlAt W (some ⟨g, o, none⟩) n c l
  hk : k < n
  hn : n ≤ 1000
theorem CS.below {W V : World} {b g o n c k : Nat} {h : Hd} {l : List Pt} (s : CS W b h g o n c k l) (e : Below W.heap.size W V) : CS V b h g o n c k l := ⟨s.var.below e, s.sl.below e, s.hk, s.hn⟩
theorem CS.lt {W : World} {b g o n c k : Nat} {h : Hd} {l : List Pt} (s : CS W b h g o n c k l) : k < l.length := by rw [s.sl.len]; exact s.hk
theorem CS.cell {W : World} {b g o n c k : Nat} {h : Hd} {l : List Pt} (s : CS W b h g o n c k l) {j : Nat} {v : Value} (hv : (gtP l k).cl[j]? = some v) : W.cell? ⟨g, o + k * 77 + j, none⟩ = some v :=
  s.sl.cell (gtP_at s.lt) hv (by rw [← Pt.len (gtP l k)]; exact (List.getElem?_eq_some_iff.1 hv).1)
theorem CS.rd {W : World} {b g o n c k : Nat} {h : Hd} {l : List Pt} (s : CS W b h g o n c k l) : Prd (fun w' => ∃ x : Later W, w' = x.val) g (o + k * 77) (gtP l k) := ⟨fun j v hv w hw => by
  obtain ⟨x, rfl⟩ := hw
  exact (s.below x.below).cell hv⟩
attribute [local go_sem ↓] ldP stP ldT stT
set_option maxHeartbeats 2000000 in
theorem port_any {W : World} {b g o n c k : Nat} {h : Hd} {l : List Pt} (s : CS W b h g o n c k l) :
    Calls Try.prog 28 #[.pointer (some ⟨b, 0, none⟩)] W fun r W' => r = .returned (.pointer (some ⟨g, o + k * 77, none⟩)) ∧ Below W.heap.size W W' := by
  have f16 := fun x : Later W => (s.below x.below).var.h16
  have f17 := fun x : Later W => (s.below x.below).var.h17
  have hk := s.hk
  have hin0 : (0 : Int) ≤ (k : Int) := by omega
  have hin1 : (k : Int) < (n : Int) := by omega
  clear s hk
  go_enter Try.func28, Try.ntmps28
  go_wp2_with fail
  refine wp_region_later (by kernel_rfl) (by kernel_rfl) ?_
  repeat (go_big_quiet_step (first | exact rfl))
  refine wpQuiet_nil ?_
  intro _ hw'
  obtain ⟨y, rfl⟩ := hw'
  go_wp2
  go_ret
  exact ⟨rfl, y.below⟩
/-- .. as a fact of every later world. -/
theorem port_later {W : World} {b g o n c k : Nat} {h : Hd} {l : List Pt} (s : CS W b h g o n c k l) (x : Later W) :
    Calls Try.prog 28 #[.pointer (some ⟨b, 0, none⟩)] x.val fun r W' => r = .returned (.pointer (some ⟨g, o + k * 77, none⟩)) ∧ ∃ y : Later W, W' = y.val := Calls.later_of (port_any (s.below x.below))
end Go.Proofs.Ytdlleecfmebenaa
