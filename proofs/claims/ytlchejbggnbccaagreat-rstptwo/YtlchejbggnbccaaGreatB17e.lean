/-
  RstpTwo: its walk, for all numbers. And what follows from it here.
-/
import Derived.Test.YtlchejbggnbccaaGreatB17d
import Derived.Test.YtlchejbggnbccaaGreatB17aaa
import Derived.Test.YtlchejbggnbccaaGreatB17bba
import Derived.Test.YtlchejbggnbccaaGreatB17cca
import Derived.Test.YtlchejbggnbccaaGreatB17dda
namespace Go.Proofs.YtlchejbggnbccaaGreat
set_option linter.unusedVariables false
set_option linter.unusedSimpArgs false
set_option maxRecDepth 4000
section
namespace S17
open Go.RowKit
open S14 (gtP gtP_at set_self)
abbrev q7_23_1 : Oper := { dst := some 127, op := Op.fieldAddr 52 (Operand.tmp 14) 0, type := 0, pos := "law.go:195", after := #[], guard := none }
abbrev q7_23_2 : Oper := { dst := some 128, op := Op.load 49 (Operand.tmp 127), type := 49, pos := "law.go:195", after := #[{ on := 1, ground := Ground.data }], guard := none }
abbrev q7_23_4 : Oper := { dst := some 130, op := Op.fieldAddr 52 (Operand.tmp 19) 0, type := 0, pos := "law.go:195", after := #[], guard := none }
abbrev q7_23_5 : Oper := { dst := some 131, op := Op.load 49 (Operand.tmp 130), type := 49, pos := "law.go:195", after := #[{ on := 4, ground := Ground.data }], guard := none }
abbrev q7_23_0 : Oper := { dst := some 126, op := Op.buildSlice 49 0 #[], type := 49, pos := "law.go:195", after := #[], guard := none }
abbrev q7_23_3 : Oper := { dst := some 129, op := Op.call { callee := Callee.builtin Builtin.append, args := #[Operand.tmp 126, Operand.tmp 128], argTypes := #[49, 49] }, type := 49, pos := "law.go:195", after := #[{ on := 0, ground := Ground.data }, { on := 2, ground := Ground.data }], guard := none }
abbrev q7_23_6 : Oper := { dst := some 132, op := Op.call { callee := Callee.builtin Builtin.append, args := #[Operand.tmp 129, Operand.tmp 131], argTypes := #[49, 49] }, type := 49, pos := "law.go:195", after := #[{ on := 3, ground := Ground.data }, { on := 5, ground := Ground.data }, { on := 3, ground := Ground.chain }], guard := none }
abbrev q7_23_7 : Oper := { dst := some 133, op := Op.fieldAddr 52 (Operand.tmp 14) 0, type := 0, pos := "law.go:195", after := #[{ on := 0, ground := Ground.phase }, { on := 1, ground := Ground.phase }, { on := 2, ground := Ground.phase }, { on := 3, ground := Ground.phase }, { on := 4, ground := Ground.phase }, { on := 5, ground := Ground.phase }, { on := 6, ground := Ground.phase }], guard := none }
abbrev q7_23_8 : Oper := { dst := none, op := Op.store 49 (Operand.tmp 133) (Operand.tmp 132), type := 0, pos := "law.go:195", after := #[{ on := 7, ground := Ground.data }, { on := 6, ground := Ground.data }, { on := 6, ground := Ground.chain }, { on := 0, ground := Ground.phase }, { on := 1, ground := Ground.phase }, { on := 2, ground := Ground.phase }, { on := 3, ground := Ground.phase }, { on := 4, ground := Ground.phase }, { on := 5, ground := Ground.phase }, { on := 6, ground := Ground.phase }], guard := none }
abbrev q7_27_1 : Oper := { dst := some 150, op := Op.fieldAddr 52 (Operand.tmp 12) 0, type := 0, pos := "law.go:201", after := #[], guard := none }
abbrev q7_27_2 : Oper := { dst := some 151, op := Op.load 49 (Operand.tmp 150), type := 49, pos := "law.go:201", after := #[{ on := 1, ground := Ground.data }], guard := none }
abbrev q7_27_4 : Oper := { dst := some 153, op := Op.fieldAddr 52 (Operand.tmp 22) 0, type := 0, pos := "law.go:201", after := #[], guard := none }
abbrev q7_27_5 : Oper := { dst := some 154, op := Op.load 49 (Operand.tmp 153), type := 49, pos := "law.go:201", after := #[{ on := 4, ground := Ground.data }], guard := none }
abbrev q7_27_0 : Oper := { dst := some 149, op := Op.buildSlice 49 0 #[], type := 49, pos := "law.go:201", after := #[], guard := none }
abbrev q7_27_3 : Oper := { dst := some 152, op := Op.call { callee := Callee.builtin Builtin.append, args := #[Operand.tmp 149, Operand.tmp 151], argTypes := #[49, 49] }, type := 49, pos := "law.go:201", after := #[{ on := 0, ground := Ground.data }, { on := 2, ground := Ground.data }], guard := none }
abbrev q7_27_6 : Oper := { dst := some 155, op := Op.call { callee := Callee.builtin Builtin.append, args := #[Operand.tmp 152, Operand.tmp 154], argTypes := #[49, 49] }, type := 49, pos := "law.go:201", after := #[{ on := 3, ground := Ground.data }, { on := 5, ground := Ground.data }, { on := 3, ground := Ground.chain }], guard := none }
abbrev q7_27_7 : Oper := { dst := some 156, op := Op.fieldAddr 52 (Operand.tmp 12) 0, type := 0, pos := "law.go:201", after := #[{ on := 0, ground := Ground.phase }, { on := 1, ground := Ground.phase }, { on := 2, ground := Ground.phase }, { on := 3, ground := Ground.phase }, { on := 4, ground := Ground.phase }, { on := 5, ground := Ground.phase }, { on := 6, ground := Ground.phase }], guard := none }
abbrev q7_27_8 : Oper := { dst := none, op := Op.store 49 (Operand.tmp 156) (Operand.tmp 155), type := 0, pos := "law.go:201", after := #[{ on := 7, ground := Ground.data }, { on := 6, ground := Ground.data }, { on := 6, ground := Ground.chain }, { on := 0, ground := Ground.phase }, { on := 1, ground := Ground.phase }, { on := 2, ground := Ground.phase }, { on := 3, ground := Ground.phase }, { on := 4, ground := Ground.phase }, { on := 5, ground := Ground.phase }, { on := 6, ground := Ground.phase }], guard := none }
abbrev q7_30_1 : Oper := { dst := some 168, op := Op.fieldAddr 52 (Operand.tmp 12) 0, type := 0, pos := "law.go:205", after := #[], guard := none }
abbrev q7_30_2 : Oper := { dst := some 169, op := Op.load 49 (Operand.tmp 168), type := 49, pos := "law.go:205", after := #[{ on := 1, ground := Ground.data }], guard := none }
abbrev q7_30_4 : Oper := { dst := some 171, op := Op.fieldAddr 52 (Operand.tmp 24) 0, type := 0, pos := "law.go:205", after := #[], guard := none }
abbrev q7_30_5 : Oper := { dst := some 172, op := Op.load 49 (Operand.tmp 171), type := 49, pos := "law.go:205", after := #[{ on := 4, ground := Ground.data }], guard := none }
abbrev q7_30_0 : Oper := { dst := some 167, op := Op.buildSlice 49 0 #[], type := 49, pos := "law.go:205", after := #[], guard := none }
abbrev q7_30_3 : Oper := { dst := some 170, op := Op.call { callee := Callee.builtin Builtin.append, args := #[Operand.tmp 167, Operand.tmp 169], argTypes := #[49, 49] }, type := 49, pos := "law.go:205", after := #[{ on := 0, ground := Ground.data }, { on := 2, ground := Ground.data }], guard := none }
abbrev q7_30_6 : Oper := { dst := some 173, op := Op.call { callee := Callee.builtin Builtin.append, args := #[Operand.tmp 170, Operand.tmp 172], argTypes := #[49, 49] }, type := 49, pos := "law.go:205", after := #[{ on := 3, ground := Ground.data }, { on := 5, ground := Ground.data }, { on := 3, ground := Ground.chain }], guard := none }
abbrev q7_30_7 : Oper := { dst := some 174, op := Op.fieldAddr 52 (Operand.tmp 12) 0, type := 0, pos := "law.go:205", after := #[{ on := 0, ground := Ground.phase }, { on := 1, ground := Ground.phase }, { on := 2, ground := Ground.phase }, { on := 3, ground := Ground.phase }, { on := 4, ground := Ground.phase }, { on := 5, ground := Ground.phase }, { on := 6, ground := Ground.phase }], guard := none }
abbrev q7_30_8 : Oper := { dst := none, op := Op.store 49 (Operand.tmp 174) (Operand.tmp 173), type := 0, pos := "law.go:205", after := #[{ on := 7, ground := Ground.data }, { on := 6, ground := Ground.data }, { on := 6, ground := Ground.chain }, { on := 0, ground := Ground.phase }, { on := 1, ground := Ground.phase }, { on := 2, ground := Ground.phase }, { on := 3, ground := Ground.phase }, { on := 4, ground := Ground.phase }, { on := 5, ground := Ground.phase }, { on := 6, ground := Ground.phase }], guard := none }
abbrev q7_31_1 : Oper := { dst := some 176, op := Op.fieldAddr 52 (Operand.tmp 14) 0, type := 0, pos := "law.go:206", after := #[], guard := none }
abbrev q7_31_2 : Oper := { dst := some 177, op := Op.load 49 (Operand.tmp 176), type := 49, pos := "law.go:206", after := #[{ on := 1, ground := Ground.data }], guard := none }
abbrev q7_31_4 : Oper := { dst := some 179, op := Op.fieldAddr 52 (Operand.tmp 26) 0, type := 0, pos := "law.go:206", after := #[], guard := none }
abbrev q7_31_5 : Oper := { dst := some 180, op := Op.load 49 (Operand.tmp 179), type := 49, pos := "law.go:206", after := #[{ on := 4, ground := Ground.data }], guard := none }
abbrev q7_31_0 : Oper := { dst := some 175, op := Op.buildSlice 49 0 #[], type := 49, pos := "law.go:206", after := #[], guard := none }
abbrev q7_31_3 : Oper := { dst := some 178, op := Op.call { callee := Callee.builtin Builtin.append, args := #[Operand.tmp 175, Operand.tmp 177], argTypes := #[49, 49] }, type := 49, pos := "law.go:206", after := #[{ on := 0, ground := Ground.data }, { on := 2, ground := Ground.data }], guard := none }
abbrev q7_31_6 : Oper := { dst := some 181, op := Op.call { callee := Callee.builtin Builtin.append, args := #[Operand.tmp 178, Operand.tmp 180], argTypes := #[49, 49] }, type := 49, pos := "law.go:206", after := #[{ on := 3, ground := Ground.data }, { on := 5, ground := Ground.data }, { on := 3, ground := Ground.chain }], guard := none }
abbrev q7_31_7 : Oper := { dst := some 182, op := Op.fieldAddr 52 (Operand.tmp 14) 0, type := 0, pos := "law.go:206", after := #[{ on := 0, ground := Ground.phase }, { on := 1, ground := Ground.phase }, { on := 2, ground := Ground.phase }, { on := 3, ground := Ground.phase }, { on := 4, ground := Ground.phase }, { on := 5, ground := Ground.phase }, { on := 6, ground := Ground.phase }], guard := none }
abbrev q7_31_8 : Oper := { dst := none, op := Op.store 49 (Operand.tmp 182) (Operand.tmp 181), type := 0, pos := "law.go:206", after := #[{ on := 7, ground := Ground.data }, { on := 6, ground := Ground.data }, { on := 6, ground := Ground.chain }, { on := 0, ground := Ground.phase }, { on := 1, ground := Ground.phase }, { on := 2, ground := Ground.phase }, { on := 3, ground := Ground.phase }, { on := 4, ground := Ground.phase }, { on := 5, ground := Ground.phase }, { on := 6, ground := Ground.phase }], guard := none }

theorem wf64 {n : Int} (h : 0 ≤ n ∧ n ≤ 18446744073709551615) : (Lit.int .u64 n).wf = true := by simp [Lit.wf, IntKind.min, IntKind.max, IntKind.signed, IntKind.bits]; omega
theorem cF_ok {i t : Int} (h : (Lit.int .u64 i).wf = true) (k : (Lit.int .u8 t).wf = true) (hi : i % 281474976710656 ≠ 0) (ht : 1 ≤ t ∧ t ≤ 10) : S9.okC (cF i t h k) [20000, 20000] = true := by
  refine decide_eq_true ?_
  exact ⟨hi, show S9.chkT 20 2 15 = 0 by decide, rfl, ht.1, ht.2, by decide, by decide, by decide⟩
theorem cF_rl {x y i j t : Int} (h : (Lit.int .u64 i).wf = true) (g : (Lit.int .u64 j).wf = true) (k : (Lit.int .u8 t).wf = true) (r : Ro x y i j) : Rl x y (cF i t h k) (cF j t g k) := by
  refine ⟨fun n hn => ?_, fun n hn => ?_⟩
  · match n with
    | 0 => exact r
    | 1 => cases hn
    | 2 => cases hn
    | 3 => cases hn
    | 4 => cases hn
    | 5 => cases hn
    | n + 6 => simp [kdC, kdT] at hn
  · match n with
    | 0 => exact absurd rfl hn
    | 1 => rfl
    | 2 => rfl
    | 3 => rfl
    | 4 => rfl
    | 5 => rfl
    | n + 6 => rfl
structure Gd (x : Int) (lo hi : Hd) (la lb : List Pt) : Prop where
  l7 : lo.nm 7 = 0
  h7 : hi.nm 7 = 32769
  h8 : hi.nm 8 = x
  na : la.length = 2
  nb : lb.length = 2
  ra : (gtP la 0).nm 30 = 4
  rb : (gtP lb 0).nm 30 = 3
  fa : (gtP la 0).bt 8 = true
  fb : (gtP lb 0).bt 8 = true
theorem gd_of {x y : Int} {lo hi lo' hi' : Hd} {la lb la' lb' : List Pt} (t : Tw x y) (c : chkT lo hi la lb = true) (h1 : Rl x y lo lo') (h2 : Rl x y hi hi') (h3 : LR x y la la') (h4 : LR x y lb lb') : Gd x lo' hi' la' lb' := by
  unfold chkT at c
  simp only [Bool.and_eq_true, beq_iff_eq] at c
  obtain ⟨⟨⟨⟨⟨⟨⟨⟨c1, c2⟩, c3⟩, c4⟩, c5⟩, c6⟩, c7⟩, c8⟩, c9⟩ := c
  have ga : Rl x y (gtP la 0) (gtP la' 0) := h3.at' 0
  have gb : Rl x y (gtP lb 0) (gtP lb' 0) := h4.at' 0
  refine ⟨by rw [← h1.nm (by decide)]; exact c1, by rw [← h2.nm (by decide)]; exact c2, ?_, by rw [← h3.len]; exact c4, by rw [← h4.len]; exact c5, by rw [← ga.nm (by decide)]; exact c6, by rw [← gb.nm (by decide)]; exact c7, by rw [← ga.bt]; exact c8, by rw [← gb.bt]; exact c9⟩
  have := h2.id 8 rfl
  rcases this with q | q | q
  · rw [c3] at q; omega
  · exact q.2
  · rw [c3] at q; omega
theorem chk_all (t : Int) (k : (Lit.int .u8 t).wf = true) (ht : 1 ≤ t ∧ t ≤ 10) : chkS t k = true ∧ chkR t k = true := by
  have : t = 1 ∨ t = 2 ∨ t = 3 ∨ t = 4 ∨ t = 5 ∨ t = 6 ∨ t = 7 ∨ t = 8 ∨ t = 9 ∨ t = 10 := by omega
  rcases this with rfl | rfl | rfl | rfl | rfl | rfl | rfl | rfl | rfl | rfl
  · exact ⟨chkS1, chkR1⟩
  · exact ⟨chkS2, chkR2⟩
  · exact ⟨chkS3, chkR3⟩
  · exact ⟨chkS4, chkR4⟩
  · exact ⟨chkS5, chkR5⟩
  · exact ⟨chkS6, chkR6⟩
  · exact ⟨chkS7, chkR7⟩
  · exact ⟨chkS8, chkR8⟩
  · exact ⟨chkS9, chkR9⟩
  · exact ⟨chkS10, chkR10⟩
theorem two_all {x y t : Int} (hx : (Lit.int .u64 x).wf = true) (hy : (Lit.int .u64 y).wf = true) (k : (Lit.int .u8 t).wf = true) (ht : 1 ≤ t ∧ t ≤ 10) (ax : x % 281474976710656 ≠ 0) (ay : y % 281474976710656 ≠ 0) (ne : x % 281474976710656 ≠ y % 281474976710656) (px : 0 < x) (py : 0 < y) :
    (x < y → Gd x (secs 12 (pair (cF x t hx k) (cF y t hy k) [20000, 20000])).ha (secs 12 (pair (cF x t hx k) (cF y t hy k) [20000, 20000])).hb (secs 12 (pair (cF x t hx k) (cF y t hy k) [20000, 20000])).la (secs 12 (pair (cF x t hx k) (cF y t hy k) [20000, 20000])).lb) ∧
    (y < x → Gd y (secs 12 (pair (cF x t hx k) (cF y t hy k) [20000, 20000])).hb (secs 12 (pair (cF x t hx k) (cF y t hy k) [20000, 20000])).ha (secs 12 (pair (cF x t hx k) (cF y t hy k) [20000, 20000])).lb (secs 12 (pair (cF x t hx k) (cF y t hy k) [20000, 20000])).la) := by
  have c := chk_all t k ht
  refine ⟨fun l => ?_, fun l => ?_⟩
  · have T : Tw x y := ⟨px, l, ax, ay, ne⟩
    have r := S_secs T (S_pair T (cF_rl (i := 1) (by decide) hx k (Or.inr (Or.inl ⟨rfl, rfl⟩))) (cF_rl (i := 2) (by decide) hy k (Or.inr (Or.inr ⟨rfl, rfl⟩))) [20000, 20000]) 12
    exact gd_of T c.1 r.ha r.hb r.la r.lb
  · have T : Tw y x := ⟨py, l, ay, ax, Ne.symm ne⟩
    have r := S_secs T (S_pair T (cF_rl (i := 2) (by decide) hx k (Or.inr (Or.inr ⟨rfl, rfl⟩))) (cF_rl (i := 1) (by decide) hy k (Or.inr (Or.inl ⟨rfl, rfl⟩))) [20000, 20000]) 12
    exact gd_of T c.2 r.hb r.ha r.lb r.la
/-! ### the walk -/
theorem pair_is (c d : Cf) (l : List Int) : (lift c l).h = (pair c d l).ha ∧ (lift c l).l = (pair c d l).la ∧ (lift d l).h = (pair c d l).hb ∧ (lift d l).l = (pair c d l).lb ∧ (lift c l).o = (pair c d l).u ∧ (lift d l).o = (pair c d l).v := ⟨rfl, rfl, rfl, rfl, rfl, rfl⟩
theorem lift_is (c : Cf) (l : List Int) : evUp (newT c l).h (newT c l).s.l ((0 : Nat) : Int) true = lift c l := rfl
theorem st_id {W : World} {b : Nat} {i j t : Int} {h : (Lit.int .u64 i).wf = true} {k : (Lit.int .u8 t).wf = true} {v : Value} (g : (Lit.int .u64 j).wf = true) (r : RvAt W b 27 (S9.cfc (cF i t h k) v)) :
    ∃ V, (stS 22 (.pointer (some ⟨b, 0, none⟩)) (.int .u64 j)).run Tryz.prog W = .ok () V ∧ RvAt V b 27 (S9.cfc (cF j t g k) v) ∧ W.grownBy V (some b) := by
  refine ⟨_, r.st1 (k := 0) (by kernel_rfl) (by rw [S9.cfc_size]; omega) rfl, ?_, grown_row _ _ _⟩
  exact r.set
theorem st_hold {W : World} {b : Nat} {t : Int} {k : (Lit.int .u8 t).wf = true} {v : Value} (g : (Lit.int .u64 9223372036854775813).wf = true) (r : RvAt W b 27 (S9.cfc S15.cX v)) :
    ∃ V, (stS 5 (.pointer (some ⟨b, 5, none⟩)) (.int .u8 t)).run Tryz.prog W = .ok () V ∧ RvAt V b 27 (S9.cfc (cF 9223372036854775813 t g k) v) ∧ W.grownBy V (some b) := by
  refine ⟨_, r.st1 (k := 5) (by kernel_rfl) (by rw [S9.cfc_size]; omega) rfl, ?_, grown_row _ _ _⟩
  exact r.set
theorem var_cf (W : World) (c : Cf) (x : Value) (hx : x.oneCell' = true) : ∃ W', (stS 27 (.pointer (some ⟨W.heap.size, 0, none⟩)) (.agg (S9.cfc c x))).run Tryz.prog (W.alloc (.cells #[.int .u64 0, .int .u8 0, .int .u8 0, .int .u8 0, .int .u8 0, .int .u8 0, .slice none 0 0] 27)) = .ok () W' ∧ RvAt W' W.heap.size 27 (S9.cfc c x) ∧ Below W.heap.size W W' ∧ W'.heap.size = W.heap.size + 1 := row_new rtC W _ _ rfl (S9.cfc_size c x) (S9.cfc_one hx)
theorem st8 (x y : Value) : Instr.storeAt 5 x y = stS 5 x y := rfl
theorem st64 (x y : Value) : Instr.storeAt 22 x y = stS 22 x y := rfl
def fdT (x : Value) (k : Nat) : Sem Value := Instr.field 39 x k
theorem fdTE (x : Value) (k : Nat) : Instr.field 39 x k = fdT x k := rfl
theorem fdT_4 (h : Hd) (v : Value) (w : World) : (fdT (.agg (trc h v)) 4).run Tryz.prog w = .ok (.int .u16 (h.nm 7)) w := by
  have e : (trc h v)[7]? = some (.int .u16 (h.nm 7)) := by
    have := h.num (j := 7) (k := .u16) rfl
    have l := (List.getElem?_eq_some_iff.1 this).1
    simp only [trc, List.getElem?_toArray]
    rw [List.getElem?_append_left l]
    exact this
  unfold fdT Instr.field
  simp [run_underlying Tryz.underlying39, part, asAgg, e, Tryz.isAgg33]
theorem fdT_5 (h : Hd) (v : Value) (w : World) : (fdT (.agg (trc h v)) 5).run Tryz.prog w = .ok (.agg #[.int .u64 (h.nm 8), .int .u32 (h.nm 9), .int .u64 (h.nm 10), .int .u16 (h.nm 11)]) w := by
  have e : ∀ j, j < 16 → (trc h v)[j]? = h.cl[j]? := fun j hj => by
    simp only [trc, List.getElem?_toArray]
    rw [List.getElem?_append_left (by rw [h.len]; exact hj)]
  have x : (trc h v).extract 8 12 = #[.int .u64 (h.nm 8), .int .u32 (h.nm 9), .int .u64 (h.nm 10), .int .u16 (h.nm 11)] := by
    refine Array.ext_getElem? fun j => ?_
    rw [Array.getElem?_extract]
    match j with
    | 0 =>
      have g := (e 8 (by omega)).trans (h.num (j := 8) (k := .u64) rfl)
      simp [trc_size]
      exact (Array.getElem?_eq_some_iff.1 g).2
    | 1 =>
      have g := (e 9 (by omega)).trans (h.num (j := 9) (k := .u32) rfl)
      simp [trc_size]
      exact (Array.getElem?_eq_some_iff.1 g).2
    | 2 =>
      have g := (e 10 (by omega)).trans (h.num (j := 10) (k := .u64) rfl)
      simp [trc_size]
      exact (Array.getElem?_eq_some_iff.1 g).2
    | 3 =>
      have g := (e 11 (by omega)).trans (h.num (j := 11) (k := .u16) rfl)
      simp [trc_size]
      exact (Array.getElem?_eq_some_iff.1 g).2
    | j + 4 => simp [trc_size]; omega
  unfold fdT Instr.field
  simp [run_underlying Tryz.underlying39, part, asAgg, Tryz.isAgg36, x]
theorem fdV_0 (a b c d : Int) (w : World) : (Instr.field 36 (.agg #[.int .u64 a, .int .u32 b, .int .u64 c, .int .u16 d]) 0).run Tryz.prog w = .ok (.int .u64 a) w := by
  unfold Instr.field
  simp [run_underlying Tryz.underlying36, part, asAgg, Tryz.isAgg22]
attribute [local go_sem ↓] ldT stT ldC stC ldM stM ldDn stDn st8 st64 slO stLO apLO fdTE
set_option maxHeartbeats 16000000 in
theorem RstpTwo_walk (x y hold : Int) (w : World) (bx : 0 ≤ x ∧ x ≤ 18446744073709551615) (by_ : 0 ≤ y ∧ y ≤ 18446744073709551615) (bh : 0 ≤ hold ∧ hold ≤ 255) :
    Calls Tryz.prog 7 #[.int .u64 x, .int .u64 y, .int .u8 hold] w fun r V => r = .returned (.bool true) ∧ Below w.heap.size w V := by
  by_cases a1 : x % 281474976710656 = 0
  · go_enter Tryz.func7, Tryz.ntmps7
    go_wp2_with fail
    refine (awake_any w).mono ?_
    rintro _ V ⟨rfl, b⟩
    have F : Hid (Below w.heap.size w V) := b
    clear b
    go_wp2
    go_ret
    exact ⟨rfl, F.out⟩
  by_cases a2 : y % 281474976710656 = 0
  · go_enter Tryz.func7, Tryz.ntmps7
    go_wp2_with fail
    refine (awake_any w).mono ?_
    rintro _ V ⟨rfl, b⟩
    have F : Hid (Below w.heap.size w V) := b
    clear b
    go_wp2
    go_ret
    exact ⟨rfl, F.out⟩
  by_cases a3 : x % 281474976710656 = y % 281474976710656
  · go_enter Tryz.func7, Tryz.ntmps7
    go_wp2_with fail
    refine (awake_any w).mono ?_
    rintro _ V ⟨rfl, b⟩
    have F : Hid (Below w.heap.size w V) := b
    clear b
    go_wp2
    go_ret
    exact ⟨rfl, F.out⟩
  obtain ⟨t, ht⟩ : ∃ t, 1 + hold % 10 = t := ⟨_, rfl⟩
  have ht1 : 1 ≤ t ∧ t ≤ 10 := by omega
  have k8 : (Lit.int .u8 t).wf = true := wf8 (by omega)
  have wx := wf64 bx
  have wy := wf64 by_
  have HA : Hid _ := two_all wx wy k8 ht1 a1 a2 a3 (by omega) (by omega)
  have NX : Hid (∀ (a : Option Addr) (k : Nat) (W : World), S9.CsAt W a 2 k [20000, 20000] → _) := fun a k W s => new_yes (cF x t wx k8) a 2 k [20000, 20000] W s (by omega) (cF_ok wx k8 a1 ht1)
  have NY : Hid (∀ (a : Option Addr) (k : Nat) (W : World), S9.CsAt W a 2 k [20000, 20000] → _) := fun a k W s => new_yes (cF y t wy k8) a 2 k [20000, 20000] W s (by omega) (cF_ok wy k8 a2 ht1)
  have q1 : (x % 281474976710656 == 0) = false := by simpa using a1
  have q2 : (y % 281474976710656 == 0) = false := by simpa using a2
  have q3 : (x % 281474976710656 == y % 281474976710656) = false := by simpa using a3
  clear a1 a2 a3
  go_enter Tryz.func7, Tryz.ntmps7
  go_wp2_with fail
  refine (S15.conf_any w).mono ?_
  rintro _ W1 ⟨a0, k0, rfl, s0, b0⟩
  obtain ⟨W2, e2, r2, b2, z2⟩ := var_cf W1 S15.cX (.slice a0 2 k0) rfl
  obtain ⟨pc, hpc⟩ : ∃ z, W1.heap.size = z := ⟨_, rfl⟩
  rw [hpc] at e2 r2
  obtain ⟨W3, e3, r3, g3⟩ := st_hold (t := t) (k := k8) (by decide) r2
  obtain ⟨W4, e4, r4, g4⟩ := st_id wx r3
  have l4 := r4.cld
  have b24 : Below W1.heap.size W1 W4 := gro (gro b2 g3 (by omega) b2.size) g4 (by omega) (Nat.le_trans b2.size g3.size)
  have G4 : Hid (S9.CsAt W4 a0 2 k0 [20000, 20000] ∧ RvAt W4 pc 27 (S9.cfc (cF x t wx k8) (.slice a0 2 k0)) ∧ Below w.heap.size w W4 ∧ w.heap.size ≤ pc ∧ S9.CsAt W1 a0 2 k0 [20000, 20000] ∧ W1.heap.size = pc ∧ Below W1.heap.size W1 W4) := ⟨s0.below b24, r4, below_over b0 b24, by rw [← hpc]; exact b0.size, s0, hpc, b24⟩
  clear s0 b0 r2 b2 z2 r3 g3 r4 g4 b24
  go_wp2_with fail
  refine (NX.out a0 k0 W4 G4.out.1).mono ?_
  rintro _ W5 ⟨A, a5, c5, rfl, s5, h5, b5⟩
  obtain ⟨W6, e6, r6, g6⟩ := st_id wy (G4.out.2.1.below b5)
  have l6 := r6.cld
  have G6 : Hid (S9.CsAt W6 a0 2 k0 [20000, 20000] ∧ BrAt W6 A (newT (cF x t wx k8) [20000, 20000]).h a5 2 c5 (newT (cF x t wx k8) [20000, 20000]).s.l ∧ Below w.heap.size w W6 ∧ w.heap.size ≤ A) := by
    have bw := below_over G4.out.2.2.1 b5
    have rc := G4.out.2.1.below b5
    refine ⟨?_, s5.kept rc (by decide) (by rw [S9.cfc_size]; omega) g6, gro bw g6 G4.out.2.2.2.1 bw.size, Nat.le_trans G4.out.2.2.1.size h5⟩
    have q := below_over G4.out.2.2.2.2.2.2 b5
    exact G4.out.2.2.2.2.1.below (gro q g6 (Nat.le_of_eq G4.out.2.2.2.2.2.1) q.size)
  clear s5 h5 b5 r6 g6 e2 e3 e4 l4 hpc G4 NX
  go_wp2_with fail
  refine (NY.out a0 k0 W6 G6.out.1).mono ?_
  rintro _ W7 ⟨B, a7, c7, rfl, s7, h7, b7⟩
  have G7 : Hid (BrAt W7 A (newT (cF x t wx k8) [20000, 20000]).h a5 2 c5 (newT (cF x t wx k8) [20000, 20000]).s.l ∧ BrAt W7 B (newT (cF y t wy k8) [20000, 20000]).h a7 2 c7 (newT (cF y t wy k8) [20000, 20000]).s.l ∧ Below w.heap.size w W7 ∧ w.heap.size ≤ A ∧ w.heap.size ≤ B ∧ A ≠ B) := ⟨G6.out.2.1.below b7, s7, below_over G6.out.2.2.1 b7, G6.out.2.2.2, Nat.le_trans G6.out.2.2.1.size h7, fun e => by have := G6.out.2.1.var.lt; omega⟩
  clear s7 h7 b7 e6 l6 G6 NY
  have U0 : Hid (evUp (newT (cF x t wx k8) [20000, 20000]).h (newT (cF x t wx k8) [20000, 20000]).s.l ((0 : Nat) : Int) true = lift (cF x t wx k8) [20000, 20000] ∧ evUp (newT (cF y t wy k8) [20000, 20000]).h (newT (cF y t wy k8) [20000, 20000]).s.l ((0 : Nat) : Int) true = lift (cF y t wy k8) [20000, 20000]) := ⟨lift_is _ _, lift_is _ _⟩
  obtain ⟨TA, hTA⟩ : ∃ z, newT (cF x t wx k8) [20000, 20000] = z := ⟨_, rfl⟩
  obtain ⟨TB, hTB⟩ : ∃ z, newT (cF y t wy k8) [20000, 20000] = z := ⟨_, rfl⟩
  rw [hTA] at G7 U0
  rw [hTB] at G7 U0
  clear hTA hTB
  obtain ⟨P0, hP0⟩ : ∃ z, pair (cF x t wx k8) (cF y t wy k8) [20000, 20000] = z := ⟨_, rfl⟩
  have HP : Hid ((lift (cF x t wx k8) [20000, 20000]).h = P0.ha ∧ (lift (cF x t wx k8) [20000, 20000]).l = P0.la ∧ (lift (cF y t wy k8) [20000, 20000]).h = P0.hb ∧ (lift (cF y t wy k8) [20000, 20000]).l = P0.lb ∧ (lift (cF x t wx k8) [20000, 20000]).o = P0.u ∧ (lift (cF y t wy k8) [20000, 20000]).o = P0.v) := by rw [← hP0]; exact pair_is _ _ _
  rw [hP0] at HA
  clear hP0
  have U1 : Hid _ := up_any G7.out.1 (0 : Nat) true (by omega) (by omega)
  rw [U0.out.1] at U1
  have LN : Hid (P0.u.length ≤ 200 ∧ P0.v.length ≤ 200) := by
    refine ⟨?_, ?_⟩
    · rw [← HP.out.2.2.2.2.1, ← U0.out.1]; exact up_out _ _ 0 true G7.out.1.sl.len
    · rw [← HP.out.2.2.2.2.2, ← U0.out.2]; exact up_out _ _ 0 true G7.out.2.1.sl.len
  go_wp2_with fail
  refine Calls.mono U1.out ?_
  rintro _ W8 ⟨v8, a8, c8, rfl, s8, d8, g8⟩
  rw [HP.out.1, HP.out.2.1] at s8
  rw [HP.out.2.2.2.2.1] at d8
  obtain ⟨vo8, vf8, rfl, o8, f8⟩ := d8.out
  obtain ⟨W9, e9, r9, b9, z9⟩ := var_dn W8 vo8 vf8 o8.one f8.one
  obtain ⟨pu, hpu⟩ : ∃ z, W8.heap.size = z := ⟨_, rfl⟩
  rw [hpu] at e9 r9
  have G9 : Hid (BrAt W9 A P0.ha a8 2 c8 P0.la ∧ BrAt W9 B TB.h a7 2 c7 TB.s.l ∧ DV W9 pu P0.u ∧ Below w.heap.size w W9 ∧ w.heap.size ≤ A ∧ w.heap.size ≤ B ∧ A ≠ B ∧ w.heap.size ≤ pu) := by
    have bw := gro G7.out.2.2.1 g8 G7.out.2.2.2.1 G7.out.2.2.1.size
    exact ⟨s8.below b9, (G7.out.2.1.other G7.out.1.var (Ne.symm G7.out.2.2.2.2.2) g8).below b9, ⟨vo8, vf8, r9, o8.below b9, f8.one⟩, below_over bw b9, G7.out.2.2.2.1, G7.out.2.2.2.2.1, G7.out.2.2.2.2.2, by rw [← hpu]; exact bw.size⟩
  have U2 : Hid _ := up_any G9.out.2.1 (0 : Nat) true (by omega) (by omega)
  rw [U0.out.2] at U2
  clear s8 d8 g8 o8 f8 r9 b9 z9 G7 U1
  go_wp2_with fail
  refine Calls.mono U2.out ?_
  rintro _ X1 ⟨v1, a1, c1, rfl, s1, d1, g1⟩
  rw [HP.out.2.2.1, HP.out.2.2.2.1] at s1
  rw [HP.out.2.2.2.2.2] at d1
  obtain ⟨vo1, vf1, rfl, o1, f1⟩ := d1.out
  obtain ⟨X2, e2, r2, b2, z2⟩ := var_dn X1 vo1 vf1 o1.one f1.one
  obtain ⟨pv, hpv⟩ : ∃ z, X1.heap.size = z := ⟨_, rfl⟩
  rw [hpv] at e2 r2
  have T0 : Hid (TW w X2 A B pu pv P0) := by
    have bw := gro G9.out.2.2.2.1 g1 G9.out.2.2.2.2.2.1 G9.out.2.2.2.1.size
    have ku := G9.out.2.2.1.row G9.out.2.1.var (Or.inl (by decide)) (by decide) g1
    exact ⟨⟨_, _, (G9.out.1.other G9.out.2.1.var G9.out.2.2.2.2.2.2.1 g1).below b2⟩, ⟨_, _, s1.below b2⟩, ku.below b2, ⟨vo1, vf1, r2, o1.below b2, f1.one⟩, below_over bw b2, G9.out.2.2.2.2.1, G9.out.2.2.2.2.2.1, G9.out.2.2.2.2.2.2.2, by rw [← hpv]; exact bw.size, G9.out.2.2.2.2.2.2.1, by have := ku.lt; omega⟩
  clear s1 d1 g1 o1 f1 r2 b2 z2 G9 U2 U0 HP hpu e9
  go_wp2_with fail
  clear e2 hpv
  go_loopw [16, 17, 18, 19, 20, 21, 22, 23, 24, 25, 26, 27] (fun v16 v17 v18 v19 v20 v21 v22 v23 v24 v25 v26 v27 wr => ∃ n : Nat, n ≤ 12 ∧ v16 = .int .i64 n ∧ TW w wr A B pu pv (secs n P0) ∧ (secs n P0).la.length = 2 ∧ (secs n P0).lb.length = 2 ∧ (secs n P0).u.length + (secs n P0).v.length ≤ 400 + n * 40400) (fun v16 _ _ _ _ _ _ _ _ _ _ _ _ => 12 - (intOf v16).toNat)
  case atStart => exact ⟨0, by omega, rfl, T0.out, by obtain ⟨_, _, z⟩ := T0.out.a; exact z.sl.len, by obtain ⟨_, _, z⟩ := T0.out.b; exact z.sl.len, by have := LN.out; show P0.u.length + P0.v.length ≤ _; omega⟩
  case round =>
    obtain ⟨n, hn, rfl, ht_, hl1, hl2, hl3⟩ := hrel
    obtain ⟨S1, hS1⟩ : ∃ z, secs n P0 = z := ⟨_, rfl⟩
    rw [hS1] at ht_ hl1 hl2 hl3
    have H1 : Hid (secs n P0 = S1) := hS1
    have T1 : Hid (TW w wr A B pu pv S1) := ht_
    clear hS1 ht_ T0
    by_cases hn12 : n < 12
    · have hn1 : (n : Int) < 12 := by omega
      go_wp2_with fail
      go_loopw [17, 18, 19, 20, 21, 22, 23] (fun v17 v18 v19 v20 v21 v22 v23 wr => ∃ k : Nat, k ≤ 200 ∧ v17 = .int .i64 k ∧ TW w wr A B pu pv (itr k S1) ∧ (itr k S1).la.length = 2 ∧ (itr k S1).lb.length = 2 ∧ (itr k S1).u.length + (itr k S1).v.length ≤ 400 + n * 40400 + k * 200) (fun v17 _ _ _ _ _ _ _ => 200 - (intOf v17).toNat)
      case atStart => exact ⟨0, by omega, rfl, T1.out, hl1, hl2, by show S1.u.length + S1.v.length ≤ _; omega⟩
      case round =>
        obtain ⟨k, hk, rfl, ht_, hl4, hl5, hl6⟩ := hrel
        obtain ⟨S, hS⟩ : ∃ z, itr k S1 = z := ⟨_, rfl⟩
        rw [hS] at ht_ hl4 hl5 hl6
        have HS : Hid (itr k S1 = S) := hS
        have T1 : Hid (TW w wr A B pu pv S) := ht_
        clear hS ht_
        by_cases hz : k < 200 ∧ (S.u ≠ [] ∨ S.v ≠ [])
        · have hk1 : (k : Int) < 200 := by have := hz.1; omega
          cases hu : S.u with
          | cons m u' =>
            have HU : Hid (S.u = m :: u') := hu
            have hd : DV wr pu (m :: u') := by rw [← hu]; exact T1.out.u
            obtain ⟨vov, vfv, rw_, ov, fv⟩ := T1.out.v
            obtain ⟨av, cv, rfl, sv⟩ := ov.len
            have cV := rw_.cell 0 _ rfl
            obtain ⟨NV, hNV⟩ : ∃ z, S.v.length = z := ⟨_, rfl⟩
            rw [hNV] at cV
            have hsum : (0 : Int) < ((u'.length + 1 : Nat) : Int) + (NV : Int) := by omega
            have hl6' := hl6
            rw [hu, hNV] at hl6'
            have hsw : IntKind.i64.wrap (((u'.length + 1 : Nat) : Int) + (NV : Int)) = ((u'.length + 1 : Nat) : Int) + (NV : Int) := IntWalk.i64_in _ (by simp at hl6'; omega)
            rw [hu] at hl6
            clear rw_ ov fv sv hl6' hu hz hNV
            obtain ⟨b, o, c, vf, rv, f, hc, lm, io⟩ := dv_first hd (by have := hl6; simp at this; omega)
            obtain ⟨N, hN⟩ : ∃ z, u'.length + 1 = z := ⟨_, rfl⟩
            have HN : Hid (u'.length + 1 = N) := hN
            rw [hN] at rv hc hsum hsw
            have hN0 : (0 : Int) < (N : Int) := by omega
            have cX := rv.cell 0 _ rfl
            have lm0 := lm wr (Below.refl _ _)
            obtain ⟨V1, e1, r1, b1, z1⟩ := row_new rtM wr zeroM.cs (mOf m).cs (by rw [Row.csize, lenM]) (by rw [Row.csize, lenM]) (Row.one' _)
            obtain ⟨pm, hpm⟩ : ∃ z, wr.heap.size = z := ⟨_, rfl⟩
            rw [hpm] at e1 r1
            have e1 : (stS 46 (.pointer (some ⟨pm, 0, none⟩)) (.agg (mOf m).cs)).run Tryz.prog (wr.alloc (.cells #[.int .i64 0, .bool false, .bool false, .bool false, .bool false, .bool false, .bool false, .int .i64 0, .int .u64 0, .int .u32 0, .int .u64 0, .int .u16 0, .int .u8 0, .int .u8 0, .int .u8 0, .int .u8 0] 46)) = .ok () V1 := e1
            have cX1 := (rv.below b1).cell 0 _ rfl
            have sl : (slG 49 (.slice (some ⟨b, o, none⟩) N c) (some (.int .i64 1)) none none).run Tryz.prog V1 = .ok (.slice (adv (some ⟨b, o, none⟩) 1 c 17) (N - 1) (c - 1)) V1 := slO_l (some ⟨b, o, none⟩) N c 1 (by omega) V1
            obtain ⟨V2, e2, d2, g2⟩ := dn_st (rv.below b1) (io.below b1) f
            have e2 : (stS 49 (.pointer (some ⟨pu, 0, none⟩)) (.slice (adv (some ⟨b, o, none⟩) 1 c 17) (N - 1) (c - 1))).run Tryz.prog V1 = .ok () V2 := by
              rw [show N - 1 = u'.length by omega]
              exact e2
            have T2 : Hid (TW w V2 A B pu pv _) := (T1.out.below b1).setU d2 g2
            have lz := (r1.keptBut g2 (by have := ne_type r1 (rv.below b1) (by decide); simpa using this)).mld
            obtain ⟨ab, cb, brB⟩ := T2.out.b
            have PH : Hid _ := hear_any brB 0 (mOf m) (by omega) (by omega)
            obtain ⟨E, hE⟩ : ∃ z, evHear S.hb S.lb 0 (mOf m) = z := ⟨_, rfl⟩
            have HO : Hid (evHear S.hb S.lb 0 (mOf m) = E) := hE
            have PH : Hid (Calls Tryz.prog 14 #[.pointer (some ⟨B, 0, none⟩), .int .i64 0, .agg (mOf m).cs] V2 fun r V => BRes V2 B 2 E r V) := by rw [← hE]; exact PH.out
            have EO : Hid (E.o.length ≤ 200) := by rw [← hE]; exact hear_out _ _ _ _ hl5
            clear hE brB io rv f hc lm r1 b1 z1 d2 g2 T1 hN
            go_wp2_with fail
            refine Calls.mono PH.out ?_
            rintro _ V3 ⟨v3, a3, c3, rfl, s3, d3, g3⟩
            have L3 : Hid (E.l.length = 2) := s3.sl.len
            have T3 := T2.out.goB g3 s3
            obtain ⟨vo3, vf3, rfl, o3, f3⟩ := d3.out
            obtain ⟨am, cm, rfl, so3⟩ := o3.len
            obtain ⟨V4, e4, r4, b4, z4⟩ := var_dn V3 (.slice am E.o.length cm) vf3 rfl f3.one
            obtain ⟨pd, hpd⟩ : ∃ z, V3.heap.size = z := ⟨_, rfl⟩
            rw [hpd] at e4 r4
            have T4 : Hid (TW w V4 A B pu pv _) := T3.below b4
            obtain ⟨voy, vfy, ry, oy, fy⟩ := T4.out.v
            obtain ⟨an, cn, rfl, soy⟩ := oy.len
            have RA : Hid (RvAt V4 pv 52 #[.slice an S.v.length cn, vfy]) := ry
            have FA : Hid (vfy.oneCell' = true) := fy
            have SA : Hid (S16.SlAt eO V4 an S.v.length cn S.v) := soy
            have RD : Hid (RvAt V4 pd 52 #[.slice am E.o.length cm, vf3]) := r4
            have SD : Hid (S16.SlAt eO V4 am E.o.length cm E.o) := so3.below b4
            clear s3 d3 g3 T3 o3 f3 so3 r4 b4 z4 ry oy fy soy PH T2 cX lm0 e1 cX1 sl e2 lz
            have fa := fun q : Later V4 => (RA.out.below q.below).cell 0 _ rfl
            have fd := fun q : Later V4 => (RD.out.below q.below).cell 0 _ rfl
            go_upto_region 23 with fail
            clear e4 hpd hpm
            obtain ⟨X0, hX⟩ : ∃ X0, World.drew V4 = X0 := ⟨_, rfl⟩
            have D0 : Hid (Below V4.heap.size V4 X0) := by rw [← hX]; exact (Below.refl _ _).drew
            obtain ⟨JA, JB, JC, vb, vc, hA, apB, apC, bA, bB, bC, io⟩ := join2 (SA.out.below D0.out) (SD.out.below D0.out) (by have := EO.out; have := hl6; simp at this; omega)
            obtain ⟨V5, e5, dV, gV⟩ := dn_st ((RA.out.below D0.out).below bC) io FA.out
            have TT : Hid (TW w V5 A B pu pv _) := (T4.out.below (below_over D0.out bC)).setV dV gV
            have QA : Hid (Below V4.heap.size V4 JA ∧ Below V4.heap.size V4 JB ∧ Below V4.heap.size V4 JC) := ⟨below_over D0.out bA, below_over D0.out bB, below_over D0.out bC⟩
            clear bA bB bC io dV gV T4
            refine wp_region_noPanic ?_
            refine S9.AnyZ.start (z := 8) (S := fun w' => ∃ x : Later V4, w' = x.val) (by kernel_rfl) ⟨⟨_, (Below.refl _ _).drew⟩, rfl⟩ (fun hHeld => ?_)
            rw [hX] at hHeld ⊢
            clear hX
            refine S9.AnyZ.take (i := 1) (oi := q7_23_1) (v := ?_) rfl (by kernel_rfl) (by kernel_rfl) (fun _ _ _ h => h) _ _ _ _ (by kernel_rfl) (by kernel_rfl) (by kernel_rfl) (Or.inl ⟨by rfl, ?_⟩) hHeld ?_
            rotate_left
            · intro W_ hSw_
              obtain ⟨q, rfl⟩ := hSw_
              first | (go_simp; done) | (go_simp; with_reducible rfl)
            rotate_left
            try simp only [Act.put, List.setIfInBounds_toArray, List.set_cons_zero, List.set_cons_succ]
            refine S9.AnyZ.take (i := 2) (oi := q7_23_2) (v := ?_) rfl (by kernel_rfl) (by kernel_rfl) (fun _ _ _ h => h) _ _ _ _ (by kernel_rfl) (by kernel_rfl) (by kernel_rfl) (Or.inl ⟨by rfl, ?_⟩) hHeld ?_
            rotate_left
            · intro W_ hSw_
              obtain ⟨q, rfl⟩ := hSw_
              first | (go_simp; done) | (go_simp; with_reducible rfl)
            rotate_left
            try simp only [Act.put, List.setIfInBounds_toArray, List.set_cons_zero, List.set_cons_succ]
            refine S9.AnyZ.take (i := 4) (oi := q7_23_4) (v := ?_) rfl (by kernel_rfl) (by kernel_rfl) (fun _ _ _ h => h) _ _ _ _ (by kernel_rfl) (by kernel_rfl) (by kernel_rfl) (Or.inl ⟨by rfl, ?_⟩) hHeld ?_
            rotate_left
            · intro W_ hSw_
              obtain ⟨q, rfl⟩ := hSw_
              first | (go_simp; done) | (go_simp; with_reducible rfl)
            rotate_left
            try simp only [Act.put, List.setIfInBounds_toArray, List.set_cons_zero, List.set_cons_succ]
            refine S9.AnyZ.take (i := 5) (oi := q7_23_5) (v := ?_) rfl (by kernel_rfl) (by kernel_rfl) (fun _ _ _ h => h) _ _ _ _ (by kernel_rfl) (by kernel_rfl) (by kernel_rfl) (Or.inl ⟨by rfl, ?_⟩) hHeld ?_
            rotate_left
            · intro W_ hSw_
              obtain ⟨q, rfl⟩ := hSw_
              first | (go_simp; done) | (go_simp; with_reducible rfl)
            rotate_left
            try simp only [Act.put, List.setIfInBounds_toArray, List.set_cons_zero, List.set_cons_succ]
            refine S9.AnyZ.step (i := 0) (o := q7_23_0) (by kernel_rfl) rfl (fun K hK => ?_)
            go_simp
            clear hHeld
            refine hK.out _ _ ⟨⟨_, QA.out.1⟩, rfl⟩ (fun hHeld => ?_)
            clear hK K
            try simp only [Act.put, List.setIfInBounds_toArray, List.set_cons_zero, List.set_cons_succ]
            refine S9.AnyZ.step (i := 3) (o := q7_23_3) (by kernel_rfl) rfl (fun K hK => ?_)
            go_simp
            clear hHeld
            refine hK.out _ _ ⟨⟨_, QA.out.2.1⟩, rfl⟩ (fun hHeld => ?_)
            clear hK K
            try simp only [Act.put, List.setIfInBounds_toArray, List.set_cons_zero, List.set_cons_succ]
            refine S9.AnyZ.step (i := 6) (o := q7_23_6) (by kernel_rfl) rfl (fun K hK => ?_)
            go_simp
            clear hHeld
            refine hK.out _ _ ⟨⟨_, QA.out.2.2⟩, rfl⟩ (fun hHeld => ?_)
            clear hK K
            try simp only [Act.put, List.setIfInBounds_toArray, List.set_cons_zero, List.set_cons_succ]
            refine S9.AnyZ.take (i := 7) (oi := q7_23_7) (v := ?_) rfl (by kernel_rfl) (by kernel_rfl) (fun _ _ _ h => h) _ _ _ _ (by kernel_rfl) (by kernel_rfl) (by kernel_rfl) (Or.inl ⟨by rfl, ?_⟩) hHeld ?_
            rotate_left
            · intro W_ hSw_
              obtain ⟨q, rfl⟩ := hSw_
              first | (go_simp; done) | (go_simp; with_reducible rfl)
            rotate_left
            try simp only [Act.put, List.setIfInBounds_toArray, List.set_cons_zero, List.set_cons_succ]
            refine S9.AnyZ.stepF (i := 8) (o := q7_23_8) (by kernel_rfl) rfl (by kernel_rfl) (fun K hK => ?_)
            go_simp
            clear hHeld
            refine hK.out _ _ ?_
            clear hK K
            try simp only [Act.put, List.setIfInBounds_toArray, List.set_cons_zero, List.set_cons_succ]
            refine S9.AnyZ.done (by kernel_rfl) ?_ _
            refine NoPanic.normal ?_
            clear fa fd hA apB apC e5 QA RA RD SA SD FA
            have EH : hop S = ⟨S.ha, S.la, E.h, E.l, u', S.v ++ E.o⟩ := by
              rw [← HO.out]
              unfold hop
              rw [HU.out]
            have NX : Hid (TW w V5 A B pu pv (itr (k + 1) S1) ∧ (itr (k + 1) S1).la.length = 2 ∧ (itr (k + 1) S1).lb.length = 2 ∧ (itr (k + 1) S1).u.length + (itr (k + 1) S1).v.length ≤ 400 + n * 40400 + (k + 1) * 200) := by
              have e : itr (k + 1) S1 = hop S := by show hop (itr k S1) = _; rw [HS.out]
              rw [e, EH]
              refine ⟨?_, hl4, L3.out, ?_⟩
              · exact TT.out
              · have := EO.out
                have := HN.out
                have := hl6
                simp at this ⊢
                omega
            clear EH TT HO EO L3 D0
            go_wp2
            go_roundw
            case rel => exact ⟨k + 1, by omega, by go_num, NX.out⟩
            case measure => simp [intOf]; omega
          | nil =>
            have HU : Hid (S.u = []) := hu
            cases hv : S.v with
            | nil => exact absurd hz.2 (by rw [hu, hv]; simp)
            | cons m v' =>
              have HV : Hid (S.v = m :: v') := hv
              have hd : DV wr pv (m :: v') := by rw [← hv]; exact T1.out.v
              obtain ⟨vou, vfu, ru, ou, fu⟩ := T1.out.u
              obtain ⟨au, cu, rfl, su⟩ := ou.len
              have cU := ru.cell 0 _ rfl
              rw [hu] at cU
              have cU : wr.cell? ⟨pu, 0, none⟩ = some (.slice au 0 cu) := cU
              have hsum : (0 : Int) < 0 + ((v'.length + 1 : Nat) : Int) := by omega
              have hl6' := hl6
              rw [hu, hv] at hl6'
              have hsw : IntKind.i64.wrap (0 + ((v'.length + 1 : Nat) : Int)) = 0 + ((v'.length + 1 : Nat) : Int) := IntWalk.i64_in _ (by simp at hl6'; omega)
              rw [hu, hv] at hl6
              clear ru ou fu su hl6' hu hv hz
              obtain ⟨b, o, c, vf, rv, f, hc, lm, io⟩ := dv_first hd (by have := hl6; simp at this; omega)
              obtain ⟨N, hN⟩ : ∃ z, v'.length + 1 = z := ⟨_, rfl⟩
              have HN : Hid (v'.length + 1 = N) := hN
              rw [hN] at rv hc hsum hsw
              have hN0 : (0 : Int) < (N : Int) := by omega
              have hsw3 : IntKind.i64.wrap (N : Int) = (N : Int) := IntWalk.i64_in _ (by simp at hl6; omega)
              clear hsum hsw
              have cX := rv.cell 0 _ rfl
              have lm0 := lm wr (Below.refl _ _)
              obtain ⟨V1, e1, r1, b1, z1⟩ := row_new rtM wr zeroM.cs (mOf m).cs (by rw [Row.csize, lenM]) (by rw [Row.csize, lenM]) (Row.one' _)
              obtain ⟨pm, hpm⟩ : ∃ z, wr.heap.size = z := ⟨_, rfl⟩
              rw [hpm] at e1 r1
              have e1 : (stS 46 (.pointer (some ⟨pm, 0, none⟩)) (.agg (mOf m).cs)).run Tryz.prog (wr.alloc (.cells #[.int .i64 0, .bool false, .bool false, .bool false, .bool false, .bool false, .bool false, .int .i64 0, .int .u64 0, .int .u32 0, .int .u64 0, .int .u16 0, .int .u8 0, .int .u8 0, .int .u8 0, .int .u8 0] 46)) = .ok () V1 := e1
              have cX1 := (rv.below b1).cell 0 _ rfl
              have sl : (slG 49 (.slice (some ⟨b, o, none⟩) N c) (some (.int .i64 1)) none none).run Tryz.prog V1 = .ok (.slice (adv (some ⟨b, o, none⟩) 1 c 17) (N - 1) (c - 1)) V1 := slO_l (some ⟨b, o, none⟩) N c 1 (by omega) V1
              obtain ⟨V2, e2, d2, g2⟩ := dn_st (rv.below b1) (io.below b1) f
              have e2 : (stS 49 (.pointer (some ⟨pv, 0, none⟩)) (.slice (adv (some ⟨b, o, none⟩) 1 c 17) (N - 1) (c - 1))).run Tryz.prog V1 = .ok () V2 := by
                rw [show N - 1 = v'.length by omega]
                exact e2
              have T2 : Hid (TW w V2 A B pu pv _) := (T1.out.below b1).setV d2 g2
              have lz := (r1.keptBut g2 (by have := ne_type r1 (rv.below b1) (by decide); simpa using this)).mld
              obtain ⟨ab, cb, brB⟩ := T2.out.a
              have PH : Hid _ := hear_any brB 0 (mOf m) (by omega) (by omega)
              obtain ⟨E, hE⟩ : ∃ z, evHear S.ha S.la 0 (mOf m) = z := ⟨_, rfl⟩
              have HO : Hid (evHear S.ha S.la 0 (mOf m) = E) := hE
              have PH : Hid (Calls Tryz.prog 14 #[.pointer (some ⟨A, 0, none⟩), .int .i64 0, .agg (mOf m).cs] V2 fun r V => BRes V2 A 2 E r V) := by rw [← hE]; exact PH.out
              have EO : Hid (E.o.length ≤ 200) := by rw [← hE]; exact hear_out _ _ _ _ hl4
              clear hE brB io rv f hc lm r1 b1 z1 d2 g2 T1 hN
              go_wp2_with fail
              refine Calls.mono PH.out ?_
              rintro _ V3 ⟨v3, a3, c3, rfl, s3, d3, g3⟩
              have L3 : Hid (E.l.length = 2) := s3.sl.len
              have T3 := T2.out.goA g3 s3
              obtain ⟨vo3, vf3, rfl, o3, f3⟩ := d3.out
              obtain ⟨am, cm, rfl, so3⟩ := o3.len
              obtain ⟨V4, e4, r4, b4, z4⟩ := var_dn V3 (.slice am E.o.length cm) vf3 rfl f3.one
              obtain ⟨pd, hpd⟩ : ∃ z, V3.heap.size = z := ⟨_, rfl⟩
              rw [hpd] at e4 r4
              have T4 : Hid (TW w V4 A B pu pv _) := T3.below b4
              obtain ⟨voy, vfy, ry, oy, fy⟩ := T4.out.u
              obtain ⟨an, cn, rfl, soy⟩ := oy.len
              have RA : Hid (RvAt V4 pu 52 #[.slice an S.u.length cn, vfy]) := ry
              have FA : Hid (vfy.oneCell' = true) := fy
              have SA : Hid (S16.SlAt eO V4 an S.u.length cn S.u) := soy
              have RD : Hid (RvAt V4 pd 52 #[.slice am E.o.length cm, vf3]) := r4
              have SD : Hid (S16.SlAt eO V4 am E.o.length cm E.o) := so3.below b4
              clear s3 d3 g3 T3 o3 f3 so3 r4 b4 z4 ry oy fy soy PH T2 cX lm0 e1 cX1 sl e2 lz
              have fa := fun q : Later V4 => (RA.out.below q.below).cell 0 _ rfl
              have fd := fun q : Later V4 => (RD.out.below q.below).cell 0 _ rfl
              go_upto_region 27 with fail
              clear e4 hpd hpm
              obtain ⟨X0, hX⟩ : ∃ X0, World.drew V4 = X0 := ⟨_, rfl⟩
              have D0 : Hid (Below V4.heap.size V4 X0) := by rw [← hX]; exact (Below.refl _ _).drew
              obtain ⟨JA, JB, JC, vb, vc, hA, apB, apC, bA, bB, bC, io⟩ := join2 (SA.out.below D0.out) (SD.out.below D0.out) (by have := EO.out; rw [HU.out]; simp; omega)
              obtain ⟨V5, e5, dV, gV⟩ := dn_st ((RA.out.below D0.out).below bC) io FA.out
              have TT : Hid (TW w V5 A B pu pv _) := (T4.out.below (below_over D0.out bC)).setU dV gV
              have QA : Hid (Below V4.heap.size V4 JA ∧ Below V4.heap.size V4 JB ∧ Below V4.heap.size V4 JC) := ⟨below_over D0.out bA, below_over D0.out bB, below_over D0.out bC⟩
              clear bA bB bC io dV gV T4
              refine wp_region_noPanic ?_
              refine S9.AnyZ.start (z := 8) (S := fun w' => ∃ x : Later V4, w' = x.val) (by kernel_rfl) ⟨⟨_, (Below.refl _ _).drew⟩, rfl⟩ (fun hHeld => ?_)
              rw [hX] at hHeld ⊢
              clear hX
              refine S9.AnyZ.take (i := 1) (oi := q7_27_1) (v := ?_) rfl (by kernel_rfl) (by kernel_rfl) (fun _ _ _ h => h) _ _ _ _ (by kernel_rfl) (by kernel_rfl) (by kernel_rfl) (Or.inl ⟨by rfl, ?_⟩) hHeld ?_
              rotate_left
              · intro W_ hSw_
                obtain ⟨q, rfl⟩ := hSw_
                first | (go_simp; done) | (go_simp; with_reducible rfl)
              rotate_left
              try simp only [Act.put, List.setIfInBounds_toArray, List.set_cons_zero, List.set_cons_succ]
              refine S9.AnyZ.take (i := 2) (oi := q7_27_2) (v := ?_) rfl (by kernel_rfl) (by kernel_rfl) (fun _ _ _ h => h) _ _ _ _ (by kernel_rfl) (by kernel_rfl) (by kernel_rfl) (Or.inl ⟨by rfl, ?_⟩) hHeld ?_
              rotate_left
              · intro W_ hSw_
                obtain ⟨q, rfl⟩ := hSw_
                first | (go_simp; done) | (go_simp; with_reducible rfl)
              rotate_left
              try simp only [Act.put, List.setIfInBounds_toArray, List.set_cons_zero, List.set_cons_succ]
              refine S9.AnyZ.take (i := 4) (oi := q7_27_4) (v := ?_) rfl (by kernel_rfl) (by kernel_rfl) (fun _ _ _ h => h) _ _ _ _ (by kernel_rfl) (by kernel_rfl) (by kernel_rfl) (Or.inl ⟨by rfl, ?_⟩) hHeld ?_
              rotate_left
              · intro W_ hSw_
                obtain ⟨q, rfl⟩ := hSw_
                first | (go_simp; done) | (go_simp; with_reducible rfl)
              rotate_left
              try simp only [Act.put, List.setIfInBounds_toArray, List.set_cons_zero, List.set_cons_succ]
              refine S9.AnyZ.take (i := 5) (oi := q7_27_5) (v := ?_) rfl (by kernel_rfl) (by kernel_rfl) (fun _ _ _ h => h) _ _ _ _ (by kernel_rfl) (by kernel_rfl) (by kernel_rfl) (Or.inl ⟨by rfl, ?_⟩) hHeld ?_
              rotate_left
              · intro W_ hSw_
                obtain ⟨q, rfl⟩ := hSw_
                first | (go_simp; done) | (go_simp; with_reducible rfl)
              rotate_left
              try simp only [Act.put, List.setIfInBounds_toArray, List.set_cons_zero, List.set_cons_succ]
              refine S9.AnyZ.step (i := 0) (o := q7_27_0) (by kernel_rfl) rfl (fun K hK => ?_)
              go_simp
              clear hHeld
              refine hK.out _ _ ⟨⟨_, QA.out.1⟩, rfl⟩ (fun hHeld => ?_)
              clear hK K
              try simp only [Act.put, List.setIfInBounds_toArray, List.set_cons_zero, List.set_cons_succ]
              refine S9.AnyZ.step (i := 3) (o := q7_27_3) (by kernel_rfl) rfl (fun K hK => ?_)
              go_simp
              clear hHeld
              refine hK.out _ _ ⟨⟨_, QA.out.2.1⟩, rfl⟩ (fun hHeld => ?_)
              clear hK K
              try simp only [Act.put, List.setIfInBounds_toArray, List.set_cons_zero, List.set_cons_succ]
              refine S9.AnyZ.step (i := 6) (o := q7_27_6) (by kernel_rfl) rfl (fun K hK => ?_)
              go_simp
              clear hHeld
              refine hK.out _ _ ⟨⟨_, QA.out.2.2⟩, rfl⟩ (fun hHeld => ?_)
              clear hK K
              try simp only [Act.put, List.setIfInBounds_toArray, List.set_cons_zero, List.set_cons_succ]
              refine S9.AnyZ.take (i := 7) (oi := q7_27_7) (v := ?_) rfl (by kernel_rfl) (by kernel_rfl) (fun _ _ _ h => h) _ _ _ _ (by kernel_rfl) (by kernel_rfl) (by kernel_rfl) (Or.inl ⟨by rfl, ?_⟩) hHeld ?_
              rotate_left
              · intro W_ hSw_
                obtain ⟨q, rfl⟩ := hSw_
                first | (go_simp; done) | (go_simp; with_reducible rfl)
              rotate_left
              try simp only [Act.put, List.setIfInBounds_toArray, List.set_cons_zero, List.set_cons_succ]
              refine S9.AnyZ.stepF (i := 8) (o := q7_27_8) (by kernel_rfl) rfl (by kernel_rfl) (fun K hK => ?_)
              go_simp
              clear hHeld
              refine hK.out _ _ ?_
              clear hK K
              try simp only [Act.put, List.setIfInBounds_toArray, List.set_cons_zero, List.set_cons_succ]
              refine S9.AnyZ.done (by kernel_rfl) ?_ _
              refine NoPanic.normal ?_
              clear fa fd hA apB apC e5 QA RA RD SA SD FA
              have EH : hop S = ⟨E.h, E.l, S.hb, S.lb, E.o, v'⟩ := by
                rw [← HO.out]
                unfold hop
                rw [HU.out, HV.out]
              have NX : Hid (TW w V5 A B pu pv (itr (k + 1) S1) ∧ (itr (k + 1) S1).la.length = 2 ∧ (itr (k + 1) S1).lb.length = 2 ∧ (itr (k + 1) S1).u.length + (itr (k + 1) S1).v.length ≤ 400 + n * 40400 + (k + 1) * 200) := by
                have e : itr (k + 1) S1 = hop S := by show hop (itr k S1) = _; rw [HS.out]
                rw [e, EH]
                refine ⟨?_, L3.out, hl5, ?_⟩
                · have := TT.out; rw [HU.out] at this; exact this
                · have := EO.out
                  have := HN.out
                  have := hl6
                  simp at this ⊢
                  omega
              clear EH TT HO EO L3 D0
              go_wp2
              go_roundw
              case rel => exact ⟨k + 1, by omega, by go_num, NX.out⟩
              case measure => simp [intOf]; omega
        · have HC : Hid (come 200 S1 = S) := by
            rw [come_itr]
            by_cases c2 : k = 200
            · rw [← HS.out, c2]; exact rfl
            · have c3 : S.u = [] ∧ S.v = [] := by
                refine ⟨Classical.byContradiction fun e => hz ⟨by omega, Or.inl e⟩, Classical.byContradiction fun e => hz ⟨by omega, Or.inr e⟩⟩
              have := itr_rest S1 k (by rw [HS.out]; exact c3.1) (by rw [HS.out]; exact c3.2) 200 hk
              rw [this]; exact HS.out
          obtain ⟨vou, vfu, ru, ou, fu⟩ := T1.out.u
          obtain ⟨au, cu, rfl, su⟩ := ou.len
          obtain ⟨vov, vfv, rw_, ov, fv⟩ := T1.out.v
          obtain ⟨av, cv, rfl, sv⟩ := ov.len
          have cU := ru.cell 0 _ rfl
          have cV := rw_.cell 0 _ rfl
          clear ru ou fu su rw_ ov fv sv
          by_cases c2 : k = 200
          · subst c2
            have hk1 : ¬ ((200 : Nat) : Int) < 200 := by omega
            clear hz
            obtain ⟨ab, cb, brA⟩ := T1.out.a
            have P1 : Hid _ := tick_any brA (by omega) (by omega)
            obtain ⟨EA, hEA⟩ : ∃ z, evTick S.ha S.la = z := ⟨_, rfl⟩
            obtain ⟨EB, hEB⟩ : ∃ z, evTick S.hb S.lb = z := ⟨_, rfl⟩
            have HE : Hid (evTick S.ha S.la = EA ∧ evTick S.hb S.lb = EB ∧ EA.o.length ≤ 200 ∧ EB.o.length ≤ 200) := ⟨hEA, hEB, by rw [← hEA]; exact tick_out _ _ hl4, by rw [← hEB]; exact tick_out _ _ hl5⟩
            rw [hEA] at P1
            clear brA hEA hEB
            go_wp2_with fail
            refine Calls.mono P1.out ?_
            rintro _ V1 ⟨v1, a1, c1, rfl, s1, d1, g1⟩
            have LA : Hid (EA.l.length = 2) := s1.sl.len
            have T2 := T1.out.goA g1 s1
            obtain ⟨vo1, vf1, rfl, o1, f1⟩ := d1.out
            obtain ⟨V2, e2, r2, b2, z2⟩ := var_dn V1 vo1 vf1 o1.one f1.one
            obtain ⟨pp, hpp⟩ : ∃ z, V1.heap.size = z := ⟨_, rfl⟩
            rw [hpp] at e2 r2
            have T3 : Hid (TW w V2 A B pu pv ⟨EA.h, EA.l, S.hb, S.lb, S.u, S.v⟩) := T2.below b2
            have DP : Hid (DV V2 pp EA.o) := ⟨vo1, vf1, r2, o1.below b2, f1.one⟩
            obtain ⟨ab2, cb2, brB⟩ := T3.out.b
            have P2 : Hid _ := tick_any brB (by omega) (by omega)
            have P2 : Hid (Calls Tryz.prog 16 #[.pointer (some ⟨B, 0, none⟩)] V2 fun r V => BRes V2 B 2 EB r V) := by rw [← HE.out.2.1]; exact P2.out
            have BV : Hid (RvAt V2 B 94 (trc S.hb (.slice ab2 2 cb2))) := brB.var
            clear brB s1 d1 g1 T2 o1 f1 r2 b2 z2 P1 T1 cU cV
            go_wp2_with fail
            refine Calls.mono P2.out ?_
            rintro _ V3 ⟨v3, a3, c3, rfl, s3, d3, g3⟩
            have LB : Hid (EB.l.length = 2) := s3.sl.len
            have T4 := T3.out.goB g3 s3
            have DP3 := DP.out.row BV.out (Or.inl (by decide)) (by decide) g3
            obtain ⟨vo3, vf3, rfl, o3, f3⟩ := d3.out
            obtain ⟨am3, cm3, rfl, so3⟩ := o3.len
            obtain ⟨V4, e4, r4, b4, z4⟩ := var_dn V3 (.slice am3 EB.o.length cm3) vf3 rfl f3.one
            obtain ⟨pq, hpq⟩ : ∃ z, V3.heap.size = z := ⟨_, rfl⟩
            rw [hpq] at e4 r4
            have T5 : Hid (TW w V4 A B pu pv ⟨EA.h, EA.l, EB.h, EB.l, S.u, S.v⟩) := T4.below b4
            have DQ : Hid (DV V4 pq EB.o) := ⟨_, vf3, r4, o3.below b4, f3.one⟩
            have NQ : Hid (pu ≠ pq) := by have := T4.u.lt; show pu ≠ pq; omega
            obtain ⟨vod, vfd, rd, od, fd_⟩ := DP3.below b4
            obtain ⟨am, cm, rfl, sod⟩ := od.len
            obtain ⟨voy, vfy, ry, oy, fy⟩ := T5.out.u
            obtain ⟨an, cn, rfl, soy⟩ := oy.len
            have RA : Hid (RvAt V4 pu 52 #[.slice an S.u.length cn, vfy]) := ry
            have FA : Hid (vfy.oneCell' = true) := fy
            have SA : Hid (S16.SlAt eO V4 an S.u.length cn S.u) := soy
            have RD : Hid (RvAt V4 pp 52 #[.slice am EA.o.length cm, vfd]) := rd
            have SD : Hid (S16.SlAt eO V4 am EA.o.length cm EA.o) := sod
            clear s3 d3 g3 T4 DP3 o3 f3 so3 r4 b4 z4 rd od fd_ sod ry oy fy soy P2 BV T3 DP e2 hpp
            have fa := fun q : Later V4 => (RA.out.below q.below).cell 0 _ rfl
            have fd := fun q : Later V4 => (RD.out.below q.below).cell 0 _ rfl
            go_upto_region 30 with fail
            clear e4 hpq
            obtain ⟨X0, hX⟩ : ∃ X0, World.drew V4 = X0 := ⟨_, rfl⟩
            have D0 : Hid (Below V4.heap.size V4 X0) := by rw [← hX]; exact (Below.refl _ _).drew
            obtain ⟨JA, JB, JC, vb, vc, hA, apB, apC, bA, bB, bC, io⟩ := join2 (SA.out.below D0.out) (SD.out.below D0.out) (by have := HE.out.2.2; omega)
            obtain ⟨V5, e5, dV, gV⟩ := dn_st ((RA.out.below D0.out).below bC) io FA.out
            have T6 : Hid (TW w V5 A B pu pv _) := (T5.out.below (below_over D0.out bC)).setU dV gV
            have DQ5 : Hid (DV V5 pq EB.o) := (DQ.out.below (below_over D0.out bC)).row ((RA.out.below D0.out).below bC) (Or.inr (Ne.symm NQ.out)) (by decide) gV
            have QA : Hid (Below V4.heap.size V4 JA ∧ Below V4.heap.size V4 JB ∧ Below V4.heap.size V4 JC) := ⟨below_over D0.out bA, below_over D0.out bB, below_over D0.out bC⟩
            clear bA bB bC io dV gV T5
            refine wp_region_noPanic ?_
            refine S9.AnyZ.start (z := 8) (S := fun w' => ∃ x : Later V4, w' = x.val) (by kernel_rfl) ⟨⟨_, (Below.refl _ _).drew⟩, rfl⟩ (fun hHeld => ?_)
            rw [hX] at hHeld ⊢
            clear hX
            refine S9.AnyZ.take (i := 1) (oi := q7_30_1) (v := ?_) rfl (by kernel_rfl) (by kernel_rfl) (fun _ _ _ h => h) _ _ _ _ (by kernel_rfl) (by kernel_rfl) (by kernel_rfl) (Or.inl ⟨by rfl, ?_⟩) hHeld ?_
            rotate_left
            · intro W_ hSw_
              obtain ⟨q, rfl⟩ := hSw_
              first | (go_simp; done) | (go_simp; with_reducible rfl)
            rotate_left
            try simp only [Act.put, List.setIfInBounds_toArray, List.set_cons_zero, List.set_cons_succ]
            refine S9.AnyZ.take (i := 2) (oi := q7_30_2) (v := ?_) rfl (by kernel_rfl) (by kernel_rfl) (fun _ _ _ h => h) _ _ _ _ (by kernel_rfl) (by kernel_rfl) (by kernel_rfl) (Or.inl ⟨by rfl, ?_⟩) hHeld ?_
            rotate_left
            · intro W_ hSw_
              obtain ⟨q, rfl⟩ := hSw_
              first | (go_simp; done) | (go_simp; with_reducible rfl)
            rotate_left
            try simp only [Act.put, List.setIfInBounds_toArray, List.set_cons_zero, List.set_cons_succ]
            refine S9.AnyZ.take (i := 4) (oi := q7_30_4) (v := ?_) rfl (by kernel_rfl) (by kernel_rfl) (fun _ _ _ h => h) _ _ _ _ (by kernel_rfl) (by kernel_rfl) (by kernel_rfl) (Or.inl ⟨by rfl, ?_⟩) hHeld ?_
            rotate_left
            · intro W_ hSw_
              obtain ⟨q, rfl⟩ := hSw_
              first | (go_simp; done) | (go_simp; with_reducible rfl)
            rotate_left
            try simp only [Act.put, List.setIfInBounds_toArray, List.set_cons_zero, List.set_cons_succ]
            refine S9.AnyZ.take (i := 5) (oi := q7_30_5) (v := ?_) rfl (by kernel_rfl) (by kernel_rfl) (fun _ _ _ h => h) _ _ _ _ (by kernel_rfl) (by kernel_rfl) (by kernel_rfl) (Or.inl ⟨by rfl, ?_⟩) hHeld ?_
            rotate_left
            · intro W_ hSw_
              obtain ⟨q, rfl⟩ := hSw_
              first | (go_simp; done) | (go_simp; with_reducible rfl)
            rotate_left
            try simp only [Act.put, List.setIfInBounds_toArray, List.set_cons_zero, List.set_cons_succ]
            refine S9.AnyZ.step (i := 0) (o := q7_30_0) (by kernel_rfl) rfl (fun K hK => ?_)
            go_simp
            clear hHeld
            refine hK.out _ _ ⟨⟨_, QA.out.1⟩, rfl⟩ (fun hHeld => ?_)
            clear hK K
            try simp only [Act.put, List.setIfInBounds_toArray, List.set_cons_zero, List.set_cons_succ]
            refine S9.AnyZ.step (i := 3) (o := q7_30_3) (by kernel_rfl) rfl (fun K hK => ?_)
            go_simp
            clear hHeld
            refine hK.out _ _ ⟨⟨_, QA.out.2.1⟩, rfl⟩ (fun hHeld => ?_)
            clear hK K
            try simp only [Act.put, List.setIfInBounds_toArray, List.set_cons_zero, List.set_cons_succ]
            refine S9.AnyZ.step (i := 6) (o := q7_30_6) (by kernel_rfl) rfl (fun K hK => ?_)
            go_simp
            clear hHeld
            refine hK.out _ _ ⟨⟨_, QA.out.2.2⟩, rfl⟩ (fun hHeld => ?_)
            clear hK K
            try simp only [Act.put, List.setIfInBounds_toArray, List.set_cons_zero, List.set_cons_succ]
            refine S9.AnyZ.take (i := 7) (oi := q7_30_7) (v := ?_) rfl (by kernel_rfl) (by kernel_rfl) (fun _ _ _ h => h) _ _ _ _ (by kernel_rfl) (by kernel_rfl) (by kernel_rfl) (Or.inl ⟨by rfl, ?_⟩) hHeld ?_
            rotate_left
            · intro W_ hSw_
              obtain ⟨q, rfl⟩ := hSw_
              first | (go_simp; done) | (go_simp; with_reducible rfl)
            rotate_left
            try simp only [Act.put, List.setIfInBounds_toArray, List.set_cons_zero, List.set_cons_succ]
            refine S9.AnyZ.stepF (i := 8) (o := q7_30_8) (by kernel_rfl) rfl (by kernel_rfl) (fun K hK => ?_)
            go_simp
            clear hHeld
            refine hK.out _ _ ?_
            clear hK K
            try simp only [Act.put, List.setIfInBounds_toArray, List.set_cons_zero, List.set_cons_succ]
            refine S9.AnyZ.done (by kernel_rfl) ?_ _
            refine NoPanic.normal ?_
            clear fa fd hA apB apC e5 QA RA RD SA SD FA
            clear D0 DQ
            obtain ⟨vod, vfd, rd, od, fd_⟩ := DQ5.out
            obtain ⟨am, cm, rfl, sod⟩ := od.len
            obtain ⟨voy, vfy, ry, oy, fy⟩ := T6.out.v
            obtain ⟨an, cn, rfl, soy⟩ := oy.len
            have RA : Hid (RvAt V5 pv 52 #[.slice an S.v.length cn, vfy]) := ry
            have FA : Hid (vfy.oneCell' = true) := fy
            have SA : Hid (S16.SlAt eO V5 an S.v.length cn S.v) := soy
            have RD : Hid (RvAt V5 pq 52 #[.slice am EB.o.length cm, vfd]) := rd
            have SD : Hid (S16.SlAt eO V5 am EB.o.length cm EB.o) := sod
            clear rd od fd_ sod ry oy fy soy DQ5
            have fa := fun q : Later V5 => (RA.out.below q.below).cell 0 _ rfl
            have fd := fun q : Later V5 => (RD.out.below q.below).cell 0 _ rfl
            go_upto_region 31 with fail
            obtain ⟨X0, hX⟩ : ∃ X0, World.drew V5 = X0 := ⟨_, rfl⟩
            have D0 : Hid (Below V5.heap.size V5 X0) := by rw [← hX]; exact (Below.refl _ _).drew
            obtain ⟨JA, JB, JC, vb, vc, hA, apB, apC, bA, bB, bC, io⟩ := join2 (SA.out.below D0.out) (SD.out.below D0.out) (by have := HE.out.2.2; omega)
            obtain ⟨V6, e5, dV, gV⟩ := dn_st ((RA.out.below D0.out).below bC) io FA.out
            have T7 : Hid (TW w V6 A B pu pv _) := (T6.out.below (below_over D0.out bC)).setV dV gV
            have QA : Hid (Below V5.heap.size V5 JA ∧ Below V5.heap.size V5 JB ∧ Below V5.heap.size V5 JC) := ⟨below_over D0.out bA, below_over D0.out bB, below_over D0.out bC⟩
            clear bA bB bC io dV gV T6
            refine wp_region_noPanic ?_
            refine S9.AnyZ.start (z := 8) (S := fun w' => ∃ x : Later V5, w' = x.val) (by kernel_rfl) ⟨⟨_, (Below.refl _ _).drew⟩, rfl⟩ (fun hHeld => ?_)
            rw [hX] at hHeld ⊢
            clear hX
            refine S9.AnyZ.take (i := 1) (oi := q7_31_1) (v := ?_) rfl (by kernel_rfl) (by kernel_rfl) (fun _ _ _ h => h) _ _ _ _ (by kernel_rfl) (by kernel_rfl) (by kernel_rfl) (Or.inl ⟨by rfl, ?_⟩) hHeld ?_
            rotate_left
            · intro W_ hSw_
              obtain ⟨q, rfl⟩ := hSw_
              first | (go_simp; done) | (go_simp; with_reducible rfl)
            rotate_left
            try simp only [Act.put, List.setIfInBounds_toArray, List.set_cons_zero, List.set_cons_succ]
            refine S9.AnyZ.take (i := 2) (oi := q7_31_2) (v := ?_) rfl (by kernel_rfl) (by kernel_rfl) (fun _ _ _ h => h) _ _ _ _ (by kernel_rfl) (by kernel_rfl) (by kernel_rfl) (Or.inl ⟨by rfl, ?_⟩) hHeld ?_
            rotate_left
            · intro W_ hSw_
              obtain ⟨q, rfl⟩ := hSw_
              first | (go_simp; done) | (go_simp; with_reducible rfl)
            rotate_left
            try simp only [Act.put, List.setIfInBounds_toArray, List.set_cons_zero, List.set_cons_succ]
            refine S9.AnyZ.take (i := 4) (oi := q7_31_4) (v := ?_) rfl (by kernel_rfl) (by kernel_rfl) (fun _ _ _ h => h) _ _ _ _ (by kernel_rfl) (by kernel_rfl) (by kernel_rfl) (Or.inl ⟨by rfl, ?_⟩) hHeld ?_
            rotate_left
            · intro W_ hSw_
              obtain ⟨q, rfl⟩ := hSw_
              first | (go_simp; done) | (go_simp; with_reducible rfl)
            rotate_left
            try simp only [Act.put, List.setIfInBounds_toArray, List.set_cons_zero, List.set_cons_succ]
            refine S9.AnyZ.take (i := 5) (oi := q7_31_5) (v := ?_) rfl (by kernel_rfl) (by kernel_rfl) (fun _ _ _ h => h) _ _ _ _ (by kernel_rfl) (by kernel_rfl) (by kernel_rfl) (Or.inl ⟨by rfl, ?_⟩) hHeld ?_
            rotate_left
            · intro W_ hSw_
              obtain ⟨q, rfl⟩ := hSw_
              first | (go_simp; done) | (go_simp; with_reducible rfl)
            rotate_left
            try simp only [Act.put, List.setIfInBounds_toArray, List.set_cons_zero, List.set_cons_succ]
            refine S9.AnyZ.step (i := 0) (o := q7_31_0) (by kernel_rfl) rfl (fun K hK => ?_)
            go_simp
            clear hHeld
            refine hK.out _ _ ⟨⟨_, QA.out.1⟩, rfl⟩ (fun hHeld => ?_)
            clear hK K
            try simp only [Act.put, List.setIfInBounds_toArray, List.set_cons_zero, List.set_cons_succ]
            refine S9.AnyZ.step (i := 3) (o := q7_31_3) (by kernel_rfl) rfl (fun K hK => ?_)
            go_simp
            clear hHeld
            refine hK.out _ _ ⟨⟨_, QA.out.2.1⟩, rfl⟩ (fun hHeld => ?_)
            clear hK K
            try simp only [Act.put, List.setIfInBounds_toArray, List.set_cons_zero, List.set_cons_succ]
            refine S9.AnyZ.step (i := 6) (o := q7_31_6) (by kernel_rfl) rfl (fun K hK => ?_)
            go_simp
            clear hHeld
            refine hK.out _ _ ⟨⟨_, QA.out.2.2⟩, rfl⟩ (fun hHeld => ?_)
            clear hK K
            try simp only [Act.put, List.setIfInBounds_toArray, List.set_cons_zero, List.set_cons_succ]
            refine S9.AnyZ.take (i := 7) (oi := q7_31_7) (v := ?_) rfl (by kernel_rfl) (by kernel_rfl) (fun _ _ _ h => h) _ _ _ _ (by kernel_rfl) (by kernel_rfl) (by kernel_rfl) (Or.inl ⟨by rfl, ?_⟩) hHeld ?_
            rotate_left
            · intro W_ hSw_
              obtain ⟨q, rfl⟩ := hSw_
              first | (go_simp; done) | (go_simp; with_reducible rfl)
            rotate_left
            try simp only [Act.put, List.setIfInBounds_toArray, List.set_cons_zero, List.set_cons_succ]
            refine S9.AnyZ.stepF (i := 8) (o := q7_31_8) (by kernel_rfl) rfl (by kernel_rfl) (fun K hK => ?_)
            go_simp
            clear hHeld
            refine hK.out _ _ ?_
            clear hK K
            try simp only [Act.put, List.setIfInBounds_toArray, List.set_cons_zero, List.set_cons_succ]
            refine S9.AnyZ.done (by kernel_rfl) ?_ _
            refine NoPanic.normal ?_
            clear fa fd hA apB apC e5 QA RA RD SA SD FA
            have NX : Hid (TW w V6 A B pu pv (secs (n + 1) P0) ∧ (secs (n + 1) P0).la.length = 2 ∧ (secs (n + 1) P0).lb.length = 2 ∧ (secs (n + 1) P0).u.length + (secs (n + 1) P0).v.length ≤ 400 + (n + 1) * 40400) := by
              have e : secs (n + 1) P0 = ⟨EA.h, EA.l, EB.h, EB.l, S.u ++ EA.o, S.v ++ EB.o⟩ := by
                show later (come 200 (secs n P0)) = _
                rw [H1.out, HC.out]
                unfold later
                rw [HE.out.1, HE.out.2.1]
              rw [e]
              refine ⟨T7.out, LA.out, LB.out, ?_⟩
              have := HE.out.2.2
              simp
              omega
            clear T7 D0 LA LB HC HE
            go_wp2
            go_roundw
            case rel => exact ⟨n + 1, by omega, by go_num, NX.out⟩
            case measure => simp [intOf]; omega
          · have hk1 : (k : Int) < 200 := by omega
            have c3 : S.u = [] ∧ S.v = [] := by
              refine ⟨Classical.byContradiction fun e => hz ⟨by omega, Or.inl e⟩, Classical.byContradiction fun e => hz ⟨by omega, Or.inr e⟩⟩
            rw [c3.1] at cU
            rw [c3.2] at cV
            have cU : wr.cell? ⟨pu, 0, none⟩ = some (.slice au 0 cu) := cU
            have cV : wr.cell? ⟨pv, 0, none⟩ = some (.slice av 0 cv) := cV
            clear c3 hz c2
            obtain ⟨ab, cb, brA⟩ := T1.out.a
            have P1 : Hid _ := tick_any brA (by omega) (by omega)
            obtain ⟨EA, hEA⟩ : ∃ z, evTick S.ha S.la = z := ⟨_, rfl⟩
            obtain ⟨EB, hEB⟩ : ∃ z, evTick S.hb S.lb = z := ⟨_, rfl⟩
            have HE : Hid (evTick S.ha S.la = EA ∧ evTick S.hb S.lb = EB ∧ EA.o.length ≤ 200 ∧ EB.o.length ≤ 200) := ⟨hEA, hEB, by rw [← hEA]; exact tick_out _ _ hl4, by rw [← hEB]; exact tick_out _ _ hl5⟩
            rw [hEA] at P1
            clear brA hEA hEB
            go_wp2_with fail
            refine Calls.mono P1.out ?_
            rintro _ V1 ⟨v1, a1, c1, rfl, s1, d1, g1⟩
            have LA : Hid (EA.l.length = 2) := s1.sl.len
            have T2 := T1.out.goA g1 s1
            obtain ⟨vo1, vf1, rfl, o1, f1⟩ := d1.out
            obtain ⟨V2, e2, r2, b2, z2⟩ := var_dn V1 vo1 vf1 o1.one f1.one
            obtain ⟨pp, hpp⟩ : ∃ z, V1.heap.size = z := ⟨_, rfl⟩
            rw [hpp] at e2 r2
            have T3 : Hid (TW w V2 A B pu pv ⟨EA.h, EA.l, S.hb, S.lb, S.u, S.v⟩) := T2.below b2
            have DP : Hid (DV V2 pp EA.o) := ⟨vo1, vf1, r2, o1.below b2, f1.one⟩
            obtain ⟨ab2, cb2, brB⟩ := T3.out.b
            have P2 : Hid _ := tick_any brB (by omega) (by omega)
            have P2 : Hid (Calls Tryz.prog 16 #[.pointer (some ⟨B, 0, none⟩)] V2 fun r V => BRes V2 B 2 EB r V) := by rw [← HE.out.2.1]; exact P2.out
            have BV : Hid (RvAt V2 B 94 (trc S.hb (.slice ab2 2 cb2))) := brB.var
            clear brB s1 d1 g1 T2 o1 f1 r2 b2 z2 P1 T1 cU cV
            go_wp2_with fail
            refine Calls.mono P2.out ?_
            rintro _ V3 ⟨v3, a3, c3, rfl, s3, d3, g3⟩
            have LB : Hid (EB.l.length = 2) := s3.sl.len
            have T4 := T3.out.goB g3 s3
            have DP3 := DP.out.row BV.out (Or.inl (by decide)) (by decide) g3
            obtain ⟨vo3, vf3, rfl, o3, f3⟩ := d3.out
            obtain ⟨am3, cm3, rfl, so3⟩ := o3.len
            obtain ⟨V4, e4, r4, b4, z4⟩ := var_dn V3 (.slice am3 EB.o.length cm3) vf3 rfl f3.one
            obtain ⟨pq, hpq⟩ : ∃ z, V3.heap.size = z := ⟨_, rfl⟩
            rw [hpq] at e4 r4
            have T5 : Hid (TW w V4 A B pu pv ⟨EA.h, EA.l, EB.h, EB.l, S.u, S.v⟩) := T4.below b4
            have DQ : Hid (DV V4 pq EB.o) := ⟨_, vf3, r4, o3.below b4, f3.one⟩
            have NQ : Hid (pu ≠ pq) := by have := T4.u.lt; show pu ≠ pq; omega
            obtain ⟨vod, vfd, rd, od, fd_⟩ := DP3.below b4
            obtain ⟨am, cm, rfl, sod⟩ := od.len
            obtain ⟨voy, vfy, ry, oy, fy⟩ := T5.out.u
            obtain ⟨an, cn, rfl, soy⟩ := oy.len
            have RA : Hid (RvAt V4 pu 52 #[.slice an S.u.length cn, vfy]) := ry
            have FA : Hid (vfy.oneCell' = true) := fy
            have SA : Hid (S16.SlAt eO V4 an S.u.length cn S.u) := soy
            have RD : Hid (RvAt V4 pp 52 #[.slice am EA.o.length cm, vfd]) := rd
            have SD : Hid (S16.SlAt eO V4 am EA.o.length cm EA.o) := sod
            clear s3 d3 g3 T4 DP3 o3 f3 so3 r4 b4 z4 rd od fd_ sod ry oy fy soy P2 BV T3 DP e2 hpp
            have fa := fun q : Later V4 => (RA.out.below q.below).cell 0 _ rfl
            have fd := fun q : Later V4 => (RD.out.below q.below).cell 0 _ rfl
            go_upto_region 30 with fail
            clear e4 hpq
            obtain ⟨X0, hX⟩ : ∃ X0, World.drew V4 = X0 := ⟨_, rfl⟩
            have D0 : Hid (Below V4.heap.size V4 X0) := by rw [← hX]; exact (Below.refl _ _).drew
            obtain ⟨JA, JB, JC, vb, vc, hA, apB, apC, bA, bB, bC, io⟩ := join2 (SA.out.below D0.out) (SD.out.below D0.out) (by have := HE.out.2.2; omega)
            obtain ⟨V5, e5, dV, gV⟩ := dn_st ((RA.out.below D0.out).below bC) io FA.out
            have T6 : Hid (TW w V5 A B pu pv _) := (T5.out.below (below_over D0.out bC)).setU dV gV
            have DQ5 : Hid (DV V5 pq EB.o) := (DQ.out.below (below_over D0.out bC)).row ((RA.out.below D0.out).below bC) (Or.inr (Ne.symm NQ.out)) (by decide) gV
            have QA : Hid (Below V4.heap.size V4 JA ∧ Below V4.heap.size V4 JB ∧ Below V4.heap.size V4 JC) := ⟨below_over D0.out bA, below_over D0.out bB, below_over D0.out bC⟩
            clear bA bB bC io dV gV T5
            refine wp_region_noPanic ?_
            refine S9.AnyZ.start (z := 8) (S := fun w' => ∃ x : Later V4, w' = x.val) (by kernel_rfl) ⟨⟨_, (Below.refl _ _).drew⟩, rfl⟩ (fun hHeld => ?_)
            rw [hX] at hHeld ⊢
            clear hX
            refine S9.AnyZ.take (i := 1) (oi := q7_30_1) (v := ?_) rfl (by kernel_rfl) (by kernel_rfl) (fun _ _ _ h => h) _ _ _ _ (by kernel_rfl) (by kernel_rfl) (by kernel_rfl) (Or.inl ⟨by rfl, ?_⟩) hHeld ?_
            rotate_left
            · intro W_ hSw_
              obtain ⟨q, rfl⟩ := hSw_
              first | (go_simp; done) | (go_simp; with_reducible rfl)
            rotate_left
            try simp only [Act.put, List.setIfInBounds_toArray, List.set_cons_zero, List.set_cons_succ]
            refine S9.AnyZ.take (i := 2) (oi := q7_30_2) (v := ?_) rfl (by kernel_rfl) (by kernel_rfl) (fun _ _ _ h => h) _ _ _ _ (by kernel_rfl) (by kernel_rfl) (by kernel_rfl) (Or.inl ⟨by rfl, ?_⟩) hHeld ?_
            rotate_left
            · intro W_ hSw_
              obtain ⟨q, rfl⟩ := hSw_
              first | (go_simp; done) | (go_simp; with_reducible rfl)
            rotate_left
            try simp only [Act.put, List.setIfInBounds_toArray, List.set_cons_zero, List.set_cons_succ]
            refine S9.AnyZ.take (i := 4) (oi := q7_30_4) (v := ?_) rfl (by kernel_rfl) (by kernel_rfl) (fun _ _ _ h => h) _ _ _ _ (by kernel_rfl) (by kernel_rfl) (by kernel_rfl) (Or.inl ⟨by rfl, ?_⟩) hHeld ?_
            rotate_left
            · intro W_ hSw_
              obtain ⟨q, rfl⟩ := hSw_
              first | (go_simp; done) | (go_simp; with_reducible rfl)
            rotate_left
            try simp only [Act.put, List.setIfInBounds_toArray, List.set_cons_zero, List.set_cons_succ]
            refine S9.AnyZ.take (i := 5) (oi := q7_30_5) (v := ?_) rfl (by kernel_rfl) (by kernel_rfl) (fun _ _ _ h => h) _ _ _ _ (by kernel_rfl) (by kernel_rfl) (by kernel_rfl) (Or.inl ⟨by rfl, ?_⟩) hHeld ?_
            rotate_left
            · intro W_ hSw_
              obtain ⟨q, rfl⟩ := hSw_
              first | (go_simp; done) | (go_simp; with_reducible rfl)
            rotate_left
            try simp only [Act.put, List.setIfInBounds_toArray, List.set_cons_zero, List.set_cons_succ]
            refine S9.AnyZ.step (i := 0) (o := q7_30_0) (by kernel_rfl) rfl (fun K hK => ?_)
            go_simp
            clear hHeld
            refine hK.out _ _ ⟨⟨_, QA.out.1⟩, rfl⟩ (fun hHeld => ?_)
            clear hK K
            try simp only [Act.put, List.setIfInBounds_toArray, List.set_cons_zero, List.set_cons_succ]
            refine S9.AnyZ.step (i := 3) (o := q7_30_3) (by kernel_rfl) rfl (fun K hK => ?_)
            go_simp
            clear hHeld
            refine hK.out _ _ ⟨⟨_, QA.out.2.1⟩, rfl⟩ (fun hHeld => ?_)
            clear hK K
            try simp only [Act.put, List.setIfInBounds_toArray, List.set_cons_zero, List.set_cons_succ]
            refine S9.AnyZ.step (i := 6) (o := q7_30_6) (by kernel_rfl) rfl (fun K hK => ?_)
            go_simp
            clear hHeld
            refine hK.out _ _ ⟨⟨_, QA.out.2.2⟩, rfl⟩ (fun hHeld => ?_)
            clear hK K
            try simp only [Act.put, List.setIfInBounds_toArray, List.set_cons_zero, List.set_cons_succ]
            refine S9.AnyZ.take (i := 7) (oi := q7_30_7) (v := ?_) rfl (by kernel_rfl) (by kernel_rfl) (fun _ _ _ h => h) _ _ _ _ (by kernel_rfl) (by kernel_rfl) (by kernel_rfl) (Or.inl ⟨by rfl, ?_⟩) hHeld ?_
            rotate_left
            · intro W_ hSw_
              obtain ⟨q, rfl⟩ := hSw_
              first | (go_simp; done) | (go_simp; with_reducible rfl)
            rotate_left
            try simp only [Act.put, List.setIfInBounds_toArray, List.set_cons_zero, List.set_cons_succ]
            refine S9.AnyZ.stepF (i := 8) (o := q7_30_8) (by kernel_rfl) rfl (by kernel_rfl) (fun K hK => ?_)
            go_simp
            clear hHeld
            refine hK.out _ _ ?_
            clear hK K
            try simp only [Act.put, List.setIfInBounds_toArray, List.set_cons_zero, List.set_cons_succ]
            refine S9.AnyZ.done (by kernel_rfl) ?_ _
            refine NoPanic.normal ?_
            clear fa fd hA apB apC e5 QA RA RD SA SD FA
            clear D0 DQ
            obtain ⟨vod, vfd, rd, od, fd_⟩ := DQ5.out
            obtain ⟨am, cm, rfl, sod⟩ := od.len
            obtain ⟨voy, vfy, ry, oy, fy⟩ := T6.out.v
            obtain ⟨an, cn, rfl, soy⟩ := oy.len
            have RA : Hid (RvAt V5 pv 52 #[.slice an S.v.length cn, vfy]) := ry
            have FA : Hid (vfy.oneCell' = true) := fy
            have SA : Hid (S16.SlAt eO V5 an S.v.length cn S.v) := soy
            have RD : Hid (RvAt V5 pq 52 #[.slice am EB.o.length cm, vfd]) := rd
            have SD : Hid (S16.SlAt eO V5 am EB.o.length cm EB.o) := sod
            clear rd od fd_ sod ry oy fy soy DQ5
            have fa := fun q : Later V5 => (RA.out.below q.below).cell 0 _ rfl
            have fd := fun q : Later V5 => (RD.out.below q.below).cell 0 _ rfl
            go_upto_region 31 with fail
            obtain ⟨X0, hX⟩ : ∃ X0, World.drew V5 = X0 := ⟨_, rfl⟩
            have D0 : Hid (Below V5.heap.size V5 X0) := by rw [← hX]; exact (Below.refl _ _).drew
            obtain ⟨JA, JB, JC, vb, vc, hA, apB, apC, bA, bB, bC, io⟩ := join2 (SA.out.below D0.out) (SD.out.below D0.out) (by have := HE.out.2.2; omega)
            obtain ⟨V6, e5, dV, gV⟩ := dn_st ((RA.out.below D0.out).below bC) io FA.out
            have T7 : Hid (TW w V6 A B pu pv _) := (T6.out.below (below_over D0.out bC)).setV dV gV
            have QA : Hid (Below V5.heap.size V5 JA ∧ Below V5.heap.size V5 JB ∧ Below V5.heap.size V5 JC) := ⟨below_over D0.out bA, below_over D0.out bB, below_over D0.out bC⟩
            clear bA bB bC io dV gV T6
            refine wp_region_noPanic ?_
            refine S9.AnyZ.start (z := 8) (S := fun w' => ∃ x : Later V5, w' = x.val) (by kernel_rfl) ⟨⟨_, (Below.refl _ _).drew⟩, rfl⟩ (fun hHeld => ?_)
            rw [hX] at hHeld ⊢
            clear hX
            refine S9.AnyZ.take (i := 1) (oi := q7_31_1) (v := ?_) rfl (by kernel_rfl) (by kernel_rfl) (fun _ _ _ h => h) _ _ _ _ (by kernel_rfl) (by kernel_rfl) (by kernel_rfl) (Or.inl ⟨by rfl, ?_⟩) hHeld ?_
            rotate_left
            · intro W_ hSw_
              obtain ⟨q, rfl⟩ := hSw_
              first | (go_simp; done) | (go_simp; with_reducible rfl)
            rotate_left
            try simp only [Act.put, List.setIfInBounds_toArray, List.set_cons_zero, List.set_cons_succ]
            refine S9.AnyZ.take (i := 2) (oi := q7_31_2) (v := ?_) rfl (by kernel_rfl) (by kernel_rfl) (fun _ _ _ h => h) _ _ _ _ (by kernel_rfl) (by kernel_rfl) (by kernel_rfl) (Or.inl ⟨by rfl, ?_⟩) hHeld ?_
            rotate_left
            · intro W_ hSw_
              obtain ⟨q, rfl⟩ := hSw_
              first | (go_simp; done) | (go_simp; with_reducible rfl)
            rotate_left
            try simp only [Act.put, List.setIfInBounds_toArray, List.set_cons_zero, List.set_cons_succ]
            refine S9.AnyZ.take (i := 4) (oi := q7_31_4) (v := ?_) rfl (by kernel_rfl) (by kernel_rfl) (fun _ _ _ h => h) _ _ _ _ (by kernel_rfl) (by kernel_rfl) (by kernel_rfl) (Or.inl ⟨by rfl, ?_⟩) hHeld ?_
            rotate_left
            · intro W_ hSw_
              obtain ⟨q, rfl⟩ := hSw_
              first | (go_simp; done) | (go_simp; with_reducible rfl)
            rotate_left
            try simp only [Act.put, List.setIfInBounds_toArray, List.set_cons_zero, List.set_cons_succ]
            refine S9.AnyZ.take (i := 5) (oi := q7_31_5) (v := ?_) rfl (by kernel_rfl) (by kernel_rfl) (fun _ _ _ h => h) _ _ _ _ (by kernel_rfl) (by kernel_rfl) (by kernel_rfl) (Or.inl ⟨by rfl, ?_⟩) hHeld ?_
            rotate_left
            · intro W_ hSw_
              obtain ⟨q, rfl⟩ := hSw_
              first | (go_simp; done) | (go_simp; with_reducible rfl)
            rotate_left
            try simp only [Act.put, List.setIfInBounds_toArray, List.set_cons_zero, List.set_cons_succ]
            refine S9.AnyZ.step (i := 0) (o := q7_31_0) (by kernel_rfl) rfl (fun K hK => ?_)
            go_simp
            clear hHeld
            refine hK.out _ _ ⟨⟨_, QA.out.1⟩, rfl⟩ (fun hHeld => ?_)
            clear hK K
            try simp only [Act.put, List.setIfInBounds_toArray, List.set_cons_zero, List.set_cons_succ]
            refine S9.AnyZ.step (i := 3) (o := q7_31_3) (by kernel_rfl) rfl (fun K hK => ?_)
            go_simp
            clear hHeld
            refine hK.out _ _ ⟨⟨_, QA.out.2.1⟩, rfl⟩ (fun hHeld => ?_)
            clear hK K
            try simp only [Act.put, List.setIfInBounds_toArray, List.set_cons_zero, List.set_cons_succ]
            refine S9.AnyZ.step (i := 6) (o := q7_31_6) (by kernel_rfl) rfl (fun K hK => ?_)
            go_simp
            clear hHeld
            refine hK.out _ _ ⟨⟨_, QA.out.2.2⟩, rfl⟩ (fun hHeld => ?_)
            clear hK K
            try simp only [Act.put, List.setIfInBounds_toArray, List.set_cons_zero, List.set_cons_succ]
            refine S9.AnyZ.take (i := 7) (oi := q7_31_7) (v := ?_) rfl (by kernel_rfl) (by kernel_rfl) (fun _ _ _ h => h) _ _ _ _ (by kernel_rfl) (by kernel_rfl) (by kernel_rfl) (Or.inl ⟨by rfl, ?_⟩) hHeld ?_
            rotate_left
            · intro W_ hSw_
              obtain ⟨q, rfl⟩ := hSw_
              first | (go_simp; done) | (go_simp; with_reducible rfl)
            rotate_left
            try simp only [Act.put, List.setIfInBounds_toArray, List.set_cons_zero, List.set_cons_succ]
            refine S9.AnyZ.stepF (i := 8) (o := q7_31_8) (by kernel_rfl) rfl (by kernel_rfl) (fun K hK => ?_)
            go_simp
            clear hHeld
            refine hK.out _ _ ?_
            clear hK K
            try simp only [Act.put, List.setIfInBounds_toArray, List.set_cons_zero, List.set_cons_succ]
            refine S9.AnyZ.done (by kernel_rfl) ?_ _
            refine NoPanic.normal ?_
            clear fa fd hA apB apC e5 QA RA RD SA SD FA
            have NX : Hid (TW w V6 A B pu pv (secs (n + 1) P0) ∧ (secs (n + 1) P0).la.length = 2 ∧ (secs (n + 1) P0).lb.length = 2 ∧ (secs (n + 1) P0).u.length + (secs (n + 1) P0).v.length ≤ 400 + (n + 1) * 40400) := by
              have e : secs (n + 1) P0 = ⟨EA.h, EA.l, EB.h, EB.l, S.u ++ EA.o, S.v ++ EB.o⟩ := by
                show later (come 200 (secs n P0)) = _
                rw [H1.out, HC.out]
                unfold later
                rw [HE.out.1, HE.out.2.1]
              rw [e]
              refine ⟨T7.out, LA.out, LB.out, ?_⟩
              have := HE.out.2.2
              simp
              omega
            clear T7 D0 LA LB HC HE
            go_wp2
            go_roundw
            case rel => exact ⟨n + 1, by omega, by go_num, NX.out⟩
            case measure => simp [intOf]; omega
    · obtain rfl : n = 12 := by omega
      have hn1 : ¬ ((12 : Nat) : Int) < 12 := by omega
      rw [H1.out] at HA
      obtain ⟨aA, cA, bA⟩ := T1.out.a
      obtain ⟨aB, cB, bB⟩ := T1.out.b
      have BA : Hid (BrAt wr A S1.ha aA 2 cA S1.la) := bA
      have BB : Hid (BrAt wr B S1.hb aB 2 cB S1.lb) := bB
      have BW : Hid (Below w.heap.size w wr) := T1.out.bel
      have pA : ptAt S1.la 0 = gtP S1.la 0 := ptAt_in (k := 0) (by rw [hl1]; omega)
      have pB : ptAt S1.lb 0 = gtP S1.lb 0 := ptAt_in (k := 0) (by rw [hl2]; omega)
      have PA : Hid (∀ V, Below wr.heap.size wr V → Calls Tryz.prog 53 #[.pointer (some ⟨A, 0, none⟩), .int .i64 0] V fun r X => r = .returned (.agg (gtP S1.la 0).cs) ∧ Below V.heap.size V X) := fun V k => by
        have := port_any (BA.out.below k) 0 (by omega)
        rw [pA] at this
        exact this
      have PB : Hid (∀ V, Below wr.heap.size wr V → Calls Tryz.prog 53 #[.pointer (some ⟨B, 0, none⟩), .int .i64 0] V fun r X => r = .returned (.agg (gtP S1.lb 0).cs) ∧ Below V.heap.size V X) := fun V k => by
        have := port_any (BB.out.below k) 0 (by omega)
        rw [pB] at this
        exact this
      obtain ⟨pa, hpa⟩ : ∃ z, gtP S1.la 0 = z := ⟨_, rfl⟩
      obtain ⟨pb, hpb⟩ : ∃ z, gtP S1.lb 0 = z := ⟨_, rfl⟩
      have HH : Hid (gtP S1.la 0 = pa ∧ gtP S1.lb 0 = pb) := ⟨hpa, hpb⟩
      rw [hpa] at PA
      rw [hpb] at PB
      obtain ⟨ha, hha⟩ : ∃ z, S1.ha = z := ⟨_, rfl⟩
      obtain ⟨hb, hhb⟩ : ∃ z, S1.hb = z := ⟨_, rfl⟩
      rw [hha] at BA HA
      rw [hhb] at BB HA
      clear bA bB T1 pA pB hpa hpb hha hhb
      have hne : x ≠ y := fun e => by rw [e] at q3; simp at q3
      by_cases hyx : y < x
      · have K := HA.out.2 hyx
        have hmin : min x y = y := by omega
        have k1 : hb.nm 7 = 0 := K.l7
        have k2 : ha.nm 7 = 32769 := K.h7
        have k3 : ha.nm 8 = y := K.h8
        have k4 : pb.nm 30 = 4 := by rw [← HH.out.2]; exact K.ra
        have k5 : pa.nm 30 = 3 := by rw [← HH.out.1]; exact K.rb
        have k6 : pb.bt 8 = true := by rw [← HH.out.2]; exact K.fa
        have k7 : pa.bt 8 = true := by rw [← HH.out.1]; exact K.fb
        clear K
        go_wp2_with fail
        refine (tree_any BB.out (by omega) (by omega)).mono ?_
        rintro _ Y1 ⟨a1_, c1_, rfl, _, _, b1⟩
        have z1 := fdT_4 hb (.slice a1_ 2 c1_) Y1
        rw [k1] at z1
        have B1 : Hid (Below wr.heap.size wr Y1) := b1
        clear b1
        go_wp2_with fail
        refine (tree_any (BA.out.below B1.out) (by omega) (by omega)).mono ?_
        rintro _ Y2 ⟨a2_, c2_, rfl, _, _, b2⟩
        have z2 := fdT_4 ha (.slice a2_ 2 c2_) Y2
        rw [k2] at z2
        have B2 : Hid (Below wr.heap.size wr Y2) := below_over B1.out b2
        clear b2
        go_wp2_with fail
        refine (tree_any (BA.out.below B2.out) (by omega) (by omega)).mono ?_
        rintro _ Y3 ⟨a3_, c3_, rfl, _, _, b3⟩
        have z3 := fdT_5 ha (.slice a3_ 2 c3_) Y3
        have z4 := fdV_0 (ha.nm 8) (ha.nm 9) (ha.nm 10) (ha.nm 11) Y3
        rw [k3] at z3 z4
        have B3 : Hid (Below wr.heap.size wr Y3) := below_over B2.out b3
        clear b3
        go_wp2_with fail
        refine (role_of _ pb 0 Y3 (PB.out Y3 B3.out)).mono ?_
        rintro _ Y4 ⟨rfl, b4⟩
        rw [k4]
        have B4 : Hid (Below wr.heap.size wr Y4) := below_over B3.out b4
        clear b4
        go_wp2_with fail
        refine (role_of _ pa 0 Y4 (PA.out Y4 B4.out)).mono ?_
        rintro _ Y5 ⟨rfl, b5⟩
        rw [k5]
        have B5 : Hid (Below wr.heap.size wr Y5) := below_over B4.out b5
        clear b5
        go_wp2_with fail
        refine (forw_of _ pa 0 Y5 (PA.out Y5 B5.out)).mono ?_
        rintro _ Y6 ⟨rfl, b6⟩
        rw [show pa.bt 8 = true from k7]
        have B6 : Hid (Below wr.heap.size wr Y6) := below_over B5.out b6
        clear b6
        go_wp2_with fail
        refine (forw_of _ pb 0 Y6 (PB.out Y6 B6.out)).mono ?_
        rintro _ Y7 ⟨rfl, b7⟩
        rw [show pb.bt 8 = true from k6]
        have B7 : Hid (Below wr.heap.size wr Y7) := below_over B6.out b7
        clear b7
        go_wp2_with fail
        refine (awake_any Y7).mono ?_
        rintro _ Y8 ⟨rfl, b8⟩
        have B8 : Hid (Below w.heap.size w Y8) := below_over BW.out (below_over B7.out b8)
        clear b8
        go_wp2
        go_ret
        exact ⟨rfl, B8.out⟩
      · have K := HA.out.1 (by omega)
        have hmin : min x y = x := by omega
        have k1 : ha.nm 7 = 0 := K.l7
        have k2 : hb.nm 7 = 32769 := K.h7
        have k3 : hb.nm 8 = x := K.h8
        have k4 : pa.nm 30 = 4 := by rw [← HH.out.1]; exact K.ra
        have k5 : pb.nm 30 = 3 := by rw [← HH.out.2]; exact K.rb
        have k6 : pa.bt 8 = true := by rw [← HH.out.1]; exact K.fa
        have k7 : pb.bt 8 = true := by rw [← HH.out.2]; exact K.fb
        clear K
        go_wp2_with fail
        refine (tree_any BA.out (by omega) (by omega)).mono ?_
        rintro _ Y1 ⟨a1_, c1_, rfl, _, _, b1⟩
        have z1 := fdT_4 ha (.slice a1_ 2 c1_) Y1
        rw [k1] at z1
        have B1 : Hid (Below wr.heap.size wr Y1) := b1
        clear b1
        go_wp2_with fail
        refine (tree_any (BB.out.below B1.out) (by omega) (by omega)).mono ?_
        rintro _ Y2 ⟨a2_, c2_, rfl, _, _, b2⟩
        have z2 := fdT_4 hb (.slice a2_ 2 c2_) Y2
        rw [k2] at z2
        have B2 : Hid (Below wr.heap.size wr Y2) := below_over B1.out b2
        clear b2
        go_wp2_with fail
        refine (tree_any (BB.out.below B2.out) (by omega) (by omega)).mono ?_
        rintro _ Y3 ⟨a3_, c3_, rfl, _, _, b3⟩
        have z3 := fdT_5 hb (.slice a3_ 2 c3_) Y3
        have z4 := fdV_0 (hb.nm 8) (hb.nm 9) (hb.nm 10) (hb.nm 11) Y3
        rw [k3] at z3 z4
        have B3 : Hid (Below wr.heap.size wr Y3) := below_over B2.out b3
        clear b3
        go_wp2_with fail
        refine (role_of _ pa 0 Y3 (PA.out Y3 B3.out)).mono ?_
        rintro _ Y4 ⟨rfl, b4⟩
        rw [k4]
        have B4 : Hid (Below wr.heap.size wr Y4) := below_over B3.out b4
        clear b4
        go_wp2_with fail
        refine (role_of _ pb 0 Y4 (PB.out Y4 B4.out)).mono ?_
        rintro _ Y5 ⟨rfl, b5⟩
        rw [k5]
        have B5 : Hid (Below wr.heap.size wr Y5) := below_over B4.out b5
        clear b5
        go_wp2_with fail
        refine (forw_of _ pa 0 Y5 (PA.out Y5 B5.out)).mono ?_
        rintro _ Y6 ⟨rfl, b6⟩
        rw [show pa.bt 8 = true from k6]
        have B6 : Hid (Below wr.heap.size wr Y6) := below_over B5.out b6
        clear b6
        go_wp2_with fail
        refine (forw_of _ pb 0 Y6 (PB.out Y6 B6.out)).mono ?_
        rintro _ Y7 ⟨rfl, b7⟩
        rw [show pb.bt 8 = true from k7]
        have B7 : Hid (Below wr.heap.size wr Y7) := below_over B6.out b7
        clear b7
        go_wp2_with fail
        refine (awake_any Y7).mono ?_
        rintro _ Y8 ⟨rfl, b8⟩
        have B8 : Hid (Below w.heap.size w Y8) := below_over BW.out (below_over B7.out b8)
        clear b8
        go_wp2
        go_ret
        exact ⟨rfl, B8.out⟩
end S17
end
end Go.Proofs.YtlchejbggnbccaaGreat
