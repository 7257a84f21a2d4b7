/-
  A tree's variable of the statements: stored anew; the first ports of a tree; rows of messages held against each other. Plain laws over the program's types, and the walk of SameOuts.
-/
import Derived.Test.YtllmadgonobdnaaAwake
import Derived.Test.YtllmadgonobdnaaRPtx
import Derived.Test.YtllmadgonobdnaaMes
import Derived.Test.YtllmadgonobdnaaSame
namespace Go.Proofs.Ytllmadgonobdnaa
set_option linter.unusedVariables false
set_option maxRecDepth 4000
set_option linter.unusedSimpArgs false
open Go.RowKit

theorem TQ.st {w W : World} {b n c : Nat} {h : Hd} {a : Option Addr} {l : List Pt} (t : TQ w W b h a n c l) {a' : Option Addr} {c' : Nat} {l' : List Pt} (s : SlAt W a' n c' l') : ∃ V, (stS 31 (.pointer (some ⟨b, 0, none⟩)) (.agg (trc h (.slice a' n c')))).run Try.prog W = .ok () V ∧ TQ w V b h a' n c' l' ∧ W.grownBy V (some b) := by
  obtain ⟨V, e, r, g⟩ := t.var.tst (g := h) (y := .slice a' n c') rfl
  exact ⟨V, e, ⟨r, s.keptT t.var g, gro t.bel g t.hb t.bel.size, t.hb⟩, g⟩
theorem few_len (l : List Pt) : (l.take 10).length ≤ 10 := by rw [List.length_take]; omega
theorem few_in {w W W1 : World} {b n0 c0 : Nat} {h : Hd} {a0 : Option Addr} {l : List Pt} {v : Value} (r : RvAt W b 31 (trc h (.slice a0 n0 c0))) (hB : Below w.heap.size w W) (hb : w.heap.size ≤ b) (b1 : Below W.heap.size W W1) (o : Own W1 W.heap.size v (l.take 10)) :
    ∃ ls a n c V, ls.length = n ∧ n ≤ 10 ∧ v = .slice a n c ∧ (stS 31 (.pointer (some ⟨b, 0, none⟩)) (.agg (trc h (.slice a n c)))).run Try.prog W1 = .ok () V ∧ TQ w V b h a n c ls ∧ W1.grownBy V (some b) := by
  obtain ⟨a, c, hv, sv, _⟩ := o.form
  obtain ⟨n, hn⟩ : ∃ n, (l.take 10).length = n := ⟨_, rfl⟩
  have h10 := few_len l
  rw [hn] at hv sv h10
  obtain ⟨V, e, rV, g⟩ := (r.below b1).tst (g := h) (y := .slice a n c) rfl
  exact ⟨l.take 10, a, n, c, V, hn, h10, hv, e, ⟨rV, sv.keptT (r.below b1) g, gro (below_over hB b1) g hb (below_over hB b1).size, hb⟩, g⟩
theorem eqOut (a b : Ot) (w : World) : (Op.equalIn 10000 48 (.agg a.cs) (.agg b.cs)).run Try.prog w = .ok (a.eq b) w := run_eqRow plainO a b w
theorem gdO : Try.prog.eqGuardType Try.prog.depth 48 = false := by kernel_rfl
theorem eqgO (op : BinOp) (x y : Operand) (a b : Ot) (w : World) : (eqGuard op 48 x y (.agg a.cs) (.agg b.cs)).run Try.prog w = .ok () w := run_eqGuard_agg w op _ x y _ _ gdO
theorem neqO (a b : Ot) (w : World) : (binOp .neq 48 (.agg a.cs) (.agg b.cs)).run Try.prog w = .ok (.bool (!(a.eq b))) w := by
  rw [run_neq_struct, eqOut]
  rfl
theorem eqMsg (a b : Mg) (w : World) : (Op.equalIn 10000 43 (.agg a.cs) (.agg b.cs)).run Try.prog w = .ok (a.eq b) w := run_eqRow plainM a b w
theorem gdM : Try.prog.eqGuardType Try.prog.depth 43 = false := by kernel_rfl
theorem eqgM (op : BinOp) (x y : Operand) (a b : Mg) (w : World) : (eqGuard op 43 x y (.agg a.cs) (.agg b.cs)).run Try.prog w = .ok () w := run_eqGuard_agg w op _ x y _ _ gdM
theorem eqlM (a b : Mg) (w : World) : (binOp .eql 43 (.agg a.cs) (.agg b.cs)).run Try.prog w = .ok (.bool (a.eq b)) w := by
  rw [run_eql_struct, eqMsg]
  rfl
theorem neqM (a b : Mg) (w : World) : (binOp .neq 43 (.agg a.cs) (.agg b.cs)).run Try.prog w = .ok (.bool (!(a.eq b))) w := by
  rw [run_neq_struct, eqMsg]
  rfl
theorem ldO (x : Value) : Instr.loadAt 48 x = ldS 48 x := rfl
theorem RvAt.old {W : World} {b : Nat} {r : Ot} (hb : RvAt W b 48 r.cs) : (ldS 48 (.pointer (some ⟨b, 0, none⟩))).run Try.prog W = .ok (.agg r.cs) W := hb.ld rtO (by rw [Row.csize, lenO])
attribute [local go_sem ↓] ldO eqgO neqO
set_option maxHeartbeats 4000000 in
theorem souts_any (u : Option Ot) (v v' : Value) (w : World) (h : OutAt w v u) (h' : OutAt w v' u) :
    Calls Try.prog 13 #[v, v'] w fun r w' => r = .returned (.bool true) ∧ Below w.heap.size w w' := by
  cases u with
  | none =>
    have e : v = .slice none 0 0 := h
    have e' : v' = .slice none 0 0 := h'
    subst e
    subst e'
    go_enter Try.func13, Try.ntmps13
    go_wp2_with fail
    go_rounds 1
    go_ret
    exact ⟨rfl, Below.refl _ _⟩
  | some r =>
    obtain ⟨b, rfl, hr⟩ := h
    obtain ⟨b', rfl, hr'⟩ := h'
    have f1 := fun q : Later w => (hr.below q.below).old
    have f2 := fun q : Later w => (hr'.below q.below).old
    have ee : r.eq r = true := Row.eq_self r
    clear hr hr'
    go_enter Try.func13, Try.ntmps13
    go_wp2_with fail
    refine wp_loop_rounds 2 ?_
    rw [rounds_succ]
    go_wp2_with fail
    refine wp_region_later (by kernel_rfl) (by kernel_rfl) ?_
    repeat (go_big_quiet_step (first | exact rfl))
    refine wpQuiet_nil ?_
    rintro _ ⟨z, rfl⟩
    have F : Hid (Below w.heap.size w z.val) := z.below
    clear f1 f2
    go_wp2_with fail
    rw [rounds_succ]
    go_wp2
    go_ret
    exact ⟨rfl, F.out⟩
end Go.Proofs.Ytllmadgonobdnaa
