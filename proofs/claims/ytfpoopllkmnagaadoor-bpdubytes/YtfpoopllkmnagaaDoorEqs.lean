/-
  Messages and addresses held against each other. Plain laws over the program's types.
-/
import Derived.Test.YtfpoopllkmnagaaDoorPure
namespace Go.Proofs.YtfpoopllkmnagaaDoor
set_option linter.unusedVariables false
set_option maxRecDepth 4000
set_option linter.unusedSimpArgs false
open Go.RowKit

/-- Messages, addresses, vectors, times held against each other. -/
def eqP (x y : Value) : Sem Value := binOp .eql 32 x y
theorem eqP_eq (x y : Value) : binOp .eql 32 x y = eqP x y := rfl
def nqP (x y : Value) : Sem Value := binOp .neq 32 x y
theorem nqP_eq (x y : Value) : binOp .neq 32 x y = nqP x y := rfl
def eqM (x y : Value) : Sem Value := binOp .eql 49 x y
theorem eqM_eq (x y : Value) : binOp .eql 49 x y = eqM x y := rfl
def nqM (x y : Value) : Sem Value := binOp .neq 49 x y
theorem nqM_eq (x y : Value) : binOp .neq 49 x y = nqM x y := rfl
def nqV (x y : Value) : Sem Value := binOp .neq 28 x y
theorem nqV_eq (x y : Value) : binOp .neq 28 x y = nqV x y := rfl
def nqT (x y : Value) : Sem Value := binOp .neq 30 x y
theorem nqT_eq (x y : Value) : binOp .neq 30 x y = nqT x y := rfl

theorem nqV_any (m : Bp) (w : World) : (nqV m.vv (.agg #[.int .u64 0, .int .u32 0, .int .u64 0, .int .u16 0])).run Tryd.prog w = .ok (.bool (!decide (m.rt = 0 ∧ m.co = 0 ∧ m.br = 0 ∧ m.po = 0))) w := by
  unfold nqV Bp.vv
  go_simp
  by_cases h1 : m.rt = 0 <;> by_cases h2 : m.co = 0 <;> by_cases h3 : m.br = 0 <;> by_cases h4 : m.po = 0 <;> simp [h1, h2, h3, h4]
theorem nqT_any (m : Bp) (w : World) : (nqT m.tv (.agg #[.int .u8 0, .int .u8 0, .int .u8 0, .int .u8 0])).run Tryd.prog w = .ok (.bool (!decide (m.a = 0 ∧ m.x = 0 ∧ m.h = 0 ∧ m.d = 0))) w := by
  unfold nqT Bp.tv
  go_simp
  by_cases h1 : m.a = 0 <;> by_cases h2 : m.x = 0 <;> by_cases h3 : m.h = 0 <;> by_cases h4 : m.d = 0 <;> simp [h1, h2, h3, h4]

/-- Are messages the same? Addresses? -/
def Bp.same (m n : Bp) : Bool := decide (m.k = n.k ∧ m.tc = n.tc ∧ m.ak = n.ak ∧ m.pr = n.pr ∧ m.le = n.le ∧ m.fo = n.fo ∧ m.ag = n.ag ∧ m.ro = n.ro ∧ m.rt = n.rt ∧ m.co = n.co ∧ m.br = n.br ∧ m.po = n.po ∧ m.a = n.a ∧ m.x = n.x ∧ m.h = n.h ∧ m.d = n.d)
theorem Bp.same_self (m : Bp) : m.same m = true := by simp [Bp.same]
theorem Bp.same_eq {m n : Bp} (h : m.same n = true) : m = n := by
  obtain ⟨k, tc, ak, pr, le, fo, ag, ro, rt, co, br, po, a, x, h', d⟩ := m
  simp only [Bp.same, decide_eq_true_eq] at h
  obtain ⟨rfl, rfl, rfl, rfl, rfl, rfl, rfl, rfl, rfl, rfl, rfl, rfl, rfl, rfl, rfl, rfl⟩ := h
  rfl
def M6.same (m n : M6) : Bool := eq6 m.a m.b m.c m.d m.e m.f n.a n.b n.c n.d n.e n.f
theorem M6.same_self (m : M6) : m.same m = true := eq6_self _ _ _ _ _ _
theorem eqM_mac (m n : M6) (w : World) : (eqM m.v n.v).run Tryd.prog w = .ok (.bool (m.same n)) w := by
  unfold eqM M6.v M6.same
  go_simp
theorem nqM_mac (m n : M6) (w : World) : (nqM m.v n.v).run Tryd.prog w = .ok (.bool (!m.same n)) w := by
  unfold nqM M6.v M6.same
  go_simp

set_option maxHeartbeats 1000000 in
theorem equal32 (m n : Bp) (w : World) : (Op.equalIn 10000 32 (.agg m.cs) (.agg n.cs)).run Tryd.prog w = .ok (m.same n) w := by
  obtain ⟨k, tc, ak, pr, le, fo, ag, ro, rt, co, br, po, a, x, h', d⟩ := m
  obtain ⟨k', tc', ak', pr', le', fo', ag', ro', rt', co', br', po', a', x', h'', d'⟩ := n
  unfold Bp.cs Bp.same
  go_simp
  by_cases h1 : k = k' <;> simp [h1]
  by_cases h2 : tc = tc' <;> simp [h2]
  by_cases h3 : ak = ak' <;> simp [h3]
  by_cases h4 : pr = pr' <;> simp [h4]
  by_cases h5 : le = le' <;> simp [h5]
  by_cases h6 : fo = fo' <;> simp [h6]
  by_cases h7 : ag = ag' <;> simp [h7]
  by_cases h8 : ro = ro' <;> simp [h8]
  by_cases h9 : rt = rt'
  rotate_left
  · simp [h9]
    try omega
  simp [h9]
  by_cases h10 : co = co'
  rotate_left
  · simp [h10]
    try omega
  simp [h10]
  by_cases h11 : br = br'
  rotate_left
  · simp [h11]
    try omega
  simp [h11]
  by_cases h12 : po = po'
  rotate_left
  · simp [h12]
    try omega
  simp [h12]
  by_cases h13 : a = a'
  rotate_left
  · simp [h13]
    try omega
  simp [h13]
  by_cases h14 : x = x'
  rotate_left
  · simp [h14]
    try omega
  simp [h14]
  by_cases h15 : h' = h''
  rotate_left
  · simp [h15]
    try omega
  simp [h15]
  by_cases h16 : d = d'
  rotate_left
  · simp [h16]
    try omega
  simp [h16]
attribute [local go_sem ↓] equal32
theorem eqP_any (m n : Bp) (w : World) : (eqP (.agg m.cs) (.agg n.cs)).run Tryd.prog w = .ok (.bool (m.same n)) w := by
  unfold eqP
  go_simp
theorem nqP_any (m n : Bp) (w : World) : (nqP (.agg m.cs) (.agg n.cs)).run Tryd.prog w = .ok (.bool (!m.same n)) w := by
  unfold nqP
  go_simp
theorem guard_p (op : BinOp) (x y : Operand) (cs ds : Array Value) (w : World) : (eqGuard op 32 x y (.agg cs) (.agg ds)).run Tryd.prog w = .ok () w := run_eqGuard_agg w op 32 x y _ _ Tryd.eqGuardType32
theorem guard_m (op : BinOp) (x y : Operand) (m n : M6) (w : World) : (eqGuard op 49 x y m.v n.v).run Tryd.prog w = .ok () w := run_eqGuard_agg w op 49 x y _ _ Tryd.eqGuardType49
theorem guard_v (op : BinOp) (x y : Operand) (m : Bp) (cs : Array Value) (w : World) : (eqGuard op 28 x y m.vv (.agg cs)).run Tryd.prog w = .ok () w := run_eqGuard_agg w op 28 x y _ _ Tryd.eqGuardType28
theorem guard_t (op : BinOp) (x y : Operand) (m : Bp) (cs : Array Value) (w : World) : (eqGuard op 30 x y m.tv (.agg cs)).run Tryd.prog w = .ok () w := run_eqGuard_agg w op 30 x y _ _ Tryd.eqGuardType30
end Go.Proofs.YtfpoopllkmnagaaDoor
