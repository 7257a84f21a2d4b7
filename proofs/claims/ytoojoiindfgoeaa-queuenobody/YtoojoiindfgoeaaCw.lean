/-
  Communication within a walk, in a frame that is an ordinary call's: walks of pieces of code that send, receive and select. Plain laws of the machine of one.
-/
import Derived.Conc.LoneSelect
import Derived.Conc.LoneSelectN
import Derived.RowKit
namespace Go.Proofs.Ytoojoiindfgoeaa
set_option linter.unusedVariables false
open Go.RowKit Go.Conc

/-- A piece of code, where the call is an ordinary one. -/
def Wn (P : Program) (c : Code) (Q : Exit → Act → World → Prop) (a : Act) (w : World) : Prop :=
  ∀ (b : Frame) (k : List Item) (cs : List Frame), b.kind = .normal → ∃ e a' w', Q e a' w' ∧ Arrives P (lone (b.at a (.code c :: k)) cs w) b k cs e a' w'
/-- The rest of a region, likewise. -/
def On (P : Program) (ops : Array Oper) (Q : Exit → Act → World → Prop) (l : List Nat) (a : Act) (w : World) : Prop :=
  ∀ (b : Frame) (k : List Item) (cs : List Frame), b.kind = .normal → ∃ e a' w', Q e a' w' ∧ Arrives P (lone (b.at a (.inRegion ops l :: k)) cs w) b k cs e a' w'
section
variable {P : Program} {Q : Exit → Act → World → Prop} {a : Act} {w : World}
theorem Wn.of {c : Code} (h : c.wp P Q a w) : Wn P c Q a w := fun b k cs _ => h b k cs
theorem Wn.mono {c : Code} {Q' : Exit → Act → World → Prop} (h : Wn P c Q a w) (hq : ∀ e a w, Q e a w → Q' e a w) : Wn P c Q' a w :=
  fun b k cs hb => by
    obtain ⟨e, a', w', q, r⟩ := h b k cs hb
    exact ⟨e, a', w', hq _ _ _ q, r⟩
theorem arr_pass {m : Machine} {b : Frame} {x : Item} {k : List Item} {cs : List Frame} {e : Exit} {a : Act} {w : World} (hx : x.plain = true) (he : e ≠ .normal) (h : Arrives P m b (x :: k) cs e a w) : Arrives P m b k cs e a w :=
  h.pass hx fun _ _ => .inl he
/-- One piece behind another. -/
theorem Wn.seq {x y : Code} (h : Wn P x (Exit.then (Wn P y Q) Q) a w) : Wn P (.seq x y) Q a w := by
  intro b k cs hb
  obtain ⟨e, a₁, w₁, hq, har⟩ := h b (.code y :: k) cs hb
  by_cases hn : e = .normal
  · subst hn
    obtain ⟨e₂, a₂, w₂, hq₂, h₂⟩ := hq b k cs hb
    exact ⟨e₂, a₂, w₂, hq₂, .of_steps (.head step_seq har) h₂⟩
  · refine ⟨e, a₁, w₁, ?_, .of_steps (.one step_seq) (arr_pass rfl hn har)⟩
    cases e <;> first | exact absurd rfl hn | exact hq
/-- .. the first by the walk of the kit. -/
theorem Wn.seqK {x y : Code} (h : ∀ K : Act → World → Prop, (∀ a w, Wn P y Q a w → K a w) → x.wp P (Exit.then K Q) a w) : Wn P (.seq x y) Q a w :=
  .seq (.of (h _ fun _ _ h => h))
theorem Wn.seqN {x y : Code} (h : ∀ K : Act → World → Prop, (∀ a w, Wn P y Q a w → K a w) → Wn P x (Exit.then K Q) a w) : Wn P (.seq x y) Q a w :=
  .seq (h _ fun _ _ h => h)
theorem Wn.cond {c : Operand} {x y : Code} {t : Bool} (hc : a.eval c = .bool t) (h : Wn P (if t then x else y) Q a w) : Wn P (.cond c x y) Q a w :=
  fun b k cs hb => by
    obtain ⟨e, a', w', q, r⟩ := h b k cs hb
    exact ⟨e, a', w', q, .of_steps (.one (step_cond hc)) r⟩
theorem Wn.block {id : Nat} {c : Code} (h : Wn P c (Exit.inBlock id Q) a w) : Wn P (.block id c) Q a w := by
  intro b k cs hb
  obtain ⟨e, a₁, w₁, hq, har⟩ := h b (.inBlock id :: k) cs hb
  cases e with
  | normal => exact ⟨.normal, a₁, w₁, hq, .head step_block (Steps.trans har (.one step_inBlock))⟩
  | exit j =>
    by_cases hj : j = id
    · simp only [Exit.inBlock, hj, if_true] at hq
      exact ⟨.normal, a₁, w₁, hq, .head step_block (har k (by simp [exitTo, hj]))⟩
    · simp only [Exit.inBlock, hj, if_false] at hq
      have hji : (id == j) = false := by simp; exact fun e => hj e.symm
      exact ⟨.exit j, a₁, w₁, hq, fun k' hk => .head step_block (har k' (by simp [exitTo, hji, hk]))⟩
  | goto l => exact ⟨_, a₁, w₁, hq, fun k' hk => .head step_block (har k' (by simp [gotoIn, hk]))⟩
  | ret => exact ⟨_, a₁, w₁, hq, .of_steps (.one step_block) har⟩
  | panic ch => exact ⟨_, a₁, w₁, hq, .of_steps (.one step_block) har⟩
  | outgrown => exact ⟨_, a₁, w₁, hq, .of_steps (b := b) (k := k) (cs := cs) (e := .outgrown) (.one step_block) har⟩
/-- Rounds, with what holds ahead of each and a measure. -/
theorem Wn.loop {c : Code} (I : Act → World → Prop) (μ : Act → World → Nat) (h₀ : I a w) (round : ∀ a w, I a w → Wn P c (Exit.then (fun a' w' => I a' w' ∧ μ a' w' < μ a w) Q) a w) : Wn P (.loop c) Q a w := by
  intro b k cs hb
  have key : ∀ n a w, μ a w = n → I a w → ∃ e a' w', Q e a' w' ∧ Arrives P (lone (b.at a (.code c :: .inLoop c :: k)) cs w) b k cs e a' w' := by
    intro n
    induction n using Nat.strongRecOn with
    | _ n ih =>
      intro a w hn hI
      obtain ⟨e, a₁, w₁, hq, har⟩ := round a w hI b (.inLoop c :: k) cs hb
      by_cases he : e = .normal
      · subst he
        obtain ⟨hI₁, hlt⟩ := hq
        obtain ⟨e₂, a₂, w₂, hq₂, h₂⟩ := ih (μ a₁ w₁) (hn ▸ hlt) a₁ w₁ rfl hI₁
        exact ⟨e₂, a₂, w₂, hq₂, .of_steps (Steps.trans har (.one step_inLoop)) h₂⟩
      · refine ⟨e, a₁, w₁, ?_, arr_pass rfl he har⟩
        cases e <;> first | exact absurd rfl he | exact hq
  obtain ⟨e, a', w', hq, har⟩ := key _ a w rfl h₀
  exact ⟨e, a', w', hq, .of_steps (.one step_loop) har⟩
/-! ### regions -/
theorem Wn.region {id : Nat} {ops : Array Oper} (h : On P ops Q (List.range ops.size) a w) : Wn P (.region id ops false) Q a w :=
  fun b k cs hb => by
    obtain ⟨e, a', w', q, r⟩ := h b k cs hb
    exact ⟨e, a', w', q, .of_steps (.one step_region) r⟩
theorem On.of {ops : Array Oper} {l : List Nat} (h : wpOps P ops Q l a w) : On P ops Q l a w := fun b k cs _ => wp_ops l a w h b k cs
theorem On.fin {ops : Array Oper} (h : Q .normal a w) : On P ops Q [] a w := .of h
theorem On.nil {ops : Array Oper} {K : Act → World → Prop} (h : K a w) : On P ops (Exit.then K Q) [] a w := .of (show wpOps P ops (Exit.then K Q) [] a w from h)
/-- A step of the machine takes the region's next operation. -/
theorem On.step {ops : Array Oper} {i : Nat} {rest : List Nat} {a' : Act} {w' : World} (hs : ∀ (b : Frame) (k : List Item) (cs : List Frame), b.kind = .normal → Go.step P (lone (b.at a (.inRegion ops (i :: rest) :: k)) cs w) = .next (lone (b.at a' (.inRegion ops rest :: k)) cs w')) (h : On P ops Q rest a' w') : On P ops Q (i :: rest) a w :=
  fun b k cs hb => by
    obtain ⟨e, a₂, w₂, q, r⟩ := h b k cs hb
    exact ⟨e, a₂, w₂, q, .of_steps (.one (hs b k cs hb)) r⟩
/-- What an operation that is no call yields. -/
def Oper.gives (o : Oper) (a : Act) (K : Act → World → Prop) : Result Next → Prop
  | .ok (.value v) w' => K (a.put o.dst v) w'
  | _ => False
theorem On.op {ops : Array Oper} {i : Nat} {rest : List Nat} {o : Oper} (ho : ops[i]? = some o) (hw : Region.wanted o (yielded ops a.tmps) = true) (h : Oper.gives o a (On P ops Q rest) ((execOp a.eval o).run P w)) : On P ops Q (i :: rest) a w := by
  unfold Oper.gives at h
  split at h
  · rename_i v w' hr
    refine On.step (fun b k cs _ => step_lone_go ?_) h
    rw [stepG_op ho hw]
    have hf := Frame.finish_at b a ops i rest k v
    rw [ho] at hf
    simp only [Option.bind_some] at hf
    rw [← hf]
    simp [stepG.apply, hr]
  · exact h.elim
theorem On.skip {ops : Array Oper} {i : Nat} {rest : List Nat} {o : Oper} (ho : ops[i]? = some o) (hw : Region.wanted o (yielded ops a.tmps) = false) (h : On P ops Q rest (a.put o.dst undef) w) : On P ops Q (i :: rest) a w :=
  On.step (fun b k cs _ => by
    have hs := step_op_skip (P := P) (b := b) (a := a) (k := k) (cs := cs) (w := w) (ops := ops) (i := i) (rest := rest) (by simp [ho, hw])
    rw [ho] at hs
    exact hs) h
/-! ### sending, receiving, selecting -/
section
variable {ops : Array Oper} {i : Nat} {rest : List Nat} {o : Oper} {w₁ : World} {c cap s r : Nat} {buf : Array Value} {z v : Value} {tm closed : Bool}
theorem nearly {b : Frame} (hb : b.kind = .normal) : b.kind ≠ .early := by rw [hb]; simp
theorem fin_at {b : Frame} {k : List Item} {v : Value} (ho : ops[i]? = some o) : (b.at a (.inRegion ops (i :: rest) :: k)).finish v = b.at (a.put o.dst v) (.inRegion ops rest :: k) := by
  have hf := Frame.finish_at b a ops i rest k v
  rw [ho] at hf
  exact hf
/-- A send with room. -/
theorem On.send (ho : ops[i]? = some o) (hw : Region.wanted o (yielded ops a.tmps) = true) (hr : (execOp a.eval o).run P w = .ok (.comm #[scase c v z] true .send) w₁) (hc : w₁.heap[c]? = some (.chan cap buf false s r tm)) (hroom : buf.size < cap)
    (h : On P ops Q rest (a.put o.dst undef) (w₁.setChan c cap (buf.push v) false (s + 1) r tm)) : On P ops Q (i :: rest) a w :=
  On.step (fun b k cs hb => by
    have := step_lone_send_room (cs := cs) (stepG_comm (P := P) (b := b) (k := k) (cs := cs) (main := true) (rest := rest) ho hw (nearly hb) hr) hc hroom
    rw [fin_at ho] at this
    exact this) h
/-- A receive from a buffer that holds something. -/
theorem On.recv (ok : Bool) (ho : ops[i]? = some o) (hw : Region.wanted o (yielded ops a.tmps) = true) (hr : (execOp a.eval o).run P w = .ok (.comm #[rcase c z] true (.recv ok)) w₁) (hc : w₁.heap[c]? = some (.chan cap buf closed s r tm)) (hsome : 0 < buf.size)
    (h : On P ops Q rest (a.put o.dst (got ok (buf.getD 0 undef) true)) (w₁.setChan c cap (buf.extract 1 buf.size) closed s (r + 1) tm)) : On P ops Q (i :: rest) a w :=
  On.step (fun b k cs hb => by
    have := step_lone_recv_buf ok (cs := cs) (stepG_comm (P := P) (b := b) (k := k) (cs := cs) (main := true) (rest := rest) ho hw (nearly hb) hr) hc hsome
    rw [fin_at ho] at this
    exact this) h
/-- A select of one send and a default: there is room. -/
theorem On.selPut (ho : ops[i]? = some o) (hw : Region.wanted o (yielded ops a.tmps) = true) (hr : (execOp a.eval o).run P w = .ok (.comm #[scase c v z] false .select) w₁) (hc : w₁.heap[c]? = some (.chan cap buf false s r tm)) (hroom : buf.size < cap)
    (h : On P ops Q rest (a.put o.dst (.tuple #[goInt 0, .bool false])) (w₁.setChan c cap (buf.push v) false (s + 1) r tm)) : On P ops Q (i :: rest) a w :=
  On.step (fun b k cs hb => by
    have := step_lone_select_send_room (cs := cs) (stepG_comm (P := P) (b := b) (k := k) (cs := cs) (main := true) (rest := rest) ho hw (nearly hb) hr) hc hroom
    rw [fin_at ho] at this
    exact this) h
/-- .. there is none. -/
theorem On.selFull (ho : ops[i]? = some o) (hw : Region.wanted o (yielded ops a.tmps) = true) (hr : (execOp a.eval o).run P w = .ok (.comm #[scase c v z] false .select) w₁) (hc : w₁.heap[c]? = some (.chan cap buf false s r tm)) (hfull : cap ≤ buf.size)
    (h : On P ops Q rest (a.put o.dst (.tuple #[goInt (-1), .bool false])) w₁) : On P ops Q (i :: rest) a w :=
  On.step (fun b k cs hb => by
    have := step_lone_select_send_full (cs := cs) (stepG_comm (P := P) (b := b) (k := k) (cs := cs) (main := true) (rest := rest) ho hw (nearly hb) hr) hc hfull
    rw [fin_at ho] at this
    exact this) h
/-- A select of one receive and a default: something waits. -/
theorem On.selTake (ho : ops[i]? = some o) (hw : Region.wanted o (yielded ops a.tmps) = true) (hr : (execOp a.eval o).run P w = .ok (.comm #[rcase c z] false .select) w₁) (hc : w₁.heap[c]? = some (.chan cap buf closed s r tm)) (hsome : 0 < buf.size)
    (h : On P ops Q rest (a.put o.dst (.tuple #[goInt 0, .bool true, buf.getD 0 undef])) (w₁.setChan c cap (buf.extract 1 buf.size) closed s (r + 1) tm)) : On P ops Q (i :: rest) a w :=
  On.step (fun b k cs hb => by
    have := step_lone_select_recv_buf (cs := cs) (stepG_comm (P := P) (b := b) (k := k) (cs := cs) (main := true) (rest := rest) ho hw (nearly hb) hr) hc hsome
    rw [fin_at ho] at this
    exact this) h
/-- .. nothing does. -/
theorem On.selNone (ho : ops[i]? = some o) (hw : Region.wanted o (yielded ops a.tmps) = true) (hr : (execOp a.eval o).run P w = .ok (.comm #[rcase c z] false .select) w₁) (hc : w₁.heap[c]? = some (.chan cap #[] false s r tm))
    (h : On P ops Q rest (a.put o.dst (.tuple #[goInt (-1), .bool false, z])) w₁) : On P ops Q (i :: rest) a w :=
  On.step (fun b k cs hb => by
    have := step_lone_select_default (cs := cs) (stepG_comm (P := P) (b := b) (k := k) (cs := cs) (main := true) (rest := rest) ho hw (nearly hb) hr) hc
    rw [fin_at ho] at this
    exact this) h
end
/-- A call whose body communicates. -/
theorem calls_of_Wn {f : FuncId} {fn : Func} {c : Code} {args : Array Value} {R : Ending → World → Prop} (hf : P.funcs[f]? = some fn) (hb : fn.body = some c)
    (h : Wn P c (bodyPost P fn R) { tmps := args ++ Array.replicate (fn.ntmps - args.size) undef, defers := [] } w) : Calls P f args w R := by
  intro cs
  let b : Frame := { (default : Frame) with fn := f, kind := .normal }
  have hen : Frame.enter P f args .normal = b.at { tmps := args ++ Array.replicate (fn.ntmps - args.size) undef, defers := [] } [.code c] := by simp [Frame.enter, Frame.at, hf, hb, b]
  obtain ⟨e, a', w', hq, har⟩ := h b [] cs rfl
  rw [← hen] at har
  cases e with
  | normal =>
    obtain ⟨hd, v, hr, hR⟩ := hq
    exact ⟨.returned v, w', _, hR, Steps.trans har (.one step_end), rfl, rfl, hd, rfl, fn, hf, hr⟩
  | ret =>
    obtain ⟨hd, v, hr, hR⟩ := hq
    obtain ⟨todo, hs⟩ := har
    exact ⟨.returned v, w', _, hR, hs, rfl, rfl, hd, rfl, fn, hf, hr⟩
  | panic chain =>
    obtain ⟨hd, hR⟩ := hq
    obtain ⟨todo, hs⟩ := har
    exact ⟨.panicked chain, w', _, hR, hs, rfl, rfl, hd, fn, hf⟩
  | exit id => exact hq.elim
  | goto l => exact hq.elim
  | outgrown => exact ⟨.outgrown, w', b, hq, har.resolve_left (by simp [b]), rfl, trivial⟩
end
end Go.Proofs.Ytoojoiindfgoeaa
