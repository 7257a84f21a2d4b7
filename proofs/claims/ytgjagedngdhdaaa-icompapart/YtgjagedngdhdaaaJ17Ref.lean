/-
  Why a command is refused: walks of the code, each for every input. A drawn region one of whose operations (the first that stores) writes what others read: what they read is asked to hold till it has come up, and no longer. Plain laws. A command as it lies in memory: its variable, its parts. Plain laws over the program's types.
-/
import Derived.Test.YtgjagedngdhdaaaJ05Mor
import Derived.Test.YtgjagedngdhdaaaJ00Later
import Derived.Test.YtgjagedngdhdaaaJ01Sq
import Derived.Deep.RegionHeld3
import Derived.Test.YtgjagedngdhdaaaJ06Put
namespace Go.Proofs.Ytgjagedngdhdaaa

section
set_option linter.unusedVariables false
set_option maxRecDepth 4000
set_option linter.unusedSimpArgs false
open Go.RowKit
attribute [local go_sem ↓] ldM stM ldC stC ldB stB ldP stP apI bsI
attribute [local go_sem] bsI_is bsI2_is
end

section
set_option linter.unusedVariables false
set_option maxRecDepth 4000
set_option linter.unusedSimpArgs false
open Go.RowKit

section
variable {P : Program} {ops : Array Oper} {Q : Exit → Act → World → Prop} {md : Region.Mode} {S : World → Prop} {z : Nat}
/-- Whatever order is picked: S holds as long as number z has not come up. -/
def AnyZ (P : Program) (md : Region.Mode) (ops : Array Oper) (Q : Exit → Act → World → Prop) (S : World → Prop) (z : Nat) : Nat → Array Bool → Act → World → Prop
  | 0, done, a, w => Region.ready md ops done = [] ∧ Q .normal a w
  | f + 1, done, a, w => (Region.ready md ops done = [] → Q .normal a w) ∧ ∀ i ∈ Region.ready md ops done, wpOp P ops Q i (fun a' w' => ((done.setIfInBounds i true).getD z true = false → S w') ∧ AnyZ P md ops Q S z f (done.setIfInBounds i true) a' w') a w
theorem AnyZ.any : ∀ (f : Nat) (done : Array Bool) (a : Act) (w : World), AnyZ P md ops Q S z f done a w → wpAny P md ops Q f done a w
  | 0, _, _, _, h => h
  | f + 1, _, _, _, h => ⟨h.1, fun i hi => wpOp_mono (fun a' w' h' => AnyZ.any f _ a' w' h'.2) (h.2 i hi)⟩
/-- Does number z wait for number i? -/
def waitsB (md : Region.Mode) (ops : Array Oper) (z i : Nat) : Bool :=
  match ops[z]? with
  | some o => o.after.any (fun e => Region.binds md e && e.on == i)
  | none => false
theorem waits_unready {i : Nat} {done : Array Bool} (hw : waitsB md ops z i = true) (hr : i ∈ Region.ready md ops done) : z ∉ Region.ready md ops done := by
  intro hz
  obtain ⟨_, oz, ho, hall⟩ := mem_ready.1 hz
  unfold waitsB at hw
  rw [ho] at hw
  obtain ⟨e, he, hb⟩ := Array.any_eq_true'.1 hw
  simp only [Bool.and_eq_true, beq_iff_eq] at hb
  have h1 := hall e he hb.1
  have h0 := (mem_ready.1 hr).1
  rw [hb.2] at h1
  rcases Nat.lt_or_ge i done.size with h' | h'
  · simp [h'] at h0 h1
    rw [h0] at h1
    cases h1
  · simp [Array.getElem?_eq_none h'] at h1
/-- An operation for which number z waits, and which yields its value wherever S holds, may be taken first. -/
theorem AnyZ.take {i : Nat} {oi : Oper} {v : Value} (hi : ops[i]? = some oi) (hsel : Region.noSelect ops = true) (hw : waitsB md ops z i = true)
    (hQ : ∀ c a w, Q (.panic c) (a.put oi.dst v) w → Q (.panic c) a w) :
    ∀ (f : Nat) (done : Array Bool) (a : Act) (w : World), Region.free md ops done i = true → (Region.ready md ops done).contains i = true → done.getD z true = false → YieldsIf P ops S oi v a → S w →
      AnyZ P md ops Q S z f (done.setIfInBounds i true) (a.put oi.dst v) w → AnyZ P md ops Q S z (f + 1) done a w := by
  have sel := Region.noSelect_spec hsel
  have core : ∀ (f : Nat) (done : Array Bool) (a : Act) (w : World),
      (∀ j oj, ops[j]? = some oj → j ≠ i → done.getD j true = false → (∀ e ∈ oj.after, Region.binds md e = true → e.on ≠ i) → oi.apart ops oj = true) →
      i ∈ Region.ready md ops done → done.getD z true = false → YieldsIf P ops S oi v a → S w → AnyZ P md ops Q S z f (done.setIfInBounds i true) (a.put oi.dst v) w → AnyZ P md ops Q S z (f + 1) done a w := by
    intro f
    induction f with
    | zero =>
      intro done a w _ hr hz hy hS H
      refine ⟨fun h => (by rw [h] at hr; cases hr), fun j hj => ?_⟩
      by_cases hji : j = i
      · subst hji
        exact hy.wpOp hi hS ⟨fun _ => hS, H⟩
      · have := ready_mono hj hji
        rw [H.1] at this
        cases this
    | succ f ih =>
      intro done a w hfree hr hz hy hS H
      refine ⟨fun h => (by rw [h] at hr; cases hr), fun j hj => ?_⟩
      by_cases hji : j = i
      · subst hji
        exact hy.wpOp hi hS ⟨fun _ => hS, H⟩
      · have hjz : j ≠ z := fun e => waits_unready hw hr (e ▸ hj)
        have hz' : (done.setIfInBounds j true).getD z true = false := by rw [getD_set_ne true hjz]; exact hz
        obtain ⟨hjun, oj, hoj, hall⟩ := mem_ready.1 hj
        have hun := (mem_ready.1 hr).1
        have hnot : ∀ e ∈ oj.after, Region.binds md e = true → e.on ≠ i := fun e he hb heq => by
          have h1 := hall e he hb
          rw [heq, getD_both hun] at h1
          cases h1
        have hiz : i ≠ z := fun e => by
          have := waits_unready hw hr
          rw [← e] at this
          exact this hr
        refine wpOp_mono (fun a' w' h3 => ?_)
          (wpOp_putIf hoj (hfree j oj hoj hji hjun hnot) (fun cs b => sel i oi cs b hi) (fun cs b => sel j oj cs b hoj) hQ hy (H.2 j (ready_mono hj hji)))
        have hS' : S w' := h3.2.1 (by rw [Array.setIfInBounds_comm _ _ (Ne.symm hji), getD_set_ne true hiz]; exact hz')
        refine ⟨fun _ => hS', ih (done.setIfInBounds j true) a' w' (fun k ok hk hki hun' hno => hfree k ok hk hki ?_ hno) (ready_mono hr (Ne.symm hji)) hz' h3.1 hS' ?_⟩
        · by_cases hjk : j = k
          · subst hjk; exact hjun
          · rw [getD_set_ne true hjk] at hun'; exact hun'
        · rw [Array.setIfInBounds_comm _ _ hji]
          exact h3.2.2
  exact fun f done a w hf hr hz hy hS H => core f done a w (Region.free_spec hi hf) (by simpa using hr) hz hy hS H
theorem unready_of {i : Nat} {done : Array Bool} (hw : waitsB md ops z i = true) (h0 : done.getD i true = false) : z ∉ Region.ready md ops done := by
  intro hz
  obtain ⟨_, oz, ho, hall⟩ := mem_ready.1 hz
  unfold waitsB at hw
  rw [ho] at hw
  obtain ⟨e, he, hb⟩ := Array.any_eq_true'.1 hw
  simp only [Bool.and_eq_true, beq_iff_eq] at hb
  have h1 := hall e he hb.1
  rw [hb.2] at h1
  rcases Nat.lt_or_ge i done.size with h' | h'
  · simp [h'] at h0 h1
    rw [h0] at h1
    cases h1
  · simp [Array.getElem?_eq_none h'] at h1
/-- .. for which another waits, for which number z waits, and which yields its value wherever S holds, may be taken first. -/
theorem AnyZ.take2 {i m : Nat} {oi : Oper} {v : Value} (hi : ops[i]? = some oi) (hsel : Region.noSelect ops = true) (hzm : waitsB md ops z m = true) (hmi : waitsB md ops m i = true)
    (hQ : ∀ c a w, Q (.panic c) (a.put oi.dst v) w → Q (.panic c) a w) :
    ∀ (f : Nat) (done : Array Bool) (a : Act) (w : World), Region.free md ops done i = true → (Region.ready md ops done).contains i = true → done.getD z true = false → done.getD m true = false → YieldsIf P ops S oi v a → S w →
      AnyZ P md ops Q S z f (done.setIfInBounds i true) (a.put oi.dst v) w → AnyZ P md ops Q S z (f + 1) done a w := by
  have sel := Region.noSelect_spec hsel
  have core : ∀ (f : Nat) (done : Array Bool) (a : Act) (w : World),
      (∀ j oj, ops[j]? = some oj → j ≠ i → done.getD j true = false → (∀ e ∈ oj.after, Region.binds md e = true → e.on ≠ i) → oi.apart ops oj = true) →
      i ∈ Region.ready md ops done → done.getD z true = false → done.getD m true = false → YieldsIf P ops S oi v a → S w → AnyZ P md ops Q S z f (done.setIfInBounds i true) (a.put oi.dst v) w → AnyZ P md ops Q S z (f + 1) done a w := by
    intro f
    induction f with
    | zero =>
      intro done a w _ hr hz hm hy hS H
      refine ⟨fun h => (by rw [h] at hr; cases hr), fun j hj => ?_⟩
      by_cases hji : j = i
      · subst hji
        exact hy.wpOp hi hS ⟨fun _ => hS, H⟩
      · have := ready_mono hj hji
        rw [H.1] at this
        cases this
    | succ f ih =>
      intro done a w hfree hr hz hm hy hS H
      refine ⟨fun h => (by rw [h] at hr; cases hr), fun j hj => ?_⟩
      by_cases hji : j = i
      · subst hji
        exact hy.wpOp hi hS ⟨fun _ => hS, H⟩
      · have hjm : j ≠ m := fun e => waits_unready hmi hr (e ▸ hj)
        have hnz : z ∉ Region.ready md ops done := unready_of hzm hm
        have hjz : j ≠ z := fun e => hnz (e ▸ hj)
        have hm' : (done.setIfInBounds j true).getD m true = false := by rw [getD_set_ne true hjm]; exact hm
        have hz' : (done.setIfInBounds j true).getD z true = false := by rw [getD_set_ne true hjz]; exact hz
        obtain ⟨hjun, oj, hoj, hall⟩ := mem_ready.1 hj
        have hun := (mem_ready.1 hr).1
        have hnot : ∀ e ∈ oj.after, Region.binds md e = true → e.on ≠ i := fun e he hb heq => by
          have h1 := hall e he hb
          rw [heq, getD_both hun] at h1
          cases h1
        have hiz : i ≠ z := fun e => hnz (e ▸ hr)
        refine wpOp_mono (fun a' w' h3 => ?_)
          (wpOp_putIf hoj (hfree j oj hoj hji hjun hnot) (fun cs b => sel i oi cs b hi) (fun cs b => sel j oj cs b hoj) hQ hy (H.2 j (ready_mono hj hji)))
        have hS' : S w' := h3.2.1 (by rw [Array.setIfInBounds_comm _ _ (Ne.symm hji), getD_set_ne true hiz]; exact hz')
        refine ⟨fun _ => hS', ih (done.setIfInBounds j true) a' w' (fun k ok hk hki hun' hno => hfree k ok hk hki ?_ hno) (ready_mono hr (Ne.symm hji)) hz' hm' h3.1 hS' ?_⟩
        · by_cases hjk : j = k
          · subst hjk; exact hjun
          · rw [getD_set_ne true hjk] at hun'; exact hun'
        · rw [Array.setIfInBounds_comm _ _ hji]
          exact h3.2.2
  exact fun f done a w hf hr hz hm hy hS H => core f done a w (Region.free_spec hi hf) (by simpa using hr) hz hm hy hS H
/-- .. or one that yields its value in every world. -/
theorem AnyZ.takeT {i : Nat} {oi : Oper} {v : Value} (hi : ops[i]? = some oi) (hsel : Region.noSelect ops = true) (hzi : i ≠ z)
    (hQ : ∀ c a w, Q (.panic c) (a.put oi.dst v) w → Q (.panic c) a w) :
    ∀ (f : Nat) (done : Array Bool) (a : Act) (w : World), Region.free md ops done i = true → (Region.ready md ops done).contains i = true → YieldsIf P ops (fun _ => True) oi v a → (done.getD z true = false → S w) →
      AnyZ P md ops Q S z f (done.setIfInBounds i true) (a.put oi.dst v) w → AnyZ P md ops Q S z (f + 1) done a w := by
  have sel := Region.noSelect_spec hsel
  have core : ∀ (f : Nat) (done : Array Bool) (a : Act) (w : World),
      (∀ j oj, ops[j]? = some oj → j ≠ i → done.getD j true = false → (∀ e ∈ oj.after, Region.binds md e = true → e.on ≠ i) → oi.apart ops oj = true) →
      i ∈ Region.ready md ops done → YieldsIf P ops (fun _ => True) oi v a → (done.getD z true = false → S w) → AnyZ P md ops Q S z f (done.setIfInBounds i true) (a.put oi.dst v) w → AnyZ P md ops Q S z (f + 1) done a w := by
    intro f
    induction f with
    | zero =>
      intro done a w _ hr hy hS H
      refine ⟨fun h => (by rw [h] at hr; cases hr), fun j hj => ?_⟩
      by_cases hji : j = i
      · subst hji
        exact hy.wpOp hi trivial ⟨fun e => hS (by rw [getD_set_ne true hzi] at e; exact e), H⟩
      · have := ready_mono hj hji
        rw [H.1] at this
        cases this
    | succ f ih =>
      intro done a w hfree hr hy hS H
      refine ⟨fun h => (by rw [h] at hr; cases hr), fun j hj => ?_⟩
      by_cases hji : j = i
      · subst hji
        exact hy.wpOp hi trivial ⟨fun e => hS (by rw [getD_set_ne true hzi] at e; exact e), H⟩
      · obtain ⟨hjun, oj, hoj, hall⟩ := mem_ready.1 hj
        have hun := (mem_ready.1 hr).1
        have hnot : ∀ e ∈ oj.after, Region.binds md e = true → e.on ≠ i := fun e he hb heq => by
          have h1 := hall e he hb
          rw [heq, getD_both hun] at h1
          cases h1
        refine wpOp_mono (fun a' w' h3 => ?_)
          (wpOp_putIf hoj (hfree j oj hoj hji hjun hnot) (fun cs b => sel i oi cs b hi) (fun cs b => sel j oj cs b hoj) hQ hy (H.2 j (ready_mono hj hji)))
        have hS' : (done.setIfInBounds j true).getD z true = false → S w' := fun e => h3.2.1 (by rw [Array.setIfInBounds_comm _ _ (Ne.symm hji), getD_set_ne true hzi]; exact e)
        refine ⟨hS', ih (done.setIfInBounds j true) a' w' (fun k ok hk hki hun' hno => hfree k ok hk hki ?_ hno) (ready_mono hr (Ne.symm hji)) h3.1 hS' ?_⟩
        · by_cases hjk : j = k
          · subst hjk; exact hjun
          · rw [getD_set_ne true hjk] at hun'; exact hun'
        · rw [Array.setIfInBounds_comm _ _ hji]
          exact h3.2.2
  exact fun f done a w hf hr hy hS H => core f done a w (Region.free_spec hi hf) (by simpa using hr) hy hS H
/-- The one operation that is ready, ahead of number z. -/
theorem AnyZ.step {f i : Nat} {o : Oper} {done : Array Bool} {a : Act} {w : World} (hr : Region.ready md ops done = [i]) (ho : ops[i]? = some o)
    (h : ∀ K' : Act → World → Prop, Hid (∀ a w, S w → (S w → AnyZ P md ops Q S z f (done.setIfInBounds i true) a w) → K' a w) → if Region.wanted o (yielded ops a.tmps) = true then Oper.wp P o a w K' Q else K' (a.put o.dst undef) w) : AnyZ P md ops Q S z (f + 1) done a w := by
  refine ⟨fun h0 => (by rw [hr] at h0; cases h0), fun j hj => ?_⟩
  rw [hr, List.mem_singleton] at hj
  subst hj
  exact wpOp_step ho (fun K' hK => h K' (show ∀ a w, _ from fun a w hS hW => hK a w ⟨fun _ => hS, hW hS⟩))
/-- .. number z, or behind it. -/
theorem AnyZ.stepF {f i : Nat} {o : Oper} {done : Array Bool} {a : Act} {w : World} (hr : Region.ready md ops done = [i]) (ho : ops[i]? = some o) (hz : (done.setIfInBounds i true).getD z true = true)
    (h : ∀ K' : Act → World → Prop, Hid (∀ a w, AnyZ P md ops Q S z f (done.setIfInBounds i true) a w → K' a w) → if Region.wanted o (yielded ops a.tmps) = true then Oper.wp P o a w K' Q else K' (a.put o.dst undef) w) : AnyZ P md ops Q S z (f + 1) done a w := by
  refine ⟨fun h0 => (by rw [hr] at h0; cases h0), fun j hj => ?_⟩
  rw [hr, List.mem_singleton] at hj
  subst hj
  exact wpOp_step ho (fun K' hK => h K' (show ∀ a w, _ from fun a w hW => hK a w ⟨fun e => (by rw [hz] at e; cases e), hW⟩))
/-- Two are ready, ahead of number z. -/
theorem AnyZ.two {f i j : Nat} {o u : Oper} {done : Array Bool} {a : Act} {w : World} (hr : Region.ready md ops done = [i, j]) (ho : ops[i]? = some o) (hu : ops[j]? = some u)
    (h : ∀ K' : Act → World → Prop, Hid (∀ a w, S w → (S w → AnyZ P md ops Q S z f (done.setIfInBounds i true) a w) → K' a w) → if Region.wanted o (yielded ops a.tmps) = true then Oper.wp P o a w K' Q else K' (a.put o.dst undef) w)
    (g : ∀ K' : Act → World → Prop, Hid (∀ a w, S w → (S w → AnyZ P md ops Q S z f (done.setIfInBounds j true) a w) → K' a w) → if Region.wanted u (yielded ops a.tmps) = true then Oper.wp P u a w K' Q else K' (a.put u.dst undef) w) : AnyZ P md ops Q S z (f + 1) done a w := by
  refine ⟨fun h0 => (by rw [hr] at h0; cases h0), fun k hk => ?_⟩
  rw [hr] at hk
  rcases List.mem_cons.1 hk with rfl | hk
  · exact wpOp_step ho (fun K' hK => h K' (show ∀ a w, _ from fun a w hS hW => hK a w ⟨fun _ => hS, hW hS⟩))
  · rw [List.mem_singleton] at hk
    subst hk
    exact wpOp_step hu (fun K' hK => g K' (show ∀ a w, _ from fun a w hS hW => hK a w ⟨fun _ => hS, hW hS⟩))
theorem AnyZ.done {done : Array Bool} {a : Act} {w : World} (hr : Region.ready md ops done = []) (h : Q .normal a w) : ∀ f, AnyZ P md ops Q S z f done a w
  | 0 => ⟨hr, h⟩
  | _ + 1 => ⟨fun _ => h, by rw [hr]; simp⟩
theorem AnyZ.start {id : Nat} {a : Act} {w : World} (hm : P.follows .mixedOrders = true) (hS : S w.drew) (h : S w.drew → AnyZ P .any ops Q S z ops.size (Array.replicate ops.size false) a w.drew) : (Code.region id ops true).wp P Q a w :=
  wp_region_any hm (AnyZ.any _ _ _ _ (h hS))
end
end

section
set_option linter.unusedVariables false
set_option maxRecDepth 4000
set_option linter.unusedSimpArgs false
open Go.RowKit
attribute [local go_sem ↓] ldM stM ldC stC ldB stB ldP stP apI bsI
attribute [local go_sem] bsI_is bsI2_is

/-- What a command has besides. -/
structure Ct where
  v : Int
  a : Int
  b : Int
  c : Int
  d : Int
  e : Int
  f : Int
  p : Int
  st : Bool
  s : Int
  id : Int
  po : Int
  co : Int
/-- A command, as it lies in memory. -/
structure Cm where
  k : Int
  m : Mp
  c : Cr
  b : Mr
  t : Ct
def Cm.cs (x : Cm) : Array Value := #[.int .i64 x.k, .int .i64 x.m.p, .int .i64 x.m.v, .int .i64 x.m.s, .int .i64 x.c.s, .int .i64 x.c.v, .int .i64 x.b.v, .slice x.b.a x.b.n x.b.c, .int .i64 x.t.v, .int .u8 x.t.a, .int .u8 x.t.b, .int .u8 x.t.c, .int .u8 x.t.d, .int .u8 x.t.e, .int .u8 x.t.f, .int .i64 x.t.p, .bool x.t.st, .int .i64 x.t.s, .int .u64 x.t.id, .int .i64 x.t.po, .int .u32 x.t.co]
theorem infoD : (Try.prog.info? 108).map (·.size) = some 21 := by kernel_rfl
theorem rtD : RowTy 108 21 := ⟨infoD, _, Try.underlying108, rfl⟩
theorem ldD (x : Value) : Instr.loadAt 108 x = ldS 108 x := rfl
theorem stD (x y : Value) : Instr.storeAt 108 x y = stS 108 x y := rfl
def CmAt (W : World) (b : Nat) (x : Cm) : Prop := RvAt W b 108 x.cs
theorem CmAt.below {W W' : World} {b : Nat} {x : Cm} (h : CmAt W b x) (hb : Below W.heap.size W W') : CmAt W' b x := RvAt.below h hb
theorem CmAt.keptBut {W W' : World} {b : Nat} {x : Cm} {row : Option Nat} (h : CmAt W b x) (hg : W.grownBy W' row) (hn : some b ≠ row) : CmAt W' b x := RvAt.keptBut h hg hn
theorem CmAt.ld {W : World} {b : Nat} {x : Cm} (h : CmAt W b x) : (ldS 108 (.pointer (some ⟨b, 0, none⟩))).run Try.prog W = .ok (.agg x.cs) W := RvAt.ld rtD h rfl
theorem CmAt.new (W : World) (x : Cm) : ∃ V, W.alloc (.cells x.cs 108) = V ∧ CmAt V W.heap.size x ∧ Below W.heap.size W V ∧ V.heap.size = W.heap.size + 1 := ⟨_, rfl, RvAt.new W _ _, (Below.refl _ _).alloc (Nat.le_refl _) _, by simp⟩
theorem CmAt.k {W : World} {b : Nat} {x : Cm} (h : CmAt W b x) : W.cell? ⟨b, 0, none⟩ = some (.int .i64 x.k) := RvAt.cell h 0 _ rfl
theorem CmAt.bv {W : World} {b : Nat} {x : Cm} (h : CmAt W b x) : W.cell? ⟨b, 6, none⟩ = some (.int .i64 x.b.v) := RvAt.cell h 6 _ rfl
theorem CmAt.bp {W : World} {b : Nat} {x : Cm} (h : CmAt W b x) : W.cell? ⟨b, 7, none⟩ = some (.slice x.b.a x.b.n x.b.c) := RvAt.cell h 7 _ rfl
theorem CmAt.part {W : World} {b : Nat} {x : Cm} (h : CmAt W b x) (o : Nat) (ty : TypeId) {d : TypeDesc} (cs : Array Value) (hc : ∀ r v, cs.toList[r]? = some v → x.cs[o + r]? = some v) (hu : Try.prog.underlying ty = some d) (hr : d.isRow = true) (hi : (Try.prog.info? ty).map (·.size) = some cs.toList.length) : (ldS ty (.pointer (some ⟨b, o, none⟩))).run Try.prog W = .ok (.agg cs) W :=
  run_loadAt_mid (P := Try.prog) W b o ty cs.toList _ (fun r v hv => RvAt.cell h (o + r) v (hc r v hv)) hu hr hi
theorem CmAt.m {W : World} {b : Nat} {x : Cm} (h : CmAt W b x) : (ldS 100 (.pointer (some ⟨b, 1, none⟩))).run Try.prog W = .ok (.agg x.m.cs) W := h.part 1 _ x.m.cs (fun r v hv => by
  have hr : r < 3 := (List.getElem?_eq_some_iff.1 hv).1
  match r, hr, hv with
  | 0, _, hv => exact hv
  | 1, _, hv => exact hv
  | 2, _, hv => exact hv) Try.underlying100 rfl infoM
theorem CmAt.c {W : World} {b : Nat} {x : Cm} (h : CmAt W b x) : (ldS 102 (.pointer (some ⟨b, 4, none⟩))).run Try.prog W = .ok (.agg x.c.cs) W := h.part 4 _ x.c.cs (fun r v hv => by
  have hr : r < 2 := (List.getElem?_eq_some_iff.1 hv).1
  match r, hr, hv with
  | 0, _, hv => exact hv
  | 1, _, hv => exact hv) Try.underlying102 rfl infoC
theorem CmAt.b {W : World} {b : Nat} {x : Cm} (h : CmAt W b x) : (ldS 76 (.pointer (some ⟨b, 6, none⟩))).run Try.prog W = .ok (.agg x.b.cs) W := h.part 6 _ x.b.cs (fun r v hv => by
  have hr : r < 2 := (List.getElem?_eq_some_iff.1 hv).1
  match r, hr, hv with
  | 0, _, hv => exact hv
  | 1, _, hv => exact hv) Try.underlying76 rfl infoB
/-- What a command is. -/
structure IsCm (W : World) (x : Cm) (d : Cd) : Prop where
  k : x.k = d.k
  m : x.m = d.m
  c : x.c = d.c
  v : x.b.v = d.b.v
  p : SlAt eI W x.b.a x.b.n x.b.c d.b.ps
theorem IsCm.below {W W' : World} {x : Cm} {c : Cd} (h : IsCm W x c) (hb : Below W.heap.size W W') : IsCm W' x c := ⟨h.k, h.m, h.c, h.v, h.p.below hb⟩
theorem results_pe {fn : Func} {k t : Nat} (hr : fn.results = #[.cell k 29, .tmp t]) (tmps : Array Value) (w : World) (b : Nat) (x : Pr) (h2 : tmps.getD k undef = .pointer (some ⟨b, 0, none⟩)) (h : PrAt w b x) :
    (results fn tmps).run Try.prog w = .ok (.tuple #[.agg x.cs, tmps.getD t undef]) w := by
  have hl := RvAt.lv rtP h rfl
  have h2' : tmps[k]?.getD undef = .pointer (some ⟨b, 0, none⟩) := by simpa using h2
  simp [results, hr, asAddr, hl, h2']
/-- A function that tells what is provisioned and an error, at its end. -/
theorem ret_pe {fn : Func} {k t : Nat} (hr : fn.results = #[.cell k 29, .tmp t]) {R : Ending → World → Prop} {a : Act} {w : World} {b : Nat} {x : Pr} {v : Value} (hd : a.defers = []) (h2 : a.tmps.getD k undef = .pointer (some ⟨b, 0, none⟩)) (h3 : a.tmps.getD t undef = v) (r : PrAt w b x) (hR : R (.returned (.tuple #[.agg x.cs, v])) w) : bodyPost Try.prog fn R .ret a w :=
  bodyPost_ret (results_pe hr _ _ _ _ h2 r) hd (by rw [h3]; exact hR)
end

end Go.Proofs.Ytgjagedngdhdaaa
