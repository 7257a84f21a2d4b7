/-
  A drawn region one of whose operations (the first that stores) writes what others read: what they read is asked to hold till it has come up, and no longer. Plain laws.
-/
import Derived.Test.YtmfjlhcobhilcabRv
import Derived.Test.YtmfjlhcobhilcabTail
import Derived.Deep.RegionHeld3
namespace Go.Proofs.Ytmfjlhcobhilcab
set_option linter.unusedVariables false
set_option maxRecDepth 4000
set_option linter.unusedSimpArgs false
open Go.RowKit

section
variable {P : Program} {ops : Array Oper} {Q : Exit → Act → World → Prop} {md : Region.Mode} {S : World → Prop} {z : Nat}
/-- Whatever order is picked: S holds as long as number z has not come up. -/
def AnyZ (P : Program) (md : Region.Mode) (ops : Array Oper) (Q : Exit → Act → World → Prop) (S : World → Prop) (z : Nat) : Nat → Array Bool → Act → World → Prop
  | 0, done, a, w => Region.ready md ops done = [] ∧ Q .normal a w
  | f + 1, done, a, w => (Region.ready md ops done = [] → Q .normal a w) ∧ ∀ i ∈ Region.ready md ops done, wpOp P ops Q i (fun a' w' => ((done.setIfInBounds i true).getD z true = false → S w') ∧ AnyZ P md ops Q S z f (done.setIfInBounds i true) a' w') a w
theorem AnyZ.any : ∀ (f : Nat) (done : Array Bool) (a : Act) (w : World), AnyZ P md ops Q S z f done a w → wpAny P md ops Q f done a w
  | 0, _, _, _, h => h
  | f + 1, _, _, _, h => ⟨h.1, fun i hi => wpOp_mono (fun a' w' h' => AnyZ.any f _ a' w' h'.2) (h.2 i hi)⟩
/-- Does number z wait for number i? -/
def waitsB (md : Region.Mode) (ops : Array Oper) (z i : Nat) : Bool :=
  match ops[z]? with
  | some o => o.after.any (fun e => Region.binds md e && e.on == i)
  | none => false
theorem waits_unready {i : Nat} {done : Array Bool} (hw : waitsB md ops z i = true) (hr : i ∈ Region.ready md ops done) : z ∉ Region.ready md ops done := by
  intro hz
  obtain ⟨_, oz, ho, hall⟩ := mem_ready.1 hz
  unfold waitsB at hw
  rw [ho] at hw
  obtain ⟨e, he, hb⟩ := Array.any_eq_true'.1 hw
  simp only [Bool.and_eq_true, beq_iff_eq] at hb
  have h1 := hall e he hb.1
  have h0 := (mem_ready.1 hr).1
  rw [hb.2] at h1
  rcases Nat.lt_or_ge i done.size with h' | h'
  · simp [h'] at h0 h1
    rw [h0] at h1
    cases h1
  · simp [Array.getElem?_eq_none h'] at h1
/-- An operation for which number z waits, and which yields its value wherever S holds, may be taken first. -/
theorem AnyZ.take {i : Nat} {oi : Oper} {v : Value} (hi : ops[i]? = some oi) (hsel : Region.noSelect ops = true) (hw : waitsB md ops z i = true)
    (hQ : ∀ c a w, Q (.panic c) (a.put oi.dst v) w → Q (.panic c) a w) :
    ∀ (f : Nat) (done : Array Bool) (a : Act) (w : World), Region.free md ops done i = true → (Region.ready md ops done).contains i = true → done.getD z true = false → YieldsIf P ops S oi v a → S w →
      AnyZ P md ops Q S z f (done.setIfInBounds i true) (a.put oi.dst v) w → AnyZ P md ops Q S z (f + 1) done a w := by
  have sel := Region.noSelect_spec hsel
  have core : ∀ (f : Nat) (done : Array Bool) (a : Act) (w : World),
      (∀ j oj, ops[j]? = some oj → j ≠ i → done.getD j true = false → (∀ e ∈ oj.after, Region.binds md e = true → e.on ≠ i) → oi.apart ops oj = true) →
      i ∈ Region.ready md ops done → done.getD z true = false → YieldsIf P ops S oi v a → S w → AnyZ P md ops Q S z f (done.setIfInBounds i true) (a.put oi.dst v) w → AnyZ P md ops Q S z (f + 1) done a w := by
    intro f
    induction f with
    | zero =>
      intro done a w _ hr hz hy hS H
      refine ⟨fun h => (by rw [h] at hr; cases hr), fun j hj => ?_⟩
      by_cases hji : j = i
      · subst hji
        exact hy.wpOp hi hS ⟨fun _ => hS, H⟩
      · have := ready_mono hj hji
        rw [H.1] at this
        cases this
    | succ f ih =>
      intro done a w hfree hr hz hy hS H
      refine ⟨fun h => (by rw [h] at hr; cases hr), fun j hj => ?_⟩
      by_cases hji : j = i
      · subst hji
        exact hy.wpOp hi hS ⟨fun _ => hS, H⟩
      · have hjz : j ≠ z := fun e => waits_unready hw hr (e ▸ hj)
        have hz' : (done.setIfInBounds j true).getD z true = false := by rw [getD_set_ne true hjz]; exact hz
        obtain ⟨hjun, oj, hoj, hall⟩ := mem_ready.1 hj
        have hun := (mem_ready.1 hr).1
        have hnot : ∀ e ∈ oj.after, Region.binds md e = true → e.on ≠ i := fun e he hb heq => by
          have h1 := hall e he hb
          rw [heq, getD_both hun] at h1
          cases h1
        have hiz : i ≠ z := fun e => by
          have := waits_unready hw hr
          rw [← e] at this
          exact this hr
        refine wpOp_mono (fun a' w' h3 => ?_)
          (wpOp_putIf hoj (hfree j oj hoj hji hjun hnot) (fun cs b => sel i oi cs b hi) (fun cs b => sel j oj cs b hoj) hQ hy (H.2 j (ready_mono hj hji)))
        have hS' : S w' := h3.2.1 (by rw [Array.setIfInBounds_comm _ _ (Ne.symm hji), getD_set_ne true hiz]; exact hz')
        refine ⟨fun _ => hS', ih (done.setIfInBounds j true) a' w' (fun k ok hk hki hun' hno => hfree k ok hk hki ?_ hno) (ready_mono hr (Ne.symm hji)) hz' h3.1 hS' ?_⟩
        · by_cases hjk : j = k
          · subst hjk; exact hjun
          · rw [getD_set_ne true hjk] at hun'; exact hun'
        · rw [Array.setIfInBounds_comm _ _ hji]
          exact h3.2.2
  exact fun f done a w hf hr hz hy hS H => core f done a w (Region.free_spec hi hf) (by simpa using hr) hz hy hS H
theorem unready_of {i : Nat} {done : Array Bool} (hw : waitsB md ops z i = true) (h0 : done.getD i true = false) : z ∉ Region.ready md ops done := by
  intro hz
  obtain ⟨_, oz, ho, hall⟩ := mem_ready.1 hz
  unfold waitsB at hw
  rw [ho] at hw
  obtain ⟨e, he, hb⟩ := Array.any_eq_true'.1 hw
  simp only [Bool.and_eq_true, beq_iff_eq] at hb
  have h1 := hall e he hb.1
  rw [hb.2] at h1
  rcases Nat.lt_or_ge i done.size with h' | h'
  · simp [h'] at h0 h1
    rw [h0] at h1
    cases h1
  · simp [Array.getElem?_eq_none h'] at h1
/-- .. for which another waits, for which number z waits, and which yields its value wherever S holds, may be taken first. -/
theorem AnyZ.take2 {i m : Nat} {oi : Oper} {v : Value} (hi : ops[i]? = some oi) (hsel : Region.noSelect ops = true) (hzm : waitsB md ops z m = true) (hmi : waitsB md ops m i = true)
    (hQ : ∀ c a w, Q (.panic c) (a.put oi.dst v) w → Q (.panic c) a w) :
    ∀ (f : Nat) (done : Array Bool) (a : Act) (w : World), Region.free md ops done i = true → (Region.ready md ops done).contains i = true → done.getD z true = false → done.getD m true = false → YieldsIf P ops S oi v a → S w →
      AnyZ P md ops Q S z f (done.setIfInBounds i true) (a.put oi.dst v) w → AnyZ P md ops Q S z (f + 1) done a w := by
  have sel := Region.noSelect_spec hsel
  have core : ∀ (f : Nat) (done : Array Bool) (a : Act) (w : World),
      (∀ j oj, ops[j]? = some oj → j ≠ i → done.getD j true = false → (∀ e ∈ oj.after, Region.binds md e = true → e.on ≠ i) → oi.apart ops oj = true) →
      i ∈ Region.ready md ops done → done.getD z true = false → done.getD m true = false → YieldsIf P ops S oi v a → S w → AnyZ P md ops Q S z f (done.setIfInBounds i true) (a.put oi.dst v) w → AnyZ P md ops Q S z (f + 1) done a w := by
    intro f
    induction f with
    | zero =>
      intro done a w _ hr hz hm hy hS H
      refine ⟨fun h => (by rw [h] at hr; cases hr), fun j hj => ?_⟩
      by_cases hji : j = i
      · subst hji
        exact hy.wpOp hi hS ⟨fun _ => hS, H⟩
      · have := ready_mono hj hji
        rw [H.1] at this
        cases this
    | succ f ih =>
      intro done a w hfree hr hz hm hy hS H
      refine ⟨fun h => (by rw [h] at hr; cases hr), fun j hj => ?_⟩
      by_cases hji : j = i
      · subst hji
        exact hy.wpOp hi hS ⟨fun _ => hS, H⟩
      · have hjm : j ≠ m := fun e => waits_unready hmi hr (e ▸ hj)
        have hnz : z ∉ Region.ready md ops done := unready_of hzm hm
        have hjz : j ≠ z := fun e => hnz (e ▸ hj)
        have hm' : (done.setIfInBounds j true).getD m true = false := by rw [getD_set_ne true hjm]; exact hm
        have hz' : (done.setIfInBounds j true).getD z true = false := by rw [getD_set_ne true hjz]; exact hz
        obtain ⟨hjun, oj, hoj, hall⟩ := mem_ready.1 hj
        have hun := (mem_ready.1 hr).1
        have hnot : ∀ e ∈ oj.after, Region.binds md e = true → e.on ≠ i := fun e he hb heq => by
          have h1 := hall e he hb
          rw [heq, getD_both hun] at h1
          cases h1
        have hiz : i ≠ z := fun e => hnz (e ▸ hr)
        refine wpOp_mono (fun a' w' h3 => ?_)
          (wpOp_putIf hoj (hfree j oj hoj hji hjun hnot) (fun cs b => sel i oi cs b hi) (fun cs b => sel j oj cs b hoj) hQ hy (H.2 j (ready_mono hj hji)))
        have hS' : S w' := h3.2.1 (by rw [Array.setIfInBounds_comm _ _ (Ne.symm hji), getD_set_ne true hiz]; exact hz')
        refine ⟨fun _ => hS', ih (done.setIfInBounds j true) a' w' (fun k ok hk hki hun' hno => hfree k ok hk hki ?_ hno) (ready_mono hr (Ne.symm hji)) hz' hm' h3.1 hS' ?_⟩
        · by_cases hjk : j = k
          · subst hjk; exact hjun
          · rw [getD_set_ne true hjk] at hun'; exact hun'
        · rw [Array.setIfInBounds_comm _ _ hji]
          exact h3.2.2
  exact fun f done a w hf hr hz hm hy hS H => core f done a w (Region.free_spec hi hf) (by simpa using hr) hz hm hy hS H
/-- .. or one that yields its value in every world. -/
theorem AnyZ.takeT {i : Nat} {oi : Oper} {v : Value} (hi : ops[i]? = some oi) (hsel : Region.noSelect ops = true) (hzi : i ≠ z)
    (hQ : ∀ c a w, Q (.panic c) (a.put oi.dst v) w → Q (.panic c) a w) :
    ∀ (f : Nat) (done : Array Bool) (a : Act) (w : World), Region.free md ops done i = true → (Region.ready md ops done).contains i = true → YieldsIf P ops (fun _ => True) oi v a → (done.getD z true = false → S w) →
      AnyZ P md ops Q S z f (done.setIfInBounds i true) (a.put oi.dst v) w → AnyZ P md ops Q S z (f + 1) done a w := by
  have sel := Region.noSelect_spec hsel
  have core : ∀ (f : Nat) (done : Array Bool) (a : Act) (w : World),
      (∀ j oj, ops[j]? = some oj → j ≠ i → done.getD j true = false → (∀ e ∈ oj.after, Region.binds md e = true → e.on ≠ i) → oi.apart ops oj = true) →
      i ∈ Region.ready md ops done → YieldsIf P ops (fun _ => True) oi v a → (done.getD z true = false → S w) → AnyZ P md ops Q S z f (done.setIfInBounds i true) (a.put oi.dst v) w → AnyZ P md ops Q S z (f + 1) done a w := by
    intro f
    induction f with
    | zero =>
      intro done a w _ hr hy hS H
      refine ⟨fun h => (by rw [h] at hr; cases hr), fun j hj => ?_⟩
      by_cases hji : j = i
      · subst hji
        exact hy.wpOp hi trivial ⟨fun e => hS (by rw [getD_set_ne true hzi] at e; exact e), H⟩
      · have := ready_mono hj hji
        rw [H.1] at this
        cases this
    | succ f ih =>
      intro done a w hfree hr hy hS H
      refine ⟨fun h => (by rw [h] at hr; cases hr), fun j hj => ?_⟩
      by_cases hji : j = i
      · subst hji
        exact hy.wpOp hi trivial ⟨fun e => hS (by rw [getD_set_ne true hzi] at e; exact e), H⟩
      · obtain ⟨hjun, oj, hoj, hall⟩ := mem_ready.1 hj
        have hun := (mem_ready.1 hr).1
        have hnot : ∀ e ∈ oj.after, Region.binds md e = true → e.on ≠ i := fun e he hb heq => by
          have h1 := hall e he hb
          rw [heq, getD_both hun] at h1
          cases h1
        refine wpOp_mono (fun a' w' h3 => ?_)
          (wpOp_putIf hoj (hfree j oj hoj hji hjun hnot) (fun cs b => sel i oi cs b hi) (fun cs b => sel j oj cs b hoj) hQ hy (H.2 j (ready_mono hj hji)))
        have hS' : (done.setIfInBounds j true).getD z true = false → S w' := fun e => h3.2.1 (by rw [Array.setIfInBounds_comm _ _ (Ne.symm hji), getD_set_ne true hzi]; exact e)
        refine ⟨hS', ih (done.setIfInBounds j true) a' w' (fun k ok hk hki hun' hno => hfree k ok hk hki ?_ hno) (ready_mono hr (Ne.symm hji)) h3.1 hS' ?_⟩
        · by_cases hjk : j = k
          · subst hjk; exact hjun
          · rw [getD_set_ne true hjk] at hun'; exact hun'
        · rw [Array.setIfInBounds_comm _ _ hji]
          exact h3.2.2
  exact fun f done a w hf hr hy hS H => core f done a w (Region.free_spec hi hf) (by simpa using hr) hy hS H
/-- The one operation that is ready, ahead of number z. -/
theorem AnyZ.step {f i : Nat} {o : Oper} {done : Array Bool} {a : Act} {w : World} (hr : Region.ready md ops done = [i]) (ho : ops[i]? = some o)
    (h : ∀ K' : Act → World → Prop, Hid (∀ a w, S w → (S w → AnyZ P md ops Q S z f (done.setIfInBounds i true) a w) → K' a w) → if Region.wanted o (yielded ops a.tmps) = true then Oper.wp P o a w K' Q else K' (a.put o.dst undef) w) : AnyZ P md ops Q S z (f + 1) done a w := by
  refine ⟨fun h0 => (by rw [hr] at h0; cases h0), fun j hj => ?_⟩
  rw [hr, List.mem_singleton] at hj
  subst hj
  exact wpOp_step ho (fun K' hK => h K' (show ∀ a w, _ from fun a w hS hW => hK a w ⟨fun _ => hS, hW hS⟩))
/-- .. number z, or behind it. -/
theorem AnyZ.stepF {f i : Nat} {o : Oper} {done : Array Bool} {a : Act} {w : World} (hr : Region.ready md ops done = [i]) (ho : ops[i]? = some o) (hz : (done.setIfInBounds i true).getD z true = true)
    (h : ∀ K' : Act → World → Prop, Hid (∀ a w, AnyZ P md ops Q S z f (done.setIfInBounds i true) a w → K' a w) → if Region.wanted o (yielded ops a.tmps) = true then Oper.wp P o a w K' Q else K' (a.put o.dst undef) w) : AnyZ P md ops Q S z (f + 1) done a w := by
  refine ⟨fun h0 => (by rw [hr] at h0; cases h0), fun j hj => ?_⟩
  rw [hr, List.mem_singleton] at hj
  subst hj
  exact wpOp_step ho (fun K' hK => h K' (show ∀ a w, _ from fun a w hW => hK a w ⟨fun e => (by rw [hz] at e; cases e), hW⟩))
/-- Two are ready, ahead of number z. -/
theorem AnyZ.two {f i j : Nat} {o u : Oper} {done : Array Bool} {a : Act} {w : World} (hr : Region.ready md ops done = [i, j]) (ho : ops[i]? = some o) (hu : ops[j]? = some u)
    (h : ∀ K' : Act → World → Prop, Hid (∀ a w, S w → (S w → AnyZ P md ops Q S z f (done.setIfInBounds i true) a w) → K' a w) → if Region.wanted o (yielded ops a.tmps) = true then Oper.wp P o a w K' Q else K' (a.put o.dst undef) w)
    (g : ∀ K' : Act → World → Prop, Hid (∀ a w, S w → (S w → AnyZ P md ops Q S z f (done.setIfInBounds j true) a w) → K' a w) → if Region.wanted u (yielded ops a.tmps) = true then Oper.wp P u a w K' Q else K' (a.put u.dst undef) w) : AnyZ P md ops Q S z (f + 1) done a w := by
  refine ⟨fun h0 => (by rw [hr] at h0; cases h0), fun k hk => ?_⟩
  rw [hr] at hk
  rcases List.mem_cons.1 hk with rfl | hk
  · exact wpOp_step ho (fun K' hK => h K' (show ∀ a w, _ from fun a w hS hW => hK a w ⟨fun _ => hS, hW hS⟩))
  · rw [List.mem_singleton] at hk
    subst hk
    exact wpOp_step hu (fun K' hK => g K' (show ∀ a w, _ from fun a w hS hW => hK a w ⟨fun _ => hS, hW hS⟩))
theorem AnyZ.done {done : Array Bool} {a : Act} {w : World} (hr : Region.ready md ops done = []) (h : Q .normal a w) : ∀ f, AnyZ P md ops Q S z f done a w
  | 0 => ⟨hr, h⟩
  | _ + 1 => ⟨fun _ => h, by rw [hr]; simp⟩
theorem AnyZ.start {id : Nat} {a : Act} {w : World} (hm : P.follows .mixedOrders = true) (hS : S w.drew) (h : S w.drew → AnyZ P .any ops Q S z ops.size (Array.replicate ops.size false) a w.drew) : (Code.region id ops true).wp P Q a w :=
  wp_region_any hm (AnyZ.any _ _ _ _ (h hS))
end
end Go.Proofs.Ytmfjlhcobhilcab
