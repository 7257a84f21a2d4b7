/-
  The walk of what is wrong with a frame: for every frame.
-/
import Derived.Test.YteljcgdenagcmaaCheckRef
import Derived.Test.YteljcgdenagcmaaTail
namespace Go.Proofs.Yteljcgdenagcmaa
set_option linter.unusedVariables false
set_option maxRecDepth 4000
set_option linter.unusedSimpArgs false
open Go.RowKit

attribute [local go_sem ↓] slS_eq ldS23 ldS25 ldS38 stS38 nqS_eq eqS_eq

/-- What is read of a frame's variable. -/
def Reads (W : World) (b : Nat) (f : Fr) (x : Value) : Prop :=
  (ldS 23 (.pointer (some ⟨b, 0, none⟩))).run Try.prog W = .ok f.d.v W ∧ (ldS 23 (.pointer (some ⟨b, 6, none⟩))).run Try.prog W = .ok f.s.v W ∧
  (ldS 25 (.pointer (some ⟨b, 13, none⟩))).run Try.prog W = .ok f.tag W ∧ (ldS 38 (.pointer (some ⟨b, 0, none⟩))).run Try.prog W = .ok (.agg (fcs f x)) W ∧
  W.cell? ⟨b, 12, none⟩ = some (.bool f.t) ∧ W.cell? ⟨b, 16, none⟩ = some x
theorem FrAt.reads {W : World} {b : Nat} {f : Fr} {x : Value} (h : FrAt W b f x) : Reads W b f x := ⟨h.ldd, h.lds, h.ldt, h.ld, h.c12, h.c16⟩

/-- A contract, met where a frame's variable stands. -/
theorem Calls.on_fr {P : Program} {F : FuncId} {args : Array Value} {W0 W : World} {v : Value} {K : Ending → World → Prop} {b : Nat} {f : Fr} {x : Value}
    (h : Calls P F args W fun e w' => e = .returned v ∧ Below W.heap.size W w') (hF : Hid (FrAt W b f x)) (hB : Hid (Below W0.heap.size W0 W)) (k : ∀ W', Hid (FrAt W' b f x) → Hid (Below W0.heap.size W0 W') → Reads W' b f x → K (.returned v) W') : Calls P F args W K :=
  h.mono fun _ w' ⟨he, hb⟩ => by subst he; exact k w' (hF.out.below hb) (below_over hB.out hb) (hF.out.below hb).reads

set_option maxHeartbeats 400000 in
theorem faults_long (f : Fr) (a : Option Addr) (n c : Nat) (w : World) (hc : n ≤ c) (hm : c ≤ maxLen) :
    Calls Try.prog 62 #[.agg (fcs f (.slice a n c)), .int .i64 2] w fun r w' => ∃ g, r = .returned (.slice (some ⟨g, 0, none⟩) 1 1) ∧ w'.cell? ⟨g, 0, none⟩ = some (.bool (decide ((1502 : Int) < (n : Int)))) ∧ Below w.heap.size w w' := by
  have c16 := (FrAt.new w f (.slice a n c)).c16
  go_enter Try.func62, Try.ntmps62
  go_wp2
  go_ret
  refine ⟨_, rfl, ?_, by go_grown⟩
  simp

set_option maxHeartbeats 2000000 in
theorem faults_all (f : Fr) (a : Option Addr) (n c : Nat) (l : List Int) (w : World) (h : Src w (.slice a n c) l) (hb : ∀ x ∈ l, 0 ≤ x ∧ x ≤ 255) (hf : f.ok) :
    Calls Try.prog 62 #[.agg (fcs f (.slice a n c)), .int .i64 30] w fun r w' => ∃ g, r = .returned (.slice (some ⟨g, 0, none⟩) 6 6) ∧ w'.cell? ⟨g, 0, none⟩ = some (.bool (f.s.kd != 1)) ∧ w'.cell? ⟨g, 1, none⟩ = some (.bool (f.d.kd == 6)) ∧
      w'.cell? ⟨g, 2, none⟩ = some (.bool (if f.t then !tagOk f.p f.v else false)) ∧ w'.cell? ⟨g, 3, none⟩ = some (.bool (if f.t then false else !fz f)) ∧ w'.cell? ⟨g, 4, none⟩ = some (.bool (decide ((n : Int) < 2))) ∧ w'.cell? ⟨g, 5, none⟩ = some (.bool (if f.t then false else tyN l == 34984)) ∧ Below w.heap.size w w' := by
  have hB : Below w.heap.size w (w.alloc (.cells (fcs f (.slice a n c)) 38)) := (Below.refl _ _).alloc (Nat.le_refl _) _
  obtain ⟨hn, hc, hm⟩ := src_short h
  have H : Hid (Src w (.slice a n c) l ∧ ∀ x ∈ l, 0 ≤ x ∧ x ≤ 255) := ⟨h, hb⟩
  have hF := FrAt.new w f (.slice a n c)
  obtain ⟨yd, ys, yt, yl, y12, y16⟩ := hF.laters
  have nz := nqS_zero f
  have gd := guard_tag .neq
  obtain ⟨t, ht⟩ : ∃ t, f.t = t := ⟨_, rfl⟩
  obtain ⟨z, hz⟩ : ∃ z, fz f = z := ⟨_, rfl⟩
  obtain ⟨q, hq⟩ : ∃ q, tagOk f.p f.v = q := ⟨_, rfl⟩
  obtain ⟨m1, hm1⟩ : ∃ k, f.s.kd = k := ⟨_, rfl⟩
  obtain ⟨m2, hm2⟩ : ∃ k, f.d.kd = k := ⟨_, rfl⟩
  obtain ⟨N, hN⟩ : ∃ N, tyN l = N := ⟨_, rfl⟩
  have Q1 : Hid (∀ W, Calls Try.prog 52 #[f.s.v] W fun r w' => r = .returned (.int .i64 m1) ∧ Below W.heap.size W w') := fun W => by rw [← hm1]; exact kind_m f.s W hf.2
  have Q2 : Hid (∀ W, Calls Try.prog 52 #[f.d.v] W fun r w' => r = .returned (.int .i64 m2) ∧ Below W.heap.size W w') := fun W => by rw [← hm2]; exact kind_m f.d W hf.1
  have Q3 : Hid (∀ W, Calls Try.prog 45 #[f.tag] W fun r w' => r = .returned (.int .i64 (chk q)) ∧ Below W.heap.size W w') := fun W => by rw [← hq]; exact check_f f W
  have Q4 : Hid (∀ y : Later (w.alloc (.cells (fcs f (.slice a n c)) 38)), Calls Try.prog 71 #[.agg (fcs f (.slice a n c))] y.val fun r w' => r = .returned (.int .i64 N) ∧ Below y.val.heap.size y.val w') := fun y => by rw [← hN]; exact type_any f _ l _ ((H.out.1.below hB).below y.below) H.out.2
  have HB : Hid (Below w.heap.size w (w.alloc (.cells (fcs f (.slice a n c)) 38))) := hB
  rw [ht] at y12
  rw [hz] at nz
  rw [hm1, hm2, ht, hz, hq, hN]
  clear h hb hf hn hF hB H hm1 hm2 hN hz hq ht
  cases t
  all_goals
    go_enter Try.func62, Try.ntmps62
    go_wp2
    refine wp_region_later_tail 37 (by kernel_rfl) (by kernel_rfl) ?_
    simp only [List.take_succ_cons, List.take_zero]
    repeat (go_big_quiet_step (first | exact rfl | (go_at_call 52; with_reducible exact Calls.later_of (Q1.out _)) | (go_at_call 52; with_reducible exact Calls.later_of (Q2.out _)) | (go_at_call 45; with_reducible exact Calls.later_of (Q3.out _)) | (go_at_call 71; with_reducible exact Calls.later_of (Q4.out _))))
    refine wpQuiet_nil ?_
    intro x
    simp only [List.drop_succ_cons, List.drop_zero]
    go_wp2
    go_ret
    refine ⟨_, rfl, ?_, ?_, ?_, ?_, ?_, ?_, (below_later HB.out x).alloc (below_later HB.out x).size _⟩
    all_goals first | (simp [chk]; done) | (cases q <;> simp [chk])
end Go.Proofs.Yteljcgdenagcmaa
