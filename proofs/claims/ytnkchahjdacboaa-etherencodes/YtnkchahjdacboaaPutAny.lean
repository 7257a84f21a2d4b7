/-
  TagPuts: for every tag and service's tag, which may be, and their bytes, as defined: the walk.
-/
import Derived.Test.YtnkchahjdacboaaPutRef
import Derived.Deep.MidRow
namespace Go.Proofs.Ytnkchahjdacboaa
set_option linter.unusedVariables false
open Go.RowKit

/-- The bytes that are told of a tag. -/
def putL (p : Int) (d : Bool) (v : Int) : List Int := if tagOk p v then tagL p d v else []
theorem put_any (p v : Int) (d : Bool) (w : World) :
    Calls Try.prog 36 #[.agg #[.int .i64 p, .bool d, .int .i64 v]] w fun r w' => ∃ s, r = .returned (.tuple #[s, .int .i64 (chk (tagOk p v))]) ∧ Src w' s (putL p d v) ∧ Below w.heap.size w w' := by
  unfold putL
  cases h : tagOk p v
  · exact (put_no p v d w h).mono fun r w' ⟨hr, hb⟩ => ⟨_, hr, ⟨none, 0, rfl, Nat.le_refl _, by simp, (fun _ => ⟨rfl, rfl⟩), (fun ad e => by cases e)⟩, hb⟩
  · exact (put_yes p v d w h).mono fun r w' ⟨s, hr, ho, hb⟩ => ⟨s, hr, ho.src, hb⟩

theorem pref_any (p v : Int) (d : Bool) (w : World) :
    Calls Try.prog 24 #[.agg #[.int .i64 p, .bool d, .int .i64 v]] w fun r w' => ∃ s, r = .returned (.tuple #[s, .int .i64 (chk (tagOk p v))]) ∧ Src w' s (putL p d v) ∧ Below w.heap.size w w' := by
  unfold putL
  cases h : tagOk p v
  · exact (pref_no p v d w h).mono fun r w' ⟨hr, hb⟩ => ⟨_, hr, ⟨none, 0, rfl, Nat.le_refl _, by simp, (fun _ => ⟨rfl, rfl⟩), (fun ad e => by cases e)⟩, hb⟩
  · exact (pref_yes p v d w h).mono fun r w' ⟨s, hr, ho, hb⟩ => ⟨s, hr, ho.src, hb⟩

theorem Calls.on_src {f : FuncId} {args : Array Value} {W : World} {y : Later W} {e : Value} {l : List Int} {K : Ending → World → Prop}
    (h : Calls Try.prog f args y.val fun r w' => ∃ s, r = .returned (.tuple #[s, e]) ∧ Src w' s l ∧ Below y.val.heap.size y.val w')
    (k : ∀ (z : Later W) (s : Value), Below y.val.heap.size y.val z.val → Src z.val s l → K (.returned (.tuple #[s, e])) z.val) : Calls Try.prog f args y.val K :=
  h.mono fun _ w' ⟨s, he, hs, hb⟩ => by subst he; exact k (Later.mk w' (y.below.trans (hb.mono y.below.size))) s hb hs

theorem Calls.on_src0 {f : FuncId} {args : Array Value} {W : World} {e : Value} {l : List Int} {K : Ending → World → Prop}
    (h : Calls Try.prog f args W fun r w' => ∃ s, r = .returned (.tuple #[s, e]) ∧ Src w' s l ∧ Below W.heap.size W w')
    (k : ∀ (z : Later W) (s : Value), Src z.val s l → K (.returned (.tuple #[s, e])) z.val) : Calls Try.prog f args W K :=
  h.mono fun _ w' ⟨s, he, hs, hb⟩ => by subst he; exact k (Later.mk w' hb) s hs

/-- The string of bytes, in every later world. -/
theorem Src.strings {w : World} {v : Value} {l : List Int} (h : Src w v l) (x : Later w) : (convert 26 9 v).run Try.prog x.val = .ok (.string (bs l)) x.val := (h.below x.below).string

end Go.Proofs.Ytnkchahjdacboaa
