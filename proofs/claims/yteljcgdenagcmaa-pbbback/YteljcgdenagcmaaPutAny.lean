/-
  TagPuts: for every tag and service's tag, which may be, and their bytes, as defined: the walk.
-/
import Derived.Test.YteljcgdenagcmaaPutRef
import Derived.Deep.MidRow
namespace Go.Proofs.Yteljcgdenagcmaa
set_option linter.unusedVariables false
open Go.RowKit

/-- The bytes that are told of a tag. -/
def putL (p : Int) (d : Bool) (v : Int) : List Int := if tagOk p v then tagL p d v else []
/-- The bytes that are told of a service's tag. -/
def putiL (p : Int) (d u : Bool) (i : Int) (a0 a1 a2 a3 a4 a5 s0 s1 s2 s3 s4 s5 : Int) : List Int := if itagOk p i then itagL p d u i a0 a1 a2 a3 a4 a5 s0 s1 s2 s3 s4 s5 else []

theorem put_any (p v : Int) (d : Bool) (w : World) :
    Calls Try.prog 47 #[.agg #[.int .i64 p, .bool d, .int .i64 v]] w fun r w' => ∃ s, r = .returned (.tuple #[s, .int .i64 (chk (tagOk p v))]) ∧ Src w' s (putL p d v) ∧ Below w.heap.size w w' := by
  unfold putL
  cases h : tagOk p v
  · exact (put_no p v d w h).mono fun r w' ⟨hr, hb⟩ => ⟨_, hr, ⟨none, 0, rfl, Nat.le_refl _, by simp, (fun _ => ⟨rfl, rfl⟩), (fun ad e => by cases e)⟩, hb⟩
  · exact (put_yes p v d w h).mono fun r w' ⟨s, hr, ho, hb⟩ => ⟨s, hr, ho.src, hb⟩

theorem puti_any (p : Int) (d u : Bool) (i : Int) (a0 a1 a2 a3 a4 a5 s0 s1 s2 s3 s4 s5 : Int) (w : World) :
    Calls Try.prog 48 #[.agg #[.int .i64 p, .bool d, .bool u, .int .i64 i, .int .u8 a0, .int .u8 a1, .int .u8 a2, .int .u8 a3, .int .u8 a4, .int .u8 a5, .int .u8 s0, .int .u8 s1, .int .u8 s2, .int .u8 s3, .int .u8 s4, .int .u8 s5]] w fun r w' => ∃ s, r = .returned (.tuple #[s, .int .i64 (chk (itagOk p i))]) ∧ Src w' s (putiL p d u i a0 a1 a2 a3 a4 a5 s0 s1 s2 s3 s4 s5) ∧ Below w.heap.size w w' := by
  unfold putiL
  cases h : itagOk p i
  · exact (puti_no p d u i a0 a1 a2 a3 a4 a5 s0 s1 s2 s3 s4 s5 w h).mono fun r w' ⟨hr, hb⟩ => ⟨_, hr, ⟨none, 0, rfl, Nat.le_refl _, by simp, (fun _ => ⟨rfl, rfl⟩), (fun ad e => by cases e)⟩, hb⟩
  · exact (puti_yes p d u i a0 a1 a2 a3 a4 a5 s0 s1 s2 s3 s4 s5 w h).mono fun r w' ⟨s, hr, ho, hb⟩ => ⟨s, hr, ho.src, hb⟩

theorem Calls.on_src {f : FuncId} {args : Array Value} {W : World} {y : Later W} {e : Value} {l : List Int} {K : Ending → World → Prop}
    (h : Calls Try.prog f args y.val fun r w' => ∃ s, r = .returned (.tuple #[s, e]) ∧ Src w' s l ∧ Below y.val.heap.size y.val w')
    (k : ∀ (z : Later W) (s : Value), Below y.val.heap.size y.val z.val → Src z.val s l → K (.returned (.tuple #[s, e])) z.val) : Calls Try.prog f args y.val K :=
  h.mono fun _ w' ⟨s, he, hs, hb⟩ => by subst he; exact k (Later.mk w' (y.below.trans (hb.mono y.below.size))) s hb hs

theorem Calls.on_src0 {f : FuncId} {args : Array Value} {W : World} {e : Value} {l : List Int} {K : Ending → World → Prop}
    (h : Calls Try.prog f args W fun r w' => ∃ s, r = .returned (.tuple #[s, e]) ∧ Src w' s l ∧ Below W.heap.size W w')
    (k : ∀ (z : Later W) (s : Value), Src z.val s l → K (.returned (.tuple #[s, e])) z.val) : Calls Try.prog f args W K :=
  h.mono fun _ w' ⟨s, he, hs, hb⟩ => by subst he; exact k (Later.mk w' hb) s hs

/-- The string of bytes, in every later world. -/
theorem Src.strings {w : World} {v : Value} {l : List Int} (h : Src w v l) (x : Later w) : (convert 28 9 v).run Try.prog x.val = .ok (.string (bs l)) x.val := (h.below x.below).string

/-- A whole service's tag, loaded. -/
def ldS27 (x : Value) : Sem Value := Instr.loadAt 27 x
theorem ldS27_eq (x : Value) : Instr.loadAt 27 x = ldS27 x := rfl

theorem info27 : (Try.prog.info? 27).map (·.size) = some 16 := by kernel_rfl

theorem load27 {w : World} {b : Nat} {p : Int} {d u : Bool} {i : Int} {a0 a1 a2 a3 a4 a5 s0 s1 s2 s3 s4 s5 : Int} (h : w.heap[b]? = some (.cells #[.int .i64 p, .bool d, .bool u, .int .i64 i, .int .u8 a0, .int .u8 a1, .int .u8 a2, .int .u8 a3, .int .u8 a4, .int .u8 a5, .int .u8 s0, .int .u8 s1, .int .u8 s2, .int .u8 s3, .int .u8 s4, .int .u8 s5] 27 (0, 0))) :
    (ldS27 (.pointer (some ⟨b, 0, none⟩))).run Try.prog w = .ok (.agg #[.int .i64 p, .bool d, .bool u, .int .i64 i, .int .u8 a0, .int .u8 a1, .int .u8 a2, .int .u8 a3, .int .u8 a4, .int .u8 a5, .int .u8 s0, .int .u8 s1, .int .u8 s2, .int .u8 s3, .int .u8 s4, .int .u8 s5]) w := by
  have hr := World.rangeAt_of_block h 0 16
  exact run_loadAt_mid w b 0 27 _ _ hr Try.underlying27 rfl info27

theorem load27_later {W : World} {b : Nat} {p : Int} {d u : Bool} {i : Int} {a0 a1 a2 a3 a4 a5 s0 s1 s2 s3 s4 s5 : Int} (h : W.heap[b]? = some (.cells #[.int .i64 p, .bool d, .bool u, .int .i64 i, .int .u8 a0, .int .u8 a1, .int .u8 a2, .int .u8 a3, .int .u8 a4, .int .u8 a5, .int .u8 s0, .int .u8 s1, .int .u8 s2, .int .u8 s3, .int .u8 s4, .int .u8 s5] 27 (0, 0))) (x : Later W) :
    (ldS27 (.pointer (some ⟨b, 0, none⟩))).run Try.prog x.val = .ok (.agg #[.int .i64 p, .bool d, .bool u, .int .i64 i, .int .u8 a0, .int .u8 a1, .int .u8 a2, .int .u8 a3, .int .u8 a4, .int .u8 a5, .int .u8 s0, .int .u8 s1, .int .u8 s2, .int .u8 s3, .int .u8 s4, .int .u8 s5]) x.val :=
  load27 ((x.below.block b (lt_of_block h)).trans h)

end Go.Proofs.Yteljcgdenagcmaa
