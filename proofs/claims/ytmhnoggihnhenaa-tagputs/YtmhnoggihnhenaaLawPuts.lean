/-
  TagPuts: for every tag and service's tag, which may be, and their bytes, as defined: the walk.
-/
import Derived.Test.YtmhnoggihnhenaaPutAny
namespace Go.Proofs.Ytmhnoggihnhenaa
set_option linter.unusedVariables false
open Go.RowKit

attribute [local go_sem ↓] ldS27_eq

set_option maxHeartbeats 2000000 in
theorem TagPuts_walk (p v : Int) (d : Bool) (q : Int) (c u : Bool) (i : Int) (a0 a1 a2 a3 a4 a5 s0 s1 s2 s3 s4 s5 : Int) (w : World) :
    Calls Try.prog 3 #[.agg #[.int .i64 p, .bool d, .int .i64 v], .agg #[.int .i64 q, .bool c, .bool u, .int .i64 i, .int .u8 a0, .int .u8 a1, .int .u8 a2, .int .u8 a3, .int .u8 a4, .int .u8 a5, .int .u8 s0, .int .u8 s1, .int .u8 s2, .int .u8 s3, .int .u8 s4, .int .u8 s5]] w fun r w' => r = .returned (.bool true) ∧ Below w.heap.size w w' := by
  have hx := @Later.cell
  go_enter Try.func3, Try.ntmps3
  go_wp2_with fail
  have hl0 : ((w.alloc (.cells #[.int .i64 p, .bool d, .int .i64 v] 23)).alloc (.cells #[.int .i64 q, .bool c, .bool u, .int .i64 i, .int .u8 a0, .int .u8 a1, .int .u8 a2, .int .u8 a3, .int .u8 a4, .int .u8 a5, .int .u8 s0, .int .u8 s1, .int .u8 s2, .int .u8 s3, .int .u8 s4, .int .u8 s5] 27)).heap[w.heap.size + 1]? = some (.cells #[.int .i64 q, .bool c, .bool u, .int .i64 i, .int .u8 a0, .int .u8 a1, .int .u8 a2, .int .u8 a3, .int .u8 a4, .int .u8 a5, .int .u8 s0, .int .u8 s1, .int .u8 s2, .int .u8 s3, .int .u8 s4, .int .u8 s5] 27 (0, 0)) := by
    have := alloc_at (w.alloc (.cells #[.int .i64 p, .bool d, .int .i64 v] 23)) (.cells #[.int .i64 q, .bool c, .bool u, .int .i64 i, .int .u8 a0, .int .u8 a1, .int .u8 a2, .int .u8 a3, .int .u8 a4, .int .u8 a5, .int .u8 s0, .int .u8 s1, .int .u8 s2, .int .u8 s3, .int .u8 s4, .int .u8 s5] 27)
    simpa using this
  have hl := load27_later hl0
  have hll := fun (y : Later ((w.alloc (.cells #[.int .i64 p, .bool d, .int .i64 v] 23)).alloc (.cells #[.int .i64 q, .bool c, .bool u, .int .i64 i, .int .u8 a0, .int .u8 a1, .int .u8 a2, .int .u8 a3, .int .u8 a4, .int .u8 a5, .int .u8 s0, .int .u8 s1, .int .u8 s2, .int .u8 s3, .int .u8 s4, .int .u8 s5] 27))) => load27_later ((y.below.block _ (lt_of_block hl0)).trans hl0)
  clear hl0
  refine Calls.on_src0 (put_any p v d _) ?_
  intro y1 t1 h1
  have H1 : Hid (Src y1.val t1 _) := h1
  clear h1
  go_wp2_with fail
  refine Calls.on_src (pref_any p v d _) ?_
  intro y2 t2 hb2 h2
  have H1' : Hid (Src y2.val t1 _) := H1.out.below hb2
  have H2 : Hid (Src y2.val t2 _) := h2
  clear h2 H1 hb2
  go_wp2_with fail
  refine Calls.on_src (puti_any q c u i a0 a1 a2 a3 a4 a5 s0 s1 s2 s3 s4 s5 _) ?_
  intro y3 t3 hb3 h3
  have H1 : Hid (Src y3.val t1 _) := H1'.out.below hb3
  have H2' : Hid (Src y3.val t2 _) := H2.out.below hb3
  have H3 : Hid (Src y3.val t3 _) := h3
  clear h3 H2 H1' hb3
  go_wp2_with fail
  refine Calls.on_src (prefi_any q c u i a0 a1 a2 a3 a4 a5 s0 s1 s2 s3 s4 s5 _) ?_
  intro y4 t4 hb4 h4
  have c1 := fun x => (H1.out.below hb4).strings x
  have c2 := fun x => (H2'.out.below hb4).strings x
  have c3 := fun x => (H3.out.below hb4).strings x
  have c4 := fun x => h4.strings x
  clear h4 H1 H2' H3 hb4
  have HB : Hid (Below w.heap.size w y4.val) := below_later (by go_grown) y4
  have hz := y4.below.size
  simp only [World.size_alloc] at hz
  have z1 : w.heap.size < y4.val.heap.size := by omega
  have z2 : w.heap.size + 1 < y4.val.heap.size := by omega
  clear hz y1 y2 y3
  go_wp2_with fail
  refine wp_region_later (by kernel_rfl) (by kernel_rfl) ?_
  repeat (go_big_quiet_step (first
    | exact rfl
    | (go_at_call 12; exact Calls.later_of (check_any p v d _))
    | (go_at_call 13; exact Calls.later_of (check_ref p v d _))
    | (go_at_call 14; exact Calls.later_of (checki_any q c u i a0 a1 a2 a3 a4 a5 s0 s1 s2 s3 s4 s5 _))
    | (go_at_call 15; exact Calls.later_of (checki_ref q c u i a0 a1 a2 a3 a4 a5 s0 s1 s2 s3 s4 s5 _))
    | (go_at_call 16; exact Calls.later_of (awake_any _))))
  refine wpQuiet_nil ?_
  intro _ hw'
  obtain ⟨y5, rfl⟩ := hw'
  go_wp2
  go_ret
  exact ⟨rfl, below_later HB.out y5⟩
end Go.Proofs.Ytmhnoggihnhenaa
