/-
  The walk of a frame in another VLAN, by definition: for every frame and number.
-/
import Derived.Test.YtnkchahjdacboaaRetag
namespace Go.Proofs.Ytnkchahjdacboaa
set_option linter.unusedVariables false
set_option linter.unusedSimpArgs false
open Go.RowKit

attribute [local go_sem ↓] ldS23 ldS25 ldS28 stS28 nqS_eq eqS_eq eqM_eq

def RrOut (f : Fr) (l : List Int) (v : Int) (w : World) (r : Ending) (w' : World) : Prop :=
  ∃ s, r = .returned (.tuple #[.agg (fcs (rtF f l v) s), .int .i64 (rtE f l v)]) ∧ Src w' s (rtR f l v) ∧ Below w.heap.size w w'
theorem rr_err {f : Fr} {l : List Int} {v : Int} {w w' : World} (e : Int) (he : rtE f l v = e) (h0 : ¬ e = 0) (hb : Below w.heap.size w w') : RrOut f l v w (.returned (.tuple #[.agg (fcs zeroF (.slice none 0 0)), .int .i64 e])) w' := by
  obtain ⟨s, h1, h2, h3⟩ := rt_err e he h0 hb
  exact ⟨s, h1, h2.src, h3⟩

set_option maxHeartbeats 1000000 in
theorem rtref_no (f : Fr) (x : Value) (l : List Int) (v : Int) (w : World) (h : Src w x l) (hb : ∀ x ∈ l, 0 ≤ x ∧ x ≤ 255) (hf : f.ok) (he : ¬ chkF f l = 0) :
    Calls Try.prog 18 #[.agg (fcs f x), .int .i64 v] w fun r w' => RrOut f l v w r w' := by
  have h0 := Two.new w f x
  have ld := h0.fr.ld
  have T0 : Hid (Two w ((w.alloc (.cells (fcs f x) 28)).alloc (.cells #[.int .u8 0, .int .u8 0, .int .u8 0, .int .u8 0, .int .u8 0, .int .u8 0, .int .u8 0, .int .u8 0, .int .u8 0, .int .u8 0, .int .u8 0, .int .u8 0, .bool false, .int .i64 0, .bool false, .int .i64 0, .slice none 0 0] 28)) f x) := h0
  have S0 : Hid (Src w x l) := h
  have HK : Hid _ := checkref_any f x l ((w.alloc (.cells (fcs f x) 28)).alloc (.cells #[.int .u8 0, .int .u8 0, .int .u8 0, .int .u8 0, .int .u8 0, .int .u8 0, .int .u8 0, .int .u8 0, .int .u8 0, .int .u8 0, .int .u8 0, .int .u8 0, .bool false, .int .i64 0, .bool false, .int .i64 0, .slice none 0 0] 28)) (h.below h0.below) hb hf
  have HE : Hid (rtE f l v = chkF f l) := by unfold rtE; rw [if_neg he]; rfl
  obtain ⟨E, hE⟩ : ∃ E, chkF f l = E := ⟨_, rfl⟩
  rw [hE] at he HE HK
  have he' : (E != 0) = true := by simpa using he
  have HN : Hid (¬ E = 0) := he
  clear h hb hf h0 hE he
  go_enter Try.func18, Try.ntmps18
  go_wp2_with fail
  refine Calls.mono HK.out ?_
  rintro _ W ⟨rfl, hW⟩
  have T1 : Hid (Two w W f x) := T0.out.later hW
  have zs := T1.out.zero
  have HZ : Hid _ := And.intro T1.out.zeroAt (T1.out.zeroBelow (fcs zeroF (.slice none 0 0)))
  clear hW ld T0 S0 HK
  go_wp2
  refine bodyPost_ret (results_two Try.results18 _ _ _ _ _ _ rfl rfl HZ.out.1) rfl ?_
  exact rr_err E HE.out HN.out HZ.out.2

set_option maxHeartbeats 1000000 in
theorem rtref_plain (f : Fr) (x : Value) (l : List Int) (v : Int) (w : World) (h : Src w x l) (hb : ∀ x ∈ l, 0 ≤ x ∧ x ≤ 255) (hf : f.ok) (he : chkF f l = 0) (ht : f.t = false) :
    Calls Try.prog 18 #[.agg (fcs f x), .int .i64 v] w fun r w' => RrOut f l v w r w' := by
  have h0 := Two.new w f x
  have ld := h0.fr.ld
  have T0 : Hid (Two w ((w.alloc (.cells (fcs f x) 28)).alloc (.cells #[.int .u8 0, .int .u8 0, .int .u8 0, .int .u8 0, .int .u8 0, .int .u8 0, .int .u8 0, .int .u8 0, .int .u8 0, .int .u8 0, .int .u8 0, .int .u8 0, .bool false, .int .i64 0, .bool false, .int .i64 0, .slice none 0 0] 28)) f x) := h0
  have S0 : Hid (Src w x l) := h
  have HK : Hid _ := checkref_any f x l ((w.alloc (.cells (fcs f x) 28)).alloc (.cells #[.int .u8 0, .int .u8 0, .int .u8 0, .int .u8 0, .int .u8 0, .int .u8 0, .int .u8 0, .int .u8 0, .int .u8 0, .int .u8 0, .int .u8 0, .int .u8 0, .bool false, .int .i64 0, .bool false, .int .i64 0, .slice none 0 0] 28)) (h.below h0.below) hb hf
  have HE : Hid (rtE f l v = 30) := by unfold rtE; rw [if_pos he, ht]; rfl
  rw [he] at HK
  have HT : Hid (f.t = false) := ht
  clear h hb hf h0 he ht
  go_enter Try.func18, Try.ntmps18
  go_wp2_with fail
  refine Calls.mono HK.out ?_
  rintro _ W ⟨rfl, hW⟩
  have T1 : Hid (Two w W f x) := T0.out.later hW
  have c12 := T1.out.fr.c12
  rw [HT.out] at c12
  have zs := T1.out.zero
  have HZ : Hid _ := And.intro T1.out.zeroAt (T1.out.zeroBelow (fcs zeroF (.slice none 0 0)))
  clear hW ld T0 S0 HK
  go_wp2
  refine bodyPost_ret (results_two Try.results18 _ _ _ _ _ _ rfl rfl HZ.out.1) rfl ?_
  exact rr_err 30 HE.out (by omega) HZ.out.2

set_option maxHeartbeats 1000000 in
theorem rtref_far (f : Fr) (x : Value) (l : List Int) (v : Int) (w : World) (h : Src w x l) (hb : ∀ x ∈ l, 0 ≤ x ∧ x ≤ 255) (hf : f.ok) (he : chkF f l = 0) (ht : f.t = true) (hv : ¬ (1 ≤ v ∧ v ≤ 4094)) :
    Calls Try.prog 18 #[.agg (fcs f x), .int .i64 v] w fun r w' => RrOut f l v w r w' := by
  have h0 := Two.new w f x
  have ld := h0.fr.ld
  have T0 : Hid (Two w ((w.alloc (.cells (fcs f x) 28)).alloc (.cells #[.int .u8 0, .int .u8 0, .int .u8 0, .int .u8 0, .int .u8 0, .int .u8 0, .int .u8 0, .int .u8 0, .int .u8 0, .int .u8 0, .int .u8 0, .int .u8 0, .bool false, .int .i64 0, .bool false, .int .i64 0, .slice none 0 0] 28)) f x) := h0
  have S0 : Hid (Src w x l) := h
  have HK : Hid _ := checkref_any f x l ((w.alloc (.cells (fcs f x) 28)).alloc (.cells #[.int .u8 0, .int .u8 0, .int .u8 0, .int .u8 0, .int .u8 0, .int .u8 0, .int .u8 0, .int .u8 0, .int .u8 0, .int .u8 0, .int .u8 0, .int .u8 0, .bool false, .int .i64 0, .bool false, .int .i64 0, .slice none 0 0] 28)) (h.below h0.below) hb hf
  have HE : Hid (rtE f l v = 1) := by unfold rtE; rw [if_pos he, ht, if_pos rfl, if_neg hv]; rfl
  rw [he] at HK
  have HT : Hid (f.t = true) := ht
  clear h hb hf h0 he ht
  by_cases hv1 : v < 1
  · clear hv
    go_enter Try.func18, Try.ntmps18
    go_wp2_with fail
    refine Calls.mono HK.out ?_
    rintro _ W ⟨rfl, hW⟩
    have T1 : Hid (Two w W f x) := T0.out.later hW
    have c12 := T1.out.fr.c12
    rw [HT.out] at c12
    have zs := T1.out.zero
    have HZ : Hid _ := And.intro T1.out.zeroAt (T1.out.zeroBelow (fcs zeroF (.slice none 0 0)))
    clear hW ld T0 S0 HK
    go_wp2
    refine bodyPost_ret (results_two Try.results18 _ _ _ _ _ _ rfl rfl HZ.out.1) rfl ?_
    exact rr_err 1 HE.out (by omega) HZ.out.2
  · have hv2 : 4094 < v := by omega
    clear hv
    go_enter Try.func18, Try.ntmps18
    go_wp2_with fail
    refine Calls.mono HK.out ?_
    rintro _ W ⟨rfl, hW⟩
    have T1 : Hid (Two w W f x) := T0.out.later hW
    have c12 := T1.out.fr.c12
    rw [HT.out] at c12
    have zs := T1.out.zero
    have HZ : Hid _ := And.intro T1.out.zeroAt (T1.out.zeroBelow (fcs zeroF (.slice none 0 0)))
    clear hW ld T0 S0 HK
    go_wp2
    refine bodyPost_ret (results_two Try.results18 _ _ _ _ _ _ rfl rfl HZ.out.1) rfl ?_
    exact rr_err 1 HE.out (by omega) HZ.out.2

set_option maxHeartbeats 1000000 in
theorem rtref_yes (f : Fr) (x : Value) (l : List Int) (v : Int) (w : World) (h : Src w x l) (hb : ∀ x ∈ l, 0 ≤ x ∧ x ≤ 255) (hf : f.ok) (he : chkF f l = 0) (ht : f.t = true) (hv : 1 ≤ v ∧ v ≤ 4094) :
    Calls Try.prog 18 #[.agg (fcs f x), .int .i64 v] w fun r w' => RrOut f l v w r w' := by
  have h0 := Two.new w f x
  have ld := h0.fr.ld
  have T0 : Hid (Two w ((w.alloc (.cells (fcs f x) 28)).alloc (.cells #[.int .u8 0, .int .u8 0, .int .u8 0, .int .u8 0, .int .u8 0, .int .u8 0, .int .u8 0, .int .u8 0, .int .u8 0, .int .u8 0, .int .u8 0, .int .u8 0, .bool false, .int .i64 0, .bool false, .int .i64 0, .slice none 0 0] 28)) f x) := h0
  have S0 : Hid (Src w x l) := h
  have HK : Hid _ := checkref_any f x l ((w.alloc (.cells (fcs f x) 28)).alloc (.cells #[.int .u8 0, .int .u8 0, .int .u8 0, .int .u8 0, .int .u8 0, .int .u8 0, .int .u8 0, .int .u8 0, .int .u8 0, .int .u8 0, .int .u8 0, .int .u8 0, .bool false, .int .i64 0, .bool false, .int .i64 0, .slice none 0 0] 28)) (h.below h0.below) hb hf
  have HE : Hid (rtE f l v = 0) := by unfold rtE; rw [if_pos he, ht, if_pos rfl, if_pos hv]; rfl
  rw [he] at HK
  have HT : Hid (f.t = true) := ht
  have hv1 : ¬ v < 1 := by omega
  have hv2 : ¬ 4094 < v := by omega
  have hx1 : x.oneCell' = true := src_one h
  clear h hb hf h0 he ht hv
  go_enter Try.func18, Try.ntmps18
  go_wp2_with fail
  refine Calls.mono HK.out ?_
  rintro _ W ⟨rfl, hW⟩
  have T1 : Hid (Two w W f x) := T0.out.later hW
  have c12 := T1.out.fr.c12
  rw [HT.out] at c12
  have c15 := T1.out.fr.c15
  have lv := T1.out.fr.live
  have h6 : Two w (W.setCell ⟨w.heap.size, 15, none⟩ (.int .i64 v)) (f.vid v) x := ⟨T1.out.fr.vid v, T1.out.z.apart (by simp) _, T1.out.below.setCell (by simp) _⟩
  have ld6 := h6.fr.ld
  have st6 := h6.z.st (g := f.vid v) (y := x) hx1
  have HZ : Hid _ := And.intro (h6.z.set (g := f.vid v) (y := x)) (h6.zeroBelow (fcs (f.vid v) x))
  clear hW ld T0 HK h6
  go_wp2
  refine bodyPost_ret (results_two Try.results18 _ _ _ _ _ _ rfl rfl HZ.out.1) rfl ?_
  refine ⟨x, ?_, ?_, HZ.out.2⟩
  · unfold rtF; rw [HE.out, if_pos rfl]; rfl
  · unfold rtR; rw [HE.out, if_pos rfl]; exact S0.out.below HZ.out.2

theorem rtref_any (f : Fr) (x : Value) (l : List Int) (v : Int) (w : World) (h : Src w x l) (hb : ∀ x ∈ l, 0 ≤ x ∧ x ≤ 255) (hf : f.ok) : Calls Try.prog 18 #[.agg (fcs f x), .int .i64 v] w fun r w' => RrOut f l v w r w' := by
  by_cases he : chkF f l = 0
  · cases ht : f.t
    · exact rtref_plain f x l v w h hb hf he ht
    · by_cases hv : 1 ≤ v ∧ v ≤ 4094
      · exact rtref_yes f x l v w h hb hf he ht hv
      · exact rtref_far f x l v w h hb hf he ht hv
  · exact rtref_no f x l v w h hb hf he
end Go.Proofs.Ytnkchahjdacboaa
