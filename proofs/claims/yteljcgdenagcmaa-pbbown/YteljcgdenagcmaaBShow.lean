/-
  What is shown of a frame of the backbone, the walk, and the walk by definition: for every one.
-/
import Derived.Test.YteljcgdenagcmaaBWalk
import Derived.Test.YteljcgdenagcmaaBCheckRef
namespace Go.Proofs.Yteljcgdenagcmaa
set_option linter.unusedVariables false
set_option maxRecDepth 4000
set_option linter.unusedSimpArgs false
open Go.RowKit

/-- The customer's frame that is shown. -/
def shF (f : Bf) (v : Int) : Fr := ⟨f.x, f.y, true, f.q, f.g, v⟩
/-- The error of showing. -/
def shE (f : Bf) (l : List Int) (v : Int) : Int := if chkB f l = 0 then (if 1 ≤ v ∧ v ≤ 4094 then 0 else 1) else chkB f l
def shG (f : Bf) (l : List Int) (v : Int) : Fr := if shE f l v = 0 then shF f v else zeroF
def shR (f : Bf) (l : List Int) (v : Int) : List Int := if shE f l v = 0 then l else []
def ShOut (f : Bf) (l : List Int) (v : Int) (w : World) (r : Ending) (w' : World) : Prop :=
  ∃ s, r = .returned (.tuple #[.agg (fcs (shG f l v) s), .int .i64 (shE f l v)]) ∧ Own w' w.heap.size s (shR f l v) ∧ Below w.heap.size w w'
theorem sh_err {f : Bf} {l : List Int} {v : Int} {w w' : World} (e : Int) (he : shE f l v = e) (h0 : ¬ e = 0) (hb : Below w.heap.size w w') : ShOut f l v w (.returned (.tuple #[.agg (fcs zeroF (.slice none 0 0)), .int .i64 e])) w' := by
  refine ⟨.slice none 0 0, ?_, ?_, hb⟩
  · unfold shG; rw [he, if_neg h0]
  · unfold shR; rw [he, if_neg h0]; exact own_nil _ _
theorem sh_ok {f : Bf} {l : List Int} {v : Int} {w w' : World} {s : Value} (he : shE f l v = 0) (ho : Own w' w.heap.size s l) (hb : Below w.heap.size w w') : ShOut f l v w (.returned (.tuple #[.agg (fcs (shF f v) s), .int .i64 0])) w' := by
  refine ⟨s, ?_, ?_, hb⟩
  · unfold shG; rw [he, if_pos rfl]
  · unfold shR; rw [he, if_pos rfl]; exact ho
theorem chkB_pri {f : Bf} {l : List Int} (h : chkB f l = 0) : l.length ≤ 1502 ∧ 0 ≤ f.q ∧ f.q ≤ 7 := by
  unfold chkB at h
  by_cases h1 : 1502 < l.length
  · rw [if_pos h1] at h; omega
  · rw [if_neg h1] at h
    cases hb : badB f l
    · unfold badB at hb
      simp only [Bool.or_eq_false_iff, Bool.not_eq_false'] at hb
      have := itagOk_iff.1 hb.2.2.2.1
      omega
    · rw [hb] at h; simp at h

/-- A tag is stored into a customer's frame. -/
theorem FrAt.stt {W : World} {b : Nat} {f : Fr} {z : Value} (h : FrAt W b f z) (p : Int) (e : Bool) (v : Int) : ∃ W', (stS 25 (.pointer (some ⟨b, 13, none⟩)) (.agg #[.int .i64 p, .bool e, .int .i64 v])).run Try.prog W = .ok () W' ∧ FrAt W' b ⟨f.d, f.s, f.t, p, e, v⟩ z ∧ (∀ k, k ≠ b → W'.heap[k]? = W.heap[k]?) ∧ (∀ w, w.heap.size ≤ b → Below w.heap.size w W → Below w.heap.size w W') :=
  ⟨_, store_cells (ty := 25) (o := 13) h info25 (by rw [fcs_size]; show 13 + 3 ≤ 17; omega) (by
    intro c hc
    simp only [List.mem_cons, List.not_mem_nil, or_false] at hc
    rcases hc with rfl | rfl | rfl <;> rfl), setRow_heap W b (fcs f z) (fcs ⟨f.d, f.s, f.t, p, e, v⟩ z) 38 (0, 0) h, fun k hk => setRow_other _ _ _ _ hk, fun w hw hB => below_setRow hB hw _⟩
theorem In2.zat {w W : World} {f : Bf} {x : Value} (h : In2 w W f x) (g : Fr) (y : Value) : FrAt (W.setRow (w.heap.size + 1) (fcs g y)) (w.heap.size + 1) g y ∧ Below w.heap.size w (W.setRow (w.heap.size + 1) (fcs g y)) := ⟨h.z.set, h.zeroBelow _⟩

attribute [local go_sem ↓] slS_eq ldS23 ldS25 ldI27 ldS30 ldS38 stS38 stS30 stS25

set_option maxHeartbeats 1000000 in
theorem show_no (f : Bf) (a : Option Addr) (n c : Nat) (l : List Int) (v : Int) (w : World) (h : Src w (.slice a n c) l) (hb : ∀ x ∈ l, 0 ≤ x ∧ x ≤ 255) (hf : f.ok) (he : ¬ chkB f l = 0) :
    Calls Try.prog 25 #[.agg (bcs f (.slice a n c)), .int .i64 v] w fun r w' => ShOut f l v w r w' := by
  have h0 := In2.new w f (.slice a n c)
  obtain ⟨V, hV⟩ : ∃ V, ((w.alloc (.cells (bcs f (.slice a n c)) 30)).alloc (.cells #[.int .u8 0, .int .u8 0, .int .u8 0, .int .u8 0, .int .u8 0, .int .u8 0, .int .u8 0, .int .u8 0, .int .u8 0, .int .u8 0, .int .u8 0, .int .u8 0, .bool false, .int .i64 0, .bool false, .int .i64 0, .slice none 0 0] 38)) = V := ⟨_, rfl⟩
  rw [hV] at h0
  have ld := h0.fr.ld
  have T0 : Hid (In2 w V f (.slice a n c)) := h0
  have HK : Hid _ := bcheck_any f (.slice a n c) l V (h.below h0.below) hb hf
  have HE : Hid (shE f l v = chkB f l) := by unfold shE; rw [if_neg he]; rfl
  obtain ⟨E, hE⟩ : ∃ E, chkB f l = E := ⟨_, rfl⟩
  rw [hE] at he HE HK
  have he' : (E != 0) = true := by simpa using he
  clear h hb hf h0 hE
  go_enter Try.func25, Try.ntmps25
  go_wp2_with fail
  refine Calls.mono HK.out ?_
  rintro _ W ⟨rfl, hW⟩
  have h1 := T0.out.later hW
  have zs := h1.zero
  have HZ : Hid _ := h1.zat zeroF (.slice none 0 0)
  clear hW ld h1 HK T0 hV
  go_wp2
  refine bodyPost_ret (results_two Try.results25 _ _ _ _ _ _ rfl rfl HZ.out.1) rfl ?_
  exact sh_err E HE.out he HZ.out.2

set_option maxHeartbeats 2000000 in
theorem show_yes (f : Bf) (a : Option Addr) (n c : Nat) (l : List Int) (v : Int) (w : World) (h : Src w (.slice a n c) l) (hb : ∀ x ∈ l, 0 ≤ x ∧ x ≤ 255) (hf : f.ok) (he : chkB f l = 0) :
    Calls Try.prog 25 #[.agg (bcs f (.slice a n c)), .int .i64 v] w fun r w' => ShOut f l v w r w' := by
  have h0 := In2.new w f (.slice a n c)
  obtain ⟨V, hV⟩ : ∃ V, ((w.alloc (.cells (bcs f (.slice a n c)) 30)).alloc (.cells #[.int .u8 0, .int .u8 0, .int .u8 0, .int .u8 0, .int .u8 0, .int .u8 0, .int .u8 0, .int .u8 0, .int .u8 0, .int .u8 0, .int .u8 0, .int .u8 0, .bool false, .int .i64 0, .bool false, .int .i64 0, .slice none 0 0] 38)) = V := ⟨_, rfl⟩
  rw [hV] at h0
  have ld := h0.fr.ld
  have T0 : Hid (In2 w V f (.slice a n c)) := h0
  have HK : Hid _ := bcheck_any f (.slice a n c) l V (h.below h0.below) hb hf
  rw [he] at HK
  have HS : Hid (Src w (.slice a n c) l ∧ l.length ≤ 1502) := ⟨h, (chkB_pri he).1⟩
  obtain ⟨_, hp1, hp2⟩ := chkB_pri he
  obtain ⟨E, hE⟩ : ∃ E, chk (tagOk f.q v) = E := ⟨_, rfl⟩
  have HE : Hid (shE f l v = if E != 0 then 1 else 0) := by
    show _ = _
    unfold shE
    rw [if_pos he, ← hE]
    by_cases hv : 1 ≤ v ∧ v ≤ 4094
    · rw [if_pos hv, tagOk_iff.2 ⟨by omega, by omega, by omega, by omega⟩]; rfl
    · rw [if_neg hv]
      have : tagOk f.q v = false := by
        cases hq : tagOk f.q v
        · rfl
        · have := tagOk_iff.1 hq; omega
      rw [this]; rfl
  have HC : Hid (∀ W, Calls Try.prog 45 #[.agg #[.int .i64 f.q, .bool f.g, .int .i64 v]] W fun r w' => r = .returned (.int .i64 E) ∧ Below W.heap.size W w') := fun W => by rw [← hE]; exact check_any f.q v f.g W
  clear h hb hf h0 he hE hp1 hp2
  go_enter Try.func25, Try.ntmps25
  go_wp2_with fail
  refine Calls.mono HK.out ?_
  rintro _ W ⟨rfl, hW⟩
  have h1 := T0.out.later hW
  have c15 := h1.fr.c15
  have c16 := h1.fr.c16
  obtain ⟨W2, st2, r2, b2, y2⟩ := row_new rt25 W #[.int .i64 0, .bool false, .int .i64 0] #[.int .i64 f.q, .bool f.g, .int .i64 v] rfl rfl (by
    intro c hc
    simp only [List.mem_cons, List.not_mem_nil, or_false] at hc
    rcases hc with rfl | rfl | rfl <;> rfl)
  have ld2 := r2.ld rt25 rfl
  have H2 : Hid (In2 w W2 f (.slice a n c) ∧ RvAt W2 W.heap.size 25 #[.int .i64 f.q, .bool f.g, .int .i64 v] ∧ w.heap.size + 1 < W.heap.size) := ⟨h1.later b2, r2, h1.z.lt⟩
  clear hW ld h1 HK T0 hV b2 r2 y2
  go_wp2_with fail
  refine (HC.out _).mono ?_
  rintro _ W3 ⟨rfl, hW3⟩
  have H3 : Hid (In2 w W3 f (.slice a n c) ∧ RvAt W3 W.heap.size 25 #[.int .i64 f.q, .bool f.g, .int .i64 v]) := ⟨H2.out.1.later hW3, H2.out.2.1.below hW3⟩
  clear hW3 c15 c16 st2 ld2
  cases ge : (E != 0)
  rotate_left
  · have zs := H3.out.1.zero
    have HZ : Hid _ := H3.out.1.zat zeroF (.slice none 0 0)
    go_wp2
    refine bodyPost_ret (results_two Try.results25 _ _ _ _ _ _ rfl rfl HZ.out.1) rfl ?_
    exact sh_err 1 (by rw [HE.out, ge]; rfl) (by omega) HZ.out.2
  · have ld3 := H3.out.1.fr.ld
    go_wp2_with fail
    refine (inside_any f a n c l _ (HS.out.1.below H3.out.1.below) (by have := HS.out.2; omega)).mono ?_
    rintro _ W4 ⟨s4, rfl, ho4, hb4⟩
    obtain ⟨a4, n4, c4, rfl⟩ := src_form ho4.src
    obtain ⟨W5, st5, F5, B5⟩ := store_new W4 f.inn (.slice a4 n4 c4) rfl
    have b45 := below_over hb4 B5
    have h5 := H3.out.1.later b45
    have r5 := H3.out.2.below b45
    have o5 := (ho4.base H3.out.1.below.size).below B5
    have k5 : ∀ k, (Value.slice a4 n4 c4).ownBlock = some k → W.heap.size < k ∧ k < W4.heap.size := fun k hk => ⟨by have h1 := (ho4.block k hk).1; have h2 := H3.out.2.lt; omega, (ho4.block k hk).2⟩
    have hlt := H2.out.2.2
    have hlt2 : W.heap.size < W4.heap.size := by have h2 := H3.out.2.lt; have := hb4.size; omega
    have c12 := F5.c12
    have lv := F5.live
    have f6 := F5.flag true
    have h6 : In2 w (W5.setCell ⟨W4.heap.size, 12, none⟩ (.bool true)) f (.slice a n c) := ⟨h5.fr.apart (by simp; omega) _, h5.z.apart (by simp; omega) _, h5.below.setCell (by simp; omega) _⟩
    have r6 : RvAt (W5.setCell ⟨W4.heap.size, 12, none⟩ (.bool true)) W.heap.size 25 #[.int .i64 f.q, .bool f.g, .int .i64 v] := (heap_setCell_other _ _ _ _ (by simp; omega)).trans r5
    have ld6 := r6.ld rt25 rfl
    obtain ⟨W7, st7, f7, ho7, hb7⟩ := f6.stt f.q f.g v
    have h7 : In2 w W7 f (.slice a n c) := ⟨(ho7 _ (by omega)).trans h6.fr, (ho7 _ (by omega)).trans h6.z, hb7 w (by omega) h6.below⟩
    have o7 : Own W7 w.heap.size (.slice a4 n4 c4) l := o5.of_block fun k hk => by
      have := k5 k hk
      rw [ho7 k (by omega), heap_setCell_other _ _ _ _ (by simp; omega)]
    have f7' : FrAt W7 W4.heap.size (shF f v) (.slice a4 n4 c4) := f7
    have ld7 := f7'.ld
    have st8 := h7.z.st (g := shF f v) (y := .slice a4 n4 c4) rfl
    have HZ : Hid _ := h7.zat (shF f v) (.slice a4 n4 c4)
    have O7 : Hid (Own W7 w.heap.size (.slice a4 n4 c4) l ∧ ∀ k, (Value.slice a4 n4 c4).ownBlock = some k → w.heap.size + 1 < k) := ⟨o7, fun k hk => by have := k5 k hk; omega⟩
    clear ho4 hb4 F5 B5 b45 h5 r5 o5 k5 hlt hlt2 f6 h6 r6 f7 ho7 hb7 h7 o7 f7' ld3
    go_wp2
    refine bodyPost_ret (results_two Try.results25 _ _ _ _ _ _ rfl rfl HZ.out.1) rfl ?_
    refine sh_ok (by rw [HE.out, ge]; rfl) ?_ HZ.out.2
    refine O7.out.1.of_block fun k hk => ?_
    have := O7.out.2 k hk
    rw [setRow_other _ _ _ _ (by omega)]

theorem show_any (f : Bf) (x : Value) (l : List Int) (v : Int) (w : World) (h : Src w x l) (hb : ∀ x ∈ l, 0 ≤ x ∧ x ≤ 255) (hf : f.ok) :
    Calls Try.prog 25 #[.agg (bcs f x), .int .i64 v] w fun r w' => ShOut f l v w r w' := by
  obtain ⟨a, n, c, rfl⟩ := src_form h
  by_cases he : chkB f l = 0
  · exact show_yes f a n c l v w h hb hf he
  · exact show_no f a n c l v w h hb hf he

set_option maxHeartbeats 1000000 in
theorem shoref_no (f : Bf) (a : Option Addr) (n c : Nat) (l : List Int) (v : Int) (w : World) (h : Src w (.slice a n c) l) (hb : ∀ x ∈ l, 0 ≤ x ∧ x ≤ 255) (hf : f.ok) (he : ¬ chkB f l = 0) :
    Calls Try.prog 26 #[.agg (bcs f (.slice a n c)), .int .i64 v] w fun r w' => ShOut f l v w r w' := by
  have h0 := In2.new w f (.slice a n c)
  obtain ⟨V, hV⟩ : ∃ V, ((w.alloc (.cells (bcs f (.slice a n c)) 30)).alloc (.cells #[.int .u8 0, .int .u8 0, .int .u8 0, .int .u8 0, .int .u8 0, .int .u8 0, .int .u8 0, .int .u8 0, .int .u8 0, .int .u8 0, .int .u8 0, .int .u8 0, .bool false, .int .i64 0, .bool false, .int .i64 0, .slice none 0 0] 38)) = V := ⟨_, rfl⟩
  rw [hV] at h0
  have ld := h0.fr.ld
  have T0 : Hid (In2 w V f (.slice a n c)) := h0
  have HK : Hid _ := bcheckref_any f (.slice a n c) l V (h.below h0.below) hb hf
  have HE : Hid (shE f l v = chkB f l) := by unfold shE; rw [if_neg he]; rfl
  obtain ⟨E, hE⟩ : ∃ E, chkB f l = E := ⟨_, rfl⟩
  rw [hE] at he HE HK
  have he' : (E != 0) = true := by simpa using he
  clear h hb hf h0 hE
  go_enter Try.func26, Try.ntmps26
  go_wp2_with fail
  refine Calls.mono HK.out ?_
  rintro _ W ⟨rfl, hW⟩
  have h1 := T0.out.later hW
  have zs := h1.zero
  have HZ : Hid _ := h1.zat zeroF (.slice none 0 0)
  clear hW ld h1 HK T0 hV
  go_wp2
  refine bodyPost_ret (results_two Try.results26 _ _ _ _ _ _ rfl rfl HZ.out.1) rfl ?_
  exact sh_err E HE.out he HZ.out.2

set_option maxHeartbeats 2000000 in
theorem shoref_low (f : Bf) (a : Option Addr) (n c : Nat) (l : List Int) (v : Int) (w : World) (h : Src w (.slice a n c) l) (hb : ∀ x ∈ l, 0 ≤ x ∧ x ≤ 255) (hf : f.ok) (he : chkB f l = 0) (hv : v < 1) :
    Calls Try.prog 26 #[.agg (bcs f (.slice a n c)), .int .i64 v] w fun r w' => ShOut f l v w r w' := by
  have h0 := In2.new w f (.slice a n c)
  obtain ⟨V, hV⟩ : ∃ V, ((w.alloc (.cells (bcs f (.slice a n c)) 30)).alloc (.cells #[.int .u8 0, .int .u8 0, .int .u8 0, .int .u8 0, .int .u8 0, .int .u8 0, .int .u8 0, .int .u8 0, .int .u8 0, .int .u8 0, .int .u8 0, .int .u8 0, .bool false, .int .i64 0, .bool false, .int .i64 0, .slice none 0 0] 38)) = V := ⟨_, rfl⟩
  rw [hV] at h0
  have ld := h0.fr.ld
  have T0 : Hid (In2 w V f (.slice a n c)) := h0
  have HK : Hid _ := bcheckref_any f (.slice a n c) l V (h.below h0.below) hb hf
  rw [he] at HK
  have HS : Hid (Src w (.slice a n c) l ∧ l.length ≤ 1502) := ⟨h, (chkB_pri he).1⟩
  obtain ⟨_, hp1, hp2⟩ := chkB_pri he
  have HE : Hid (shE f l v = 1) := by unfold shE; rw [if_pos he, if_neg (by omega)]; rfl
  clear h hb hf h0 he hp1 hp2
  go_enter Try.func26, Try.ntmps26
  go_wp2_with fail
  refine Calls.mono HK.out ?_
  rintro _ W ⟨rfl, hW⟩
  have h1 := T0.out.later hW
  have zs := h1.zero
  have HZ : Hid _ := h1.zat zeroF (.slice none 0 0)
  clear hW ld h1 HK T0 hV
  go_wp2
  refine bodyPost_ret (results_two Try.results26 _ _ _ _ _ _ rfl rfl HZ.out.1) rfl ?_
  exact sh_err 1 HE.out (by omega) HZ.out.2

set_option maxHeartbeats 2000000 in
theorem shoref_high (f : Bf) (a : Option Addr) (n c : Nat) (l : List Int) (v : Int) (w : World) (h : Src w (.slice a n c) l) (hb : ∀ x ∈ l, 0 ≤ x ∧ x ≤ 255) (hf : f.ok) (he : chkB f l = 0) (hv : 4094 < v) :
    Calls Try.prog 26 #[.agg (bcs f (.slice a n c)), .int .i64 v] w fun r w' => ShOut f l v w r w' := by
  have h0 := In2.new w f (.slice a n c)
  obtain ⟨V, hV⟩ : ∃ V, ((w.alloc (.cells (bcs f (.slice a n c)) 30)).alloc (.cells #[.int .u8 0, .int .u8 0, .int .u8 0, .int .u8 0, .int .u8 0, .int .u8 0, .int .u8 0, .int .u8 0, .int .u8 0, .int .u8 0, .int .u8 0, .int .u8 0, .bool false, .int .i64 0, .bool false, .int .i64 0, .slice none 0 0] 38)) = V := ⟨_, rfl⟩
  rw [hV] at h0
  have ld := h0.fr.ld
  have T0 : Hid (In2 w V f (.slice a n c)) := h0
  have HK : Hid _ := bcheckref_any f (.slice a n c) l V (h.below h0.below) hb hf
  rw [he] at HK
  have HS : Hid (Src w (.slice a n c) l ∧ l.length ≤ 1502) := ⟨h, (chkB_pri he).1⟩
  obtain ⟨_, hp1, hp2⟩ := chkB_pri he
  have hv1 : ¬ v < 1 := by omega
  have HE : Hid (shE f l v = 1) := by unfold shE; rw [if_pos he, if_neg (by omega)]; rfl
  clear h hb hf h0 he hp1 hp2
  go_enter Try.func26, Try.ntmps26
  go_wp2_with fail
  refine Calls.mono HK.out ?_
  rintro _ W ⟨rfl, hW⟩
  have h1 := T0.out.later hW
  have zs := h1.zero
  have HZ : Hid _ := h1.zat zeroF (.slice none 0 0)
  clear hW ld h1 HK T0 hV
  go_wp2
  refine bodyPost_ret (results_two Try.results26 _ _ _ _ _ _ rfl rfl HZ.out.1) rfl ?_
  exact sh_err 1 HE.out (by omega) HZ.out.2

set_option maxHeartbeats 2000000 in
theorem shoref_yes (f : Bf) (a : Option Addr) (n c : Nat) (l : List Int) (v : Int) (w : World) (h : Src w (.slice a n c) l) (hb : ∀ x ∈ l, 0 ≤ x ∧ x ≤ 255) (hf : f.ok) (he : chkB f l = 0) (hv : 1 ≤ v ∧ v ≤ 4094) :
    Calls Try.prog 26 #[.agg (bcs f (.slice a n c)), .int .i64 v] w fun r w' => ShOut f l v w r w' := by
  have h0 := In2.new w f (.slice a n c)
  obtain ⟨V, hV⟩ : ∃ V, ((w.alloc (.cells (bcs f (.slice a n c)) 30)).alloc (.cells #[.int .u8 0, .int .u8 0, .int .u8 0, .int .u8 0, .int .u8 0, .int .u8 0, .int .u8 0, .int .u8 0, .int .u8 0, .int .u8 0, .int .u8 0, .int .u8 0, .bool false, .int .i64 0, .bool false, .int .i64 0, .slice none 0 0] 38)) = V := ⟨_, rfl⟩
  rw [hV] at h0
  have ld := h0.fr.ld
  have T0 : Hid (In2 w V f (.slice a n c)) := h0
  have HK : Hid _ := bcheckref_any f (.slice a n c) l V (h.below h0.below) hb hf
  rw [he] at HK
  have HS : Hid (Src w (.slice a n c) l ∧ l.length ≤ 1502) := ⟨h, (chkB_pri he).1⟩
  obtain ⟨_, hp1, hp2⟩ := chkB_pri he
  have HE : Hid (shE f l v = 0) := by unfold shE; rw [if_pos he, if_pos hv]; rfl
  have hv1 : ¬ v < 1 := by omega
  have hv2 : ¬ 4094 < v := by omega
  clear h hb hf h0 he hp1 hp2 hv
  go_enter Try.func26, Try.ntmps26
  go_wp2_with fail
  refine Calls.mono HK.out ?_
  rintro _ W ⟨rfl, hW⟩
  have H3 : Hid (In2 w W f (.slice a n c)) := T0.out.later hW
  have ld3 := H3.out.fr.ld
  clear hW ld HK T0 hV
  go_wp2_with fail
  refine (insideref_any f a n c l _ (HS.out.1.below H3.out.below) (by have := HS.out.2; omega)).mono ?_
  rintro _ W4 ⟨s4, rfl, ho4, hb4⟩
  obtain ⟨a4, n4, c4, rfl⟩ := src_form ho4.src
  obtain ⟨W5, st5, F5, B5⟩ := store_new W4 f.inn (.slice a4 n4 c4) rfl
  have b45 := below_over hb4 B5
  have h5 := H3.out.later b45
  have o5 := (ho4.base H3.out.below.size).below B5
  have hlt : w.heap.size + 1 < W4.heap.size := by have h2 := H3.out.z.lt; have := hb4.size; omega
  have k5 : ∀ k, (Value.slice a4 n4 c4).ownBlock = some k → w.heap.size + 1 < k ∧ k < W4.heap.size := fun k hk => ⟨by have h1 := (ho4.block k hk).1; have h2 := H3.out.z.lt; omega, (ho4.block k hk).2⟩
  have c12 := F5.c12
  have lv := F5.live
  have f6 := F5.flag true
  have h6 : In2 w (W5.setCell ⟨W4.heap.size, 12, none⟩ (.bool true)) f (.slice a n c) := ⟨h5.fr.apart (by simp; omega) _, h5.z.apart (by simp; omega) _, h5.below.setCell (by simp; omega) _⟩
  have c15 := h6.fr.c15
  have c16 := h6.fr.c16
  obtain ⟨W7, st7, f7, ho7, hb7⟩ := f6.stt f.q f.g v
  have h7 : In2 w W7 f (.slice a n c) := ⟨(ho7 _ (by omega)).trans h6.fr, (ho7 _ (by omega)).trans h6.z, hb7 w (by omega) h6.below⟩
  have o7 : Own W7 w.heap.size (.slice a4 n4 c4) l := o5.of_block fun k hk => by
    have := k5 k hk
    rw [ho7 k (by omega), heap_setCell_other _ _ _ _ (by simp; omega)]
  have f7' : FrAt W7 W4.heap.size (shF f v) (.slice a4 n4 c4) := f7
  have ld7 := f7'.ld
  have st8 := h7.z.st (g := shF f v) (y := .slice a4 n4 c4) rfl
  have HZ : Hid _ := h7.zat (shF f v) (.slice a4 n4 c4)
  have O7 : Hid (Own W7 w.heap.size (.slice a4 n4 c4) l ∧ ∀ k, (Value.slice a4 n4 c4).ownBlock = some k → w.heap.size + 1 < k) := ⟨o7, fun k hk => by have := k5 k hk; omega⟩
  clear ho4 hb4 F5 B5 b45 h5 o5 k5 hlt f6 h6 f7 ho7 hb7 h7 o7 f7' ld3
  go_wp2
  refine bodyPost_ret (results_two Try.results26 _ _ _ _ _ _ rfl rfl HZ.out.1) rfl ?_
  refine sh_ok HE.out ?_ HZ.out.2
  refine O7.out.1.of_block fun k hk => ?_
  have := O7.out.2 k hk
  rw [setRow_other _ _ _ _ (by omega)]

theorem shoref_any (f : Bf) (x : Value) (l : List Int) (v : Int) (w : World) (h : Src w x l) (hb : ∀ x ∈ l, 0 ≤ x ∧ x ≤ 255) (hf : f.ok) :
    Calls Try.prog 26 #[.agg (bcs f x), .int .i64 v] w fun r w' => ShOut f l v w r w' := by
  obtain ⟨a, n, c, rfl⟩ := src_form h
  by_cases he : chkB f l = 0
  · by_cases h1 : v < 1
    · exact shoref_low f a n c l v w h hb hf he h1
    · by_cases h2 : 4094 < v
      · exact shoref_high f a n c l v w h hb hf he h2
      · exact shoref_yes f a n c l v w h hb hf he (by omega)
  · exact shoref_no f a n c l v w h hb hf he
end Go.Proofs.Yteljcgdenagcmaa
