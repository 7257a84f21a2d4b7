/-
  The walk of which frames of the backbone may be, by definition: for every one. What is shown of a frame of the backbone, the walk, and the walk by definition: for every one. Copies of frames: their rows; walks of the closures that make frames, and of the one that gathers copies, each for every input.
-/
import Derived.Test.YtgjagedngdhdaaaJ24XBInside
import Derived.Test.YtgjagedngdhdaaaJ16XBFrame
import Derived.Test.YtgjagedngdhdaaaJ23Rd
import Derived.Test.YtgjagedngdhdaaaJ20XEx
namespace Go.Proofs.Ytgjagedngdhdaaa

section
namespace S4
set_option linter.unusedVariables false
set_option maxRecDepth 4000
set_option linter.unusedSimpArgs false
open Go.RowKit

attribute [local go_sem ↓] slS_eq ldS_MAC ldS_Tag ldI27 ldS_BFrame ldS_Frame stS_Frame stS_BFrame nqS_eq eqS_eq

set_option maxHeartbeats 2000000 in
theorem bcheckref_any (f : Bf) (z : Value) (l : List Int) (w : World) (h : Src w z l) (hb : ∀ x ∈ l, 0 ≤ x ∧ x ≤ 255) (hf : f.ok) :
    Calls Try.prog 72 #[.agg (bcs f z)] w fun r w' => r = .returned (.int .i64 (chkB f l)) ∧ Below w.heap.size w w' := by
  obtain ⟨a, n, c, rfl⟩ := src_form h
  obtain ⟨hn, hc, hm⟩ := src_short h
  have hB : Below w.heap.size w (w.alloc (.cells (bcs f (.slice a n c)) 49)) := (Below.refl _ _).alloc (Nat.le_refl _) _
  have hF := BfAt.new w f (.slice a n c)
  have c31 := hF.c31
  have ls := hF.lds
  obtain ⟨yl, yd, _, yb, yi, y18, _⟩ := hF.laters
  have HB : Hid (Below w.heap.size w (w.alloc (.cells (bcs f (.slice a n c)) 49))) := hB
  obtain ⟨q, hq⟩ : ∃ q, tagOk f.p f.v = q := ⟨_, rfl⟩
  obtain ⟨k, hk⟩ : ∃ k, itagOk f.q f.i = k := ⟨_, rfl⟩
  obtain ⟨m1, hm1⟩ : ∃ k, f.s.kd = k := ⟨_, rfl⟩
  obtain ⟨m2, hm2⟩ : ∃ k, f.d.kd = k := ⟨_, rfl⟩
  obtain ⟨E, hE⟩ : ∃ E, chkF f.inn l = E := ⟨_, rfl⟩
  obtain ⟨i, hi⟩ : ∃ i, f.i = i := ⟨_, rfl⟩
  have HE : Hid (chkB f l = if (1502 : Int) < (n : Int) then 2 else if (m1 != 1) || ((m2 == 6) || (!q || (!k || ((i == 0) || (E != 0))))) then 40 else 0) := by
    show chkB f l = _
    unfold chkB badB
    have e1 : ((1502 : Int) < (n : Int)) ↔ 1502 < l.length := by omega
    simp only [e1, hm1, hm2, hq, hk, hE]
    rw [hi]
  have Q1 : Hid (∀ W, Calls Try.prog 45 #[f.s.v] W fun r w' => r = .returned (.int .i64 m1) ∧ Below W.heap.size W w') := fun W => by rw [← hm1]; exact kind_r f.s W hf.2.1
  have Q2 : Hid (∀ W, Calls Try.prog 45 #[f.d.v] W fun r w' => r = .returned (.int .i64 m2) ∧ Below W.heap.size W w') := fun W => by rw [← hm2]; exact kind_r f.d W hf.1
  have Q3 : Hid (∀ W, Calls Try.prog 86 #[f.tag] W fun r w' => r = .returned (.bool q) ∧ Below W.heap.size W w') := fun W => by rw [← hq]; exact isB_f f W
  have Q4 : Hid (∀ W, Calls Try.prog 96 #[f.itag] W fun r w' => r = .returned (.bool k) ∧ Below W.heap.size W w') := fun W => by rw [← hk]; exact isBi_f f W
  have Q5 : Hid (n ≤ 1502 → ∀ W, Below w.heap.size w W → Calls Try.prog 97 #[.agg (bcs f (.slice a n c))] W fun r w' => ∃ s, r = .returned (.agg (fcs f.inn s)) ∧ Src w' s l ∧ Below W.heap.size W w') := fun hn2 W hW => (insideref_any f a n c l W (h.below hW) (by omega)).mono fun r w' ⟨s, hr, ho, hb⟩ => ⟨s, hr, ho.src, hb⟩
  have Q6 : Hid (∀ W s, Src W s l → Calls Try.prog 30 #[.agg (fcs f.inn s)] W fun r w' => r = .returned (.int .i64 E) ∧ Below W.heap.size W w') := fun W s hs => by rw [← hE]; exact checkref_any f.inn s l W hs hb (Bf.inn_ok hf)
  rw [hi] at y18
  clear h hb hf hF hB hm1 hm2 hq hk hE hi hn
  by_cases hL : (1502 : Int) < (n : Int)
  · clear Q1 Q2 Q3 Q4 Q5 Q6 yl yd yb yi y18 ls
    go_enter Try.func72, Try.ntmps72
    go_wp2
    go_ret
    refine ⟨ret_int ?_, HB.out⟩
    rw [HE.out]
    simp [*]
  cases g1 : (m1 != 1)
  rotate_left
  · clear Q2 Q3 Q4 Q5 Q6 yl yd yb yi y18
    go_enter Try.func72, Try.ntmps72
    go_wp2_with fail
    refine Calls.on_later (Q1.out _) ?_
    intro z1
    go_wp2
    go_ret
    refine ⟨ret_int ?_, below_later HB.out _⟩
    rw [HE.out]
    simp [*]
  cases g2 : (m2 == 6)
  rotate_left
  · clear Q3 Q4 Q5 Q6 yl yb yi y18
    go_enter Try.func72, Try.ntmps72
    go_wp2_with fail
    refine Calls.on_later (Q1.out _) ?_
    intro z1
    go_wp2_with fail
    refine Calls.on_later2 (Q2.out _) ?_
    intro z2
    go_wp2
    go_ret
    refine ⟨ret_int ?_, below_later HB.out _⟩
    rw [HE.out]
    simp [*]
  cases q
  · clear Q4 Q5 Q6 yl yi y18
    go_enter Try.func72, Try.ntmps72
    go_wp2_with fail
    refine Calls.on_later (Q1.out _) ?_
    intro z1
    go_wp2_with fail
    refine Calls.on_later2 (Q2.out _) ?_
    intro z2
    go_wp2_with fail
    refine Calls.on_later2 (Q3.out _) ?_
    intro z3
    go_wp2
    go_ret
    refine ⟨ret_int ?_, below_later HB.out _⟩
    rw [HE.out]
    simp [*]
  cases k
  · clear Q5 Q6 yl y18
    go_enter Try.func72, Try.ntmps72
    go_wp2_with fail
    refine Calls.on_later (Q1.out _) ?_
    intro z1
    go_wp2_with fail
    refine Calls.on_later2 (Q2.out _) ?_
    intro z2
    go_wp2_with fail
    refine Calls.on_later2 (Q3.out _) ?_
    intro z3
    go_wp2_with fail
    refine Calls.on_later2 (Q4.out _) ?_
    intro z4
    go_wp2
    go_ret
    refine ⟨ret_int ?_, below_later HB.out _⟩
    rw [HE.out]
    simp [*]
  cases g5 : (i == 0)
  rotate_left
  · clear Q5 Q6 yl
    go_enter Try.func72, Try.ntmps72
    go_wp2_with fail
    refine Calls.on_later (Q1.out _) ?_
    intro z1
    go_wp2_with fail
    refine Calls.on_later2 (Q2.out _) ?_
    intro z2
    go_wp2_with fail
    refine Calls.on_later2 (Q3.out _) ?_
    intro z3
    go_wp2_with fail
    refine Calls.on_later2 (Q4.out _) ?_
    intro z4
    go_wp2
    go_ret
    refine ⟨ret_int ?_, below_later HB.out _⟩
    rw [HE.out]
    simp [*]
  cases g6 : (E != 0)
  all_goals
    go_enter Try.func72, Try.ntmps72
    go_wp2_with fail
    refine Calls.on_later (Q1.out _) ?_
    intro z1
    go_wp2_with fail
    refine Calls.on_later2 (Q2.out _) ?_
    intro z2
    go_wp2_with fail
    refine Calls.on_later2 (Q3.out _) ?_
    intro z3
    go_wp2_with fail
    refine Calls.on_later2 (Q4.out _) ?_
    intro z4
    go_wp2_with fail
    have hL2 : n ≤ 1502 := by omega
    refine (Q5.out hL2 _ (below_later HB.out z4)).mono ?_
    rintro _ W5 ⟨s5, rfl, h5, b5⟩
    have B5 : Hid (Below w.heap.size w W5) := below_over (below_later HB.out z4) b5
    have S5 : Hid (Src W5 s5 l) := h5
    clear h5 b5
    go_wp2_with fail
    refine (Q6.out W5 s5 S5.out).mono ?_
    rintro _ W6 ⟨rfl, b6⟩
    have B6 : Hid (Below w.heap.size w W6) := below_over B5.out b6
    clear b6
    go_wp2
    go_ret
    refine ⟨ret_int ?_, B6.out⟩
    rw [HE.out]
    simp [*]
end S4
end

section
namespace S4
set_option linter.unusedVariables false
set_option maxRecDepth 4000
set_option linter.unusedSimpArgs false
open Go.RowKit

/-- The customer's frame that is shown. -/
def shF (f : Bf) (v : Int) : Fr := ⟨f.x, f.y, true, f.q, f.g, v⟩
/-- The error of showing. -/
def shE (f : Bf) (l : List Int) (v : Int) : Int := if chkB f l = 0 then (if 1 ≤ v ∧ v ≤ 4094 then 0 else 1) else chkB f l
def shG (f : Bf) (l : List Int) (v : Int) : Fr := if shE f l v = 0 then shF f v else zeroF
def shR (f : Bf) (l : List Int) (v : Int) : List Int := if shE f l v = 0 then l else []
def ShOut (f : Bf) (l : List Int) (v : Int) (w : World) (r : Ending) (w' : World) : Prop :=
  ∃ s, r = .returned (.tuple #[.agg (fcs (shG f l v) s), .int .i64 (shE f l v)]) ∧ Own w' w.heap.size s (shR f l v) ∧ Below w.heap.size w w'
theorem sh_err {f : Bf} {l : List Int} {v : Int} {w w' : World} (e : Int) (he : shE f l v = e) (h0 : ¬ e = 0) (hb : Below w.heap.size w w') : ShOut f l v w (.returned (.tuple #[.agg (fcs zeroF (.slice none 0 0)), .int .i64 e])) w' := by
  refine ⟨.slice none 0 0, ?_, ?_, hb⟩
  · unfold shG; rw [he, if_neg h0]
  · unfold shR; rw [he, if_neg h0]; exact own_nil _ _
theorem sh_ok {f : Bf} {l : List Int} {v : Int} {w w' : World} {s : Value} (he : shE f l v = 0) (ho : Own w' w.heap.size s l) (hb : Below w.heap.size w w') : ShOut f l v w (.returned (.tuple #[.agg (fcs (shF f v) s), .int .i64 0])) w' := by
  refine ⟨s, ?_, ?_, hb⟩
  · unfold shG; rw [he, if_pos rfl]
  · unfold shR; rw [he, if_pos rfl]; exact ho
theorem chkB_pri {f : Bf} {l : List Int} (h : chkB f l = 0) : l.length ≤ 1502 ∧ 0 ≤ f.q ∧ f.q ≤ 7 := by
  unfold chkB at h
  by_cases h1 : 1502 < l.length
  · rw [if_pos h1] at h; omega
  · rw [if_neg h1] at h
    cases hb : badB f l
    · unfold badB at hb
      simp only [Bool.or_eq_false_iff, Bool.not_eq_false'] at hb
      have := itagOk_iff.1 hb.2.2.2.1
      omega
    · rw [hb] at h; simp at h

/-- A tag is stored into a customer's frame. -/
theorem FrAt.stt {W : World} {b : Nat} {f : Fr} {z : Value} (h : FrAt W b f z) (p : Int) (e : Bool) (v : Int) : ∃ W', (stS 32 (.pointer (some ⟨b, 13, none⟩)) (.agg #[.int .i64 p, .bool e, .int .i64 v])).run Try.prog W = .ok () W' ∧ FrAt W' b ⟨f.d, f.s, f.t, p, e, v⟩ z ∧ (∀ k, k ≠ b → W'.heap[k]? = W.heap[k]?) ∧ (∀ w, w.heap.size ≤ b → Below w.heap.size w W → Below w.heap.size w W') :=
  ⟨_, store_cells (ty := 32) (o := 13) h info_Tag (by rw [fcs_size]; show 13 + 3 ≤ 17; omega) (by
    intro c hc
    simp only [List.mem_cons, List.not_mem_nil, or_false] at hc
    rcases hc with rfl | rfl | rfl <;> rfl), setRow_heap W b (fcs f z) (fcs ⟨f.d, f.s, f.t, p, e, v⟩ z) 34 (0, 0) h, fun k hk => setRow_other _ _ _ _ hk, fun w hw hB => below_setRow hB hw _⟩
theorem In2.zat {w W : World} {f : Bf} {x : Value} (h : In2 w W f x) (g : Fr) (y : Value) : FrAt (W.setRow (w.heap.size + 1) (fcs g y)) (w.heap.size + 1) g y ∧ Below w.heap.size w (W.setRow (w.heap.size + 1) (fcs g y)) := ⟨h.z.set, h.zeroBelow _⟩

attribute [local go_sem ↓] slS_eq ldS_MAC ldS_Tag ldI27 ldS_BFrame ldS_Frame stS_Frame stS_BFrame stS_Tag

set_option maxHeartbeats 1000000 in
theorem show_no (f : Bf) (a : Option Addr) (n c : Nat) (l : List Int) (v : Int) (w : World) (h : Src w (.slice a n c) l) (hb : ∀ x ∈ l, 0 ≤ x ∧ x ≤ 255) (hf : f.ok) (he : ¬ chkB f l = 0) :
    Calls Try.prog 52 #[.agg (bcs f (.slice a n c)), .int .i64 v] w fun r w' => ShOut f l v w r w' := by
  have h0 := In2.new w f (.slice a n c)
  obtain ⟨V, hV⟩ : ∃ V, ((w.alloc (.cells (bcs f (.slice a n c)) 49)).alloc (.cells #[.int .u8 0, .int .u8 0, .int .u8 0, .int .u8 0, .int .u8 0, .int .u8 0, .int .u8 0, .int .u8 0, .int .u8 0, .int .u8 0, .int .u8 0, .int .u8 0, .bool false, .int .i64 0, .bool false, .int .i64 0, .slice none 0 0] 34)) = V := ⟨_, rfl⟩
  rw [hV] at h0
  have ld := h0.fr.ld
  have T0 : Hid (In2 w V f (.slice a n c)) := h0
  have HK : Hid _ := bcheck_any f (.slice a n c) l V (h.below h0.below) hb hf
  have HE : Hid (shE f l v = chkB f l) := by unfold shE; rw [if_neg he]; rfl
  obtain ⟨E, hE⟩ : ∃ E, chkB f l = E := ⟨_, rfl⟩
  rw [hE] at he HE HK
  have he' : (E != 0) = true := by simpa using he
  clear h hb hf h0 hE
  go_enter Try.func52, Try.ntmps52
  go_wp2_with fail
  refine Calls.mono HK.out ?_
  rintro _ W ⟨rfl, hW⟩
  have h1 := T0.out.later hW
  have zs := h1.zero
  have HZ : Hid _ := h1.zat zeroF (.slice none 0 0)
  clear hW ld h1 HK T0 hV
  go_wp2
  refine bodyPost_ret (results_two Try.results52 _ _ _ _ _ _ rfl rfl HZ.out.1) rfl ?_
  exact sh_err E HE.out he HZ.out.2

set_option maxHeartbeats 2000000 in
theorem show_yes (f : Bf) (a : Option Addr) (n c : Nat) (l : List Int) (v : Int) (w : World) (h : Src w (.slice a n c) l) (hb : ∀ x ∈ l, 0 ≤ x ∧ x ≤ 255) (hf : f.ok) (he : chkB f l = 0) :
    Calls Try.prog 52 #[.agg (bcs f (.slice a n c)), .int .i64 v] w fun r w' => ShOut f l v w r w' := by
  have h0 := In2.new w f (.slice a n c)
  obtain ⟨V, hV⟩ : ∃ V, ((w.alloc (.cells (bcs f (.slice a n c)) 49)).alloc (.cells #[.int .u8 0, .int .u8 0, .int .u8 0, .int .u8 0, .int .u8 0, .int .u8 0, .int .u8 0, .int .u8 0, .int .u8 0, .int .u8 0, .int .u8 0, .int .u8 0, .bool false, .int .i64 0, .bool false, .int .i64 0, .slice none 0 0] 34)) = V := ⟨_, rfl⟩
  rw [hV] at h0
  have ld := h0.fr.ld
  have T0 : Hid (In2 w V f (.slice a n c)) := h0
  have HK : Hid _ := bcheck_any f (.slice a n c) l V (h.below h0.below) hb hf
  rw [he] at HK
  have HS : Hid (Src w (.slice a n c) l ∧ l.length ≤ 1502) := ⟨h, (chkB_pri he).1⟩
  obtain ⟨_, hp1, hp2⟩ := chkB_pri he
  obtain ⟨E, hE⟩ : ∃ E, chk (tagOk f.q v) = E := ⟨_, rfl⟩
  have HE : Hid (shE f l v = if E != 0 then 1 else 0) := by
    show _ = _
    unfold shE
    rw [if_pos he, ← hE]
    by_cases hv : 1 ≤ v ∧ v ≤ 4094
    · rw [if_pos hv, tagOk_iff.2 ⟨by omega, by omega, by omega, by omega⟩]; rfl
    · rw [if_neg hv]
      have : tagOk f.q v = false := by
        cases hq : tagOk f.q v
        · rfl
        · have := tagOk_iff.1 hq; omega
      rw [this]; rfl
  have HC : Hid (∀ W, Calls Try.prog 81 #[.agg #[.int .i64 f.q, .bool f.g, .int .i64 v]] W fun r w' => r = .returned (.int .i64 E) ∧ Below W.heap.size W w') := fun W => by rw [← hE]; exact check_any f.q v f.g W
  clear h hb hf h0 he hE hp1 hp2
  go_enter Try.func52, Try.ntmps52
  go_wp2_with fail
  refine Calls.mono HK.out ?_
  rintro _ W ⟨rfl, hW⟩
  have h1 := T0.out.later hW
  have c15 := h1.fr.c15
  have c16 := h1.fr.c16
  obtain ⟨W2, st2, r2, b2, y2⟩ := row_new rt_Tag W #[.int .i64 0, .bool false, .int .i64 0] #[.int .i64 f.q, .bool f.g, .int .i64 v] rfl rfl (by
    intro c hc
    simp only [List.mem_cons, List.not_mem_nil, or_false] at hc
    rcases hc with rfl | rfl | rfl <;> rfl)
  have ld2 := r2.ld rt_Tag rfl
  have H2 : Hid (In2 w W2 f (.slice a n c) ∧ RvAt W2 W.heap.size 32 #[.int .i64 f.q, .bool f.g, .int .i64 v] ∧ w.heap.size + 1 < W.heap.size) := ⟨h1.later b2, r2, h1.z.lt⟩
  clear hW ld h1 HK T0 hV b2 r2 y2
  go_wp2_with fail
  refine (HC.out _).mono ?_
  rintro _ W3 ⟨rfl, hW3⟩
  have H3 : Hid (In2 w W3 f (.slice a n c) ∧ RvAt W3 W.heap.size 32 #[.int .i64 f.q, .bool f.g, .int .i64 v]) := ⟨H2.out.1.later hW3, H2.out.2.1.below hW3⟩
  clear hW3 c15 c16 st2 ld2
  cases ge : (E != 0)
  rotate_left
  · have zs := H3.out.1.zero
    have HZ : Hid _ := H3.out.1.zat zeroF (.slice none 0 0)
    go_wp2
    refine bodyPost_ret (results_two Try.results52 _ _ _ _ _ _ rfl rfl HZ.out.1) rfl ?_
    exact sh_err 1 (by rw [HE.out, ge]; rfl) (by omega) HZ.out.2
  · have ld3 := H3.out.1.fr.ld
    go_wp2_with fail
    refine (inside_any f a n c l _ (HS.out.1.below H3.out.1.below) (by have := HS.out.2; omega)).mono ?_
    rintro _ W4 ⟨s4, rfl, ho4, hb4⟩
    obtain ⟨a4, n4, c4, rfl⟩ := src_form ho4.src
    obtain ⟨W5, st5, F5, B5⟩ := store_new W4 f.inn (.slice a4 n4 c4) rfl
    have b45 := below_over hb4 B5
    have h5 := H3.out.1.later b45
    have r5 := H3.out.2.below b45
    have o5 := (ho4.base H3.out.1.below.size).below B5
    have k5 : ∀ k, (Value.slice a4 n4 c4).ownBlock = some k → W.heap.size < k ∧ k < W4.heap.size := fun k hk => ⟨by have h1 := (ho4.block k hk).1; have h2 := H3.out.2.lt; omega, (ho4.block k hk).2⟩
    have hlt := H2.out.2.2
    have hlt2 : W.heap.size < W4.heap.size := by have h2 := H3.out.2.lt; have := hb4.size; omega
    have c12 := F5.c12
    have lv := F5.live
    have f6 := F5.flag true
    have h6 : In2 w (W5.setCell ⟨W4.heap.size, 12, none⟩ (.bool true)) f (.slice a n c) := ⟨h5.fr.apart (by simp; omega) _, h5.z.apart (by simp; omega) _, h5.below.setCell (by simp; omega) _⟩
    have r6 : RvAt (W5.setCell ⟨W4.heap.size, 12, none⟩ (.bool true)) W.heap.size 32 #[.int .i64 f.q, .bool f.g, .int .i64 v] := (heap_setCell_other _ _ _ _ (by simp; omega)).trans r5
    have ld6 := r6.ld rt_Tag rfl
    obtain ⟨W7, st7, f7, ho7, hb7⟩ := f6.stt f.q f.g v
    have h7 : In2 w W7 f (.slice a n c) := ⟨(ho7 _ (by omega)).trans h6.fr, (ho7 _ (by omega)).trans h6.z, hb7 w (by omega) h6.below⟩
    have o7 : Own W7 w.heap.size (.slice a4 n4 c4) l := o5.of_block fun k hk => by
      have := k5 k hk
      rw [ho7 k (by omega), heap_setCell_other _ _ _ _ (by simp; omega)]
    have f7' : FrAt W7 W4.heap.size (shF f v) (.slice a4 n4 c4) := f7
    have ld7 := f7'.ld
    have st8 := h7.z.st (g := shF f v) (y := .slice a4 n4 c4) rfl
    have HZ : Hid _ := h7.zat (shF f v) (.slice a4 n4 c4)
    have O7 : Hid (Own W7 w.heap.size (.slice a4 n4 c4) l ∧ ∀ k, (Value.slice a4 n4 c4).ownBlock = some k → w.heap.size + 1 < k) := ⟨o7, fun k hk => by have := k5 k hk; omega⟩
    clear ho4 hb4 F5 B5 b45 h5 r5 o5 k5 hlt hlt2 f6 h6 r6 f7 ho7 hb7 h7 o7 f7' ld3
    go_wp2
    refine bodyPost_ret (results_two Try.results52 _ _ _ _ _ _ rfl rfl HZ.out.1) rfl ?_
    refine sh_ok (by rw [HE.out, ge]; rfl) ?_ HZ.out.2
    refine O7.out.1.of_block fun k hk => ?_
    have := O7.out.2 k hk
    rw [setRow_other _ _ _ _ (by omega)]

theorem show_any (f : Bf) (x : Value) (l : List Int) (v : Int) (w : World) (h : Src w x l) (hb : ∀ x ∈ l, 0 ≤ x ∧ x ≤ 255) (hf : f.ok) :
    Calls Try.prog 52 #[.agg (bcs f x), .int .i64 v] w fun r w' => ShOut f l v w r w' := by
  obtain ⟨a, n, c, rfl⟩ := src_form h
  by_cases he : chkB f l = 0
  · exact show_yes f a n c l v w h hb hf he
  · exact show_no f a n c l v w h hb hf he

end S4
end

section
set_option linter.unusedVariables false
set_option maxRecDepth 4000
set_option linter.unusedSimpArgs false
open Go.RowKit

/-! ### rows of copies -/
def eY : El Mr := ⟨Mr.cs, 64, 58, 2, 32⟩
theorem kY : eY.Ok := ⟨fun _ => rfl, by decide, fun _ => one_of rfl, Try.underlying58, ⟨.agg (Mr.cs ⟨0, none, 0, 0⟩), by kernel_rfl, rfl⟩, by decide⟩
theorem infoYs : (Try.prog.info? 58).map (·.size) = some 1 := by kernel_rfl
theorem stYs (x y : Value) : Instr.storeAt 58 x y = stS 58 x y := rfl
theorem apY (ty : TypeId) (xs : Array Value) : Builtin.append_ #[58, 58] ty xs = apS 58 ty xs := rfl
theorem bsY (n : Nat) (ps : Array (Nat × Value)) : Instr.buildSlice 58 n ps = bsS 58 n ps := rfl
def bdQ (t : TypeId) (ps : Array (Nat × Value)) : Sem Value := Instr.build t ps
theorem bdY (ps : Array (Nat × Value)) : Instr.build 64 ps = bdQ 64 ps := rfl
theorem bdY_is (p : Int) (a : Option Addr) (n c : Nat) (w : World) : (bdQ 64 #[(0, .int .i64 p), (1, .slice a n c)]).run Try.prog w = .ok (.agg (Mr.mk p a n c).cs) w := by kernel_rfl
theorem bsY_is (x : Mr) (w : World) : (bsS 58 1 #[(0, .agg x.cs)]).run Try.prog w = .ok (.slice (some ⟨w.heap.size, 0, none⟩) 1 1) (w.alloc (.cells x.cs 64)) := by kernel_rfl
attribute [local go_sem ↓] ldP stP ldMc stMc ldFr stFr ldBf stBf stSb stYs apY bsY bdY
attribute [local go_sem] bsY_is bdY_is

/-- A copy whose bytes are one's own; a copy as it reads. -/
def OwnC (W : World) (B : Nat) (x : Mr) (y : Mb) : Prop := x.v = y.v ∧ S4.Own W B (.slice x.a x.n x.c) y.ps
def SrcC (W : World) (x : Mr) (y : Mb) : Prop := x.v = y.v ∧ S4.Src W (.slice x.a x.n x.c) y.ps
theorem OwnC.src {W : World} {B : Nat} {x : Mr} {y : Mb} (h : OwnC W B x y) : SrcC W x y := ⟨h.1, h.2.src⟩
theorem SrcC.below {W W' : World} {x : Mr} {y : Mb} (hb : Below W.heap.size W W') (h : SrcC W x y) : SrcC W' x y := ⟨h.1, h.2.below hb⟩
/-- Copies, as they read. -/
def IsCy (W : World) (v : Value) (L : List Mb) : Prop := ∃ rr, SlV eY W v rr ∧ Al (SrcC W) rr L
theorem IsCy.below {W W' : World} {v : Value} {L : List Mb} (h : IsCy W v L) (hb : Below W.heap.size W W') : IsCy W' v L := by
  obtain ⟨rr, h1, h2⟩ := h
  exact ⟨rr, h1.below hb, h2.mono fun x y hh => hh.below hb⟩
theorem IsCy.nil (W : World) : IsCy W (.slice none 0 0) [] := ⟨[], SlV.none' _, trivial⟩
/-- The bytes of a copy stay where a block of another kind is written. -/
def NoBy (W : World) (g : Nat) : Prop := ∀ cs u, W.heap[g]? ≠ some (.cells cs 5 u)
theorem own_apart {W W' : World} {B g : Nat} {v : Value} {l : List Int} (h : S4.Own W B v l) (hg : W.grownBy W' (some g)) (hn : NoBy W g) : S4.Own W' B v l := by
  refine World.ownsRow.kept h hg ?_
  rcases h.2 with ⟨rfl, _⟩ | ⟨b, cap, cur, rfl, _, h4, _⟩
  · exact .inl rfl
  · exact .inr fun e => by
      cases e
      exact hn _ _ h4
theorem RvAt.noBy {W : World} {g : Nat} {ty : TypeId} {cs : Array Value} (h : RvAt W g ty cs) (ht : ty ≠ 5) : NoBy W g := fun cs' u e => by
  have h' : W.heap[g]? = some (.cells cs ty (0, 0)) := h
  rw [h'] at e
  cases e
  exact ht rfl

/-- What copies has: the variables, the set, the copies so far. -/
structure CpS (w0 W : World) (B bp bo bm : Nat) (x : Pr) (done : List Int) (L : List Mb) : Prop where
  bel : Below w0.heap.size w0 W
  pr : PrAt W bp x
  out : ∃ v rr, RvAt W bo 58 #[v] ∧ Own eY W B v rr ∧ Al (OwnC W B) rr L
  set : SetIs W bm done
  lt : bp < B ∧ bo < B ∧ bm < B
  ne : bp ≠ bo ∧ bm ≠ bo ∧ bp ≠ bm
  siz : B ≤ W.heap.size
  lo : w0.heap.size ≤ bo ∧ w0.heap.size ≤ bm
theorem OwnC.below {W W' : World} {B : Nat} {x : Mr} {y : Mb} (hb : Below W.heap.size W W') (h : OwnC W B x y) : OwnC W' B x y := ⟨h.1, h.2.below hb⟩
theorem CpS.below {w0 W W' : World} {B bp bo bm : Nat} {x : Pr} {done : List Int} {L : List Mb} (h : CpS w0 W B bp bo bm x done L) (hb : Below W.heap.size W W') : CpS w0 W' B bp bo bm x done L := by
  obtain ⟨v, rr, h1, h2, h3⟩ := h.out
  exact ⟨below_over h.bel hb, h.pr.below hb, ⟨v, rr, h1.below hb, h2.below hb, h3.mono fun a b hh => hh.below hb⟩, h.set.below hb, h.lt, h.ne, Nat.le_trans h.siz hb.size, h.lo⟩
theorem CpS.map {w0 W W' : World} {B bp bo bm : Nat} {x : Pr} {done done' : List Int} {L : List Mb} (h : CpS w0 W B bp bo bm x done L) (hs : SetIs W' bm done') (hg : W.grownBy W' (some bm)) : CpS w0 W' B bp bo bm x done' L := by
  obtain ⟨v, rr, h1, h2, h3⟩ := h.out
  exact ⟨gro h.bel hg h.lo.2 h.bel.size, h.pr.keptBut hg (by have := h.ne.2.2; simp; omega), ⟨v, rr, h1.keptBut hg (by have := h.ne.2.1; simp; omega), h2.kept hg h.lt.2.2, h3.mono fun a b hh => ⟨hh.1, hh.2.kept hg h.lt.2.2⟩⟩, hs, h.lt, h.ne, Nat.le_trans h.siz hg.size, h.lo⟩
theorem CpS.done {w0 W : World} {B bp bo bm : Nat} {x : Pr} {done : List Int} {L : List Mb} (h : CpS w0 W B bp bo bm x done L) : ∃ v, W.cell? ⟨bo, 0, none⟩ = some v ∧ IsCy W v L := by
  obtain ⟨v, rr, h1, h2, h3⟩ := h.out
  exact ⟨v, RvAt.cell h1 0 _ rfl, rr, h2.slv, h3.mono fun a b hh => hh.src⟩
/-- One more copy. -/
theorem CpS.more {w0 W : World} {B bp bo bm : Nat} {x : Pr} {done : List Int} {L : List Mb} (h : CpS w0 W B bp bo bm x done L) (hL : L.length ≤ 1000) {q : Int} {a : Option Addr} {n c : Nat} {bs : List Int} (hb : S4.Own W B (.slice a n c) bs) :
    ∃ v, W.cell? ⟨bo, 0, none⟩ = some v ∧ ∃ v' Y, (apS 58 58 #[v, .slice (some ⟨W.heap.size, 0, none⟩) 1 1]).run Try.prog (W.alloc (.cells (Mr.mk q a n c).cs 64)) = .ok v' Y ∧ ∃ Z, (stS 58 (.pointer (some ⟨bo, 0, none⟩)) v').run Try.prog Y = .ok () Z ∧ CpS w0 Z B bp bo bm x done (L ++ [⟨q, bs⟩]) := by
  obtain ⟨v, rr, h1, h2, h3⟩ := h.out
  refine ⟨v, RvAt.cell h1 0 _ rfl, ?_⟩
  obtain ⟨X, hX⟩ : ∃ z, W.alloc (.cells (Mr.mk q a n c).cs 64) = z := ⟨_, rfl⟩
  have bX : Below W.heap.size W X := by rw [← hX]; exact (Below.refl _ _).alloc (Nat.le_refl _) _
  have sX : SlAt eY X (some ⟨W.heap.size, 0, none⟩) 1 1 [Mr.mk q a n c] := by rw [← hX]; exact one_new W (Mr.mk q a n c) kY
  obtain ⟨v', Y, ap, oY, gY⟩ := Own.app kY (h2.below bX) sX (by rw [h3.len]; simp; omega) (Nat.le_trans h.siz bX.size) 58
  have hn : ∀ g, v.ownBlock = some g → NoBy X g ∧ B ≤ g := fun g hg => by
    have ho := h2.below bX
    refine ⟨?_, (h2.blk g hg).1⟩
    rcases ho.2 with ⟨e, _⟩ | ⟨b, cap, cur, e, _, h4, _⟩
    · rw [e] at hg; cases hg
    · rw [e] at hg
      cases hg
      exact RvAt.noBy (ty := 64) (cs := cur) h4 (by decide)
  have kY1 : ∀ {v : Value} {l : List Int}, S4.Own X B v l → S4.Own Y B v l := fun {u l} hu => by
    cases hv : v.ownBlock with
    | none => rw [hv] at gY; exact hu.of_block fun k hk => gY.block k (hu.block k hk).2 (by simp)
    | some g => rw [hv] at gY; exact own_apart hu gY (hn g hv).1
  have bY : Below B W Y := (bX.mono h.siz).trans (below_of_grown gY (Nat.le_trans h.siz bX.size) fun j e => (hn j e).2)
  have rY : RvAt Y bo 58 #[v] := (bY.block bo h.lt.2.1).trans h1
  have ho1 : v'.oneCell' = true := oY.slv.one
  have sZ := RvAt.st1 rY infoYs (k := 0) (v := v') (by show 0 < 1; decide) ho1
  have gZ := grown_row Y bo ((#[v] : Array Value).toList.set 0 v').toArray
  have zY : Y.heap.size ≥ B := Nat.le_trans h.siz (Nat.le_trans bX.size gY.size)
  refine ⟨v', Y, by rw [hX]; exact ap, _, sZ, gro (h.bel.trans (bY.mono (Nat.le_trans h.lo.1 (Nat.le_of_lt h.lt.2.1)))) gZ h.lo.1 (by have := h.lo.1; have := h.lt.2.1; omega), ?_, ⟨v', rr ++ [Mr.mk q a n c], RvAt.set rY, oY.kept gZ h.lt.2.1, ?_⟩, ?_, h.lt, h.ne, Nat.le_trans zY gZ.size, h.lo⟩
  · exact PrAt.keptBut (show PrAt Y bp x from (bY.block bp h.lt.1).trans h.pr) gZ (by have := h.ne.1; simp; omega)
  · refine Al.snoc ⟨rfl, (kY1 (hb.below bX)).kept gZ h.lt.2.1⟩ (h3.mono fun a b hh => ⟨hh.1, (kY1 (hh.2.below bX)).kept gZ h.lt.2.1⟩)
  · have sY : SetIs Y bm done := by
      refine (h.set.below bX).keptBut gY fun e => ?_
      have := (hn bm e.symm).2
      have := h.lt.2.2
      omega
    exact sY.keptBut gZ (by have := h.ne.2.1; simp; omega)

/-! ### the closures -/
set_option maxHeartbeats 2000000 in
theorem gather_any {w0 W : World} {B bp bo bm : Nat} {x : Pr} {done : List Int} {L : List Mb} (h : CpS w0 W B bp bo bm x done L) (hL : L.length ≤ 1000) (q : Int) (f : S4.Fr) (z : Value) (l : List Int) (hs : S4.Src W z l) (hb : ∀ x ∈ l, 0 ≤ x ∧ x ≤ 255) (hf : f.ok) :
    Calls Try.prog 83 #[.int .i64 q, .agg (S4.fcs f z), .pointer (some ⟨bo, 0, none⟩)] W fun r w' => r = .returned (.tuple #[]) ∧ CpS w0 w' B bp bo bm x done (L ++ [⟨q, S4.encO f l⟩]) := by
  obtain ⟨V, hV, r0, bV, zV⟩ := FrAt.new W f z
  have l0 := r0.ld
  have K : Hid (CpS w0 V B bp bo bm x done L ∧ L.length ≤ 1000) := ⟨h.below bV, hL⟩
  obtain ⟨E, hE⟩ : ∃ e, S4.encO f l = e := ⟨_, rfl⟩
  obtain ⟨N, hN⟩ : ∃ e, S4.chkF f l = e := ⟨_, rfl⟩
  have C : Hid (Calls Try.prog 84 #[.agg (S4.fcs f z)] V fun r w' => ∃ s, r = .returned (.tuple #[s, .int .i64 N]) ∧ S4.Own w' V.heap.size s E ∧ Below V.heap.size V w') := by rw [← hE, ← hN]; exact S4.encode_any f z l V (hs.below bV) hb hf
  rw [hE]
  clear h hL hs hb hf r0 bV zV hE hN
  go_enter Try.func83, Try.ntmps83
  go_wp2_with fail
  refine C.out.mono ?_
  rintro _ X ⟨s, rfl, oX, bX⟩
  obtain ⟨a, n, c, rfl⟩ := S4.src_form oX.src
  obtain ⟨v, cv, v', Y, ap, Z, sZ, S⟩ := (K.out.1.below bX).more K.out.2 (q := q) (oX.base K.out.1.siz)
  have G : Hid (CpS w0 Z B bp bo bm x done (L ++ [⟨q, E⟩])) := S
  clear oX bX S l0 C
  go_wp2
  go_end0
  exact ⟨rfl, G.out⟩
set_option maxHeartbeats 2000000 in
theorem dec_any (f : S4.Bf) (z : Value) (l : List Int) (v : Int) (cb : Nat) (W : World) (h : BfAt W cb f z) (hs : S4.Src W z l) (hb : ∀ x ∈ l, 0 ≤ x ∧ x ≤ 255) (hf : f.ok) :
    Calls Try.prog 51 #[.int .i64 v, .pointer (some ⟨cb, 0, none⟩)] W fun r w' => S4.ShOut f l v W r w' := by
  obtain ⟨V, hV, m0, bV, zV⟩ := FrAt.zero W
  have l0 := (h.below bV).ld
  obtain ⟨F, hF⟩ : ∃ e, S4.shG f l v = e := ⟨_, rfl⟩
  obtain ⟨E, hE⟩ : ∃ e, S4.shE f l v = e := ⟨_, rfl⟩
  obtain ⟨R, hR⟩ : ∃ e, S4.shR f l v = e := ⟨_, rfl⟩
  have H : Hid (FrAt V W.heap.size S4.zeroF (.slice none 0 0) ∧ Below W.heap.size W V ∧ V.heap.size = W.heap.size + 1) := ⟨m0, bV, zV⟩
  have C : Hid (Calls Try.prog 52 #[.agg (S4.bcs f z), .int .i64 v] V fun r w' => ∃ s, r = .returned (.tuple #[.agg (S4.fcs F s), .int .i64 E]) ∧ S4.Own w' V.heap.size s R ∧ Below V.heap.size V w') := by rw [← hF, ← hE, ← hR]; exact S4.show_any f z l v V (hs.below bV) hb hf
  unfold S4.ShOut
  rw [hF, hE, hR]
  clear h hs hb hf m0 bV zV hF hE hR
  go_enter Try.func51, Try.ntmps51
  go_wp2_with fail
  refine C.out.mono ?_
  rintro _ X ⟨s, rfl, oX, bX⟩
  obtain ⟨Z, sZ, mZ, gZ⟩ := (H.out.1.below bX).st F s oX.one
  have G : Hid (FrAt Z W.heap.size F s ∧ S4.Own Z W.heap.size s R ∧ Below W.heap.size W Z) := ⟨mZ, (oX.kept gZ (by have := H.out.2.2; omega)).base (by have := H.out.2.2; omega), gro (below_over H.out.2.1 bX) gZ (Nat.le_refl _) (below_over H.out.2.1 bX).size⟩
  clear oX bX mZ gZ C
  go_wp2
  exact ret_fw Try.results51 rfl rfl rfl G.out.1 ⟨s, rfl, G.out.2.1, G.out.2.2⟩
set_option maxHeartbeats 2000000 in
theorem ret_any (f : S4.Fr) (z : Value) (l : List Int) (v : Int) (cb : Nat) (W : World) (h : FrAt W cb f z) (hs : S4.Src W z l) (hb : ∀ x ∈ l, 0 ≤ x ∧ x ≤ 255) (hf : f.ok) :
    Calls Try.prog 57 #[.int .i64 v, .pointer (some ⟨cb, 0, none⟩)] W fun r w' => S4.RtOut f l v W r w' := by
  obtain ⟨V, hV, m0, bV, zV⟩ := FrAt.zero W
  have l0 := (h.below bV).ld
  obtain ⟨F, hF⟩ : ∃ e, S4.rtF f l v = e := ⟨_, rfl⟩
  obtain ⟨E, hE⟩ : ∃ e, S4.rtE f l v = e := ⟨_, rfl⟩
  obtain ⟨R, hR⟩ : ∃ e, S4.rtR f l v = e := ⟨_, rfl⟩
  have H : Hid (FrAt V W.heap.size S4.zeroF (.slice none 0 0) ∧ Below W.heap.size W V ∧ V.heap.size = W.heap.size + 1) := ⟨m0, bV, zV⟩
  have C : Hid (Calls Try.prog 58 #[.agg (S4.fcs f z), .int .i64 v] V fun r w' => ∃ s, r = .returned (.tuple #[.agg (S4.fcs F s), .int .i64 E]) ∧ S4.Own w' V.heap.size s R ∧ Below V.heap.size V w') := by rw [← hF, ← hE, ← hR]; exact S4.retag_any f z l v V (hs.below bV) hb hf
  unfold S4.RtOut
  rw [hF, hE, hR]
  clear h hs hb hf m0 bV zV hF hE hR
  go_enter Try.func57, Try.ntmps57
  go_wp2_with fail
  refine C.out.mono ?_
  rintro _ X ⟨s, rfl, oX, bX⟩
  obtain ⟨Z, sZ, mZ, gZ⟩ := (H.out.1.below bX).st F s oX.one
  have G : Hid (FrAt Z W.heap.size F s ∧ S4.Own Z W.heap.size s R ∧ Below W.heap.size W Z) := ⟨mZ, (oX.kept gZ (by have := H.out.2.2; omega)).base (by have := H.out.2.2; omega), gro (below_over H.out.2.1 bX) gZ (Nat.le_refl _) (below_over H.out.2.1 bX).size⟩
  clear oX bX mZ gZ C
  go_wp2
  exact ret_fw Try.results57 rfl rfl rfl G.out.1 ⟨s, rfl, G.out.2.1, G.out.2.2⟩
end

end Go.Proofs.Ytgjagedngdhdaaa
