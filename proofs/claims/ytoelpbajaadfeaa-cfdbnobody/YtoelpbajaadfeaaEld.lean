/-
  The walks of elder, eldest: the entry that goes first, whatever order the map's entries come in.
-/
import Derived.Test.YtoelpbajaadfeaaSm
namespace Go.Proofs.Ytoelpbajaadfeaa
set_option linter.unusedVariables false
set_option maxRecDepth 4000
set_option linter.unusedSimpArgs false
open Go.RowKit

/-- Does x go ahead of y? -/
def ahead (x y : En) : Bool := decide (x.seen < y.seen ∨ x.seen = y.seen ∧ x.rk < y.rk)
theorem MapIs.lookx {W : World} {b : Nat} {l : List En} (h : MapIs W b l) {x : En} (hx : x ∈ l) :
    (Instr.lookup 58 (.map (some b)) (.agg x.k.cs) false).run Try.prog W = .ok (.agg #[.int .u8 x.bm.a, .int .u8 x.bm.b, .int .u8 x.bm.c, .int .u8 x.bm.d, .int .u8 x.bm.e, .int .u8 x.bm.f, .int .i64 x.seen]) W := by
  have := h.look1 (h.2.1 x hx).k
  have e := h.1.look hx
  unfold En.rk at e
  rw [e] at this
  exact this
theorem two_keys (w : World) (k q : Ky) : ∃ W, (w.alloc (.cells k.cs 74)).alloc (.cells q.cs 74) = W ∧ RvAt W w.heap.size 74 k.cs ∧ RvAt W (w.heap.size + 1) 74 q.cs ∧ Below w.heap.size w W :=
  ⟨_, rfl, (RvAt.new w _ _).below ((Below.refl _ _).alloc (Nat.le_refl _) _), by have := RvAt.new (w.alloc (.cells k.cs 74)) 74 q.cs; simpa using this, ((Below.refl _ _).alloc (Nat.le_refl _) _).alloc (by simp) _⟩
attribute [local go_sem ↓] ldK stK ldM stM ldP stP
set_option maxHeartbeats 800000 in
theorem elder_any (p b : Nat) (l : List En) (x y : En) (w : World) (hc : w.cell? ⟨p, 2, none⟩ = some (.map (some b))) (hm : MapIs w b l) (hx : x ∈ l) (hy : y ∈ l) :
    Calls Try.prog 48 #[.pointer (some ⟨p, 0, none⟩), .agg x.k.cs, .agg y.k.cs] w fun r w' => r = .returned (.bool (ahead x y)) ∧ Below w.heap.size w w' := by
  obtain ⟨W, hW, r1, r2, bW⟩ := two_keys w x.k y.k
  have hpl : p < w.heap.size := World.block_lt_of_cell? w _ hc
  have C := compare_any x.k y.k
  have wx := (hm.2.1 x hx).k
  have wy := (hm.2.1 y hy).k
  have H : Hid (Below w.heap.size w W ∧ (∀ W', Calls Try.prog 36 #[.agg x.k.cs, .agg y.k.cs] W' fun r w' => r = .returned (.int .i64 (cmpK x.k y.k)) ∧ Bd W' w')) := ⟨bW, fun W' => C W' wx wy⟩
  have f3 := fun q : Later W => (q.below.cell (p := ⟨p, 2, none⟩) (Nat.lt_of_lt_of_le hpl bW.size)).trans ((bW.cell (p := ⟨p, 2, none⟩) hpl).trans hc)
  have f1 := fun q : Later W => (r1.below q.below).ld rtK (Ky.size _)
  have f2 := fun q : Later W => (r2.below q.below).ld rtK (Ky.size _)
  have g1 := fun q : Later W => ((hm.below bW).below q.below).lookx hx
  have g2 := fun q : Later W => ((hm.below bW).below q.below).lookx hy
  have bx := (hm.2.1 x hx).seen
  have by' := (hm.2.1 y hy).seen
  clear r1 r2 bW C wx wy hc hm
  go_enter Try.func48, Try.ntmps48
  go_wp2_with fail
  refine wp_region_later (by kernel_rfl) (by kernel_rfl) ?_
  repeat (go_big_quiet_step (first | exact rfl))
  refine wpQuiet_nil ?_
  intro _ hw'
  obtain ⟨q, rfl⟩ := hw'
  have l1 := f1 q
  have l2 := f2 q
  have Bq : Hid (Below w.heap.size w q.val) := below_later H.out.1 q
  clear f1 f2 f3 g1 g2 hW
  by_cases hs : x.seen = y.seen
  · have ha : ahead x y = decide (cmpK x.k y.k < 0) := by
      unfold ahead cmpK En.rk
      by_cases h1 : x.k.rk = y.k.rk
      · simp [h1, hs]
      · by_cases h2 : x.k.rk < y.k.rk <;> simp [h1, h2, hs]
    go_wp2_with fail
    refine (H.out.2 _).mono ?_
    rintro _ W2 ⟨rfl, b2⟩
    have B2 := below_over Bq.out b2.1
    clear b2
    go_wp2
    go_ret
    exact ⟨ret_bool ha.symm, B2⟩
  · have ha : ahead x y = decide (x.seen < y.seen) := by
      unfold ahead
      simp [hs]
    go_wp2
    go_ret
    exact ⟨ret_bool ha.symm, Bq.out⟩
/-- A variable stored anew. -/
theorem RvAt.put {W : World} {b n : Nat} {ty : TypeId} {cs ds : Array Value} (t : RowTy ty n) (h : RvAt W b ty cs) (hn : cs.size = n) (hd : ds.size = n) (h1 : ∀ v ∈ ds.toList, v.oneCell' = true) :
    ∃ W', (stS ty (.pointer (some ⟨b, 0, none⟩)) (.agg ds)).run Try.prog W = .ok () W' ∧ RvAt W' b ty ds ∧ W.grownBy W' (some b) ∧ W'.heap.size = W.heap.size := by
  refine ⟨_, h.st t hn hd h1, h.set, ?_, by simp⟩
  have hB := below_setRow (B := b) (g := b) (Below.refl b W) (Nat.le_refl _) ds
  refine ⟨rfl, rfl, rfl, by simp, fun i hi hne => ?_⟩
  exact setRow_other W b i ds (fun e => hne (by rw [e]))
def zeroK : Ky := ⟨0, 0, 0, 0, 0, 0, 0⟩
theorem zeroK_wf : zeroK.wf := ⟨by simp [zeroK], by simp [zeroK], by simp [zeroK], by simp [zeroK], by simp [zeroK], by simp [zeroK], by simp [zeroK]⟩
/-- An entry of the range, laid into the round's two variables. -/
theorem kv_new (W : World) (k : Ky) (x : En) : ∃ Wa Wb, (stS 74 (.pointer (some ⟨W.heap.size, 0, none⟩)) (.agg k.cs)).run Try.prog ((W.alloc (.cells #[.int .i64 0, .int .u8 0, .int .u8 0, .int .u8 0, .int .u8 0, .int .u8 0, .int .u8 0] 74)).alloc (.cells #[.int .u8 0, .int .u8 0, .int .u8 0, .int .u8 0, .int .u8 0, .int .u8 0, .int .i64 0] 76)) = .ok () Wa ∧
    (stS 76 (.pointer (some ⟨W.heap.size + 1, 0, none⟩)) (.agg x.pc)).run Try.prog Wa = .ok () Wb ∧ RvAt Wb W.heap.size 74 k.cs ∧ RvAt Wb (W.heap.size + 1) 76 x.pc ∧ Below W.heap.size W Wb ∧ Wb.heap.size = W.heap.size + 2 := by
  obtain ⟨W0, hW0⟩ : ∃ W0, (W.alloc (.cells #[.int .i64 0, .int .u8 0, .int .u8 0, .int .u8 0, .int .u8 0, .int .u8 0, .int .u8 0] 74)).alloc (.cells #[.int .u8 0, .int .u8 0, .int .u8 0, .int .u8 0, .int .u8 0, .int .u8 0, .int .i64 0] 76) = W0 := ⟨_, rfl⟩
  have r1 : RvAt W0 W.heap.size 74 zeroK.cs := by rw [← hW0]; exact (RvAt.new W _ _).below ((Below.refl _ _).alloc (Nat.le_refl _) _)
  have r2 : RvAt W0 (W.heap.size + 1) 76 #[.int .u8 0, .int .u8 0, .int .u8 0, .int .u8 0, .int .u8 0, .int .u8 0, .int .i64 0] := by rw [← hW0]; have := RvAt.new (W.alloc (.cells #[.int .i64 0, .int .u8 0, .int .u8 0, .int .u8 0, .int .u8 0, .int .u8 0, .int .u8 0] 74)) 76 #[.int .u8 0, .int .u8 0, .int .u8 0, .int .u8 0, .int .u8 0, .int .u8 0, .int .i64 0]; simpa using this
  have b0 : Below W.heap.size W W0 := by rw [← hW0]; exact ((Below.refl _ _).alloc (Nat.le_refl _) _).alloc (by simp) _
  have z0 : W0.heap.size = W.heap.size + 2 := by rw [← hW0]; simp
  obtain ⟨Wa, sa, ra, ga, za⟩ := r1.put rtK (Ky.size _) (Ky.size k) (Ky.one k)
  have r2a : RvAt Wa (W.heap.size + 1) 76 #[.int .u8 0, .int .u8 0, .int .u8 0, .int .u8 0, .int .u8 0, .int .u8 0, .int .i64 0] := (ga.block _ r2.lt (by simp)).trans r2
  obtain ⟨Wb, sb, rb, gb, zb⟩ := r2a.put rtP rfl (En.psize x) (En.pone x)
  refine ⟨Wa, Wb, by rw [hW0]; exact sa, sb, (gb.block _ ra.lt (by simp)).trans ra, rb, ?_, by omega⟩
  refine Below.trans (Below.trans b0 (below_of_grown ga (by omega) (fun j e => by cases e; exact Nat.le_refl _))) (below_of_grown gb (by omega) (fun j e => by cases e; omega))
theorem results_rowtmp {fn : Func} {k n t : Nat} {ty : TypeId} (T : RowTy ty n) (hr : fn.results = #[.cell k ty, .tmp t]) (tmps : Array Value) (w : World) (b : Nat) (cs : Array Value) (h2 : tmps.getD k undef = .pointer (some ⟨b, 0, none⟩)) (h : RvAt w b ty cs) (hn : cs.size = n) :
    (results fn tmps).run Try.prog w = .ok (.tuple #[.agg cs, tmps.getD t undef]) w := by
  have hl := h.lv T hn
  have h2' : tmps[k]?.getD undef = .pointer (some ⟨b, 0, none⟩) := by simpa using h2
  simp [results, hr, asAddr, hl, h2']
/-- What the search has found among those that have come. -/
def Cand (l todo : List En) (k : Ky) (f : Bool) : Prop :=
  (f = false ∧ ∀ y ∈ l, y ∈ todo) ∨ (f = true ∧ ∃ x ∈ l, x ∉ todo ∧ x.k = k ∧ ∀ y ∈ l, y ∉ todo → x.seen < y.seen ∨ x.seen = y.seen ∧ x.rk ≤ y.rk)
theorem notin_del {todo : List En} {x y : En} (hs : Srt todo) (hx : x ∈ todo) (h : y ∉ del todo x.rk) : y = x ∨ y ∉ todo := by
  by_cases hy : y ∈ todo
  · left
    by_cases e : y.rk = x.rk
    · exact hs.inj hy hx e
    · exact absurd (mem_del.2 ⟨hy, e⟩) h
  · exact .inr hy
theorem Cand.first {l todo : List En} {k : Ky} (h : Cand l todo k false) (hs : Srt todo) {x : En} (hx : x ∈ todo) (hxl : x ∈ l) : Cand l (del todo x.rk) x.k true := by
  rcases h with ⟨hf, ha⟩ | ⟨hf, _⟩
  · refine .inr ⟨rfl, x, hxl, fun h => (mem_del.1 h).2 rfl, rfl, fun y hy hn => ?_⟩
    rcases notin_del hs hx hn with rfl | hn
    · exact .inr ⟨rfl, Int.le_refl _⟩
    · exact absurd (ha y hy) hn
  · cases hf
theorem Cand.better {l todo : List En} {z x : En} (h : ∀ y ∈ l, y ∉ todo → z.seen < y.seen ∨ z.seen = y.seen ∧ z.rk ≤ y.rk) (hs : Srt todo) (hx : x ∈ todo) (hxl : x ∈ l) (ha : ahead x z = true) : Cand l (del todo x.rk) x.k true := by
  refine .inr ⟨rfl, x, hxl, fun h => (mem_del.1 h).2 rfl, rfl, fun y hy hn => ?_⟩
  unfold ahead at ha
  have ha := of_decide_eq_true ha
  rcases notin_del hs hx hn with rfl | hn
  · exact .inr ⟨rfl, Int.le_refl _⟩
  · have := h y hy hn
    omega
theorem Cand.stays {l todo : List En} {z x : En} (h : ∀ y ∈ l, y ∉ todo → z.seen < y.seen ∨ z.seen = y.seen ∧ z.rk ≤ y.rk) (hz : z ∈ l) (hz2 : z ∉ todo) (hs : Srt todo) (hx : x ∈ todo) (ha : ahead x z = false) : Cand l (del todo x.rk) z.k true := by
  refine .inr ⟨rfl, z, hz, fun h => hz2 (mem_del.1 h).1, rfl, fun y hy hn => ?_⟩
  unfold ahead at ha
  have ha := of_decide_eq_false ha
  rcases notin_del hs hx hn with rfl | hn
  · omega
  · exact h y hy hn
theorem Cand.done {l : List En} {k : Ky} {f : Bool} (h : Cand l [] k f) (hs : Srt l) : ∀ x, eld l = some x → k = x.k := by
  intro x hx
  rcases h with ⟨hf, ha⟩ | ⟨hf, z, hz, hz2, hk, ha⟩
  · cases ha x (eld_old hx).mem
  · rw [eld_some hs ⟨hz, fun y hy => ha y hy (by simp)⟩] at hx
    cases hx
    exact hk.symm
/-- An entry's key, laid into a new variable. -/
theorem k_new (W : World) (k : Ky) : ∃ Wb, (stS 74 (.pointer (some ⟨W.heap.size, 0, none⟩)) (.agg k.cs)).run Try.prog (W.alloc (.cells #[.int .i64 0, .int .u8 0, .int .u8 0, .int .u8 0, .int .u8 0, .int .u8 0, .int .u8 0] 74)) = .ok () Wb ∧ RvAt Wb W.heap.size 74 k.cs ∧ Below W.heap.size W Wb ∧ Wb.heap.size = W.heap.size + 1 :=
  row_new rtK W #[.int .i64 0, .int .u8 0, .int .u8 0, .int .u8 0, .int .u8 0, .int .u8 0, .int .u8 0] k.cs rfl (Ky.size _) (Ky.one _)
end Go.Proofs.Ytoelpbajaadfeaa
