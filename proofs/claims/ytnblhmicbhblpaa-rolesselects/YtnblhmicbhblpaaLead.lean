/-
  Which port leads to the root: ownWord, leads, and the definition's Candidate: their walks, for every tree and port.
-/
import Derived.Test.YtnblhmicbhblpaaVs
import Derived.Test.YtnblhmicbhblpaaTail
namespace Go.Proofs.Ytnblhmicbhblpaa
set_option linter.unusedVariables false
set_option maxRecDepth 4000
set_option linter.unusedSimpArgs false
open Go.RowKit

theorem two_tp (w : World) (h : Hd) (x : Value) (p : Pt) : ∃ W, (w.alloc (.cells (trc h x) 31)).alloc (.cells p.cs 47) = W ∧ RvAt W w.heap.size 31 (trc h x) ∧ RvAt W (w.heap.size + 1) 47 p.cs ∧ Below w.heap.size w W ∧ W.heap.size = w.heap.size + 2 := by
  obtain ⟨A, hA, rA, bA, zA⟩ := one_t w h x
  obtain ⟨D, hD, rD, bD, zD⟩ := new_p A p
  rw [zA] at rD
  exact ⟨D, by rw [hA, hD], rA.below bD, rD, below_over bA bD, by omega⟩
/-- Was what a port has told by its own bridge? -/
def owB (h : Hd) (p : Pt) : Bool := sameA (p.nm 38) (h.nm 0)
/-- Does it lead to the root? -/
def ldB (h : Hd) (p : Pt) : Bool := decide (p.nm 29 = 3) && !(owB h p)
attribute [local go_sem ↓] ldP stP ldT stT
set_option maxHeartbeats 1000000 in
theorem ownw_any (h : Hd) (x : Value) (p : Pt) (w : World) :
    Calls Try.prog 35 #[.agg (trc h x), .agg p.cs] w fun r w' => r = .returned (.bool (owB h p)) ∧ Below w.heap.size w w' := by
  obtain ⟨W, hW, r0, r1, bW, zW⟩ := two_tp w h x p
  have c0 := fun q : Later W => (r0.below q.below).tnum (j := 0) (k := .u64) rfl
  have c38 := fun q : Later W => (r1.below q.below).num (j := 38) (k := .u64) rfl
  have P1 : Hid (∀ q : Later W, _) := fun q : Later W => address_any (p.nm 38) q.val (p.u64 rfl)
  have P2 : Hid (∀ q : Later W, _) := fun q : Later W => address_any (h.nm 0) q.val (h.u64 rfl)
  have he := eq6_ad (p.nm 38) (h.nm 0)
  have H : Hid (Below w.heap.size w W) := bW
  clear r0 r1 bW zW
  unfold owB
  go_enter Try.func35, Try.ntmps35
  go_wp2_with fail
  refine wp_region_later (by kernel_rfl) (by kernel_rfl) ?_
  repeat (go_big_quiet_step (first
    | exact rfl
    | (go_at_call 40; with_reducible exact Calls.later_of (P1.out _))
    | (go_at_call 40; with_reducible exact Calls.later_of (P2.out _))))
  refine wpQuiet_nil ?_
  intro _ hw'
  obtain ⟨z, rfl⟩ := hw'
  go_wp2
  go_ret
  exact ⟨rfl, below_later H.out z⟩
set_option maxHeartbeats 1000000 in
theorem leads_any (h : Hd) (x : Value) (p : Pt) (w : World) :
    Calls Try.prog 22 #[.agg (trc h x), .agg p.cs] w fun r w' => r = .returned (.bool (ldB h p)) ∧ Below w.heap.size w w' := by
  obtain ⟨W, hW, r0, r1, bW, zW⟩ := two_tp w h x p
  have l0 := r0.tld
  have l1 := r1.pld
  have c29 := r1.num (j := 29) (k := .i64) rfl
  have H : Hid (Below w.heap.size w W) := bW
  clear r0 r1 bW zW
  unfold ldB
  by_cases h1 : p.nm 29 = 3
  · rw [h1] at c29 ⊢
    go_enter Try.func22, Try.ntmps22
    go_wp2_with fail
    refine (ownw_any h x p W).mono ?_
    rintro _ W1 ⟨rfl, b1⟩
    have H1 : Hid (Below w.heap.size w W1) := below_over H.out b1
    clear b1 H l0 l1 hW c29 h1
    obtain ⟨B, hB⟩ : ∃ B, owB h p = B := ⟨_, rfl⟩
    rw [hB]
    have HB : Hid (owB h p = B) := hB
    clear hB
    go_wp2
    go_ret
    exact ⟨by simp [HB.out], H1.out⟩
  · have hb : (p.nm 29 == 3) = false := by simpa using h1
    go_enter Try.func22, Try.ntmps22
    go_wp2
    go_ret
    exact ⟨by simp [h1], H.out⟩
def zvC : Array Value := #[.int .u64 0, .int .u32 0, .int .u64 0, .int .u16 0]
def zeroVc : Vc := zeroR kdV
theorem zeroVc_is : zeroVc.cs = zvC := by kernel_rfl
theorem RvAt.vst {W : World} {b : Nat} {u v : Vc} (hb : RvAt W b 28 u.cs) : ∃ W', (stS 28 (.pointer (some ⟨b, 0, none⟩)) (.agg v.cs)).run Try.prog W = .ok () W' ∧ RvAt W' b 28 v.cs ∧ W.grownBy W' (some b) :=
  ⟨_, hb.st rtV (by rw [Row.csize, lenV]) (by rw [Row.csize, lenV]) v.one', hb.set, grown_row _ _ _⟩
theorem RvAt.vld {W : World} {b : Nat} {v : Vc} (hb : RvAt W b 28 v.cs) : (ldS 28 (.pointer (some ⟨b, 0, none⟩))).run Try.prog W = .ok (.agg v.cs) W := hb.ld rtV (by rw [Row.csize, lenV])
theorem new_v (W : World) (v : Vc) : ∃ W', (stS 28 (.pointer (some ⟨W.heap.size, 0, none⟩)) (.agg v.cs)).run Try.prog (W.alloc (.cells #[.int .u64 0, .int .u32 0, .int .u64 0, .int .u16 0] 28)) = .ok () W' ∧ RvAt W' W.heap.size 28 v.cs ∧ Below W.heap.size W W' ∧ W'.heap.size = W.heap.size + 1 :=
  row_new rtV W _ v.cs rfl (by rw [Row.csize, lenV]) v.one'
theorem new_pv (W : World) (p : Pt) : ∃ W', (stS 47 (.pointer (some ⟨W.heap.size, 0, none⟩)) (.agg p.cs)).run Try.prog (W.alloc (.cells zeroP.cs 47)) = .ok () W' ∧ RvAt W' W.heap.size 47 p.cs ∧ Below W.heap.size W W' ∧ W'.heap.size = W.heap.size + 1 :=
  row_new rtP W _ p.cs (by rw [Row.csize, lenP]) (by rw [Row.csize, lenP]) p.one'
theorem results_vi {fn : Func} {k t : Nat} (hr : fn.results = #[.cell k 28, .tmp t]) (tmps : Array Value) (w : World) (b : Nat) (p : Vc) (h2 : tmps.getD k undef = .pointer (some ⟨b, 0, none⟩)) (h : RvAt w b 28 p.cs) :
    (results fn tmps).run Try.prog w = .ok (.tuple #[.agg p.cs, tmps.getD t undef]) w := by
  have hl := h.lv rtV (by rw [Row.csize, lenV])
  have h2' : tmps[k]?.getD undef = .pointer (some ⟨b, 0, none⟩) := by simpa using h2
  simp [results, hr, asAddr, hl, h2']
/-- A function that tells a vector and something besides, at its end. -/
theorem ret_vi {fn : Func} {k t : Nat} (hr : fn.results = #[.cell k 28, .tmp t]) {R : Ending → World → Prop} {a : Act} {w : World} {b : Nat} {p : Vc} {x : Value} (hd : a.defers = []) (h2 : a.tmps.getD k undef = .pointer (some ⟨b, 0, none⟩)) (h3 : a.tmps.getD t undef = x) (h : RvAt w b 28 p.cs) (hR : R (.returned (.tuple #[.agg p.cs, x])) w) : bodyPost Try.prog fn R .ret a w :=
  bodyPost_ret (results_vi hr _ _ _ _ h2 h) hd (by rw [h3]; exact hR)
/-- A tree handed in and room for a vector. -/
theorem two_tv (w : World) (h : Hd) (x : Value) : ∃ W, (w.alloc (.cells (trc h x) 31)).alloc (.cells #[.int .u64 0, .int .u32 0, .int .u64 0, .int .u16 0] 28) = W ∧ RvAt W w.heap.size 31 (trc h x) ∧ RvAt W (w.heap.size + 1) 28 zeroVc.cs ∧ Below w.heap.size w W ∧ W.heap.size = w.heap.size + 2 := by
  obtain ⟨A, hA, rA, bA, zA⟩ := one_t w h x
  rw [hA]
  have bB : Below A.heap.size A (A.alloc (.cells zeroVc.cs 28)) := (Below.refl _ _).alloc (Nat.le_refl _) _
  have rB : RvAt (A.alloc (.cells zeroVc.cs 28)) A.heap.size 28 zeroVc.cs := RvAt.new A _ _
  rw [zA] at rB
  refine ⟨_, rfl, ?_⟩
  rw [show (#[.int .u64 0, .int .u32 0, .int .u64 0, .int .u16 0] : Array Value) = zeroVc.cs from zeroVc_is.symm]
  exact ⟨rA.below bB, rB, below_over bA bB, by simp [zA]⟩
/-- What the definition tells of a port's candidate. -/
def canV (h : Hd) (p : Pt) : Vc := if ldB h p = true then addV p else zeroVc
/-- Sealed: a value, built. -/
def bdS (t : TypeId) (ps : Array (Nat × Value)) : Sem Value := Instr.build t ps
theorem bdV (ps : Array (Nat × Value)) : Instr.build 28 ps = bdS 28 ps := rfl
theorem bdv (w : World) : (bdS 28 #[]).run Try.prog w = .ok (.agg zeroVc.cs) w := by kernel_rfl
attribute [local go_sem ↓] ldV stV alP bdV
attribute [local go_sem] alP_run bdv
set_option maxHeartbeats 2000000 in
theorem cand_any (h : Hd) (a : Option Addr) (n c i : Nat) (l : List Pt) (w : World) (hs : SlAt w a n c l) (hn : n ≤ 1000) (hi : i < n) :
    Calls Try.prog 20 #[.agg (trc h (.slice a n c)), .int .i64 (i : Int)] w fun r w' => r = .returned (.tuple #[.agg (canV h (gtP l i)).cs, .bool (ldB h (gtP l i))]) ∧ Below w.heap.size w w' := by
  obtain ⟨W, hW, r0, r1, bW, zW⟩ := two_tv w h (.slice a n c)
  have hin0 : (0 : Int) ≤ (i : Int) := by omega
  have hin1 : (i : Int) < (n : Int) := by omega
  obtain ⟨b, o, rfl⟩ := hs.some' (by omega)
  have c16 := r0.t16
  have hl := gtP_at (l := l) (i := i) (by rw [hs.len]; exact hi)
  have lp := (hs.below bW).ld hl
  obtain ⟨p, hp⟩ : ∃ p, gtP l i = p := ⟨_, rfl⟩
  rw [hp] at lp ⊢
  obtain ⟨V, sV, rV, bV, zV⟩ := new_pv W p
  have c29 := rV.num (j := 29) (k := .i64) rfl
  have c38 := rV.num (j := 38) (k := .u64) rfl
  have c1 := rV.num (j := 1) (k := .u32) rfl
  have c36 := rV.ppri
  have c0 := (r0.below bV).tnum (j := 0) (k := .u64) rfl
  have H : Hid (RvAt V (w.heap.size + 1) 28 zeroVc.cs ∧ Below w.heap.size w V ∧ RvAt V W.heap.size 47 p.cs) := ⟨r1.below bV, below_over bW bV, rV⟩
  clear hs r0 r1 bW zW rV bV zV hl hp
  by_cases h1 : p.nm 29 = 3
  · rw [h1] at c29
    have e1 : ldB h p = !(owB h p) := by simp [ldB, h1]
    have SA : Hid (∀ V : World, _) := fun V => samead_any (p.nm 38) (h.nm 0) V (p.u64 rfl) (h.u64 rfl)
    cases h2 : sameA (p.nm 38) (h.nm 0)
    · have e2 : ldB h p = true := by rw [e1]; unfold owB; rw [h2]; rfl
      have e3 : canV h p = addV p := by unfold canV; rw [if_pos e2]
      rw [e2, e3]
      rw [h2] at SA
      clear e1 e2 e3 h1 h2
      go_enter Try.func20, Try.ntmps20
      go_wp2_with fail
      refine (SA.out V).mono ?_
      rintro _ V1 ⟨rfl, b1⟩
      have H1 : Hid (RvAt V1 (w.heap.size + 1) 28 zeroVc.cs ∧ Below w.heap.size w V1) := ⟨H.out.1.below b1, below_over H.out.2.1 b1⟩
      have d1 := (H.out.2.2.below b1).num (j := 1) (k := .u32) rfl
      have d36 := (H.out.2.2.below b1).ppri
      clear H c29 c38 c1 c36 c0 sV b1
      go_wp2_with fail
      refine (radd_any p V1).mono ?_
      rintro _ V2 ⟨rfl, b2⟩
      obtain ⟨U, sU, rU, gU⟩ := (H1.out.1.below b2).vst (v := addV p)
      have F : Hid (RvAt U (w.heap.size + 1) 28 (addV p).cs ∧ Below w.heap.size w U) := ⟨rU, gro (below_over H1.out.2 b2) gU (by omega) (below_over H1.out.2 b2).size⟩
      clear rU gU b2 H1 d1 d36
      go_wp2_with (with_reducible exact ret_vi Try.results20 (by with_unfolding_all rfl) (by with_unfolding_all rfl) (by with_unfolding_all rfl) F.out.1 ⟨rfl, F.out.2⟩)
    · have e2 : ldB h p = false := by rw [e1]; unfold owB; rw [h2]; rfl
      have e3 : canV h p = zeroVc := by unfold canV; rw [if_neg (by rw [e2]; decide)]
      rw [e2, e3]
      rw [h2] at SA
      clear e1 e2 e3 h1 h2
      go_enter Try.func20, Try.ntmps20
      go_wp2_with fail
      refine (SA.out V).mono ?_
      rintro _ V1 ⟨rfl, b1⟩
      have H1 : Hid (RvAt V1 (w.heap.size + 1) 28 zeroVc.cs ∧ Below w.heap.size w V1) := ⟨H.out.1.below b1, below_over H.out.2.1 b1⟩
      obtain ⟨U, sU, rU, gU⟩ := H1.out.1.vst (v := zeroVc)
      have F : Hid (RvAt U (w.heap.size + 1) 28 zeroVc.cs ∧ Below w.heap.size w U) := ⟨rU, gro H1.out.2 gU (by omega) H1.out.2.size⟩
      clear rU gU H1 H c29 c38 c1 c36 c0 sV b1
      go_wp2_with (with_reducible exact ret_vi Try.results20 (by with_unfolding_all rfl) (by with_unfolding_all rfl) (by with_unfolding_all rfl) F.out.1 ⟨rfl, F.out.2⟩)
  · have hb : (p.nm 29 == 3) = false := by simpa using h1
    have hb' : (p.nm 29 != 3) = true := by simpa using h1
    have e2 : ldB h p = false := by simp [ldB, h1]
    have e3 : canV h p = zeroVc := by unfold canV; rw [if_neg (by rw [e2]; decide)]
    rw [e2, e3]
    obtain ⟨U, sU, rU, gU⟩ := H.out.1.vst (v := zeroVc)
    have F : Hid (RvAt U (w.heap.size + 1) 28 zeroVc.cs ∧ Below w.heap.size w U) := ⟨rU, gro H.out.2.1 gU (by omega) H.out.2.1.size⟩
    clear rU gU H
    go_enter Try.func20, Try.ntmps20
    go_wp2_with (with_reducible exact ret_vi Try.results20 (by with_unfolding_all rfl) (by with_unfolding_all rfl) (by with_unfolding_all rfl) F.out.1 ⟨rfl, F.out.2⟩)
end Go.Proofs.Ytnblhmicbhblpaa
