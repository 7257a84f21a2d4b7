/-
  The definition's Age, Gone, Flush: their walks, for every base and every input.
-/
import Derived.Test.YtoelpbajaadfeaaRLearn
namespace Go.Proofs.Ytoelpbajaadfeaa
set_option linter.unusedVariables false
set_option maxRecDepth 4000
set_option linter.unusedSimpArgs false
open Go.RowKit

attribute [local go_sem ↓] ldK stK ldM stM ldP stP ldE stE apE ldR stR
theorem neqA (x y : Ad) (w : World) : (binOp .neq 38 (.agg x.cs) (.agg y.cs)).run Try.prog w = .ok (.bool (!@decide (x = y) (Ad.dec x y))) w := by
  rw [← beqA_eq]
  unfold Ad.cs beqA
  go_simp
theorem three_rm (w : World) (c : Cf) (a : Option Addr) (n k : Nat) (y : Ad) : ∃ W, ((w.alloc (.cells (c.rs a n k) 29)).alloc (.cells y.cs 38)).alloc (.cells #[.int .i64 0, .int .i64 0, .slice none 0 0] 29) = W ∧ RdAt W w.heap.size c a n k ∧ RvAt W (w.heap.size + 1) 38 y.cs ∧ RdAt W (w.heap.size + 1 + 1) ⟨0, 0⟩ none 0 0 ∧ Below w.heap.size w W ∧ W.heap.size = w.heap.size + 3 := by
  obtain ⟨A, hA⟩ : ∃ A, w.alloc (.cells (c.rs a n k) 29) = A := ⟨_, rfl⟩
  have bA : Below w.heap.size w A := by rw [← hA]; exact (Below.refl _ _).alloc (Nat.le_refl _) _
  have rA : RdAt A w.heap.size c a n k := by rw [← hA]; exact RvAt.new w _ _
  have zA : A.heap.size = w.heap.size + 1 := by rw [← hA]; simp
  obtain ⟨B, hB⟩ : ∃ B, A.alloc (.cells y.cs 38) = B := ⟨_, rfl⟩
  have bB : Below A.heap.size A B := by rw [← hB]; exact (Below.refl _ _).alloc (Nat.le_refl _) _
  have rB : RvAt B (w.heap.size + 1) 38 y.cs := by rw [← zA, ← hB]; exact RvAt.new A _ _
  have zB : B.heap.size = w.heap.size + 1 + 1 := by rw [← hB, ← zA]; simp
  rw [hA, hB]
  have bC : Below B.heap.size B (B.alloc (.cells #[.int .i64 0, .int .i64 0, .slice none 0 0] 29)) := (Below.refl _ _).alloc (Nat.le_refl _) _
  refine ⟨_, rfl, (rA.below bB).below bC, rB.below bC, ?_, below_over (below_over bA bB) bC, by simp [zB]⟩
  rw [← zB]
  exact RvAt.new B 29 (Cf.rs ⟨0, 0⟩ none 0 0)
set_option maxHeartbeats 4000000 in
theorem rage_any (c : Cf) (a : Option Addr) (n k : Nat) (l : List En) (tick : Int) (w : World) (h : SlAt w a n k l) (hl : Wfs l) (hn : n ≤ 256) (hc : c.wf) :
    Calls Try.prog 25 #[.agg (c.rs a n k), .int .i64 tick] w fun r w' => PutOut a w.heap.size c (remS l (ageSh c.age tick)) r w' ∧ Below w.heap.size w w' := by
  obtain ⟨sh, hsh⟩ : ∃ sh, sh = ageSh c.age tick := ⟨_, rfl⟩
  rw [← hsh]
  have SH : Hid (sh = ageSh c.age tick) := hsh
  clear hsh
  obtain ⟨W1, hW, d1, d2, bW, zW⟩ := two_rf w c a n k
  have H : Hid (SlAt W1 a n k l ∧ RdAt W1 w.heap.size c a n k ∧ Wfs l ∧ c.wf ∧ n ≤ 256 ∧ l.length = n ∧ RdAt W1 (w.heap.size + 1) ⟨0, 0⟩ none 0 0 ∧ Below w.heap.size w W1 ∧ w.heap.size + 1 < W1.heap.size) := ⟨h.below bW, d1, hl, hc, hn, h.len, d2, bW, d2.lt⟩
  have hnn : (n : Int) ≤ 256 := by omega
  clear h hl hn hc d1 d2 bW zW
  go_enter Try.func25, Try.ntmps25
  go_wp2_with fail
  go_loopw [6, 7] (fun v6 v7 wr => ∃ (i : Nat) (a6 : Option Addr) (m6 c6 : Nat), i ≤ n ∧ v7 = .int .i64 i ∧ v6 = .slice a6 m6 c6 ∧ ((l.take i).filter (fun x => !sh x)).length = m6 ∧ Own wr W1.heap.size (.slice a6 m6 c6) ((l.take i).filter (fun x => !sh x)) ∧ Below W1.heap.size W1 wr) (fun _ v7 _ => n - (intOf v7).toNat)
  case atStart => exact ⟨0, none, 0, 0, by omega, rfl, rfl, rfl, Own.nil _ _, by rw [← hW]; exact Below.refl _ _⟩
  case round =>
    obtain ⟨i, a6, m6, c6, hi, rfl, rfl, hm6_, hO, hB⟩ := hrel
    have HB : Hid (Below W1.heap.size W1 wr) := hB
    have HO : Hid (Own wr W1.heap.size (.slice a6 m6 c6) ((l.take i).filter (fun x => !sh x))) := hO
    have hm6 : Hid (((l.take i).filter (fun x => !sh x)).length = m6) := hm6_
    have c3 := (H.out.2.1.below hB).c3
    have hlen := H.out.2.2.2.2.2.1
    have hin0 : (0 : Int) ≤ (i : Int) := by omega
    by_cases hit : i < n
    · have hin1 : (i : Int) < (n : Int) := by omega
      obtain ⟨b, o, rfl⟩ := H.out.1.some' (by omega)
      obtain ⟨x, hx⟩ : ∃ x, l[i]? = some x := ⟨_, List.getElem?_eq_getElem (by omega)⟩
      have hxw := H.out.2.2.1 x (List.mem_of_getElem? hx)
      have htk : Hid (l.take (i + 1) = l.take i ++ [x]) := show l.take (i + 1) = l.take i ++ [x] by rw [List.take_add_one, hx]; rfl
      have Hx : Hid (l[i]? = some x) := hx
      have hgone : Hid (sh x = true → (l.take (i + 1)).filter (fun x => !sh x) = (l.take i).filter (fun x => !sh x)) := fun hs => by
        rw [htk.out, List.filter_append, List.filter_cons_of_neg (by simp [hs]), List.filter_nil, List.append_nil]
      have hkept : Hid (sh x = false → (l.take (i + 1)).filter (fun x => !sh x) = (l.take i).filter (fun x => !sh x) ++ [x]) := fun hs => by
        rw [htk.out, List.filter_append, List.filter_cons_of_pos (by simp [hs])]
        rfl
      have f3 := fun z : Later wr => ((H.out.2.1.below hB).below z.below).c3
      have fa := fun z : Later wr => ((H.out.2.1.below hB).below z.below).c2
      have sq : ∀ z : Later wr, z.val.cell? ⟨b, o + i * 14 + 13, none⟩ = some (.int .i64 x.seen) := fun z => ((H.out.1.below hB).below z.below).cell hx (k := 13) (v := .int .i64 x.seen) rfl (by omega)
      have hse := hxw.seen
      have hca := H.out.2.2.2.1.age
      have hw : IntKind.i64.wrap (x.seen + c.age) = x.seen + c.age := IntWalk.i64_in _ (by omega)
      clear hB hO hm6_ hxw hx
      by_cases hk : x.seen + c.age ≥ tick
      · have hshx : Hid (sh x = false) := by rw [SH.out]; show decide _ = false; rw [decide_eq_false]; omega
        go_wp2_with fail
        refine wp_region_later (by kernel_rfl) (by kernel_rfl) ?_
        repeat (go_big_quiet_step (first | exact rfl))
        refine wpQuiet_nil ?_
        intro _ hw'
        obtain ⟨z, rfl⟩ := hw'
        clear f3 fa sq c3
        have d3 := (H.out.2.1.below (below_over HB.out z.below)).c3
        have lx : (ldS 51 (.pointer (some ⟨b, o + i * 14, none⟩))).run Try.prog z.val = .ok (.agg #[.int .i64 x.k.vid, .int .u8 x.k.a, .int .u8 x.k.b, .int .u8 x.k.c, .int .u8 x.k.d, .int .u8 x.k.e, .int .u8 x.k.f, .int .u8 x.bm.a, .int .u8 x.bm.b, .int .u8 x.bm.c, .int .u8 x.bm.d, .int .u8 x.bm.e, .int .u8 x.bm.f, .int .i64 x.seen]) z.val := (H.out.1.below (below_over HB.out z.below)).ld Hx.out
        obtain ⟨Y1, Y2, a7, m7, c7, hY1, ap2, o2, hB2, hm7⟩ := (HO.out.below z.below).one x (below_over HB.out z.below) (by have h1 : ((l.take i).filter (fun x => !sh x)).length ≤ (l.take i).length := List.length_filter_le _ _; have h2 := H.out.2.2.2.2.1; rw [List.length_take] at h1; omega)
        rw [← hkept.out hshx.out] at o2 hm7
        have G2 : Hid (Below W1.heap.size W1 Y2 ∧ Own Y2 W1.heap.size (.slice a7 m7 c7) ((l.take (i + 1)).filter (fun x => !sh x)) ∧ ((l.take (i + 1)).filter (fun x => !sh x)).length = m7) := ⟨hB2, o2, hm7⟩
        clear o2 hB2 hm7
        go_wp2
        go_roundw
        case rel => exact ⟨i + 1, a7, m7, c7, by omega, by go_num, rfl, G2.out.2.2, G2.out.2.1, G2.out.1⟩
        case measure => simp [intOf]; omega
      · have hk3 : decide (x.seen + c.age ≥ tick) = false := by simpa using hk
        have hshx : Hid (sh x = true) := by rw [SH.out]; show decide _ = true; rw [decide_eq_true]; omega
        go_wp2_with fail
        refine wp_region_later (by kernel_rfl) (by kernel_rfl) ?_
        repeat (go_big_quiet_step (first | exact rfl))
        refine wpQuiet_nil ?_
        intro _ hw'
        obtain ⟨z, rfl⟩ := hw'
        clear f3 fa sq c3
        go_wp2
        go_roundw
        case rel => exact ⟨i + 1, a6, m6, c6, by omega, by go_num, rfl, by rw [hgone.out hshx.out]; exact hm6.out, by rw [hgone.out hshx.out]; exact (HO.out.below z.below), (below_over HB.out z.below)⟩
        case measure => simp [intOf]; omega
    · have hin : i = n := by omega
      subst hin
      have hin1 : ¬ (i : Int) < (i : Int) := by omega
      have htk : l.take i = l := List.take_of_length_le (by omega)
      rw [htk] at hO hm6_
      have hml : m6 ≤ i := by rw [← hm6_, ← hlen]; exact List.length_filter_le _ _
      obtain ⟨a6_, c6_, hv6, s6, n6⟩ := hO.form
      have hin_ : a6 = a6_ ∧ c6 = c6_ := by
        injection hv6 with e1 e2 e3
        exact ⟨e1, e3⟩
      obtain ⟨rfl, rfl⟩ := hin_
      rw [hm6_] at s6
      have d1 := H.out.2.1.below hB
      have fz := d1.fz 2
      have e3 := d1.set (a' := a6) (n' := m6) (k' := c6)
      obtain ⟨X4, hX4⟩ : ∃ X, wr.setCell ⟨w.heap.size, 2, none⟩ (.slice a6 m6 c6) = X := ⟨_, rfl⟩
      rw [hX4] at e3
      have d24 : RdAt X4 (w.heap.size + 1) ⟨0, 0⟩ none 0 0 := (e3.2.block _ (H.out.2.2.2.2.2.2.1.below hB).lt (fun e => by have := Option.some.inj e; omega)).trans (H.out.2.2.2.2.2.2.1.below hB)
      obtain ⟨X5, st5, r5, g5, z5⟩ := d24.put (c' := c) (a' := a6) (n' := m6) (k' := c6)
      have ld4 := e3.1.ld
      have hz1 : w.heap.size + 1 < W1.heap.size := H.out.2.2.2.2.2.2.2.2
      have hb1 := H.out.2.2.2.2.2.2.2.1
      have bw := below_over hb1 hB
      have b4 : Below w.heap.size w X4 := bw.trans (below_of_grown e3.2 bw.size (fun j e => by cases e; exact Nat.le_refl _))
      have b5 : Below w.heap.size w X5 := b4.trans (below_of_grown g5 b4.size (fun j e => by cases e; omega))
      have s5 : SlAt X5 a6 m6 c6 (l.filter (fun x => !sh x)) := (s6.keptBut e3.2 (fun x e h => by have := (n6 x e).1; have := Option.some.inj h; omega)).keptBut g5 (fun x e h => by have := (n6 x e).1; have := Option.some.inj h; omega)
      have G : Hid (RvAt X5 (w.heap.size + 1) 29 (c.rs a6 m6 c6) ∧ Below w.heap.size w X5 ∧ SlAt X5 a6 m6 c6 (l.filter (fun x => !sh x)) ∧ (l.filter (fun x => !sh x)).length = m6 ∧ (∀ x, a6 = some x → w.heap.size ≤ x.block)) := ⟨r5, b5, s5, hm6_, fun x e => by have := (n6 x e).1; omega⟩
      clear hO hB hv6 s6 n6 d1 e3 d24 r5 g5 z5 bw b4 b5 s5 hm6_ htk hz1 hb1 HB HO hm6
      go_wp2
      refine bodyPost_ret (results_rowtmp rtR Try.results25 _ _ _ _ rfl G.out.1 rfl) rfl ?_
      have hmm := G.out.2.2.2.1
      refine ⟨⟨.agg (c.rs a6 m6 c6), ?_, ⟨a6, c6, by unfold remS; rw [hmm], by unfold remS; rw [hmm]; exact G.out.2.2.1, fun x e => .inr (G.out.2.2.2.2 x e)⟩⟩, G.out.2.1⟩
      unfold remS
      rw [hmm, hlen]
      rfl
set_option maxHeartbeats 4000000 in
theorem rgone_any (c : Cf) (a : Option Addr) (n k : Nat) (l : List En) (y : Ad) (w : World) (h : SlAt w a n k l) (hl : Wfs l) (hn : n ≤ 256) (hc : c.wf) :
    Calls Try.prog 27 #[.agg (c.rs a n k), .agg y.cs] w fun r w' => PutOut a w.heap.size c (remS l (goneSh y)) r w' ∧ Below w.heap.size w w' := by
  obtain ⟨sh, hsh⟩ : ∃ sh, sh = goneSh y := ⟨_, rfl⟩
  rw [← hsh]
  have SH : Hid (sh = goneSh y) := hsh
  clear hsh
  obtain ⟨W1, hW, d1, ry, d2, bW, zW⟩ := three_rm w c a n k y
  have H : Hid (SlAt W1 a n k l ∧ RdAt W1 w.heap.size c a n k ∧ Wfs l ∧ c.wf ∧ n ≤ 256 ∧ l.length = n ∧ RdAt W1 (w.heap.size + 1 + 1) ⟨0, 0⟩ none 0 0 ∧ Below w.heap.size w W1 ∧ w.heap.size + 1 + 1 < W1.heap.size ∧ RvAt W1 (w.heap.size + 1) 38 y.cs) := ⟨h.below bW, d1, hl, hc, hn, h.len, d2, bW, d2.lt, ry⟩
  have hnn : (n : Int) ≤ 256 := by omega
  clear h hl hn hc d1 d2 bW zW ry
  go_enter Try.func27, Try.ntmps27
  go_wp2_with fail
  go_loopw [6, 7] (fun v6 v7 wr => ∃ (i : Nat) (a6 : Option Addr) (m6 c6 : Nat), i ≤ n ∧ v7 = .int .i64 i ∧ v6 = .slice a6 m6 c6 ∧ ((l.take i).filter (fun x => !sh x)).length = m6 ∧ Own wr W1.heap.size (.slice a6 m6 c6) ((l.take i).filter (fun x => !sh x)) ∧ Below W1.heap.size W1 wr) (fun _ v7 _ => n - (intOf v7).toNat)
  case atStart => exact ⟨0, none, 0, 0, by omega, rfl, rfl, rfl, Own.nil _ _, by rw [← hW]; exact Below.refl _ _⟩
  case round =>
    obtain ⟨i, a6, m6, c6, hi, rfl, rfl, hm6_, hO, hB⟩ := hrel
    have HB : Hid (Below W1.heap.size W1 wr) := hB
    have HO : Hid (Own wr W1.heap.size (.slice a6 m6 c6) ((l.take i).filter (fun x => !sh x))) := hO
    have hm6 : Hid (((l.take i).filter (fun x => !sh x)).length = m6) := hm6_
    have c3 := (H.out.2.1.below hB).c3
    have hlen := H.out.2.2.2.2.2.1
    have hin0 : (0 : Int) ≤ (i : Int) := by omega
    by_cases hit : i < n
    · have hin1 : (i : Int) < (n : Int) := by omega
      obtain ⟨b, o, rfl⟩ := H.out.1.some' (by omega)
      obtain ⟨x, hx⟩ : ∃ x, l[i]? = some x := ⟨_, List.getElem?_eq_getElem (by omega)⟩
      have hxw := H.out.2.2.1 x (List.mem_of_getElem? hx)
      have htk : Hid (l.take (i + 1) = l.take i ++ [x]) := show l.take (i + 1) = l.take i ++ [x] by rw [List.take_add_one, hx]; rfl
      have Hx : Hid (l[i]? = some x) := hx
      have hgone : Hid (sh x = true → (l.take (i + 1)).filter (fun x => !sh x) = (l.take i).filter (fun x => !sh x)) := fun hs => by
        rw [htk.out, List.filter_append, List.filter_cons_of_neg (by simp [hs]), List.filter_nil, List.append_nil]
      have hkept : Hid (sh x = false → (l.take (i + 1)).filter (fun x => !sh x) = (l.take i).filter (fun x => !sh x) ++ [x]) := fun hs => by
        rw [htk.out, List.filter_append, List.filter_cons_of_pos (by simp [hs])]
        rfl
      have f3 := fun z : Later wr => ((H.out.2.1.below hB).below z.below).c3
      have fy := fun z : Later wr => ((H.out.2.2.2.2.2.2.2.2.2.below hB).below z.below).ld rtM (Ad.size _)
      have sq := fun z : Later wr => ((H.out.1.below hB).below z.below).bmac hx
      have ne := neqA x.bm y
      clear hB hO hm6_ hxw hx
      by_cases hk : x.bm = y
      · have hshx : Hid (sh x = true) := by rw [SH.out]; exact @decide_eq_true _ (Ad.dec x.bm y) hk
        simp only [hk, decide_true, Bool.not_true] at ne
        rw [hk] at sq
        go_wp2_with fail
        refine wp_region_later (by kernel_rfl) (by kernel_rfl) ?_
        repeat (go_big_quiet_step (first | exact rfl))
        refine wpQuiet_nil ?_
        intro _ hw'
        obtain ⟨z, rfl⟩ := hw'
        clear f3 fy sq c3 ne
        go_wp2
        go_roundw
        case rel => exact ⟨i + 1, a6, m6, c6, by omega, by go_num, rfl, by rw [hgone.out hshx.out]; exact hm6.out, by rw [hgone.out hshx.out]; exact (HO.out.below z.below), (below_over HB.out z.below)⟩
        case measure => simp [intOf]; omega
      · have hshx : Hid (sh x = false) := by rw [SH.out]; exact @decide_eq_false _ (Ad.dec x.bm y) hk
        simp only [hk, decide_false, Bool.not_false] at ne
        go_wp2_with fail
        refine wp_region_later (by kernel_rfl) (by kernel_rfl) ?_
        repeat (go_big_quiet_step (first | exact rfl))
        refine wpQuiet_nil ?_
        intro _ hw'
        obtain ⟨z, rfl⟩ := hw'
        clear f3 fy sq c3 ne
        have d3 := (H.out.2.1.below (below_over HB.out z.below)).c3
        have lx : (ldS 51 (.pointer (some ⟨b, o + i * 14, none⟩))).run Try.prog z.val = .ok (.agg #[.int .i64 x.k.vid, .int .u8 x.k.a, .int .u8 x.k.b, .int .u8 x.k.c, .int .u8 x.k.d, .int .u8 x.k.e, .int .u8 x.k.f, .int .u8 x.bm.a, .int .u8 x.bm.b, .int .u8 x.bm.c, .int .u8 x.bm.d, .int .u8 x.bm.e, .int .u8 x.bm.f, .int .i64 x.seen]) z.val := (H.out.1.below (below_over HB.out z.below)).ld Hx.out
        obtain ⟨Y1, Y2, a7, m7, c7, hY1, ap2, o2, hB2, hm7⟩ := (HO.out.below z.below).one x (below_over HB.out z.below) (by have h1 : ((l.take i).filter (fun x => !sh x)).length ≤ (l.take i).length := List.length_filter_le _ _; have h2 := H.out.2.2.2.2.1; rw [List.length_take] at h1; omega)
        rw [← hkept.out hshx.out] at o2 hm7
        have G2 : Hid (Below W1.heap.size W1 Y2 ∧ Own Y2 W1.heap.size (.slice a7 m7 c7) ((l.take (i + 1)).filter (fun x => !sh x)) ∧ ((l.take (i + 1)).filter (fun x => !sh x)).length = m7) := ⟨hB2, o2, hm7⟩
        clear o2 hB2 hm7
        go_wp2
        go_roundw
        case rel => exact ⟨i + 1, a7, m7, c7, by omega, by go_num, rfl, G2.out.2.2, G2.out.2.1, G2.out.1⟩
        case measure => simp [intOf]; omega
    · have hin : i = n := by omega
      subst hin
      have hin1 : ¬ (i : Int) < (i : Int) := by omega
      have htk : l.take i = l := List.take_of_length_le (by omega)
      rw [htk] at hO hm6_
      have hml : m6 ≤ i := by rw [← hm6_, ← hlen]; exact List.length_filter_le _ _
      obtain ⟨a6_, c6_, hv6, s6, n6⟩ := hO.form
      have hin_ : a6 = a6_ ∧ c6 = c6_ := by
        injection hv6 with e1 e2 e3
        exact ⟨e1, e3⟩
      obtain ⟨rfl, rfl⟩ := hin_
      rw [hm6_] at s6
      have d1 := H.out.2.1.below hB
      have fz := d1.fz 2
      have e3 := d1.set (a' := a6) (n' := m6) (k' := c6)
      obtain ⟨X4, hX4⟩ : ∃ X, wr.setCell ⟨w.heap.size, 2, none⟩ (.slice a6 m6 c6) = X := ⟨_, rfl⟩
      rw [hX4] at e3
      have d24 : RdAt X4 (w.heap.size + 1 + 1) ⟨0, 0⟩ none 0 0 := (e3.2.block _ (H.out.2.2.2.2.2.2.1.below hB).lt (fun e => by have := Option.some.inj e; omega)).trans (H.out.2.2.2.2.2.2.1.below hB)
      obtain ⟨X5, st5, r5, g5, z5⟩ := d24.put (c' := c) (a' := a6) (n' := m6) (k' := c6)
      have ld4 := e3.1.ld
      have hz1 : w.heap.size + 1 + 1 < W1.heap.size := H.out.2.2.2.2.2.2.2.2.1
      have hb1 := H.out.2.2.2.2.2.2.2.1
      have bw := below_over hb1 hB
      have b4 : Below w.heap.size w X4 := bw.trans (below_of_grown e3.2 bw.size (fun j e => by cases e; exact Nat.le_refl _))
      have b5 : Below w.heap.size w X5 := b4.trans (below_of_grown g5 b4.size (fun j e => by cases e; omega))
      have s5 : SlAt X5 a6 m6 c6 (l.filter (fun x => !sh x)) := (s6.keptBut e3.2 (fun x e h => by have := (n6 x e).1; have := Option.some.inj h; omega)).keptBut g5 (fun x e h => by have := (n6 x e).1; have := Option.some.inj h; omega)
      have G : Hid (RvAt X5 (w.heap.size + 1 + 1) 29 (c.rs a6 m6 c6) ∧ Below w.heap.size w X5 ∧ SlAt X5 a6 m6 c6 (l.filter (fun x => !sh x)) ∧ (l.filter (fun x => !sh x)).length = m6 ∧ (∀ x, a6 = some x → w.heap.size ≤ x.block)) := ⟨r5, b5, s5, hm6_, fun x e => by have := (n6 x e).1; omega⟩
      clear hO hB hv6 s6 n6 d1 e3 d24 r5 g5 z5 bw b4 b5 s5 hm6_ htk hz1 hb1 HB HO hm6
      go_wp2
      refine bodyPost_ret (results_rowtmp rtR Try.results27 _ _ _ _ rfl G.out.1 rfl) rfl ?_
      have hmm := G.out.2.2.2.1
      refine ⟨⟨.agg (c.rs a6 m6 c6), ?_, ⟨a6, c6, by unfold remS; rw [hmm], by unfold remS; rw [hmm]; exact G.out.2.2.1, fun x e => .inr (G.out.2.2.2.2 x e)⟩⟩, G.out.2.1⟩
      unfold remS
      rw [hmm, hlen]
      rfl
set_option maxHeartbeats 4000000 in
theorem rflush_any (c : Cf) (a : Option Addr) (n k : Nat) (l : List En) (g m2 k2 : Nat) (ns : List Int) (w : World) (h : SlAt w a n k l) (hl : Wfs l) (hn : n ≤ 256) (hc : c.wf) (hI : IsAt w g ns) (hg : g < w.heap.size) (hm2 : ns.length = m2) (hb2 : m2 ≤ 100) :
    Calls Try.prog 26 #[.agg (c.rs a n k), .slice (some ⟨g, 0, none⟩) m2 k2] w fun r w' => PutOut a w.heap.size c (remS l (flushSh ns)) r w' ∧ Below w.heap.size w w' := by
  obtain ⟨sh, hsh⟩ : ∃ sh, sh = flushSh ns := ⟨_, rfl⟩
  rw [← hsh]
  have SH : Hid (sh = flushSh ns) := hsh
  clear hsh
  obtain ⟨W1, hW, d1, d2, bW, zW⟩ := two_rf w c a n k
  have H : Hid (SlAt W1 a n k l ∧ RdAt W1 w.heap.size c a n k ∧ Wfs l ∧ c.wf ∧ n ≤ 256 ∧ l.length = n ∧ RdAt W1 (w.heap.size + 1) ⟨0, 0⟩ none 0 0 ∧ Below w.heap.size w W1 ∧ w.heap.size + 1 < W1.heap.size ∧ IsAt W1 g ns ∧ g < W1.heap.size ∧ ns.length = m2 ∧ m2 ≤ 100) := ⟨h.below bW, d1, hl, hc, hn, h.len, d2, bW, d2.lt, (fun i v hv => (bW.cell (p := ⟨g, i, none⟩) hg).trans (hI i v hv)), Nat.lt_of_lt_of_le hg bW.size, hm2, hb2⟩
  have hnn : (n : Int) ≤ 256 := by omega
  clear h hl hn hc d1 d2 bW zW hI hg hm2
  go_enter Try.func26, Try.ntmps26
  go_wp2_with fail
  go_loopw [6, 7] (fun v6 v7 wr => ∃ (i : Nat) (a6 : Option Addr) (m6 c6 : Nat), i ≤ n ∧ v7 = .int .i64 i ∧ v6 = .slice a6 m6 c6 ∧ ((l.take i).filter (fun x => !sh x)).length = m6 ∧ Own wr W1.heap.size (.slice a6 m6 c6) ((l.take i).filter (fun x => !sh x)) ∧ Below W1.heap.size W1 wr) (fun _ v7 _ => n - (intOf v7).toNat)
  case atStart => exact ⟨0, none, 0, 0, by omega, rfl, rfl, rfl, Own.nil _ _, by rw [← hW]; exact Below.refl _ _⟩
  case round =>
    obtain ⟨i, a6, m6, c6, hi, rfl, rfl, hm6_, hO, hB⟩ := hrel
    have HB : Hid (Below W1.heap.size W1 wr) := hB
    have HO : Hid (Own wr W1.heap.size (.slice a6 m6 c6) ((l.take i).filter (fun x => !sh x))) := hO
    have hm6 : Hid (((l.take i).filter (fun x => !sh x)).length = m6) := hm6_
    have c3 := (H.out.2.1.below hB).c3
    have hlen := H.out.2.2.2.2.2.1
    have hin0 : (0 : Int) ≤ (i : Int) := by omega
    by_cases hit : i < n
    · have hin1 : (i : Int) < (n : Int) := by omega
      obtain ⟨b, o, rfl⟩ := H.out.1.some' (by omega)
      obtain ⟨x, hx⟩ : ∃ x, l[i]? = some x := ⟨_, List.getElem?_eq_getElem (by omega)⟩
      have hxw := H.out.2.2.1 x (List.mem_of_getElem? hx)
      have htk : Hid (l.take (i + 1) = l.take i ++ [x]) := show l.take (i + 1) = l.take i ++ [x] by rw [List.take_add_one, hx]; rfl
      have Hx : Hid (l[i]? = some x) := hx
      have hgone : Hid (sh x = true → (l.take (i + 1)).filter (fun x => !sh x) = (l.take i).filter (fun x => !sh x)) := fun hs => by
        rw [htk.out, List.filter_append, List.filter_cons_of_neg (by simp [hs]), List.filter_nil, List.append_nil]
      have hkept : Hid (sh x = false → (l.take (i + 1)).filter (fun x => !sh x) = (l.take i).filter (fun x => !sh x) ++ [x]) := fun hs => by
        rw [htk.out, List.filter_append, List.filter_cons_of_pos (by simp [hs])]
        rfl
      obtain ⟨V, rfl⟩ : ∃ V, V = wr := ⟨_, rfl⟩
      have hs0 : Hid (∀ z : World, Below V.heap.size V z → z.cell? ⟨b, o + i * 14, none⟩ = some (.int .i64 x.k.vid)) := fun z hz => ((H.out.1.below HB.out).below hz).cell Hx.out (k := 0) (v := .int .i64 x.k.vid) rfl (by omega)
      have hI : Hid (∀ (z : World), Below V.heap.size V z → IsAt z g ns) := fun z hz => fun j v hv => ((below_over HB.out hz).cell (p := ⟨g, j, none⟩) H.out.2.2.2.2.2.2.2.2.2.2.1).trans (H.out.2.2.2.2.2.2.2.2.2.1 j v hv)
      have hnsl := H.out.2.2.2.2.2.2.2.2.2.2.2.1
      have hm2n : (m2 : Int) ≤ 100 := by omega
      clear hB hO hm6_ hxw hx
      go_wp2_with fail
      go_loopw [8, 9] (fun v8 v9 wq => ∃ j : Nat, j ≤ m2 ∧ v9 = .int .i64 j ∧ v8 = .bool (decide (x.k.vid ∈ ns.take j)) ∧ Below V.heap.size V wq) (fun _ v9 _ => m2 - (intOf v9).toNat)
      case atStart => exact ⟨0, by omega, rfl, by simp, Below.refl _ _⟩
      case round =>
        obtain ⟨j, hj, rfl, rfl, hBq⟩ := hrel
        obtain ⟨wq, rfl⟩ : ∃ wq, wq = wr := ⟨_, rfl⟩
        have HQ : Hid (Below V.heap.size V wq) := hBq
        have hjn0 : (0 : Int) ≤ (j : Int) := by omega
        by_cases hjt : j < m2
        · have hjn1 : (j : Int) < (m2 : Int) := by omega
          obtain ⟨v, hv⟩ : ∃ v, ns[j]? = some v := ⟨_, List.getElem?_eq_getElem (by omega)⟩
          have htj : Hid (decide (x.k.vid ∈ ns.take (j + 1)) = (decide (x.k.vid ∈ ns.take j) || decide (x.k.vid = v))) := by
            show _ = _
            rw [List.take_add_one, hv]
            simp
          have f3 := fun z : Later wq => (((H.out.2.1.below HB.out).below hBq).below z.below).c3
          have s0 := fun z : Later wq => hs0.out z.val (below_over hBq z.below)
          have si := fun z : Later wq => hI.out z.val (below_over hBq z.below) j v hv
          clear hBq hv
          cases hd : decide (x.k.vid ∈ ns.take j)
          · have hb : Hid (decide (x.k.vid ∈ ns.take (j + 1)) = decide (v = x.k.vid)) := by
              show _ = _
              rw [htj.out, hd, Bool.false_or]
              exact decide_eq_decide.2 eq_comm
            clear htj hd
            go_wp2_with fail
            refine wp_region_later (by kernel_rfl) (by kernel_rfl) ?_
            repeat (go_big_quiet_step (first | exact rfl))
            refine wpQuiet_nil ?_
            intro _ hw'
            obtain ⟨z, rfl⟩ := hw'
            clear f3 s0 si
            go_wp2
            go_roundw
            case rel => exact ⟨j + 1, by omega, by go_num, by rw [hb.out]; first | rfl | (simp [beq_dec]; done), below_over HQ.out z.below⟩
            case measure => simp [intOf]; omega
          · have hb : Hid (decide (x.k.vid ∈ ns.take (j + 1)) = true) := by
              show _ = _
              rw [htj.out, hd, Bool.true_or]
            clear htj hd
            go_wp2_with fail
            refine wp_region_later (by kernel_rfl) (by kernel_rfl) ?_
            repeat (go_big_quiet_step (first | exact rfl))
            refine wpQuiet_nil ?_
            intro _ hw'
            obtain ⟨z, rfl⟩ := hw'
            clear f3 s0 si
            go_wp2
            go_roundw
            case rel => exact ⟨j + 1, by omega, by go_num, by rw [hb.out], below_over HQ.out z.below⟩
            case measure => simp [intOf]; omega
        · have hjn : j = m2 := by omega
          subst hjn
          have hjn1 : ¬ (j : Int) < (j : Int) := by omega
          have htj : ns.take j = ns := List.take_of_length_le (by omega)
          rw [htj]
          clear htj hBq
          cases hd : decide (x.k.vid ∈ ns)
          · have hshx : Hid (sh x = false) := by rw [SH.out]; exact hd
            clear hd
            have d3 := (H.out.2.1.below (below_over HB.out HQ.out)).c3
            have lx : (ldS 51 (.pointer (some ⟨b, o + i * 14, none⟩))).run Try.prog wq = .ok (.agg #[.int .i64 x.k.vid, .int .u8 x.k.a, .int .u8 x.k.b, .int .u8 x.k.c, .int .u8 x.k.d, .int .u8 x.k.e, .int .u8 x.k.f, .int .u8 x.bm.a, .int .u8 x.bm.b, .int .u8 x.bm.c, .int .u8 x.bm.d, .int .u8 x.bm.e, .int .u8 x.bm.f, .int .i64 x.seen]) wq := (H.out.1.below (below_over HB.out HQ.out)).ld Hx.out
            obtain ⟨Y1, Y2, a7, m7, c7, hY1, ap2, o2, hB2, hm7⟩ := (HO.out.below HQ.out).one x (below_over HB.out HQ.out) (by have h1 : ((l.take i).filter (fun x => !sh x)).length ≤ (l.take i).length := List.length_filter_le _ _; have h2 := H.out.2.2.2.2.1; rw [List.length_take] at h1; omega)
            rw [← hkept.out hshx.out] at o2 hm7
            have G2 : Hid (Below W1.heap.size W1 Y2 ∧ Own Y2 W1.heap.size (.slice a7 m7 c7) ((l.take (i + 1)).filter (fun x => !sh x)) ∧ ((l.take (i + 1)).filter (fun x => !sh x)).length = m7) := ⟨hB2, o2, hm7⟩
            clear o2 hB2 hm7
            go_wp2
            go_roundw
            case rel => exact ⟨i + 1, a7, m7, c7, by omega, by go_num, rfl, G2.out.2.2, G2.out.2.1, G2.out.1⟩
            case measure => simp [intOf]; omega
          · have hshx : Hid (sh x = true) := by rw [SH.out]; exact hd
            clear hd
            skip
            go_wp2
            go_roundw
            case rel => exact ⟨i + 1, a6, m6, c6, by omega, by go_num, rfl, by rw [hgone.out hshx.out]; exact hm6.out, by rw [hgone.out hshx.out]; exact (HO.out.below HQ.out), (below_over HB.out HQ.out)⟩
            case measure => simp [intOf]; omega
    · have hin : i = n := by omega
      subst hin
      have hin1 : ¬ (i : Int) < (i : Int) := by omega
      have htk : l.take i = l := List.take_of_length_le (by omega)
      rw [htk] at hO hm6_
      have hml : m6 ≤ i := by rw [← hm6_, ← hlen]; exact List.length_filter_le _ _
      obtain ⟨a6_, c6_, hv6, s6, n6⟩ := hO.form
      have hin_ : a6 = a6_ ∧ c6 = c6_ := by
        injection hv6 with e1 e2 e3
        exact ⟨e1, e3⟩
      obtain ⟨rfl, rfl⟩ := hin_
      rw [hm6_] at s6
      have d1 := H.out.2.1.below hB
      have fz := d1.fz 2
      have e3 := d1.set (a' := a6) (n' := m6) (k' := c6)
      obtain ⟨X4, hX4⟩ : ∃ X, wr.setCell ⟨w.heap.size, 2, none⟩ (.slice a6 m6 c6) = X := ⟨_, rfl⟩
      rw [hX4] at e3
      have d24 : RdAt X4 (w.heap.size + 1) ⟨0, 0⟩ none 0 0 := (e3.2.block _ (H.out.2.2.2.2.2.2.1.below hB).lt (fun e => by have := Option.some.inj e; omega)).trans (H.out.2.2.2.2.2.2.1.below hB)
      obtain ⟨X5, st5, r5, g5, z5⟩ := d24.put (c' := c) (a' := a6) (n' := m6) (k' := c6)
      have ld4 := e3.1.ld
      have hz1 : w.heap.size + 1 < W1.heap.size := H.out.2.2.2.2.2.2.2.2.1
      have hb1 := H.out.2.2.2.2.2.2.2.1
      have bw := below_over hb1 hB
      have b4 : Below w.heap.size w X4 := bw.trans (below_of_grown e3.2 bw.size (fun j e => by cases e; exact Nat.le_refl _))
      have b5 : Below w.heap.size w X5 := b4.trans (below_of_grown g5 b4.size (fun j e => by cases e; omega))
      have s5 : SlAt X5 a6 m6 c6 (l.filter (fun x => !sh x)) := (s6.keptBut e3.2 (fun x e h => by have := (n6 x e).1; have := Option.some.inj h; omega)).keptBut g5 (fun x e h => by have := (n6 x e).1; have := Option.some.inj h; omega)
      have G : Hid (RvAt X5 (w.heap.size + 1) 29 (c.rs a6 m6 c6) ∧ Below w.heap.size w X5 ∧ SlAt X5 a6 m6 c6 (l.filter (fun x => !sh x)) ∧ (l.filter (fun x => !sh x)).length = m6 ∧ (∀ x, a6 = some x → w.heap.size ≤ x.block)) := ⟨r5, b5, s5, hm6_, fun x e => by have := (n6 x e).1; omega⟩
      clear hO hB hv6 s6 n6 d1 e3 d24 r5 g5 z5 bw b4 b5 s5 hm6_ htk hz1 hb1 HB HO hm6
      go_wp2
      refine bodyPost_ret (results_rowtmp rtR Try.results26 _ _ _ _ rfl G.out.1 rfl) rfl ?_
      have hmm := G.out.2.2.2.1
      refine ⟨⟨.agg (c.rs a6 m6 c6), ?_, ⟨a6, c6, by unfold remS; rw [hmm], by unfold remS; rw [hmm]; exact G.out.2.2.1, fun x e => .inr (G.out.2.2.2.2 x e)⟩⟩, G.out.2.1⟩
      unfold remS
      rw [hmm, hlen]
      rfl
end Go.Proofs.Ytoelpbajaadfeaa
