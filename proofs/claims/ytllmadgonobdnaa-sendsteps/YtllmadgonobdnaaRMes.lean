/-
  The definition: what would go out of a port: the walk of Message, for every tree.
-/
import Derived.Test.YtllmadgonobdnaaMesA
import Derived.Test.YtllmadgonobdnaaRPpm
namespace Go.Proofs.Ytllmadgonobdnaa
set_option linter.unusedVariables false
set_option maxRecDepth 4000
set_option linter.unusedSimpArgs false
open Go.RowKit

attribute [local go_sem ↓] ldP stP stB stU stW ldT stT st32 alP alM ldM stM ldV stV ldTm stTm bdMs
attribute [local go_sem] alP_run alM_run
theorem vc_cs (v : Vc) : v.cs = #[.int .u64 (v.nm 0), .int .u32 (v.nm 1), .int .u64 (v.nm 2), .int .u16 (v.nm 3)] := by
  show v.cl.toArray = _
  rw [vc_cl]
theorem tm_cs (v : Tm) : v.cs = #[.int .u8 (v.nm 0), .int .u8 (v.nm 1), .int .u8 (v.nm 2), .int .u8 (v.nm 3)] := by
  show v.cl.toArray = _
  rw [tm_cl]
theorem bdM_rst0 (x0 x1 x2 x3 x4 : Bool) (x5 y0 y1 y2 y3 z0 z1 z2 z3 : Int) (w : World) : (bdM #[(0, .int .i64 3), (1, .bool x0), (3, .bool x1), (4, .bool x2), (5, .bool x3), (6, .bool x4), (7, .int .i64 x5), (8, .agg #[.int .u64 y0, .int .u32 y1, .int .u64 y2, .int .u16 y3]), (9, .agg #[.int .u8 z0, .int .u8 z1, .int .u8 z2, .int .u8 z3])]).run Try.prog w = .ok (.agg #[.int .i64 3, .bool x0, .bool false, .bool x1, .bool x2, .bool x3, .bool x4, .int .i64 x5, .int .u64 y0, .int .u32 y1, .int .u64 y2, .int .u16 y3, .int .u8 z0, .int .u8 z1, .int .u8 z2, .int .u8 z3]) w := by kernel_rfl
theorem bdM_cfg0 (x0 x1 : Bool) (y0 y1 y2 y3 z0 z1 z2 z3 : Int) (w : World) : (bdM #[(0, .int .i64 1), (1, .bool x0), (2, .bool x1), (8, .agg #[.int .u64 y0, .int .u32 y1, .int .u64 y2, .int .u16 y3]), (9, .agg #[.int .u8 z0, .int .u8 z1, .int .u8 z2, .int .u8 z3])]).run Try.prog w = .ok (.agg #[.int .i64 1, .bool x0, .bool x1, .bool false, .bool false, .bool false, .bool false, .int .i64 0, .int .u64 y0, .int .u32 y1, .int .u64 y2, .int .u16 y3, .int .u8 z0, .int .u8 z1, .int .u8 z2, .int .u8 z3]) w := by kernel_rfl
theorem bdM_rst (p : Pt) (w : World) : (bdM #[(0, .int .i64 3), (1, .bool (tcB p)), (3, .bool (p.bt 13)), (4, .bool (p.bt 10)), (5, .bool (p.bt 8)), (6, .bool (p.bt 3)), (7, .int .i64 (rolN (p.nm 30))), (8, .agg (dsg p).cs), (9, .agg (dsT p).cs)]).run Try.prog w = .ok (.agg (rstM p).cs) w := by
  have e : (rstM p).cs = (([.int .i64 3, .bool (tcB p), .bool false, .bool (p.bt 13), .bool (p.bt 10), .bool (p.bt 8), .bool (p.bt 3), .int .i64 (rolN (p.nm 30))] : List Value) ++ (dsg p).cl ++ (dsT p).cl).toArray := by
    show (rstM p).cl.toArray = _
    rw [rst_cl]
  rw [e, vc_cs, tm_cs, vc_cl, tm_cl]
  exact bdM_rst0 ..
theorem bdM_cfg (p : Pt) (w : World) : (bdM #[(0, .int .i64 1), (1, .bool (tcB p)), (2, .bool (p.bt 26)), (8, .agg (dsg p).cs), (9, .agg (dsT p).cs)]).run Try.prog w = .ok (.agg (cfgM p).cs) w := by
  have e : (cfgM p).cs = (([.int .i64 1, .bool (tcB p), .bool (p.bt 26), .bool false, .bool false, .bool false, .bool false, .int .i64 0] : List Value) ++ (dsg p).cl ++ (dsT p).cl).toArray := by
    show (cfgM p).cl.toArray = _
    rw [cfg_cl]
  rw [e, vc_cs, tm_cs, vc_cl, tm_cl]
  exact bdM_cfg0 ..
set_option maxHeartbeats 2000000 in
theorem rmes_out (h : Hd) (a : Option Addr) (n c : Nat) (l : List Pt) (i : Int) (w : World) (hn : n ≤ 1000) (hi : ¬ (0 ≤ i ∧ i < n)) :
    Calls Try.prog 15 #[.agg (trc h (.slice a n c)), .int .i64 i] w fun r w' => r = .returned (.agg zeroM.cs) ∧ Below w.heap.size w w' := by
  obtain ⟨W, hW, r0, r1, bW, zW⟩ := new_tm w h (.slice a n c)
  have l0 := r0.tld
  have H : Hid (RvAt W (w.heap.size + 1) 43 zeroM.cs ∧ Below w.heap.size w W) := ⟨r1, bW⟩
  have T : Hid _ := has_out (h := h) (a := a) (c := c) (w := W) hn hi
  clear r0 r1 bW zW hi
  go_enter Try.func15, Try.ntmps15
  go_wp2_with fail
  refine Calls.mono T.out ?_
  rintro _ V ⟨rfl, bV⟩
  obtain ⟨U, sU, h1, gU⟩ := mst (r := zeroM) (H.out.1.below bV)
  have q0 := bdM_zero V
  have G : Hid (RvAt U (w.heap.size + 1) 43 zeroM.cs ∧ Below w.heap.size w U) := ⟨h1, gro (below_over H.out.2 bV) gU (by omega) (below_over H.out.2 bV).size⟩
  clear h1 gU bV l0 T
  go_wp2
  refine bodyPost_ret (results_row rtM Try.results15 _ _ _ _ rfl G.out.1 (by rw [Row.csize, lenM])) rfl ?_
  exact ⟨rfl, G.out.2⟩
set_option maxHeartbeats 8000000 in
theorem rmes_in (h : Hd) (a : Option Addr) (n c : Nat) (l : List Pt) (k : Nat) (w : World) (hs : SlAt w a n c l) (hn : n ≤ 1000) (hk : k < n) :
    Calls Try.prog 15 #[.agg (trc h (.slice a n c)), .int .i64 (k : Int)] w fun r w' => r = .returned (.agg (msgP (gtP l k)).cs) ∧ Below w.heap.size w w' := by
  obtain ⟨g, o, rfl⟩ := hs.some' (by omega)
  have hkl : k < l.length := by rw [hs.len]; exact hk
  have hin0 : (0 : Int) ≤ (k : Int) := by omega
  have hin1 : (k : Int) < (n : Int) := by omega
  obtain ⟨W, hW, r0, r1, bW, zW⟩ := new_tm w h (.slice (some ⟨g, o, none⟩) n c)
  have l0 := r0.tld
  have H : Hid (RvAt W w.heap.size 31 (trc h (.slice (some ⟨g, o, none⟩) n c)) ∧ RvAt W (w.heap.size + 1) 43 zeroM.cs ∧ Below w.heap.size w W ∧ SlAt W (some ⟨g, o, none⟩) n c l) := ⟨r0, r1, bW, hs.below bW⟩
  have T : Hid _ := has_in (h := h) (a := some ⟨g, o, none⟩) (c := c) (w := W) hn hk
  obtain ⟨p, hp⟩ : ∃ p, gtP l k = p := ⟨_, rfl⟩
  rw [hp]
  have HP : Hid (gtP l k = p) := hp
  have HK : Hid (k < l.length) := hkl
  obtain ⟨M, hM⟩ : ∃ z, msgP p = z := ⟨_, rfl⟩
  rw [hM]
  have EM : Hid (msgP p = M) := hM
  obtain ⟨N, h71⟩ : ∃ z, p.nm 71 = z := ⟨_, rfl⟩
  have H71 : Hid (p.nm 71 = N) := h71
  clear hM h71
  clear hs hn hk r0 r1 bW zW hp hkl
  go_enter Try.func15, Try.ntmps15
  go_wp2_with fail
  refine Calls.mono T.out ?_
  rintro _ V ⟨rfl, bV⟩
  have K : Hid (RvAt V w.heap.size 31 (trc h (.slice (some ⟨g, o, none⟩) n c)) ∧ RvAt V (w.heap.size + 1) 43 zeroM.cs ∧ Below w.heap.size w V ∧ SlAt V (some ⟨g, o, none⟩) n c l) := ⟨H.out.1.below bV, H.out.2.1.below bV, below_over H.out.2.2.1 bV, H.out.2.2.2.below bV⟩
  have c16 := K.out.1.t16
  have lp := K.out.2.2.2.ld (gtP_at HK.out)
  rw [HP.out] at lp
  clear bV T l0 hW H
  obtain ⟨W0, s0, q0, b0, z0⟩ := var_p V p
  have P0 : Hid (RvAt W0 V.heap.size 53 p.cs ∧ RvAt W0 (w.heap.size + 1) 43 zeroM.cs ∧ Below w.heap.size w W0) := ⟨q0, K.out.2.1.below b0, below_over K.out.2.2.1 b0⟩
  obtain ⟨Z, hZ⟩ : ∃ Z, V.heap.size = Z := ⟨_, rfl⟩
  rw [hZ] at s0 P0
  clear q0 b0 z0 K
  cases h23 : p.bt 23
  · have c23 := P0.out.1.bit (j := 23) rfl
    rw [h23] at c23
    have c30 := P0.out.1.num (j := 30) (k := .i64) rfl
    by_cases h4 : p.nm 30 = 4
    · have E9 : Hid (cfgM p = M) := by rw [← EM.out]; unfold msgP; rw [if_neg (by rw [h23]; decide), if_pos h4]; exact rfl
      rw [h4] at c30
      clear h4 h23
      by_cases h0 : N = 0
      · subst h0
        have hT : tcB p = false := by unfold tcB; rw [H71.out]; rfl
        have qb := bdM_cfg p W0
        rw [hT] at qb
        have c71 := P0.out.1.num (j := 71) (k := .u8) rfl
        rw [H71.out] at c71
        have c26 := P0.out.1.bit (j := 26) rfl
        have xv := P0.out.1.pdsg
        have xt := P0.out.1.pdsT
        obtain ⟨U, sU, h1, gU⟩ := mst (r := cfgM p) P0.out.2.1
        have G : Hid (RvAt U (w.heap.size + 1) 43 M.cs ∧ Below w.heap.size w U) := by rw [← E9.out]; exact ⟨h1, gro P0.out.2.2 gU (by omega) P0.out.2.2.size⟩
        clear h1 gU
        clear hT H71 EM
        go_wp2
        refine bodyPost_ret (results_row rtM Try.results15 _ _ _ _ rfl G.out.1 (by rw [Row.csize, lenM])) rfl ?_
        exact ⟨rfl, G.out.2⟩
      · have x0 : (N == 0) = false := beq_eq_false_iff_ne.2 h0
        have y0 : (N != 0) = true := by simp [h0]
        clear h0
        have hT : tcB p = true := by unfold tcB; rw [H71.out, x0]; rfl
        have qb := bdM_cfg p W0
        rw [hT] at qb
        have c71 := P0.out.1.num (j := 71) (k := .u8) rfl
        rw [H71.out] at c71
        have c26 := P0.out.1.bit (j := 26) rfl
        have xv := P0.out.1.pdsg
        have xt := P0.out.1.pdsT
        obtain ⟨U, sU, h1, gU⟩ := mst (r := cfgM p) P0.out.2.1
        have G : Hid (RvAt U (w.heap.size + 1) 43 M.cs ∧ Below w.heap.size w U) := by rw [← E9.out]; exact ⟨h1, gro P0.out.2.2 gU (by omega) P0.out.2.2.size⟩
        clear h1 gU
        clear hT H71 EM
        go_wp2
        refine bodyPost_ret (results_row rtM Try.results15 _ _ _ _ rfl G.out.1 (by rw [Row.csize, lenM])) rfl ?_
        exact ⟨rfl, G.out.2⟩
    · have E9 : Hid (tcnM = M) := by rw [← EM.out]; unfold msgP; rw [if_neg (by rw [h23]; decide), if_neg h4]; exact rfl
      have x4 : (p.nm 30 == 4) = false := beq_eq_false_iff_ne.2 h4
      have qb := bdM_kind wi2 W0
      rw [show (zeroM.setN 0 km0 2 wi2).cs = tcnM.cs from rfl] at qb
      clear h4 h23
      obtain ⟨U, sU, h1, gU⟩ := mst (r := tcnM) P0.out.2.1
      have G : Hid (RvAt U (w.heap.size + 1) 43 M.cs ∧ Below w.heap.size w U) := by rw [← E9.out]; exact ⟨h1, gro P0.out.2.2 gU (by omega) P0.out.2.2.size⟩
      clear h1 gU
      go_wp2
      refine bodyPost_ret (results_row rtM Try.results15 _ _ _ _ rfl G.out.1 (by rw [Row.csize, lenM])) rfl ?_
      exact ⟨rfl, G.out.2⟩
  · have c23 := P0.out.1.bit (j := 23) rfl
    rw [h23] at c23
    have E9 : Hid (rstM p = M) := by rw [← EM.out]; unfold msgP; rw [if_pos h23]; exact rfl
    clear h23
    by_cases h0 : N = 0
    · subst h0
      have hT : tcB p = false := by unfold tcB; rw [H71.out]; rfl
      have f71 := fun x : Later W0 => (P0.out.1.below x.below).num (j := 71) (k := .u8) rfl
      rw [H71.out] at f71
      have f13 := fun x : Later W0 => (P0.out.1.below x.below).bit (j := 13) rfl
      have f10 := fun x : Later W0 => (P0.out.1.below x.below).bit (j := 10) rfl
      have f8 := fun x : Later W0 => (P0.out.1.below x.below).bit (j := 8) rfl
      have f3 := fun x : Later W0 => (P0.out.1.below x.below).bit (j := 3) rfl
      have f30 := fun x : Later W0 => (P0.out.1.below x.below).num (j := 30) (k := .i64) rfl
      have fv := fun x : Later W0 => (P0.out.1.below x.below).pdsg
      have ft := fun x : Later W0 => (P0.out.1.below x.below).pdsT
      have P1 : Hid (∀ x : Later W0, _) := fun x : Later W0 => rro_any (p.nm 30) x.val
      go_upto_region 5 with fail
      refine wp_region_later_tail 18 (by kernel_rfl) (by kernel_rfl) ?_
      simp only [List.take_succ_cons, List.take_zero]
      repeat (go_big_quiet_step (first | exact rfl | (go_at_call 32; with_reducible exact Calls.later_of (P1.out _))))
      refine wpQuiet_nil ?_
      intro z
      simp only [List.drop_succ_cons, List.drop_zero]
      have PZ : Hid (RvAt z.val Z 53 p.cs ∧ RvAt z.val (w.heap.size + 1) 43 zeroM.cs ∧ Below w.heap.size w z.val) := ⟨P0.out.1.below z.below, P0.out.2.1.below z.below, below_over P0.out.2.2 z.below⟩
      have qb := bdM_rst p z.val
      rw [hT] at qb
      clear f71 f13 f10 f8 f3 f30 fv ft P1
      obtain ⟨U, sU, h1, gU⟩ := mst (r := rstM p) PZ.out.2.1
      have G : Hid (RvAt U (w.heap.size + 1) 43 M.cs ∧ Below w.heap.size w U) := by rw [← E9.out]; exact ⟨h1, gro PZ.out.2.2 gU (by omega) PZ.out.2.2.size⟩
      clear h1 gU
      clear hT H71 EM
      go_wp2
      refine bodyPost_ret (results_row rtM Try.results15 _ _ _ _ rfl G.out.1 (by rw [Row.csize, lenM])) rfl ?_
      exact ⟨rfl, G.out.2⟩
    · have x0 : (N == 0) = false := beq_eq_false_iff_ne.2 h0
      have y0 : (N != 0) = true := by simp [h0]
      clear h0
      have hT : tcB p = true := by unfold tcB; rw [H71.out, x0]; rfl
      have f71 := fun x : Later W0 => (P0.out.1.below x.below).num (j := 71) (k := .u8) rfl
      rw [H71.out] at f71
      have f13 := fun x : Later W0 => (P0.out.1.below x.below).bit (j := 13) rfl
      have f10 := fun x : Later W0 => (P0.out.1.below x.below).bit (j := 10) rfl
      have f8 := fun x : Later W0 => (P0.out.1.below x.below).bit (j := 8) rfl
      have f3 := fun x : Later W0 => (P0.out.1.below x.below).bit (j := 3) rfl
      have f30 := fun x : Later W0 => (P0.out.1.below x.below).num (j := 30) (k := .i64) rfl
      have fv := fun x : Later W0 => (P0.out.1.below x.below).pdsg
      have ft := fun x : Later W0 => (P0.out.1.below x.below).pdsT
      have P1 : Hid (∀ x : Later W0, _) := fun x : Later W0 => rro_any (p.nm 30) x.val
      go_upto_region 5 with fail
      refine wp_region_later_tail 18 (by kernel_rfl) (by kernel_rfl) ?_
      simp only [List.take_succ_cons, List.take_zero]
      repeat (go_big_quiet_step (first | exact rfl | (go_at_call 32; with_reducible exact Calls.later_of (P1.out _))))
      refine wpQuiet_nil ?_
      intro z
      simp only [List.drop_succ_cons, List.drop_zero]
      have PZ : Hid (RvAt z.val Z 53 p.cs ∧ RvAt z.val (w.heap.size + 1) 43 zeroM.cs ∧ Below w.heap.size w z.val) := ⟨P0.out.1.below z.below, P0.out.2.1.below z.below, below_over P0.out.2.2 z.below⟩
      have qb := bdM_rst p z.val
      rw [hT] at qb
      clear f71 f13 f10 f8 f3 f30 fv ft P1
      obtain ⟨U, sU, h1, gU⟩ := mst (r := rstM p) PZ.out.2.1
      have G : Hid (RvAt U (w.heap.size + 1) 43 M.cs ∧ Below w.heap.size w U) := by rw [← E9.out]; exact ⟨h1, gro PZ.out.2.2 gU (by omega) PZ.out.2.2.size⟩
      clear h1 gU
      clear hT H71 EM
      go_wp2
      refine bodyPost_ret (results_row rtM Try.results15 _ _ _ _ rfl G.out.1 (by rw [Row.csize, lenM])) rfl ?_
      exact ⟨rfl, G.out.2⟩
theorem rmes_any (h : Hd) (a : Option Addr) (n c : Nat) (l : List Pt) (i : Int) (w : World) (hs : SlAt w a n c l) (hn : n ≤ 1000) :
    Calls Try.prog 15 #[.agg (trc h (.slice a n c)), .int .i64 i] w fun r w' => r = .returned (.agg (msgI l i).cs) ∧ Below w.heap.size w w' := by
  by_cases hi : 0 ≤ i ∧ i < (n : Int)
  · obtain ⟨k, rfl⟩ : ∃ k : Nat, i = (k : Int) := ⟨i.toNat, by omega⟩
    rw [msgI_in (by rw [hs.len]; omega)]
    exact rmes_in h a n c l k w hs hn (by omega)
  · rw [msgI_out (by rw [hs.len]; exact hi)]
    exact rmes_out h a n c l i w hn hi
end Go.Proofs.Ytllmadgonobdnaa
