/-
  A new bridge, and what a bridge tells of its ports and its tree: the walks, for every bridge. And what follows from it here.
-/
import Derived.Test.YtlchejbggnbccaaGreatB17c
import Derived.Test.YtlchejbggnbccaaGreatB17a
import Derived.Test.YtlchejbggnbccaaGreatB15c
import Derived.Test.YtlchejbggnbccaaGreatBbb
import Derived.Test.YtlchejbggnbccaaGreatBba
namespace Go.Proofs.YtlchejbggnbccaaGreat
set_option linter.unusedVariables false
set_option linter.unusedSimpArgs false
set_option maxRecDepth 4000
section
namespace S17
open Go.RowKit
open S14 (gtP gtP_at set_self)

def ptAt (l : List Pt) (i : Int) : Pt := @ite _ (inP l i) (inD l i) (gtP l i.toNat) zeroP
theorem ptAt_in {l : List Pt} {k : Nat} (h : k < l.length) : ptAt l (k : Int) = gtP l k := by
  have : ptAt l (k : Int) = _ := @if_pos _ (inD l k) ⟨by omega, by omega⟩ _ _ _
  rw [this, Int.toNat_natCast]
theorem ptAt_out {l : List Pt} {i : Int} (h : ¬ inP l i) : ptAt l i = zeroP := @if_neg _ (inD l i) h _ _ _
def bdPs (x : Array (Nat × Value)) : Sem Value := Instr.build 74 x
theorem bdPE (x : Array (Nat × Value)) : Instr.build 74 x = bdPs x := rfl
theorem bdP0 (w : World) : (bdPs #[(30, .int .i64 0)]).run Tryz.prog w = .ok (.agg zeroP.cs) w := by kernel_rfl
theorem results_tt {fn : Func} {k m : Nat} (hr : fn.results = #[.tmp k, .tmp m]) (tmps : Array Value) (w : World) : (results fn tmps).run Tryz.prog w = .ok (.tuple #[tmps.getD k undef, tmps.getD m undef]) w := by
  simp [results, hr]
attribute [local go_sem ↓] ldT stT ldDn stDn ldP stP alP fdPE bdPE
attribute [local go_sem] alP_run bdP0
set_option maxHeartbeats 1000000 in
theorem there_0 {W : World} {B c : Nat} {h : Hd} {a : Option Addr} {l : List Pt} (s : BrAt W B h a 0 c l) (i : Int) :
    Calls Tryz.prog 65 #[.pointer (some ⟨B, 0, none⟩), .int .i64 i] W fun r V => r = .returned (.bool false) ∧ V = W := by
  have P : Hid _ := made_any s
  clear s
  go_enter Tryz.func65, Tryz.ntmps65
  go_wp2_with fail
  refine Calls.mono P.out ?_
  rintro _ V ⟨rfl, rfl⟩
  go_wp2
  go_ret
  exact ⟨rfl, rfl⟩
theorem st_p {w W : World} (b : Below w.heap.size w W) (r : RvAt W w.heap.size 74 zeroP.cs) (p : Pt) : ∃ V, (stS 74 (.pointer (some ⟨w.heap.size, 0, none⟩)) (.agg p.cs)).run Tryz.prog W = .ok () V ∧ RvAt V w.heap.size 74 p.cs ∧ Below w.heap.size w V := by
  obtain ⟨V, e, r', g⟩ := r.pst (q := p)
  exact ⟨V, e, r', gro b g (Nat.le_refl _) b.size⟩
theorem one_p (w : World) : ∃ W, w.alloc (.cells zeroP.cs 74) = W ∧ RvAt W w.heap.size 74 zeroP.cs ∧ Below w.heap.size w W := ⟨_, rfl, RvAt.new _ _ _, (Below.refl _ _).alloc (Nat.le_refl _) _⟩
set_option maxHeartbeats 2000000 in
theorem port_no (b : Value) (i : Int) (w : World) (P : ∀ W, Below w.heap.size w W → Calls Tryz.prog 65 #[b, .int .i64 i] W fun r V => r = .returned (.bool false) ∧ V = W) :
    Calls Tryz.prog 53 #[b, .int .i64 i] w fun r V => r = .returned (.agg zeroP.cs) ∧ Below w.heap.size w V := by
  obtain ⟨W, hW, rW, bW⟩ := one_p w
  have Q : Hid _ := P W bW
  obtain ⟨V, eV, rV, bV⟩ := st_p bW rW zeroP
  have F : Hid (RvAt V w.heap.size 74 zeroP.cs ∧ Below w.heap.size w V) := ⟨rV, bV⟩
  clear P rW bW rV bV
  go_enter Tryz.func53, Tryz.ntmps53
  go_wp2_with fail
  refine Calls.mono Q.out ?_
  rintro _ V' ⟨rfl, rfl⟩
  go_wp2
  refine bodyPost_ret (results_row rtP Tryz.results53 _ _ _ _ rfl F.out.1 (by rw [Row.csize, lenP])) rfl ?_
  exact ⟨rfl, F.out.2⟩
set_option maxHeartbeats 2000000 in
theorem port_any {w : World} {B n c : Nat} {h : Hd} {a : Option Addr} {l : List Pt} (s : BrAt w B h a n c l) (i : Int) (hn : n ≤ 1000) :
    Calls Tryz.prog 53 #[.pointer (some ⟨B, 0, none⟩), .int .i64 i] w fun r V => r = .returned (.agg (ptAt l i).cs) ∧ Below w.heap.size w V := by
  have hlen := s.sl.len
  by_cases h0 : 0 < n
  rotate_left
  · have e : n = 0 := by omega
    subst e
    rw [ptAt_out (fun q => by have := q.1; have := q.2; omega)]
    exact port_no _ i w (fun W b => there_0 (s.below b) i)
  by_cases hi : 0 ≤ i ∧ i < (n : Int)
  rotate_left
  · rw [ptAt_out (fun q => hi ⟨q.1, by have := q.2; omega⟩)]
    refine port_no _ i w (fun W b => ?_)
    have := there_any (s.below b) i h0 hn
    have e : (decide (0 ≤ i) && decide (i < (n : Int))) = false := by
      rcases Classical.em (0 ≤ i) with q | q
      · have : ¬ i < (n : Int) := fun z => hi ⟨q, z⟩
        simp [this]
      · simp [q]
    rw [e] at this
    exact this
  obtain ⟨k, rfl⟩ : ∃ k : Nat, i = (k : Int) := ⟨i.toNat, by omega⟩
  have hkl : k < l.length := by omega
  rw [ptAt_in hkl]
  obtain ⟨W, hW, rW, bW⟩ := one_p w
  have sW := s.below bW
  have Q : Hid _ := there_any sW (k : Int) h0 hn
  rw [show (decide (0 ≤ (k : Int)) && decide ((k : Int) < (n : Int))) = true by simp; omega] at Q
  obtain ⟨pb, po, rfl⟩ := sW.sl.some' h0
  have c16 := b_16 sW.var
  have lp := sW.sl.ld (gtP_at hkl)
  obtain ⟨p, hp⟩ : ∃ z, gtP l k = z := ⟨_, rfl⟩
  rw [hp] at lp ⊢
  obtain ⟨V, eV, rV, bV⟩ := st_p bW rW p
  have F : Hid (RvAt V w.heap.size 74 p.cs ∧ Below w.heap.size w V) := ⟨rV, bV⟩
  have hi0 := hi.1
  have hi1 := hi.2
  clear s sW rW bW rV bV hp hi
  go_enter Tryz.func53, Tryz.ntmps53
  go_wp2_with fail
  refine Calls.mono Q.out ?_
  rintro _ V' ⟨rfl, rfl⟩
  go_wp2
  refine bodyPost_ret (results_row rtP Tryz.results53 _ _ _ _ rfl F.out.1 (by rw [Row.csize, lenP])) rfl ?_
  exact ⟨rfl, F.out.2⟩
theorem p_30 (p : Pt) (w : World) : (fdP (.agg p.cs) 30).run Tryz.prog w = .ok (.int .i64 (p.nm 30)) w := fdP_30 p.cs _ (by rw [Row.cget]; exact p.num (k := .i64) rfl) w
theorem p_8 (p : Pt) (w : World) : (fdP (.agg p.cs) 8).run Tryz.prog w = .ok (.bool (p.bt 8)) w := fdP_8 p.cs _ (by rw [Row.cget]; exact p.bit rfl) w
attribute [local go_sem] p_30 p_8
set_option maxHeartbeats 1000000 in
theorem role_of (b : Value) (p : Pt) (i : Int) (w : World) (P : Calls Tryz.prog 53 #[b, .int .i64 i] w fun r V => r = .returned (.agg p.cs) ∧ Below w.heap.size w V) :
    Calls Tryz.prog 29 #[b, .int .i64 i] w fun r V => r = .returned (.int .i64 (p.nm 30)) ∧ Below w.heap.size w V := by
  have Q : Hid _ := P
  clear P
  go_enter Tryz.func29, Tryz.ntmps29
  go_wp2_with fail
  refine Calls.mono Q.out ?_
  rintro _ V ⟨rfl, bV⟩
  have F : Hid (Below w.heap.size w V) := bV
  clear bV
  go_wp2
  go_ret
  exact ⟨rfl, F.out⟩
set_option maxHeartbeats 1000000 in
theorem forw_of (b : Value) (p : Pt) (i : Int) (w : World) (P : Calls Tryz.prog 53 #[b, .int .i64 i] w fun r V => r = .returned (.agg p.cs) ∧ Below w.heap.size w V) :
    Calls Tryz.prog 28 #[b, .int .i64 i] w fun r V => r = .returned (.bool (p.bt 8)) ∧ Below w.heap.size w V := by
  have Q : Hid _ := P
  clear P
  go_enter Tryz.func28, Tryz.ntmps28
  go_wp2_with fail
  refine Calls.mono Q.out ?_
  rintro _ V ⟨rfl, bV⟩
  have F : Hid (Below w.heap.size w V) := bV
  clear bV
  go_wp2
  go_ret
  exact ⟨rfl, F.out⟩
theorem one_tr (w : World) : ∃ W, w.alloc (.cells #[.int .u64 0, .int .u8 0, .int .u8 0, .int .u8 0, .int .u8 0, .int .u8 0, .bool false, .int .u16 0, .int .u64 0, .int .u32 0, .int .u64 0, .int .u16 0, .int .u8 0, .int .u8 0, .int .u8 0, .int .u8 0, .slice none 0 0] 39) = W ∧ RvAt W w.heap.size 39 (trc zeroH (.slice none 0 0)) ∧ Below w.heap.size w W := ⟨_, rfl, by rw [← zeroT_is]; exact RvAt.new _ _ _, (Below.refl _ _).alloc (Nat.le_refl _) _⟩
set_option maxHeartbeats 2000000 in
theorem tree_any {w : World} {B n c : Nat} {h : Hd} {a : Option Addr} {l : List Pt} (s : BrAt w B h a n c l) (h0 : 0 < n) (hn : n ≤ 1000) :
    Calls Tryz.prog 25 #[.pointer (some ⟨B, 0, none⟩)] w fun r V => ∃ a' c', r = .returned (.agg (trc h (.slice a' n c'))) ∧ SlAt V a' n c' l ∧ Nw w a' ∧ Below w.heap.size w V := by
  obtain ⟨W, hW, rW, bW⟩ := one_tr w
  have S : Hid (BrAt W B h a n c l ∧ RvAt W w.heap.size 39 (trc zeroH (.slice none 0 0)) ∧ Below w.heap.size w W ∧ l.length = n) := ⟨s.below bW, rW, bW, s.sl.len⟩
  have Q : Hid _ := made_any S.out.1
  rw [show decide (0 < n) = true by simp [h0]] at Q
  have lt := b_ld S.out.1.var
  clear s rW bW
  go_enter Tryz.func25, Tryz.ntmps25
  go_wp2_with fail
  refine Calls.mono Q.out ?_
  rintro _ V' ⟨rfl, rfl⟩
  go_wp2_with fail
  refine (copy_any h a n c l V' S.out.1.sl hn).mono ?_
  rintro _ X ⟨v, rfl, oX, bX⟩
  obtain ⟨a1, c1, hv, s1, p1⟩ := oX.form
  rw [S.out.2.2.2] at hv s1
  subst hv
  obtain ⟨U, sU, rU, gU⟩ := (S.out.2.1.below bX).tst (g := h) (y := .slice a1 n c1) rfl
  have F : Hid (RvAt U w.heap.size 39 (trc h (.slice a1 n c1)) ∧ SlAt U a1 n c1 l ∧ Nw w a1 ∧ Below w.heap.size w U) := ⟨rU, s1.keptT (S.out.2.1.below bX) gU, fun x hx => Nat.le_trans S.out.2.2.1.size (p1 x hx).1, gro (below_over S.out.2.2.1 bX) gU (Nat.le_refl _) (below_over S.out.2.2.1 bX).size⟩
  clear oX bX s1 p1 rU gU S Q lt
  go_wp2
  refine bodyPost_ret (results_row rtT Tryz.results25 _ _ _ _ rfl F.out.1 (trc_size _ _)) rfl ?_
  exact ⟨a1, c1, rfl, F.out.2⟩
theorem new_brz (X : World) : ∃ Y, X.alloc (.cells #[.int .u64 0, .int .u8 0, .int .u8 0, .int .u8 0, .int .u8 0, .int .u8 0, .bool false, .int .u16 0, .int .u64 0, .int .u32 0, .int .u64 0, .int .u16 0, .int .u8 0, .int .u8 0, .int .u8 0, .int .u8 0, .slice none 0 0] 94) = Y ∧ RvAt Y X.heap.size 94 (trc zeroH (.slice none 0 0)) ∧ Below X.heap.size X Y := ⟨_, rfl, by rw [← zeroT_is]; exact RvAt.new _ _ _, (Below.refl _ _).alloc (Nat.le_refl _) _⟩
theorem one_cf (w : World) (c : Cf) (x : Value) : ∃ W, w.alloc (.cells (S9.cfc c x) 27) = W ∧ RvAt W w.heap.size 27 (S9.cfc c x) ∧ Below w.heap.size w W := ⟨_, rfl, RvAt.new _ _ _, (Below.refl _ _).alloc (Nat.le_refl _) _⟩
def newT (c : Cf) (l : List Int) : Ts := runT (S9.newH c) (S9.newPs l)
attribute [local go_sem ↓] ldC
set_option maxHeartbeats 4000000 in
theorem new_yes (c : Cf) (a : Option Addr) (n k : Nat) (l : List Int) (w : World) (hs : S9.CsAt w a n k l) (hn : n ≤ 100) (ok : S9.okC c l = true) :
    Calls Tryz.prog 9 #[.agg (S9.cfc c (.slice a n k))] w fun r V => ∃ B a' c', r = .returned (.tuple #[.pointer (some ⟨B, 0, none⟩), .int .i64 0]) ∧ BrAt V B (newT c l).h a' n c' (newT c l).s.l ∧ w.heap.size ≤ B ∧ Below w.heap.size w V := by
  obtain ⟨W, hW, rW, bW⟩ := one_cf w c (.slice a n k)
  have lc := rW.cld
  have P : Hid _ := S9.new_any c a n k l W (hs.below bW) (by omega)
  rw [ok] at P
  have B0 : Hid (Below w.heap.size w W ∧ l.length = n) := ⟨bW, hs.len⟩
  clear hs rW bW ok
  go_enter Tryz.func9, Tryz.ntmps9
  go_wp2_with fail
  refine Calls.mono P.out ?_
  rintro _ X ⟨v, rfl, oX, bX⟩
  have oX : Own X W.heap.size v (S9.newPs l) := oX
  obtain ⟨a1, c1, hv, s1, _⟩ := oX.form
  have hl : (S9.newPs l).length = n := by rw [← B0.out.2]; simp [S9.newPs]
  rw [hl] at hv s1
  subst hv
  obtain ⟨Y, sY, rY, bY, zY⟩ := new_tv X (S9.newH c) (.slice a1 n c1) rfl
  obtain ⟨z, hz⟩ : ∃ z, X.heap.size = z := ⟨_, rfl⟩
  rw [hz] at sY rY
  have sY : (stS 39 (.pointer (some ⟨z, 0, none⟩)) (.agg (trc (S9.hdN true c) (.slice a1 n c1)))).run Tryz.prog (X.alloc (.cells #[.int .u64 0, .int .u8 0, .int .u8 0, .int .u8 0, .int .u8 0, .int .u8 0, .bool false, .int .u16 0, .int .u64 0, .int .u32 0, .int .u64 0, .int .u16 0, .int .u8 0, .int .u8 0, .int .u8 0, .int .u8 0, .slice none 0 0] 39)) = .ok () Y := sY
  obtain ⟨U, hU, rU, bU⟩ := new_brz Y
  have ltU := (rY.below bU).tld
  have er : S9.erC true = 0 := rfl
  have G : Hid (SlAt U a1 n c1 (S9.newPs l) ∧ RvAt U Y.heap.size 94 (trc zeroH (.slice none 0 0)) ∧ Below w.heap.size w U ∧ w.heap.size ≤ Y.heap.size) := ⟨(s1.below bY).below bU, rU, below_over (below_over (below_over B0.out.1 bX) bY) bU, (below_over (below_over B0.out.1 bX) bY).size⟩
  obtain ⟨q, hq⟩ : ∃ q, Y.heap.size = q := ⟨_, rfl⟩
  rw [hq] at G
  clear lc P oX bX s1 hl rY bY zY rU bU
  go_wp2_with fail
  refine (lead_any (S9.newH c) a1 (S9.newPs l) G.out.2.1 G.out.1 hn).mono ?_
  rintro _ V ⟨v, a2, c2, rfl, bV, dV, gV⟩
  have F : Hid (BrAt V q (newT c l).h a2 n c2 (newT c l).s.l ∧ w.heap.size ≤ q ∧ Below w.heap.size w V) := ⟨bV, G.out.2.2.2, gro G.out.2.2.1 gV G.out.2.2.2 G.out.2.2.1.size⟩
  clear bV dV gV G
  go_wp2
  refine bodyPost_ret (results_tt Tryz.results9 _ _) rfl ?_
  exact ⟨q, a2, c2, rfl, F.out⟩
end S17
end
section
namespace S17
set_option maxRecDepth 100000
open Go.RowKit
open S14 (gtP gtP_at set_self)

def T0 : Ts := runT (S9.newH S15.cX) (S9.newPs [20000, 20000])
def E1 : Ev := evUp T0.h T0.s.l 0 true
end S17
end
section
namespace S17
set_option maxRecDepth 100000
open Go.RowKit
open S14 (gtP gtP_at set_self)

theorem cx_ok : S9.okC S15.cX [20000, 20000] = true := by kernel_rfl
theorem e1_at : (E1.o[1]?).map (fun r => (r.nm 0, r.nm 1, r.nm 8, r.bt 4)) = some (0, 3, 4, true) := by kernel_rfl
theorem e1_get : ∃ r : Ot, E1.o[1]? = some r ∧ r.cl[0]? = some (.int .i64 0) ∧ r.cl[1]? = some (.int .i64 3) ∧ r.cl[8]? = some (.int .i64 4) ∧ r.cl[4]? = some (.bool true) := by
  have h := e1_at
  cases hx : E1.o[1]? with
  | none => rw [hx] at h; cases h
  | some r =>
    rw [hx] at h
    simp only [Option.map_some, Option.some.injEq, Prod.mk.injEq] at h
    refine ⟨r, rfl, ?_, ?_, ?_, ?_⟩
    · rw [r.num (k := .i64) rfl, h.1]
    · rw [r.num (k := .i64) rfl, h.2.1]
    · rw [r.num (k := .i64) rfl, h.2.2.1]
    · rw [r.bit rfl, h.2.2.2]
theorem e1_e : E1.e = 0 := by kernel_rfl
theorem e1_l : E1.l.length = 2 := by kernel_rfl
theorem e1_n : E1.o.length = 2 := by kernel_rfl
theorem e1_r : (gtP E1.l 0).nm 30 = 4 := by kernel_rfl
theorem e1_f : (gtP E1.l 0).bt 8 = false := by kernel_rfl
theorem var_dn (W : World) (vo vf : Value) (h1 : vo.oneCell' = true) (h2 : vf.oneCell' = true) : ∃ W', (stS 52 (.pointer (some ⟨W.heap.size, 0, none⟩)) (.agg #[vo, vf])).run Tryz.prog (W.alloc (.cells #[.slice none 0 0, .slice none 0 0] 52)) = .ok () W' ∧ RvAt W' W.heap.size 52 #[vo, vf] ∧ Below W.heap.size W W' ∧ W'.heap.size = W.heap.size + 1 := row_new rtD W _ _ rfl rfl (two_one h1 h2)
attribute [local go_sem ↓] ldDn stDn
set_option maxHeartbeats 8000000 in
theorem awake_any (w : World) : Calls Tryz.prog 11 #[] w fun r V => r = .returned (.bool true) ∧ Below w.heap.size w V := by
  have K1 : Hid (newT S15.cX [20000, 20000] = T0) := rfl
  have K2 : Hid (evUp T0.h T0.s.l 0 true = E1) := rfl
  have K3 : Hid (E1.e = 0 ∧ E1.l.length = 2 ∧ E1.o.length = 2 ∧ (gtP E1.l 0).nm 30 = 4 ∧ (gtP E1.l 0).bt 8 = false) := ⟨e1_e, e1_l, e1_n, e1_r, e1_f⟩
  have K4 : Hid (∃ r : Ot, E1.o[1]? = some r ∧ r.cl[0]? = some (.int .i64 0) ∧ r.cl[1]? = some (.int .i64 3) ∧ r.cl[8]? = some (.int .i64 4) ∧ r.cl[4]? = some (.bool true)) := e1_get
  obtain ⟨t0, ht0⟩ : ∃ z, T0 = z := ⟨_, rfl⟩
  rw [ht0] at K1 K2
  obtain ⟨e1, he1⟩ : ∃ z, E1 = z := ⟨_, rfl⟩
  rw [he1] at K2 K3 K4
  clear ht0 he1
  go_enter Tryz.func11, Tryz.ntmps11
  go_wp2_with fail
  refine (S15.conf_any w).mono ?_
  rintro _ W1 ⟨a0, k0, rfl, s0, b0⟩
  have N1 : Hid _ := new_yes S15.cX a0 2 k0 [20000, 20000] W1 s0 (by omega) cx_ok
  rw [K1.out] at N1
  have B1 : Hid (Below w.heap.size w W1) := b0
  clear s0 b0
  go_wp2_with fail
  refine Calls.mono N1.out ?_
  rintro _ W2 ⟨B, a1, c1, rfl, s1, hB, b1⟩
  have U1 : Hid _ := up_any s1 0 true (by omega) (by omega)
  rw [K2.out] at U1
  have B2 : Hid (Below w.heap.size w W2 ∧ w.heap.size ≤ B) := ⟨below_over B1.out b1, Nat.le_trans B1.out.size hB⟩
  clear s1 hB b1 N1
  go_wp2_with fail
  refine Calls.mono U1.out ?_
  rintro _ W3 ⟨v3, a2, c2, rfl, s2, d2, g2⟩
  rw [K3.out.1]
  obtain ⟨vo, vf, rfl, o2, f2⟩ := d2.out
  obtain ⟨ao, co, rfl, so⟩ := o2.len
  rw [K3.out.2.2.1] at so
  rw [K3.out.2.2.1]
  obtain ⟨W4, e4, r4, b4, z4⟩ := var_dn W3 (.slice ao 2 co) vf rfl f2.one
  obtain ⟨z, hz⟩ : ∃ z, W3.heap.size = z := ⟨_, rfl⟩
  rw [hz] at e4 r4
  have E2 : Hid (evUp e1.h e1.l 2 true = Ev.no e1.h e1.l 5) := evUp_out (fun q => by have := q.2; have := K3.out.2.1; omega)
  have U2 : Hid _ := up_any (s2.below b4) 2 true (by omega) (by omega)
  rw [E2.out] at U2
  obtain ⟨xb, hxb⟩ : ∃ x, (Value.slice a2 2 c2) = x := ⟨_, rfl⟩
  have G : Hid (RvAt W4 z 52 #[.slice ao 2 co, vf] ∧ S16.SlAt eO W4 ao 2 co e1.o ∧ Below w.heap.size w W4 ∧ RvAt W4 B 94 (trc e1.h xb)) := by
    have hlt := (s2.below b4).var
    rw [hxb] at hlt
    exact ⟨r4, so.below b4, below_over (gro B2.out.1 g2 B2.out.2 B2.out.1.size) b4, hlt⟩
  clear s2 d2 g2 o2 f2 so r4 b4 z4 U1 E2 hxb
  go_wp2_with fail
  refine Calls.mono U2.out ?_
  rintro _ W5 ⟨v5, a3, c3, rfl, s3, d3, g3⟩
  obtain ⟨wo, wf, rfl, o3, f3⟩ := d3.out
  obtain ⟨W6, e6, r6, b6, z6⟩ := var_dn W5 wo wf o3.one f3.one
  have S6 : Hid (BrAt W6 B e1.h a3 2 c3 e1.l) := s3.below b6
  have r6' := (G.out.1.keptBut g3 (by have := ne_type G.out.1 G.out.2.2.2 (by decide); simpa using this)).below b6
  have sG := (G.out.2.1.keptV G.out.2.2.2 (by decide) g3).below b6
  have B6 : Hid (Below w.heap.size w W6) := below_over (gro G.out.2.2.1 g3 B2.out.2 G.out.2.2.1.size) b6
  obtain ⟨ob, oo, rfl⟩ := sG.some' (by omega)
  obtain ⟨x, hx, x0, x1, x8, x4⟩ := K4.out
  have d0 := r6'.cell 0 _ rfl
  have m0 : W6.cell? ⟨ob, oo + 17, none⟩ = some (.int .i64 0) := sG.cell kO (j := 0) hx (by show x.cs[0]? = _; rw [Row.cget]; exact x0) (by simp [eO])
  have m1 : W6.cell? ⟨ob, oo + 17 + 1, none⟩ = some (.int .i64 3) := sG.cell kO (j := 1) hx (by show x.cs[1]? = _; rw [Row.cget]; exact x1) (by simp [eO])
  have m8 : W6.cell? ⟨ob, oo + 17 + 1 + 7, none⟩ = some (.int .i64 4) := sG.cell kO (j := 8) hx (by show x.cs[8]? = _; rw [Row.cget]; exact x8) (by simp [eO])
  have m4 : W6.cell? ⟨ob, oo + 17 + 1 + 3, none⟩ = some (.bool true) := sG.cell kO (j := 4) hx (by show x.cs[4]? = _; rw [Row.cget]; exact x4) (by simp [eO])
  have P30 : Hid _ := role_of _ _ 0 W6 (port_any S6.out 0 (by omega))
  have P8 : Hid (∀ V, Below W6.heap.size W6 V → _) := fun V b => forw_of _ _ 0 V (port_any (S6.out.below b) 0 (by omega))
  have hpt : ptAt e1.l 0 = gtP e1.l 0 := ptAt_in (k := 0) (by rw [K3.out.2.1]; omega)
  rw [hpt, K3.out.2.2.2.1] at P30
  rw [hpt, K3.out.2.2.2.2] at P8
  clear hpt s3 d3 g3 o3 f3 r6 b6 z6 r6' sG hx x0 x1 x8 x4 G U2
  go_wp2_with fail
  refine Calls.mono P30.out ?_
  rintro _ V1 ⟨rfl, q1⟩
  have B7 : Hid (Below w.heap.size w V1) := below_over B6.out q1
  have Q8 : Hid _ := P8.out V1 q1
  clear q1 P8 P30
  go_wp2_with fail
  refine Calls.mono Q8.out ?_
  rintro _ V2 ⟨rfl, q2⟩
  have F : Hid (Below w.heap.size w V2) := below_over B7.out q2
  clear q2
  go_wp2
  go_ret
  exact ⟨rfl, F.out⟩
end S17
end
section
namespace S17
open Go.RowKit
open S14 (gtP gtP_at set_self)

theorem run_olen (n : Nat) : ∀ (m : Nat) (t : Ts), (runN n m t).s.o.length ≤ t.s.o.length + m * n
  | 0, t => by simp [runN]
  | m + 1, t => by
    have h1 : (pass n t).s.o.length ≤ t.s.o.length + n := (psN_o (S12.stpH t.h t.s.l) ⟨S12.stpL t.h t.s.l, S12.stpB t.h t.s.l, t.s.o, t.s.f⟩ n).1
    unfold runN
    split
    · have := run_olen n m (pass n t)
      rw [Nat.succ_mul]
      omega
    · rw [Nat.succ_mul]
      omega
attribute [local go_sem ↓] ldT stT ldDn stDn ldEn stEn
end S17
end
section
namespace S17
open Go.RowKit
open S14 (gtP gtP_at set_self)

def DV (W : World) (p : Nat) (os : List Ot) : Prop := ∃ vo vf, RvAt W p 52 #[vo, vf] ∧ isO W vo os ∧ vf.oneCell' = true
theorem DV.below {W V : World} {p : Nat} {os : List Ot} (h : DV W p os) (k : Below W.heap.size W V) : DV V p os := by
  obtain ⟨vo, vf, r, o, f⟩ := h
  exact ⟨vo, vf, r.below k, o.below k, f⟩
theorem DV.row {W V : World} {p b : Nat} {os : List Ot} {t : TypeId} {cs : Array Value} (h : DV W p os) (r : RvAt W b t cs) (h1 : t ≠ 52 ∨ p ≠ b) (h2 : t ≠ 91) (g : W.grownBy V (some b)) : DV V p os := by
  obtain ⟨vo, vf, r', o, f⟩ := h
  refine ⟨vo, vf, r'.keptBut g ?_, o.row r h2 g, f⟩
  rcases h1 with h1 | h1
  · have := ne_type r' r (Ne.symm h1)
    simpa using this
  · simpa using h1
theorem DV.lt {W : World} {p : Nat} {os : List Ot} (h : DV W p os) : p < W.heap.size := by
  obtain ⟨vo, vf, r, _⟩ := h
  exact r.lt
structure TW (w W : World) (A B pu pv : Nat) (s : Sy) : Prop where
  a : ∃ a c, BrAt W A s.ha a 2 c s.la
  b : ∃ a c, BrAt W B s.hb a 2 c s.lb
  u : DV W pu s.u
  v : DV W pv s.v
  bel : Below w.heap.size w W
  la : w.heap.size ≤ A
  lb : w.heap.size ≤ B
  lu : w.heap.size ≤ pu
  lv : w.heap.size ≤ pv
  ab : A ≠ B
  uv : pu ≠ pv
theorem TW.below {w W V : World} {A B pu pv : Nat} {s : Sy} (h : TW w W A B pu pv s) (k : Below W.heap.size W V) : TW w V A B pu pv s := by
  obtain ⟨⟨a, c, x⟩, ⟨a', c', y⟩, u, v, bel, l1, l2, l3, l4, n1, n2⟩ := h
  exact ⟨⟨a, c, x.below k⟩, ⟨a', c', y.below k⟩, u.below k, v.below k, below_over bel k, l1, l2, l3, l4, n1, n2⟩
theorem TW.goA {w W V : World} {A B pu pv c' : Nat} {a' : Option Addr} {s : Sy} {h' : Hd} {l' : List Pt} (h : TW w W A B pu pv s) (g : W.grownBy V (some A)) (k : BrAt V A h' a' 2 c' l') : TW w V A B pu pv ⟨h', l', s.hb, s.lb, s.u, s.v⟩ := by
  obtain ⟨⟨a, c, x⟩, ⟨a2, c2, y⟩, u, v, bel, l1, l2, l3, l4, n1, n2⟩ := h
  exact ⟨⟨a', c', k⟩, ⟨a2, c2, y.other x.var (Ne.symm n1) g⟩, u.row x.var (Or.inl (by decide)) (by decide) g, v.row x.var (Or.inl (by decide)) (by decide) g, gro bel g l1 bel.size, l1, l2, l3, l4, n1, n2⟩
theorem TW.goB {w W V : World} {A B pu pv c' : Nat} {a' : Option Addr} {s : Sy} {h' : Hd} {l' : List Pt} (h : TW w W A B pu pv s) (g : W.grownBy V (some B)) (k : BrAt V B h' a' 2 c' l') : TW w V A B pu pv ⟨s.ha, s.la, h', l', s.u, s.v⟩ := by
  obtain ⟨⟨a, c, x⟩, ⟨a2, c2, y⟩, u, v, bel, l1, l2, l3, l4, n1, n2⟩ := h
  exact ⟨⟨a, c, x.other y.var n1 g⟩, ⟨a', c', k⟩, u.row y.var (Or.inl (by decide)) (by decide) g, v.row y.var (Or.inl (by decide)) (by decide) g, gro bel g l2 bel.size, l1, l2, l3, l4, n1, n2⟩
theorem dn_st {W : World} {p : Nat} {vo vf vo' : Value} {os : List Ot} (r : RvAt W p 52 #[vo, vf]) (o : isO W vo' os) (f : vf.oneCell' = true) : ∃ V, (stS 49 (.pointer (some ⟨p, 0, none⟩)) vo').run Tryz.prog W = .ok () V ∧ DV V p os ∧ W.grownBy V (some p) := by
  have e := r.st1 (k := 0) (tv := 49) infoLO (by simp) o.one
  have g := grown_row W p #[vo', vf]
  refine ⟨_, e, ⟨vo', vf, r.set, o.row r (by decide) g, f⟩, g⟩
theorem TW.setU {w W V : World} {A B pu pv : Nat} {s : Sy} {os : List Ot} (h : TW w W A B pu pv s) (d : DV V pu os) (g : W.grownBy V (some pu)) : TW w V A B pu pv ⟨s.ha, s.la, s.hb, s.lb, os, s.v⟩ := by
  obtain ⟨⟨a, c, x⟩, ⟨a2, c2, y⟩, ⟨vo, vf, r, o, f⟩, v, bel, l1, l2, l3, l4, n1, n2⟩ := h
  exact ⟨⟨a, c, x.kept r (by decide) (by simp) g⟩, ⟨a2, c2, y.kept r (by decide) (by simp) g⟩, d, v.row r (Or.inr (Ne.symm n2)) (by decide) g, gro bel g l3 bel.size, l1, l2, l3, l4, n1, n2⟩
theorem TW.setV {w W V : World} {A B pu pv : Nat} {s : Sy} {os : List Ot} (h : TW w W A B pu pv s) (d : DV V pv os) (g : W.grownBy V (some pv)) : TW w V A B pu pv ⟨s.ha, s.la, s.hb, s.lb, s.u, os⟩ := by
  obtain ⟨⟨a, c, x⟩, ⟨a2, c2, y⟩, u, ⟨vo, vf, r, o, f⟩, bel, l1, l2, l3, l4, n1, n2⟩ := h
  exact ⟨⟨a, c, x.kept r (by decide) (by simp) g⟩, ⟨a2, c2, y.kept r (by decide) (by simp) g⟩, u.row r (Or.inr n2) (by decide) g, d, gro bel g l4 bel.size, l1, l2, l3, l4, n1, n2⟩
theorem dv_first {W : World} {p : Nat} {r : Ot} {os : List Ot} (h : DV W p (r :: os)) (hl : os.length ≤ 1000000) : ∃ b o c vf, RvAt W p 52 #[.slice (some ⟨b, o, none⟩) (os.length + 1) c, vf] ∧ vf.oneCell' = true ∧ os.length + 1 ≤ c ∧
    (∀ V, Below W.heap.size W V → (ldS 46 (.pointer (some ⟨b, o + 1, none⟩))).run Tryz.prog V = .ok (.agg (mOf r).cs) V) ∧ isO W (.slice (adv (some ⟨b, o, none⟩) 1 c 17) os.length (c - 1)) os := by
  obtain ⟨vo, vf, rv, io, f⟩ := h
  obtain ⟨a, c, rfl, s⟩ := io.len
  obtain ⟨b, o, rfl⟩ := s.some' (by simp)
  refine ⟨b, o, c, vf, rv, f, by have := s.cap; simpa using this, fun V k => ?_, ?_⟩
  · refine (s.below k).part kO (i := 0) (j := 1) (x := r) (t := 46) (cs := (mOf r).cs) rfl (fun q v hv => ?_) Tryz.underlying46 rfl (by rw [Row.csize]; exact infoM) (by simp [eO])
    show r.cs[1 + q]? = some v
    rw [Row.cget] at hv ⊢
    have hq : q < 16 := by
      have := (List.getElem?_eq_some_iff.1 hv).1
      have l := (mOf r).len
      rw [l] at this
      exact this
    have : ((r.cl.drop 1).take 16)[q]? = r.cl[1 + q]? := dr _ hq
    rw [← this]
    exact hv
  · have := sl_drop s (k := 1) (by simp) kO
    exact ⟨_, _, _, by simp [eO], this⟩
theorem app2 {W : World} {B : Nat} {v : Value} {l m : List Ot} {a : Option Addr} {n c : Nat} (h : S16.Own eO W B v l) (hs : S16.SlAt eO W a n c m) (hl : l.length + m.length ≤ 1000000) (hB : B ≤ W.heap.size) (ty : TypeId) :
    ∃ v' W', (S16.apS eO.st ty #[v, .slice a n c]).run Tryz.prog W = .ok v' W' ∧ S16.Own eO W' B v' (l ++ m) ∧ W.grownBy W' v.ownBlock := by
  have k := kO
  obtain ⟨z, hz, hzs⟩ := k.info
  obtain ⟨i0, hi, hz0, hz1, hz2⟩ := info_parts hz
  have hby := k.byt
  unfold S16.apS
  cases a with
  | none =>
    obtain ⟨rfl, rfl⟩ := hs.nil rfl
    have hm : m = [] := List.eq_nil_of_length_eq_zero hs.len
    subst hm
    have hrun := run_append_owned_none (P := Tryz.prog) (w := W) B eO.st ty eO.ty i0 eO.K k.slc hi v l.length _ h
    exact ⟨v, W, hrun, by rw [List.append_nil]; exact h, World.grownBy.refl _ _⟩
  | some x =>
    by_cases hn0 : n = 0
    · subst hn0
      have hm : m = [] := List.eq_nil_of_length_eq_zero hs.len
      subst hm
      obtain ⟨v', W', hrun, h1, h2, _⟩ := run_append_own (P := Tryz.prog) W B eO.st ty eO.ty i0 z eO.K eO.B k.slc hi hz0 hz1 hz2 hzs k.pos v l.length _ h x 0 c [] (by simp)
        (fun j u hj => by cases hj) (fun u hu => by cases hu) (by unfold maxLen; omega) (by
          have : (l.length + 0) * eO.B ≤ 1000000 * 1000 := Nat.mul_le_mul (by omega) hby
          omega) hB
      refine ⟨v', W', hrun, ?_, h2⟩
      unfold S16.Own
      rw [List.append_nil] at h1 ⊢
      exact h1
    obtain ⟨b, o, rfl, hc⟩ := hs.cells x rfl (by omega)
    obtain ⟨v', W', hrun, h1, h2, _⟩ := run_append_own (P := Tryz.prog) W B eO.st ty eO.ty i0 z eO.K eO.B k.slc hi hz0 hz1 hz2 hzs k.pos v l.length _ h ⟨b, o, none⟩ n c (eO.fl m) (by rw [S16.El.fl_len k, hs.len])
      (fun j u hj => by rw [Addr.add_lit]; exact hc j u hj) (S16.El.fl_one k m) (by have := hs.len; unfold maxLen; omega) (by
        have := hs.len
        have : (l.length + n) * eO.B ≤ 1000000 * 1000 := Nat.mul_le_mul (by omega) hby
        omega) hB
    refine ⟨v', W', hrun, ?_, h2⟩
    unfold S16.Own
    rw [S16.El.fl_app, List.length_append, hs.len]
    exact h1
theorem join2 {V : World} {an am : Option Addr} {n cn m cm : Nat} {os ms : List Ot} (h1 : S16.SlAt eO V an n cn os) (h2 : S16.SlAt eO V am m cm ms) (hl : os.length + ms.length ≤ 1000000) : ∃ A B C vb vc, V.alloc (.cells #[] 91) = A ∧
    (S16.apS 49 49 #[.slice (some ⟨V.heap.size, 0, none⟩) 0 0, .slice an n cn]).run Tryz.prog A = .ok vb B ∧ (S16.apS 49 49 #[vb, .slice am m cm]).run Tryz.prog B = .ok vc C ∧ Below V.heap.size V A ∧ Below V.heap.size V B ∧ Below V.heap.size V C ∧ isO C vc (os ++ ms) := by
  obtain ⟨A, hA⟩ : ∃ A, V.alloc (.cells #[] 91) = A := ⟨_, rfl⟩
  have bA : Below V.heap.size V A := by rw [← hA]; exact (Below.refl _ _).alloc (Nat.le_refl _) _
  have oA : S16.Own eO A V.heap.size (.slice (some ⟨V.heap.size, 0, none⟩) 0 0) [] := by rw [← hA]; exact zero_own V _ (Nat.le_refl _)
  obtain ⟨vb, B, apB, oB, gB⟩ := app2 oA (h1.below bA) (by simp; omega) bA.size 49
  have bB : Below V.heap.size A B := below_of_grown gB bA.size (fun j e => (oA.blk j e).1)
  obtain ⟨vc, C, apC, oC, gC⟩ := app2 oB ((h2.below bA).keptBut gB (fun x hx h0 e => by
    have h3 := (oA.blk _ e.symm).1
    obtain ⟨cs, r⟩ := h2.soft x hx h0
    have := r.lt
    omega)) (by simp; omega) (Nat.le_trans bA.size bB.size) 49
  have bC : Below V.heap.size B C := below_of_grown gC (Nat.le_trans bA.size bB.size) (fun j e => (oB.blk j e).1)
  obtain ⟨ar, cr, er, sr, _⟩ := oC.form
  rw [List.nil_append] at sr
  exact ⟨A, B, C, vb, vc, hA, apB, apC, bA, bA.trans bB, (bA.trans bB).trans bC, ⟨ar, _, cr, er, sr⟩⟩
theorem ev_out (h : Hd) (l : List Pt) (hl : l.length = 2) : (runT h l).s.o.length ≤ 200 := by
  have := run_olen l.length 100 (start h l)
  have e : (start h l).s.o.length = 0 := rfl
  rw [e] at this
  unfold runT
  rw [hl] at this ⊢
  omega
theorem hear_out (h : Hd) (l : List Pt) (i : Int) (m : Mg) (hl : l.length = 2) : (evHear h l i m).o.length ≤ 200 := by
  by_cases c : inP l i
  · by_cases d : m.nm 0 = 1 ∨ m.nm 0 = 2 ∨ m.nm 0 = 3
    · rw [evHear_go c d]
      exact ev_out h _ (by unfold S11.hearL; split <;> simp [hl])
    · rw [evHear_no c d]; exact Nat.zero_le _
  · rw [evHear_out c]; exact Nat.zero_le _
theorem tick_out (h : Hd) (l : List Pt) (hl : l.length = 2) : (evTick h l).o.length ≤ 200 := ev_out h _ (by rw [List.length_map]; exact hl)
theorem up_out (h : Hd) (l : List Pt) (i : Nat) (b : Bool) (hl : l.length = 2) : (evUp h l i b).o.length ≤ 200 := by
  by_cases c : i < l.length
  · by_cases d : (gtP l i).bt 2 = b
    · rw [evUp_same c d]; exact Nat.zero_le _
    · rw [evUp_go c d]; exact ev_out h _ (by rw [upL_len]; exact hl)
  · rw [evUp_out (fun z => c (by have := z.2; omega))]; exact Nat.zero_le _
/-! ### one message after another -/
def hop (s : Sy) : Sy := match s.u with
  | m :: u => ⟨s.ha, s.la, (evHear s.hb s.lb 0 (mOf m)).h, (evHear s.hb s.lb 0 (mOf m)).l, u, s.v ++ (evHear s.hb s.lb 0 (mOf m)).o⟩
  | [] => match s.v with
    | m :: v => ⟨(evHear s.ha s.la 0 (mOf m)).h, (evHear s.ha s.la 0 (mOf m)).l, s.hb, s.lb, (evHear s.ha s.la 0 (mOf m)).o, v⟩
    | [] => s
def itr : Nat → Sy → Sy
  | 0, s => s
  | k + 1, s => hop (itr k s)
theorem itr_in : ∀ (k : Nat) (s : Sy), itr k (hop s) = hop (itr k s)
  | 0, _ => rfl
  | k + 1, s => by
    show hop (itr k (hop s)) = hop (hop (itr k s))
    rw [itr_in k s]
theorem come_rest : ∀ (k : Nat) (s : Sy), s.u = [] → s.v = [] → come k s = s
  | 0, _, _, _ => rfl
  | k + 1, ⟨ha, la, hb, lb, u, v⟩, e, f => by
    have e : u = [] := e
    have f : v = [] := f
    subst e f
    rfl
theorem hop_rest (s : Sy) (e : s.u = []) (f : s.v = []) : hop s = s := by
  obtain ⟨ha, la, hb, lb, u, v⟩ := s
  have e : u = [] := e
  have f : v = [] := f
  subst e f
  rfl
theorem come_hop : ∀ (k : Nat) (s : Sy), come (k + 1) s = come k (hop s)
  | k, ⟨ha, la, hb, lb, u, v⟩ => by
    match u, v with
    | m :: u, v => rfl
    | [], m :: v => rfl
    | [], [] => exact (come_rest k ⟨ha, la, hb, lb, [], []⟩ rfl rfl).symm
theorem come_itr : ∀ (k : Nat) (s : Sy), come k s = itr k s
  | 0, _ => rfl
  | k + 1, s => by rw [come_hop, come_itr k (hop s), itr_in k s]; rfl
theorem itr_rest (s : Sy) (k : Nat) (e : (itr k s).u = []) (f : (itr k s).v = []) : ∀ j, k ≤ j → itr j s = itr k s := by
  intro j hj
  induction j with
  | zero => rw [show k = 0 by omega]
  | succ j ih =>
    by_cases c : k = j + 1
    · rw [c]
    · have := ih (by omega)
      show hop (itr j s) = _
      rw [this]
      exact hop_rest _ e f
end S17
end
end Go.Proofs.YtlchejbggnbccaaGreat
