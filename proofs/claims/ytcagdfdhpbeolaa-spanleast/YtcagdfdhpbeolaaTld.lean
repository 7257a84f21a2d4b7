/-
  What a bridge tells on a port, more cost, the best of any vectors: the walks, for every graph that may be.
-/
import Derived.Test.YtcagdfdhpbeolaaRp
import Derived.Test.YtcagdfdhpbeolaaNea2
import Derived.Test.YtcagdfdhpbeolaaTail
namespace Go.Proofs.Ytcagdfdhpbeolaa
set_option linter.unusedVariables false
set_option maxRecDepth 4000
set_option linter.unusedSimpArgs false
open Go.RowKit

/-- A bridge's root, its cost, its number. -/
def kr (ids : List Nat) (L : List Ne) (i : Nat) : Nat := key ids L i / 4294967296
def kc (ids : List Nat) (L : List Ne) (i : Nat) : Nat := key ids L i % 4294967296
def idO (ids : List Nat) (i : Nat) : Nat := ids.getD i 0
/-- A tree's cells. -/
def tre (a : Option Addr) (n c g c2 : Nat) : Array Value := #[.slice a n c, .slice (some ⟨g, 0, none⟩) n c2]
theorem tre_one (a : Option Addr) (n c g c2 : Nat) : ∀ v ∈ (tre a n c g c2).toList, v.oneCell' = true := one_of rfl
/-- Numbers and nodes of a graph that may be, where root ports may yet be sought. -/
structure TQ (W : World) (a : Option Addr) (n c g c2 : Nat) (ids : List Nat) (L : List Ne) (p : Nat → Int) : Prop where
  sl : SlAt eU W a n c ids
  nds : PAt eN W g c2 (ndAt ids L p)
  ok : Gok ids L
  len : ids.length = n
theorem TQ.below {W V : World} {a : Option Addr} {n c g c2 : Nat} {ids : List Nat} {L : List Ne} {p : Nat → Int} (h : TQ W a n c g c2 ids L p) (k : Below W.heap.size W V) : TQ V a n c g c2 ids L p := ⟨h.sl.below k, h.nds.below k, h.ok, h.len⟩
theorem TQ.ld {W : World} {a : Option Addr} {n c g c2 : Nat} {ids : List Nat} {L : List Ne} {p : Nat → Int} (h : TQ W a n c g c2 ids L p) {i : Nat} (hi : i < n) : (ldS 60 (.pointer (some ⟨g, i * 3, none⟩))).run Try.prog W = .ok (.agg (Nd.mk (kr ids L i) (kc ids L i) (p i)).cs) W := h.nds.ld kN (ndAt_at p (by rw [h.len]; exact hi)) Try.underlying60 rfl rfl
theorem TQ.n0 {W : World} {a : Option Addr} {n c g c2 : Nat} {ids : List Nat} {L : List Ne} {p : Nat → Int} (h : TQ W a n c g c2 ids L p) {i : Nat} (hi : i < n) : W.cell? ⟨g, i * 3, none⟩ = some (.int .u64 ((kr ids L i) : Int)) := h.nds.cell kN (j := 0) (ndAt_at p (by rw [h.len]; exact hi)) rfl rfl
theorem TQ.n2 {W : World} {a : Option Addr} {n c g c2 : Nat} {ids : List Nat} {L : List Ne} {p : Nat → Int} (h : TQ W a n c g c2 ids L p) {i : Nat} (hi : i < n) : W.cell? ⟨g, i * 3 + 2, none⟩ = some (.int .i64 (p i)) := h.nds.cell kN (j := 2) (ndAt_at p (by rw [h.len]; exact hi)) rfl rfl
theorem getD_at {ids : List Nat} {i : Nat} (h : i < ids.length) : ids[i]? = some (ids.getD i 0) := by
  rw [List.getD_eq_getElem?_getD, List.getElem?_eq_getElem h]
  rfl
theorem TQ.id {W : World} {b o n c g c2 : Nat} {ids : List Nat} {L : List Ne} {p : Nat → Int} (h : TQ W (some ⟨b, o, none⟩) n c g c2 ids L p) {i : Nat} (hi : i < n) : W.cell? ⟨b, o + i, none⟩ = some (.int .u64 (idO ids i : Int)) := ldu h.sl (getD_at (by rw [h.len]; exact hi))
theorem bdV (ps : Array (Nat × Value)) : Instr.build 56 ps = bdS 56 ps := rfl
theorem bdV_0 (r c b p : Int) (w : World) : (bdS 56 #[(0, .int .u64 r), (1, .int .u32 c), (2, .int .u64 b), (3, .int .u16 p)]).run Try.prog w = .ok (.agg (V4.mk r c b p).cs) w := by kernel_rfl
theorem tv_new (w : World) (cs : Array Value) : ∃ W, (w.alloc (.cells cs 68)).alloc (.cells #[.int .u64 0, .int .u32 0, .int .u64 0, .int .u16 0] 56) = W ∧ RvAt W w.heap.size 68 cs ∧ RvAt W (w.heap.size + 1) 56 #[.int .u64 0, .int .u32 0, .int .u64 0, .int .u16 0] ∧ Below w.heap.size w W :=
  ⟨_, rfl, RvAt.below (RvAt.new w _ _) ((Below.refl _ _).alloc (Nat.le_refl _) _), by have := RvAt.new (w.alloc (.cells cs 68)) 56 #[.int .u64 0, .int .u32 0, .int .u64 0, .int .u16 0]; simpa using this, ((Below.refl _ _).alloc (Nat.le_refl _) _).alloc (by simp) _⟩
theorem p16 {p : Nat} (h : p ≤ 7) : IntKind.u16.wrap (p : Int) = (p : Int) ∧ IntKind.u16.wrap (32769 + (p : Int)) = 32769 + (p : Int) := by
  have e1 : IntKind.u16.wrap (p : Int) = (p : Int) % 65536 := by rfl
  have e2 : IntKind.u16.wrap (32769 + (p : Int)) = (32769 + (p : Int)) % 65536 := by rfl
  rw [e1, e2]
  omega
theorem ldv {W : World} {b o n c i : Nat} {l : List V4} {x : V4} (h : SlAt eV W (some ⟨b, o, none⟩) n c l) (hx : l[i]? = some x) : (ldS 56 (.pointer (some ⟨b, o + i * 4, none⟩))).run Try.prog W = .ok (.agg x.cs) W := h.ld kV hx Try.underlying56 rfl rfl
/-- A vector with more cost. -/
def addV (v : V4) (k : Int) : V4 := ⟨v.r, IntKind.u32.wrap (v.c + k), v.b, v.p⟩
theorem add_hear {ids : List Nat} {L : List Ne} (g : Gok ids L) {s : Ne} (hs : s ∈ sdl L) : addV (toldV ids L s.b s.pb) (s.ca : Int) = hearV ids L s := by
  have hg := g.side s hs
  obtain ⟨h1, h2, _⟩ := key_most g hg.2.1
  unfold addV toldV hearV
  simp only
  rw [wrap32 (by omega)]
set_option maxHeartbeats 400000 in
theorem add_any (v : V4) (k : Int) (w : World) (h : v.wf) (hk : 0 ≤ k ∧ k ≤ 4294967295) :
    Calls Try.prog 51 #[.agg v.cs, .int .u32 k] w fun e w' => e = .returned (.agg (addV v k).cs) ∧ Below w.heap.size w w' := by
  obtain ⟨r, c, b, p⟩ := v
  obtain ⟨hr, hc, hb, hp⟩ := h
  simp only at hr hc hb hp
  show Calls Try.prog 51 #[.agg #[.int .u64 r, .int .u32 c, .int .u64 b, .int .u16 p], .int .u32 k] w _
  go_enter Try.func51, Try.ntmps51
  go_wp2
  go_returns
  exact ⟨rfl, by go_grown⟩
set_option maxHeartbeats 400000 in
theorem addref_any (v : V4) (k : Int) (w : World) (h : v.wf) (hk : 0 ≤ k ∧ k ≤ 4294967295) :
    Calls Try.prog 27 #[.agg v.cs, .int .u32 k] w fun e w' => e = .returned (.agg (addV v k).cs) ∧ Below w.heap.size w w' := by
  obtain ⟨r, c, b, p⟩ := v
  obtain ⟨hr, hc, hb, hp⟩ := h
  simp only at hr hc hb hp
  show Calls Try.prog 27 #[.agg #[.int .u64 r, .int .u32 c, .int .u64 b, .int .u16 p], .int .u32 k] w _
  go_enter Try.func27, Try.ntmps27
  go_wp2
  go_returns
  exact ⟨rfl, by go_grown⟩
attribute [local go_sem ↓] ldT ldN stN stV bdV
set_option maxHeartbeats 2000000 in
theorem told_any (a : Option Addr) (n c g c2 : Nat) (ids : List Nat) (L : List Ne) (p : Nat → Int) (i q : Nat) (w : World) (h : TQ w a n c g c2 ids L p) (hi : i < n) (hq : q ≤ 7) :
    Calls Try.prog 48 #[.agg (tre a n c g c2), .int .i64 (i : Int), .int .i64 (q : Int)] w fun r w' => r = .returned (.agg (toldV ids L i q).cs) ∧ Below w.heap.size w w' := by
  obtain ⟨W, hW, r0, r1, bW⟩ := tv_new w (tre a n c g c2)
  have hnn := h.sl.int
  have hn7 : n ≤ 7 := by rw [← h.len]; exact h.ok.n7
  have t0 := r0.cell 0 (.slice a n c) rfl
  have t1 := r0.cell 1 (.slice (some ⟨g, 0, none⟩) n c2) rfl
  have l0 := (h.below bW).ld hi
  obtain ⟨b, o, rfl⟩ := h.sl.some' (by omega)
  have hi0 : (0 : Int) ≤ (i : Int) := by omega
  have hi1 : (i : Int) < (n : Int) := by omega
  obtain ⟨hp1, hp2⟩ := p16 hq
  have hz : W.heap.size = w.heap.size + 2 := by rw [← hW]; simp
  obtain ⟨V, sV, rV, bV⟩ := NvAt.put W ⟨kr ids L i, kc ids L i, p i⟩
  have H : Hid (TQ V (some ⟨b, o, none⟩) n c g c2 ids L p ∧ RvAt V w.heap.size 68 (tre (some ⟨b, o, none⟩) n c g c2) ∧ RvAt V (w.heap.size + 1) 56 #[.int .u64 0, .int .u32 0, .int .u64 0, .int .u16 0] ∧ RvAt V W.heap.size 60 (Nd.mk (kr ids L i) (kc ids L i) (p i)).cs ∧ Below w.heap.size w V ∧ i < n) := ⟨(h.below bW).below bV, r0.below bV, r1.below bV, rV, below_over bW bV, hi⟩
  have hsz : Hid (W.heap.size = w.heap.size + 2) := hz
  obtain ⟨z, hzz⟩ : ∃ z, W.heap.size = z := ⟨_, rfl⟩
  rw [hzz] at H sV
  clear h r0 r1 bW rV bV hi hz hq
  go_enter Try.func48, Try.ntmps48
  go_wp2_with fail
  clear t0 t1 l0 sV hzz
  have x0 := fun k : Later V => NvAt.c0 (H.out.2.2.2.1.below k.below)
  have x1 := fun k : Later V => NvAt.c1 (H.out.2.2.2.1.below k.below)
  have y0 := fun k : Later V => (H.out.2.1.below k.below).cell 0 (.slice (some ⟨b, o, none⟩) n c) rfl
  have y1 := fun k : Later V => (H.out.1.below k.below).id H.out.2.2.2.2.2
  have bd := fun k : Later V => bdV_0 ((kr ids L i) : Int) ((kc ids L i) : Int) (idO ids i : Int) (32769 + (q : Int)) k.val
  have st := fun k : Later V => (H.out.2.2.1.below k.below).st rtV (ds := (toldV ids L i q).cs) rfl rfl (V4.one _)
  have TT : (V4.mk ((kr ids L i) : Int) ((kc ids L i) : Int) (idO ids i : Int) (32769 + (q : Int))).cs = (toldV ids L i q).cs := rfl
  rw [TT] at bd
  clear TT
  refine wp_region_later_tail 13 (by kernel_rfl) (by kernel_rfl) ?_
  simp only [List.take_succ_cons, List.take_zero, List.drop_succ_cons, List.drop_zero]
  repeat (go_big_quiet_step (first | exact rfl))
  refine wpQuiet_nil ?_
  intro k
  clear x0 x1 y0 y1 bd
  have G : Hid (RvAt (k.val.setRow (w.heap.size + 1) (toldV ids L i q).cs) (w.heap.size + 1) 56 (toldV ids L i q).cs ∧ Below w.heap.size w (k.val.setRow (w.heap.size + 1) (toldV ids L i q).cs)) := ⟨(H.out.2.2.1.below k.below).set, below_setRow (below_later H.out.2.2.2.2.1 k) (by omega) _⟩
  go_wp2
  refine bodyPost_ret (results_row rtV Try.results48 _ _ _ _ rfl G.out.1 (V4.size _)) rfl ?_
  exact ⟨rfl, G.out.2⟩
attribute [local go_sem ↓] ldV
set_option maxHeartbeats 2000000 in
theorem best_any (a : Option Addr) (n c : Nat) (l : List V4) (w : World) (h : SlAt eV w a n c l) (hw : ∀ v ∈ l, v.wf) :
    Calls Try.prog 52 #[.slice a n c] w fun e w' => e = .returned (.int .i64 (bestAt l n)) ∧ Below w.heap.size w w' := by
  have hn := h.int
  have hln := h.len
  have H : Hid (SlAt eV w a n c l ∧ ∀ v ∈ l, v.wf) := ⟨h, hw⟩
  clear h hw
  go_enter Try.func52, Try.ntmps52
  go_wp2_with fail
  go_loopw [3, 8] (fun v3 v8 wr => ∃ i : Nat, i ≤ n ∧ v8 = .int .i64 i ∧ v3 = .int .i64 (bestAt l i) ∧ Below w.heap.size w wr) (fun v3 v8 _ => n - (intOf v8).toNat)
  case atStart => exact ⟨0, by omega, rfl, rfl, by go_grown⟩
  case round =>
    obtain ⟨i, hi, rfl, rfl, hB⟩ := hrel
    by_cases hlt : i < n
    · obtain ⟨b, o, rfl⟩ := H.out.1.some' (by omega)
      have ld1 := ldv (H.out.1.below hB) (gtV_at (by rw [hln]; exact hlt))
      obtain ⟨W2, st2, r2, b2, z2⟩ := row_new rtV wr #[.int .u64 0, .int .u32 0, .int .u64 0, .int .u16 0] (gtV l i).cs rfl rfl (V4.one _)
      have hi1 : (i : Int) < (n : Int) := by omega
      have hi0 : (0 : Int) ≤ (i : Int) := by omega
      have H2 : Hid (VvAt W2 wr.heap.size (gtV l i) ∧ Below w.heap.size w W2) := ⟨r2, below_over hB b2⟩
      clear r2 b2 z2 hB
      go_wp2_with fail
      clear ld1 st2
      obtain ⟨k0, kn, kp⟩ := bestAt_in l i
      have hstep : Hid (bestAt l (i + 1) = if bestAt l i < 0 ∨ betV (gtV l i) (gtV l (bestAt l i).toNat) = true then (i : Int) else bestAt l i) := show bestAt l (i + 1) = _ from by rw [bestAt]
      by_cases hneg : bestAt l i < 0
      · refine wp_region_later (by kernel_rfl) (by kernel_rfl) ?_
        repeat (go_big_quiet_step (first | exact rfl))
        refine wpQuiet_nil ?_
        intro _ hw'
        obtain ⟨x, rfl⟩ := hw'
        go_wp2
        go_roundw
        case rel => exact ⟨i + 1, by omega, by go_num, by rw [hstep.out, if_pos (.inl hneg)], below_later H2.out.2 x⟩
        case measure => simp [intOf]; omega
      · obtain ⟨k, hk⟩ := Int.eq_ofNat_of_zero_le (show 0 ≤ bestAt l i by omega)
        rw [hk] at hstep kn ⊢
        have hk0 : (0 : Int) ≤ (k : Int) := by omega
        have hk1 : (k : Int) < (n : Int) := by omega
        have hk2 : ¬ (k : Int) < 0 := by omega
        have P1 : Hid (∀ q : Later W2, _) := fun q : Later W2 => better_any (gtV l i) (gtV l k) q.val (gtV_wf H.out.2 _) (gtV_wf H.out.2 _)
        have l1 := fun q : Later W2 => (H2.out.1.below q.below).ld
        have l2 := fun q : Later W2 => ldv ((H.out.1.below H2.out.2).below q.below) (gtV_at (i := k) (by rw [hln]; omega))
        have hs2 : Hid (bestAt l (i + 1) = if betV (gtV l i) (gtV l k) = true then (i : Int) else (k : Int)) := by
          have := hstep.out
          show _ = _
          simpa [hk2] using this
        clear hstep k0 kn kp hneg hk
        cases hbt : betV (gtV l i) (gtV l k)
        all_goals
          rw [hbt] at P1 hs2
          refine wp_region_later (by kernel_rfl) (by kernel_rfl) ?_
          repeat (go_big_quiet_step (first | exact rfl | (go_at_call 49; with_reducible exact Calls.later_of (P1.out _))))
          refine wpQuiet_nil ?_
          intro _ hw'
          obtain ⟨x, rfl⟩ := hw'
          go_wp2
          go_roundw
          case rel => exact ⟨i + 1, by omega, by go_num, by rw [hs2.out]; rfl, below_later H2.out.2 x⟩
          case measure => simp [intOf]; omega
    · have hin : i = n := by omega
      subst hin
      have hnn : ¬ (i : Int) < (i : Int) := by omega
      go_wp2
      go_ret
      exact ⟨rfl, hB⟩
end Go.Proofs.Ytcagdfdhpbeolaa
