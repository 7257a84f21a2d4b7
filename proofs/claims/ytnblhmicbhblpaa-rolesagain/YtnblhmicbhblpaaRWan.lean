/-
  The definition's wanted: its walk, for every tree and port.
-/
import Derived.Test.YtnblhmicbhblpaaPsv
namespace Go.Proofs.Ytnblhmicbhblpaa
set_option linter.unusedVariables false
set_option maxRecDepth 4000
set_option linter.unusedSimpArgs false
open Go.RowKit

/-- A port's role, as the definition gives it. -/
def wanP (h : Hd) (r : Bool) (p : Pt) : Pt := (p.setB 28 kb28 (updB h r p)).setN 31 kn31 (wanN h r p) (wanN_wf h r p)
theorem wan_eq {h : Hd} {r : Bool} {p : Pt} {x : Bool} {y : Int} (hy : (Lit.int .i64 y).wf = true) (ex : updB h r p = x) (ey : wanN h r p = y) : (p.setB 28 kb28 x).setN 31 kn31 y hy = wanP h r p := by
  unfold wanP
  rw [ex, setN_eq _ kn31 (wanN_wf h r p) hy ey]
theorem wan_turn {h : Hd} {r : Bool} {p : Pt} {x : Bool} {y : Int} (hy : (Lit.int .i64 y).wf = true) (ex : updB h r p = x) (ey : wanN h r p = y) : (p.setN 31 kn31 y hy).setB 28 kb28 x = wanP h r p := by
  rw [← wan_eq hy ex ey]
  refine Row.same fun i _ => ?_
  rw [Row.setB_get, Row.setN_get, Row.setN_get, Row.setB_get]
  by_cases h1 : i = 28
  · subst h1; rfl
  · simp only [if_neg h1]
theorem wan_keep {h : Hd} {r : Bool} {p : Pt} {y : Int} (hy : (Lit.int .i64 y).wf = true) (ex : updB h r p = p.bt 28) (ey : wanN h r p = y) : p.setN 31 kn31 y hy = wanP h r p := by
  rw [← wan_eq hy ex ey, setB_self _ _ rfl]
/-- A store's own block. -/
theorem grownOf {W V : World} {b : Nat} {x : Bool} {p : Pt} (e : (stS 4 (.pointer (some ⟨b, 28, none⟩)) (.bool x)).run Try.prog W = .ok () V) (r : RvAt W b 47 p.cs) : W.grownBy V (some b) := by
  obtain ⟨V', e', _, g⟩ := r.setB kb28 x
  rw [e] at e'
  cases e'
  exact g
attribute [local go_sem ↓] ldP stP ldT stT ldV stV ldTm stTm stB st49 eqgV neqV eqgTm neqTm alP
attribute [local go_sem] alP_run
set_option maxHeartbeats 8000000 in
theorem rwanted_any (h : Hd) (x : Value) (p : Pt) (r : Bool) (w : World) :
    Calls Try.prog 30 #[.agg (trc h x), .agg p.cs, .bool r] w fun e w' => e = .returned (.agg (wanP h r p).cs) ∧ Below w.heap.size w w' := by
  obtain ⟨W, hW, S0, r0⟩ := three_tp w h x p
  have c29 := S0.var.num (j := 29) (k := .i64) rfl
  have S : Hid (PS w W (w.heap.size + 1) (w.heap.size + 1 + 1) p ∧ RvAt W w.heap.size 31 (trc h x)) := ⟨S0, r0⟩
  clear S0 r0
  obtain ⟨R, hR⟩ : ∃ R, wanP h r p = R := ⟨_, rfl⟩
  rw [hR]
  by_cases h1 : p.nm 29 = 1
  · rw [h1] at c29
    obtain ⟨V1, e1, S1⟩ := S.out.1.setB kb28 true
    obtain ⟨V2, e2, S2⟩ := S1.setN (t := 41) infoR kn31 wi4
    rw [wan_eq (h := h) (r := r) wi4 (by simp [updB, h1]) (by simp [wanN, h1]), hR] at S2
    clear S1 S hR h1
    have lf := S2.ld
    obtain ⟨U, sU, G0⟩ := S2.tell R
    have G : Hid (RvAt U (w.heap.size + 1 + 1) 47 R.cs ∧ Below w.heap.size w U) := G0
    clear G0 S2
    go_enter Try.func30, Try.ntmps30
    go_wp2_with (with_reducible exact ret_port Try.results30 (by with_unfolding_all rfl) (by with_unfolding_all rfl) G.out.1 ⟨rfl, G.out.2⟩)
  by_cases h2 : p.nm 29 = 2
  · rw [h2] at c29
    obtain ⟨V1, e1, S1⟩ := S.out.1.setN (t := 41) infoR kn31 wi4
    have d36 := S1.var.ppri
    have d32 := S1.var.pdsg
    have d44 := S1.var.ppriT
    have d40 := S1.var.pdsT
    rw [show pri (p.setN 31 kn31 4 wi4) = pri p from pri_of fun j hj => by rw [Row.setN_get, if_neg (by omega)]] at d36
    rw [show dsg (p.setN 31 kn31 4 wi4) = dsg p from dsg_of fun j hj => by rw [Row.setN_get, if_neg (by omega)]] at d32
    rw [show priT (p.setN 31 kn31 4 wi4) = priT p from priT_of fun j hj => by rw [Row.setN_get, if_neg (by omega)]] at d44
    rw [show dsgT (p.setN 31 kn31 4 wi4) = dsgT p from dsgT_of fun j hj => by rw [Row.setN_get, if_neg (by omega)]] at d40
    cases q1 : (pri p).eq (dsg p)
    · obtain ⟨V2, e2, S2⟩ := S1.setB kb28 true
      rw [wan_turn (h := h) (r := r) wi4 (by simp [updB, h2, outB, q1]) (by simp [wanN, h2]), hR] at S2
      clear S1 S hR h1 h2
      have lf := S2.ld
      obtain ⟨U, sU, G0⟩ := S2.tell R
      have G : Hid (RvAt U (w.heap.size + 1 + 1) 47 R.cs ∧ Below w.heap.size w U) := G0
      clear G0 S2
      go_enter Try.func30, Try.ntmps30
      go_wp2_with (with_reducible exact ret_port Try.results30 (by with_unfolding_all rfl) (by with_unfolding_all rfl) G.out.1 ⟨rfl, G.out.2⟩)
    · cases q2 : (priT p).eq (dsgT p)
      · obtain ⟨V2, e2, S2⟩ := S1.setB kb28 true
        rw [wan_turn (h := h) (r := r) wi4 (by simp [updB, h2, outB, q1, q2]) (by simp [wanN, h2]), hR] at S2
        clear S1 S hR h1 h2
        have lf := S2.ld
        obtain ⟨U, sU, G0⟩ := S2.tell R
        have G : Hid (RvAt U (w.heap.size + 1 + 1) 47 R.cs ∧ Below w.heap.size w U) := G0
        clear G0 S2
        go_enter Try.func30, Try.ntmps30
        go_wp2_with (with_reducible exact ret_port Try.results30 (by with_unfolding_all rfl) (by with_unfolding_all rfl) G.out.1 ⟨rfl, G.out.2⟩)
      · rw [wan_keep (h := h) (r := r) wi4 (by simp [updB, h2, outB, q1, q2]) (by simp [wanN, h2]), hR] at S1
        clear S hR h1 h2
        have lf := S1.ld
        obtain ⟨U, sU, G0⟩ := S1.tell R
        have G : Hid (RvAt U (w.heap.size + 1 + 1) 47 R.cs ∧ Below w.heap.size w U) := G0
        clear G0 S1
        go_enter Try.func30, Try.ntmps30
        go_wp2_with (with_reducible exact ret_port Try.results30 (by with_unfolding_all rfl) (by with_unfolding_all rfl) G.out.1 ⟨rfl, G.out.2⟩)
  by_cases h3 : p.nm 29 = 3
  · rw [h3] at c29
    cases r with
    | true =>
      obtain ⟨V1, e1, S1⟩ := S.out.1.setB kb28 false
      obtain ⟨V2, e2, S2⟩ := S1.setN (t := 41) infoR kn31 wi3
      rw [wan_eq (h := h) (r := true) wi3 (by simp [updB, h3, heaN]) (by simp [wanN, h3, heaN]), hR] at S2
      clear S1 S hR h1 h2 h3
      have lf := S2.ld
      obtain ⟨U, sU, G0⟩ := S2.tell R
      have G : Hid (RvAt U (w.heap.size + 1 + 1) 47 R.cs ∧ Below w.heap.size w U) := G0
      clear G0 S2
      go_enter Try.func30, Try.ntmps30
      go_wp2_with (with_reducible exact ret_port Try.results30 (by with_unfolding_all rfl) (by with_unfolding_all rfl) G.out.1 ⟨rfl, G.out.2⟩)
    | false =>
      have c32 := S.out.1.var.pdsg
      have c36 := S.out.1.var.ppri
      have P1 : Hid (∀ V : World, _) := fun V => betref_row (dsg p) (pri p) V
      cases q1 : bet (dsg p) (pri p)
      · rw [q1] at P1
        have P2 : Hid (∀ V : World, _) := fun V => samead_any (p.nm 38) (h.nm 0) V (p.u64 rfl) (h.u64 rfl)
        cases q2 : sameA (p.nm 38) (h.nm 0)
        · rw [q2] at P2
          have RR : Hid (∀ hy, (p.setB 28 kb28 false).setN 31 kn31 1 hy = R) := fun hy => by rw [← hR]; exact wan_eq (h := h) (r := false) hy (by simp [updB, h3, heaN, q1, owB, q2]) (by simp [wanN, h3, heaN, q1, owB, q2])
          clear hR h1 h2 h3
          go_enter Try.func30, Try.ntmps30
          go_wp2_with fail
          refine (P1.out _).mono ?_
          rintro _ V0 ⟨rfl, b0⟩
          obtain ⟨V1, e1, S1⟩ := (S.out.1.below b0).setB kb28 false
          have d28 := S1.var.bit (j := 28) rfl
          rw [setB_at] at d28
          have d38 := S1.var.num (j := 38) (k := .u64) rfl
          rw [setB_nm _ _ _ (by omega)] at d38
          have d0 : V1.cell? ⟨w.heap.size, 0, none⟩ = some (.int .u64 (h.nm 0)) := (S.out.2.below b0 |>.keptBut (grownOf e1 (S.out.1.below b0).var) (by simp)).tnum rfl
          have K1 : Hid (PS w V1 (w.heap.size + 1) (w.heap.size + 1 + 1) (p.setB 28 kb28 false)) := S1
          clear S1 S c32 c36 b0 c29 hW
          go_wp2_with fail
          refine (P2.out _).mono ?_
          rintro _ V2 ⟨rfl, b2⟩
          obtain ⟨V3, e3, S3⟩ := (K1.out.below b2).setN (t := 41) infoR kn31 wi1
          rw [RR.out] at S3
          clear K1 d28 d38 d0 b2
          have lf := S3.ld
          obtain ⟨U, sU, G0⟩ := S3.tell R
          have G : Hid (RvAt U (w.heap.size + 1 + 1) 47 R.cs ∧ Below w.heap.size w U) := G0
          clear G0 S3
          go_wp2_with (with_reducible exact ret_port Try.results30 (by with_unfolding_all rfl) (by with_unfolding_all rfl) G.out.1 ⟨rfl, G.out.2⟩)
        · rw [q2] at P2
          have RR : Hid (∀ hy, (p.setB 28 kb28 false).setN 31 kn31 2 hy = R) := fun hy => by rw [← hR]; exact wan_eq (h := h) (r := false) hy (by simp [updB, h3, heaN, q1, owB, q2]) (by simp [wanN, h3, heaN, q1, owB, q2])
          clear hR h1 h2 h3
          go_enter Try.func30, Try.ntmps30
          go_wp2_with fail
          refine (P1.out _).mono ?_
          rintro _ V0 ⟨rfl, b0⟩
          obtain ⟨V1, e1, S1⟩ := (S.out.1.below b0).setB kb28 false
          have d28 := S1.var.bit (j := 28) rfl
          rw [setB_at] at d28
          have d38 := S1.var.num (j := 38) (k := .u64) rfl
          rw [setB_nm _ _ _ (by omega)] at d38
          have d0 : V1.cell? ⟨w.heap.size, 0, none⟩ = some (.int .u64 (h.nm 0)) := (S.out.2.below b0 |>.keptBut (grownOf e1 (S.out.1.below b0).var) (by simp)).tnum rfl
          have K1 : Hid (PS w V1 (w.heap.size + 1) (w.heap.size + 1 + 1) (p.setB 28 kb28 false)) := S1
          clear S1 S c32 c36 b0 c29 hW
          go_wp2_with fail
          refine (P2.out _).mono ?_
          rintro _ V2 ⟨rfl, b2⟩
          obtain ⟨V3, e3, S3⟩ := (K1.out.below b2).setN (t := 41) infoR kn31 wi2
          rw [RR.out] at S3
          clear K1 d28 d38 d0 b2
          have lf := S3.ld
          obtain ⟨U, sU, G0⟩ := S3.tell R
          have G : Hid (RvAt U (w.heap.size + 1 + 1) 47 R.cs ∧ Below w.heap.size w U) := G0
          clear G0 S3
          go_wp2_with (with_reducible exact ret_port Try.results30 (by with_unfolding_all rfl) (by with_unfolding_all rfl) G.out.1 ⟨rfl, G.out.2⟩)
      · rw [q1] at P1
        have RR : Hid (∀ hy, (p.setB 28 kb28 true).setN 31 kn31 4 hy = R) := fun hy => by rw [← hR]; exact wan_eq (h := h) (r := false) hy (by simp [updB, h3, heaN, q1]) (by simp [wanN, h3, heaN, q1])
        clear hR h1 h2 h3
        go_enter Try.func30, Try.ntmps30
        go_wp2_with fail
        refine (P1.out _).mono ?_
        rintro _ V0 ⟨rfl, b0⟩
        obtain ⟨V1, e1, S1⟩ := (S.out.1.below b0).setB kb28 true
        have d28 := S1.var.bit (j := 28) rfl
        rw [setB_at] at d28
        obtain ⟨V2, e2, S2⟩ := S1.setN (t := 41) infoR kn31 wi4
        rw [RR.out] at S2
        clear S1 S c32 c36 b0 c29 hW
        have lf := S2.ld
        obtain ⟨U, sU, G0⟩ := S2.tell R
        have G : Hid (RvAt U (w.heap.size + 1 + 1) 47 R.cs ∧ Below w.heap.size w U) := G0
        clear G0 S2
        go_wp2_with (with_reducible exact ret_port Try.results30 (by with_unfolding_all rfl) (by with_unfolding_all rfl) G.out.1 ⟨rfl, G.out.2⟩)
  have hb1 : (p.nm 29 == 1) = false := by simpa using h1
  have hb2 : (p.nm 29 == 2) = false := by simpa using h2
  have hb3 : (p.nm 29 == 3) = false := by simpa using h3
  obtain ⟨V1, e1, S1⟩ := S.out.1.setN (t := 41) infoR kn31 wi0
  rw [wan_keep (h := h) (r := r) wi0 (by simp [updB, h1, h2, h3]) (by simp [wanN, h1, h2, h3]), hR] at S1
  clear S hR
  have lf := S1.ld
  obtain ⟨U, sU, G0⟩ := S1.tell R
  have G : Hid (RvAt U (w.heap.size + 1 + 1) 47 R.cs ∧ Below w.heap.size w U) := G0
  clear G0 S1
  go_enter Try.func30, Try.ntmps30
  go_wp2_with (with_reducible exact ret_port Try.results30 (by with_unfolding_all rfl) (by with_unfolding_all rfl) G.out.1 ⟨rfl, G.out.2⟩)
end Go.Proofs.Ytnblhmicbhblpaa
