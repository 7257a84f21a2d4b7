/-
  The definition's may, New and room: their walks, for every database.
-/
import Derived.Test.YtpbpofmlpbobmaaRAt
namespace Go.Proofs.Ytpbpofmlpbobmaa
set_option linter.unusedVariables false
set_option maxRecDepth 4000
set_option linter.unusedSimpArgs false
open Go.RowKit

attribute [local go_sem ↓] ldK stK ldM stM ldP stP ldE stE apE ldR stR slE
set_option maxHeartbeats 2000000 in
theorem may_any (c : Cf) (a : Option Addr) (n k : Nat) (q : Ky) (port : Int) (w : World) (hq : q.wf) :
    Calls Try.prog 35 #[.agg (c.rs a n k), .int .i64 q.vid, .agg q.mc, .int .i64 port] w fun r w' => r = .returned (.bool (mayOf c.ports q port)) ∧ Below w.heap.size w w' := by
  obtain ⟨W1, hW, d1, rm, bW⟩ := two_rm w c a n k q
  have c0 := d1.c0
  have lm : (ldS 34 (.pointer (some ⟨w.heap.size + 1, 0, none⟩))).run Try.prog W1 = .ok (.agg #[.int .u8 q.a, .int .u8 q.b, .int .u8 q.c, .int .u8 q.d, .int .u8 q.e, .int .u8 q.f]) W1 := rm.ld rtM (Ky.msize q)
  have H : Hid (RdAt W1 w.heap.size c a n k ∧ Below w.heap.size w W1 ∧ q.wf) := ⟨d1, bW, hq⟩
  clear d1 rm bW hq
  by_cases h1 : 1 ≤ q.vid
  · by_cases h2 : q.vid ≤ 4094
    · have hin : inn q.vid 1 4094 = true := by simp [inn, h1, h2]
      by_cases h3 : kindOf q.a q.b q.c q.d q.e q.f = 1
      · have h1' : q.vid ≥ 1 := h1
        go_enter Try.func35, Try.ntmps35
        go_wp2_with fail
        refine (kind_ref q.a q.b q.c q.d q.e q.f _ H.out.2.2.a).mono ?_
        rintro _ W2 ⟨rfl, b2⟩
        rw [h3]
        have c0' := (H.out.1.below b2).c0
        have B2 : Hid (Below w.heap.size w W2) := below_over H.out.2.1 b2
        clear b2 lm c0 hW
        go_wp2
        all_goals
          go_ret
          refine ⟨ret_bool ?_, B2.out⟩
          simp only [mayOf, hin, h3, inn, decide_true, Bool.true_and]
          by_cases h4 : 0 ≤ port <;> by_cases h5 : port < c.ports <;> simp_all <;> omega
      · go_enter Try.func35, Try.ntmps35
        go_wp2_with fail
        refine (kind_ref q.a q.b q.c q.d q.e q.f _ H.out.2.2.a).mono ?_
        rintro _ W2 ⟨rfl, b2⟩
        have B2 : Hid (Below w.heap.size w W2) := below_over H.out.2.1 b2
        clear b2 lm c0 hW
        go_wp2
        go_ret
        refine ⟨ret_bool ?_, B2.out⟩
        simp [mayOf, h3]
    · have hin : inn q.vid 1 4094 = false := by simp [inn]; omega
      go_enter Try.func35, Try.ntmps35
      go_wp2
      go_ret
      refine ⟨ret_bool ?_, H.out.2.1⟩
      simp [mayOf, hin]
  · have hin : inn q.vid 1 4094 = false := by simp [inn]; omega
    go_enter Try.func35, Try.ntmps35
    go_wp2
    go_ret
    refine ⟨ret_bool ?_, H.out.2.1⟩
    simp [mayOf, hin]
theorem del_take {l : List En} (hs : Srt l) {i : Nat} {x : En} (hx : l[i]? = some x) : del l x.rk = l.take i ++ l.drop (i + 1) := by
  induction l generalizing i with
  | nil => simp at hx
  | cons z r ih =>
    obtain ⟨h1, h2⟩ := List.pairwise_cons.1 hs
    cases i with
    | zero =>
      cases hx
      show del (x :: r) x.rk = r
      unfold del
      rw [List.filter_cons_of_neg (by simp)]
      exact List.filter_eq_self.2 (fun y hy => by have := h1 y hy; simp; omega)
    | succ i =>
      have hz : z.rk ≠ x.rk := by
        have := h1 x (List.mem_of_getElem? hx)
        omega
      have := ih h2 hx
      show del (z :: r) x.rk = z :: (r.take i ++ r.drop (i + 1))
      rw [← this]
      unfold del
      rw [List.filter_cons_of_pos (by simp [hz])]
/-- What the search through a row in order has found. -/
def Best (l : List En) (i : Nat) (o : Int) : Prop :=
  (o = -1 ∧ ∀ j y, j < i → l[j]? = some y → y.st = true) ∨ ∃ (m : Nat) (x : En), o = m ∧ m < i ∧ l[m]? = some x ∧ x.st = false ∧ ∀ j y, j < i → l[j]? = some y → y.st = false → x.seen < y.seen ∨ x.seen = y.seen ∧ m ≤ j
theorem srt_le {l : List En} (hs : Srt l) {i j : Nat} {x y : En} (hx : l[i]? = some x) (hy : l[j]? = some y) (h : i ≤ j) : x.rk ≤ y.rk := by
  rcases Nat.lt_or_eq_of_le h with h | rfl
  · obtain ⟨hi, ex⟩ := List.getElem?_eq_some_iff.1 hx
    obtain ⟨hj, ey⟩ := List.getElem?_eq_some_iff.1 hy
    have := List.pairwise_iff_getElem.1 hs i j hi hj h
    rw [ex, ey] at this
    omega
  · rw [hx] at hy; cases hy; exact Int.le_refl _
theorem Best.done {l : List En} {o : Int} (h : Best l l.length o) (hs : Srt l) : (o = -1 ∧ eld l = none) ∨ ∃ (m : Nat) (x : En), o = m ∧ m < l.length ∧ l[m]? = some x ∧ eld l = some x := by
  rcases h with ⟨ho, ha⟩ | ⟨m, x, ho, hm, hx, hst, hle⟩
  · refine .inl ⟨ho, eld_none (fun y hy => ?_)⟩
    obtain ⟨i, hi, e⟩ := List.getElem_of_mem hy
    exact ha i y hi (by rw [List.getElem?_eq_getElem hi, e])
  · refine .inr ⟨m, x, ho, hm, hx, eld_some hs ⟨List.mem_of_getElem? hx, hst, fun y hy hys => ?_⟩⟩
    obtain ⟨i, hi, e⟩ := List.getElem_of_mem hy
    have hy' : l[i]? = some y := by rw [List.getElem?_eq_getElem hi, e]
    rcases hle i y hi hy' hys with h | ⟨h1, h2⟩
    · exact .inl h
    · exact .inr ⟨h1, srt_le hs hx hy' h2⟩
theorem Best.skip {l : List En} {i : Nat} {o : Int} (h : Best l i o) {x : En} (hx : l[i]? = some x) (hst : x.st = true) : Best l (i + 1) o := by
  rcases h with ⟨ho, ha⟩ | ⟨m, z, ho, hm, hz, hzs, hle⟩
  · refine .inl ⟨ho, fun j y hj hy => ?_⟩
    rcases Nat.lt_succ_iff_lt_or_eq.1 hj with hj | rfl
    · exact ha j y hj hy
    · rw [hx] at hy; cases hy; exact hst
  · refine .inr ⟨m, z, ho, by omega, hz, hzs, fun j y hj hy hys => ?_⟩
    rcases Nat.lt_succ_iff_lt_or_eq.1 hj with hj | rfl
    · exact hle j y hj hy hys
    · rw [hx] at hy; cases hy; rw [hst] at hys; cases hys
theorem Best.first {l : List En} {i : Nat} (h : Best l i (-1)) {x : En} (hx : l[i]? = some x) (hst : x.st = false) : Best l (i + 1) i := by
  rcases h with ⟨ho, ha⟩ | ⟨m, z, ho, _⟩
  · refine .inr ⟨i, x, rfl, by omega, hx, hst, fun j y hj hy hys => ?_⟩
    rcases Nat.lt_succ_iff_lt_or_eq.1 hj with hj | rfl
    · rw [ha j y hj hy] at hys; cases hys
    · rw [hx] at hy; cases hy; exact .inr ⟨rfl, Nat.le_refl _⟩
  · omega
theorem Best.better {l : List En} {i m : Nat} {z x : En} (hm : m < i) (hle : ∀ j y, j < i → l[j]? = some y → y.st = false → z.seen < y.seen ∨ z.seen = y.seen ∧ m ≤ j) (hx : l[i]? = some x) (hst : x.st = false) (hlt : x.seen < z.seen) : Best l (i + 1) i := by
  refine .inr ⟨i, x, rfl, by omega, hx, hst, fun j y hj hy hys => ?_⟩
  rcases Nat.lt_succ_iff_lt_or_eq.1 hj with hj | rfl
  · have := hle j y hj hy hys
    left
    omega
  · rw [hx] at hy; cases hy; exact .inr ⟨rfl, Nat.le_refl _⟩
theorem Best.stays {l : List En} {i m : Nat} {z x : En} (hm : m < i) (hz : l[m]? = some z) (hzs : z.st = false) (hle : ∀ j y, j < i → l[j]? = some y → y.st = false → z.seen < y.seen ∨ z.seen = y.seen ∧ m ≤ j) (hx : l[i]? = some x) (hlt : ¬ x.seen < z.seen) : Best l (i + 1) m := by
  refine .inr ⟨m, z, rfl, by omega, hz, hzs, fun j y hj hy hys => ?_⟩
  rcases Nat.lt_succ_iff_lt_or_eq.1 hj with hj | rfl
  · exact hle j y hj hy hys
  · rw [hx] at hy; cases hy
    by_cases h : z.seen = x.seen
    · exact .inr ⟨h, by omega⟩
    · left; omega
/-- What room answers. -/
def RoomOut (c : Cf) (n : Nat) (l : List En) (r : Ending) (W : World) : Prop :=
  ∃ v f, r = .returned (.tuple #[v, .bool f]) ∧ ((f = true ∧ (n : Int) < c.room ∧ RfIs W v c l) ∨ (¬ (n : Int) < c.room ∧ ((f = false ∧ eld l = none ∧ RfIs W v c l) ∨ ∃ x, f = true ∧ eld l = some x ∧ RfIs W v c (del l x.rk))))
set_option maxHeartbeats 4000000 in
theorem room_any (c : Cf) (a : Option Addr) (n k : Nat) (l : List En) (w : World) (h : SlAt w a n k l) (hl : Wfs l) (hs : Srt l) (hn : n ≤ 1000) (hr : 1 ≤ c.room ∧ c.room ≤ 256) :
    Calls Try.prog 51 #[.agg (c.rs a n k)] w fun r w' => RoomOut c n l r w' ∧ Below w.heap.size w w' := by
  obtain ⟨W1, hW, d1, d2, bW, zW⟩ := two_rf w c a n k
  have H : Hid (SlAt W1 a n k l ∧ RdAt W1 w.heap.size c a n k ∧ RdAt W1 (w.heap.size + 1) ⟨0, 0, 0⟩ none 0 0 ∧ Below w.heap.size w W1 ∧ Wfs l ∧ Srt l ∧ n ≤ 1000 ∧ l.length = n ∧ W1.heap.size = w.heap.size + 2) := ⟨h.below bW, d1, d2, bW, hl, hs, hn, h.len, zW⟩
  have hnn : (n : Int) ≤ 1000 := by omega
  have H0 : Hid (SlAt w a n k l) := h
  have c1 := d1.c1
  have c3 := d1.c3
  have ld1 := d1.ld
  obtain ⟨V, sV, rV, gV, zV⟩ := d2.put (c' := c) (a' := a) (n' := n) (k' := k)
  have HV : Hid (RvAt V (w.heap.size + 1) 29 (c.rs a n k) ∧ W1.grownBy V (some (w.heap.size + 1)) ∧ SlAt W1 a n k l ∧ a = a ∧ SlAt w a n k l) := ⟨rV, gV, h.below bW, rfl, h⟩
  clear h hl hs hn d1 d2 bW rV gV zV zW
  by_cases hlt : (n : Int) < c.room
  · go_enter Try.func51, Try.ntmps51
    go_wp2
    refine bodyPost_ret (results_rowtmp rtR Try.results51 _ _ _ _ rfl HV.out.1 rfl) rfl ?_
    have bb : Below w.heap.size w V := H.out.2.2.2.1.trans (below_of_grown HV.out.2.1 H.out.2.2.2.1.size (fun j e => by cases e; omega))
    refine ⟨⟨_, true, rfl, .inl ⟨rfl, hlt, a, k, by rw [H.out.2.2.2.2.2.2.2.1], ?_⟩⟩, bb⟩
    rw [H.out.2.2.2.2.2.2.2.1]
    exact HV.out.2.2.2.2.below bb
  · clear sV HV
    go_enter Try.func51, Try.ntmps51
    go_wp2_with fail
    clear c1 c3 ld1
    go_loopw [4, 5] (fun v4 v5 wr => ∃ (i : Nat) (o : Int), i ≤ n ∧ v5 = .int .i64 i ∧ v4 = .int .i64 o ∧ Below W1.heap.size W1 wr ∧ Best l i o) (fun _ v5 _ => n - (intOf v5).toNat)
    case atStart => exact ⟨0, -1, by omega, rfl, rfl, by rw [← hW]; exact Below.refl _ _, .inl ⟨rfl, fun j y hj => by omega⟩⟩
    case round =>
      obtain ⟨i, o, hi, rfl, rfl, hB, hbest⟩ := hrel
      have c3 := (H.out.2.1.below hB).c3
      have hlen := H.out.2.2.2.2.2.2.2.1
      have hin0 : (0 : Int) ≤ (i : Int) := by omega
      by_cases hit : i < n
      · have hin1 : (i : Int) < (n : Int) := by omega
        obtain ⟨b, oo, rfl⟩ := H.out.1.some' (by omega)
        obtain ⟨x, hx⟩ : ∃ x, l[i]? = some x := ⟨_, List.getElem?_eq_getElem (by omega)⟩
        have f3 := fun z : Later wr => ((H.out.2.1.below hB).below z.below).c3
        have s8 : ∀ z : Later wr, z.val.cell? ⟨b, oo + i * 10 + 8, none⟩ = some (.bool x.st) := fun z => ((H.out.1.below hB).below z.below).cell hx (k := 8) (v := .bool x.st) rfl (by omega)
        have s9 : ∀ z : Later wr, z.val.cell? ⟨b, oo + i * 10 + 9, none⟩ = some (.int .i64 x.seen) := fun z => ((H.out.1.below hB).below z.below).cell hx (k := 9) (v := .int .i64 x.seen) rfl (by omega)
        have HB : Hid (Below W1.heap.size W1 wr) := hB
        cases hst : x.st
        · simp only [hst] at s8
          rcases hbest with ⟨rfl, ha⟩ | ⟨m, z0, rfl, hm, hz, hzs, hle⟩
          · have hb2 : Hid (Best l (i + 1) i) := Best.first (.inl ⟨rfl, ha⟩) hx hst
            clear ha hB
            go_wp2_with fail
            refine wp_region_later (by kernel_rfl) (by kernel_rfl) ?_
            repeat (go_big_quiet_step (first | exact rfl))
            refine wpQuiet_nil ?_
            intro _ hw'
            obtain ⟨z, rfl⟩ := hw'
            clear f3 s8 s9 c3
            go_wp2
            go_roundw
            case rel => exact ⟨i + 1, _, by omega, by go_num, rfl, below_over HB.out z.below, hb2.out⟩
            case measure => simp [intOf]; omega
          · have hm0 : (0 : Int) ≤ (m : Int) := by omega
            have hm1 : (m : Int) < (n : Int) := by omega
            have hm2 : ¬ (m : Int) < 0 := by omega
            have hm3 : decide ((m : Int) < 0) = false := by simp
            have t9 : ∀ z : Later wr, z.val.cell? ⟨b, oo + m * 10 + 9, none⟩ = some (.int .i64 z0.seen) := fun z => ((H.out.1.below hB).below z.below).cell hz (k := 9) (v := .int .i64 z0.seen) rfl (by omega)
            by_cases hsn : x.seen < z0.seen
            · have hb2 : Hid (Best l (i + 1) i) := Best.better hm hle hx hst hsn
              clear hle hB hz
              go_wp2_with fail
              refine wp_region_later (by kernel_rfl) (by kernel_rfl) ?_
              repeat (go_big_quiet_step (first | exact rfl))
              refine wpQuiet_nil ?_
              intro _ hw'
              obtain ⟨z, rfl⟩ := hw'
              clear f3 s8 s9 c3 t9
              go_wp2
              go_roundw
              case rel => exact ⟨i + 1, _, by omega, by go_num, rfl, below_over HB.out z.below, hb2.out⟩
              case measure => simp [intOf]; omega
            · have hb2 : Hid (Best l (i + 1) m) := Best.stays hm hz hzs hle hx hsn
              have hsn' : decide (x.seen < z0.seen) = false := by simpa using hsn
              clear hle hB hz
              go_wp2_with fail
              refine wp_region_later (by kernel_rfl) (by kernel_rfl) ?_
              repeat (go_big_quiet_step (first | exact rfl))
              refine wpQuiet_nil ?_
              intro _ hw'
              obtain ⟨z, rfl⟩ := hw'
              clear f3 s8 s9 c3 t9
              go_wp2
              go_roundw
              case rel => exact ⟨i + 1, _, by omega, by go_num, rfl, below_over HB.out z.below, hb2.out⟩
              case measure => simp [intOf]; omega
        · simp only [hst] at s8
          have hb2 : Hid (Best l (i + 1) o) := hbest.skip hx hst
          clear hbest hB
          go_wp2_with fail
          refine wp_region_later (by kernel_rfl) (by kernel_rfl) ?_
          repeat (go_big_quiet_step (first | exact rfl))
          refine wpQuiet_nil ?_
          intro _ hw'
          obtain ⟨z, rfl⟩ := hw'
          clear f3 s8 s9 c3
          go_wp2
          go_roundw
          case rel => exact ⟨i + 1, _, by omega, by go_num, rfl, below_over HB.out z.below, hb2.out⟩
          case measure => simp [intOf]; omega
      · have hin : i = n := by omega
        subst hin
        have hin1 : ¬ (i : Int) < (i : Int) := by omega
        have hbd := (show Best l l.length o by rw [hlen]; exact hbest).done H.out.2.2.2.2.2.1
        have ld1 := (H.out.2.1.below hB).ld
        obtain ⟨V, sV, rV, gV, zV⟩ := (H.out.2.2.1.below hB).put (c' := c) (a' := a) (n' := i) (k' := k)
        have HV : Hid (RvAt V (w.heap.size + 1) 29 (c.rs a i k) ∧ wr.grownBy V (some (w.heap.size + 1)) ∧ Below W1.heap.size W1 wr) := ⟨rV, gV, hB⟩
        clear rV gV zV
        have hws : SlAt wr a i k l := H.out.1.below hB
        have HS : Hid (SlAt wr a i k l) := hws
        have hbw : Hid (Below w.heap.size w wr) := below_over H.out.2.2.2.1 hB
        have d2w : Hid (RdAt wr (w.heap.size + 1) ⟨0, 0, 0⟩ none 0 0) := H.out.2.2.1.below hB
        clear hbest hB hws
        rcases hbd with ⟨rfl, hel⟩ | ⟨m, x, rfl, hml, hx, hel⟩
        · go_wp2
          refine bodyPost_ret (results_rowtmp rtR Try.results51 _ _ _ _ rfl HV.out.1 rfl) rfl ?_
          have bb : Below w.heap.size w V := hbw.out.trans (below_of_grown HV.out.2.1 hbw.out.size (fun j e => by cases e; omega))
          refine ⟨⟨_, false, rfl, .inr ⟨by omega, .inl ⟨rfl, hel, a, k, by rw [hlen], ?_⟩⟩⟩, bb⟩
          rw [hlen]
          exact H0.out.below bb
        · have hm0 : (0 : Int) ≤ (m : Int) := by omega
          have hm2 : ¬ (m : Int) < 0 := by omega
          clear sV HV
          rw [hlen] at hml
          go_wp2_with fail
          refine (without_any c a i k l m _ HS.out hml (by have := H.out.2.2.2.2.2.2.1; omega)).mono ?_
          rintro _ W4 ⟨v, rfl, hR4, b4⟩
          obtain ⟨a4, k4, rfl, s4, n4⟩ := hR4
          rw [← del_take H.out.2.2.2.2.2.1 hx] at s4 ⊢
          obtain ⟨V, sV, rV, gV, zV⟩ := (d2w.out.below b4).put (c' := c) (a' := a4) (n' := (del l x.rk).length) (k' := k4)
          have HV : Hid (RvAt V (w.heap.size + 1) 29 (c.rs a4 (del l x.rk).length k4) ∧ W4.grownBy V (some (w.heap.size + 1)) ∧ SlAt W4 a4 (del l x.rk).length k4 (del l x.rk) ∧ Below wr.heap.size wr W4) := ⟨rV, gV, s4, b4⟩
          have N4 : Hid (∀ x, a4 = some x → wr.heap.size ≤ x.block) := n4
          clear rV gV zV s4 b4 n4
          go_wp2
          refine bodyPost_ret (results_rowtmp rtR Try.results51 _ _ _ _ rfl HV.out.1 rfl) rfl ?_
          have bb4 := below_over hbw.out HV.out.2.2.2
          have bb : Below w.heap.size w V := bb4.trans (below_of_grown HV.out.2.1 bb4.size (fun j e => by cases e; omega))
          refine ⟨⟨_, true, rfl, .inr ⟨by omega, .inr ⟨x, rfl, hel, a4, k4, rfl, ?_⟩⟩⟩, bb⟩
          refine HV.out.2.2.1.keptBut HV.out.2.1 (fun y e => ?_)
          have h4 := N4.out y e
          have h5 := d2w.out.lt
          intro e2
          have := Option.some.inj e2
          omega
end Go.Proofs.Ytpbpofmlpbobmaa
