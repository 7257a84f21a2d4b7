/-
  The definition's at and may and New: their walks, for every database and every key.
-/
import Derived.Test.YtpbpofmlpbobmaaRWi
namespace Go.Proofs.Ytpbpofmlpbobmaa
set_option linter.unusedVariables false
set_option maxRecDepth 4000
set_option linter.unusedSimpArgs false
open Go.RowKit

attribute [local go_sem ↓] ldK stK ldM stM ldP stP ldE stE apE ldR stR slE
/-- Where the entry of a key stands; below nought: there is none. -/
def AtIs (l : List En) (q : Int) (j : Int) : Prop := (j = -1 ∧ look l q = none) ∨ ∃ (i : Nat) (x : En), j = i ∧ l[i]? = some x ∧ look l q = some x
theorem look_first {l : List En} {q : Int} {i : Nat} {x : En} (hx : l[i]? = some x) (hq : x.rk = q) (hn : ∀ j y, j < i → l[j]? = some y → y.rk ≠ q) : look l q = some x := by
  induction l generalizing i with
  | nil => simp at hx
  | cons z r ih =>
    cases i with
    | zero => cases hx; simp [look, hq]
    | succ i =>
      have hz := hn 0 z (by omega) rfl
      have := ih hx (fun j y hj hy => hn (j + 1) y (by omega) hy)
      unfold look at this ⊢
      rw [List.find?_cons_of_neg (by simpa using hz)]
      exact this
theorem look_nowhere {l : List En} {q : Int} (hn : ∀ j y, j < l.length → l[j]? = some y → y.rk ≠ q) : look l q = none := by
  refine look_none.2 (fun x hx => ?_)
  obtain ⟨i, hi, e⟩ := List.getElem_of_mem hx
  exact hn i x hi (by rw [List.getElem?_eq_getElem hi, e])
theorem two_rm (w : World) (c : Cf) (a : Option Addr) (n k : Nat) (q : Ky) : ∃ W, (w.alloc (.cells (c.rs a n k) 29)).alloc (.cells q.mc 34) = W ∧ RdAt W w.heap.size c a n k ∧ RvAt W (w.heap.size + 1) 34 q.mc ∧ Below w.heap.size w W :=
  ⟨_, rfl, (RvAt.new w _ _).below ((Below.refl _ _).alloc (Nat.le_refl _) _), by have := RvAt.new (w.alloc (.cells (c.rs a n k) 29)) 34 q.mc; simp at this; exact this, ((Below.refl _ _).alloc (Nat.le_refl _) _).alloc (by simp) _⟩
theorem beq_rk {x q : Ky} (hx : x.wf) (hq : q.wf) : (x.vid = q.vid ∧ eq6 x.a x.b x.c x.d x.e x.f q.a q.b q.c q.d q.e q.f = true) ↔ x.rk = q.rk := by
  have := beqK_rk hx hq
  constructor
  · rintro ⟨h1, h2⟩
    have h3 : beqK x q = true := by simp [beqK, h1, h2]
    rw [this] at h3
    exact of_decide_eq_true h3
  · intro h
    rw [Ky.inj hx hq h]
    exact ⟨rfl, eq6_self _ _ _ _ _ _⟩
set_option maxHeartbeats 4000000 in
theorem at_any (c : Cf) (a : Option Addr) (n k : Nat) (l : List En) (q : Ky) (w : World) (h : SlAt w a n k l) (hl : Wfs l) (hq : q.wf) (hn : n ≤ 1000) :
    Calls Try.prog 36 #[.agg (c.rs a n k), .int .i64 q.vid, .agg q.mc] w fun r w' => (∃ j, r = .returned (.int .i64 j) ∧ AtIs l q.rk j) ∧ Below w.heap.size w w' := by
  obtain ⟨W1, hW, d1, rm, bW⟩ := two_rm w c a n k q
  have H : Hid (SlAt W1 a n k l ∧ RdAt W1 w.heap.size c a n k ∧ RvAt W1 (w.heap.size + 1) 34 q.mc ∧ Below w.heap.size w W1 ∧ Wfs l ∧ q.wf ∧ n ≤ 1000 ∧ l.length = n) := ⟨h.below bW, d1, rm, bW, hl, hq, hn, h.len⟩
  have hnn : (n : Int) ≤ 1000 := by omega
  clear h hl hq hn d1 rm bW
  go_enter Try.func36, Try.ntmps36
  go_wp2_with fail
  go_loopw [7] (fun v7 wr => ∃ i : Nat, i ≤ n ∧ v7 = .int .i64 i ∧ Below W1.heap.size W1 wr ∧ ∀ j y, j < i → l[j]? = some y → y.rk ≠ q.rk) (fun v7 _ => n - (intOf v7).toNat)
  case atStart => exact ⟨0, by omega, rfl, by rw [← hW]; exact Below.refl _ _, fun j y hj => by omega⟩
  case round =>
    obtain ⟨i, hi, rfl, hB, hno⟩ := hrel
    have c3 := (H.out.2.1.below hB).c3
    have f3 := fun z : Later wr => ((H.out.2.1.below hB).below z.below).c3
    have fm : ∀ z : Later wr, (ldS 34 (.pointer (some ⟨w.heap.size + 1, 0, none⟩))).run Try.prog z.val = .ok (.agg #[.int .u8 q.a, .int .u8 q.b, .int .u8 q.c, .int .u8 q.d, .int .u8 q.e, .int .u8 q.f]) z.val := fun z => ((H.out.2.2.1.below hB).below z.below).ld rtM (Ky.msize q)
    have hin0 : (0 : Int) ≤ (i : Int) := by omega
    have hlen := H.out.2.2.2.2.2.2.2
    by_cases hlt : i < n
    · have hin1 : (i : Int) < (n : Int) := by omega
      obtain ⟨b, o, rfl⟩ := H.out.1.some' (by omega)
      obtain ⟨x, hx⟩ : ∃ x, l[i]? = some x := ⟨_, List.getElem?_eq_getElem (by omega)⟩
      have hxw := H.out.2.2.2.2.1 x (List.mem_of_getElem? hx)
      have s0 : ∀ z : Later wr, z.val.cell? ⟨b, o + i * 10, none⟩ = some (.int .i64 x.k.vid) := fun z => ((H.out.1.below hB).below z.below).cell hx (k := 0) (v := .int .i64 x.k.vid) rfl (by omega)
      have sm := fun z : Later wr => ((H.out.1.below hB).below z.below).mac hx
      have hbq := beq_rk hxw.k H.out.2.2.2.2.2.1
      have HN : Hid (∀ j y, j < i → l[j]? = some y → y.rk ≠ q.rk) := hno
      have HB : Hid (Below W1.heap.size W1 wr) := hB
      clear hno hB hxw
      by_cases hv : x.k.vid = q.vid
      · cases he : eq6 x.k.a x.k.b x.k.c x.k.d x.k.e x.k.f q.a q.b q.c q.d q.e q.f
        · have hne : Hid (x.rk ≠ q.rk) := fun h => by have := (hbq.2 h).2; rw [he] at this; cases this
          clear hbq
          go_wp2_with fail
          refine wp_region_later (by kernel_rfl) (by kernel_rfl) ?_
          repeat (go_big_quiet_step (first | exact rfl))
          refine wpQuiet_nil ?_
          intro _ hw'
          obtain ⟨z, rfl⟩ := hw'
          clear f3 fm s0 sm c3
          go_wp2
          go_roundw
          case rel =>
            refine ⟨i + 1, by omega, by go_num, below_over HB.out z.below, fun j y hj hy => ?_⟩
            rcases Nat.lt_succ_iff_lt_or_eq.1 hj with hj | rfl
            · exact HN.out j y hj hy
            · rw [hx] at hy; cases hy; exact hne.out
          case measure => simp [intOf]; omega
        · have hans : Hid (AtIs l q.rk i) := .inr ⟨i, x, rfl, hx, look_first hx (hbq.1 ⟨hv, he⟩) HN.out⟩
          clear hbq
          go_wp2_with fail
          refine wp_region_later (by kernel_rfl) (by kernel_rfl) ?_
          repeat (go_big_quiet_step (first | exact rfl))
          refine wpQuiet_nil ?_
          intro _ hw'
          obtain ⟨z, rfl⟩ := hw'
          clear f3 fm s0 sm c3
          go_wp2
          go_ret
          exact ⟨⟨_, rfl, hans.out⟩, below_over H.out.2.2.2.1 (below_over HB.out z.below)⟩
      · have hv' : (x.k.vid == q.vid) = false := by simpa using hv
        have hne : Hid (x.rk ≠ q.rk) := fun h => hv (hbq.2 h).1
        clear hbq
        go_wp2_with fail
        refine wp_region_later (by kernel_rfl) (by kernel_rfl) ?_
        repeat (go_big_quiet_step (first | exact rfl))
        refine wpQuiet_nil ?_
        intro _ hw'
        obtain ⟨z, rfl⟩ := hw'
        clear f3 fm s0 sm c3
        go_wp2
        go_roundw
        case rel =>
          refine ⟨i + 1, by omega, by go_num, below_over HB.out z.below, fun j y hj hy => ?_⟩
          rcases Nat.lt_succ_iff_lt_or_eq.1 hj with hj | rfl
          · exact HN.out j y hj hy
          · rw [hx] at hy; cases hy; exact hne.out
        case measure => simp [intOf]; omega
    · have hin : i = n := by omega
      have hin1 : ¬ (i : Int) < (n : Int) := by omega
      have hans : Hid (AtIs l q.rk (-1)) := .inl ⟨rfl, look_nowhere (fun j y hj hy => hno j y (by omega) hy)⟩
      have HB : Hid (Below w.heap.size w wr) := below_over H.out.2.2.2.1 hB
      clear hno hB
      go_wp2
      go_ret
      exact ⟨⟨_, rfl, hans.out⟩, HB.out⟩
end Go.Proofs.Ytpbpofmlpbobmaa
