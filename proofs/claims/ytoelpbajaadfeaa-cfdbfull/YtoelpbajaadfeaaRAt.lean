/-
  The definition's find: its walk, for every base and every key.
-/
import Derived.Test.YtoelpbajaadfeaaRWo
namespace Go.Proofs.Ytoelpbajaadfeaa
set_option linter.unusedVariables false
set_option maxRecDepth 4000
set_option linter.unusedSimpArgs false
open Go.RowKit

attribute [local go_sem ↓] ldK stK ldM stM ldP stP ldE stE apE ldR stR
/-- Where the entry of a key stands; below nought: there is none. -/
def AtIs (l : List En) (q : Int) (j : Int) : Prop := (j = -1 ∧ look l q = none) ∨ ∃ (i : Nat) (x : En), j = i ∧ l[i]? = some x ∧ look l q = some x
theorem look_first {l : List En} {q : Int} {i : Nat} {x : En} (hx : l[i]? = some x) (hq : x.rk = q) (hn : ∀ j y, j < i → l[j]? = some y → y.rk ≠ q) : look l q = some x := by
  induction l generalizing i with
  | nil => simp at hx
  | cons z r ih =>
    cases i with
    | zero => cases hx; simp [look, hq]
    | succ i =>
      have hz := hn 0 z (by omega) rfl
      have := ih hx (fun j y hj hy => hn (j + 1) y (by omega) hy)
      unfold look at this ⊢
      rw [List.find?_cons_of_neg (by simpa using hz)]
      exact this
theorem look_nowhere {l : List En} {q : Int} (hn : ∀ j y, j < l.length → l[j]? = some y → y.rk ≠ q) : look l q = none := by
  refine look_none.2 (fun x hx => ?_)
  obtain ⟨i, hi, e⟩ := List.getElem_of_mem hx
  exact hn i x hi (by rw [List.getElem?_eq_getElem hi, e])
theorem beq_rk {x q : Ky} (hx : x.wf) (hq : q.wf) : (x.vid = q.vid ∧ eq6 x.a x.b x.c x.d x.e x.f q.a q.b q.c q.d q.e q.f = true) ↔ x.rk = q.rk := by
  have := beqK_rk hx hq
  constructor
  · rintro ⟨h1, h2⟩
    have h3 : beqK x q = true := by simp [beqK, h1, h2]
    rw [this] at h3
    exact of_decide_eq_true h3
  · intro h
    rw [Ky.inj hx hq h]
    exact ⟨rfl, eq6_self _ _ _ _ _ _⟩
set_option maxHeartbeats 4000000 in
theorem at_any (c : Cf) (a : Option Addr) (n k : Nat) (l : List En) (q : Ky) (w : World) (h : SlAt w a n k l) (hl : Wfs l) (hq : q.wf) (hn : n ≤ 1000) :
    Calls Try.prog 44 #[.agg (c.rs a n k), .int .i64 q.vid, .agg q.mc] w fun r w' => (∃ j, r = .returned (.int .i64 j) ∧ AtIs l q.rk j) ∧ Below w.heap.size w w' := by
  obtain ⟨W1, hW, d1, rm, bW, zW⟩ := two_rm w c a n k q.ad
  have H : Hid (SlAt W1 a n k l ∧ RdAt W1 w.heap.size c a n k ∧ RvAt W1 (w.heap.size + 1) 38 q.mc ∧ Below w.heap.size w W1 ∧ Wfs l ∧ q.wf ∧ n ≤ 1000 ∧ l.length = n) := ⟨h.below bW, d1, rm, bW, hl, hq, hn, h.len⟩
  have hnn : (n : Int) ≤ 1000 := by omega
  clear h hl hq hn d1 rm bW zW
  go_enter Try.func44, Try.ntmps44
  go_wp2_with fail
  go_loopw [7] (fun v7 wr => ∃ i : Nat, i ≤ n ∧ v7 = .int .i64 i ∧ Below W1.heap.size W1 wr ∧ ∀ j y, j < i → l[j]? = some y → y.rk ≠ q.rk) (fun v7 _ => n - (intOf v7).toNat)
  case atStart => exact ⟨0, by omega, rfl, by rw [← hW]; exact Below.refl _ _, fun j y hj => by omega⟩
  case round =>
    obtain ⟨i, hi, rfl, hB, hno⟩ := hrel
    have c3 := (H.out.2.1.below hB).c3
    have f3 := fun z : Later wr => ((H.out.2.1.below hB).below z.below).c3
    have fm : ∀ z : Later wr, (ldS 38 (.pointer (some ⟨w.heap.size + 1, 0, none⟩))).run Try.prog z.val = .ok (.agg #[.int .u8 q.a, .int .u8 q.b, .int .u8 q.c, .int .u8 q.d, .int .u8 q.e, .int .u8 q.f]) z.val := fun z => ((H.out.2.2.1.below hB).below z.below).ld rtM (Ky.msize q)
    have hin0 : (0 : Int) ≤ (i : Int) := by omega
    have hlen := H.out.2.2.2.2.2.2.2
    by_cases hlt : i < n
    · have hin1 : (i : Int) < (n : Int) := by omega
      obtain ⟨b, o, rfl⟩ := H.out.1.some' (by omega)
      obtain ⟨x, hx⟩ : ∃ x, l[i]? = some x := ⟨_, List.getElem?_eq_getElem (by omega)⟩
      have hxw := H.out.2.2.2.2.1 x (List.mem_of_getElem? hx)
      have s0 : ∀ z : Later wr, z.val.cell? ⟨b, o + i * 14, none⟩ = some (.int .i64 x.k.vid) := fun z => ((H.out.1.below hB).below z.below).cell hx (k := 0) (v := .int .i64 x.k.vid) rfl (by omega)
      have sm := fun z : Later wr => ((H.out.1.below hB).below z.below).mac hx
      have hbq := beq_rk hxw.k H.out.2.2.2.2.2.1
      have HN : Hid (∀ j y, j < i → l[j]? = some y → y.rk ≠ q.rk) := hno
      have HB : Hid (Below W1.heap.size W1 wr) := hB
      clear hno hB hxw
      by_cases hv : x.k.vid = q.vid
      · cases he : eq6 x.k.a x.k.b x.k.c x.k.d x.k.e x.k.f q.a q.b q.c q.d q.e q.f
        · have hne : Hid (x.rk ≠ q.rk) := fun h => by have := (hbq.2 h).2; rw [he] at this; cases this
          clear hbq
          go_wp2_with fail
          refine wp_region_later (by kernel_rfl) (by kernel_rfl) ?_
          repeat (go_big_quiet_step (first | exact rfl))
          refine wpQuiet_nil ?_
          intro _ hw'
          obtain ⟨z, rfl⟩ := hw'
          clear f3 fm s0 sm c3
          go_wp2
          go_roundw
          case rel =>
            refine ⟨i + 1, by omega, by go_num, below_over HB.out z.below, fun j y hj hy => ?_⟩
            rcases Nat.lt_succ_iff_lt_or_eq.1 hj with hj | rfl
            · exact HN.out j y hj hy
            · rw [hx] at hy; cases hy; exact hne.out
          case measure => simp [intOf]; omega
        · have hans : Hid (AtIs l q.rk i) := .inr ⟨i, x, rfl, hx, look_first hx (hbq.1 ⟨hv, he⟩) HN.out⟩
          clear hbq
          go_wp2_with fail
          refine wp_region_later (by kernel_rfl) (by kernel_rfl) ?_
          repeat (go_big_quiet_step (first | exact rfl))
          refine wpQuiet_nil ?_
          intro _ hw'
          obtain ⟨z, rfl⟩ := hw'
          clear f3 fm s0 sm c3
          go_wp2
          go_ret
          exact ⟨⟨_, rfl, hans.out⟩, below_over H.out.2.2.2.1 (below_over HB.out z.below)⟩
      · have hv' : (x.k.vid == q.vid) = false := by simpa using hv
        have hne : Hid (x.rk ≠ q.rk) := fun h => hv (hbq.2 h).1
        clear hbq
        go_wp2_with fail
        refine wp_region_later (by kernel_rfl) (by kernel_rfl) ?_
        repeat (go_big_quiet_step (first | exact rfl))
        refine wpQuiet_nil ?_
        intro _ hw'
        obtain ⟨z, rfl⟩ := hw'
        clear f3 fm s0 sm c3
        go_wp2
        go_roundw
        case rel =>
          refine ⟨i + 1, by omega, by go_num, below_over HB.out z.below, fun j y hj hy => ?_⟩
          rcases Nat.lt_succ_iff_lt_or_eq.1 hj with hj | rfl
          · exact HN.out j y hj hy
          · rw [hx] at hy; cases hy; exact hne.out
        case measure => simp [intOf]; omega
    · have hin : i = n := by omega
      have hin1 : ¬ (i : Int) < (n : Int) := by omega
      have hans : Hid (AtIs l q.rk (-1)) := .inl ⟨rfl, look_nowhere (fun j y hj hy => hno j y (by omega) hy)⟩
      have HB : Hid (Below w.heap.size w wr) := below_over H.out.2.2.2.1 hB
      clear hno hB
      go_wp2
      go_ret
      exact ⟨⟨_, rfl, hans.out⟩, HB.out⟩
theorem del_take {l : List En} (hs : Srt l) {i : Nat} {x : En} (hx : l[i]? = some x) : del l x.rk = l.take i ++ l.drop (i + 1) := by
  induction l generalizing i with
  | nil => simp at hx
  | cons z r ih =>
    obtain ⟨h1, h2⟩ := List.pairwise_cons.1 hs
    cases i with
    | zero =>
      cases hx
      show del (x :: r) x.rk = r
      unfold del
      rw [List.filter_cons_of_neg (by simp)]
      exact List.filter_eq_self.2 (fun y hy => by have := h1 y hy; simp; omega)
    | succ i =>
      have hz : z.rk ≠ x.rk := by
        have := h1 x (List.mem_of_getElem? hx)
        omega
      have := ih h2 hx
      show del (z :: r) x.rk = z :: (r.take i ++ r.drop (i + 1))
      rw [← this]
      unfold del
      rw [List.filter_cons_of_pos (by simp [hz])]
theorem del_erase {l : List En} (hs : Srt l) {i : Nat} {x : En} (hx : l[i]? = some x) : l.eraseIdx i = del l x.rk := by
  rw [del_take hs hx, List.eraseIdx_eq_take_drop_succ]
theorem srt_le {l : List En} (hs : Srt l) {i j : Nat} {x y : En} (hx : l[i]? = some x) (hy : l[j]? = some y) (h : i ≤ j) : x.rk ≤ y.rk := by
  rcases Nat.lt_or_eq_of_le h with h | rfl
  · obtain ⟨hi, ex⟩ := List.getElem?_eq_some_iff.1 hx
    obtain ⟨hj, ey⟩ := List.getElem?_eq_some_iff.1 hy
    have := List.pairwise_iff_getElem.1 hs i j hi hj h
    rw [ex, ey] at this
    omega
  · rw [hx] at hy; cases hy; exact Int.le_refl _
/-- What the search through a row in order has found. -/
def Best (l : List En) (i m : Nat) : Prop :=
  ∃ x : En, l[m]? = some x ∧ (m < i ∨ m = 0) ∧ ∀ j y, j < i → l[j]? = some y → x.seen < y.seen ∨ x.seen = y.seen ∧ m ≤ j
theorem Best.done {l : List En} {m : Nat} (h : Best l l.length m) (hs : Srt l) : ∃ x : En, l[m]? = some x ∧ eld l = some x := by
  obtain ⟨x, hx, hm, hle⟩ := h
  refine ⟨x, hx, eld_some hs ⟨List.mem_of_getElem? hx, fun y hy => ?_⟩⟩
  obtain ⟨i, hi, e⟩ := List.getElem_of_mem hy
  have hy' : l[i]? = some y := by rw [List.getElem?_eq_getElem hi, e]
  rcases hle i y hi hy' with h | ⟨h1, h2⟩
  · exact .inl h
  · exact .inr ⟨h1, srt_le hs hx hy' h2⟩
theorem Best.better {l : List En} {i m : Nat} {z x : En} (hz : l[m]? = some z) (hle : ∀ j y, j < i → l[j]? = some y → z.seen < y.seen ∨ z.seen = y.seen ∧ m ≤ j) (hx : l[i]? = some x) (hlt : x.seen < z.seen) : Best l (i + 1) i := by
  refine ⟨x, hx, .inl (by omega), fun j y hj hy => ?_⟩
  rcases Nat.lt_succ_iff_lt_or_eq.1 hj with hj | rfl
  · have := hle j y hj hy
    left
    omega
  · rw [hx] at hy; cases hy; exact .inr ⟨rfl, Nat.le_refl _⟩
theorem Best.stays {l : List En} {i m : Nat} {z x : En} (hz : l[m]? = some z) (hm : m < i ∨ m = 0) (hle : ∀ j y, j < i → l[j]? = some y → z.seen < y.seen ∨ z.seen = y.seen ∧ m ≤ j) (hx : l[i]? = some x) (hlt : ¬ x.seen < z.seen) : Best l (i + 1) m := by
  refine ⟨z, hz, by omega, fun j y hj hy => ?_⟩
  rcases Nat.lt_succ_iff_lt_or_eq.1 hj with hj | rfl
  · exact hle j y hj hy
  · rw [hx] at hy; cases hy
    by_cases h : z.seen = x.seen
    · exact .inr ⟨h, by omega⟩
    · left; omega
end Go.Proofs.Ytoelpbajaadfeaa
