/-
  The definition's with: its walk, for every database and every entry.
-/
import Derived.Test.YtpbpofmlpbobmaaRWo
import Derived.Deep.CutBlock
import Derived.Deep.CutRange
namespace Go.Proofs.Ytpbpofmlpbobmaa
set_option linter.unusedVariables false
set_option maxRecDepth 4000
set_option linter.unusedSimpArgs false
open Go.RowKit

/-- How many stand ahead of an entry. -/
def wl (l : List En) (e : En) : Nat := (l.takeWhile (fun x => decide (x.rk < e.rk))).length
theorem wl_le (l : List En) (e : En) : wl l e ≤ l.length := (List.takeWhile_sublist _).length_le
theorem wl_pos {z e : En} (r : List En) (h : z.rk < e.rk) : wl (z :: r) e = wl r e + 1 := by simp [wl, h]
theorem wl_neg {z e : En} (r : List En) (h : ¬ z.rk < e.rk) : wl (z :: r) e = 0 := by simp [wl, h]
theorem take_wl (l : List En) (e : En) : l.take (wl l e) = l.takeWhile (fun x => decide (x.rk < e.rk)) := by
  induction l with
  | nil => rfl
  | cons z r ih =>
    by_cases h : z.rk < e.rk
    · rw [wl_pos r h, List.take_succ_cons, ih]
      simp [h]
    · rw [wl_neg r h]
      simp [h]
theorem drop_wl (l : List En) (e : En) : l.drop (wl l e) = l.dropWhile (fun x => decide (x.rk < e.rk)) := by
  induction l with
  | nil => rfl
  | cons z r ih =>
    by_cases h : z.rk < e.rk
    · rw [wl_pos r h, List.drop_succ_cons, ih]
      simp [h]
    · rw [wl_neg r h]
      simp [h]
theorem ins_take (l : List En) (e : En) : ins l e = l.take (wl l e) ++ e :: l.drop (wl l e) := by
  rw [take_wl, drop_wl]
  rfl
theorem wl_lt {l : List En} {e x : En} {i : Nat} (hi : i < wl l e) (hx : l[i]? = some x) : x.rk < e.rk := by
  induction l generalizing i with
  | nil => simp at hx
  | cons z r ih =>
    by_cases h : z.rk < e.rk
    · rw [wl_pos r h] at hi
      cases i with
      | zero => cases hx; exact h
      | succ i => exact ih (by omega) hx
    · rw [wl_neg r h] at hi
      omega
theorem wl_ge {l : List En} {e x : En} (hx : l[wl l e]? = some x) : ¬ x.rk < e.rk := by
  induction l with
  | nil => simp at hx
  | cons z r ih =>
    by_cases h : z.rk < e.rk
    · rw [wl_pos r h, List.getElem?_cons_succ] at hx
      exact ih hx
    · rw [wl_neg r h] at hx
      cases hx
      exact h
theorem empty_ne {X : World} {B z0 z7 : Nat} {e : En} (oz : Own X B (.slice (some ⟨z0, 0, none⟩) 0 0) []) (sE : SlAt X (some ⟨z7, 0, none⟩) 1 1 [e]) : z7 ≠ z0 := by
  intro h
  subst h
  obtain ⟨b, o, e1, hc⟩ := sE.cells _ rfl
  cases e1
  have h0 := hc 0 (.int .i64 e.k.vid) rfl
  rcases oz.2 with ⟨h1, _⟩ | ⟨g, cap, cur, h1, _, hb, _, _, h3, _⟩
  · cases h1
  · cases h1
    have hz : cur.size = 0 := by simpa using h3
    simp [World.cell?, hb, Array.getElem?_eq_none (show cur.size ≤ 0 by omega)] at h0
attribute [local go_sem ↓] ldK stK ldM stM ldP stP ldE stE apE ldR stR slE
theorem three_rf (w : World) (c : Cf) (a : Option Addr) (n k : Nat) (e : En) : ∃ W, ((w.alloc (.cells (c.rs a n k) 29)).alloc (.cells e.cs 55)).alloc (.cells #[.int .i64 0, .int .i64 0, .int .i64 0, .slice none 0 0] 29) = W ∧ RdAt W w.heap.size c a n k ∧ RvAt W (w.heap.size + 1) 55 e.cs ∧ RdAt W (w.heap.size + 1 + 1) ⟨0, 0, 0⟩ none 0 0 ∧ Below w.heap.size w W ∧ W.heap.size = w.heap.size + 3 := by
  obtain ⟨A, hA⟩ : ∃ A, w.alloc (.cells (c.rs a n k) 29) = A := ⟨_, rfl⟩
  obtain ⟨B, hB⟩ : ∃ B, A.alloc (.cells e.cs 55) = B := ⟨_, rfl⟩
  have bA : Below w.heap.size w A := by rw [← hA]; exact (Below.refl _ _).alloc (Nat.le_refl _) _
  have bB : Below A.heap.size A B := by rw [← hB]; exact (Below.refl _ _).alloc (Nat.le_refl _) _
  have zA : A.heap.size = w.heap.size + 1 := by rw [← hA]; simp
  have zB : B.heap.size = w.heap.size + 2 := by rw [← hB]; simp [zA]
  have rA : RdAt A w.heap.size c a n k := by rw [← hA]; exact RvAt.new w _ _
  have rB : RvAt B (w.heap.size + 1) 55 e.cs := by rw [← zA, ← hB]; exact RvAt.new A _ _
  rw [hA, hB]
  have bC : Below B.heap.size B (B.alloc (.cells #[.int .i64 0, .int .i64 0, .int .i64 0, .slice none 0 0] 29)) := (Below.refl _ _).alloc (Nat.le_refl _) _
  refine ⟨_, rfl, (rA.below bB).below bC, rB.below bC, ?_, below_over (below_over bA bB) bC, by simp [zB]⟩
  rw [show w.heap.size + 1 + 1 = B.heap.size by omega]
  exact RvAt.new B 29 (Cf.rs ⟨0, 0, 0⟩ none 0 0)
set_option maxHeartbeats 4000000 in
theorem with_any (c : Cf) (a : Option Addr) (n k : Nat) (l : List En) (e : En) (w : World) (h : SlAt w a n k l) (hl : Wfs l) (he : e.wf) (hn : n ≤ 1000) :
    Calls Try.prog 50 #[.agg (c.rs a n k), .agg e.cs] w fun r w' => ∃ v, r = .returned v ∧ RfOwn w.heap.size w' v c (ins l e) ∧ Below w.heap.size w w' := by
  obtain ⟨W1, hW, d1, re, d2, bW, zW⟩ := three_rf w c a n k e
  have H : Hid (SlAt W1 a n k l ∧ RdAt W1 w.heap.size c a n k ∧ RvAt W1 (w.heap.size + 1) 55 e.cs ∧ RdAt W1 (w.heap.size + 1 + 1) ⟨0, 0, 0⟩ none 0 0 ∧ Below w.heap.size w W1 ∧ W1.heap.size = w.heap.size + 3 ∧ Wfs l ∧ e.wf ∧ n ≤ 1000 ∧ l.length = n) := ⟨h.below bW, d1, re, d2, bW, zW, hl, he, hn, h.len⟩
  have hnn : (n : Int) ≤ 1000 := by omega
  clear h hl he hn d1 re d2 bW zW
  go_enter Try.func50, Try.ntmps50
  go_upto_block 0 with fail
  go_cut [5] from 6 to 47 (fun v5 wx => v5 = .int .i64 (wl l e : Nat) ∧ Below W1.heap.size W1 wx)
  case first =>
    go_wp2_with fail
    go_loopw [5] (fun v5 wr => ∃ i : Nat, i ≤ wl l e ∧ v5 = .int .i64 i ∧ Below W1.heap.size W1 wr) (fun v5 _ => n - (intOf v5).toNat)
    case atStart => exact ⟨0, by omega, rfl, by rw [← hW]; exact Below.refl _ _⟩
    case round =>
      obtain ⟨i, hi, rfl, hB⟩ := hrel
      have hle := wl_le l e
      have f3 := fun q : Later wr => ((H.out.2.1.below hB).below q.below).c3
      have e0 := fun q : Later wr => ((H.out.2.2.1.below hB).below q.below).cell 0 (.int .i64 e.k.vid) rfl
      have em := fun q : Later wr => ((H.out.2.2.1.below hB).below q.below).emac
      have hin0 : (0 : Int) ≤ (i : Int) := by omega
      have hlen := H.out.2.2.2.2.2.2.2.2.2
      by_cases hlt : i < wl l e
      · have hin : i < n := by omega
        have hin1 : (i : Int) < (n : Int) := by omega
        obtain ⟨b, o, rfl⟩ := H.out.1.some' (by omega)
        obtain ⟨x, hx⟩ : ∃ x, l[i]? = some x := ⟨_, List.getElem?_eq_getElem (by omega)⟩
        have hxw := H.out.2.2.2.2.2.2.1 x (List.mem_of_getElem? hx)
        have hrk := wl_lt hlt hx
        have s0 : ∀ q : Later wr, q.val.cell? ⟨b, o + i * 10, none⟩ = some (.int .i64 x.k.vid) := fun q => ((H.out.1.below hB).below q.below).cell hx (k := 0) (v := .int .i64 x.k.vid) rfl (by omega)
        have sm := fun q : Later wr => ((H.out.1.below hB).below q.below).mac hx
        have R2 := (Ky.rk_lt hxw.k H.out.2.2.2.2.2.2.2.1.k).1 hrk
        have hstep : Hid (i + 1 ≤ wl l e) := hlt
        by_cases hv : x.k.vid < e.k.vid
        · clear R2 hrk
          go_wp2_with fail
          refine wp_region_later (by kernel_rfl) (by kernel_rfl) ?_
          repeat (go_big_quiet_step (first | exact rfl))
          refine wpQuiet_nil ?_
          intro _ hw'
          obtain ⟨q, rfl⟩ := hw'
          have hBq : Hid (Below W1.heap.size W1 q.val) := below_over hB q.below
          clear f3 e0 em s0 sm hB
          go_wp2
          go_roundw
          case rel => exact ⟨i + 1, hstep.out, by go_num, hBq.out⟩
          case measure => simp [intOf]; omega
        · have hv2 : x.k.vid = e.k.vid ∧ x.k.num < e.k.num := by
            rcases R2 with h | h
            · exact absurd h hv
            · exact h
          have P1 : Hid (∀ q : Later wr, _) := fun q : Later wr => number_ref x.k.a x.k.b x.k.c x.k.d x.k.e x.k.f q.val hxw.k.a hxw.k.b hxw.k.c hxw.k.d hxw.k.e hxw.k.f
          have hek := H.out.2.2.2.2.2.2.2.1.k
          have P2 : Hid (∀ q : Later wr, _) := fun q : Later wr => number_ref e.k.a e.k.b e.k.c e.k.d e.k.e e.k.f q.val hek.a hek.b hek.c hek.d hek.e hek.f
          have hnum : num x.k.a x.k.b x.k.c x.k.d x.k.e x.k.f < num e.k.a e.k.b e.k.c e.k.d e.k.e e.k.f := hv2.2
          have hveq := hv2.1
          clear R2 hrk hek hv2
          go_wp2_with fail
          refine wp_region_later (by kernel_rfl) (by kernel_rfl) ?_
          repeat (go_big_quiet_step (first | exact rfl | (go_at_call 61; with_reducible exact Calls.later_of (P1.out _)) | (go_at_call 61; with_reducible exact Calls.later_of (P2.out _))))
          refine wpQuiet_nil ?_
          intro _ hw'
          obtain ⟨q, rfl⟩ := hw'
          have hBq : Hid (Below W1.heap.size W1 q.val) := below_over hB q.below
          clear f3 e0 em s0 sm hB P1 P2
          go_wp2
          go_roundw
          case rel => exact ⟨i + 1, hstep.out, by go_num, hBq.out⟩
          case measure => simp [intOf]; omega
      · have hie : i = wl l e := by omega
        subst hie
        by_cases hin : wl l e < n
        · have hin1 : ((wl l e : Nat) : Int) < (n : Int) := by omega
          obtain ⟨b, o, rfl⟩ := H.out.1.some' (by omega)
          obtain ⟨x, hx⟩ : ∃ x, l[wl l e]? = some x := ⟨_, List.getElem?_eq_getElem (by omega)⟩
          have hxw := H.out.2.2.2.2.2.2.1 x (List.mem_of_getElem? hx)
          have hrk := wl_ge hx
          have s0 : ∀ q : Later wr, q.val.cell? ⟨b, o + wl l e * 10, none⟩ = some (.int .i64 x.k.vid) := fun q => ((H.out.1.below hB).below q.below).cell hx (k := 0) (v := .int .i64 x.k.vid) rfl (by omega)
          have sm := fun q : Later wr => ((H.out.1.below hB).below q.below).mac hx
          have R2 := fun h => hrk ((Ky.rk_lt hxw.k H.out.2.2.2.2.2.2.2.1.k).2 h)
          have hv : ¬ x.k.vid < e.k.vid := fun h => R2 (.inl h)
          by_cases hve : x.k.vid = e.k.vid
          · have P1 : Hid (∀ q : Later wr, _) := fun q : Later wr => number_ref x.k.a x.k.b x.k.c x.k.d x.k.e x.k.f q.val hxw.k.a hxw.k.b hxw.k.c hxw.k.d hxw.k.e hxw.k.f
            have hek := H.out.2.2.2.2.2.2.2.1.k
            have P2 : Hid (∀ q : Later wr, _) := fun q : Later wr => number_ref e.k.a e.k.b e.k.c e.k.d e.k.e e.k.f q.val hek.a hek.b hek.c hek.d hek.e hek.f
            have hnum : ¬ num x.k.a x.k.b x.k.c x.k.d x.k.e x.k.f < num e.k.a e.k.b e.k.c e.k.d e.k.e e.k.f := fun h => R2 (.inr ⟨hve, h⟩)
            have hnum' : decide (num x.k.a x.k.b x.k.c x.k.d x.k.e x.k.f < num e.k.a e.k.b e.k.c e.k.d e.k.e e.k.f) = false := by simpa using hnum
            clear R2 hrk hek hxw
            go_wp2_with fail
            refine wp_region_later (by kernel_rfl) (by kernel_rfl) ?_
            repeat (go_big_quiet_step (first | exact rfl | (go_at_call 61; with_reducible exact Calls.later_of (P1.out _)) | (go_at_call 61; with_reducible exact Calls.later_of (P2.out _))))
            refine wpQuiet_nil ?_
            intro _ hw'
            obtain ⟨q, rfl⟩ := hw'
            have hBq : Hid (Below W1.heap.size W1 q.val) := below_over hB q.below
            clear f3 e0 em s0 sm hB P1 P2
            go_wp2_with fail
            go_meet
            exact ⟨rfl, hBq.out⟩
          · have hve' : (x.k.vid == e.k.vid) = false := by simpa using hve
            have hvd : decide (x.k.vid < e.k.vid) = false := by simpa using hv
            clear R2 hrk hxw
            go_wp2_with fail
            refine wp_region_later (by kernel_rfl) (by kernel_rfl) ?_
            repeat (go_big_quiet_step (first | exact rfl))
            refine wpQuiet_nil ?_
            intro _ hw'
            obtain ⟨q, rfl⟩ := hw'
            have hBq : Hid (Below W1.heap.size W1 q.val) := below_over hB q.below
            clear f3 e0 em s0 sm hB
            go_wp2_with fail
            go_meet
            exact ⟨rfl, hBq.out⟩
        · have hin1 : ¬ ((wl l e : Nat) : Int) < (n : Int) := by omega
          have hin2 : decide (((wl l e : Nat) : Int) < (n : Int)) = false := by simpa using hin1
          go_wp2_with fail
          refine wp_region_later (by kernel_rfl) (by kernel_rfl) ?_
          repeat (go_big_quiet_step (first | exact rfl))
          refine wpQuiet_nil ?_
          intro _ hw'
          obtain ⟨q, rfl⟩ := hw'
          have hBq : Hid (Below W1.heap.size W1 q.val) := below_over hB q.below
          clear f3 e0 em hB
          go_wp2_with fail
          go_meet
          exact ⟨rfl, hBq.out⟩
  case rest =>
    obtain ⟨hv5, hB⟩ := hcut
    obtain ⟨m, hm⟩ : ∃ m, m = wl l e := ⟨_, rfl⟩
    rw [← hm] at hv5
    subst hv5
    obtain ⟨W, hWc⟩ : ∃ W, wc = W := ⟨_, rfl⟩
    rw [hWc] at hB ⊢
    clear hWc hW
    have hle := wl_le l e
    have hs := H.out.1.below hB
    have hlen := H.out.2.2.2.2.2.2.2.2.2
    have hmn : m ≤ n := by omega
    have f3 := fun q : Later W => ((H.out.2.1.below hB).below q.below).c3
    have fe : ∀ q : Later W, (ldS 55 (.pointer (some ⟨w.heap.size + 1, 0, none⟩))).run Try.prog q.val = .ok (.agg #[.int .i64 e.k.vid, .int .u8 e.k.a, .int .u8 e.k.b, .int .u8 e.k.c, .int .u8 e.k.d, .int .u8 e.k.e, .int .u8 e.k.f, .int .i64 e.port, .bool e.st, .int .i64 e.seen]) q.val := fun q => ((H.out.2.2.1.below hB).below q.below).ld rtE e.csize
    have p1 := fun V => (hs.pre (i := m) hmn V).1
    obtain ⟨a2, p2, s2⟩ := hs.suf (i := m) hmn
    have s1 := (hs.pre (i := m) hmn w).2
    have G : Hid (SlAt W a m k (l.take m) ∧ SlAt W a2 (n - m) (k - m) (l.drop m) ∧ RdAt W w.heap.size c a n k ∧ RdAt W (w.heap.size + 1 + 1) ⟨0, 0, 0⟩ none 0 0 ∧ Below w.heap.size w W ∧ w.heap.size + 3 ≤ W.heap.size) := ⟨s1, s2, H.out.2.1.below hB, H.out.2.2.2.1.below hB, below_over H.out.2.2.2.2.1 hB, by have := H.out.2.2.2.2.2.1; have := hB.size; omega⟩
    have HL : Hid (l.length ≤ 1000 ∧ m = wl l e) := ⟨by have := H.out.2.2.2.2.2.2.2.2.1; omega, hm⟩
    obtain ⟨X0, hX0⟩ : ∃ X, W.drew = X := ⟨_, rfl⟩
    have bX0 : Below W.heap.size W X0 := by rw [← hX0]; exact (Below.refl _ _).drew
    clear hm hB hs s1 s2 H hle
    go_wp2_with fail
    refine wp_region_noPanic ?_
    refine AnyZ.start (z := 15) (S := fun w' => ∃ x : Later W, w' = x.val) (by kernel_rfl) ⟨⟨_, (Below.refl _ _).drew⟩, rfl⟩ (fun hHeld => ?_)
    rw [hX0] at hHeld ⊢
    clear hX0
    refine AnyZ.take (i := 1) (oi := { dst := some 49, op := Op.fieldAddr 29 (Operand.tmp 2) 3, type := 0, pos := "ref.go:61", after := #[], guard := none }) (v := ?_) rfl (by kernel_rfl) (by kernel_rfl) (fun _ _ _ h => h) _ _ _ _ (by kernel_rfl) (by kernel_rfl) (Or.inl ⟨by rfl, ?_⟩) hHeld ?_
    rotate_left
    · intro W_ hSw_
      obtain ⟨q, rfl⟩ := hSw_
      first | (go_simp; done) | (go_simp; with_reducible rfl)
    rotate_left
    try simp only [Act.put, List.setIfInBounds_toArray, List.set_cons_zero, List.set_cons_succ]
    refine AnyZ.take (i := 2) (oi := { dst := some 50, op := Op.load 27 (Operand.tmp 49), type := 27, pos := "ref.go:61", after := #[{ on := 1, ground := Ground.data }], guard := none }) (v := ?_) rfl (by kernel_rfl) (by kernel_rfl) (fun _ _ _ h => h) _ _ _ _ (by kernel_rfl) (by kernel_rfl) (Or.inl ⟨by rfl, ?_⟩) hHeld ?_
    rotate_left
    · intro W_ hSw_
      obtain ⟨q, rfl⟩ := hSw_
      first | (go_simp; done) | (go_simp; with_reducible rfl)
    rotate_left
    try simp only [Act.put, List.setIfInBounds_toArray, List.set_cons_zero, List.set_cons_succ]
    refine AnyZ.take (i := 3) (oi := { dst := some 51, op := Op.move (Operand.tmp 5), type := 3, pos := "ref.go:61", after := #[], guard := none }) (v := ?_) rfl (by kernel_rfl) (by kernel_rfl) (fun _ _ _ h => h) _ _ _ _ (by kernel_rfl) (by kernel_rfl) (Or.inl ⟨by rfl, ?_⟩) hHeld ?_
    rotate_left
    · intro W_ hSw_
      obtain ⟨q, rfl⟩ := hSw_
      first | (go_simp; done) | (go_simp; with_reducible rfl)
    rotate_left
    try simp only [Act.put, List.setIfInBounds_toArray, List.set_cons_zero, List.set_cons_succ]
    refine AnyZ.take (i := 4) (oi := { dst := some 52, op := Op.slice 27 (Operand.tmp 50) none (some (Operand.tmp 51)) none, type := 27, pos := "ref.go:61", after := #[{ on := 2, ground := Ground.data }, { on := 3, ground := Ground.data }], guard := none }) (v := ?_) rfl (by kernel_rfl) (by kernel_rfl) (fun _ _ _ h => h) _ _ _ _ (by kernel_rfl) (by kernel_rfl) (Or.inl ⟨by rfl, ?_⟩) hHeld ?_
    rotate_left
    · intro W_ hSw_
      obtain ⟨q, rfl⟩ := hSw_
      first | (go_simp; done) | (go_simp; with_reducible rfl)
    rotate_left
    try simp only [Act.put, List.setIfInBounds_toArray, List.set_cons_zero, List.set_cons_succ]
    refine AnyZ.take (i := 6) (oi := { dst := some 54, op := Op.load 55 (Operand.tmp 3), type := 55, pos := "ref.go:61", after := #[], guard := none }) (v := ?_) rfl (by kernel_rfl) (by kernel_rfl) (fun _ _ _ h => h) _ _ _ _ (by kernel_rfl) (by kernel_rfl) (Or.inl ⟨by rfl, ?_⟩) hHeld ?_
    rotate_left
    · intro W_ hSw_
      obtain ⟨q, rfl⟩ := hSw_
      first | (go_simp; done) | (go_simp; with_reducible rfl)
    rotate_left
    try simp only [Act.put, List.setIfInBounds_toArray, List.set_cons_zero, List.set_cons_succ]
    refine AnyZ.take (i := 9) (oi := { dst := some 57, op := Op.fieldAddr 29 (Operand.tmp 2) 3, type := 0, pos := "ref.go:61", after := #[], guard := none }) (v := ?_) rfl (by kernel_rfl) (by kernel_rfl) (fun _ _ _ h => h) _ _ _ _ (by kernel_rfl) (by kernel_rfl) (Or.inl ⟨by rfl, ?_⟩) hHeld ?_
    rotate_left
    · intro W_ hSw_
      obtain ⟨q, rfl⟩ := hSw_
      first | (go_simp; done) | (go_simp; with_reducible rfl)
    rotate_left
    try simp only [Act.put, List.setIfInBounds_toArray, List.set_cons_zero, List.set_cons_succ]
    refine AnyZ.take (i := 10) (oi := { dst := some 58, op := Op.load 27 (Operand.tmp 57), type := 27, pos := "ref.go:61", after := #[{ on := 9, ground := Ground.data }], guard := none }) (v := ?_) rfl (by kernel_rfl) (by kernel_rfl) (fun _ _ _ h => h) _ _ _ _ (by kernel_rfl) (by kernel_rfl) (Or.inl ⟨by rfl, ?_⟩) hHeld ?_
    rotate_left
    · intro W_ hSw_
      obtain ⟨q, rfl⟩ := hSw_
      first | (go_simp; done) | (go_simp; with_reducible rfl)
    rotate_left
    try simp only [Act.put, List.setIfInBounds_toArray, List.set_cons_zero, List.set_cons_succ]
    refine AnyZ.take (i := 11) (oi := { dst := some 59, op := Op.move (Operand.tmp 5), type := 3, pos := "ref.go:61", after := #[], guard := none }) (v := ?_) rfl (by kernel_rfl) (by kernel_rfl) (fun _ _ _ h => h) _ _ _ _ (by kernel_rfl) (by kernel_rfl) (Or.inl ⟨by rfl, ?_⟩) hHeld ?_
    rotate_left
    · intro W_ hSw_
      obtain ⟨q, rfl⟩ := hSw_
      first | (go_simp; done) | (go_simp; with_reducible rfl)
    rotate_left
    try simp only [Act.put, List.setIfInBounds_toArray, List.set_cons_zero, List.set_cons_succ]
    refine AnyZ.take (i := 12) (oi := { dst := some 60, op := Op.slice 27 (Operand.tmp 58) (some (Operand.tmp 59)) none none, type := 27, pos := "ref.go:61", after := #[{ on := 10, ground := Ground.data }, { on := 11, ground := Ground.data }], guard := none }) (v := ?_) rfl (by kernel_rfl) (by kernel_rfl) (fun _ _ _ h => h) _ _ _ _ (by kernel_rfl) (by kernel_rfl) (Or.inl ⟨by rfl, ?_⟩) hHeld ?_
    rotate_left
    · intro W_ hSw_
      obtain ⟨q, rfl⟩ := hSw_
      first | (go_simp; done) | (go_simp; with_reducible rfl)
    rotate_left
    try simp only [Act.put, List.setIfInBounds_toArray, List.set_cons_zero, List.set_cons_succ]
    clear f3 fe p1 p2
    refine AnyZ.two (i := 0) (j := 7) (o := { dst := some 48, op := Op.buildSlice 27 0 #[], type := 27, pos := "ref.go:61", after := #[], guard := none }) (u := { dst := some 55, op := Op.buildSlice 27 1 #[(0, Operand.tmp 54)], type := 27, pos := "ref.go:61", after := #[{ on := 6, ground := Ground.data }], guard := none }) (by kernel_rfl) rfl rfl (fun K hK => ?_) (fun K hK => ?_)
    · obtain ⟨Z0, hZ0⟩ : ∃ X, X0.alloc (.cells #[] 55) = X := ⟨_, rfl⟩
      have gZ0 : Below X0.heap.size X0 Z0 := by rw [← hZ0]; exact (Below.refl _ _).alloc (Nat.le_refl _) _
      have bZ0 : Below W.heap.size W Z0 := below_over bX0 gZ0
      have oz : Own Z0 W.heap.size (.slice (some ⟨X0.heap.size, 0, none⟩) 0 0) [] := by rw [← hZ0]; exact own_empty X0 _ bX0.size
      clear gZ0
      go_simp
      clear hHeld
      refine hK.out _ _ (fun _ => ⟨⟨_, bZ0⟩, rfl⟩) (fun hHeld => ?_)
      clear hK K
      try simp only [Act.put, List.setIfInBounds_toArray, List.set_cons_zero, List.set_cons_succ]
      refine AnyZ.two (i := 5) (j := 7) (o := { dst := some 53, op := Op.call { callee := Callee.builtin Builtin.append, args := #[Operand.tmp 48, Operand.tmp 52], argTypes := #[27, 27] }, type := 27, pos := "ref.go:61", after := #[{ on := 0, ground := Ground.data }, { on := 4, ground := Ground.data }], guard := none }) (u := { dst := some 55, op := Op.buildSlice 27 1 #[(0, Operand.tmp 54)], type := 27, pos := "ref.go:61", after := #[{ on := 6, ground := Ground.data }], guard := none }) (by kernel_rfl) rfl rfl (fun K hK => ?_) (fun K hK => ?_)
      · obtain ⟨v5, Z5, ap5, oA, gA⟩ := oz.app (G.out.1.below bZ0) (by have := HL.out; simp; omega) bZ0.size 27
        have bZ5 : Below W.heap.size W Z5 := bZ0.trans (below_of_grown gA bZ0.size (fun j e => (World.ownsRow.lt oz j e).1))
        clear oz gA
        go_simp
        clear hHeld
        refine hK.out _ _ (fun _ => ⟨⟨_, bZ5⟩, rfl⟩) (fun hHeld => ?_)
        clear hK K
        try simp only [Act.put, List.setIfInBounds_toArray, List.set_cons_zero, List.set_cons_succ]
        clear ap5
        obtain ⟨Z7, hZ7⟩ : ∃ X, Z5.alloc (.cells #[.int .i64 e.k.vid, .int .u8 e.k.a, .int .u8 e.k.b, .int .u8 e.k.c, .int .u8 e.k.d, .int .u8 e.k.e, .int .u8 e.k.f, .int .i64 e.port, .bool e.st, .int .i64 e.seen] 55) = X := ⟨_, rfl⟩
        have gZ7 : Below Z5.heap.size Z5 Z7 := by rw [← hZ7]; exact (Below.refl _ _).alloc (Nat.le_refl _) _
        have bZ7 : Below W.heap.size W Z7 := below_over bZ5 gZ7
        have sE : SlAt Z7 (some ⟨Z5.heap.size, 0, none⟩) 1 1 [e] := by rw [← hZ7]; exact one_new Z5 e
        have oA := oA.below gZ7
        clear gZ7
        refine AnyZ.step (i := 7) (o := { dst := some 55, op := Op.buildSlice 27 1 #[(0, Operand.tmp 54)], type := 27, pos := "ref.go:61", after := #[{ on := 6, ground := Ground.data }], guard := none }) (by kernel_rfl) rfl (fun K hK => ?_)
        go_simp
        clear hHeld
        refine hK.out _ _ (fun _ => ⟨⟨_, bZ7⟩, rfl⟩) (fun hHeld => ?_)
        clear hK K
        try simp only [Act.put, List.setIfInBounds_toArray, List.set_cons_zero, List.set_cons_succ]
        have bC := bZ7
        obtain ⟨v8, X8, ap8, o8, g8⟩ := oA.app sE (by have := HL.out; simp; omega) bC.size 27
        have b8 : Below W.heap.size W X8 := bC.trans (below_of_grown g8 bC.size (fun j e => (World.ownsRow.lt oA j e).1))
        obtain ⟨v9, X9, ap9, o9, g9⟩ := o8.app (G.out.2.1.below b8) (by have := HL.out; simp; omega) b8.size 27
        have b9 : Below W.heap.size W X9 := b8.trans (below_of_grown g9 b8.size (fun j e => (World.ownsRow.lt o8 j e).1))
        obtain ⟨a9, c9, hv9, s9, _⟩ := o9.form
        have hll : ([] ++ l.take m ++ [e] ++ l.drop m) = ins l e := by rw [ins_take, ← HL.out.2]; simp
        rw [hll] at hv9 s9
        obtain ⟨m9, hm9⟩ : ∃ m9, m9 = (ins l e).length := ⟨_, rfl⟩
        rw [← hm9] at hv9 s9
        have G9 : Hid (∀ x, a9 = some x → W.heap.size ≤ x.block) := by
          intro x e9
          subst e9
          subst hv9
          exact (World.ownsRow.lt o9 x.block rfl).1
        subst hv9
        have hm : Hid (m9 = (ins l e).length) := hm9
        clear hm9
        have d9 := G.out.2.2.1.below b9
        have fz := d9.fz 3
        have cx := d9.c3
        have e9 := d9.set (a' := a9) (n' := m9) (k' := c9)
        obtain ⟨Y4, hY4⟩ : ∃ X, X9.setCell ⟨w.heap.size, 3, none⟩ (.slice a9 m9 c9) = X := ⟨_, rfl⟩
        rw [hY4] at e9
        have d24 : RdAt Y4 (w.heap.size + 1 + 1) ⟨0, 0, 0⟩ none 0 0 := (e9.2.block _ (G.out.2.2.2.1.below b9).lt (fun h => by have := Option.some.inj h; omega)).trans (G.out.2.2.2.1.below b9)
        obtain ⟨Y5, st5, r5, g5, z5⟩ := d24.put (c' := c) (a' := a9) (n' := m9) (k' := c9)
        have ld4 := e9.1.ld
        have J : Hid (Below W.heap.size W X8 ∧ Below W.heap.size W X9 ∧ SlAt X9 a9 m9 c9 (ins l e) ∧ RvAt Y5 (w.heap.size + 1 + 1) 29 (c.rs a9 m9 c9) ∧ X9.grownBy Y4 (some w.heap.size) ∧ Y4.grownBy Y5 (some (w.heap.size + 1 + 1))) := ⟨b8, b9, s9, r5, e9.2, g5⟩
        clear oA sE bC o8 g8 b8 o9 g9 b9 s9 d9 e9 d24 r5 g5 z5 hll
        refine AnyZ.step (i := 8) (o := { dst := some 56, op := Op.call { callee := Callee.builtin Builtin.append, args := #[Operand.tmp 53, Operand.tmp 55], argTypes := #[27, 27] }, type := 27, pos := "ref.go:61", after := #[{ on := 5, ground := Ground.data }, { on := 7, ground := Ground.data }, { on := 5, ground := Ground.chain }], guard := none }) (by kernel_rfl) rfl (fun K hK => ?_)
        go_simp
        clear hHeld
        refine hK.out _ _ (fun _ => ⟨⟨_, J.out.1⟩, rfl⟩) (fun hHeld => ?_)
        clear hK K
        try simp only [Act.put, List.setIfInBounds_toArray, List.set_cons_zero, List.set_cons_succ]
        refine AnyZ.step (i := 13) (o := { dst := some 61, op := Op.call { callee := Callee.builtin Builtin.append, args := #[Operand.tmp 56, Operand.tmp 60], argTypes := #[27, 27] }, type := 27, pos := "ref.go:61", after := #[{ on := 8, ground := Ground.data }, { on := 12, ground := Ground.data }, { on := 8, ground := Ground.chain }], guard := none }) (by kernel_rfl) rfl (fun K hK => ?_)
        go_simp
        clear hHeld
        refine hK.out _ _ (fun _ => ⟨⟨_, J.out.2.1⟩, rfl⟩) (fun hHeld => ?_)
        clear hK K
        try simp only [Act.put, List.setIfInBounds_toArray, List.set_cons_zero, List.set_cons_succ]
        replace hHeld := hHeld (by decide)
        refine AnyZ.take (i := 14) (oi := { dst := some 62, op := Op.fieldAddr 29 (Operand.tmp 2) 3, type := 0, pos := "ref.go:61", after := #[{ on := 0, ground := Ground.phase }, { on := 1, ground := Ground.phase }, { on := 2, ground := Ground.phase }, { on := 3, ground := Ground.phase }, { on := 4, ground := Ground.phase }, { on := 5, ground := Ground.phase }, { on := 6, ground := Ground.phase }, { on := 7, ground := Ground.phase }, { on := 8, ground := Ground.phase }, { on := 9, ground := Ground.phase }, { on := 10, ground := Ground.phase }, { on := 11, ground := Ground.phase }, { on := 12, ground := Ground.phase }, { on := 13, ground := Ground.phase }], guard := none }) (v := ?_) rfl (by kernel_rfl) (by kernel_rfl) (fun _ _ _ h => h) _ _ _ _ (by kernel_rfl) (by kernel_rfl) (Or.inl ⟨by rfl, ?_⟩) hHeld ?_
        rotate_left
        · intro W_ hSw_
          obtain ⟨q, rfl⟩ := hSw_
          first | (go_simp; done) | (go_simp; with_reducible rfl)
        rotate_left
        try simp only [Act.put, List.setIfInBounds_toArray, List.set_cons_zero, List.set_cons_succ]
        refine AnyZ.step (i := 15) (o := { dst := none, op := Op.store 27 (Operand.tmp 62) (Operand.tmp 61), type := 0, pos := "ref.go:61", after := #[{ on := 14, ground := Ground.data }, { on := 13, ground := Ground.data }, { on := 13, ground := Ground.chain }, { on := 0, ground := Ground.phase }, { on := 1, ground := Ground.phase }, { on := 2, ground := Ground.phase }, { on := 3, ground := Ground.phase }, { on := 4, ground := Ground.phase }, { on := 5, ground := Ground.phase }, { on := 6, ground := Ground.phase }, { on := 7, ground := Ground.phase }, { on := 8, ground := Ground.phase }, { on := 9, ground := Ground.phase }, { on := 10, ground := Ground.phase }, { on := 11, ground := Ground.phase }, { on := 12, ground := Ground.phase }, { on := 13, ground := Ground.phase }], guard := none }) (by kernel_rfl) rfl (fun K hK => ?_)
        go_simp
        clear hHeld
        refine hK.out _ _ (fun h => absurd rfl h) (fun hHeld => ?_)
        clear hK K
        try simp only [Act.put, List.setIfInBounds_toArray, List.set_cons_zero, List.set_cons_succ]
        refine AnyZ.done (by kernel_rfl) ?_ _
        refine NoPanic.normal ?_
        clear hHeld
        clear ap8 ap9 fz cx
        go_wp2
        refine bodyPost_ret (results_row rtR Try.results50 _ _ _ _ rfl J.out.2.2.2.1 rfl) rfl ?_
        have b34 : Below w.heap.size X9 Y5 := (below_of_grown J.out.2.2.2.2.1 (Nat.le_trans G.out.2.2.2.2.1.size J.out.2.1.size) (fun j e => by cases e; exact Nat.le_refl _)).trans (below_of_grown J.out.2.2.2.2.2 (by have := J.out.2.2.2.2.1.size; have := J.out.2.1.size; have := G.out.2.2.2.2.1.size; omega) (fun j e => by cases e; omega))
        refine ⟨_, rfl, ⟨a9, c9, by rw [← hm.out], ?_, fun x e => by have := G9.out x e; have := G.out.2.2.2.2.2; omega⟩, (below_over G.out.2.2.2.2.1 J.out.2.1).trans b34⟩
        rw [← hm.out]
        refine (J.out.2.2.1.keptBut J.out.2.2.2.2.1 (fun x e => ?_)).keptBut J.out.2.2.2.2.2 (fun x e => ?_)
        · have := G9.out x e
          have := G.out.2.2.2.2.2
          intro e2
          have := Option.some.inj e2
          omega
        · have := G9.out x e
          have := G.out.2.2.2.2.2
          intro e2
          have := Option.some.inj e2
          omega
      · obtain ⟨Z7, hZ7⟩ : ∃ X, Z0.alloc (.cells #[.int .i64 e.k.vid, .int .u8 e.k.a, .int .u8 e.k.b, .int .u8 e.k.c, .int .u8 e.k.d, .int .u8 e.k.e, .int .u8 e.k.f, .int .i64 e.port, .bool e.st, .int .i64 e.seen] 55) = X := ⟨_, rfl⟩
        have gZ7 : Below Z0.heap.size Z0 Z7 := by rw [← hZ7]; exact (Below.refl _ _).alloc (Nat.le_refl _) _
        have bZ7 : Below W.heap.size W Z7 := below_over bZ0 gZ7
        have sE : SlAt Z7 (some ⟨Z0.heap.size, 0, none⟩) 1 1 [e] := by rw [← hZ7]; exact one_new Z0 e
        have oz := oz.below gZ7
        clear gZ7
        go_simp
        clear hHeld
        refine hK.out _ _ (fun _ => ⟨⟨_, bZ7⟩, rfl⟩) (fun hHeld => ?_)
        clear hK K
        try simp only [Act.put, List.setIfInBounds_toArray, List.set_cons_zero, List.set_cons_succ]
        obtain ⟨v5, Z5, ap5, oA, gA⟩ := oz.app (G.out.1.below bZ7) (by have := HL.out; simp; omega) bZ7.size 27
        have bZ5 : Below W.heap.size W Z5 := bZ7.trans (below_of_grown gA bZ7.size (fun j e => (World.ownsRow.lt oz j e).1))
        have sE := sE.keptBut gA (fun x hx => by cases hx; exact fun h => empty_ne oz sE (Option.some.inj h))
        clear oz gA
        refine AnyZ.step (i := 5) (o := { dst := some 53, op := Op.call { callee := Callee.builtin Builtin.append, args := #[Operand.tmp 48, Operand.tmp 52], argTypes := #[27, 27] }, type := 27, pos := "ref.go:61", after := #[{ on := 0, ground := Ground.data }, { on := 4, ground := Ground.data }], guard := none }) (by kernel_rfl) rfl (fun K hK => ?_)
        go_simp
        clear hHeld
        refine hK.out _ _ (fun _ => ⟨⟨_, bZ5⟩, rfl⟩) (fun hHeld => ?_)
        clear hK K
        try simp only [Act.put, List.setIfInBounds_toArray, List.set_cons_zero, List.set_cons_succ]
        have bC := bZ5
        obtain ⟨v8, X8, ap8, o8, g8⟩ := oA.app sE (by have := HL.out; simp; omega) bC.size 27
        have b8 : Below W.heap.size W X8 := bC.trans (below_of_grown g8 bC.size (fun j e => (World.ownsRow.lt oA j e).1))
        obtain ⟨v9, X9, ap9, o9, g9⟩ := o8.app (G.out.2.1.below b8) (by have := HL.out; simp; omega) b8.size 27
        have b9 : Below W.heap.size W X9 := b8.trans (below_of_grown g9 b8.size (fun j e => (World.ownsRow.lt o8 j e).1))
        obtain ⟨a9, c9, hv9, s9, _⟩ := o9.form
        have hll : ([] ++ l.take m ++ [e] ++ l.drop m) = ins l e := by rw [ins_take, ← HL.out.2]; simp
        rw [hll] at hv9 s9
        obtain ⟨m9, hm9⟩ : ∃ m9, m9 = (ins l e).length := ⟨_, rfl⟩
        rw [← hm9] at hv9 s9
        have G9 : Hid (∀ x, a9 = some x → W.heap.size ≤ x.block) := by
          intro x e9
          subst e9
          subst hv9
          exact (World.ownsRow.lt o9 x.block rfl).1
        subst hv9
        have hm : Hid (m9 = (ins l e).length) := hm9
        clear hm9
        have d9 := G.out.2.2.1.below b9
        have fz := d9.fz 3
        have cx := d9.c3
        have e9 := d9.set (a' := a9) (n' := m9) (k' := c9)
        obtain ⟨Y4, hY4⟩ : ∃ X, X9.setCell ⟨w.heap.size, 3, none⟩ (.slice a9 m9 c9) = X := ⟨_, rfl⟩
        rw [hY4] at e9
        have d24 : RdAt Y4 (w.heap.size + 1 + 1) ⟨0, 0, 0⟩ none 0 0 := (e9.2.block _ (G.out.2.2.2.1.below b9).lt (fun h => by have := Option.some.inj h; omega)).trans (G.out.2.2.2.1.below b9)
        obtain ⟨Y5, st5, r5, g5, z5⟩ := d24.put (c' := c) (a' := a9) (n' := m9) (k' := c9)
        have ld4 := e9.1.ld
        have J : Hid (Below W.heap.size W X8 ∧ Below W.heap.size W X9 ∧ SlAt X9 a9 m9 c9 (ins l e) ∧ RvAt Y5 (w.heap.size + 1 + 1) 29 (c.rs a9 m9 c9) ∧ X9.grownBy Y4 (some w.heap.size) ∧ Y4.grownBy Y5 (some (w.heap.size + 1 + 1))) := ⟨b8, b9, s9, r5, e9.2, g5⟩
        clear oA sE bC o8 g8 b8 o9 g9 b9 s9 d9 e9 d24 r5 g5 z5 hll
        refine AnyZ.step (i := 8) (o := { dst := some 56, op := Op.call { callee := Callee.builtin Builtin.append, args := #[Operand.tmp 53, Operand.tmp 55], argTypes := #[27, 27] }, type := 27, pos := "ref.go:61", after := #[{ on := 5, ground := Ground.data }, { on := 7, ground := Ground.data }, { on := 5, ground := Ground.chain }], guard := none }) (by kernel_rfl) rfl (fun K hK => ?_)
        go_simp
        clear hHeld
        refine hK.out _ _ (fun _ => ⟨⟨_, J.out.1⟩, rfl⟩) (fun hHeld => ?_)
        clear hK K
        try simp only [Act.put, List.setIfInBounds_toArray, List.set_cons_zero, List.set_cons_succ]
        refine AnyZ.step (i := 13) (o := { dst := some 61, op := Op.call { callee := Callee.builtin Builtin.append, args := #[Operand.tmp 56, Operand.tmp 60], argTypes := #[27, 27] }, type := 27, pos := "ref.go:61", after := #[{ on := 8, ground := Ground.data }, { on := 12, ground := Ground.data }, { on := 8, ground := Ground.chain }], guard := none }) (by kernel_rfl) rfl (fun K hK => ?_)
        go_simp
        clear hHeld
        refine hK.out _ _ (fun _ => ⟨⟨_, J.out.2.1⟩, rfl⟩) (fun hHeld => ?_)
        clear hK K
        try simp only [Act.put, List.setIfInBounds_toArray, List.set_cons_zero, List.set_cons_succ]
        replace hHeld := hHeld (by decide)
        refine AnyZ.take (i := 14) (oi := { dst := some 62, op := Op.fieldAddr 29 (Operand.tmp 2) 3, type := 0, pos := "ref.go:61", after := #[{ on := 0, ground := Ground.phase }, { on := 1, ground := Ground.phase }, { on := 2, ground := Ground.phase }, { on := 3, ground := Ground.phase }, { on := 4, ground := Ground.phase }, { on := 5, ground := Ground.phase }, { on := 6, ground := Ground.phase }, { on := 7, ground := Ground.phase }, { on := 8, ground := Ground.phase }, { on := 9, ground := Ground.phase }, { on := 10, ground := Ground.phase }, { on := 11, ground := Ground.phase }, { on := 12, ground := Ground.phase }, { on := 13, ground := Ground.phase }], guard := none }) (v := ?_) rfl (by kernel_rfl) (by kernel_rfl) (fun _ _ _ h => h) _ _ _ _ (by kernel_rfl) (by kernel_rfl) (Or.inl ⟨by rfl, ?_⟩) hHeld ?_
        rotate_left
        · intro W_ hSw_
          obtain ⟨q, rfl⟩ := hSw_
          first | (go_simp; done) | (go_simp; with_reducible rfl)
        rotate_left
        try simp only [Act.put, List.setIfInBounds_toArray, List.set_cons_zero, List.set_cons_succ]
        refine AnyZ.step (i := 15) (o := { dst := none, op := Op.store 27 (Operand.tmp 62) (Operand.tmp 61), type := 0, pos := "ref.go:61", after := #[{ on := 14, ground := Ground.data }, { on := 13, ground := Ground.data }, { on := 13, ground := Ground.chain }, { on := 0, ground := Ground.phase }, { on := 1, ground := Ground.phase }, { on := 2, ground := Ground.phase }, { on := 3, ground := Ground.phase }, { on := 4, ground := Ground.phase }, { on := 5, ground := Ground.phase }, { on := 6, ground := Ground.phase }, { on := 7, ground := Ground.phase }, { on := 8, ground := Ground.phase }, { on := 9, ground := Ground.phase }, { on := 10, ground := Ground.phase }, { on := 11, ground := Ground.phase }, { on := 12, ground := Ground.phase }, { on := 13, ground := Ground.phase }], guard := none }) (by kernel_rfl) rfl (fun K hK => ?_)
        go_simp
        clear hHeld
        refine hK.out _ _ (fun h => absurd rfl h) (fun hHeld => ?_)
        clear hK K
        try simp only [Act.put, List.setIfInBounds_toArray, List.set_cons_zero, List.set_cons_succ]
        refine AnyZ.done (by kernel_rfl) ?_ _
        refine NoPanic.normal ?_
        clear hHeld
        clear ap8 ap9 fz cx
        go_wp2
        refine bodyPost_ret (results_row rtR Try.results50 _ _ _ _ rfl J.out.2.2.2.1 rfl) rfl ?_
        have b34 : Below w.heap.size X9 Y5 := (below_of_grown J.out.2.2.2.2.1 (Nat.le_trans G.out.2.2.2.2.1.size J.out.2.1.size) (fun j e => by cases e; exact Nat.le_refl _)).trans (below_of_grown J.out.2.2.2.2.2 (by have := J.out.2.2.2.2.1.size; have := J.out.2.1.size; have := G.out.2.2.2.2.1.size; omega) (fun j e => by cases e; omega))
        refine ⟨_, rfl, ⟨a9, c9, by rw [← hm.out], ?_, fun x e => by have := G9.out x e; have := G.out.2.2.2.2.2; omega⟩, (below_over G.out.2.2.2.2.1 J.out.2.1).trans b34⟩
        rw [← hm.out]
        refine (J.out.2.2.1.keptBut J.out.2.2.2.2.1 (fun x e => ?_)).keptBut J.out.2.2.2.2.2 (fun x e => ?_)
        · have := G9.out x e
          have := G.out.2.2.2.2.2
          intro e2
          have := Option.some.inj e2
          omega
        · have := G9.out x e
          have := G.out.2.2.2.2.2
          intro e2
          have := Option.some.inj e2
          omega
    · obtain ⟨Z7, hZ7⟩ : ∃ X, X0.alloc (.cells #[.int .i64 e.k.vid, .int .u8 e.k.a, .int .u8 e.k.b, .int .u8 e.k.c, .int .u8 e.k.d, .int .u8 e.k.e, .int .u8 e.k.f, .int .i64 e.port, .bool e.st, .int .i64 e.seen] 55) = X := ⟨_, rfl⟩
      have gZ7 : Below X0.heap.size X0 Z7 := by rw [← hZ7]; exact (Below.refl _ _).alloc (Nat.le_refl _) _
      have bZ7 : Below W.heap.size W Z7 := below_over bX0 gZ7
      have sE : SlAt Z7 (some ⟨X0.heap.size, 0, none⟩) 1 1 [e] := by rw [← hZ7]; exact one_new X0 e
      clear gZ7
      go_simp
      clear hHeld
      refine hK.out _ _ (fun _ => ⟨⟨_, bZ7⟩, rfl⟩) (fun hHeld => ?_)
      clear hK K
      try simp only [Act.put, List.setIfInBounds_toArray, List.set_cons_zero, List.set_cons_succ]
      obtain ⟨Z0, hZ0⟩ : ∃ X, Z7.alloc (.cells #[] 55) = X := ⟨_, rfl⟩
      have gZ0 : Below Z7.heap.size Z7 Z0 := by rw [← hZ0]; exact (Below.refl _ _).alloc (Nat.le_refl _) _
      have bZ0 : Below W.heap.size W Z0 := below_over bZ7 gZ0
      have oz : Own Z0 W.heap.size (.slice (some ⟨Z7.heap.size, 0, none⟩) 0 0) [] := by rw [← hZ0]; exact own_empty Z7 _ bZ7.size
      have sE := sE.below gZ0
      clear gZ0
      refine AnyZ.step (i := 0) (o := { dst := some 48, op := Op.buildSlice 27 0 #[], type := 27, pos := "ref.go:61", after := #[], guard := none }) (by kernel_rfl) rfl (fun K hK => ?_)
      go_simp
      clear hHeld
      refine hK.out _ _ (fun _ => ⟨⟨_, bZ0⟩, rfl⟩) (fun hHeld => ?_)
      clear hK K
      try simp only [Act.put, List.setIfInBounds_toArray, List.set_cons_zero, List.set_cons_succ]
      obtain ⟨v5, Z5, ap5, oA, gA⟩ := oz.app (G.out.1.below bZ0) (by have := HL.out; simp; omega) bZ0.size 27
      have bZ5 : Below W.heap.size W Z5 := bZ0.trans (below_of_grown gA bZ0.size (fun j e => (World.ownsRow.lt oz j e).1))
      have sE := sE.keptBut gA (fun x hx => by cases hx; exact fun h => empty_ne oz sE (Option.some.inj h))
      clear oz gA
      refine AnyZ.step (i := 5) (o := { dst := some 53, op := Op.call { callee := Callee.builtin Builtin.append, args := #[Operand.tmp 48, Operand.tmp 52], argTypes := #[27, 27] }, type := 27, pos := "ref.go:61", after := #[{ on := 0, ground := Ground.data }, { on := 4, ground := Ground.data }], guard := none }) (by kernel_rfl) rfl (fun K hK => ?_)
      go_simp
      clear hHeld
      refine hK.out _ _ (fun _ => ⟨⟨_, bZ5⟩, rfl⟩) (fun hHeld => ?_)
      clear hK K
      try simp only [Act.put, List.setIfInBounds_toArray, List.set_cons_zero, List.set_cons_succ]
      have bC := bZ5
      obtain ⟨v8, X8, ap8, o8, g8⟩ := oA.app sE (by have := HL.out; simp; omega) bC.size 27
      have b8 : Below W.heap.size W X8 := bC.trans (below_of_grown g8 bC.size (fun j e => (World.ownsRow.lt oA j e).1))
      obtain ⟨v9, X9, ap9, o9, g9⟩ := o8.app (G.out.2.1.below b8) (by have := HL.out; simp; omega) b8.size 27
      have b9 : Below W.heap.size W X9 := b8.trans (below_of_grown g9 b8.size (fun j e => (World.ownsRow.lt o8 j e).1))
      obtain ⟨a9, c9, hv9, s9, _⟩ := o9.form
      have hll : ([] ++ l.take m ++ [e] ++ l.drop m) = ins l e := by rw [ins_take, ← HL.out.2]; simp
      rw [hll] at hv9 s9
      obtain ⟨m9, hm9⟩ : ∃ m9, m9 = (ins l e).length := ⟨_, rfl⟩
      rw [← hm9] at hv9 s9
      have G9 : Hid (∀ x, a9 = some x → W.heap.size ≤ x.block) := by
        intro x e9
        subst e9
        subst hv9
        exact (World.ownsRow.lt o9 x.block rfl).1
      subst hv9
      have hm : Hid (m9 = (ins l e).length) := hm9
      clear hm9
      have d9 := G.out.2.2.1.below b9
      have fz := d9.fz 3
      have cx := d9.c3
      have e9 := d9.set (a' := a9) (n' := m9) (k' := c9)
      obtain ⟨Y4, hY4⟩ : ∃ X, X9.setCell ⟨w.heap.size, 3, none⟩ (.slice a9 m9 c9) = X := ⟨_, rfl⟩
      rw [hY4] at e9
      have d24 : RdAt Y4 (w.heap.size + 1 + 1) ⟨0, 0, 0⟩ none 0 0 := (e9.2.block _ (G.out.2.2.2.1.below b9).lt (fun h => by have := Option.some.inj h; omega)).trans (G.out.2.2.2.1.below b9)
      obtain ⟨Y5, st5, r5, g5, z5⟩ := d24.put (c' := c) (a' := a9) (n' := m9) (k' := c9)
      have ld4 := e9.1.ld
      have J : Hid (Below W.heap.size W X8 ∧ Below W.heap.size W X9 ∧ SlAt X9 a9 m9 c9 (ins l e) ∧ RvAt Y5 (w.heap.size + 1 + 1) 29 (c.rs a9 m9 c9) ∧ X9.grownBy Y4 (some w.heap.size) ∧ Y4.grownBy Y5 (some (w.heap.size + 1 + 1))) := ⟨b8, b9, s9, r5, e9.2, g5⟩
      clear oA sE bC o8 g8 b8 o9 g9 b9 s9 d9 e9 d24 r5 g5 z5 hll
      refine AnyZ.step (i := 8) (o := { dst := some 56, op := Op.call { callee := Callee.builtin Builtin.append, args := #[Operand.tmp 53, Operand.tmp 55], argTypes := #[27, 27] }, type := 27, pos := "ref.go:61", after := #[{ on := 5, ground := Ground.data }, { on := 7, ground := Ground.data }, { on := 5, ground := Ground.chain }], guard := none }) (by kernel_rfl) rfl (fun K hK => ?_)
      go_simp
      clear hHeld
      refine hK.out _ _ (fun _ => ⟨⟨_, J.out.1⟩, rfl⟩) (fun hHeld => ?_)
      clear hK K
      try simp only [Act.put, List.setIfInBounds_toArray, List.set_cons_zero, List.set_cons_succ]
      refine AnyZ.step (i := 13) (o := { dst := some 61, op := Op.call { callee := Callee.builtin Builtin.append, args := #[Operand.tmp 56, Operand.tmp 60], argTypes := #[27, 27] }, type := 27, pos := "ref.go:61", after := #[{ on := 8, ground := Ground.data }, { on := 12, ground := Ground.data }, { on := 8, ground := Ground.chain }], guard := none }) (by kernel_rfl) rfl (fun K hK => ?_)
      go_simp
      clear hHeld
      refine hK.out _ _ (fun _ => ⟨⟨_, J.out.2.1⟩, rfl⟩) (fun hHeld => ?_)
      clear hK K
      try simp only [Act.put, List.setIfInBounds_toArray, List.set_cons_zero, List.set_cons_succ]
      replace hHeld := hHeld (by decide)
      refine AnyZ.take (i := 14) (oi := { dst := some 62, op := Op.fieldAddr 29 (Operand.tmp 2) 3, type := 0, pos := "ref.go:61", after := #[{ on := 0, ground := Ground.phase }, { on := 1, ground := Ground.phase }, { on := 2, ground := Ground.phase }, { on := 3, ground := Ground.phase }, { on := 4, ground := Ground.phase }, { on := 5, ground := Ground.phase }, { on := 6, ground := Ground.phase }, { on := 7, ground := Ground.phase }, { on := 8, ground := Ground.phase }, { on := 9, ground := Ground.phase }, { on := 10, ground := Ground.phase }, { on := 11, ground := Ground.phase }, { on := 12, ground := Ground.phase }, { on := 13, ground := Ground.phase }], guard := none }) (v := ?_) rfl (by kernel_rfl) (by kernel_rfl) (fun _ _ _ h => h) _ _ _ _ (by kernel_rfl) (by kernel_rfl) (Or.inl ⟨by rfl, ?_⟩) hHeld ?_
      rotate_left
      · intro W_ hSw_
        obtain ⟨q, rfl⟩ := hSw_
        first | (go_simp; done) | (go_simp; with_reducible rfl)
      rotate_left
      try simp only [Act.put, List.setIfInBounds_toArray, List.set_cons_zero, List.set_cons_succ]
      refine AnyZ.step (i := 15) (o := { dst := none, op := Op.store 27 (Operand.tmp 62) (Operand.tmp 61), type := 0, pos := "ref.go:61", after := #[{ on := 14, ground := Ground.data }, { on := 13, ground := Ground.data }, { on := 13, ground := Ground.chain }, { on := 0, ground := Ground.phase }, { on := 1, ground := Ground.phase }, { on := 2, ground := Ground.phase }, { on := 3, ground := Ground.phase }, { on := 4, ground := Ground.phase }, { on := 5, ground := Ground.phase }, { on := 6, ground := Ground.phase }, { on := 7, ground := Ground.phase }, { on := 8, ground := Ground.phase }, { on := 9, ground := Ground.phase }, { on := 10, ground := Ground.phase }, { on := 11, ground := Ground.phase }, { on := 12, ground := Ground.phase }, { on := 13, ground := Ground.phase }], guard := none }) (by kernel_rfl) rfl (fun K hK => ?_)
      go_simp
      clear hHeld
      refine hK.out _ _ (fun h => absurd rfl h) (fun hHeld => ?_)
      clear hK K
      try simp only [Act.put, List.setIfInBounds_toArray, List.set_cons_zero, List.set_cons_succ]
      refine AnyZ.done (by kernel_rfl) ?_ _
      refine NoPanic.normal ?_
      clear hHeld
      clear ap8 ap9 fz cx
      go_wp2
      refine bodyPost_ret (results_row rtR Try.results50 _ _ _ _ rfl J.out.2.2.2.1 rfl) rfl ?_
      have b34 : Below w.heap.size X9 Y5 := (below_of_grown J.out.2.2.2.2.1 (Nat.le_trans G.out.2.2.2.2.1.size J.out.2.1.size) (fun j e => by cases e; exact Nat.le_refl _)).trans (below_of_grown J.out.2.2.2.2.2 (by have := J.out.2.2.2.2.1.size; have := J.out.2.1.size; have := G.out.2.2.2.2.1.size; omega) (fun j e => by cases e; omega))
      refine ⟨_, rfl, ⟨a9, c9, by rw [← hm.out], ?_, fun x e => by have := G9.out x e; have := G.out.2.2.2.2.2; omega⟩, (below_over G.out.2.2.2.2.1 J.out.2.1).trans b34⟩
      rw [← hm.out]
      refine (J.out.2.2.1.keptBut J.out.2.2.2.2.1 (fun x e => ?_)).keptBut J.out.2.2.2.2.2 (fun x e => ?_)
      · have := G9.out x e
        have := G.out.2.2.2.2.2
        intro e2
        have := Option.some.inj e2
        omega
      · have := G9.out x e
        have := G.out.2.2.2.2.2
        intro e2
        have := Option.some.inj e2
        omega
end Go.Proofs.Ytpbpofmlpbobmaa
