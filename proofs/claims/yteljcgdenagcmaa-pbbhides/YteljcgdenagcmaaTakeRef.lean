/-
  The walk of taking a tag by definition, for all bytes.
-/
import Derived.Test.YteljcgdenagcmaaTake
namespace Go.Proofs.Yteljcgdenagcmaa
set_option linter.unusedVariables false
open Go.RowKit

attribute [local go_sem ↓] slS_eq

set_option maxHeartbeats 400000 in
theorem takeref_short (a : Option Addr) (n c : Nat) (l : List Int) (w : World) (h : Src w (.slice a n c) l) (hs : l.length < 2) :
    Calls Try.prog 42 #[.slice a n c] w fun r w' => TkOut w l r w' := by
  obtain ⟨hn, hc, hm⟩ := src_short h
  clear h
  have hn2 : n < 2 := by omega
  have hn3 : (n : Int) < 2 := by omega
  have hE : Hid (tkE l = 6) := by unfold tkE; rw [if_pos hs]; rfl
  clear hn hs
  go_enter Try.func42, Try.ntmps42
  go_wp2
  go_returns
  exact tk_out_err 6 hE.out (by decide) (by go_grown)

theorem own_empty (W : World) (B : Nat) (hB : B ≤ W.heap.size) : Own (W.alloc (.cells #[] 5)) B (.slice (some ⟨W.heap.size, 0, none⟩) 0 0) [] := own_new W [] _ _ #[] rfl rfl hB (by simp)

set_option maxHeartbeats 800000 in
theorem takeref_long (b o n c N : Nat) (l : List Int) (w : World) (h : Src w (.slice (some ⟨b, o, none⟩) n c) l) (h2 : 2 ≤ l.length) (hl : l.length ≤ 2000) (hN : N < 65536) (x0 x1 : Int) (hx0 : 0 ≤ x0 ∧ x0 ≤ 255) (hx1 : 0 ≤ x1 ∧ x1 ≤ 255) (hx : x0 * 256 + x1 = N)
    (hr0 : w.cell? ⟨b, o, none⟩ = some (.int .u8 x0)) (hr1 : w.cell? ⟨b, o + 1, none⟩ = some (.int .u8 x1))
    (hE : tagOk ((N : Int) / 8192) ((N : Int) % 4096) = false → tkE l = 20)
    (hY : tagOk ((N : Int) / 8192) ((N : Int) % 4096) = true → tkE l = 0 ∧ tkP l = ((N : Int) / 8192) ∧ tkD l = ((N : Int) / 4096 % 2 == 1) ∧ tkV l = ((N : Int) % 4096)) :
    Calls Try.prog 42 #[.slice (some ⟨b, o, none⟩) n c] w fun r w' => TkOut w l r w' := by
  obtain ⟨hn, hc, hm⟩ := src_short h
  have hbw : b < w.heap.size := World.block_lt_of_cell? _ _ hr0
  have hn2 : 2 ≤ n := by omega
  have hn4 : n ≤ 2000 := by omega
  have hn3 : ¬ (n : Int) < 2 := by omega
  have i0 : (0 : Int) < (n : Int) := by omega
  have i1 : (1 : Int) < (n : Int) := by omega
  have hH : Hid (Src w (.slice (some ⟨b, o, none⟩) n c) l) := h
  have hlL : l.length ≤ 2002 := by omega
  clear h hn h2 hl
  go_enter Try.func42, Try.ntmps42
  go_wp2
  go_quiet (fail)
  go_wp2_with fail
  by_cases hk : tagOk ((N : Int) / 8192) ((N : Int) % 4096) = true
  · refine Calls.on_later (is_any _ _ _ _) ?_
    intro y
    have By : Hid (Below w.heap.size w y.val) := below_later ((below_dn ((Below.refl _ _).alloc (Nat.le_refl _) _) nq).alloc (by simp) _) y
    have t2 : y.val.heap[w.heap.size]? = some (.cells #[.int .i64 0, .bool false, .int .i64 0] 25 (0, 0)) := by
      rw [y.below.block _ (by simp; omega), Below.heap_alloc _ _ _ (by simp)]
      exact alloc_at w _
    have t5 : y.val.heap[w.heap.size + 1]? = some (.cells #[.int .i64 ((N : Int) / 8192), .bool ((N : Int) / 4096 % 2 == 1), .int .i64 ((N : Int) % 4096)] 25 (0, 0)) := by
      rw [y.below.block _ (by simp)]
      have := alloc_at ((w.alloc (.cells #[.int .i64 0, .bool false, .int .i64 0] 25)).drewN nq) (.cells #[.int .i64 ((N : Int) / 8192), .bool ((N : Int) / 4096 % 2 == 1), .int .i64 ((N : Int) % 4096)] 25)
      simpa using this
    obtain ⟨Wy, hWy⟩ : ∃ Wy, y.val = Wy := ⟨_, rfl⟩
    rw [hWy] at t2 t5 By ⊢
    clear hWy y
    have t50 := cell3_0 t5
    have t51 := cell3_1 t5
    have t52 := cell3_2 t5
    have c20 := cell3_0 t2
    have c21 := cell3_1 t2
    have c22 := cell3_2 t2
    have f2 := frozen3 t2
    have s0 := set3_0 t2
    have s1 := set3_1 t2
    have s2 := set3_2 t2
    have hD : Hid (∀ W, Below Wy.heap.size Wy W → Src W (dropV b o n c 2) (l.drop 2)) := fun W hW => (src_dropV (hH.out.below By.out) 2 hn2).below hW
    have hO : Hid (Own (Wy.alloc (.cells #[] 5)).drew Wy.heap.size (.slice (some ⟨Wy.heap.size, 0, none⟩) 0 0) []) := own_empty Wy _ (Nat.le_refl _)
    have hA : Hid (Below Wy.heap.size Wy (Wy.alloc (.cells #[] 5)).drew) := ((Below.refl _ _).alloc (Nat.le_refl _) _).drew
    have hB0 := hA.out.size
    have hlD' : ([] : List Int).length + (l.drop 2).length ≤ 100000 := by simp; omega
    have hsl : ∀ W, (slS (.slice (some ⟨b, o, none⟩) n c) (some (.int .i64 2)) none none).run Try.prog W = .ok (dropV b o n c 2) W := fun W => slS_drop b o n c 2 hn2 hc hm W
    have hlt := lt_of_block t2
    have hlt5 := lt_of_block t5
    clear t5
    go_wp2
    go_region_held3 (fun w' => w'.cell? ⟨w.heap.size + 1, 0, none⟩ = some (.int .i64 ((N : Int) / 8192)) ∧ w'.cell? ⟨w.heap.size + 1, 1, none⟩ = some (.bool ((N : Int) / 4096 % 2 == 1)) ∧ w'.cell? ⟨w.heap.size + 1, 2, none⟩ = some (.int .i64 ((N : Int) % 4096))) (go_keep) ((refine step_app (by rfl) _ _ (by rfl) (by rfl) (by rfl) hO.out (hD.out _ hA.out) hlD' hB0 ?_; intro s7 w7 ho7 hg7 hat7; have hb7 := hA.out.trans ((grown_below hO.out hg7 hB0).mono (Nat.le_refl _)); have t7 := (hb7.block _ hlt).trans t2; have k0 := (hb7.cell (p := ⟨w.heap.size + 1, 0, none⟩) hlt5).trans t50; have k1 := (hb7.cell (p := ⟨w.heap.size + 1, 1, none⟩) hlt5).trans t51; have k2 := (hb7.cell (p := ⟨w.heap.size + 1, 2, none⟩) hlt5).trans t52; have d0 := cell3_0 t7; have d1 := cell3_1 t7; have d2 := cell3_2 t7; have f7 := frozen3 t7))
    have r0 := set3_0 t7
    have r1 := set3_1 t7
    have r2 := set3_2 t7
    have HO : Hid (Own w7 Wy.heap.size s7 (l.drop 2)) := ho7
    have HB : Hid (Below w.heap.size w w7) := By.out.trans (hb7.mono (Nat.le_of_lt hlt))
    clear ho7 hg7 hat7 hb7 d0 d1 d2 f7 k0 k1 k2 t7 hD hsl
    go_wp2
    refine bodyPost_ret (v := .tuple #[.agg #[.int .i64 ((N : Int) / 8192), .bool ((N : Int) / 4096 % 2 == 1), .int .i64 ((N : Int) % 4096)], s7, .int .i64 0]) (by simp [results, Try.results42, go_sem, r0, r1, r2]) rfl ?_
    obtain ⟨y1, y2, y3, y4⟩ := hY hk
    refine ⟨s7, by rw [y1, y2, y3, y4], ?_, ((HB.out.setCell (by simp) _).setCell (by simp) _).setCell (by simp) _⟩
    have e : tkR l = l.drop 2 := by unfold tkR; rw [if_pos y1]
    rw [e]
    exact Own.base (ownsRow_setCell_below (ownsRow_setCell_below (ownsRow_setCell_below HO.out (by simpa using hlt) _) (by simpa using hlt) _) (by simpa using hlt) _) (Nat.le_of_lt hlt)
  · have hk' : tagOk ((N : Int) / 8192) ((N : Int) % 4096) = false := by simpa using hk
    clear hk
    refine Calls.on_later (is_any _ _ _ _) ?_
    intro y
    have By : Hid (Below w.heap.size w y.val) := below_later ((below_dn ((Below.refl _ _).alloc (Nat.le_refl _) _) nq).alloc (by simp) _) y
    have t2 : y.val.heap[w.heap.size]? = some (.cells #[.int .i64 0, .bool false, .int .i64 0] 25 (0, 0)) := by
      rw [y.below.block _ (by simp; omega), Below.heap_alloc _ _ _ (by simp)]
      exact alloc_at w _
    have t5 : y.val.heap[w.heap.size + 1]? = some (.cells #[.int .i64 ((N : Int) / 8192), .bool ((N : Int) / 4096 % 2 == 1), .int .i64 ((N : Int) % 4096)] 25 (0, 0)) := by
      rw [y.below.block _ (by simp)]
      have := alloc_at ((w.alloc (.cells #[.int .i64 0, .bool false, .int .i64 0] 25)).drewN nq) (.cells #[.int .i64 ((N : Int) / 8192), .bool ((N : Int) / 4096 % 2 == 1), .int .i64 ((N : Int) % 4096)] 25)
      simpa using this
    obtain ⟨Wy, hWy⟩ : ∃ Wy, y.val = Wy := ⟨_, rfl⟩
    rw [hWy] at t2 t5 By ⊢
    clear hWy y
    have t50 := cell3_0 t5
    have t51 := cell3_1 t5
    have t52 := cell3_2 t5
    have c20 := cell3_0 t2
    have c21 := cell3_1 t2
    have c22 := cell3_2 t2
    have f2 := frozen3 t2
    have s0 := set3_0 t2
    have s1 := set3_1 t2
    have s2 := set3_2 t2
    go_wp2
    refine bodyPost_ret (v := .tuple #[.agg #[.int .i64 0, .bool false, .int .i64 0], .slice none 0 0, .int .i64 20]) (by simp [results, Try.results42, go_sem, s0, s1, s2]) rfl ?_
    refine tk_out_err 20 (hE hk') (by decide) ?_
    exact ((By.out.setCell (by simp) _).setCell (by simp) _).setCell (by simp) _

theorem takeref_any (a : Option Addr) (n c : Nat) (l : List Int) (w : World) (h : Src w (.slice a n c) l) (hl : l.length ≤ 2000) (hb : ∀ x ∈ l, 0 ≤ x ∧ x ≤ 255) :
    Calls Try.prog 42 #[.slice a n c] w fun r w' => TkOut w l r w' := by
  by_cases h2 : l.length < 2
  · exact takeref_short a n c l w h h2
  · obtain ⟨b, o, rfl, _, hj⟩ := src_some h (by omega)
    obtain ⟨N, hN, hN2, hby⟩ := two_bytes (by omega) hb
    have hx0 : 0 ≤ l.getD 0 0 ∧ l.getD 0 0 ≤ 255 := by
      have := byN_bd 2 N 0
      rw [hby 0 (by omega)] at this
      omega
    have hx1 : 0 ≤ l.getD 1 0 ∧ l.getD 1 0 ≤ 255 := by
      have := byN_bd 2 N 1
      rw [hby 1 (by omega)] at this
      omega
    refine takeref_long b o n c N l w h (by omega) hl hN2 (l.getD 0 0) (l.getD 1 0) hx0 hx1 hN (hj 0 (by omega)) (hj 1 (by omega)) ?_ ?_
    · intro hk
      rw [← hN] at hk
      unfold tkE
      rw [if_neg h2, hk]
      rfl
    · intro hk
      rw [← hN] at hk
      have h0 : tkE l = 0 := by unfold tkE; rw [if_neg h2, hk]; rfl
      unfold tkP tkD tkV
      rw [h0, ← hN]
      exact ⟨rfl, if_pos rfl, if_pos rfl, if_pos rfl⟩
end Go.Proofs.Yteljcgdenagcmaa
