/-
  SyncAll, ReRootAll and Up, and the definition's: their walks, for every tree.
-/
import Derived.Test.YtdlleecfmebenaaEach
namespace Go.Proofs.Ytdlleecfmebenaa
set_option linter.unusedVariables false
set_option maxRecDepth 4000
set_option linter.unusedSimpArgs false
open Go.RowKit

attribute [local go_sem ↓] ldP stP ldT stT apE st32 st4
theorem one_t (w : World) (h : Hd) (x : Value) : ∃ W, w.alloc (.cells (trc h x) 31) = W ∧ RvAt W w.heap.size 31 (trc h x) ∧ Below w.heap.size w W ∧ W.heap.size = w.heap.size + 1 :=
  ⟨_, rfl, RvAt.new w _ _, (Below.refl _ _).alloc (Nat.le_refl _) _, by simp⟩
theorem has_any (h : Hd) (a : Option Addr) (n c : Nat) (i : Int) (w : World) (hn : n ≤ 1000) :
    Calls Try.prog 13 #[.agg (trc h (.slice a n c)), .int .i64 i] w fun r w' => r = .returned (.bool (decide (0 ≤ i) && decide (i < n))) ∧ Below w.heap.size w w' := by
  obtain ⟨W, hW, r0, bW, zW⟩ := one_t w h (.slice a n c)
  have c16 := r0.t16
  have F : Hid (Below w.heap.size w W) := bW
  clear r0 bW zW
  go_enter Try.func13, Try.ntmps13
  by_cases h1 : 0 ≤ i
  · by_cases h2 : i < (n : Int)
    · go_wp2
      go_ret
      exact ⟨by simp [h1, h2], F.out⟩
    · go_wp2
      go_ret
      exact ⟨by simp [h1, h2], F.out⟩
  · go_wp2
    go_ret
    exact ⟨by simp; omega, F.out⟩
set_option maxHeartbeats 4000000 in
theorem sync_any (h : Hd) (a : Option Addr) (n c : Nat) (l : List Pt) (w : World) (hs : SlAt w a n c l) (hn : n ≤ 1000) :
    Calls Try.prog 75 #[.agg (trc h (.slice a n c))] w fun r w' => ∃ v, r = .returned (.agg (trc h v)) ∧ Own w' w.heap.size v (l.map syncP) ∧ Below w.heap.size w w' := by
  obtain ⟨W, hW, r0, r1, bW, zW⟩ := two_t w h (.slice a n c)
  have l0 := r0.tld
  have H : Hid (SlAt W a n c l ∧ n ≤ 1000 ∧ RvAt W (w.heap.size + 1) 31 (trc zeroH (.slice none 0 0)) ∧ Below w.heap.size w W ∧ W.heap.size = w.heap.size + 2) := ⟨hs.below bW, hn, r1, bW, zW⟩
  clear hs hn r0 r1 bW zW
  go_enter Try.func75, Try.ntmps75
  go_wp2_with fail
  refine (each_any 78 syncP chg_sync ent42 h a n c l W H.out.1 H.out.2.1).mono ?_
  rintro _ W2 ⟨v, rfl, o2, b2⟩
  obtain ⟨W3, s3, r3, g3⟩ := (H.out.2.2.1.below b2).tst (g := h) (y := v) o2.one
  have z2 := H.out.2.2.2.2
  have o3 := o2.keptBut g3 (o2.apart (by omega))
  have b3 : Below w.heap.size w W3 := gro (below_over H.out.2.2.2.1 b2) g3 (by omega) (by have := b2.size; omega)
  have F : Hid (RvAt W3 (w.heap.size + 1) 31 (trc h v) ∧ Own W3 w.heap.size v (l.map syncP) ∧ Below w.heap.size w W3) := ⟨r3, o3.base (by omega), b3⟩
  clear b2 g3 l0 o2 o3 z2 b3 r3
  go_wp2
  refine bodyPost_ret (results_row rtT Try.results75 _ _ _ _ rfl F.out.1 (trc_size _ _)) rfl ?_
  exact ⟨v, rfl, F.out.2.1, F.out.2.2⟩
set_option maxHeartbeats 4000000 in
theorem rer_any (h : Hd) (a : Option Addr) (n c : Nat) (l : List Pt) (w : World) (hs : SlAt w a n c l) (hn : n ≤ 1000) :
    Calls Try.prog 72 #[.agg (trc h (.slice a n c))] w fun r w' => ∃ v, r = .returned (.agg (trc h v)) ∧ Own w' w.heap.size v (l.map rerP) ∧ Below w.heap.size w w' := by
  obtain ⟨W, hW, r0, r1, bW, zW⟩ := two_t w h (.slice a n c)
  have l0 := r0.tld
  have H : Hid (SlAt W a n c l ∧ n ≤ 1000 ∧ RvAt W (w.heap.size + 1) 31 (trc zeroH (.slice none 0 0)) ∧ Below w.heap.size w W ∧ W.heap.size = w.heap.size + 2) := ⟨hs.below bW, hn, r1, bW, zW⟩
  clear hs hn r0 r1 bW zW
  go_enter Try.func72, Try.ntmps72
  go_wp2_with fail
  refine (each_any 77 rerP chg_rer ent43 h a n c l W H.out.1 H.out.2.1).mono ?_
  rintro _ W2 ⟨v, rfl, o2, b2⟩
  obtain ⟨W3, s3, r3, g3⟩ := (H.out.2.2.1.below b2).tst (g := h) (y := v) o2.one
  have z2 := H.out.2.2.2.2
  have o3 := o2.keptBut g3 (o2.apart (by omega))
  have b3 : Below w.heap.size w W3 := gro (below_over H.out.2.2.2.1 b2) g3 (by omega) (by have := b2.size; omega)
  have F : Hid (RvAt W3 (w.heap.size + 1) 31 (trc h v) ∧ Own W3 w.heap.size v (l.map rerP) ∧ Below w.heap.size w W3) := ⟨r3, o3.base (by omega), b3⟩
  clear b2 g3 l0 o2 o3 z2 b3 r3
  go_wp2
  refine bodyPost_ret (results_row rtT Try.results72 _ _ _ _ rfl F.out.1 (trc_size _ _)) rfl ?_
  exact ⟨v, rfl, F.out.2.1, F.out.2.2⟩
set_option maxHeartbeats 4000000 in
theorem rsync_any (h : Hd) (a : Option Addr) (n c : Nat) (l : List Pt) (w : World) (hs : SlAt w a n c l) (hn : n ≤ 1000) :
    Calls Try.prog 49 #[.agg (trc h (.slice a n c))] w fun r w' => ∃ v, r = .returned (.agg (trc h v)) ∧ Own w' w.heap.size v (l.map syncP) ∧ Below w.heap.size w w' := by
  obtain ⟨W, hW, r0, r1, bW, zW⟩ := two_t w h (.slice a n c)
  have l0 := r0.tld
  have H : Hid (SlAt W a n c l ∧ n ≤ 1000 ∧ l.length = n ∧ RvAt W w.heap.size 31 (trc h (.slice a n c)) ∧ RvAt W (w.heap.size + 1) 31 (trc zeroH (.slice none 0 0)) ∧ Below w.heap.size w W ∧ W.heap.size = w.heap.size + 2) := ⟨hs.below bW, hn, hs.len, r0, r1, bW, zW⟩
  clear hs hn r0 r1 bW zW
  go_enter Try.func49, Try.ntmps49
  go_wp2_with fail
  refine (rcopy_any h a n c l W H.out.1 H.out.2.1).mono ?_
  rintro _ W2 ⟨v, rfl, o2, b2⟩
  obtain ⟨W3, s3, r3, g3⟩ := (H.out.2.2.2.1.below b2).tst (g := h) (y := v) o2.one
  have z2 := H.out.2.2.2.2.2.2
  have o3 := o2.keptBut g3 (o2.apart (by omega))
  have q3 := (H.out.2.2.2.2.1.below b2).keptBut g3 (by simp)
  have b3 : Below w.heap.size w W3 := gro (below_over H.out.2.2.2.2.2.1 b2) g3 (Nat.le_refl _) (by have := b2.size; omega)
  clear b2 g3 l0
  rcases o3.pat with ⟨rfl, rfl⟩ | ⟨g, cc, rfl, hg, hp⟩
  · have c16 := r3.t16
    obtain ⟨W4, s4, r4, g4⟩ := q3.tst (g := h) (y := .slice none 0 0) rfl
    have l3 := r3.tld
    have G : Hid (RvAt W4 (w.heap.size + 1) 31 (trc h (.slice none 0 0)) ∧ Below w.heap.size w W4) := ⟨r4, gro b3 g4 (by omega) b3.size⟩
    clear r3 q3 b3 r4 g4 o2 o3 z2
    go_wp2_with fail
    go_rounds 1
    refine bodyPost_ret (results_row rtT Try.results49 _ _ _ _ rfl G.out.1 (trc_size _ _)) rfl ?_
    exact ⟨_, rfl, Own.nil _ _, G.out.2⟩
  · have hl := H.out.2.2.1
    have hn1 := H.out.2.1
    have G : Hid (RvAt W3 w.heap.size 31 (trc h (.slice (some ⟨g, 0, none⟩) l.length cc)) ∧ RvAt W3 (w.heap.size + 1) 31 (trc zeroH (.slice none 0 0)) ∧ Below w.heap.size w W3 ∧ PAt W3 g cc l ∧ w.heap.size + 2 ≤ g) := ⟨r3, q3, b3, hp, by omega⟩
    obtain ⟨X, hX⟩ : ∃ X, X = l.length := ⟨_, rfl⟩
    have hx0 : X ≤ 1000 := by omega
    have GX : Hid (X = l.length) := hX
    clear r3 q3 b3 hp hg hl hn1 o2 o3 z2 hX
    go_wp2_with fail
    go_loopw [3] (fun v3 wr => ∃ i : Nat, i ≤ X ∧ v3 = .int .i64 i ∧ PAt wr g cc (mapTo syncP l i) ∧ W3.grownBy wr (some g)) (fun v3 _ => X - (intOf v3).toNat)
    case atStart => exact ⟨0, by omega, rfl, by rw [mapTo_zero]; exact G.out.2.2.2.1, World.grownBy.refl _ _⟩
    case round =>
      obtain ⟨i, hi, rfl, hpi, hgi⟩ := hrel
      have hr := G.out.1.keptBut hgi (by have := G.out.2.2.2.2; simp; omega)
      have c16 := hr.t16
      rw [← GX.out] at c16
      have hin0 : (0 : Int) ≤ (i : Int) := by omega
      by_cases hit : i < X
      · have hin1 : (i : Int) < (X : Int) := by omega
        obtain ⟨V, sV, pV, gV⟩ := hpi.st1 (q := i * 77 + 24) (j := 24) (v := .bool true) (mapTo_at (by rw [← GX.out]; exact hit)) info1.1 (by omega) rfl (fit_bit rfl) rfl
        have pV' : PAt V g cc ((mapTo syncP l i).set i (syncP (gtP l i))) := pV
        rw [mapTo_next (by rw [← GX.out]; exact hit)] at pV'
        have J : Hid (PAt V g cc (mapTo syncP l (i + 1)) ∧ W3.grownBy V (some g)) := ⟨pV', grown_self hgi gV⟩
        clear hpi hgi hr pV pV' gV
        go_wp2
        go_roundw
        case rel => exact ⟨i + 1, by omega, by go_num, J.out.1, J.out.2⟩
        case measure => simp [intOf]; omega
      · have hin : i = X := by omega
        subst hin
        have hin1 : ¬ (i : Int) < (i : Int) := by omega
        have l3 := hr.tld
        have q3 := G.out.2.1.keptBut hgi (by have := G.out.2.2.2.2; simp; omega)
        obtain ⟨W4, s4, r4, g4⟩ := q3.tst (g := h) (y := .slice (some ⟨g, 0, none⟩) l.length cc) rfl
        have pe := hpi.keptBut g4 (by have := G.out.2.2.2.2; simp; omega)
        rw [GX.out, mapTo_all] at pe
        have be : Below w.heap.size w W4 := gro (gro G.out.2.2.1 hgi (by have := G.out.2.2.2.2; omega) G.out.2.2.1.size) g4 (by omega) (by have := G.out.2.2.1.size; have := hgi.size; omega)
        have K : Hid (RvAt W4 (w.heap.size + 1) 31 (trc h (.slice (some ⟨g, 0, none⟩) l.length cc)) ∧ PAt W4 g cc (l.map syncP) ∧ Below w.heap.size w W4) := ⟨r4, pe, be⟩
        clear hpi hgi hr q3 r4 g4 pe be
        go_wp2
        refine bodyPost_ret (results_row rtT Try.results49 _ _ _ _ rfl K.out.1 (trc_size _ _)) rfl ?_
        refine ⟨_, rfl, ?_, K.out.2.2⟩
        have := K.out.2.1.own (B := w.heap.size) (by have := G.out.2.2.2.2; omega)
        rw [List.length_map] at this
        exact this
set_option maxHeartbeats 4000000 in
theorem rrer_any (h : Hd) (a : Option Addr) (n c : Nat) (l : List Pt) (w : World) (hs : SlAt w a n c l) (hn : n ≤ 1000) :
    Calls Try.prog 34 #[.agg (trc h (.slice a n c))] w fun r w' => ∃ v, r = .returned (.agg (trc h v)) ∧ Own w' w.heap.size v (l.map rerP) ∧ Below w.heap.size w w' := by
  obtain ⟨W, hW, r0, r1, bW, zW⟩ := two_t w h (.slice a n c)
  have l0 := r0.tld
  have H : Hid (SlAt W a n c l ∧ n ≤ 1000 ∧ l.length = n ∧ RvAt W w.heap.size 31 (trc h (.slice a n c)) ∧ RvAt W (w.heap.size + 1) 31 (trc zeroH (.slice none 0 0)) ∧ Below w.heap.size w W ∧ W.heap.size = w.heap.size + 2) := ⟨hs.below bW, hn, hs.len, r0, r1, bW, zW⟩
  clear hs hn r0 r1 bW zW
  go_enter Try.func34, Try.ntmps34
  go_wp2_with fail
  refine (rcopy_any h a n c l W H.out.1 H.out.2.1).mono ?_
  rintro _ W2 ⟨v, rfl, o2, b2⟩
  obtain ⟨W3, s3, r3, g3⟩ := (H.out.2.2.2.1.below b2).tst (g := h) (y := v) o2.one
  have z2 := H.out.2.2.2.2.2.2
  have o3 := o2.keptBut g3 (o2.apart (by omega))
  have q3 := (H.out.2.2.2.2.1.below b2).keptBut g3 (by simp)
  have b3 : Below w.heap.size w W3 := gro (below_over H.out.2.2.2.2.2.1 b2) g3 (Nat.le_refl _) (by have := b2.size; omega)
  clear b2 g3 l0
  rcases o3.pat with ⟨rfl, rfl⟩ | ⟨g, cc, rfl, hg, hp⟩
  · have c16 := r3.t16
    obtain ⟨W4, s4, r4, g4⟩ := q3.tst (g := h) (y := .slice none 0 0) rfl
    have l3 := r3.tld
    have G : Hid (RvAt W4 (w.heap.size + 1) 31 (trc h (.slice none 0 0)) ∧ Below w.heap.size w W4) := ⟨r4, gro b3 g4 (by omega) b3.size⟩
    clear r3 q3 b3 r4 g4 o2 o3 z2
    go_wp2_with fail
    go_rounds 1
    refine bodyPost_ret (results_row rtT Try.results34 _ _ _ _ rfl G.out.1 (trc_size _ _)) rfl ?_
    exact ⟨_, rfl, Own.nil _ _, G.out.2⟩
  · have hl := H.out.2.2.1
    have hn1 := H.out.2.1
    have G : Hid (RvAt W3 w.heap.size 31 (trc h (.slice (some ⟨g, 0, none⟩) l.length cc)) ∧ RvAt W3 (w.heap.size + 1) 31 (trc zeroH (.slice none 0 0)) ∧ Below w.heap.size w W3 ∧ PAt W3 g cc l ∧ w.heap.size + 2 ≤ g) := ⟨r3, q3, b3, hp, by omega⟩
    obtain ⟨X, hX⟩ : ∃ X, X = l.length := ⟨_, rfl⟩
    have hx0 : X ≤ 1000 := by omega
    have GX : Hid (X = l.length) := hX
    clear r3 q3 b3 hp hg hl hn1 o2 o3 z2 hX
    go_wp2_with fail
    go_loopw [3] (fun v3 wr => ∃ i : Nat, i ≤ X ∧ v3 = .int .i64 i ∧ PAt wr g cc (mapTo rerP l i) ∧ W3.grownBy wr (some g)) (fun v3 _ => X - (intOf v3).toNat)
    case atStart => exact ⟨0, by omega, rfl, by rw [mapTo_zero]; exact G.out.2.2.2.1, World.grownBy.refl _ _⟩
    case round =>
      obtain ⟨i, hi, rfl, hpi, hgi⟩ := hrel
      have hr := G.out.1.keptBut hgi (by have := G.out.2.2.2.2; simp; omega)
      have c16 := hr.t16
      rw [← GX.out] at c16
      have hin0 : (0 : Int) ≤ (i : Int) := by omega
      by_cases hit : i < X
      · have hin1 : (i : Int) < (X : Int) := by omega
        obtain ⟨V, sV, pV, gV⟩ := hpi.st1 (q := i * 77 + 20) (j := 20) (v := .bool true) (mapTo_at (by rw [← GX.out]; exact hit)) info1.1 (by omega) rfl (fit_bit rfl) rfl
        have pV' : PAt V g cc ((mapTo rerP l i).set i (rerP (gtP l i))) := pV
        rw [mapTo_next (by rw [← GX.out]; exact hit)] at pV'
        have J : Hid (PAt V g cc (mapTo rerP l (i + 1)) ∧ W3.grownBy V (some g)) := ⟨pV', grown_self hgi gV⟩
        clear hpi hgi hr pV pV' gV
        go_wp2
        go_roundw
        case rel => exact ⟨i + 1, by omega, by go_num, J.out.1, J.out.2⟩
        case measure => simp [intOf]; omega
      · have hin : i = X := by omega
        subst hin
        have hin1 : ¬ (i : Int) < (i : Int) := by omega
        have l3 := hr.tld
        have q3 := G.out.2.1.keptBut hgi (by have := G.out.2.2.2.2; simp; omega)
        obtain ⟨W4, s4, r4, g4⟩ := q3.tst (g := h) (y := .slice (some ⟨g, 0, none⟩) l.length cc) rfl
        have pe := hpi.keptBut g4 (by have := G.out.2.2.2.2; simp; omega)
        rw [GX.out, mapTo_all] at pe
        have be : Below w.heap.size w W4 := gro (gro G.out.2.2.1 hgi (by have := G.out.2.2.2.2; omega) G.out.2.2.1.size) g4 (by omega) (by have := G.out.2.2.1.size; have := hgi.size; omega)
        have K : Hid (RvAt W4 (w.heap.size + 1) 31 (trc h (.slice (some ⟨g, 0, none⟩) l.length cc)) ∧ PAt W4 g cc (l.map rerP) ∧ Below w.heap.size w W4) := ⟨r4, pe, be⟩
        clear hpi hgi hr q3 r4 g4 pe be
        go_wp2
        refine bodyPost_ret (results_row rtT Try.results34 _ _ _ _ rfl K.out.1 (trc_size _ _)) rfl ?_
        refine ⟨_, rfl, ?_, K.out.2.2⟩
        have := K.out.2.1.own (B := w.heap.size) (by have := G.out.2.2.2.2; omega)
        rw [List.length_map] at this
        exact this
end Go.Proofs.Ytdlleecfmebenaa
