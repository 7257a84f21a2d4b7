/-
  A tree one of whose ports is changed by functions: the walks of there and of put, for every tree.
-/
import Derived.Test.YtllmadgonobdnaaDee
import Derived.Test.YtllmadgonobdnaaSym
namespace Go.Proofs.Ytllmadgonobdnaa
set_option linter.unusedVariables false
set_option maxRecDepth 4000
set_option linter.unusedSimpArgs false
open Go.RowKit

attribute [local go_sem ↓] ldP stP stB stU stW ldT stT st32
theorem there_any (h : Hd) (a : Option Addr) (n c : Nat) (i : Int) (w : World) :
    Calls Try.prog 22 #[.agg (trc h (.slice a n c)), .int .i64 i] w fun r w' => r = .returned (.bool (decide (0 ≤ i) && decide (i < n))) ∧ Below w.heap.size w w' := by
  obtain ⟨W, hW, r0, bW, zW⟩ := one_t w h (.slice a n c)
  have c16 := r0.t16
  have F : Hid (Below w.heap.size w W) := bW
  clear r0 bW zW
  go_enter Try.func22, Try.ntmps22
  by_cases h1 : 0 ≤ i
  · by_cases h2 : i < (n : Int)
    · go_wp2
      go_ret
      exact ⟨by simp [h1, h2], F.out⟩
    · go_wp2
      go_ret
      exact ⟨by simp [h1, h2], F.out⟩
  · go_wp2
    go_ret
    exact ⟨by simp; omega, F.out⟩
theorem there_in {h : Hd} {a : Option Addr} {n c k : Nat} {w : World} (hk : k < n) :
    Calls Try.prog 22 #[.agg (trc h (.slice a n c)), .int .i64 (k : Int)] w fun r w' => r = .returned (.bool true) ∧ Below w.heap.size w w' :=
  (there_any h a n c k w).mono fun r w' ⟨hr, hb⟩ => ⟨by rw [hr]; simp; omega, hb⟩
theorem there_out {h : Hd} {a : Option Addr} {n c : Nat} {i : Int} {w : World} (hk : ¬ (0 ≤ i ∧ i < n)) :
    Calls Try.prog 22 #[.agg (trc h (.slice a n c)), .int .i64 i] w fun r w' => r = .returned (.bool false) ∧ Below w.heap.size w w' :=
  (there_any h a n c i w).mono fun r w' ⟨hr, hb⟩ => ⟨by rw [hr]; simp; omega, hb⟩
/-- A function as a value. -/
abbrev fv (F : Nat) : Value := .func (.func F) #[] #[]
theorem ent_wait : ∀ (x : Value) (V : World), (callFunc 25 #[x]).run Try.prog V = .ok (.enter 25 #[x]) V := fun x V => by go_simp
theorem ent_begin : ∀ (x : Value) (V : World), (callFunc 24 #[x]).run Try.prog V = .ok (.enter 24 #[x]) V := fun x V => by go_simp
theorem ent_remind : ∀ (x : Value) (V : World), (callFunc 26 #[x]).run Try.prog V = .ok (.enter 26 #[x]) V := fun x V => by go_simp
theorem ent_check : ∀ (x : Value) (V : World), (callFunc 41 #[x]).run Try.prog V = .ok (.enter 41 #[x]) V := fun x V => by go_simp
theorem ent_sense : ∀ (x : Value) (V : World), (callFunc 42 #[x]).run Try.prog V = .ok (.enter 42 #[x]) V := fun x V => by go_simp
theorem ent_fallBack : ∀ (x : Value) (V : World), (callFunc 43 #[x]).run Try.prog V = .ok (.enter 43 #[x]) V := fun x V => by go_simp
/-- A tree that is told: its ports, new ones. -/
abbrev TRes (w : World) (h : Hd) (n : Nat) (L : List Pt) (r : Ending) (w' : World) : Prop := ∃ a' c', r = .returned (.agg (trc h (.slice a' n c'))) ∧ SlAt w' a' n c' L ∧ Below w.heap.size w w'
/-- The row of functions that put is handed. -/
abbrev FnAt (w : World) (b : Nat) (cs : Array Value) : Prop := RvAt w b 58 cs
set_option maxHeartbeats 4000000 in
theorem put1_new (F : Nat) (f : Pt → Pt) (hF : Chg F f) (hc : ∀ (x : Value) (V : World), (callFunc F #[x]).run Try.prog V = .ok (.enter F #[x]) V) (h : Hd) (a : Option Addr) (n c : Nat) (l : List Pt) (k : Nat) (b : Nat) (w : World) (hs : SlAt w a n c l) (hn : n ≤ 1000) (hk : k < n) (hv : FnAt w b #[fv F]) :
    Calls Try.prog 23 #[.agg (trc h (.slice a n c)), .int .i64 (k : Int), .slice (some ⟨b, 0, none⟩) 1 1] w fun r w' => ∃ g c', r = .returned (.agg (trc h (.slice (some ⟨g, 0, none⟩) n c'))) ∧ w.heap.size ≤ g ∧ SlAt w' (some ⟨g, 0, none⟩) n c' (l.set k (f (gtP l k))) ∧ Below w.heap.size w w' := by
  obtain ⟨W, hW, r0, r1, bW, zW⟩ := two_t w h (.slice a n c)
  have l0 := r0.tld
  have H : Hid (SlAt W a n c l ∧ n ≤ 1000 ∧ l.length = n ∧ RvAt W w.heap.size 31 (trc h (.slice a n c)) ∧ RvAt W (w.heap.size + 1) 31 (trc zeroH (.slice none 0 0)) ∧ Below w.heap.size w W ∧ W.heap.size = w.heap.size + 2) := ⟨hs.below bW, hn, hs.len, r0, r1, bW, zW⟩
  have HV : Hid (FnAt W b #[fv F] ∧ b < w.heap.size) := ⟨hv.below bW, hv.lt⟩
  clear hs hn r0 r1 bW zW hv
  go_enter Try.func23, Try.ntmps23
  go_wp2_with fail
  refine (copy_any h a n c l W H.out.1 H.out.2.1).mono ?_
  rintro _ W2 ⟨v, rfl, o2, b2⟩
  have z2 := H.out.2.2.2.2.2.2
  have hl := H.out.2.2.1
  have hb := HV.out.2
  obtain ⟨W3, s3, r3, g3⟩ := (H.out.2.2.2.1.below b2).tst (g := h) (y := v) o2.one
  have o3 := o2.keptBut g3 (o2.apart (by omega))
  have q3 := (H.out.2.2.2.2.1.below b2).keptBut g3 (by simp)
  have v3 := (HV.out.1.below b2).keptBut g3 (by simp; omega)
  have b3 : Below w.heap.size w W3 := gro (below_over H.out.2.2.2.2.2.1 b2) g3 (Nat.le_refl _) (by have := b2.size; omega)
  have hin0 : (0 : Int) ≤ (k : Int) := by omega
  have hin1 : (k : Int) < (n : Int) := by omega
  clear b2 g3 o2 l0 hW
  rcases o3.pat with ⟨hv, hle⟩ | ⟨g, cc, hv, hg, hp⟩
  · rw [hle] at hl; simp at hl; omega
  · rw [hl] at hv
    subst hv
    have hkl : k < l.length := by rw [hl]; exact hk
    have K0 : Hid (RvAt W3 w.heap.size 31 (trc h (.slice (some ⟨g, 0, none⟩) n cc)) ∧ RvAt W3 (w.heap.size + 1) 31 (trc zeroH (.slice none 0 0)) ∧ Below w.heap.size w W3 ∧ PAt W3 g cc l ∧ FnAt W3 b #[fv F]) := ⟨r3, q3, b3, hp, v3⟩
    have KK : Hid (w.heap.size + 2 ≤ g ∧ b < w.heap.size ∧ l.length = n ∧ k < l.length) := ⟨by omega, hb, hl, hkl⟩
    clear hp hg r3 q3 b3 o3 hl z2 hk hkl hb v3
    have c16 := K0.out.1.t16
    have f0 := K0.out.2.2.2.2.cell 0 _ rfl
    go_wp2_with fail
    refine wp_loop_rounds 2 ?_
    rw [rounds_succ]
    go_wp2_with fail
    refine (hF W3 g cc k (k * 77) l (gtP l k) K0.out.2.2.2.1 (gtP_at KK.out.2.2.2) rfl).mono ?_
    rintro _ X0 ⟨rfl, p1, g1⟩
    have hg := KK.out.1
    have hb := KK.out.2.1
    have K1 : Hid (RvAt X0 w.heap.size 31 (trc h (.slice (some ⟨g, 0, none⟩) n cc)) ∧ RvAt X0 (w.heap.size + 1) 31 (trc zeroH (.slice none 0 0)) ∧ Below w.heap.size w X0 ∧ PAt X0 g cc (l.set k (f (gtP l k))) ∧ FnAt X0 b #[fv F]) := ⟨K0.out.1.keptBut g1 (by simp; omega), K0.out.2.1.keptBut g1 (by simp; omega), gro K0.out.2.2.1 g1 (by omega) K0.out.2.2.1.size, p1, K0.out.2.2.2.2.keptBut g1 (by simp; omega)⟩
    clear p1 g1 hg hb c16 f0
    have c16 := K1.out.1.t16
    have f0 := K1.out.2.2.2.2.cell 0 _ rfl
    have l9 := K1.out.1.tld
    have hg := KK.out.1
    obtain ⟨U, s6, r6, g6⟩ := K1.out.2.1.tst (g := h) (y := .slice (some ⟨g, 0, none⟩) n cc) rfl
    have p6 := (K1.out.2.2.2.1.keptBut g6 (by simp; omega)).sl
    rw [List.length_set, KK.out.2.2.1] at p6
    have G : Hid (RvAt U (w.heap.size + 1) 31 (trc h (.slice (some ⟨g, 0, none⟩) n cc)) ∧ SlAt U (some ⟨g, 0, none⟩) n cc (l.set k (f (gtP l k))) ∧ Below w.heap.size w U) := ⟨r6, p6, gro K1.out.2.2.1 g6 (by omega) K1.out.2.2.1.size⟩
    clear r6 p6 g6 hg c16
    go_wp2_with fail
    rw [rounds_succ]
    go_wp2
    refine bodyPost_ret (results_row rtT Try.results23 _ _ _ _ rfl G.out.1 (trc_size _ _)) rfl ?_
    exact ⟨g, cc, rfl, by have := KK.out.1; omega, G.out.2⟩
set_option maxHeartbeats 4000000 in
theorem put2_any (F : Nat) (f : Pt → Pt) (hF : Chg F f) (hc : ∀ (x : Value) (V : World), (callFunc F #[x]).run Try.prog V = .ok (.enter F #[x]) V) (h : Hd) (a : Option Addr) (n c : Nat) (l : List Pt) (k : Nat) (b : Nat) (w : World) (hs : SlAt w a n c l) (hn : n ≤ 1000) (hk : k < n) (hv : FnAt w b #[fv F, fv 25]) :
    Calls Try.prog 23 #[.agg (trc h (.slice a n c)), .int .i64 (k : Int), .slice (some ⟨b, 0, none⟩) 2 2] w fun r w' => TRes w h n (l.set k (waiP (f (gtP l k)))) r w' := by
  obtain ⟨W, hW, r0, r1, bW, zW⟩ := two_t w h (.slice a n c)
  have l0 := r0.tld
  have H : Hid (SlAt W a n c l ∧ n ≤ 1000 ∧ l.length = n ∧ RvAt W w.heap.size 31 (trc h (.slice a n c)) ∧ RvAt W (w.heap.size + 1) 31 (trc zeroH (.slice none 0 0)) ∧ Below w.heap.size w W ∧ W.heap.size = w.heap.size + 2) := ⟨hs.below bW, hn, hs.len, r0, r1, bW, zW⟩
  have HV : Hid (FnAt W b #[fv F, fv 25] ∧ b < w.heap.size) := ⟨hv.below bW, hv.lt⟩
  clear hs hn r0 r1 bW zW hv
  go_enter Try.func23, Try.ntmps23
  go_wp2_with fail
  refine (copy_any h a n c l W H.out.1 H.out.2.1).mono ?_
  rintro _ W2 ⟨v, rfl, o2, b2⟩
  have z2 := H.out.2.2.2.2.2.2
  have hl := H.out.2.2.1
  have hb := HV.out.2
  obtain ⟨W3, s3, r3, g3⟩ := (H.out.2.2.2.1.below b2).tst (g := h) (y := v) o2.one
  have o3 := o2.keptBut g3 (o2.apart (by omega))
  have q3 := (H.out.2.2.2.2.1.below b2).keptBut g3 (by simp)
  have v3 := (HV.out.1.below b2).keptBut g3 (by simp; omega)
  have b3 : Below w.heap.size w W3 := gro (below_over H.out.2.2.2.2.2.1 b2) g3 (Nat.le_refl _) (by have := b2.size; omega)
  have hin0 : (0 : Int) ≤ (k : Int) := by omega
  have hin1 : (k : Int) < (n : Int) := by omega
  clear b2 g3 o2 l0 hW
  rcases o3.pat with ⟨hv, hle⟩ | ⟨g, cc, hv, hg, hp⟩
  · rw [hle] at hl; simp at hl; omega
  · rw [hl] at hv
    subst hv
    have hkl : k < l.length := by rw [hl]; exact hk
    have K0 : Hid (RvAt W3 w.heap.size 31 (trc h (.slice (some ⟨g, 0, none⟩) n cc)) ∧ RvAt W3 (w.heap.size + 1) 31 (trc zeroH (.slice none 0 0)) ∧ Below w.heap.size w W3 ∧ PAt W3 g cc l ∧ FnAt W3 b #[fv F, fv 25]) := ⟨r3, q3, b3, hp, v3⟩
    have KK : Hid (w.heap.size + 2 ≤ g ∧ b < w.heap.size ∧ l.length = n ∧ k < l.length) := ⟨by omega, hb, hl, hkl⟩
    clear hp hg r3 q3 b3 o3 hl z2 hk hkl hb v3
    have c16 := K0.out.1.t16
    have f0 := K0.out.2.2.2.2.cell 0 _ rfl
    have f1 := K0.out.2.2.2.2.cell 1 _ rfl
    go_wp2_with fail
    refine wp_loop_rounds 3 ?_
    rw [rounds_succ]
    go_wp2_with fail
    refine (hF W3 g cc k (k * 77) l (gtP l k) K0.out.2.2.2.1 (gtP_at KK.out.2.2.2) rfl).mono ?_
    rintro _ X0 ⟨rfl, p1, g1⟩
    have hg := KK.out.1
    have hb := KK.out.2.1
    have K1 : Hid (RvAt X0 w.heap.size 31 (trc h (.slice (some ⟨g, 0, none⟩) n cc)) ∧ RvAt X0 (w.heap.size + 1) 31 (trc zeroH (.slice none 0 0)) ∧ Below w.heap.size w X0 ∧ PAt X0 g cc (l.set k (f (gtP l k))) ∧ FnAt X0 b #[fv F, fv 25]) := ⟨K0.out.1.keptBut g1 (by simp; omega), K0.out.2.1.keptBut g1 (by simp; omega), gro K0.out.2.2.1 g1 (by omega) K0.out.2.2.1.size, p1, K0.out.2.2.2.2.keptBut g1 (by simp; omega)⟩
    clear p1 g1 hg hb c16 f0 f1
    have c16 := K1.out.1.t16
    have f0 := K1.out.2.2.2.2.cell 0 _ rfl
    have f1 := K1.out.2.2.2.2.cell 1 _ rfl
    go_wp2_with fail
    rw [rounds_succ]
    go_wp2_with fail
    refine (chg_wait X0 g cc k (k * 77) (l.set k (f (gtP l k))) (f (gtP l k)) K1.out.2.2.2.1 (gtP_set KK.out.2.2.2) rfl).mono ?_
    rintro _ X1 ⟨rfl, p2, g2⟩
    have hg := KK.out.1
    have hb := KK.out.2.1
    rw [List.set_set] at p2
    have K2 : Hid (RvAt X1 w.heap.size 31 (trc h (.slice (some ⟨g, 0, none⟩) n cc)) ∧ RvAt X1 (w.heap.size + 1) 31 (trc zeroH (.slice none 0 0)) ∧ Below w.heap.size w X1 ∧ PAt X1 g cc (l.set k (waiP (f (gtP l k)))) ∧ FnAt X1 b #[fv F, fv 25]) := ⟨K1.out.1.keptBut g2 (by simp; omega), K1.out.2.1.keptBut g2 (by simp; omega), gro K1.out.2.2.1 g2 (by omega) K1.out.2.2.1.size, p2, K1.out.2.2.2.2.keptBut g2 (by simp; omega)⟩
    clear p2 g2 hg hb c16 f0 f1
    have c16 := K2.out.1.t16
    have f0 := K2.out.2.2.2.2.cell 0 _ rfl
    have f1 := K2.out.2.2.2.2.cell 1 _ rfl
    have l9 := K2.out.1.tld
    have hg := KK.out.1
    obtain ⟨U, s6, r6, g6⟩ := K2.out.2.1.tst (g := h) (y := .slice (some ⟨g, 0, none⟩) n cc) rfl
    have p6 := (K2.out.2.2.2.1.keptBut g6 (by simp; omega)).sl
    rw [List.length_set, KK.out.2.2.1] at p6
    have G : Hid (RvAt U (w.heap.size + 1) 31 (trc h (.slice (some ⟨g, 0, none⟩) n cc)) ∧ SlAt U (some ⟨g, 0, none⟩) n cc (l.set k (waiP (f (gtP l k)))) ∧ Below w.heap.size w U) := ⟨r6, p6, gro K2.out.2.2.1 g6 (by omega) K2.out.2.2.1.size⟩
    clear r6 p6 g6 hg c16
    go_wp2_with fail
    rw [rounds_succ]
    go_wp2
    refine bodyPost_ret (results_row rtT Try.results23 _ _ _ _ rfl G.out.1 (trc_size _ _)) rfl ?_
    exact ⟨some ⟨g, 0, none⟩, cc, rfl, G.out.2⟩
set_option maxHeartbeats 4000000 in
theorem put2c_any (h : Hd) (a : Option Addr) (n c : Nat) (l : List Pt) (k : Nat) (b : Nat) (w : World) (hs : SlAt w a n c l) (hn : n ≤ 1000) (hk : k < n) (mb : Nat) (hv : FnAt w b #[.func (.func 29) #[] #[.pointer (some ⟨mb, 0, none⟩)], fv 25]) (m : Mg) (hm : RvAt w mb 43 m.cs) (hmk : m.nm 0 = kinN (gtP l k)) (h64 : (gtP l k).nm 64 < 255) :
    Calls Try.prog 23 #[.agg (trc h (.slice a n c)), .int .i64 (k : Int), .slice (some ⟨b, 0, none⟩) 2 2] w fun r w' => TRes w h n (l.set k (waiP (sntP (gtP l k)))) r w' := by
  obtain ⟨W, hW, r0, r1, bW, zW⟩ := two_t w h (.slice a n c)
  have l0 := r0.tld
  have H : Hid (SlAt W a n c l ∧ n ≤ 1000 ∧ l.length = n ∧ RvAt W w.heap.size 31 (trc h (.slice a n c)) ∧ RvAt W (w.heap.size + 1) 31 (trc zeroH (.slice none 0 0)) ∧ Below w.heap.size w W ∧ W.heap.size = w.heap.size + 2) := ⟨hs.below bW, hn, hs.len, r0, r1, bW, zW⟩
  have HV : Hid (FnAt W b #[.func (.func 29) #[] #[.pointer (some ⟨mb, 0, none⟩)], fv 25] ∧ b < w.heap.size) := ⟨hv.below bW, hv.lt⟩
  have HM : Hid (RvAt W mb 43 m.cs ∧ mb < w.heap.size ∧ m.nm 0 = kinN (gtP l k) ∧ (gtP l k).nm 64 < 255) := ⟨hm.below bW, hm.lt, hmk, h64⟩
  clear hs hn r0 r1 bW zW hv hm hmk h64
  go_enter Try.func23, Try.ntmps23
  go_wp2_with fail
  refine (copy_any h a n c l W H.out.1 H.out.2.1).mono ?_
  rintro _ W2 ⟨v, rfl, o2, b2⟩
  have z2 := H.out.2.2.2.2.2.2
  have hl := H.out.2.2.1
  have hb := HV.out.2
  have hb2 := HM.out.2.1
  obtain ⟨W3, s3, r3, g3⟩ := (H.out.2.2.2.1.below b2).tst (g := h) (y := v) o2.one
  have o3 := o2.keptBut g3 (o2.apart (by omega))
  have q3 := (H.out.2.2.2.2.1.below b2).keptBut g3 (by simp)
  have v3 := (HV.out.1.below b2).keptBut g3 (by simp; omega)
  have m3 := (HM.out.1.below b2).keptBut g3 (by simp; omega)
  have b3 : Below w.heap.size w W3 := gro (below_over H.out.2.2.2.2.2.1 b2) g3 (Nat.le_refl _) (by have := b2.size; omega)
  have hin0 : (0 : Int) ≤ (k : Int) := by omega
  have hin1 : (k : Int) < (n : Int) := by omega
  clear b2 g3 o2 l0 hW
  rcases o3.pat with ⟨hv, hle⟩ | ⟨g, cc, hv, hg, hp⟩
  · rw [hle] at hl; simp at hl; omega
  · rw [hl] at hv
    subst hv
    have hkl : k < l.length := by rw [hl]; exact hk
    have K0 : Hid (RvAt W3 w.heap.size 31 (trc h (.slice (some ⟨g, 0, none⟩) n cc)) ∧ RvAt W3 (w.heap.size + 1) 31 (trc zeroH (.slice none 0 0)) ∧ Below w.heap.size w W3 ∧ PAt W3 g cc l ∧ FnAt W3 b #[.func (.func 29) #[] #[.pointer (some ⟨mb, 0, none⟩)], fv 25]) := ⟨r3, q3, b3, hp, v3⟩
    have KK : Hid (w.heap.size + 2 ≤ g ∧ b < w.heap.size ∧ l.length = n ∧ k < l.length ∧ mb < w.heap.size) := ⟨by omega, hb, hl, hkl, hb2⟩
    have M0 : Hid (RvAt W3 mb 43 m.cs) := m3
    clear hp hg r3 q3 b3 o3 hl z2 hk hkl hb v3 hb2 m3
    have c16 := K0.out.1.t16
    have f0 := K0.out.2.2.2.2.cell 0 _ rfl
    have f1 := K0.out.2.2.2.2.cell 1 _ rfl
    go_wp2_with fail
    refine wp_loop_rounds 3 ?_
    rw [rounds_succ]
    go_wp2_with fail
    refine (chg_sent W3 g cc k (k * 77) mb l (gtP l k) m K0.out.2.2.2.1 (gtP_at KK.out.2.2.2.1) rfl M0.out (by have := KK.out.1; have := KK.out.2.2.2.2; omega) HM.out.2.2.1 HM.out.2.2.2).mono ?_
    rintro _ X0 ⟨rfl, p1, g1⟩
    have hg := KK.out.1
    have hb := KK.out.2.1
    have K1 : Hid (RvAt X0 w.heap.size 31 (trc h (.slice (some ⟨g, 0, none⟩) n cc)) ∧ RvAt X0 (w.heap.size + 1) 31 (trc zeroH (.slice none 0 0)) ∧ Below w.heap.size w X0 ∧ PAt X0 g cc (l.set k (sntP (gtP l k))) ∧ FnAt X0 b #[.func (.func 29) #[] #[.pointer (some ⟨mb, 0, none⟩)], fv 25]) := ⟨K0.out.1.keptBut g1 (by simp; omega), K0.out.2.1.keptBut g1 (by simp; omega), gro K0.out.2.2.1 g1 (by omega) K0.out.2.2.1.size, p1, K0.out.2.2.2.2.keptBut g1 (by simp; omega)⟩
    clear p1 g1 hg hb c16 f0 f1
    have c16 := K1.out.1.t16
    have f0 := K1.out.2.2.2.2.cell 0 _ rfl
    have f1 := K1.out.2.2.2.2.cell 1 _ rfl
    go_wp2_with fail
    rw [rounds_succ]
    go_wp2_with fail
    refine (chg_wait X0 g cc k (k * 77) (l.set k (sntP (gtP l k))) (sntP (gtP l k)) K1.out.2.2.2.1 (gtP_set KK.out.2.2.2.1) rfl).mono ?_
    rintro _ X1 ⟨rfl, p2, g2⟩
    have hg := KK.out.1
    have hb := KK.out.2.1
    rw [List.set_set] at p2
    have K2 : Hid (RvAt X1 w.heap.size 31 (trc h (.slice (some ⟨g, 0, none⟩) n cc)) ∧ RvAt X1 (w.heap.size + 1) 31 (trc zeroH (.slice none 0 0)) ∧ Below w.heap.size w X1 ∧ PAt X1 g cc (l.set k (waiP (sntP (gtP l k)))) ∧ FnAt X1 b #[.func (.func 29) #[] #[.pointer (some ⟨mb, 0, none⟩)], fv 25]) := ⟨K1.out.1.keptBut g2 (by simp; omega), K1.out.2.1.keptBut g2 (by simp; omega), gro K1.out.2.2.1 g2 (by omega) K1.out.2.2.1.size, p2, K1.out.2.2.2.2.keptBut g2 (by simp; omega)⟩
    clear p2 g2 hg hb c16 f0 f1
    have c16 := K2.out.1.t16
    have f0 := K2.out.2.2.2.2.cell 0 _ rfl
    have f1 := K2.out.2.2.2.2.cell 1 _ rfl
    have l9 := K2.out.1.tld
    have hg := KK.out.1
    obtain ⟨U, s6, r6, g6⟩ := K2.out.2.1.tst (g := h) (y := .slice (some ⟨g, 0, none⟩) n cc) rfl
    have p6 := (K2.out.2.2.2.1.keptBut g6 (by simp; omega)).sl
    rw [List.length_set, KK.out.2.2.1] at p6
    have G : Hid (RvAt U (w.heap.size + 1) 31 (trc h (.slice (some ⟨g, 0, none⟩) n cc)) ∧ SlAt U (some ⟨g, 0, none⟩) n cc (l.set k (waiP (sntP (gtP l k)))) ∧ Below w.heap.size w U) := ⟨r6, p6, gro K2.out.2.2.1 g6 (by omega) K2.out.2.2.1.size⟩
    clear r6 p6 g6 hg c16
    go_wp2_with fail
    rw [rounds_succ]
    go_wp2
    refine bodyPost_ret (results_row rtT Try.results23 _ _ _ _ rfl G.out.1 (trc_size _ _)) rfl ?_
    exact ⟨some ⟨g, 0, none⟩, cc, rfl, G.out.2⟩
end Go.Proofs.Ytllmadgonobdnaa
