/-
  ChangeSteps: its walk, for every tree and place.
-/
import Derived.Test.YtfjigbmhheekbaaAll
import Derived.Test.YtfjigbmhheekbaaSame
namespace Go.Proofs.Ytfjigbmhheekbaa
set_option linter.unusedVariables false
set_option maxRecDepth 4000
set_option linter.unusedSimpArgs false
open Go.RowKit

/-- A copy of the ports, in a tree's variable that is new. -/
theorem TQ.copy {w W : World} {b n c : Nat} {h : Hd} {a : Option Addr} {l : List Pt} (t : TQ w W b h a n c l) (hn : n ≤ 1000) :
    ∃ V1 V2 V3 a' c', (stS 43 (.pointer (some ⟨W.heap.size, 0, none⟩)) (.agg (trc h (.slice a n c)))).run Try.prog (W.alloc (.cells #[.int .u64 0, .int .u8 0, .int .u8 0, .int .u8 0, .int .u8 0, .int .u8 0, .bool false, .int .u16 0, .int .u64 0, .int .u32 0, .int .u64 0, .int .u16 0, .int .u8 0, .int .u8 0, .int .u8 0, .int .u8 0, .slice none 0 0] 43)) = .ok () V1 ∧
      V1.heap.size = W.heap.size + 1 ∧ V1.cell? ⟨b, 16, none⟩ = some (.slice a n c) ∧ (V1.alloc (.cells #[] 36)).cell? ⟨b, 16, none⟩ = some (.slice a n c) ∧
      (apS 41 #[.slice (some ⟨V1.heap.size, 0, none⟩) 0 0, .slice a n c]).run Try.prog (V1.alloc (.cells #[] 36)) = .ok (.slice a' n c') V2 ∧
      (stS 41 (.pointer (some ⟨W.heap.size, 16, none⟩)) (.slice a' n c')).run Try.prog V2 = .ok () V3 ∧
      TQ w V3 b h a n c l ∧ TQ w V3 W.heap.size h a' n c' l ∧ PA V3 a' n c' l ∧ (∀ g, blk a' = some g → W.heap.size < g) ∧ Below W.heap.size W V3 := by
  obtain ⟨V1, e1, t1, b1⟩ := TQ.new (w := w) (h := h) t.sl t.bel
  have z1 : V1.heap.size = W.heap.size + 1 := by
    obtain ⟨V1', e1', _, _, z⟩ := new_tr W h (.slice a n c) rfl
    rw [e1] at e1'
    cases e1'
    exact z
  have tb := t.below b1
  obtain ⟨A, hA⟩ : ∃ A, V1.alloc (.cells #[] 36) = A := ⟨_, rfl⟩
  have bA : Below V1.heap.size V1 A := by rw [← hA]; exact (Below.refl _ _).alloc (Nat.le_refl _) _
  have oA : Own A V1.heap.size (.slice (some ⟨V1.heap.size, 0, none⟩) 0 0) [] := by rw [← hA]; exact zero_new V1 _ (Nat.le_refl _)
  obtain ⟨v, V2, ap, o2, g2⟩ := oA.app ((tb.below bA).sl) (by have := t.sl.len; simp; omega) bA.size 41
  rw [List.nil_append] at o2
  have b2 : Below V1.heap.size V1 V2 := bA.trans (below_of_grown g2 bA.size (fun j e => by cases e; exact Nat.le_refl _))
  obtain ⟨a', c', hv, pa, hga⟩ := PA.of o2
  rw [t.sl.len] at hv pa
  subst hv
  have tb2 := tb.below b2
  have t2 := t1.below b2
  obtain ⟨V3, e3, r3, g3⟩ := t2.var.tset (y := .slice a' n c') rfl
  have ne : b ≠ W.heap.size := by have := t.var.lt; omega
  have b3 : Below W.heap.size W V3 := gro (b1.trans (b2.mono (by omega))) g3 (Nat.le_refl _) (by have := b2.size; omega)
  have p3 : PA V3 a' n c' l := pa.kept g3 (fun g hg => by have := hga g hg; simp; omega)
  refine ⟨V1, V2, V3, a', c', e1, z1, tb.var.t16, by rw [hA]; exact (tb.below bA).var.t16, by rw [hA]; exact ap, e3, t.below b3, ⟨r3, p3.sl, below_over t.bel b3, t.bel.size⟩, p3, fun g hg => by have := hga g hg; omega, b3⟩
attribute [local go_sem ↓] ldT stT apE st32
set_option maxHeartbeats 8000000 in
theorem ChangeSteps_walk (h : Hd) (a0 : Option Addr) (n0 c0 : Nat) (l0 : List Pt) (i : Int) (w : World) (hs : SlAt w a0 n0 c0 l0) (hi : -9223372036854775808 ≤ i ∧ i ≤ 9223372036854775807) :
    Calls Try.prog 5 #[.agg (trc h (.slice a0 n0 c0)), .int .i64 i] w fun r w' => r = .returned (.bool true) ∧ Below w.heap.size w w' := by
  obtain ⟨W, hW, r0, bW, zW⟩ := one_t w h (.slice a0 n0 c0)
  have t0 := r0.tld
  have H : Hid (SlAt W a0 n0 c0 l0 ∧ RvAt W w.heap.size 43 (trc h (.slice a0 n0 c0)) ∧ Below w.heap.size w W) := ⟨hs.below bW, r0, bW⟩
  clear hs r0 bW zW
  go_enter Try.func5, Try.ntmps5
  go_wp2_with fail
  refine (few_any h a0 n0 c0 l0 W H.out.1).mono ?_
  rintro _ W1 ⟨n, rfl, hn, s1, b1⟩
  obtain ⟨l, hl⟩ : ∃ l, l0.take 12 = l := ⟨_, rfl⟩
  rw [hl] at s1
  obtain ⟨V, sV, t⟩ := TQ.few (w := w) H.out.2.1 H.out.2.2 (Nat.le_refl _) b1 s1
  have G4 : Hid (TQ w V w.heap.size h a0 n c0 l) := t
  have hn1 : n ≤ 1000 := by omega
  have lt := t.ld
  obtain ⟨V1, V2, V3, a1, c1, e1, z1, d1, d2, e2, e3, tt, tk, pk, gk, bk⟩ := t.copy hn1
  obtain ⟨kb, hkb⟩ : ∃ z, V.heap.size = z := ⟨_, rfl⟩
  rw [hkb] at e1 e3 tk z1
  rw [z1] at e2
  have K : Hid (TQ w V3 w.heap.size h a0 n c0 l ∧ TQ w V3 kb h a1 n c1 l) := ⟨tt, tk⟩
  have lV := tt.ld
  obtain ⟨OO, hOO⟩ : ∃ z, tcmI h l i = z := ⟨_, rfl⟩
  have C := tcm_any h a0 n c0 l i V3 tt.sl hn1
  rw [hOO] at C
  have C : Hid _ := C
  have EO : Hid (tcmI h l i = OO) := hOO
  clear s1 b1 t t0 H hW hl hn hi G4 tt tk pk gk bk hOO
  go_wp2_with fail
  refine Calls.mono C.out ?_
  rintro _ X1 ⟨a2, c2, rfl, s2, b2⟩
  obtain ⟨ls, hls⟩ : ∃ z, OO.getD l = z := ⟨_, rfl⟩
  obtain ⟨B, hB⟩ : ∃ z, OO.isSome = z := ⟨_, rfl⟩
  rw [hls] at s2
  rw [hB]
  have EL : Hid (OO.getD l = ls ∧ OO.isSome = B) := ⟨hls, hB⟩
  obtain ⟨X2, e4, t2, b3⟩ := TQ.new (w := w) (h := h) s2 (below_over K.out.1.bel b2)
  obtain ⟨i1, hi1⟩ : ∃ z, X1.heap.size = z := ⟨_, rfl⟩
  rw [hi1] at e4 t2
  have K2 : Hid (TQ w X2 w.heap.size h a0 n c0 l ∧ TQ w X2 kb h a1 n c1 l ∧ TQ w X2 i1 h a2 n c2 ls) := ⟨(K.out.1.below b2).below b3, (K.out.2.below b2).below b3, t2⟩
  have l2 := K2.out.2.1.ld
  have C2 := rtcm_any h a1 n c1 l i X2 K2.out.2.1.sl hn1
  rw [EO.out] at C2
  have C2 : Hid _ := C2
  clear s2 b2 hls hB t2 b3 C K lV e1 e2 e3 d1 d2 lt sV EO
  go_wp2_with fail
  refine Calls.mono C2.out ?_
  rintro _ X3 ⟨a3, c3, rfl, s3, b4⟩
  rw [EL.out.1] at s3
  rw [EL.out.2]
  obtain ⟨X4, e5, t3, b5⟩ := TQ.new (w := w) (h := h) s3 (below_over K2.out.1.bel b4)
  obtain ⟨i2, hi2⟩ : ∃ z, X3.heap.size = z := ⟨_, rfl⟩
  rw [hi2] at e5 t3
  have K3 : Hid (TQ w X4 w.heap.size h a0 n c0 l ∧ TQ w X4 kb h a1 n c1 l ∧ TQ w X4 i1 h a2 n c2 ls ∧ TQ w X4 i2 h a3 n c3 ls) := ⟨(K2.out.1.below b4).below b5, (K2.out.2.1.below b4).below b5, (K2.out.2.2.below b4).below b5, t3⟩
  have l3 := K3.out.2.2.1.ld
  have l4 := K3.out.2.2.2.ld
  clear s3 b4 t3 b5 C2 K2 l2 e4 EL
  go_wp2_with fail
  refine (rsame_any h h a2 a3 n n c2 c3 ls ls X4 K3.out.2.2.1.sl K3.out.2.2.2.sl hn1 hn1).mono ?_
  rintro _ X5 ⟨rfl, b6⟩
  rw [sameT_self]
  have K4 : Hid (TQ w X5 w.heap.size h a0 n c0 l ∧ TQ w X5 kb h a1 n c1 l) := ⟨K3.out.1.below b6, K3.out.2.1.below b6⟩
  have l5 := K4.out.1.ld
  have l6 := K4.out.2.ld
  have C5 : Hid _ := rsame_any h h a0 a1 n n c0 c1 l l X5 K4.out.1.sl K4.out.2.sl hn1 hn1
  clear b6 K3 l3 l4 e5
  cases B
  · go_wp2_with fail
    refine Calls.mono C5.out ?_
    rintro _ X6 ⟨rfl, b7⟩
    rw [sameT_self]
    have G : Hid (Below w.heap.size w X6) := below_over K4.out.1.bel b7
    clear b7 l5 l6 C5 K4
    go_wp2_with fail
    refine (awake_any X6).mono ?_
    rintro _ X7 ⟨rfl, b8⟩
    have F : Hid (Below w.heap.size w X7) := below_over G.out b8
    clear b8 G
    go_wp2
    go_ret
    exact ⟨rfl, F.out⟩
  · go_wp2_with fail
    refine Calls.mono C5.out ?_
    rintro _ X6 ⟨rfl, b7⟩
    rw [sameT_self]
    have G : Hid (Below w.heap.size w X6) := below_over K4.out.1.bel b7
    clear b7 l5 l6 C5 K4
    go_wp2_with fail
    refine (awake_any X6).mono ?_
    rintro _ X7 ⟨rfl, b8⟩
    have F : Hid (Below w.heap.size w X7) := below_over G.out b8
    clear b8 G
    go_wp2
    go_ret
    exact ⟨rfl, F.out⟩
end Go.Proofs.Ytfjigbmhheekbaa
