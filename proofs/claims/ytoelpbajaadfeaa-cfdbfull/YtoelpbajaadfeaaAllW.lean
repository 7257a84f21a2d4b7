/-
  The walk of All, for every database: all entries, in order, in memory of the call's own.
-/
import Derived.Test.YtoelpbajaadfeaaAll
namespace Go.Proofs.Ytoelpbajaadfeaa
set_option linter.unusedVariables false
set_option maxRecDepth 4000
set_option linter.unusedSimpArgs false
open Go.RowKit

attribute [local go_sem ↓] ldK stK ldM stM ldP stP ldE stE apE
theorem own_block_ne {W : World} {B : Nat} {v : Value} {l : List En} (h : Own W B v l) {b : Nat} (hb : b < B) : some b ≠ v.ownBlock := fun e => by
  have := (World.ownsRow.lt h b e.symm).1
  omega
theorem own_iter_ne {W : World} {B : Nat} {v : Value} {l m todo : List En} {b r : Nat} (h : Own W B v l) (hr : RgIs W b r m todo) : some r ≠ v.ownBlock := by
  obtain ⟨_, _, _, _, D, n, lft, cnt, hR, _⟩ := hr
  obtain ⟨_, _, _, _, _, _, _, _, _, hit, _⟩ := hR
  rcases h.2 with ⟨rfl, _⟩ | ⟨g, cap, cur, rfl, _, hb, _⟩
  · simp [Value.ownBlock]
  · intro e1
    have : r = g := by simpa [Value.ownBlock] using e1
    subst this
    rw [hit] at hb
    cases hb
set_option maxHeartbeats 2000000 in
theorem all_any (p b : Nat) (c : Cf) (l : List En) (w : World) (h : Db w p b c l) :
    Calls Try.prog 17 #[.pointer (some ⟨p, 0, none⟩)] w fun r w' => ∃ v, r = .returned v ∧ Own w' w.heap.size v l ∧ Below w.heap.size w w' := by
  have c3 := h.c3
  have hl := h.map.len
  have hlen : l.length ≤ 256 := by have := h.len; have := h.wf.room; omega
  obtain ⟨i0, hi, hz0, hz1, hz2⟩ := info_parts infoE3
  obtain ⟨W0, hm0, hown, hg0⟩ := run_make_own (P := Try.prog) w w.heap.size 27 51 i0 _ 14 Try.underlying27 hi hz0 hz1 .i64 .i64 l.length (by rw [hz2]; omega) (by unfold maxLen; omega) (Nat.le_refl _)
  have b0 : Below w.heap.size w W0 := below_of_grown hg0 (Nat.le_refl _) (fun j e => by cases e)
  have c30 := (h.below b0).c3
  obtain ⟨W1, hr1, hR, bR, zR⟩ := (h.below b0).map.range
  have hO : Own W0 w.heap.size (.slice (some ⟨w.heap.size, 0, none⟩) 0 l.length) [] := hown
  have H : Hid (Db w p b c l ∧ l.length ≤ 256 ∧ Own W1 w.heap.size (.slice (some ⟨w.heap.size, 0, none⟩) 0 l.length) [] ∧ RgIs W1 b W0.heap.size l l ∧ Below w.heap.size w W1 ∧ w.heap.size ≤ W0.heap.size) := ⟨h, hlen, hO.below bR, hR, below_over b0 bR, b0.size⟩
  clear h hi hz0 hz1 hz2 hown hg0 b0 hR bR zR hO i0 hlen
  go_enter Try.func17, Try.ntmps17
  go_wp2_with fail
  refine (made_any p _ _ c3).mono ?_
  rintro _ Y ⟨rfl, hY⟩
  rw [hY]
  clear hY Y
  simp only [Option.isSome_some]
  go_wp2_with fail
  clear hr1 c3 c30 hl hm0
  obtain ⟨rb, hrb⟩ : ∃ rb, rb = W0.heap.size := ⟨_, rfl⟩
  rw [← hrb] at H ⊢
  clear hrb
  go_loopw [3] (fun v3 wr => ∃ (todo acc : List En) (v : Value), v = v3 ∧ Own wr w.heap.size v acc ∧ v ≠ .slice none 0 0 ∧ RgIs wr b rb l todo ∧ Coll l todo acc ∧ Below w.heap.size w wr) (fun _ wr => wr.rangeLeft b rb)
  case atStart => exact ⟨l, [], _, rfl, H.out.2.2.1, by simp, H.out.2.2.2.1, ⟨fun x => by simp, List.Pairwise.nil, by simp⟩, H.out.2.2.2.2.1⟩
  case round =>
    obtain ⟨todo, acc, v3, rfl, hO, hnn, hR, hC, hB⟩ := hrel
    rcases hR.next 0 with ⟨rfl, hn⟩ | ⟨x, Wn, hx, hn, hR1, hlt, hg1, hz1, hen⟩
    · have S := sort_own hO hnn (hC.perm H.out.1.map.1) H.out.1.map.1 H.out.1.map.2.1 (by have := H.out.2.1; omega)
      have G : Hid (Below w.heap.size w wr ∧ Own wr w.heap.size v3 acc ∧ _) := ⟨hB, hO, S⟩
      clear hO hnn hR hC hB S
      go_wp2_with fail
      refine (G.out.2.2).mono ?_
      rintro _ W2 ⟨rfl, o2, g2⟩
      have G2 : Hid (Own W2 w.heap.size v3 l ∧ Below w.heap.size w W2) := ⟨o2, G.out.1.trans (below_of_grown g2 G.out.1.size (fun j e => (World.ownsRow.lt G.out.2.1 j e).1))⟩
      clear o2 g2 G
      go_wp2
      go_ret
      exact ⟨_, rfl, G2.out.1, G2.out.2⟩
    · obtain ⟨Wa, Wb, sa, sb, ra, rv, bb, zb⟩ := kv_new Wn x.k x
      have hxl : x ∈ l := hR.2.2.2.1 x hx
      have hrb := H.out.2.2.2.2.2
      have hOn : Own Wn w.heap.size v3 acc := hO.keptBut hg1 (.inr (fun e => own_iter_ne hO hR e.symm))
      have hBn : Below w.heap.size w Wn := hB.trans (below_of_grown hg1 hB.size (fun j e => by cases e; exact hrb))
      have hRb := hR1.kept (grown_of_below bb none) (by simp) (by simp)
      have hBb := below_over hBn bb
      have k0 := ra.cell 0 (.int .i64 x.k.vid) rfl
      have km := ra.kmac
      have p0 := rv.pmac
      simp only [Ad.cs] at p0
      have p2 := rv.cell 6 (.int .i64 x.seen) rfl
      obtain ⟨W3, hW3⟩ : ∃ W3, Wb.alloc (.cells x.cs 51) = W3 := ⟨_, rfl⟩
      have b3 : Below Wb.heap.size Wb W3 := by rw [← hW3]; exact (Below.refl _ _).alloc (Nat.le_refl _) _
      have s3 : SlAt W3 (some ⟨Wb.heap.size, 0, none⟩) 1 1 [x] := by rw [← hW3]; exact one_new Wb x
      have hO3 := (hOn.below bb).below b3
      have hcl := hC.len
      have htl : 1 ≤ todo.length := by
        cases todo with
        | nil => cases hx
        | cons _ _ => simp
      obtain ⟨v4, W4, happ, hO4, hg4⟩ := hO3.app s3 (by have := H.out.2.1; simp; omega) (Nat.le_trans hBb.size b3.size) 27
      have hR3 := hRb.1.kept (grown_of_below b3 none) (by simp) (by simp)
      have hR4 := hR3.1.kept hg4 (own_block_ne hO3 H.out.1.lt.2) (own_iter_ne hO3 hR3.1)
      have G : Hid (Own W4 w.heap.size v4 (acc ++ [x]) ∧ RgIs W4 b rb l (del todo x.rk) ∧ W4.rangeLeft b rb < wr.rangeLeft b rb ∧ Coll l (del todo x.rk) (acc ++ [x]) ∧ Below w.heap.size w W4 ∧ v4 ≠ .slice none 0 0) :=
        ⟨hO4, hR4.1, by rw [hR4.2, hR3.2, hRb.2]; exact hlt, hC.step H.out.1.map.1 hR.2.2.1 hx hxl, (below_over hBb b3).trans (below_of_grown hg4 (Nat.le_trans hBb.size b3.size) (fun j e => (World.ownsRow.lt hO3 j e).1)), by
          intro e
          rcases hO4.2 with ⟨_, h0⟩ | ⟨g, cap, cur, e2, _⟩
          · simp at h0
          · rw [e] at e2; cases e2⟩
      clear hO hR hR1 hC hB hOn hBn hRb hBb ra rv bb zb s3 hO3 hcl htl hO4 hg4 hR3 hR4 hlt hg1 hz1 hrb b3 hx hxl
      change Wb.alloc (.cells #[.int .i64 x.k.vid, .int .u8 x.k.a, .int .u8 x.k.b, .int .u8 x.k.c, .int .u8 x.k.d, .int .u8 x.k.e, .int .u8 x.k.f, .int .u8 x.bm.a, .int .u8 x.bm.b, .int .u8 x.bm.c, .int .u8 x.bm.d, .int .u8 x.bm.e, .int .u8 x.bm.f, .int .i64 x.seen] 51) = W3 at hW3
      go_wp2
      go_roundw
      case rel => exact ⟨_, _, _, rfl, G.out.1, G.out.2.2.2.2.2, G.out.2.1, G.out.2.2.2.1, G.out.2.2.2.2.1⟩
      case measure => exact G.out.2.2.1
end Go.Proofs.Ytoelpbajaadfeaa
