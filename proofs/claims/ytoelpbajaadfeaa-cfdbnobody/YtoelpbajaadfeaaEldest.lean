/-
  The walk of eldest, for every database.
-/
import Derived.Test.YtoelpbajaadfeaaEld
namespace Go.Proofs.Ytoelpbajaadfeaa
set_option linter.unusedVariables false
set_option maxRecDepth 4000
set_option linter.unusedSimpArgs false
open Go.RowKit

attribute [local go_sem ↓] ldK stK ldM stM ldP stP
set_option maxHeartbeats 2000000 in
theorem eldest_any (p b : Nat) (l : List En) (w : World) (hc : w.cell? ⟨p, 2, none⟩ = some (.map (some b))) (hm : MapIs w b l) :
    Calls Try.prog 33 #[.pointer (some ⟨p, 0, none⟩)] w fun r w' => (∃ k : Ky, r = .returned (.agg k.cs) ∧ ∀ x, eld l = some x → k = x.k) ∧ Below w.heap.size w w' := by
  obtain ⟨W, hW, r1, r2, bW⟩ := two_keys w zeroK zeroK
  have hpl : p < w.heap.size := World.block_lt_of_cell? w _ hc
  have hpl' : b < w.heap.size := hm.lt
  have hzs : W.heap.size = w.heap.size + 2 := by rw [← hW]; simp
  have c3 : W.cell? ⟨p, 2, none⟩ = some (.map (some b)) := (bW.cell (p := ⟨p, 2, none⟩) hpl).trans hc
  obtain ⟨W1, hr1, hR, bR, zR⟩ := (hm.below bW).range
  have H : Hid (MapIs w b l ∧ w.cell? ⟨p, 2, none⟩ = some (.map (some b)) ∧ p < w.heap.size ∧ b < w.heap.size ∧ RvAt W1 w.heap.size 74 zeroK.cs ∧ RvAt W1 (w.heap.size + 1) 74 zeroK.cs ∧ Below w.heap.size w W1 ∧ RgIs W1 b W.heap.size l l ∧ W.heap.size = w.heap.size + 2) :=
    ⟨hm, hc, hpl, hpl', r1.below bR, r2.below bR, below_over bW bR, hR, hzs⟩
  clear hm hc hpl hpl' r1 r2 bW bR hR hzs zR
  change (w.alloc (.cells #[.int .i64 0, .int .u8 0, .int .u8 0, .int .u8 0, .int .u8 0, .int .u8 0, .int .u8 0] 74)).alloc (.cells #[.int .i64 0, .int .u8 0, .int .u8 0, .int .u8 0, .int .u8 0, .int .u8 0, .int .u8 0] 74) = W at hW
  go_enter Try.func33, Try.ntmps33
  go_wp2_with fail
  clear hr1 c3 hW
  obtain ⟨rb, hrb⟩ : ∃ rb, rb = W.heap.size := ⟨_, rfl⟩
  rw [← hrb] at H ⊢
  clear hrb
  go_loopw [4] (fun v5 wr => ∃ (todo : List En) (k : Ky) (f : Bool), v5 = .bool f ∧ RgIs wr b rb l todo ∧ RvAt wr w.heap.size 74 zeroK.cs ∧ RvAt wr (w.heap.size + 1) 74 k.cs ∧ Below w.heap.size w wr ∧ Cand l todo k f) (fun _ wr => wr.rangeLeft b rb)
  case atStart => exact ⟨l, zeroK, false, rfl, H.out.2.2.2.2.2.2.2.1, H.out.2.2.2.2.1, H.out.2.2.2.2.2.1, H.out.2.2.2.2.2.2.1, .inl ⟨rfl, fun y hy => hy⟩⟩
  case round =>
    obtain ⟨todo, k, f, rfl, hR, q1, q2, hB, hC⟩ := hrel
    rcases hR.next 0 with ⟨rfl, hn⟩ | ⟨x, Wn, hx, hn, hR1, hlt, hg1, hz1, hen⟩
    · have l2 := q2.ld rtK (Ky.size _)
      obtain ⟨W2, s2, p2, g2, z2⟩ := q1.put rtK (Ky.size _) (Ky.size k) (Ky.one k)
      have B2 : Hid (RvAt W2 w.heap.size 74 k.cs ∧ Below w.heap.size w W2 ∧ Cand l [] k f) := ⟨p2, hB.trans (below_of_grown g2 hB.size (fun j e => by cases e; exact Nat.le_refl _)), hC⟩
      clear p2 g2 z2 hR q1 q2 hB hC
      go_wp2
      refine bodyPost_ret (results_row rtK Try.results33 _ _ _ _ rfl B2.out.1 (Ky.size _)) rfl ?_
      exact ⟨⟨k, rfl, B2.out.2.2.done H.out.1.1⟩, B2.out.2.1⟩
    · obtain ⟨Wb, sb, ra, bb, zb⟩ := k_new Wn x.k
      have hxl : x ∈ l := hR.2.2.2.1 x hx
      have hst := hR.2.2.1
      have hrb := H.out.2.2.2.2.2.2.2.2
      have q1n : RvAt Wn w.heap.size 74 zeroK.cs := (hg1.block _ q1.lt (by intro e; cases e; omega)).trans q1
      have q2n : RvAt Wn (w.heap.size + 1) 74 k.cs := (hg1.block _ q2.lt (by intro e; cases e; omega)).trans q2
      have hBn : Below w.heap.size w Wn := hB.trans (below_of_grown hg1 hB.size (fun j e => by cases e; omega))
      have hRb := hR1.kept (grown_of_below bb none) (by simp) (by simp)
      have lk := ra.ld rtK (Ky.size _)
      have lo := (q2n.below bb).ld rtK (Ky.size _)
      have G : Hid (RgIs Wb b rb l (del todo x.rk) ∧ Wb.rangeLeft b rb < wr.rangeLeft b rb ∧ RvAt Wb w.heap.size 74 zeroK.cs ∧ RvAt Wb (w.heap.size + 1) 74 k.cs ∧ Below w.heap.size w Wb ∧ RvAt Wb Wn.heap.size 74 x.k.cs ∧ rb = w.heap.size + 2 ∧ x ∈ todo ∧ Srt todo) :=
        ⟨hRb.1, by rw [hRb.2]; exact hlt, q1n.below bb, q2n.below bb, below_over hBn bb, ra, hrb, hx, hst⟩
      have hC' : Hid (Cand l todo k f) := hC
      clear hR hR1 hlt hg1 hz1 q1 q2 q1n q2n hB hBn bb zb ra hRb hrb hst hC hx
      cases f
      · obtain ⟨W3, s3, p3, g3, z3⟩ := G.out.2.2.2.1.put rtK (Ky.size _) (Ky.size x.k) (Ky.one x.k)
        have hk3 := G.out.1.kept g3 (fun e => by cases e; have := H.out.2.2.2.1; omega) (fun e => by cases e; have := G.out.2.2.2.2.2.2.1; omega)
        have G3 : Hid (RgIs W3 b rb l (del todo x.rk) ∧ W3.rangeLeft b rb < wr.rangeLeft b rb ∧ RvAt W3 w.heap.size 74 zeroK.cs ∧ RvAt W3 (w.heap.size + 1) 74 x.k.cs ∧ Below w.heap.size w W3 ∧ Cand l (del todo x.rk) x.k true) :=
          ⟨hk3.1, by rw [hk3.2]; exact G.out.2.1, (g3.block _ G.out.2.2.1.lt (by simp)).trans G.out.2.2.1, p3, G.out.2.2.2.2.1.trans (below_of_grown g3 G.out.2.2.2.2.1.size (fun j e => by cases e; omega)), hC'.out.first G.out.2.2.2.2.2.2.2.2 G.out.2.2.2.2.2.2.2.1 hxl⟩
        clear p3 g3 z3 hk3 G hC'
        go_wp2
        go_roundw
        case rel => exact ⟨_, _, _, rfl, G3.out.1, G3.out.2.2.1, G3.out.2.2.2.1, G3.out.2.2.2.2.1, G3.out.2.2.2.2.2⟩
        case measure => exact G3.out.2.1
      · obtain ⟨z, hzl, hz2, rfl, hle⟩ : ∃ z ∈ l, z ∉ todo ∧ z.k = k ∧ ∀ y ∈ l, y ∉ todo → z.seen < y.seen ∨ z.seen = y.seen ∧ z.rk ≤ y.rk := by
          rcases hC'.out with ⟨h, _⟩ | ⟨_, h⟩
          · cases h
          · exact h
        have E : Hid (∀ W', Below w.heap.size w W' → Calls Try.prog 48 #[.pointer (some ⟨p, 0, none⟩), .agg x.k.cs, .agg z.k.cs] W' fun r w' => r = .returned (.bool (ahead x z)) ∧ Below W'.heap.size W' w') :=
          fun W' hB => elder_any p b l x z W' ((hB.cell (p := ⟨p, 2, none⟩) H.out.2.2.1).trans H.out.2.1) (H.out.1.kept ⟨hB.os, hB.tape, hB.output, hB.size, fun i hi _ => hB.block i hi⟩ (by simp : some b ≠ none)) hxl hzl
        clear hC'
        go_wp2_with fail
        refine (E.out _ G.out.2.2.2.2.1).mono ?_
        rintro _ W3 ⟨rfl, b3⟩
        have hk3 := G.out.1.kept (grown_of_below b3 none) (by simp) (by simp)
        have lk3 := (G.out.2.2.2.2.2.1.below b3).ld rtK (Ky.size _)
        obtain ⟨W4, s4, p4, g4, z4⟩ := (G.out.2.2.2.1.below b3).put rtK (Ky.size _) (Ky.size x.k) (Ky.one x.k)
        have hk4 := hk3.1.kept g4 (fun e => by cases e; have := H.out.2.2.2.1; omega) (fun e => by cases e; have := G.out.2.2.2.2.2.2.1; omega)
        have G3 : Hid (RgIs W3 b rb l (del todo x.rk) ∧ W3.rangeLeft b rb < wr.rangeLeft b rb ∧ RvAt W3 w.heap.size 74 zeroK.cs ∧ RvAt W3 (w.heap.size + 1) 74 z.k.cs ∧ Below w.heap.size w W3) :=
          ⟨hk3.1, by rw [hk3.2]; exact G.out.2.1, G.out.2.2.1.below b3, G.out.2.2.2.1.below b3, below_over G.out.2.2.2.2.1 b3⟩
        have G4 : Hid (RgIs W4 b rb l (del todo x.rk) ∧ W4.rangeLeft b rb < wr.rangeLeft b rb ∧ RvAt W4 w.heap.size 74 zeroK.cs ∧ RvAt W4 (w.heap.size + 1) 74 x.k.cs ∧ Below w.heap.size w W4) :=
          ⟨hk4.1, by rw [hk4.2, hk3.2]; exact G.out.2.1, (g4.block _ (G.out.2.2.1.below b3).lt (by simp)).trans (G.out.2.2.1.below b3), p4, G3.out.2.2.2.2.trans (below_of_grown g4 G3.out.2.2.2.2.size (fun j e => by cases e; omega))⟩
        clear p4 g4 z4 hk3 hk4 b3 E lk lo
        cases ha : ahead x z
        · have hcc : Hid (Cand l (del todo x.rk) z.k true) := Cand.stays hle hzl hz2 G.out.2.2.2.2.2.2.2.2 G.out.2.2.2.2.2.2.2.1 ha
          clear G s4 lk3 G4
          go_wp2
          go_roundw
          case rel => exact ⟨_, _, _, rfl, G3.out.1, G3.out.2.2.1, G3.out.2.2.2.1, G3.out.2.2.2.2, hcc.out⟩
          case measure => exact G3.out.2.1
        · have hcc : Hid (Cand l (del todo x.rk) x.k true) := Cand.better hle G.out.2.2.2.2.2.2.2.2 G.out.2.2.2.2.2.2.2.1 hxl ha
          clear G G3
          go_wp2
          go_roundw
          case rel => exact ⟨_, _, _, rfl, G4.out.1, G4.out.2.2.1, G4.out.2.2.2.1, G4.out.2.2.2.2, hcc.out⟩
          case measure => exact G4.out.2.1
end Go.Proofs.Ytoelpbajaadfeaa
