/-
  The definition's Age, Flush, Drop: their walks, for every database and every number.
-/
import Derived.Test.YtpbpofmlpbobmaaRStat
namespace Go.Proofs.Ytpbpofmlpbobmaa
set_option linter.unusedVariables false
set_option maxRecDepth 4000
set_option linter.unusedSimpArgs false
open Go.RowKit

attribute [local go_sem ↓] ldK stK ldM stM ldP stP ldE stE apE ldR stR slE
set_option maxHeartbeats 4000000 in
theorem rdrop_any (c : Cf) (a : Option Addr) (n k : Nat) (l : List En) (vid : Int) (w : World) (h : SlAt w a n k l) (hl : Wfs l) (hn : n ≤ 1000) (hc : c.wf) :
    Calls Try.prog 24 #[.agg (c.rs a n k), .int .i64 vid] w fun r w' => PutOut a w.heap.size c (remS l (dropSh vid)) r w' ∧ Below w.heap.size w w' := by
  obtain ⟨sh, hsh⟩ : ∃ sh, sh = dropSh vid := ⟨_, rfl⟩
  rw [← hsh]
  have SH : Hid (sh = dropSh vid) := hsh
  clear hsh
  obtain ⟨W1, hW, d1, d2, bW, zW⟩ := two_rf w c a n k
  have H : Hid (SlAt W1 a n k l ∧ RdAt W1 w.heap.size c a n k ∧ Wfs l ∧ c.wf ∧ n ≤ 1000 ∧ l.length = n ∧ RdAt W1 (w.heap.size + 1) ⟨0, 0, 0⟩ none 0 0 ∧ Below w.heap.size w W1 ∧ W1.heap.size = w.heap.size + 2) := ⟨h.below bW, d1, hl, hc, hn, h.len, d2, bW, zW⟩
  have hnn : (n : Int) ≤ 1000 := by omega
  clear h hl hn hc d1 d2 bW zW
  go_enter Try.func24, Try.ntmps24
  go_wp2_with fail
  go_loopw [6, 7] (fun v6 v7 wr => ∃ (i : Nat) (a6 : Option Addr) (m6 c6 : Nat), i ≤ n ∧ v7 = .int .i64 i ∧ v6 = .slice a6 m6 c6 ∧ ((l.take i).filter (fun x => !sh x)).length = m6 ∧ Own wr W1.heap.size (.slice a6 m6 c6) ((l.take i).filter (fun x => !sh x)) ∧ Below W1.heap.size W1 wr) (fun _ v7 _ => n - (intOf v7).toNat)
  case atStart => exact ⟨0, none, 0, 0, by omega, rfl, rfl, rfl, Own.nil _ _, by rw [← hW]; exact Below.refl _ _⟩
  case round =>
    obtain ⟨i, a6, m6, c6, hi, rfl, rfl, hm6_, hO, hB⟩ := hrel
    have HB : Hid (Below W1.heap.size W1 wr) := hB
    have HO : Hid (Own wr W1.heap.size (.slice a6 m6 c6) ((l.take i).filter (fun x => !sh x))) := hO
    have hm6 : Hid (((l.take i).filter (fun x => !sh x)).length = m6) := hm6_
    have c3 := (H.out.2.1.below hB).c3
    have hlen := H.out.2.2.2.2.2.1
    have hin0 : (0 : Int) ≤ (i : Int) := by omega
    by_cases hit : i < n
    · have hin1 : (i : Int) < (n : Int) := by omega
      obtain ⟨b, o, rfl⟩ := H.out.1.some' (by omega)
      obtain ⟨x, hx⟩ : ∃ x, l[i]? = some x := ⟨_, List.getElem?_eq_getElem (by omega)⟩
      have hxw := H.out.2.2.1 x (List.mem_of_getElem? hx)
      have htk : l.take (i + 1) = l.take i ++ [x] := by rw [List.take_add_one, hx]; rfl
      have s0 : wr.cell? ⟨b, o + i * 10, none⟩ = some (.int .i64 x.k.vid) := (H.out.1.below hB).cell hx (k := 0) (v := .int .i64 x.k.vid) rfl (by omega)
      have s7_ : wr.cell? ⟨b, o + i * 10 + 7, none⟩ = some (.int .i64 x.port) := (H.out.1.below hB).cell hx (k := 7) (v := .int .i64 x.port) rfl (by omega)
      have s8_ : wr.cell? ⟨b, o + i * 10 + 8, none⟩ = some (.bool x.st) := (H.out.1.below hB).cell hx (k := 8) (v := .bool x.st) rfl (by omega)
      clear hB hO hm6_ hxw
      by_cases hk : x.k.vid = vid
      · have hkeep : Hid ((l.take (i + 1)).filter (fun x => !sh x) = (l.take i).filter (fun x => !sh x)) := by
          show _ = _
          rw [htk, List.filter_append, List.filter_cons_of_neg (by rw [SH.out]; simp [dropSh, hk]), List.filter_nil, List.append_nil]
        clear htk
        go_wp2
        go_roundw
        case rel => exact ⟨i + 1, a6, m6, c6, by omega, by go_num, rfl, by rw [hkeep.out]; exact hm6.out, by rw [hkeep.out]; exact HO.out, HB.out⟩
        case measure => simp [intOf]; omega
      · have hk2 : (x.k.vid != vid) = true := by simpa using hk
        have hkeep : Hid ((l.take (i + 1)).filter (fun x => !sh x) = (l.take i).filter (fun x => !sh x) ++ [x]) := by
          show _ = _
          rw [htk, List.filter_append, List.filter_cons_of_pos (by rw [SH.out]; simp [dropSh, hk])]
          rfl
        clear htk
        have hBY : Below W1.heap.size W1 wr := HB.out
        have hOY : Own wr W1.heap.size (.slice a6 m6 c6) ((l.take i).filter (fun x => !sh x)) := HO.out
        have lx : (ldS 55 (.pointer (some ⟨b, o + i * 10, none⟩))).run Try.prog wr = .ok (.agg #[.int .i64 x.k.vid, .int .u8 x.k.a, .int .u8 x.k.b, .int .u8 x.k.c, .int .u8 x.k.d, .int .u8 x.k.e, .int .u8 x.k.f, .int .i64 x.port, .bool x.st, .int .i64 x.seen]) wr := (H.out.1.below hBY).ld hx
        obtain ⟨Y1, hY1⟩ : ∃ Y1, wr.alloc (.cells #[.int .i64 x.k.vid, .int .u8 x.k.a, .int .u8 x.k.b, .int .u8 x.k.c, .int .u8 x.k.d, .int .u8 x.k.e, .int .u8 x.k.f, .int .i64 x.port, .bool x.st, .int .i64 x.seen] 55) = Y1 := ⟨_, rfl⟩
        have b1 : Below wr.heap.size wr Y1 := by rw [← hY1]; exact (Below.refl _ _).alloc (Nat.le_refl _) _
        have s1 : SlAt Y1 (some ⟨wr.heap.size, 0, none⟩) 1 1 [x] := by rw [← hY1]; exact one_new wr x
        have o1 := hOY.below b1
        have hcl : ((l.take i).filter (fun x => !sh x)).length ≤ l.length := Nat.le_trans (List.length_filter_le _ _) (by rw [List.length_take]; omega)
        obtain ⟨v2, Y2, ap2, o2, g2⟩ := o1.app s1 (by have := H.out.2.2.2.2.1; simp only [List.length_singleton]; omega) (Nat.le_trans hBY.size b1.size) 27
        have b12 := below_over hBY b1
        have hB2 : Below W1.heap.size W1 Y2 := b12.trans (below_of_grown g2 b12.size (fun j e => (World.ownsRow.lt o1 j e).1))
        rw [← hkeep.out] at o2
        obtain ⟨a7, c7, hv7, s7, _⟩ := o2.form
        obtain ⟨m7, hm7⟩ : ∃ m, ((l.take (i + 1)).filter (fun x => !sh x)).length = m := ⟨_, rfl⟩
        rw [hm7] at hv7
        subst hv7
        have G2 : Hid (Below W1.heap.size W1 Y2 ∧ Own Y2 W1.heap.size (.slice a7 m7 c7) ((l.take (i + 1)).filter (fun x => !sh x)) ∧ ((l.take (i + 1)).filter (fun x => !sh x)).length = m7) := ⟨hB2, o2, hm7⟩
        clear hBY hOY b1 s1 o1 o2 g2 b12 hB2 s7 hm7 hcl 
        go_wp2
        go_roundw
        case rel => exact ⟨i + 1, a7, m7, c7, by omega, by go_num, rfl, G2.out.2.2, G2.out.2.1, G2.out.1⟩
        case measure => simp [intOf]; omega
    · have hin : i = n := by omega
      subst hin
      have hin1 : ¬ (i : Int) < (i : Int) := by omega
      have htk : l.take i = l := List.take_of_length_le (by omega)
      rw [htk] at hO hm6_
      have hml : m6 ≤ i := by rw [← hm6_, ← hlen]; exact List.length_filter_le _ _
      obtain ⟨a6_, c6_, hv6, s6, n6⟩ := hO.form
      have hin_ : a6 = a6_ ∧ c6 = c6_ := by
        injection hv6 with e1 e2 e3
        exact ⟨e1, e3⟩
      obtain ⟨rfl, rfl⟩ := hin_
      rw [hm6_] at s6
      have d1 := H.out.2.1.below hB
      have fz := d1.fz 3
      have e3 := d1.set (a' := a6) (n' := m6) (k' := c6)
      obtain ⟨X4, hX4⟩ : ∃ X, wr.setCell ⟨w.heap.size, 3, none⟩ (.slice a6 m6 c6) = X := ⟨_, rfl⟩
      rw [hX4] at e3
      have d24 : RdAt X4 (w.heap.size + 1) ⟨0, 0, 0⟩ none 0 0 := (e3.2.block _ (H.out.2.2.2.2.2.2.1.below hB).lt (by simp)).trans (H.out.2.2.2.2.2.2.1.below hB)
      obtain ⟨X5, st5, r5, g5, z5⟩ := d24.put (c' := c) (a' := a6) (n' := m6) (k' := c6)
      have ld4 := e3.1.ld
      have hz1 := H.out.2.2.2.2.2.2.2.2
      have hb1 := H.out.2.2.2.2.2.2.2.1
      have bw := below_over hb1 hB
      have b4 : Below w.heap.size w X4 := bw.trans (below_of_grown e3.2 bw.size (fun j e => by cases e; exact Nat.le_refl _))
      have b5 : Below w.heap.size w X5 := b4.trans (below_of_grown g5 b4.size (fun j e => by cases e; omega))
      have s5 : SlAt X5 a6 m6 c6 (l.filter (fun x => !sh x)) := (s6.keptBut e3.2 (fun x e h => by have := (n6 x e).1; have := Option.some.inj h; omega)).keptBut g5 (fun x e h => by have := (n6 x e).1; have := Option.some.inj h; omega)
      have G : Hid (RvAt X5 (w.heap.size + 1) 29 (c.rs a6 m6 c6) ∧ Below w.heap.size w X5 ∧ SlAt X5 a6 m6 c6 (l.filter (fun x => !sh x)) ∧ (l.filter (fun x => !sh x)).length = m6 ∧ (∀ x, a6 = some x → w.heap.size ≤ x.block)) := ⟨r5, b5, s5, hm6_, fun x e => by have := (n6 x e).1; omega⟩
      clear hO hB hv6 s6 n6 d1 e3 d24 r5 g5 z5 bw b4 b5 s5 hm6_ htk hz1 hb1 HB HO hm6
      go_wp2
      refine bodyPost_ret (results_rowtmp rtR Try.results24 _ _ _ _ rfl G.out.1 rfl) rfl ?_
      have hmm := G.out.2.2.2.1
      refine ⟨⟨.agg (c.rs a6 m6 c6), ?_, ⟨a6, c6, by unfold remS; rw [hmm], by unfold remS; rw [hmm]; exact G.out.2.2.1, fun x e => .inr (G.out.2.2.2.2 x e)⟩⟩, G.out.2.1⟩
      unfold remS
      rw [hmm, hlen]
      rfl
set_option maxHeartbeats 4000000 in
theorem rflush_any (c : Cf) (a : Option Addr) (n k : Nat) (l : List En) (port : Int) (w : World) (h : SlAt w a n k l) (hl : Wfs l) (hn : n ≤ 1000) (hc : c.wf) :
    Calls Try.prog 22 #[.agg (c.rs a n k), .int .i64 port] w fun r w' => PutOut a w.heap.size c (remS l (flushSh port)) r w' ∧ Below w.heap.size w w' := by
  obtain ⟨sh, hsh⟩ : ∃ sh, sh = flushSh port := ⟨_, rfl⟩
  rw [← hsh]
  have SH : Hid (sh = flushSh port) := hsh
  clear hsh
  obtain ⟨W1, hW, d1, d2, bW, zW⟩ := two_rf w c a n k
  have H : Hid (SlAt W1 a n k l ∧ RdAt W1 w.heap.size c a n k ∧ Wfs l ∧ c.wf ∧ n ≤ 1000 ∧ l.length = n ∧ RdAt W1 (w.heap.size + 1) ⟨0, 0, 0⟩ none 0 0 ∧ Below w.heap.size w W1 ∧ W1.heap.size = w.heap.size + 2) := ⟨h.below bW, d1, hl, hc, hn, h.len, d2, bW, zW⟩
  have hnn : (n : Int) ≤ 1000 := by omega
  clear h hl hn hc d1 d2 bW zW
  go_enter Try.func22, Try.ntmps22
  go_wp2_with fail
  go_loopw [6, 7] (fun v6 v7 wr => ∃ (i : Nat) (a6 : Option Addr) (m6 c6 : Nat), i ≤ n ∧ v7 = .int .i64 i ∧ v6 = .slice a6 m6 c6 ∧ ((l.take i).filter (fun x => !sh x)).length = m6 ∧ Own wr W1.heap.size (.slice a6 m6 c6) ((l.take i).filter (fun x => !sh x)) ∧ Below W1.heap.size W1 wr) (fun _ v7 _ => n - (intOf v7).toNat)
  case atStart => exact ⟨0, none, 0, 0, by omega, rfl, rfl, rfl, Own.nil _ _, by rw [← hW]; exact Below.refl _ _⟩
  case round =>
    obtain ⟨i, a6, m6, c6, hi, rfl, rfl, hm6_, hO, hB⟩ := hrel
    have HB : Hid (Below W1.heap.size W1 wr) := hB
    have HO : Hid (Own wr W1.heap.size (.slice a6 m6 c6) ((l.take i).filter (fun x => !sh x))) := hO
    have hm6 : Hid (((l.take i).filter (fun x => !sh x)).length = m6) := hm6_
    have c3 := (H.out.2.1.below hB).c3
    have hlen := H.out.2.2.2.2.2.1
    have hin0 : (0 : Int) ≤ (i : Int) := by omega
    by_cases hit : i < n
    · have hin1 : (i : Int) < (n : Int) := by omega
      obtain ⟨b, o, rfl⟩ := H.out.1.some' (by omega)
      obtain ⟨x, hx⟩ : ∃ x, l[i]? = some x := ⟨_, List.getElem?_eq_getElem (by omega)⟩
      have hxw := H.out.2.2.1 x (List.mem_of_getElem? hx)
      have htk : l.take (i + 1) = l.take i ++ [x] := by rw [List.take_add_one, hx]; rfl
      have s0 : wr.cell? ⟨b, o + i * 10, none⟩ = some (.int .i64 x.k.vid) := (H.out.1.below hB).cell hx (k := 0) (v := .int .i64 x.k.vid) rfl (by omega)
      have s7_ : wr.cell? ⟨b, o + i * 10 + 7, none⟩ = some (.int .i64 x.port) := (H.out.1.below hB).cell hx (k := 7) (v := .int .i64 x.port) rfl (by omega)
      have s8_ : wr.cell? ⟨b, o + i * 10 + 8, none⟩ = some (.bool x.st) := (H.out.1.below hB).cell hx (k := 8) (v := .bool x.st) rfl (by omega)
      clear hB hO hm6_ hxw
      cases hst : x.st
      · rw [hst] at s8_
        by_cases hk : x.port = port
        · have hkeep : Hid ((l.take (i + 1)).filter (fun x => !sh x) = (l.take i).filter (fun x => !sh x)) := by
            show _ = _
            rw [htk, List.filter_append, List.filter_cons_of_neg (by rw [SH.out]; simp [flushSh, hst, hk]), List.filter_nil, List.append_nil]
          clear htk
          go_wp2
          go_roundw
          case rel => exact ⟨i + 1, a6, m6, c6, by omega, by go_num, rfl, by rw [hkeep.out]; exact hm6.out, by rw [hkeep.out]; exact HO.out, HB.out⟩
          case measure => simp [intOf]; omega
        · have hk2 : (x.port != port) = true := by simpa using hk
          have hkeep : Hid ((l.take (i + 1)).filter (fun x => !sh x) = (l.take i).filter (fun x => !sh x) ++ [x]) := by
            show _ = _
            rw [htk, List.filter_append, List.filter_cons_of_pos (by rw [SH.out]; simp [flushSh, hst, hk])]
            rfl
          clear htk
          clear hst
          have hBY : Below W1.heap.size W1 wr := HB.out
          have hOY : Own wr W1.heap.size (.slice a6 m6 c6) ((l.take i).filter (fun x => !sh x)) := HO.out
          have lx : (ldS 55 (.pointer (some ⟨b, o + i * 10, none⟩))).run Try.prog wr = .ok (.agg #[.int .i64 x.k.vid, .int .u8 x.k.a, .int .u8 x.k.b, .int .u8 x.k.c, .int .u8 x.k.d, .int .u8 x.k.e, .int .u8 x.k.f, .int .i64 x.port, .bool x.st, .int .i64 x.seen]) wr := (H.out.1.below hBY).ld hx
          obtain ⟨Y1, hY1⟩ : ∃ Y1, wr.alloc (.cells #[.int .i64 x.k.vid, .int .u8 x.k.a, .int .u8 x.k.b, .int .u8 x.k.c, .int .u8 x.k.d, .int .u8 x.k.e, .int .u8 x.k.f, .int .i64 x.port, .bool x.st, .int .i64 x.seen] 55) = Y1 := ⟨_, rfl⟩
          have b1 : Below wr.heap.size wr Y1 := by rw [← hY1]; exact (Below.refl _ _).alloc (Nat.le_refl _) _
          have s1 : SlAt Y1 (some ⟨wr.heap.size, 0, none⟩) 1 1 [x] := by rw [← hY1]; exact one_new wr x
          have o1 := hOY.below b1
          have hcl : ((l.take i).filter (fun x => !sh x)).length ≤ l.length := Nat.le_trans (List.length_filter_le _ _) (by rw [List.length_take]; omega)
          obtain ⟨v2, Y2, ap2, o2, g2⟩ := o1.app s1 (by have := H.out.2.2.2.2.1; simp only [List.length_singleton]; omega) (Nat.le_trans hBY.size b1.size) 27
          have b12 := below_over hBY b1
          have hB2 : Below W1.heap.size W1 Y2 := b12.trans (below_of_grown g2 b12.size (fun j e => (World.ownsRow.lt o1 j e).1))
          rw [← hkeep.out] at o2
          obtain ⟨a7, c7, hv7, s7, _⟩ := o2.form
          obtain ⟨m7, hm7⟩ : ∃ m, ((l.take (i + 1)).filter (fun x => !sh x)).length = m := ⟨_, rfl⟩
          rw [hm7] at hv7
          subst hv7
          have G2 : Hid (Below W1.heap.size W1 Y2 ∧ Own Y2 W1.heap.size (.slice a7 m7 c7) ((l.take (i + 1)).filter (fun x => !sh x)) ∧ ((l.take (i + 1)).filter (fun x => !sh x)).length = m7) := ⟨hB2, o2, hm7⟩
          clear hBY hOY b1 s1 o1 o2 g2 b12 hB2 s7 hm7 hcl 
          go_wp2
          go_roundw
          case rel => exact ⟨i + 1, a7, m7, c7, by omega, by go_num, rfl, G2.out.2.2, G2.out.2.1, G2.out.1⟩
          case measure => simp [intOf]; omega
      · rw [hst] at s8_
        have hkeep : Hid ((l.take (i + 1)).filter (fun x => !sh x) = (l.take i).filter (fun x => !sh x) ++ [x]) := by
          show _ = _
          rw [htk, List.filter_append, List.filter_cons_of_pos (by rw [SH.out]; simp [flushSh, hst])]
          rfl
        clear htk
        clear hst
        have hBY : Below W1.heap.size W1 wr := HB.out
        have hOY : Own wr W1.heap.size (.slice a6 m6 c6) ((l.take i).filter (fun x => !sh x)) := HO.out
        have lx : (ldS 55 (.pointer (some ⟨b, o + i * 10, none⟩))).run Try.prog wr = .ok (.agg #[.int .i64 x.k.vid, .int .u8 x.k.a, .int .u8 x.k.b, .int .u8 x.k.c, .int .u8 x.k.d, .int .u8 x.k.e, .int .u8 x.k.f, .int .i64 x.port, .bool x.st, .int .i64 x.seen]) wr := (H.out.1.below hBY).ld hx
        obtain ⟨Y1, hY1⟩ : ∃ Y1, wr.alloc (.cells #[.int .i64 x.k.vid, .int .u8 x.k.a, .int .u8 x.k.b, .int .u8 x.k.c, .int .u8 x.k.d, .int .u8 x.k.e, .int .u8 x.k.f, .int .i64 x.port, .bool x.st, .int .i64 x.seen] 55) = Y1 := ⟨_, rfl⟩
        have b1 : Below wr.heap.size wr Y1 := by rw [← hY1]; exact (Below.refl _ _).alloc (Nat.le_refl _) _
        have s1 : SlAt Y1 (some ⟨wr.heap.size, 0, none⟩) 1 1 [x] := by rw [← hY1]; exact one_new wr x
        have o1 := hOY.below b1
        have hcl : ((l.take i).filter (fun x => !sh x)).length ≤ l.length := Nat.le_trans (List.length_filter_le _ _) (by rw [List.length_take]; omega)
        obtain ⟨v2, Y2, ap2, o2, g2⟩ := o1.app s1 (by have := H.out.2.2.2.2.1; simp only [List.length_singleton]; omega) (Nat.le_trans hBY.size b1.size) 27
        have b12 := below_over hBY b1
        have hB2 : Below W1.heap.size W1 Y2 := b12.trans (below_of_grown g2 b12.size (fun j e => (World.ownsRow.lt o1 j e).1))
        rw [← hkeep.out] at o2
        obtain ⟨a7, c7, hv7, s7, _⟩ := o2.form
        obtain ⟨m7, hm7⟩ : ∃ m, ((l.take (i + 1)).filter (fun x => !sh x)).length = m := ⟨_, rfl⟩
        rw [hm7] at hv7
        subst hv7
        have G2 : Hid (Below W1.heap.size W1 Y2 ∧ Own Y2 W1.heap.size (.slice a7 m7 c7) ((l.take (i + 1)).filter (fun x => !sh x)) ∧ ((l.take (i + 1)).filter (fun x => !sh x)).length = m7) := ⟨hB2, o2, hm7⟩
        clear hBY hOY b1 s1 o1 o2 g2 b12 hB2 s7 hm7 hcl 
        go_wp2
        go_roundw
        case rel => exact ⟨i + 1, a7, m7, c7, by omega, by go_num, rfl, G2.out.2.2, G2.out.2.1, G2.out.1⟩
        case measure => simp [intOf]; omega
    · have hin : i = n := by omega
      subst hin
      have hin1 : ¬ (i : Int) < (i : Int) := by omega
      have htk : l.take i = l := List.take_of_length_le (by omega)
      rw [htk] at hO hm6_
      have hml : m6 ≤ i := by rw [← hm6_, ← hlen]; exact List.length_filter_le _ _
      obtain ⟨a6_, c6_, hv6, s6, n6⟩ := hO.form
      have hin_ : a6 = a6_ ∧ c6 = c6_ := by
        injection hv6 with e1 e2 e3
        exact ⟨e1, e3⟩
      obtain ⟨rfl, rfl⟩ := hin_
      rw [hm6_] at s6
      have d1 := H.out.2.1.below hB
      have fz := d1.fz 3
      have e3 := d1.set (a' := a6) (n' := m6) (k' := c6)
      obtain ⟨X4, hX4⟩ : ∃ X, wr.setCell ⟨w.heap.size, 3, none⟩ (.slice a6 m6 c6) = X := ⟨_, rfl⟩
      rw [hX4] at e3
      have d24 : RdAt X4 (w.heap.size + 1) ⟨0, 0, 0⟩ none 0 0 := (e3.2.block _ (H.out.2.2.2.2.2.2.1.below hB).lt (by simp)).trans (H.out.2.2.2.2.2.2.1.below hB)
      obtain ⟨X5, st5, r5, g5, z5⟩ := d24.put (c' := c) (a' := a6) (n' := m6) (k' := c6)
      have ld4 := e3.1.ld
      have hz1 := H.out.2.2.2.2.2.2.2.2
      have hb1 := H.out.2.2.2.2.2.2.2.1
      have bw := below_over hb1 hB
      have b4 : Below w.heap.size w X4 := bw.trans (below_of_grown e3.2 bw.size (fun j e => by cases e; exact Nat.le_refl _))
      have b5 : Below w.heap.size w X5 := b4.trans (below_of_grown g5 b4.size (fun j e => by cases e; omega))
      have s5 : SlAt X5 a6 m6 c6 (l.filter (fun x => !sh x)) := (s6.keptBut e3.2 (fun x e h => by have := (n6 x e).1; have := Option.some.inj h; omega)).keptBut g5 (fun x e h => by have := (n6 x e).1; have := Option.some.inj h; omega)
      have G : Hid (RvAt X5 (w.heap.size + 1) 29 (c.rs a6 m6 c6) ∧ Below w.heap.size w X5 ∧ SlAt X5 a6 m6 c6 (l.filter (fun x => !sh x)) ∧ (l.filter (fun x => !sh x)).length = m6 ∧ (∀ x, a6 = some x → w.heap.size ≤ x.block)) := ⟨r5, b5, s5, hm6_, fun x e => by have := (n6 x e).1; omega⟩
      clear hO hB hv6 s6 n6 d1 e3 d24 r5 g5 z5 bw b4 b5 s5 hm6_ htk hz1 hb1 HB HO hm6
      go_wp2
      refine bodyPost_ret (results_rowtmp rtR Try.results22 _ _ _ _ rfl G.out.1 rfl) rfl ?_
      have hmm := G.out.2.2.2.1
      refine ⟨⟨.agg (c.rs a6 m6 c6), ?_, ⟨a6, c6, by unfold remS; rw [hmm], by unfold remS; rw [hmm]; exact G.out.2.2.1, fun x e => .inr (G.out.2.2.2.2 x e)⟩⟩, G.out.2.1⟩
      unfold remS
      rw [hmm, hlen]
      rfl
set_option maxHeartbeats 4000000 in
theorem rage_any (c : Cf) (a : Option Addr) (n k : Nat) (l : List En) (tick : Int) (w : World) (h : SlAt w a n k l) (hl : Wfs l) (hn : n ≤ 1000) (hc : c.wf) :
    Calls Try.prog 20 #[.agg (c.rs a n k), .int .i64 tick] w fun r w' => PutOut a w.heap.size c (remS l (ageSh c.age tick)) r w' ∧ Below w.heap.size w w' := by
  obtain ⟨sh, hsh⟩ : ∃ sh, sh = ageSh c.age tick := ⟨_, rfl⟩
  rw [← hsh]
  have SH : Hid (sh = ageSh c.age tick) := hsh
  clear hsh
  obtain ⟨W1, hW, d1, d2, bW, zW⟩ := two_rf w c a n k
  have H : Hid (SlAt W1 a n k l ∧ RdAt W1 w.heap.size c a n k ∧ Wfs l ∧ c.wf ∧ n ≤ 1000 ∧ l.length = n ∧ RdAt W1 (w.heap.size + 1) ⟨0, 0, 0⟩ none 0 0 ∧ Below w.heap.size w W1 ∧ W1.heap.size = w.heap.size + 2) := ⟨h.below bW, d1, hl, hc, hn, h.len, d2, bW, zW⟩
  have hnn : (n : Int) ≤ 1000 := by omega
  clear h hl hn hc d1 d2 bW zW
  go_enter Try.func20, Try.ntmps20
  go_wp2_with fail
  go_loopw [6, 7] (fun v6 v7 wr => ∃ (i : Nat) (a6 : Option Addr) (m6 c6 : Nat), i ≤ n ∧ v7 = .int .i64 i ∧ v6 = .slice a6 m6 c6 ∧ ((l.take i).filter (fun x => !sh x)).length = m6 ∧ Own wr W1.heap.size (.slice a6 m6 c6) ((l.take i).filter (fun x => !sh x)) ∧ Below W1.heap.size W1 wr) (fun _ v7 _ => n - (intOf v7).toNat)
  case atStart => exact ⟨0, none, 0, 0, by omega, rfl, rfl, rfl, Own.nil _ _, by rw [← hW]; exact Below.refl _ _⟩
  case round =>
    obtain ⟨i, a6, m6, c6, hi, rfl, rfl, hm6_, hO, hB⟩ := hrel
    have HB : Hid (Below W1.heap.size W1 wr) := hB
    have HO : Hid (Own wr W1.heap.size (.slice a6 m6 c6) ((l.take i).filter (fun x => !sh x))) := hO
    have hm6 : Hid (((l.take i).filter (fun x => !sh x)).length = m6) := hm6_
    have c3 := (H.out.2.1.below hB).c3
    have hlen := H.out.2.2.2.2.2.1
    have hin0 : (0 : Int) ≤ (i : Int) := by omega
    by_cases hit : i < n
    · have hin1 : (i : Int) < (n : Int) := by omega
      obtain ⟨b, o, rfl⟩ := H.out.1.some' (by omega)
      obtain ⟨x, hx⟩ : ∃ x, l[i]? = some x := ⟨_, List.getElem?_eq_getElem (by omega)⟩
      have hxw := H.out.2.2.1 x (List.mem_of_getElem? hx)
      have htk : l.take (i + 1) = l.take i ++ [x] := by rw [List.take_add_one, hx]; rfl
      have f3 := fun z : Later wr => ((H.out.2.1.below hB).below z.below).c3
      have fa := fun z : Later wr => ((H.out.2.1.below hB).below z.below).c2
      have s8 : ∀ z : Later wr, z.val.cell? ⟨b, o + i * 10 + 8, none⟩ = some (.bool x.st) := fun z => ((H.out.1.below hB).below z.below).cell hx (k := 8) (v := .bool x.st) rfl (by omega)
      have sq : ∀ z : Later wr, z.val.cell? ⟨b, o + i * 10 + 9, none⟩ = some (.int .i64 x.seen) := fun z => ((H.out.1.below hB).below z.below).cell hx (k := 9) (v := .int .i64 x.seen) rfl (by omega)
      have hse := hxw.seen
      have hag := H.out.2.2.2.1.age
      have hwr : IntKind.i64.wrap (x.seen + c.age) = x.seen + c.age := IntWalk.i64_in _ (by omega)
      clear hB hO hm6_ hxw
      cases hst : x.st
      · simp only [hst] at s8
        by_cases hk : x.seen + c.age > tick
        · have hk2 : ¬ x.seen + c.age ≤ tick := by omega
          have hkeep : Hid ((l.take (i + 1)).filter (fun x => !sh x) = (l.take i).filter (fun x => !sh x) ++ [x]) := by
            show _ = _
            rw [htk, List.filter_append, List.filter_cons_of_pos (by rw [SH.out]; simp [ageSh, hst, hk2])]
            rfl
          clear htk
          clear hst
          go_wp2_with fail
          refine wp_region_later (by kernel_rfl) (by kernel_rfl) ?_
          repeat (go_big_quiet_step (first | exact rfl))
          refine wpQuiet_nil ?_
          intro _ hw'
          obtain ⟨z, rfl⟩ := hw'
          obtain ⟨Y, hY⟩ : ∃ Y, z.val = Y := ⟨_, rfl⟩
          have hBY : Below W1.heap.size W1 Y := by rw [← hY]; exact (below_over HB.out z.below)
          have hOY : Own Y W1.heap.size (.slice a6 m6 c6) ((l.take i).filter (fun x => !sh x)) := by rw [← hY]; exact (HO.out.below z.below)
          rw [hY]
          clear hY
          have d3 := (H.out.2.1.below hBY).c3
          have lx : (ldS 55 (.pointer (some ⟨b, o + i * 10, none⟩))).run Try.prog Y = .ok (.agg #[.int .i64 x.k.vid, .int .u8 x.k.a, .int .u8 x.k.b, .int .u8 x.k.c, .int .u8 x.k.d, .int .u8 x.k.e, .int .u8 x.k.f, .int .i64 x.port, .bool x.st, .int .i64 x.seen]) Y := (H.out.1.below hBY).ld hx
          obtain ⟨Y1, hY1⟩ : ∃ Y1, Y.alloc (.cells #[.int .i64 x.k.vid, .int .u8 x.k.a, .int .u8 x.k.b, .int .u8 x.k.c, .int .u8 x.k.d, .int .u8 x.k.e, .int .u8 x.k.f, .int .i64 x.port, .bool x.st, .int .i64 x.seen] 55) = Y1 := ⟨_, rfl⟩
          have b1 : Below Y.heap.size Y Y1 := by rw [← hY1]; exact (Below.refl _ _).alloc (Nat.le_refl _) _
          have s1 : SlAt Y1 (some ⟨Y.heap.size, 0, none⟩) 1 1 [x] := by rw [← hY1]; exact one_new Y x
          have o1 := hOY.below b1
          have hcl : ((l.take i).filter (fun x => !sh x)).length ≤ l.length := Nat.le_trans (List.length_filter_le _ _) (by rw [List.length_take]; omega)
          obtain ⟨v2, Y2, ap2, o2, g2⟩ := o1.app s1 (by have := H.out.2.2.2.2.1; simp only [List.length_singleton]; omega) (Nat.le_trans hBY.size b1.size) 27
          have b12 := below_over hBY b1
          have hB2 : Below W1.heap.size W1 Y2 := b12.trans (below_of_grown g2 b12.size (fun j e => (World.ownsRow.lt o1 j e).1))
          rw [← hkeep.out] at o2
          obtain ⟨a7, c7, hv7, s7, _⟩ := o2.form
          obtain ⟨m7, hm7⟩ : ∃ m, ((l.take (i + 1)).filter (fun x => !sh x)).length = m := ⟨_, rfl⟩
          rw [hm7] at hv7
          subst hv7
          have G2 : Hid (Below W1.heap.size W1 Y2 ∧ Own Y2 W1.heap.size (.slice a7 m7 c7) ((l.take (i + 1)).filter (fun x => !sh x)) ∧ ((l.take (i + 1)).filter (fun x => !sh x)).length = m7) := ⟨hB2, o2, hm7⟩
          clear hBY hOY b1 s1 o1 o2 g2 b12 hB2 s7 hm7 hcl f3 s8 sq fa c3 
          go_wp2
          go_roundw
          case rel => exact ⟨i + 1, a7, m7, c7, by omega, by go_num, rfl, G2.out.2.2, G2.out.2.1, G2.out.1⟩
          case measure => simp [intOf]; omega
        · have hk2 : x.seen + c.age ≤ tick := by omega
          have hk3 : decide (x.seen + c.age > tick) = false := by simpa using hk
          have hkeep : Hid ((l.take (i + 1)).filter (fun x => !sh x) = (l.take i).filter (fun x => !sh x)) := by
            show _ = _
            rw [htk, List.filter_append, List.filter_cons_of_neg (by rw [SH.out]; simp [ageSh, hst, hk2]), List.filter_nil, List.append_nil]
          clear htk
          go_wp2_with fail
          refine wp_region_later (by kernel_rfl) (by kernel_rfl) ?_
          repeat (go_big_quiet_step (first | exact rfl))
          refine wpQuiet_nil ?_
          intro _ hw'
          obtain ⟨z, rfl⟩ := hw'
          clear f3 s8 sq fa c3
          go_wp2
          go_roundw
          case rel => exact ⟨i + 1, a6, m6, c6, by omega, by go_num, rfl, by rw [hkeep.out]; exact hm6.out, by rw [hkeep.out]; exact HO.out.below z.below, below_over HB.out z.below⟩
          case measure => simp [intOf]; omega
      · simp only [hst] at s8
        have hkeep : Hid ((l.take (i + 1)).filter (fun x => !sh x) = (l.take i).filter (fun x => !sh x) ++ [x]) := by
          show _ = _
          rw [htk, List.filter_append, List.filter_cons_of_pos (by rw [SH.out]; simp [ageSh, hst])]
          rfl
        clear htk
        clear hst
        go_wp2_with fail
        refine wp_region_later (by kernel_rfl) (by kernel_rfl) ?_
        repeat (go_big_quiet_step (first | exact rfl))
        refine wpQuiet_nil ?_
        intro _ hw'
        obtain ⟨z, rfl⟩ := hw'
        obtain ⟨Y, hY⟩ : ∃ Y, z.val = Y := ⟨_, rfl⟩
        have hBY : Below W1.heap.size W1 Y := by rw [← hY]; exact (below_over HB.out z.below)
        have hOY : Own Y W1.heap.size (.slice a6 m6 c6) ((l.take i).filter (fun x => !sh x)) := by rw [← hY]; exact (HO.out.below z.below)
        rw [hY]
        clear hY
        have d3 := (H.out.2.1.below hBY).c3
        have lx : (ldS 55 (.pointer (some ⟨b, o + i * 10, none⟩))).run Try.prog Y = .ok (.agg #[.int .i64 x.k.vid, .int .u8 x.k.a, .int .u8 x.k.b, .int .u8 x.k.c, .int .u8 x.k.d, .int .u8 x.k.e, .int .u8 x.k.f, .int .i64 x.port, .bool x.st, .int .i64 x.seen]) Y := (H.out.1.below hBY).ld hx
        obtain ⟨Y1, hY1⟩ : ∃ Y1, Y.alloc (.cells #[.int .i64 x.k.vid, .int .u8 x.k.a, .int .u8 x.k.b, .int .u8 x.k.c, .int .u8 x.k.d, .int .u8 x.k.e, .int .u8 x.k.f, .int .i64 x.port, .bool x.st, .int .i64 x.seen] 55) = Y1 := ⟨_, rfl⟩
        have b1 : Below Y.heap.size Y Y1 := by rw [← hY1]; exact (Below.refl _ _).alloc (Nat.le_refl _) _
        have s1 : SlAt Y1 (some ⟨Y.heap.size, 0, none⟩) 1 1 [x] := by rw [← hY1]; exact one_new Y x
        have o1 := hOY.below b1
        have hcl : ((l.take i).filter (fun x => !sh x)).length ≤ l.length := Nat.le_trans (List.length_filter_le _ _) (by rw [List.length_take]; omega)
        obtain ⟨v2, Y2, ap2, o2, g2⟩ := o1.app s1 (by have := H.out.2.2.2.2.1; simp only [List.length_singleton]; omega) (Nat.le_trans hBY.size b1.size) 27
        have b12 := below_over hBY b1
        have hB2 : Below W1.heap.size W1 Y2 := b12.trans (below_of_grown g2 b12.size (fun j e => (World.ownsRow.lt o1 j e).1))
        rw [← hkeep.out] at o2
        obtain ⟨a7, c7, hv7, s7, _⟩ := o2.form
        obtain ⟨m7, hm7⟩ : ∃ m, ((l.take (i + 1)).filter (fun x => !sh x)).length = m := ⟨_, rfl⟩
        rw [hm7] at hv7
        subst hv7
        have G2 : Hid (Below W1.heap.size W1 Y2 ∧ Own Y2 W1.heap.size (.slice a7 m7 c7) ((l.take (i + 1)).filter (fun x => !sh x)) ∧ ((l.take (i + 1)).filter (fun x => !sh x)).length = m7) := ⟨hB2, o2, hm7⟩
        clear hBY hOY b1 s1 o1 o2 g2 b12 hB2 s7 hm7 hcl f3 s8 sq fa c3 
        go_wp2
        go_roundw
        case rel => exact ⟨i + 1, a7, m7, c7, by omega, by go_num, rfl, G2.out.2.2, G2.out.2.1, G2.out.1⟩
        case measure => simp [intOf]; omega
    · have hin : i = n := by omega
      subst hin
      have hin1 : ¬ (i : Int) < (i : Int) := by omega
      have htk : l.take i = l := List.take_of_length_le (by omega)
      rw [htk] at hO hm6_
      have hml : m6 ≤ i := by rw [← hm6_, ← hlen]; exact List.length_filter_le _ _
      obtain ⟨a6_, c6_, hv6, s6, n6⟩ := hO.form
      have hin_ : a6 = a6_ ∧ c6 = c6_ := by
        injection hv6 with e1 e2 e3
        exact ⟨e1, e3⟩
      obtain ⟨rfl, rfl⟩ := hin_
      rw [hm6_] at s6
      have d1 := H.out.2.1.below hB
      have fz := d1.fz 3
      have e3 := d1.set (a' := a6) (n' := m6) (k' := c6)
      obtain ⟨X4, hX4⟩ : ∃ X, wr.setCell ⟨w.heap.size, 3, none⟩ (.slice a6 m6 c6) = X := ⟨_, rfl⟩
      rw [hX4] at e3
      have d24 : RdAt X4 (w.heap.size + 1) ⟨0, 0, 0⟩ none 0 0 := (e3.2.block _ (H.out.2.2.2.2.2.2.1.below hB).lt (by simp)).trans (H.out.2.2.2.2.2.2.1.below hB)
      obtain ⟨X5, st5, r5, g5, z5⟩ := d24.put (c' := c) (a' := a6) (n' := m6) (k' := c6)
      have ld4 := e3.1.ld
      have hz1 := H.out.2.2.2.2.2.2.2.2
      have hb1 := H.out.2.2.2.2.2.2.2.1
      have bw := below_over hb1 hB
      have b4 : Below w.heap.size w X4 := bw.trans (below_of_grown e3.2 bw.size (fun j e => by cases e; exact Nat.le_refl _))
      have b5 : Below w.heap.size w X5 := b4.trans (below_of_grown g5 b4.size (fun j e => by cases e; omega))
      have s5 : SlAt X5 a6 m6 c6 (l.filter (fun x => !sh x)) := (s6.keptBut e3.2 (fun x e h => by have := (n6 x e).1; have := Option.some.inj h; omega)).keptBut g5 (fun x e h => by have := (n6 x e).1; have := Option.some.inj h; omega)
      have G : Hid (RvAt X5 (w.heap.size + 1) 29 (c.rs a6 m6 c6) ∧ Below w.heap.size w X5 ∧ SlAt X5 a6 m6 c6 (l.filter (fun x => !sh x)) ∧ (l.filter (fun x => !sh x)).length = m6 ∧ (∀ x, a6 = some x → w.heap.size ≤ x.block)) := ⟨r5, b5, s5, hm6_, fun x e => by have := (n6 x e).1; omega⟩
      clear hO hB hv6 s6 n6 d1 e3 d24 r5 g5 z5 bw b4 b5 s5 hm6_ htk hz1 hb1 HB HO hm6
      go_wp2
      refine bodyPost_ret (results_rowtmp rtR Try.results20 _ _ _ _ rfl G.out.1 rfl) rfl ?_
      have hmm := G.out.2.2.2.1
      refine ⟨⟨.agg (c.rs a6 m6 c6), ?_, ⟨a6, c6, by unfold remS; rw [hmm], by unfold remS; rw [hmm]; exact G.out.2.2.1, fun x e => .inr (G.out.2.2.2.2 x e)⟩⟩, G.out.2.1⟩
      unfold remS
      rw [hmm, hlen]
      rfl
end Go.Proofs.Ytpbpofmlpbobmaa
