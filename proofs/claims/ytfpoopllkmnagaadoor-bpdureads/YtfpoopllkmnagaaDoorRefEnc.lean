/-
  The walk of a message's frame by definition: for every station and message.
-/
import Derived.Test.YtfpoopllkmnagaaDoorRefBytes
import Derived.Test.YtfpoopllkmnagaaDoorEncode
namespace Go.Proofs.YtfpoopllkmnagaaDoor
set_option linter.unusedVariables false
set_option maxRecDepth 4000
set_option linter.unusedSimpArgs false
open Go.RowKit

attribute [local go_sem ↓] ldS32 ldS49 ldS28 ldS30 ldS83 stS32 stS49 stS28 stS30 eqP_eq nqP_eq eqM_eq nqM_eq nqV_eq nqT_eq slS_eq


theorem M6.at {s : M6} {i : Nat} (h : i < 6) : s.cs[i]? = some (.int .u8 (s.l.getD i 0)) := by
  have h6 : i = 0 ∨ i = 1 ∨ i = 2 ∨ i = 3 ∨ i = 4 ∨ i = 5 := by omega
  rcases h6 with rfl | rfl | rfl | rfl | rfl | rfl <;> rfl
theorem MvAt.cell {W : World} {b : Nat} {s : M6} (h : MvAt W b s) (i : Nat) (hi : i < 6) : W.cell? ⟨b, i, none⟩ = some (.int .u8 (s.l.getD i 0)) := cell_at h i _ (M6.at hi)
theorem take_snoc (l : List Int) (i : Nat) (h : i < l.length) : l.take (i + 1) = l.take i ++ [l.getD i 0] := by
  rw [List.take_add_one, List.getElem?_eq_getElem h, List.getD_eq_getElem?_getD, List.getElem?_eq_getElem h]
  rfl
theorem menc_ref (s : M6) (m : Bp) (h : okB m = true) : [1, 128, 194, 0, 0, 0] ++ s.l ++ [0, 3 + ((mbytes m).length : Int), 66, 66, 3] ++ mbytes m = menc s m := by
  have hk := lenK_le m.k
  have e : be 2 (3 + lenK m.k) = [0, 3 + (lenK m.k : Int)] := by
    simp [be, List.range_succ]
    omega
  unfold menc
  rw [mbytes_len h, e]
  simp

set_option maxHeartbeats 4000000 in
theorem eref_arg (s : M6) (m : Bp) (w : World) (hR : Rl w) (hs : s.ok) (hm : m.wf) (hk : ¬ s.kd = 1) :
    Calls Tryd.prog 15 #[.agg s.cs, .agg m.cs] w fun r w' => ∃ v, r = .returned (.tuple #[v, .int .i64 (encE s m)]) ∧ Own w' w.heap.size v (encO s m) ∧ Below w.heap.size w w' := by
  have h0 := ESt.start w s m hR
  obtain ⟨W0, hW0⟩ : ∃ W, (w.alloc (.cells s.cs 49)).alloc (.cells m.cs 32) = W := ⟨_, rfl⟩
  rw [hW0] at h0
  have lm := h0.mv.ld
  have H0 : Hid (ESt w W0 s m) := h0
  have HV : Hid (s.ok ∧ m.wf) := ⟨hs, hm⟩
  have EK : Hid (¬ s.kd = 1) := hk
  have HE : Hid (encE s m = 1 ∧ encO s m = []) := ⟨by unfold encE; rw [if_neg hk], by unfold encO; rw [if_neg hk]⟩
  clear h0 hR hs hm
  go_enter Tryd.func15, Tryd.ntmps15
  go_wp2_with fail
  try rw [hW0]
  refine (kind_r s _ HV.out.1).mono ?_
  rintro _ W1 ⟨rfl, b1⟩
  have H1 : Hid (ESt w W1 s m) := H0.out.later b1
  obtain ⟨kd, hkd⟩ : ∃ k, s.kd = k := ⟨_, rfl⟩
  rw [hkd] at hk ⊢
  clear H0 lm b1 hW0 hkd
  go_wp2
  go_ret2
  rw [HE.out.1, HE.out.2]
  exact ⟨_, rfl, own_nil _ _, H1.out.below⟩

set_option maxHeartbeats 4000000 in
theorem eref_bad (s : M6) (m : Bp) (w : World) (hR : Rl w) (hs : s.ok) (hm : m.wf) (hk : s.kd = 1) (ho : okB m = false) :
    Calls Tryd.prog 15 #[.agg s.cs, .agg m.cs] w fun r w' => ∃ v, r = .returned (.tuple #[v, .int .i64 (encE s m)]) ∧ Own w' w.heap.size v (encO s m) ∧ Below w.heap.size w w' := by
  have h0 := ESt.start w s m hR
  obtain ⟨W0, hW0⟩ : ∃ W, (w.alloc (.cells s.cs 49)).alloc (.cells m.cs 32) = W := ⟨_, rfl⟩
  rw [hW0] at h0
  have lm := h0.mv.ld
  have H0 : Hid (ESt w W0 s m) := h0
  have HV : Hid (s.ok ∧ m.wf) := ⟨hs, hm⟩
  have EK : Hid (s.kd = 1) := hk
  clear h0 hR hs hm
  go_enter Tryd.func15, Tryd.ntmps15
  go_wp2_with fail
  try rw [hW0]
  refine (kind_r s _ HV.out.1).mono ?_
  rintro _ W1 ⟨rfl, b1⟩
  rw [EK.out]
  have H1 : Hid (ESt w W1 s m) := H0.out.later b1
  have l1 := H1.out.pv.ld
  clear H0 lm b1 hW0 hk
  go_wp2_with fail
  refine (bref_any m _ HV.out.2).mono ?_
  rintro _ W2 ⟨s2, rfl, o2, b2⟩
  have H2 : Hid (ESt w W2 s m) := H1.out.later b2
  have HC : Hid (chkP m = 50) := by show _ = _; unfold chkP; rw [ho]; rfl
  rw [HC.out]
  have HE : Hid (encE s m = 50 ∧ encO s m = []) := ⟨by unfold encE; rw [if_pos EK.out, HC.out], by unfold encO; rw [ho]; simp⟩
  clear H1 l1 b2 o2 ho
  go_wp2
  go_ret2
  rw [HE.out.1, HE.out.2]
  exact ⟨_, rfl, own_nil _ _, H2.out.below⟩

set_option maxHeartbeats 4000000 in
theorem eref_ok (s : M6) (m : Bp) (w : World) (hR : Rl w) (hs : s.ok) (hm : m.wf) (hk : s.kd = 1) (ho : okB m = true) :
    Calls Tryd.prog 15 #[.agg s.cs, .agg m.cs] w fun r w' => ∃ v, r = .returned (.tuple #[v, .int .i64 (encE s m)]) ∧ Own w' w.heap.size v (encO s m) ∧ Below w.heap.size w w' := by
  have h0 := ESt.start w s m hR
  obtain ⟨W0, hW0⟩ : ∃ W, (w.alloc (.cells s.cs 49)).alloc (.cells m.cs 32) = W := ⟨_, rfl⟩
  rw [hW0] at h0
  have lm := h0.mv.ld
  have H0 : Hid (ESt w W0 s m) := h0
  have HV : Hid (s.ok ∧ m.wf) := ⟨hs, hm⟩
  have EK : Hid (s.kd = 1) := hk
  clear h0 hR hs hm
  go_enter Tryd.func15, Tryd.ntmps15
  go_wp2_with fail
  try rw [hW0]
  refine (kind_r s _ HV.out.1).mono ?_
  rintro _ W1 ⟨rfl, b1⟩
  rw [EK.out]
  have H1 : Hid (ESt w W1 s m) := H0.out.later b1
  have l1 := H1.out.pv.ld
  clear H0 lm b1 hW0 hk
  go_wp2_with fail
  refine (bref_any m _ HV.out.2).mono ?_
  rintro _ W2 ⟨s2, rfl, o2, b2⟩
  have H2 : Hid (ESt w W2 s m) := H1.out.later b2
  have HC : Hid (chkP m = 0) := by show _ = _; unfold chkP; rw [ho]; rfl
  rw [HC.out]
  have HE : Hid (encE s m = 0 ∧ encO s m = menc s m ∧ okB m = true) := ⟨by unfold encE; rw [if_pos EK.out, HC.out], by unfold encO; rw [if_pos EK.out, if_pos ho], ho⟩
  have eO : mbO m = mbytes m := by unfold mbO; rw [ho]; rfl
  rw [eO] at o2
  obtain ⟨a2, n2, c2, rfl⟩ := src_form o2.src
  obtain ⟨hn2, _, _⟩ := src_short o2.src
  have hn36 : n2 ≤ 36 := by rw [hn2, mbytes_len ho]; exact lenK_le _
  have O2 : Hid (Src W2 (.slice a2 n2 c2) (mbytes m) ∧ n2 = (mbytes m).length) := ⟨o2.src, hn2⟩
  clear H1 l1 b2 o2 ho eO hn2
  go_wp2_with fail
  refine (group_any W2).mono ?_
  rintro _ W3 ⟨s3, rfl, o3, b3⟩
  obtain ⟨a3, n3, c3, rfl⟩ := src_form o3.src
  have O3 : Hid (Own W3 W2.heap.size (.slice a3 n3 c3) ([1, 128, 194, 0, 0, 0] ++ s.l.take 0) ∧ Below W2.heap.size W2 W3) := ⟨by simpa using o3, b3⟩
  clear o3 b3
  go_wp2_with fail
  go_loopw [8, 9] (fun v8 v9 wr => ∃ (i : Nat) (a : Option Addr) (n c : Nat), i ≤ 6 ∧ v8 = .slice a n c ∧ v9 = .int .i64 (i : Nat) ∧ Own wr W2.heap.size (.slice a n c) ([1, 128, 194, 0, 0, 0] ++ s.l.take i) ∧ Below W2.heap.size W2 wr) (fun _ v9 _ => 6 - (intOf v9).toNat)
  case atStart => exact ⟨0, a3, n3, c3, by omega, rfl, rfl, O3.out.1, O3.out.2⟩
  case round =>
    obtain ⟨i, a, n, c, hi, rfl, rfl, ho, hb⟩ := hrel
    have HO : Hid (Own wr W2.heap.size (.slice a n c) ([1, 128, 194, 0, 0, 0] ++ s.l.take i) ∧ Below W2.heap.size W2 wr) := ⟨ho, hb⟩
    by_cases hlt : i < 6
    · have p1 : (i : Int) < 6 := by omega
      have cl := (H2.out.later hb).mv.cell i hlt
      have sz := hb.size
      obtain ⟨y, hy⟩ : ∃ y, s.l.getD i 0 = y := ⟨_, rfl⟩
      have HY : Hid (s.l.take (i + 1) = s.l.take i ++ [y]) := by
        show _ = _
        rw [← hy]
        exact take_snoc s.l i (by simpa [M6.l] using hlt)
      rw [hy] at cl
      clear ho hb hy
      have OA : Hid (Own (wr.alloc (.cells #[.int .u8 y] 5)) W2.heap.size (.slice a n c) ([1, 128, 194, 0, 0, 0] ++ s.l.take i)) := own_alloc HO.out.1 _
      have SA : Hid (Src (wr.alloc (.cells #[.int .u8 y] 5)) (.slice (some ⟨wr.heap.size, 0, none⟩) 1 1) [y]) := (own_new wr [y] _ _ _ rfl rfl (Nat.le_refl _) (by simp)).src
      have ZA : Hid (W2.heap.size ≤ (wr.alloc (.cells #[.int .u8 y] 5)).heap.size) := by show _ ≤ _; simp; omega
      go_wp2_with (at_builtin; refine wpList_app rfl _ _ rfl (by rfl) (by rfl) OA.out SA.out (by simp [M6.l]; omega) ZA.out ?_)
      intro v' w' o' g' _
      obtain ⟨a', n', c', rfl⟩ := src_form o'.src
      have HO' : Hid (Own w' W2.heap.size (.slice a' n' c') ([1, 128, 194, 0, 0, 0] ++ s.l.take (i + 1)) ∧ Below W2.heap.size W2 w') := by
        refine ⟨?_, ?_⟩
        · rw [HY.out, ← List.append_assoc]
          exact o'
        · have h1 : Below W2.heap.size W2 (wr.alloc (.cells #[.int .u8 y] 5)) := HO.out.2.alloc HO.out.2.size _
          exact h1.trans (grown_below OA.out g' ZA.out)
      clear o' g' cl OA SA ZA HO
      go_wp2
      go_roundw
      case rel => exact ⟨i + 1, a', n', c', by omega, rfl, by congr 1, HO'.out.1, HO'.out.2⟩
      case measure => simp [intOf]; omega
    · have : i = 6 := by omega
      subst this
      rw [show ((6 : Nat) : Int) = 6 from rfl]
      clear ho hb
      have sz := HO.out.2.size
      have OA : Hid (Own (wr.alloc (.cells #[.int .u8 0, .int .u8 (3 + (n2 : Int)), .int .u8 66, .int .u8 66, .int .u8 3] 5)) W2.heap.size (.slice a n c) ([1, 128, 194, 0, 0, 0] ++ s.l.take 6)) := own_alloc HO.out.1 _
      have SA : Hid (Src (wr.alloc (.cells #[.int .u8 0, .int .u8 (3 + (n2 : Int)), .int .u8 66, .int .u8 66, .int .u8 3] 5)) (.slice (some ⟨wr.heap.size, 0, none⟩) 5 5) [0, 3 + (n2 : Int), 66, 66, 3]) := (own_new wr [0, 3 + (n2 : Int), 66, 66, 3] _ _ _ rfl rfl (Nat.le_refl _) (by simp)).src
      have ZA : Hid (W2.heap.size ≤ (wr.alloc (.cells #[.int .u8 0, .int .u8 (3 + (n2 : Int)), .int .u8 66, .int .u8 66, .int .u8 3] 5)).heap.size) := by show _ ≤ _; simp; omega
      go_wp2_with (at_builtin; refine wpList_app rfl _ _ rfl (by rfl) (by rfl) OA.out SA.out (by simp [M6.l]) ZA.out ?_)
      intro v4 w4 o4 g4 _
      obtain ⟨a4, n4, c4, rfl⟩ := src_form o4.src
      have O4 : Hid (Own w4 W2.heap.size (.slice a4 n4 c4) ([1, 128, 194, 0, 0, 0] ++ s.l.take 6 ++ [0, 3 + (n2 : Int), 66, 66, 3])) := o4
      have B4 : Hid (Below W2.heap.size W2 w4) := (HO.out.2.alloc HO.out.2.size _).trans (grown_below OA.out g4 ZA.out)
      have S4 : Hid (Src w4 (.slice a2 n2 c2) (mbytes m)) := O2.out.1.below B4.out
      clear o4 g4 OA SA ZA HO
      go_wp2_with (at_builtin; refine wpList_app rfl _ _ rfl (by rfl) (by rfl) O4.out S4.out (by have := O2.out.2; simp [M6.l]; omega) B4.out.size ?_)
      intro v5 w5 o5 g5 _
      have RZ : Hid (Own w5 w.heap.size v5 (menc s m) ∧ Below w.heap.size w w5) := by
        have e := menc_ref s m HE.out.2.2
        rw [← O2.out.2] at e
        refine ⟨?_, ?_⟩
        · rw [← e]
          exact o5.base H2.out.below.size
        · exact H2.out.below.trans ((B4.out.trans (grown_below O4.out g5 B4.out.size)).mono H2.out.below.size)
      clear o5 g5 O4 S4
      go_wp2
      go_ret2
      rw [HE.out.1, HE.out.2.1]
      exact ⟨_, rfl, RZ.out.1, RZ.out.2⟩

/-- The frame of any message from any station, or the error, by definition. -/
theorem eref_any (s : M6) (m : Bp) (w : World) (hR : Rl w) (hs : s.ok) (hm : m.wf) :
    Calls Tryd.prog 15 #[s.v, .agg m.cs] w fun r w' => ∃ v, r = .returned (.tuple #[v, .int .i64 (encE s m)]) ∧ Own w' w.heap.size v (encO s m) ∧ Below w.heap.size w w' := by
  by_cases hk : s.kd = 1
  · cases ho : okB m
    · exact eref_bad s m w hR hs hm hk ho
    · exact eref_ok s m w hR hs hm hk ho
  · exact eref_arg s m w hR hs hm hk
end Go.Proofs.YtfpoopllkmnagaaDoor
