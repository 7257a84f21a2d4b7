/-
  The walk of a message's frame: for every station and message.
-/
import Derived.Test.YtfpoopllkmnagaaDoorBytesm
namespace Go.Proofs.YtfpoopllkmnagaaDoor
set_option linter.unusedVariables false
set_option maxRecDepth 4000
set_option linter.unusedSimpArgs false
open Go.RowKit

theorem kind_m (m : M6) (w : World) (h : m.ok) : Calls Tryd.prog 35 #[m.v] w fun r w' => r = .returned (.int .i64 m.kd) ∧ Below w.heap.size w w' := kind_any _ _ _ _ _ _ w (h _ (by simp [M6.l]))
theorem kind_r (m : M6) (w : World) (h : m.ok) : Calls Tryd.prog 37 #[m.v] w fun r w' => r = .returned (.int .i64 m.kd) ∧ Below w.heap.size w w' := kind_ref _ _ _ _ _ _ w (h _ (by simp [M6.l]))
theorem nu_m (m : M6) (h : m.ok) : ((nu m.l : Nat) : Int) = num m.a m.b m.c m.d m.e m.f := by
  have h1 := h m.a (by simp [M6.l])
  have h2 := h m.b (by simp [M6.l])
  have h3 := h m.c (by simp [M6.l])
  have h4 := h m.d (by simp [M6.l])
  have h5 := h m.e (by simp [M6.l])
  have h6 := h m.f (by simp [M6.l])
  simp only [nu, M6.l, List.foldl_cons, List.foldl_nil, num]
  omega
theorem number_m (m : M6) (w : World) (h : m.ok) : Calls Tryd.prog 36 #[m.v] w fun r w' => r = .returned (.int .u64 (nu m.l : Nat)) ∧ Below w.heap.size w w' := by
  rw [nu_m m h]
  exact number_any _ _ _ _ _ _ w (h _ (by simp [M6.l])) (h _ (by simp [M6.l])) (h _ (by simp [M6.l])) (h _ (by simp [M6.l])) (h _ (by simp [M6.l])) (h _ (by simp [M6.l]))
theorem M6.okl {m : M6} (h : m.ok) : ∀ x ∈ m.l, 0 ≤ x ∧ x ≤ 255 := h
theorem from_m (m : M6) (w : World) (h : m.ok) : Calls Tryd.prog 39 #[.int .u64 (nu m.l : Nat)] w fun r w' => r = .returned m.v ∧ Below w.heap.size w w' := by
  have hl := nu_ok (l := m.l) h 6 (by simp [M6.l])
  refine (from_any (nu m.l : Nat) w (by omega)).mono ?_
  rintro _ w' ⟨rfl, hb⟩
  refine ⟨?_, hb⟩
  have h1 := h m.a (by simp [M6.l])
  have h2 := h m.b (by simp [M6.l])
  have h3 := h m.c (by simp [M6.l])
  have h4 := h m.d (by simp [M6.l])
  have h5 := h m.e (by simp [M6.l])
  have h6 := h m.f (by simp [M6.l])
  rw [nu_m m h]
  unfold M6.v num
  refine ret_agg6 ?_ ?_ ?_ ?_ ?_ ?_ <;> omega

/-- A message's frame; what Encode tells. -/
def menc (s : M6) (m : Bp) : List Int := [1, 128, 194, 0, 0, 0] ++ s.l ++ be 2 (3 + lenK m.k) ++ [66, 66, 3] ++ mbytes m
def encE (s : M6) (m : Bp) : Int := if s.kd = 1 then chkP m else 1
def encO (s : M6) (m : Bp) : List Int := if s.kd = 1 then (if okB m then menc s m else []) else []
theorem menc_len {s : M6} {m : Bp} (h : okB m = true) : (menc s m).length = 17 + lenK m.k := by simp [menc, be_len, mbytes_len h, M6.l]; omega
theorem lenK_le (k : Int) : lenK k ≤ 36 := by unfold lenK; split <;> (try split) <;> (try split) <;> omega
theorem menc_ok {s : M6} {m : Bp} (hs : s.ok) (hm : m.wf) : ∀ x ∈ menc s m, 0 ≤ x ∧ x ≤ 255 := by
  intro x hx
  simp only [menc, List.mem_append] at hx
  rcases hx with (((hx | hx) | hx) | hx) | hx
  · simp at hx; omega
  · exact hs x hx
  · exact be_ok _ _ x hx
  · simp at hx; omega
  · exact mbytes_ok hm x hx
theorem encO_ok {s : M6} {m : Bp} (hs : s.ok) (hm : m.wf) : ∀ x ∈ encO s m, 0 ≤ x ∧ x ≤ 255 := by
  unfold encO
  split
  · split
    · exact menc_ok hs hm
    · simp
  · simp
theorem menc_eq (s : M6) (m : Bp) (hs : s.ok) : [] ++ be 6 1652522221568 ++ be 6 (nu s.l) ++ be 2 (3 + lenK m.k) ++ be 3 4342275 ++ mbytes m = menc s m := by
  have e : be 6 (nu s.l) = s.l := be_nu (l := s.l) hs
  rw [e, show be 6 1652522221568 = [1, 128, 194, 0, 0, 0] by decide +kernel, show be 3 4342275 = [66, 66, 3] by decide +kernel]
  rfl

/-- Worlds at the head of Encode: the station's variable, the message's, the table. -/
structure ESt (w W : World) (s : M6) (m : Bp) : Prop where
  mv : MvAt W w.heap.size s
  pv : PvAt W (w.heap.size + 1) m
  rl : Rl W
  below : Below w.heap.size w W
theorem ESt.later {w W W' : World} {s : M6} {m : Bp} (h : ESt w W s m) (k : Below W.heap.size W W') : ESt w W' s m := ⟨h.mv.below k, h.pv.below k, h.rl.below k h.rl.lt, below_over h.below k⟩
theorem ESt.start (w : World) (s : M6) (m : Bp) (hR : Rl w) : ESt w ((w.alloc (.cells s.cs 49)).alloc (.cells m.cs 32)) s m := by
  have hB : Below w.heap.size w ((w.alloc (.cells s.cs 49)).alloc (.cells m.cs 32)) := ((Below.refl _ _).alloc (Nat.le_refl _) _).alloc (by simp) _
  refine ⟨(MvAt.new w s).below ((Below.refl _ _).alloc (Nat.le_refl _) _), ?_, hR.below hB hR.lt, hB⟩
  have := PvAt.new (w.alloc (.cells s.cs 49)) m
  simpa using this

attribute [local go_sem ↓] ldS32 ldS49 ldS28 ldS30 ldS83 stS32 stS49 stS28 stS30 eqP_eq nqP_eq eqM_eq nqM_eq nqV_eq nqT_eq mkS_eq slS_eq


set_option maxHeartbeats 2000000 in
theorem encode_arg (s : M6) (m : Bp) (w : World) (hR : Rl w) (hs : s.ok) (hm : m.wf) (hk : ¬ s.kd = 1) :
    Calls Tryd.prog 14 #[.agg s.cs, .agg m.cs] w fun r w' => ∃ v, r = .returned (.tuple #[v, .int .i64 (encE s m)]) ∧ Own w' w.heap.size v (encO s m) ∧ Below w.heap.size w w' := by
  have h0 := ESt.start w s m hR
  obtain ⟨W0, hW0⟩ : ∃ W, (w.alloc (.cells s.cs 49)).alloc (.cells m.cs 32) = W := ⟨_, rfl⟩
  rw [hW0] at h0
  have lm := h0.mv.ld
  have H0 : Hid (ESt w W0 s m) := h0
  have HV : Hid (s.ok ∧ m.wf) := ⟨hs, hm⟩
  have EK : Hid (¬ s.kd = 1) := hk
  have HE : Hid (encE s m = 1 ∧ encO s m = []) := ⟨by unfold encE; rw [if_neg hk], by unfold encO; rw [if_neg hk]⟩
  clear h0 hR hs hm
  go_enter Tryd.func14, Tryd.ntmps14
  go_wp2_with fail
  try rw [hW0]
  refine (kind_m s _ HV.out.1).mono ?_
  rintro _ W1 ⟨rfl, b1⟩
  have H1 : Hid (ESt w W1 s m) := H0.out.later b1
  obtain ⟨kd, hkd⟩ : ∃ k, s.kd = k := ⟨_, rfl⟩
  rw [hkd] at hk ⊢
  clear H0 lm b1 hW0 hkd
  go_wp2
  go_ret2
  rw [HE.out.1, HE.out.2]
  exact ⟨_, rfl, own_nil _ _, H1.out.below⟩

set_option maxHeartbeats 2000000 in
theorem encode_bad (s : M6) (m : Bp) (w : World) (hR : Rl w) (hs : s.ok) (hm : m.wf) (hk : s.kd = 1) (ho : okB m = false) :
    Calls Tryd.prog 14 #[.agg s.cs, .agg m.cs] w fun r w' => ∃ v, r = .returned (.tuple #[v, .int .i64 (encE s m)]) ∧ Own w' w.heap.size v (encO s m) ∧ Below w.heap.size w w' := by
  have h0 := ESt.start w s m hR
  obtain ⟨W0, hW0⟩ : ∃ W, (w.alloc (.cells s.cs 49)).alloc (.cells m.cs 32) = W := ⟨_, rfl⟩
  rw [hW0] at h0
  have lm := h0.mv.ld
  have H0 : Hid (ESt w W0 s m) := h0
  have HV : Hid (s.ok ∧ m.wf) := ⟨hs, hm⟩
  have EK : Hid (s.kd = 1) := hk
  clear h0 hR hs hm
  go_enter Tryd.func14, Tryd.ntmps14
  go_wp2_with fail
  try rw [hW0]
  refine (kind_m s _ HV.out.1).mono ?_
  rintro _ W1 ⟨rfl, b1⟩
  rw [EK.out]
  have H1 : Hid (ESt w W1 s m) := H0.out.later b1
  have l1 := H1.out.pv.ld
  clear H0 lm b1 hW0 hk
  go_wp2_with fail
  refine (bytes_any m _ H1.out.rl HV.out.2).mono ?_
  rintro _ W2 ⟨s2, rfl, o2, b2⟩
  have H2 : Hid (ESt w W2 s m) := H1.out.later b2
  have HC : Hid (chkP m = 50) := by show _ = _; unfold chkP; rw [ho]; rfl
  rw [HC.out]
  have HE : Hid (encE s m = 50 ∧ encO s m = []) := ⟨by unfold encE; rw [if_pos EK.out, HC.out], by unfold encO; rw [ho]; simp⟩
  clear H1 l1 b2 o2 ho
  go_wp2
  go_ret2
  rw [HE.out.1, HE.out.2]
  exact ⟨_, rfl, own_nil _ _, H2.out.below⟩

set_option maxHeartbeats 2000000 in
theorem encode_tcn (s : M6) (m : Bp) (w : World) (hR : Rl w) (hs : s.ok) (hm : m.wf) (hk : s.kd = 1) (ho : okB m = true) (hk3 : m.k = 2) :
    Calls Tryd.prog 14 #[.agg s.cs, .agg m.cs] w fun r w' => ∃ v, r = .returned (.tuple #[v, .int .i64 (encE s m)]) ∧ Own w' w.heap.size v (encO s m) ∧ Below w.heap.size w w' := by
  have h0 := ESt.start w s m hR
  obtain ⟨W0, hW0⟩ : ∃ W, (w.alloc (.cells s.cs 49)).alloc (.cells m.cs 32) = W := ⟨_, rfl⟩
  rw [hW0] at h0
  have lm := h0.mv.ld
  have H0 : Hid (ESt w W0 s m) := h0
  have HV : Hid (s.ok ∧ m.wf) := ⟨hs, hm⟩
  have EK : Hid (s.kd = 1) := hk
  clear h0 hR hs hm
  go_enter Tryd.func14, Tryd.ntmps14
  go_wp2_with fail
  try rw [hW0]
  refine (kind_m s _ HV.out.1).mono ?_
  rintro _ W1 ⟨rfl, b1⟩
  rw [EK.out]
  have H1 : Hid (ESt w W1 s m) := H0.out.later b1
  have l1 := H1.out.pv.ld
  clear H0 lm b1 hW0 hk
  go_wp2_with fail
  refine (bytes_any m _ H1.out.rl HV.out.2).mono ?_
  rintro _ W2 ⟨s2, rfl, o2, b2⟩
  have H2 : Hid (ESt w W2 s m) := H1.out.later b2
  have HC : Hid (chkP m = 0) := by show _ = _; unfold chkP; rw [ho]; rfl
  rw [HC.out]
  have HE : Hid (encE s m = 0 ∧ encO s m = menc s m) := ⟨by unfold encE; rw [if_pos EK.out, HC.out], by unfold encO; rw [if_pos EK.out, if_pos ho]⟩
  have eO : mbO m = mbytes m := by unfold mbO; rw [ho]; rfl
  rw [eO] at o2
  have hlen : (mbytes m).length = 4 := by rw [mbytes_len ho, hk3]; rfl
  obtain ⟨a2, n2, c2, rfl⟩ := src_form o2.src
  obtain ⟨hn2, _, _⟩ := src_short o2.src
  obtain rfl : n2 = 4 := by omega
  have O2 : Hid (Src W2 (.slice a2 4 c2) (mbytes m)) := o2.src
  have HL : Hid ((mbytes m).length = 4 ∧ lenK m.k = 4) := ⟨hlen, by rw [hk3]; rfl⟩
  have mk := mk21
  clear H1 l1 b2 o2 ho hk3 eO hlen hn2
  go_wp2_with fail
  refine (putter_any W2.heap.size 17 21 _ (zr_row W2 21)).mono ?_
  rintro _ W3 ⟨rfl, p3, b3⟩
  have b3' : Below W2.heap.size W2 W3 := ((Below.refl _ _).alloc (Nat.le_refl _) _).trans (b3.mono (by simp))
  obtain ⟨X, hX⟩ : ∃ X, (W2.alloc (.cells (zr 21) 5)).heap.size = X := ⟨_, rfl⟩
  rw [hX] at p3 ⊢
  have HX : Hid (X = W2.heap.size + 1) := by show _ = _; rw [← hX]; simp
  have P3 : Hid (PB W3 W3 W2.heap.size (X + 1) X 17 21 (w.heap.size + 1) m []) := ⟨p3, H2.out.pv.below b3', Ch.refl _ _, by have := H2.out.pv.lt; omega, by have := H2.out.pv.lt; rw [← hX]; simp; omega⟩
  have H3 : Hid (ESt w W3 s m) := H2.out.later b3'
  have B3 : Hid (Below W2.heap.size W2 W3) := b3'
  have S3 : Hid (w.heap.size + 1 < W2.heap.size) := H2.out.pv.lt
  clear p3 b3 b3' mk hX H2
  go_wp2_with fail
  refine (P3.out.put 6 1652522221568 6 1652522221568 rfl rfl (by omega) (by simp) (by omega) (by omega) (by omega)).mono ?_
  rintro _ W4 ⟨rfl, p4⟩
  have l4 := (p4.ch.mv H3.out.mv (by have := S3.out; have := HX.out; omega)).ld
  have P4 : Hid (PB W3 W4 W2.heap.size (X + 1) X 17 21 (w.heap.size + 1) m ([] ++ be 6 1652522221568)) := p4
  clear p4 P3
  go_wp2_with fail
  refine (number_m s _ HV.out.1).mono ?_
  rintro _ W5 ⟨rfl, b5⟩
  have P5 : Hid (PB W3 W5 W2.heap.size (X + 1) X 17 21 (w.heap.size + 1) m ([] ++ be 6 1652522221568)) := P4.out.below b5
  obtain ⟨NS, hNS⟩ : ∃ N, nu s.l = N := ⟨_, rfl⟩
  have ENS : Hid (nu s.l = NS ∧ NS < 281474976710656) := ⟨hNS, by rw [← hNS]; exact nu_ok (l := s.l) HV.out.1 6 (by simp [M6.l])⟩
  rw [hNS]
  clear hNS b5 P4 l4
  go_wp2_with fail
  refine (P5.out.put 6 (NS : Nat) 6 NS rfl rfl (by omega) (by simp [be_len]) (by omega) (by omega) (by have := ENS.out.2; omega)).mono ?_
  rintro _ W6 ⟨rfl, p6⟩
  have P6 : Hid (PB W3 W6 W2.heap.size (X + 1) X 17 21 (w.heap.size + 1) m ([] ++ be 6 1652522221568 ++ be 6 NS)) := p6
  clear p6 P5
  go_wp2_with fail
  refine (P6.out.put 2 7 2 7 rfl rfl (by omega) (by simp [be_len]) (by omega) (by omega) (by omega)).mono ?_
  rintro _ W7 ⟨rfl, p7⟩
  have P7 : Hid (PB W3 W7 W2.heap.size (X + 1) X 17 21 (w.heap.size + 1) m ([] ++ be 6 1652522221568 ++ be 6 NS ++ be 2 7)) := p7
  clear p7 P6
  go_wp2_with fail
  refine (P7.out.put 3 4342275 3 4342275 rfl rfl (by omega) (by simp [be_len]) (by omega) (by omega) (by omega)).mono ?_
  rintro _ W8 ⟨rfl, p8⟩
  have B8 : Hid (Below w.heap.size w W8 ∧ w.heap.size ≤ W8.heap.size) := by
    have := H3.out.below.trans (p8.ch.below H3.out.below.size (fun i _ e => by have := S3.out; have := HX.out; omega))
    exact ⟨this, this.size⟩
  have OW : Hid (Own W8 w.heap.size (.slice (some ⟨W2.heap.size, 0, none⟩) 17 21) ([] ++ be 6 1652522221568 ++ be 6 NS ++ be 2 7 ++ be 3 4342275)) := by
    have h1 := p8.st.row.own w.heap.size 17 (by have := S3.out; omega) (by omega) (by unfold maxLen; omega)
    have h2 := range_getD (([] : List Int) ++ be 6 1652522221568 ++ be 6 NS ++ be 2 7 ++ be 3 4342275)
    rw [show (([] : List Int) ++ be 6 1652522221568 ++ be 6 NS ++ be 2 7 ++ be 3 4342275).length = 17 by simp [be_len]] at h2
    rw [h2] at h1
    exact h1
  have O8 : Hid (Src W8 (.slice a2 4 c2) (mbytes m)) := O2.out.below (B3.out.trans (p8.ch.below B3.out.size (fun i _ e => by have := HX.out; omega)))
  clear p8 P7
  go_wp2_with (at_builtin; refine wpList_app rfl _ _ rfl (by rfl) (by rfl) OW.out O8.out (by rw [HL.out.1]; simp [be_len]) B8.out.2 ?_)
  intro v9 W9 o9 g9 _
  have O9 : Hid (Own W9 w.heap.size v9 (menc s m)) := by
    have e := menc_eq s m HV.out.1
    rw [HL.out.2, ENS.out.1] at e
    rw [← e]
    exact o9
  have B9 : Hid (Below w.heap.size w W9) := B8.out.1.trans (grown_below OW.out g9 B8.out.2)
  clear o9 g9
  go_wp2
  go_ret2
  rw [HE.out.1, HE.out.2]
  exact ⟨_, rfl, O9.out, B9.out⟩

set_option maxHeartbeats 2000000 in
theorem encode_cfg (s : M6) (m : Bp) (w : World) (hR : Rl w) (hs : s.ok) (hm : m.wf) (hk : s.kd = 1) (ho : okB m = true) (hk3 : m.k = 1) :
    Calls Tryd.prog 14 #[.agg s.cs, .agg m.cs] w fun r w' => ∃ v, r = .returned (.tuple #[v, .int .i64 (encE s m)]) ∧ Own w' w.heap.size v (encO s m) ∧ Below w.heap.size w w' := by
  have h0 := ESt.start w s m hR
  obtain ⟨W0, hW0⟩ : ∃ W, (w.alloc (.cells s.cs 49)).alloc (.cells m.cs 32) = W := ⟨_, rfl⟩
  rw [hW0] at h0
  have lm := h0.mv.ld
  have H0 : Hid (ESt w W0 s m) := h0
  have HV : Hid (s.ok ∧ m.wf) := ⟨hs, hm⟩
  have EK : Hid (s.kd = 1) := hk
  clear h0 hR hs hm
  go_enter Tryd.func14, Tryd.ntmps14
  go_wp2_with fail
  try rw [hW0]
  refine (kind_m s _ HV.out.1).mono ?_
  rintro _ W1 ⟨rfl, b1⟩
  rw [EK.out]
  have H1 : Hid (ESt w W1 s m) := H0.out.later b1
  have l1 := H1.out.pv.ld
  clear H0 lm b1 hW0 hk
  go_wp2_with fail
  refine (bytes_any m _ H1.out.rl HV.out.2).mono ?_
  rintro _ W2 ⟨s2, rfl, o2, b2⟩
  have H2 : Hid (ESt w W2 s m) := H1.out.later b2
  have HC : Hid (chkP m = 0) := by show _ = _; unfold chkP; rw [ho]; rfl
  rw [HC.out]
  have HE : Hid (encE s m = 0 ∧ encO s m = menc s m) := ⟨by unfold encE; rw [if_pos EK.out, HC.out], by unfold encO; rw [if_pos EK.out, if_pos ho]⟩
  have eO : mbO m = mbytes m := by unfold mbO; rw [ho]; rfl
  rw [eO] at o2
  have hlen : (mbytes m).length = 35 := by rw [mbytes_len ho, hk3]; rfl
  obtain ⟨a2, n2, c2, rfl⟩ := src_form o2.src
  obtain ⟨hn2, _, _⟩ := src_short o2.src
  obtain rfl : n2 = 35 := by omega
  have O2 : Hid (Src W2 (.slice a2 35 c2) (mbytes m)) := o2.src
  have HL : Hid ((mbytes m).length = 35 ∧ lenK m.k = 35) := ⟨hlen, by rw [hk3]; rfl⟩
  have mk := mk52
  clear H1 l1 b2 o2 ho hk3 eO hlen hn2
  go_wp2_with fail
  refine (putter_any W2.heap.size 17 52 _ (zr_row W2 52)).mono ?_
  rintro _ W3 ⟨rfl, p3, b3⟩
  have b3' : Below W2.heap.size W2 W3 := ((Below.refl _ _).alloc (Nat.le_refl _) _).trans (b3.mono (by simp))
  obtain ⟨X, hX⟩ : ∃ X, (W2.alloc (.cells (zr 52) 5)).heap.size = X := ⟨_, rfl⟩
  rw [hX] at p3 ⊢
  have HX : Hid (X = W2.heap.size + 1) := by show _ = _; rw [← hX]; simp
  have P3 : Hid (PB W3 W3 W2.heap.size (X + 1) X 17 52 (w.heap.size + 1) m []) := ⟨p3, H2.out.pv.below b3', Ch.refl _ _, by have := H2.out.pv.lt; omega, by have := H2.out.pv.lt; rw [← hX]; simp; omega⟩
  have H3 : Hid (ESt w W3 s m) := H2.out.later b3'
  have B3 : Hid (Below W2.heap.size W2 W3) := b3'
  have S3 : Hid (w.heap.size + 1 < W2.heap.size) := H2.out.pv.lt
  clear p3 b3 b3' mk hX H2
  go_wp2_with fail
  refine (P3.out.put 6 1652522221568 6 1652522221568 rfl rfl (by omega) (by simp) (by omega) (by omega) (by omega)).mono ?_
  rintro _ W4 ⟨rfl, p4⟩
  have l4 := (p4.ch.mv H3.out.mv (by have := S3.out; have := HX.out; omega)).ld
  have P4 : Hid (PB W3 W4 W2.heap.size (X + 1) X 17 52 (w.heap.size + 1) m ([] ++ be 6 1652522221568)) := p4
  clear p4 P3
  go_wp2_with fail
  refine (number_m s _ HV.out.1).mono ?_
  rintro _ W5 ⟨rfl, b5⟩
  have P5 : Hid (PB W3 W5 W2.heap.size (X + 1) X 17 52 (w.heap.size + 1) m ([] ++ be 6 1652522221568)) := P4.out.below b5
  obtain ⟨NS, hNS⟩ : ∃ N, nu s.l = N := ⟨_, rfl⟩
  have ENS : Hid (nu s.l = NS ∧ NS < 281474976710656) := ⟨hNS, by rw [← hNS]; exact nu_ok (l := s.l) HV.out.1 6 (by simp [M6.l])⟩
  rw [hNS]
  clear hNS b5 P4 l4
  go_wp2_with fail
  refine (P5.out.put 6 (NS : Nat) 6 NS rfl rfl (by omega) (by simp [be_len]) (by omega) (by omega) (by have := ENS.out.2; omega)).mono ?_
  rintro _ W6 ⟨rfl, p6⟩
  have P6 : Hid (PB W3 W6 W2.heap.size (X + 1) X 17 52 (w.heap.size + 1) m ([] ++ be 6 1652522221568 ++ be 6 NS)) := p6
  clear p6 P5
  go_wp2_with fail
  refine (P6.out.put 2 38 2 38 rfl rfl (by omega) (by simp [be_len]) (by omega) (by omega) (by omega)).mono ?_
  rintro _ W7 ⟨rfl, p7⟩
  have P7 : Hid (PB W3 W7 W2.heap.size (X + 1) X 17 52 (w.heap.size + 1) m ([] ++ be 6 1652522221568 ++ be 6 NS ++ be 2 38)) := p7
  clear p7 P6
  go_wp2_with fail
  refine (P7.out.put 3 4342275 3 4342275 rfl rfl (by omega) (by simp [be_len]) (by omega) (by omega) (by omega)).mono ?_
  rintro _ W8 ⟨rfl, p8⟩
  have B8 : Hid (Below w.heap.size w W8 ∧ w.heap.size ≤ W8.heap.size) := by
    have := H3.out.below.trans (p8.ch.below H3.out.below.size (fun i _ e => by have := S3.out; have := HX.out; omega))
    exact ⟨this, this.size⟩
  have OW : Hid (Own W8 w.heap.size (.slice (some ⟨W2.heap.size, 0, none⟩) 17 52) ([] ++ be 6 1652522221568 ++ be 6 NS ++ be 2 38 ++ be 3 4342275)) := by
    have h1 := p8.st.row.own w.heap.size 17 (by have := S3.out; omega) (by omega) (by unfold maxLen; omega)
    have h2 := range_getD (([] : List Int) ++ be 6 1652522221568 ++ be 6 NS ++ be 2 38 ++ be 3 4342275)
    rw [show (([] : List Int) ++ be 6 1652522221568 ++ be 6 NS ++ be 2 38 ++ be 3 4342275).length = 17 by simp [be_len]] at h2
    rw [h2] at h1
    exact h1
  have O8 : Hid (Src W8 (.slice a2 35 c2) (mbytes m)) := O2.out.below (B3.out.trans (p8.ch.below B3.out.size (fun i _ e => by have := HX.out; omega)))
  clear p8 P7
  go_wp2_with (at_builtin; refine wpList_app rfl _ _ rfl (by rfl) (by rfl) OW.out O8.out (by rw [HL.out.1]; simp [be_len]) B8.out.2 ?_)
  intro v9 W9 o9 g9 _
  have O9 : Hid (Own W9 w.heap.size v9 (menc s m)) := by
    have e := menc_eq s m HV.out.1
    rw [HL.out.2, ENS.out.1] at e
    rw [← e]
    exact o9
  have B9 : Hid (Below w.heap.size w W9) := B8.out.1.trans (grown_below OW.out g9 B8.out.2)
  clear o9 g9
  go_wp2
  go_ret2
  rw [HE.out.1, HE.out.2]
  exact ⟨_, rfl, O9.out, B9.out⟩

set_option maxHeartbeats 2000000 in
theorem encode_rst (s : M6) (m : Bp) (w : World) (hR : Rl w) (hs : s.ok) (hm : m.wf) (hk : s.kd = 1) (ho : okB m = true) (hk3 : m.k = 3) :
    Calls Tryd.prog 14 #[.agg s.cs, .agg m.cs] w fun r w' => ∃ v, r = .returned (.tuple #[v, .int .i64 (encE s m)]) ∧ Own w' w.heap.size v (encO s m) ∧ Below w.heap.size w w' := by
  have h0 := ESt.start w s m hR
  obtain ⟨W0, hW0⟩ : ∃ W, (w.alloc (.cells s.cs 49)).alloc (.cells m.cs 32) = W := ⟨_, rfl⟩
  rw [hW0] at h0
  have lm := h0.mv.ld
  have H0 : Hid (ESt w W0 s m) := h0
  have HV : Hid (s.ok ∧ m.wf) := ⟨hs, hm⟩
  have EK : Hid (s.kd = 1) := hk
  clear h0 hR hs hm
  go_enter Tryd.func14, Tryd.ntmps14
  go_wp2_with fail
  try rw [hW0]
  refine (kind_m s _ HV.out.1).mono ?_
  rintro _ W1 ⟨rfl, b1⟩
  rw [EK.out]
  have H1 : Hid (ESt w W1 s m) := H0.out.later b1
  have l1 := H1.out.pv.ld
  clear H0 lm b1 hW0 hk
  go_wp2_with fail
  refine (bytes_any m _ H1.out.rl HV.out.2).mono ?_
  rintro _ W2 ⟨s2, rfl, o2, b2⟩
  have H2 : Hid (ESt w W2 s m) := H1.out.later b2
  have HC : Hid (chkP m = 0) := by show _ = _; unfold chkP; rw [ho]; rfl
  rw [HC.out]
  have HE : Hid (encE s m = 0 ∧ encO s m = menc s m) := ⟨by unfold encE; rw [if_pos EK.out, HC.out], by unfold encO; rw [if_pos EK.out, if_pos ho]⟩
  have eO : mbO m = mbytes m := by unfold mbO; rw [ho]; rfl
  rw [eO] at o2
  have hlen : (mbytes m).length = 36 := by rw [mbytes_len ho, hk3]; rfl
  obtain ⟨a2, n2, c2, rfl⟩ := src_form o2.src
  obtain ⟨hn2, _, _⟩ := src_short o2.src
  obtain rfl : n2 = 36 := by omega
  have O2 : Hid (Src W2 (.slice a2 36 c2) (mbytes m)) := o2.src
  have HL : Hid ((mbytes m).length = 36 ∧ lenK m.k = 36) := ⟨hlen, by rw [hk3]; rfl⟩
  have mk := mk53
  clear H1 l1 b2 o2 ho hk3 eO hlen hn2
  go_wp2_with fail
  refine (putter_any W2.heap.size 17 53 _ (zr_row W2 53)).mono ?_
  rintro _ W3 ⟨rfl, p3, b3⟩
  have b3' : Below W2.heap.size W2 W3 := ((Below.refl _ _).alloc (Nat.le_refl _) _).trans (b3.mono (by simp))
  obtain ⟨X, hX⟩ : ∃ X, (W2.alloc (.cells (zr 53) 5)).heap.size = X := ⟨_, rfl⟩
  rw [hX] at p3 ⊢
  have HX : Hid (X = W2.heap.size + 1) := by show _ = _; rw [← hX]; simp
  have P3 : Hid (PB W3 W3 W2.heap.size (X + 1) X 17 53 (w.heap.size + 1) m []) := ⟨p3, H2.out.pv.below b3', Ch.refl _ _, by have := H2.out.pv.lt; omega, by have := H2.out.pv.lt; rw [← hX]; simp; omega⟩
  have H3 : Hid (ESt w W3 s m) := H2.out.later b3'
  have B3 : Hid (Below W2.heap.size W2 W3) := b3'
  have S3 : Hid (w.heap.size + 1 < W2.heap.size) := H2.out.pv.lt
  clear p3 b3 b3' mk hX H2
  go_wp2_with fail
  refine (P3.out.put 6 1652522221568 6 1652522221568 rfl rfl (by omega) (by simp) (by omega) (by omega) (by omega)).mono ?_
  rintro _ W4 ⟨rfl, p4⟩
  have l4 := (p4.ch.mv H3.out.mv (by have := S3.out; have := HX.out; omega)).ld
  have P4 : Hid (PB W3 W4 W2.heap.size (X + 1) X 17 53 (w.heap.size + 1) m ([] ++ be 6 1652522221568)) := p4
  clear p4 P3
  go_wp2_with fail
  refine (number_m s _ HV.out.1).mono ?_
  rintro _ W5 ⟨rfl, b5⟩
  have P5 : Hid (PB W3 W5 W2.heap.size (X + 1) X 17 53 (w.heap.size + 1) m ([] ++ be 6 1652522221568)) := P4.out.below b5
  obtain ⟨NS, hNS⟩ : ∃ N, nu s.l = N := ⟨_, rfl⟩
  have ENS : Hid (nu s.l = NS ∧ NS < 281474976710656) := ⟨hNS, by rw [← hNS]; exact nu_ok (l := s.l) HV.out.1 6 (by simp [M6.l])⟩
  rw [hNS]
  clear hNS b5 P4 l4
  go_wp2_with fail
  refine (P5.out.put 6 (NS : Nat) 6 NS rfl rfl (by omega) (by simp [be_len]) (by omega) (by omega) (by have := ENS.out.2; omega)).mono ?_
  rintro _ W6 ⟨rfl, p6⟩
  have P6 : Hid (PB W3 W6 W2.heap.size (X + 1) X 17 53 (w.heap.size + 1) m ([] ++ be 6 1652522221568 ++ be 6 NS)) := p6
  clear p6 P5
  go_wp2_with fail
  refine (P6.out.put 2 39 2 39 rfl rfl (by omega) (by simp [be_len]) (by omega) (by omega) (by omega)).mono ?_
  rintro _ W7 ⟨rfl, p7⟩
  have P7 : Hid (PB W3 W7 W2.heap.size (X + 1) X 17 53 (w.heap.size + 1) m ([] ++ be 6 1652522221568 ++ be 6 NS ++ be 2 39)) := p7
  clear p7 P6
  go_wp2_with fail
  refine (P7.out.put 3 4342275 3 4342275 rfl rfl (by omega) (by simp [be_len]) (by omega) (by omega) (by omega)).mono ?_
  rintro _ W8 ⟨rfl, p8⟩
  have B8 : Hid (Below w.heap.size w W8 ∧ w.heap.size ≤ W8.heap.size) := by
    have := H3.out.below.trans (p8.ch.below H3.out.below.size (fun i _ e => by have := S3.out; have := HX.out; omega))
    exact ⟨this, this.size⟩
  have OW : Hid (Own W8 w.heap.size (.slice (some ⟨W2.heap.size, 0, none⟩) 17 53) ([] ++ be 6 1652522221568 ++ be 6 NS ++ be 2 39 ++ be 3 4342275)) := by
    have h1 := p8.st.row.own w.heap.size 17 (by have := S3.out; omega) (by omega) (by unfold maxLen; omega)
    have h2 := range_getD (([] : List Int) ++ be 6 1652522221568 ++ be 6 NS ++ be 2 39 ++ be 3 4342275)
    rw [show (([] : List Int) ++ be 6 1652522221568 ++ be 6 NS ++ be 2 39 ++ be 3 4342275).length = 17 by simp [be_len]] at h2
    rw [h2] at h1
    exact h1
  have O8 : Hid (Src W8 (.slice a2 36 c2) (mbytes m)) := O2.out.below (B3.out.trans (p8.ch.below B3.out.size (fun i _ e => by have := HX.out; omega)))
  clear p8 P7
  go_wp2_with (at_builtin; refine wpList_app rfl _ _ rfl (by rfl) (by rfl) OW.out O8.out (by rw [HL.out.1]; simp [be_len]) B8.out.2 ?_)
  intro v9 W9 o9 g9 _
  have O9 : Hid (Own W9 w.heap.size v9 (menc s m)) := by
    have e := menc_eq s m HV.out.1
    rw [HL.out.2, ENS.out.1] at e
    rw [← e]
    exact o9
  have B9 : Hid (Below w.heap.size w W9) := B8.out.1.trans (grown_below OW.out g9 B8.out.2)
  clear o9 g9
  go_wp2
  go_ret2
  rw [HE.out.1, HE.out.2]
  exact ⟨_, rfl, O9.out, B9.out⟩

/-- The frame of any message from any station, or the error. -/
theorem encode_any (s : M6) (m : Bp) (w : World) (hR : Rl w) (hs : s.ok) (hm : m.wf) :
    Calls Tryd.prog 14 #[s.v, .agg m.cs] w fun r w' => ∃ v, r = .returned (.tuple #[v, .int .i64 (encE s m)]) ∧ Own w' w.heap.size v (encO s m) ∧ Below w.heap.size w w' := by
  by_cases hk : s.kd = 1
  · cases ho : okB m
    · exact encode_bad s m w hR hs hm hk ho
    · rcases ok_kind ho with h2 | h1 | h3
      · exact encode_tcn s m w hR hs hm hk ho h2
      · exact encode_cfg s m w hR hs hm hk ho h1
      · exact encode_rst s m w hR hs hm hk ho h3
  · exact encode_arg s m w hR hs hm hk
end Go.Proofs.YtfpoopllkmnagaaDoor
