/-
  The walk of a message's bytes: for every message.
-/
import Derived.Test.YtfpoopllkmnagaaDoorBody
import Derived.Test.YtfpoopllkmnagaaDoorCheck
namespace Go.Proofs.YtfpoopllkmnagaaDoor
set_option linter.unusedVariables false
set_option maxRecDepth 4000
set_option linter.unusedSimpArgs false
open Go.RowKit

/-- A new slice of bytes. -/
def mkS (x y : Value) : Sem Value := Instr.makeSlice 33 x y
theorem mkS_eq (x y : Value) : Instr.makeSlice 33 x y = mkS x y := rfl
/-- So many zeros. -/
def zr (n : Nat) : Array Value := Array.replicate n (.int .u8 0)
theorem mk4 (w : World) : (mkS (.int .i64 4) (.int .i64 4)).run Tryd.prog w = .ok (.slice (some ⟨w.heap.size, 0, none⟩) 4 4) (w.alloc (.cells (zr 4) 5)) := by kernel_rfl
theorem mk35 (w : World) : (mkS (.int .i64 35) (.int .i64 35)).run Tryd.prog w = .ok (.slice (some ⟨w.heap.size, 0, none⟩) 35 35) (w.alloc (.cells (zr 35) 5)) := by kernel_rfl
theorem mk36 (w : World) : (mkS (.int .i64 36) (.int .i64 36)).run Tryd.prog w = .ok (.slice (some ⟨w.heap.size, 0, none⟩) 36 36) (w.alloc (.cells (zr 36) 5)) := by kernel_rfl
theorem mk21 (w : World) : (mkS (.int .i64 17) (.int .i64 21)).run Tryd.prog w = .ok (.slice (some ⟨w.heap.size, 0, none⟩) 17 21) (w.alloc (.cells (zr 21) 5)) := by kernel_rfl
theorem mk52 (w : World) : (mkS (.int .i64 17) (.int .i64 52)).run Tryd.prog w = .ok (.slice (some ⟨w.heap.size, 0, none⟩) 17 52) (w.alloc (.cells (zr 52) 5)) := by kernel_rfl
theorem mk53 (w : World) : (mkS (.int .i64 17) (.int .i64 53)).run Tryd.prog w = .ok (.slice (some ⟨w.heap.size, 0, none⟩) 17 53) (w.alloc (.cells (zr 53) 5)) := by kernel_rfl
theorem zr_row (w : World) (n : Nat) : RowAt (w.alloc (.cells (zr n) 5)) w.heap.size n (fun _ => 0) := RowAt.new w (zr n) n _ (by simp [zr]) (fun j hj => by simp [zr, hj])
theorem range_getD (l : List Int) : (List.range l.length).map (fun j => l.getD j 0) = l := by
  apply List.ext_getElem?
  intro j
  by_cases h : j < l.length
  · simp [h]
  · rw [List.getElem?_eq_none (by simp; omega), List.getElem?_eq_none (by omega)]
theorem PSt.own {w : World} {b g x n : Nat} {d : List Int} (h : PSt w b g x n n d) (B : Nat) (hB : B ≤ b) (l : List Int) (hl : l.length = n) (hn : n ≤ 1000) (e : ∀ j, j < n → d.getD j 0 = l.getD j 0) : Own w B (.slice (some ⟨b, 0, none⟩) n n) l := by
  have := (h.row.congr e).own B n hB (Nat.le_refl _) (by unfold maxLen; omega)
  subst hl
  rw [range_getD] at this
  exact this

attribute [local go_sem ↓] ldS32 ldS49 ldS28 ldS30 ldS83 stS32 stS49 stS28 stS30 eqP_eq nqP_eq eqM_eq nqM_eq nqV_eq nqT_eq mkS_eq

/-- What Bytes tells: the bytes, or none. -/
def mbO (m : Bp) : List Int := if okB m then mbytes m else []
theorem mbO_len (m : Bp) : (mbO m).length ≤ 36 := by
  unfold mbO
  split
  · next h => rw [mbytes_len h]; unfold lenK; split <;> (try split) <;> (try split) <;> omega
  · simp
theorem mbO_ok {m : Bp} (h : m.wf) : ∀ x ∈ mbO m, 0 ≤ x ∧ x ≤ 255 := by
  unfold mbO
  split
  · exact mbytes_ok h
  · simp

/-- Worlds at the head of Bytes: the message's variable, the table. -/
structure BSt (w W : World) (m : Bp) : Prop where
  pv : PvAt W w.heap.size m
  rl : Rl W
  below : Below w.heap.size w W
theorem BSt.later {w W W' : World} {m : Bp} (h : BSt w W m) (k : Below W.heap.size W W') : BSt w W' m := ⟨h.pv.below k, h.rl.below k h.rl.lt, below_over h.below k⟩

theorem bytes_no (m : Bp) (w : World) (hR : Rl w) (ho : okB m = false) :
    Calls Tryd.prog 7 #[.agg m.cs] w fun r w' => r = .returned (.tuple #[.slice none 0 0, .int .i64 50]) ∧ Below w.heap.size w w' := by
  have hB : Below w.heap.size w (w.alloc (.cells m.cs 32)) := (Below.refl _ _).alloc (Nat.le_refl _) _
  have hp := PvAt.new w m
  have ld := hp.ld
  have H : Hid (BSt w (w.alloc (.cells m.cs 32)) m) := ⟨hp, hR.below hB hR.lt, hB⟩
  have HC : Hid (chkP m = 50) := by show _ = _; unfold chkP; rw [ho]; rfl
  clear hB hp hR ho
  go_enter Tryd.func7, Tryd.ntmps7
  go_wp2_with fail
  refine (check_any m _ H.out.rl).mono ?_
  rintro _ W1 ⟨rfl, b1⟩
  rw [HC.out]
  have H1 : Hid (BSt w W1 m) := H.out.later b1
  clear b1 H ld
  go_wp2
  go_ret2
  exact ⟨rfl, H1.out.below⟩

set_option maxHeartbeats 1000000 in
theorem bytes_tcn (m : Bp) (w : World) (hR : Rl w) (hm : m.wf) (ho : okB m = true) (hk : m.k = 2) :
    Calls Tryd.prog 7 #[.agg m.cs] w fun r w' => ∃ s, r = .returned (.tuple #[s, .int .i64 0]) ∧ Own w' w.heap.size s (mbytes m) ∧ Below w.heap.size w w' := by
  have hB : Below w.heap.size w (w.alloc (.cells m.cs 32)) := (Below.refl _ _).alloc (Nat.le_refl _) _
  have hp := PvAt.new w m
  have ld := hp.ld
  have H : Hid (BSt w (w.alloc (.cells m.cs 32)) m) := ⟨hp, hR.below hB hR.lt, hB⟩
  have HC : Hid (chkP m = 0) := by show _ = _; unfold chkP; rw [ho]; rfl
  have HM : Hid (m.wf ∧ okB m = true ∧ m.k = 2) := ⟨hm, ho, hk⟩
  have mk := mk4
  clear hB hp hR ho hm
  go_enter Tryd.func7, Tryd.ntmps7
  go_wp2_with fail
  refine (check_any m _ H.out.rl).mono ?_
  rintro _ W1 ⟨rfl, b1⟩
  rw [HC.out]
  have H1 : Hid (BSt w W1 m) := H.out.later b1
  have k1 := H1.out.pv.c0
  rw [hk] at k1
  clear b1 H ld hk
  go_wp2_with fail
  refine (length_any 2 _).mono ?_
  rintro _ Z ⟨rfl, hZ⟩
  rw [hZ]
  clear hZ Z
  rw [show ((lenK 2 : Nat) : Int) = 4 from rfl]
  go_wp2_with fail
  refine (putter_any W1.heap.size 4 4 _ (zr_row W1 4)).mono ?_
  rintro _ W2 ⟨rfl, p2, b2⟩
  have b2' : Below W1.heap.size W1 W2 := ((Below.refl _ _).alloc (Nat.le_refl _) _).trans (b2.mono (by simp))
  obtain ⟨X, hX⟩ : ∃ X, (W1.alloc (.cells (zr 4) 5)).heap.size = X := ⟨_, rfl⟩
  rw [hX] at p2 ⊢
  have HX : Hid (X = W1.heap.size + 1) := by show _ = _; rw [← hX]; simp
  have H2 : Hid (BSt w W2 m) := H1.out.later b2'
  have P2 : Hid (PSt W2 W1.heap.size (X + 1) X 4 4 []) := p2
  have S2 : Hid (w.heap.size < W1.heap.size) := H1.out.pv.lt
  have k2 := H2.out.pv.c0
  rw [HM.out.2.2] at k2
  clear p2 b2 b2' k1 mk hX
  go_wp2_with fail
  refine (put_any 4 128 W1.heap.size (X + 1) X 4 4 [] W2 P2.out (by omega) (by simp) (by omega) (by omega) (by omega)).mono ?_
  rintro _ W3 ⟨rfl, p3, c3⟩
  have P3 : Hid (PSt W3 W1.heap.size (X + 1) X 4 4 [0, 0, 0, 128]) := p3
  have C3 : Hid (Ch (fun i => i = W1.heap.size ∨ i = X + 1) W2 W3) := c3
  clear p3 c3 k2 P2
  go_wp2
  go_ret2
  refine ⟨_, rfl, ?_, ?_⟩
  · refine P3.out.own w.heap.size (by have := S2.out; omega) (mbytes m) (by rw [mbytes_len HM.out.2.1, HM.out.2.2]; rfl) (by omega) (fun j hj => ?_)
    unfold mbytes
    rw [if_pos HM.out.2.2]
  · exact H2.out.below.trans (C3.out.below (by have := H2.out.below.size; omega) (fun i _ e => by have := S2.out; have := HX.out; omega))

set_option maxHeartbeats 1000000 in
theorem bytes_cfg (m : Bp) (w : World) (hR : Rl w) (hm : m.wf) (ho : okB m = true) (hk : m.k = 1) :
    Calls Tryd.prog 7 #[.agg m.cs] w fun r w' => ∃ s, r = .returned (.tuple #[s, .int .i64 0]) ∧ Own w' w.heap.size s (mbytes m) ∧ Below w.heap.size w w' := by
  have hB : Below w.heap.size w (w.alloc (.cells m.cs 32)) := (Below.refl _ _).alloc (Nat.le_refl _) _
  have hp := PvAt.new w m
  have ld := hp.ld
  have H : Hid (BSt w (w.alloc (.cells m.cs 32)) m) := ⟨hp, hR.below hB hR.lt, hB⟩
  have HC : Hid (chkP m = 0) := by show _ = _; unfold chkP; rw [ho]; rfl
  have HM : Hid (m.wf ∧ okB m = true ∧ m.k = 1) := ⟨hm, ho, hk⟩
  have mk := mk35
  clear hB hp hR ho hm
  go_enter Tryd.func7, Tryd.ntmps7
  go_wp2_with fail
  refine (check_any m _ H.out.rl).mono ?_
  rintro _ W1 ⟨rfl, b1⟩
  rw [HC.out]
  have H1 : Hid (BSt w W1 m) := H.out.later b1
  have k1 := H1.out.pv.c0
  rw [hk] at k1
  clear b1 H ld hk
  go_wp2_with fail
  refine (length_any 1 _).mono ?_
  rintro _ Z ⟨rfl, hZ⟩
  rw [hZ]
  clear hZ Z
  rw [show ((lenK 1 : Nat) : Int) = 35 from rfl]
  go_wp2_with fail
  refine (putter_any W1.heap.size 35 35 _ (zr_row W1 35)).mono ?_
  rintro _ W2 ⟨rfl, p2, b2⟩
  have b2' : Below W1.heap.size W1 W2 := ((Below.refl _ _).alloc (Nat.le_refl _) _).trans (b2.mono (by simp))
  obtain ⟨X, hX⟩ : ∃ X, (W1.alloc (.cells (zr 35) 5)).heap.size = X := ⟨_, rfl⟩
  rw [hX] at p2 ⊢
  have HX : Hid (X = W1.heap.size + 1) := by show _ = _; rw [← hX]; simp
  have H2 : Hid (BSt w W2 m) := H1.out.later b2'
  have P2 : Hid (PSt W2 W1.heap.size (X + 1) X 35 35 []) := p2
  have S2 : Hid (w.heap.size < W1.heap.size) := H1.out.pv.lt
  have k2 := H2.out.pv.c0
  rw [HM.out.2.2] at k2
  clear p2 b2 b2' k1 mk hX
  go_wp2_with fail
  refine (put_any 4 0 W1.heap.size (X + 1) X 35 35 [] W2 P2.out (by omega) (by simp) (by omega) (by omega) (by omega)).mono ?_
  rintro _ W3 ⟨rfl, p3, c3⟩
  have P3 : Hid (PSt W3 W1.heap.size (X + 1) X 35 35 [0, 0, 0, 0]) := p3
  have C3 : Hid (Ch (fun i => i = W1.heap.size ∨ i = X + 1) W2 W3) := c3
  have R3 : Hid (Rl W3) := c3.rl H2.out.rl (by have := S2.out; have := HX.out; omega)
  have l3 := (c3.pv H2.out.pv (by have := S2.out; have := HX.out; omega)).ld
  clear p3 c3 k2 P2
  go_wp2_with fail
  refine (putBody_any m W1.heap.size (X + 1) X 35 35 [0, 0, 0, 0] W3 P3.out R3.out HM.out.1 (by have := S2.out; omega) (by omega) (by simp) (by omega) (by omega)).mono ?_
  rintro _ W4 ⟨rfl, p4, c4⟩
  have P4 : Hid (PSt W4 W1.heap.size (X + 1) X 35 35 ([0, 0, 0, 0] ++ bodyL m)) := p4
  have C4 : Hid (Ch (fun i => i = W1.heap.size ∨ i = X + 1) W2 W4) := C3.out.trans c4
  clear p4 c4 P3 R3 C3 l3
  go_wp2
  go_ret2
  refine ⟨_, rfl, ?_, ?_⟩
  · refine P4.out.own w.heap.size (by have := S2.out; omega) (mbytes m) (by rw [mbytes_len HM.out.2.1, HM.out.2.2]; rfl) (by omega) (fun j hj => ?_)
    unfold mbytes
    rw [if_neg (by rw [HM.out.2.2]; decide), if_neg (by rw [HM.out.2.2]; decide)]
  · exact H2.out.below.trans (C4.out.below (by have := H2.out.below.size; omega) (fun i _ e => by have := S2.out; have := HX.out; omega))

set_option maxHeartbeats 1000000 in
theorem bytes_rst (m : Bp) (w : World) (hR : Rl w) (hm : m.wf) (ho : okB m = true) (hk : m.k = 3) :
    Calls Tryd.prog 7 #[.agg m.cs] w fun r w' => ∃ s, r = .returned (.tuple #[s, .int .i64 0]) ∧ Own w' w.heap.size s (mbytes m) ∧ Below w.heap.size w w' := by
  have hB : Below w.heap.size w (w.alloc (.cells m.cs 32)) := (Below.refl _ _).alloc (Nat.le_refl _) _
  have hp := PvAt.new w m
  have ld := hp.ld
  have H : Hid (BSt w (w.alloc (.cells m.cs 32)) m) := ⟨hp, hR.below hB hR.lt, hB⟩
  have HC : Hid (chkP m = 0) := by show _ = _; unfold chkP; rw [ho]; rfl
  have HM : Hid (m.wf ∧ okB m = true ∧ m.k = 3) := ⟨hm, ho, hk⟩
  have mk := mk36
  clear hB hp hR ho hm
  go_enter Tryd.func7, Tryd.ntmps7
  go_wp2_with fail
  refine (check_any m _ H.out.rl).mono ?_
  rintro _ W1 ⟨rfl, b1⟩
  rw [HC.out]
  have H1 : Hid (BSt w W1 m) := H.out.later b1
  have k1 := H1.out.pv.c0
  rw [hk] at k1
  clear b1 H ld hk
  go_wp2_with fail
  refine (length_any 3 _).mono ?_
  rintro _ Z ⟨rfl, hZ⟩
  rw [hZ]
  clear hZ Z
  rw [show ((lenK 3 : Nat) : Int) = 36 from rfl]
  go_wp2_with fail
  refine (putter_any W1.heap.size 36 36 _ (zr_row W1 36)).mono ?_
  rintro _ W2 ⟨rfl, p2, b2⟩
  have b2' : Below W1.heap.size W1 W2 := ((Below.refl _ _).alloc (Nat.le_refl _) _).trans (b2.mono (by simp))
  obtain ⟨X, hX⟩ : ∃ X, (W1.alloc (.cells (zr 36) 5)).heap.size = X := ⟨_, rfl⟩
  rw [hX] at p2 ⊢
  have HX : Hid (X = W1.heap.size + 1) := by show _ = _; rw [← hX]; simp
  have H2 : Hid (BSt w W2 m) := H1.out.later b2'
  have P2 : Hid (PSt W2 W1.heap.size (X + 1) X 36 36 []) := p2
  have S2 : Hid (w.heap.size < W1.heap.size) := H1.out.pv.lt
  have k2 := H2.out.pv.c0
  rw [HM.out.2.2] at k2
  clear p2 b2 b2' k1 mk hX
  go_wp2_with fail
  refine (put_any 4 514 W1.heap.size (X + 1) X 36 36 [] W2 P2.out (by omega) (by simp) (by omega) (by omega) (by omega)).mono ?_
  rintro _ W3 ⟨rfl, p3, c3⟩
  have P3 : Hid (PSt W3 W1.heap.size (X + 1) X 36 36 [0, 0, 2, 2]) := p3
  have C3 : Hid (Ch (fun i => i = W1.heap.size ∨ i = X + 1) W2 W3) := c3
  have R3 : Hid (Rl W3) := c3.rl H2.out.rl (by have := S2.out; have := HX.out; omega)
  have l3 := (c3.pv H2.out.pv (by have := S2.out; have := HX.out; omega)).ld
  clear p3 c3 k2 P2
  go_wp2_with fail
  refine (putBody_any m W1.heap.size (X + 1) X 36 36 [0, 0, 2, 2] W3 P3.out R3.out HM.out.1 (by have := S2.out; omega) (by omega) (by simp) (by omega) (by omega)).mono ?_
  rintro _ W4 ⟨rfl, p4, c4⟩
  have P4 : Hid (PSt W4 W1.heap.size (X + 1) X 36 36 ([0, 0, 2, 2] ++ bodyL m)) := p4
  have C4 : Hid (Ch (fun i => i = W1.heap.size ∨ i = X + 1) W2 W4) := C3.out.trans c4
  clear p4 c4 P3 R3 C3 l3
  go_wp2
  go_ret2
  refine ⟨_, rfl, ?_, ?_⟩
  · refine P4.out.own w.heap.size (by have := S2.out; omega) (mbytes m) (by rw [mbytes_len HM.out.2.1, HM.out.2.2]; rfl) (by omega) (fun j hj => ?_)
    unfold mbytes
    rw [if_neg (by rw [HM.out.2.2]; decide), if_pos HM.out.2.2, ← List.append_assoc, getD_app _ [0] j]
    have e35 : ([0, 0, 2, 2] ++ bodyL m).length = 35 := by simp [bodyL_len]
    by_cases h : j < 35
    · rw [if_pos (by omega)]
    · rw [if_neg (by omega), show j = 35 by omega, List.getD_eq_getElem?_getD, List.getElem?_eq_none (by omega), e35]
      rfl
  · exact H2.out.below.trans (C4.out.below (by have := H2.out.below.size; omega) (fun i _ e => by have := S2.out; have := HX.out; omega))

/-- The bytes of any message, or its error. -/
theorem bytes_any (m : Bp) (w : World) (hR : Rl w) (hm : m.wf) :
    Calls Tryd.prog 7 #[.agg m.cs] w fun r w' => ∃ s, r = .returned (.tuple #[s, .int .i64 (chkP m)]) ∧ Own w' w.heap.size s (mbO m) ∧ Below w.heap.size w w' := by
  unfold chkP mbO
  cases ho : okB m
  · refine (bytes_no m w hR ho).mono ?_
    rintro _ w' ⟨rfl, hb⟩
    exact ⟨_, rfl, own_nil _ _, hb⟩
  · rcases ok_kind ho with h2 | h1 | h3
    · exact bytes_tcn m w hR hm ho h2
    · exact bytes_cfg m w hR hm ho h1
    · exact bytes_rst m w hR hm ho h3
end Go.Proofs.YtfpoopllkmnagaaDoor
