/-
  The page's example: the walk of awake.
-/
import Derived.Test.YtoojoiindfgoeaaQl
import Derived.Lib.SlBytesConst
namespace Go.Proofs.Ytoojoiindfgoeaa
set_option linter.unusedVariables false
set_option maxRecDepth 4000
set_option linter.unusedSimpArgs false
open Go.RowKit Go.Conc
attribute [local go_sem ↓] apU apL bsU bsL
theorem b1U (x : Int) (w : World) : (bsS 33 1 #[(0, .int .u8 x)]).run Try.prog w = .ok (.slice (some ⟨w.heap.size, 0, none⟩) 1 1) (w.alloc (.cells #[.int .u8 x] 5)) := by kernel_rfl
attribute [local go_sem] b1U
/-- A constant's bytes in a new block: as they are built, and as they are marked. -/
theorem bytes_const (W : World) (C : Array Value) (l : List Int) (n : Nat) (hC : C.toList = eU.fl l) (hn : l.length = n) (hl : n ≤ 1000) : ∃ U V, W.alloc (.cells C 5) = U ∧ (convert 33 33 (.slice (some ⟨W.heap.size, 0, none⟩) n n)).run Try.prog U = .ok (.slice (some ⟨W.heap.size, 0, none⟩) n n) V ∧ SlAt eU V (some ⟨W.heap.size, 0, none⟩) n n l ∧ Below W.heap.size W V := by
  refine ⟨_, _, rfl, Go.Lib.run_convert_bytes_const (P := Try.prog) W 33 5 C n n Try.underlying33 Try.underlying5, ⟨hn, Nat.le_refl _, by unfold maxLen; omega, (fun e => by cases e), fun y e _ => ?_⟩, (Below.refl _ _).alloc (Nat.le_refl _) _⟩
  cases e
  refine ⟨_, _, rfl, fun j u hj => ?_⟩
  rw [Nat.zero_add]
  have : (W.alloc (.cells C 5 (C.size, C.size + 1))).heap[W.heap.size]? = some (.cells C 5 (C.size, C.size + 1)) := by
    show (W.heap.push _)[W.heap.size]? = _
    simp
  unfold World.cell?
  rw [this]
  rw [← hC] at hj
  simpa using hj
set_option maxHeartbeats 8000000 in
theorem awake_any (w : World) : Calls Try.prog 8 #[] w fun e w' => e = .returned (.bool true) ∧ Below w.heap.size w w' := by
  go_enter Try.func8, Try.ntmps8
  go_wp2_with fail
  refine (new_any 2 w w (Below.refl _ _)).mono ?_
  rintro e W1 hN
  obtain ⟨b, c, rfl, q1, hb⟩ := hN.yes (by decide)
  have K1 : Hid (QAt w W1 b c 2 [] [] 0 0 ∧ Below w.heap.size w W1) := ⟨q1, hN.bel⟩
  clear hN q1
  obtain ⟨U1, V1, hV1, cV1, s1, b1⟩ := bytes_const W1 #[.int .u8 97] [97] 1 rfl rfl (by decide)
  go_wp2_with fail
  refine (put_any (K1.out.1.below b1) s1).mono ?_
  rintro e W2 ⟨rfl, ⟨rr2, s2, r2, q2, _⟩, g2⟩
  have K2 : Hid (QAt w W2 b c 2 rr2 [[97]] s2 r2) := q2
  clear q2 g2 s1 b1 hV1 cV1
  have e1 : putE 2 [] [97] = 0 := by decide
  obtain ⟨U2, V2, hV2, cV2, s3, b3⟩ := bytes_const W2 #[.int .u8 98] [98] 1 rfl rfl (by decide)
  go_wp2_with fail
  refine (put_any (K2.out.below b3) s3).mono ?_
  rintro e W3 ⟨rfl, ⟨rr3, s4, r3, q3, _⟩, g3⟩
  have K3 : Hid (QAt w W3 b c 2 rr3 [[97], [98]] s4 r3) := q3
  clear q3 g3 s3 b3 hV2 cV2
  have e2 : putE 2 [[97]] [98] = 0 := by decide
  obtain ⟨U3, V3, hV3, cV3, s5, b5⟩ := bytes_const W3 #[.int .u8 99] [99] 1 rfl rfl (by decide)
  go_wp2_with fail
  refine (put_any (K3.out.below b5) s5).mono ?_
  rintro e W4 ⟨rfl, ⟨rr4, s6, r4, q4, _⟩, g4⟩
  have K4 : Hid (QAt w W4 b c 2 rr4 [[97], [98]] s6 r4) := q4
  clear q4 g4 s5 b5 hV3 cV3
  have e3 : putE 2 [[97], [98]] [99] = 71 := by decide
  go_wp2_with fail
  refine (take_any K4.out).mono ?_
  rintro e W5 hT
  obtain ⟨x, rr5, _, rfl, ox, s7, r5, q5⟩ := hT.some [97] [[98]] rfl
  have K5 : Hid (QAt w W5 b c 2 rr5 [[98]] s7 r5 ∧ OwnS W5 w.heap.size x [97]) := ⟨q5, ox⟩
  clear hT q5 ox
  have cx : (convert 33 9 x.v).run Try.prog W5 = .ok (.string { data := #[97] }) W5 := str_sl K5.out.2.src
  obtain ⟨U6, V6, hV6, cV6, s8, b8⟩ := bytes_const W5 #[.int .u8 99] [99] 1 rfl rfl (by decide)
  go_wp2_with fail
  refine (put_any (K5.out.1.below b8) s8).mono ?_
  rintro e W6 ⟨rfl, ⟨rr6, s9, r6, q6, _⟩, g6⟩
  have K6 : Hid (QAt w W6 b c 2 rr6 [[98], [99]] s9 r6) := q6
  clear q6 g6 s8 b8 hV6 cV6 cx
  have e4 : putE 2 [[98]] [99] = 0 := by decide
  go_wp2_with fail
  refine (len_any K6.out).mono ?_
  rintro _ _ ⟨rfl, rfl⟩
  go_wp2_with fail
  refine (room_any K6.out).mono ?_
  rintro _ W7 ⟨rfl, b7⟩
  have K7 : Hid (Below w.heap.size w W7) := below_over K6.out.bel b7
  clear b7
  go_wp2
  go_ret
  exact ⟨rfl, K7.out⟩
end Go.Proofs.Ytoojoiindfgoeaa
