/-
  Databases that nobody made: the walks of all calls on them.
-/
import Derived.Test.YtpbpofmlpbobmaaDo
namespace Go.Proofs.Ytpbpofmlpbobmaa
set_option linter.unusedVariables false
set_option maxRecDepth 4000
set_option linter.unusedSimpArgs false
open Go.RowKit

attribute [local go_sem ↓] ldK stK ldM stM ldP stP ldE stE ldO stO
/-- Nobody made what the pointer leads to. -/
def Nb (W : World) (x : Option Addr) : Prop := x = none ∨ ∃ p, x = some ⟨p, 0, none⟩ ∧ W.cell? ⟨p, 3, none⟩ = some (.map none)
theorem Nb.below {W W' : World} {x : Option Addr} (h : Nb W x) (hb : Below W.heap.size W W') : Nb W' x := by
  rcases h with h | ⟨p, h1, h2⟩
  · exact .inl h
  · exact .inr ⟨p, h1, (hb.cell (World.block_lt_of_cell? W _ h2)).trans h2⟩
theorem made_no (x : Option Addr) (w : World) (h : Nb w x) : Calls Try.prog 32 #[.pointer x] w fun r w' => r = .returned (.bool false) ∧ w' = w := by
  rcases h with rfl | ⟨p, rfl, h2⟩
  · exact made_nil w
  · exact made_any p none w h2
set_option maxHeartbeats 400000 in
theorem learn_no (x : Option Addr) (k : Ky) (port tick : Int) (w : World) (h : Nb w x) : Calls Try.prog 11 #[.pointer x, .int .i64 k.vid, .agg k.mc, .int .i64 port, .int .i64 tick] w fun r w' => r = .returned (.int .i64 4) ∧ Below w.heap.size w w' := by
  obtain ⟨W, hW, lm, bW, zW⟩ := mac_new w k
  have H : Hid (Nb W x ∧ Below w.heap.size w W) := ⟨h.below bW, bW⟩
  clear h bW zW lm
  go_enter Try.func11, Try.ntmps11
  go_wp2_with fail
  refine (made_no x _ H.out.1).mono ?_
  rintro _ Y ⟨rfl, hY⟩
  rw [hY]
  clear hY Y
  go_wp2
  go_ret
  exact ⟨rfl, H.out.2⟩
set_option maxHeartbeats 400000 in
theorem static_no (x : Option Addr) (k : Ky) (port : Int) (w : World) (h : Nb w x) : Calls Try.prog 13 #[.pointer x, .int .i64 k.vid, .agg k.mc, .int .i64 port] w fun r w' => r = .returned (.int .i64 4) ∧ Below w.heap.size w w' := by
  obtain ⟨W, hW, lm, bW, zW⟩ := mac_new w k
  have H : Hid (Nb W x ∧ Below w.heap.size w W) := ⟨h.below bW, bW⟩
  clear h bW zW lm
  go_enter Try.func13, Try.ntmps13
  go_wp2_with fail
  refine (made_no x _ H.out.1).mono ?_
  rintro _ Y ⟨rfl, hY⟩
  rw [hY]
  clear hY Y
  go_wp2
  go_ret
  exact ⟨rfl, H.out.2⟩
set_option maxHeartbeats 400000 in
theorem unstatic_no (x : Option Addr) (k : Ky) (w : World) (h : Nb w x) : Calls Try.prog 15 #[.pointer x, .int .i64 k.vid, .agg k.mc] w fun r w' => r = .returned (.int .i64 4) ∧ Below w.heap.size w w' := by
  obtain ⟨W, hW, lm, bW, zW⟩ := mac_new w k
  have H : Hid (Nb W x ∧ Below w.heap.size w W) := ⟨h.below bW, bW⟩
  clear h bW zW lm
  go_enter Try.func15, Try.ntmps15
  go_wp2_with fail
  refine (made_no x _ H.out.1).mono ?_
  rintro _ Y ⟨rfl, hY⟩
  rw [hY]
  clear hY Y
  go_wp2
  go_ret
  exact ⟨rfl, H.out.2⟩
set_option maxHeartbeats 400000 in
theorem find_no (x : Option Addr) (k : Ky) (w : World) (h : Nb w x) : Calls Try.prog 17 #[.pointer x, .int .i64 k.vid, .agg k.mc] w fun r w' => r = .returned (.tuple #[.int .i64 0, .bool false]) ∧ Below w.heap.size w w' := by
  obtain ⟨W, hW, lm, bW, zW⟩ := mac_new w k
  have H : Hid (Nb W x ∧ Below w.heap.size w W) := ⟨h.below bW, bW⟩
  clear h bW zW lm
  go_enter Try.func17, Try.ntmps17
  go_wp2_with fail
  refine (made_no x _ H.out.1).mono ?_
  rintro _ Y ⟨rfl, hY⟩
  rw [hY]
  clear hY Y
  go_wp2
  go_ret2
  exact ⟨rfl, H.out.2⟩
set_option maxHeartbeats 400000 in
theorem remove_no (x : Option Addr) (f : Value) (w : World) (h : Nb w x) : Calls Try.prog 39 #[.pointer x, f] w fun r w' => r = .returned (.int .i64 0) ∧ Below w.heap.size w w' := by
  have H : Hid (Nb w x) := h
  clear h
  go_enter Try.func39, Try.ntmps39
  go_wp2_with fail
  refine (made_no x _ H.out).mono ?_
  rintro _ Y ⟨rfl, hY⟩
  rw [hY]
  clear hY Y
  go_wp2
  go_ret
  exact ⟨rfl, Below.refl _ _⟩
set_option maxHeartbeats 400000 in
theorem age_no (x : Option Addr) (t : Int) (w : World) (h : Nb w x) : Calls Try.prog 19 #[.pointer x, .int .i64 t] w fun r w' => r = .returned (.int .i64 0) ∧ Below w.heap.size w w' := by
  have H : Hid (Nb w x) := h
  clear h
  go_enter Try.func19, Try.ntmps19
  go_wp2_with fail
  refine (remove_no x _ _ (H.out.below (by go_grown))).mono ?_
  rintro _ W ⟨rfl, b⟩
  have B : Hid (Below w.heap.size w W) := below_over (by go_grown) b
  clear b
  go_wp2
  go_ret
  exact ⟨rfl, B.out⟩
set_option maxHeartbeats 400000 in
theorem flush_no (x : Option Addr) (t : Int) (w : World) (h : Nb w x) : Calls Try.prog 21 #[.pointer x, .int .i64 t] w fun r w' => r = .returned (.int .i64 0) ∧ Below w.heap.size w w' := by
  have H : Hid (Nb w x) := h
  clear h
  go_enter Try.func21, Try.ntmps21
  go_wp2_with fail
  refine (remove_no x _ _ (H.out.below (by go_grown))).mono ?_
  rintro _ W ⟨rfl, b⟩
  have B : Hid (Below w.heap.size w W) := below_over (by go_grown) b
  clear b
  go_wp2
  go_ret
  exact ⟨rfl, B.out⟩
set_option maxHeartbeats 400000 in
theorem drop_no (x : Option Addr) (t : Int) (w : World) (h : Nb w x) : Calls Try.prog 23 #[.pointer x, .int .i64 t] w fun r w' => r = .returned (.int .i64 0) ∧ Below w.heap.size w w' := by
  have H : Hid (Nb w x) := h
  clear h
  go_enter Try.func23, Try.ntmps23
  go_wp2_with fail
  refine (remove_no x _ _ (H.out.below (by go_grown))).mono ?_
  rintro _ W ⟨rfl, b⟩
  have B : Hid (Below w.heap.size w W) := below_over (by go_grown) b
  clear b
  go_wp2
  go_ret
  exact ⟨rfl, B.out⟩
set_option maxHeartbeats 400000 in
theorem all_no (x : Option Addr) (w : World) (h : Nb w x) : Calls Try.prog 28 #[.pointer x] w fun r w' => r = .returned (.slice none 0 0) ∧ Below w.heap.size w w' := by
  have H : Hid (Nb w x) := h
  clear h
  go_enter Try.func28, Try.ntmps28
  go_wp2_with fail
  refine (made_no x _ H.out).mono ?_
  rintro _ Y ⟨rfl, hY⟩
  rw [hY]
  clear hY Y
  go_wp2
  go_ret
  exact ⟨rfl, Below.refl _ _⟩
set_option maxHeartbeats 400000 in
theorem len_no (x : Option Addr) (w : World) (h : Nb w x) : Calls Try.prog 26 #[.pointer x] w fun r w' => r = .returned (.int .i64 0) ∧ Below w.heap.size w w' := by
  have H : Hid (Nb w x) := h
  clear h
  go_enter Try.func26, Try.ntmps26
  go_wp2_with fail
  refine (made_no x _ H.out).mono ?_
  rintro _ Y ⟨rfl, hY⟩
  rw [hY]
  clear hY Y
  go_wp2
  go_ret
  exact ⟨rfl, Below.refl _ _⟩
set_option maxHeartbeats 400000 in
theorem fork_no (x : Option Addr) (w : World) (h : Nb w x) : Calls Try.prog 25 #[.pointer x] w fun r w' => r = .returned (.pointer none) ∧ Below w.heap.size w w' := by
  have H : Hid (Nb w x) := h
  clear h
  go_enter Try.func25, Try.ntmps25
  go_wp2_with fail
  refine (made_no x _ H.out).mono ?_
  rintro _ Y ⟨rfl, hY⟩
  rw [hY]
  clear hY Y
  go_wp2
  go_ret
  exact ⟨rfl, Below.refl _ _⟩
set_option maxHeartbeats 4000000 in
theorem FdbNobody_walk (o : Oq) (w : World) (ho : o.wf) : Calls Try.prog 7 #[.agg o.cs] w fun r w' => r = .returned (.bool true) ∧ Below w.heap.size w w' := by
  obtain ⟨A, hA⟩ : ∃ A, w.alloc (.cells o.cs 36) = A := ⟨_, rfl⟩
  obtain ⟨B, hB⟩ : ∃ B, A.alloc (.cells #[.int .i64 0, .int .i64 0, .int .i64 0, .map none] 62) = B := ⟨_, rfl⟩
  obtain ⟨W, hW⟩ : ∃ W, B.alloc (.cells #[.pointer none, .pointer (some ⟨w.heap.size + 1, 0, none⟩)] 23) = W := ⟨_, rfl⟩
  have bA : Below w.heap.size w A := by rw [← hA]; exact (Below.refl _ _).alloc (Nat.le_refl _) _
  have bB : Below A.heap.size A B := by rw [← hB]; exact (Below.refl _ _).alloc (Nat.le_refl _) _
  have bC : Below B.heap.size B W := by rw [← hW]; exact (Below.refl _ _).alloc (Nat.le_refl _) _
  have zA : A.heap.size = w.heap.size + 1 := by rw [← hA]; simp
  have zB : B.heap.size = w.heap.size + 1 + 1 := by rw [← hB]; simp [zA]
  have rv : RvAt W w.heap.size 36 o.cs := by
    have : RvAt A w.heap.size 36 o.cs := by rw [← hA]; exact RvAt.new w _ _
    exact (this.below bB).below bC
  have rB : RvAt W (w.heap.size + 1) 62 #[.int .i64 0, .int .i64 0, .int .i64 0, .map none] := by
    have : RvAt B (w.heap.size + 1) 62 #[.int .i64 0, .int .i64 0, .int .i64 0, .map none] := by rw [← zA, ← hB]; exact RvAt.new A _ _
    exact this.below bC
  have rC : RvAt W (w.heap.size + 1 + 1) 23 #[.pointer none, .pointer (some ⟨w.heap.size + 1, 0, none⟩)] := by rw [← zB, ← hW]; exact RvAt.new B _ _
  have bW := below_over (below_over bA bB) bC
  have n1 := rB.cell 3 (.map none) rfl
  have HC : Hid (RvAt W (w.heap.size + 1 + 1) 23 #[.pointer none, .pointer (some ⟨w.heap.size + 1, 0, none⟩)]) := rC
  have N : Hid (Nb W none ∧ Nb W (some ⟨w.heap.size + 1, 0, none⟩) ∧ RvAt W w.heap.size 36 o.cs ∧ Below w.heap.size w W) := ⟨.inl rfl, .inr ⟨_, rfl, n1⟩, rv, bW⟩
  have HW : Hid (((w.alloc (.cells o.cs 36)).alloc (.cells #[.int .i64 0, .int .i64 0, .int .i64 0, .map none] 62)).alloc (.cells #[.pointer none, .pointer (some ⟨w.heap.size + 1, 0, none⟩)] 23) = W) := show _ = _ by rw [hA, hB, hW]
  clear bW n1 ho hA hB hW bA bB bC zA zB rv rB rC
  go_enter Try.func7, Try.ntmps7
  go_wp2_with fail
  rw [HW.out]
  go_loopw [13] (fun v13 wr => ∃ i : Nat, i ≤ 2 ∧ v13 = .int .i64 i ∧ Below W.heap.size W wr) (fun v13 _ => 2 - (intOf v13).toNat)
  case atStart => exact ⟨0, by omega, rfl, Below.refl _ _⟩
  case round =>
    obtain ⟨i, hi, rfl, hB⟩ := hrel
    by_cases hit : i < 2
    · have hi0 : (0 : Int) ≤ (i : Int) := by omega
      have hi1 : (i : Int) < 2 := by omega
      obtain ⟨x, hx, hN⟩ : ∃ x, wr.cell? ⟨w.heap.size + 1 + 1, i, none⟩ = some (.pointer x) ∧ Nb wr x := by
        have hr := HC.out.below hB
        rcases (show i = 0 ∨ i = 1 by omega) with rfl | rfl
        · exact ⟨none, hr.cell 0 _ rfl, N.out.1.below hB⟩
        · exact ⟨_, hr.cell 1 _ rfl, N.out.2.1.below hB⟩
      have rv := N.out.2.2.1.below hB
      have c1 := rv.cell 1 (.int .i64 o.k.vid) rfl
      have cm := rv.omac
      have HB : Hid (Below W.heap.size W wr ∧ Nb wr x ∧ RvAt wr w.heap.size 36 o.cs) := ⟨hB, hN, rv⟩
      clear hB hN rv
      go_wp2_with fail
      refine (find_no x o.k _ HB.out.2.1).mono ?_
      rintro _ W3 ⟨rfl, b3⟩
      have G : Hid (Below W.heap.size W W3 ∧ Nb W3 x) := ⟨below_over HB.out.1 b3, HB.out.2.1.below b3⟩
      have rv3 := HB.out.2.2.below b3
      have d1 := fun q : Later W3 => (rv3.below q.below).cell 1 (.int .i64 o.k.vid) rfl
      have d8 := fun q : Later W3 => (rv3.below q.below).cell 8 (.int .i64 o.port) rfl
      have d9 := fun q : Later W3 => (rv3.below q.below).cell 9 (.int .i64 o.tick) rfl
      have dm := fun q : Later W3 => (rv3.below q.below).omac
      have P11 : Hid (∀ q : Later W3, _) := fun q : Later W3 => learn_no x o.k o.port o.tick q.val (G.out.2.below q.below)
      have P13 : Hid (∀ q : Later W3, _) := fun q : Later W3 => static_no x o.k o.port q.val (G.out.2.below q.below)
      have P15 : Hid (∀ q : Later W3, _) := fun q : Later W3 => unstatic_no x o.k q.val (G.out.2.below q.below)
      have P19 : Hid (∀ q : Later W3, _) := fun q : Later W3 => age_no x o.tick q.val (G.out.2.below q.below)
      have P21 : Hid (∀ q : Later W3, _) := fun q : Later W3 => flush_no x o.port q.val (G.out.2.below q.below)
      have P23 : Hid (∀ q : Later W3, _) := fun q : Later W3 => drop_no x o.k.vid q.val (G.out.2.below q.below)
      have P28 : Hid (∀ q : Later W3, _) := fun q : Later W3 => all_no x q.val (G.out.2.below q.below)
      have P26 : Hid (∀ q : Later W3, _) := fun q : Later W3 => len_no x q.val (G.out.2.below q.below)
      have P25 : Hid (∀ q : Later W3, _) := fun q : Later W3 => fork_no x q.val (G.out.2.below q.below)
      clear b3 rv3 c1 cm hx
      go_wp2_with fail
      refine wp_region_later (by kernel_rfl) (by kernel_rfl) ?_
      try simp only [List.append_eq, List.cons_append, List.nil_append]
      repeat (go_big_quiet_step (first | exact rfl | (go_at_call 11; with_reducible exact Calls.later_of (P11.out _)) | (go_at_call 13; with_reducible exact Calls.later_of (P13.out _)) | (go_at_call 15; with_reducible exact Calls.later_of (P15.out _)) | (go_at_call 19; with_reducible exact Calls.later_of (P19.out _)) | (go_at_call 21; with_reducible exact Calls.later_of (P21.out _)) | (go_at_call 23; with_reducible exact Calls.later_of (P23.out _)) | (go_at_call 28; with_reducible exact Calls.later_of (P28.out _)) | (go_at_call 26; with_reducible exact Calls.later_of (P26.out _)) | (go_at_call 25; with_reducible exact Calls.later_of (P25.out _))))
      refine wpQuiet_nil ?_
      intro _ hw'
      obtain ⟨q, rfl⟩ := hw'
      clear d1 d8 d9 dm P11 P13 P15 P19 P21 P23 P28 P26 P25
      go_wp2
      go_roundw
      case rel => exact ⟨i + 1, by omega, by go_num, below_over G.out.1 q.below⟩
      case measure => simp [intOf]; omega
    · have hin : i = 2 := by omega
      subst hin
      have HB : Hid (Below w.heap.size w wr) := below_over N.out.2.2.2 hB
      clear hB
      go_wp2_with fail
      refine (awake_any _).mono ?_
      rintro _ W4 ⟨rfl, b4⟩
      have B4 : Hid (Below w.heap.size w W4) := below_over HB.out b4
      clear b4
      go_wp2
      go_ret
      exact ⟨rfl, B4.out⟩
end Go.Proofs.Ytpbpofmlpbobmaa
