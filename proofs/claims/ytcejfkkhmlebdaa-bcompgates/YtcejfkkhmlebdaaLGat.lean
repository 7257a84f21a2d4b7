/-
  The gates of any tree: the walk of the statement, for every input.
-/
import Derived.Test.YtcejfkkhmlebdaaTre
import Derived.Test.YtcejfkkhmlebdaaAwa
namespace Go.Proofs.Ytcejfkkhmlebdaa
set_option linter.unusedVariables false
set_option maxRecDepth 4000
set_option linter.unusedSimpArgs false
open Go.RowKit
attribute [local go_sem ↓] ldT stQs

theorem slQ (x : Value) (lo hi mx : Option Value) : Instr.sliceAt 29 x lo hi mx = slS 29 x lo hi mx := rfl
theorem slQ_cut (a : Option Addr) (n c m : Nat) (hm : m ≤ n) (hc : n ≤ c) (V : World) : (slS 29 (.slice a n c) none (some (.int .i64 m)) none).run Try.prog V = .ok (.slice a m c) V := by
  have hin : (m : Int) ≤ (c : Int) := by omega
  have hz := Try.sizeOf82
  have hu : Try.prog.underlying 29 = some (.slice 82) := Try.underlying29
  unfold slS
  simp only [Instr.sliceAt, Sem.run_bind, run_underlying hu, Result.andThen_ok]
  simp only [Instr.slice, Sem.run_bind, run_underlying hu, Result.andThen_ok, Instr.sliceBounds, Sem.run_pure]
  rw [run_sliceBound V .i64 (m : Int) c _ (by omega) hin]
  simp only [Result.andThen_ok, Sem.run_pure, hz V, Int.toNat_natCast]
  cases a <;> simp [Addr.add]
attribute [local go_sem ↓] slQ
set_option maxHeartbeats 8000000 in
theorem BcompGates_walk (h : Hd) (a : Option Addr) (n c : Nat) (l : List Pt) (w : World) (hs : SlAt eQ w a n c l) :
    Calls Try.prog 3 #[.agg (trc h (.slice a n c))] w fun r w' => r = .returned (.bool true) ∧ Below w.heap.size w w' := by
  obtain ⟨W, hW, r0, bW, zW⟩ := TrAt.new w h (.slice a n c)
  have hnn := hs.int
  have c0 := r0.p
  have n0 := slQ_cut a n c (min n 10) (Nat.min_le_left ..) hs.cap
  obtain ⟨k0, hk0⟩ : ∃ z, min n 10 = z := ⟨_, rfl⟩
  obtain ⟨V, s0, tV, gV⟩ := r0.stP (.slice a k0 c) rfl
  have m0 : min (n : Int) 10 = (k0 : Int) := by omega
  have m0' : (if (10 : Int) < (n : Int) then (10 : Int) else (n : Int)) = (k0 : Int) := by split <;> omega
  have hs' := hs.cutM kQ 10
  rw [hk0] at n0 hs'
  have bV : Below w.heap.size w V := gro bW gV (Nat.le_refl _) bW.size
  have H : Hid (SlAt eQ w a k0 c (l.take 10) ∧ k0 ≤ 10 ∧ TrAt V w.heap.size h (.slice a k0 c) ∧ Below w.heap.size w V) := ⟨hs', by omega, tV, bV⟩
  have l0 := tV.ld
  clear hs hs' r0 bW zW gV bV tV hk0
  go_enter Try.func3, Try.ntmps3
  go_wp2_with fail
  refine (gates_any h a k0 c (l.take 10) V (H.out.1.below H.out.2.2.2) (by have := H.out.2.1; omega)).mono ?_
  rintro _ X1 ⟨⟨g, rfl, sg⟩, b1⟩
  have K1 : Hid (SlAt eG X1 (some ⟨g, 0, none⟩) k0 k0 (gatL (l.take 10)) ∧ Below w.heap.size w X1 ∧ TrAt X1 w.heap.size h (.slice a k0 c)) := ⟨sg, below_over H.out.2.2.2 b1, H.out.2.2.1.below b1⟩
  have l1 := K1.out.2.2.ld
  clear sg b1 l0 c0 n0 s0 m0 m0'
  go_wp2_with fail
  refine (rgates_any h a k0 c (l.take 10) X1 (H.out.1.below K1.out.2.1) (by have := H.out.2.1; omega)).mono ?_
  rintro _ X2 ⟨⟨v, rfl, ov⟩, b2⟩
  obtain ⟨ra, rc, rfl, sr, _⟩ := ov.form
  have hgl : (gatL (l.take 10)).length = k0 := K1.out.1.len
  rw [hgl] at sr ⊢
  obtain ⟨GL, hGL⟩ : ∃ z, gatL (l.take 10) = z := ⟨_, rfl⟩
  have K1' := K1.out
  rw [hGL] at sr K1'
  have K2 : Hid (SlAt eG X2 (some ⟨g, 0, none⟩) k0 k0 GL ∧ SlAt eH X2 ra k0 rc GL ∧ Below w.heap.size w X2 ∧ GL.length = k0) := ⟨K1'.1.below b2, sr, below_over K1'.2.1 b2, sr.len⟩
  have hk1 : (k0 : Int) ≤ 9223372036854775807 := by have := H.out.2.1; omega
  clear ov b2 l1 hgl hGL sr K1'
  go_wp2_with fail
  go_loopw [5] (fun v wr => ∃ i : Nat, i ≤ k0 ∧ v = .int .i64 i ∧ Below X2.heap.size X2 wr) (fun v _ => k0 - (intOf v).toNat)
  case atStart => exact ⟨0, by omega, rfl, Below.refl _ _⟩
  case round =>
    obtain ⟨i, hi, rfl, hB⟩ := hrel
    have J : Hid (Below X2.heap.size X2 wr) := hB
    have hi0 : (0 : Int) ≤ (i : Int) := by omega
    clear hB
    by_cases hit : i < k0
    · have hi1 : (i : Int) < (k0 : Int) := by omega
      obtain ⟨b, o, rfl⟩ := K2.out.2.1.some' (by omega)
      obtain ⟨y, hy⟩ := lt_nth (l := GL) (i := i) (by rw [K2.out.2.2.2]; exact hit)
      have f0 : ∀ q : Later wr, q.val.cell? ⟨g, i * 2, none⟩ = some (.bool y.l) := fun q => by have := lG0 ((K2.out.1.below J.out).below q.below) hy; rw [Nat.zero_add] at this; exact this
      have f1 : ∀ q : Later wr, q.val.cell? ⟨g, i * 2 + 1, none⟩ = some (.bool y.f) := fun q => by have := lG1 ((K2.out.1.below J.out).below q.below) hy; rw [Nat.zero_add] at this; exact this
      have f2 := fun q : Later wr => lH0 ((K2.out.2.1.below J.out).below q.below) hy
      have f3 := fun q : Later wr => lH1 ((K2.out.2.1.below J.out).below q.below) hy
      clear hy hit
      go_wp2_with fail
      refine wp_region_later (by kernel_rfl) (by kernel_rfl) ?_
      repeat (go_big_quiet_step (first | exact rfl))
      refine wpQuiet_nil ?_
      intro _ hw'
      obtain ⟨t, rfl⟩ := hw'
      clear f0 f1 f2 f3
      go_wp2
      go_roundw
      case rel => exact ⟨i + 1, by omega, by go_num, below_later J.out t⟩
      case measure => simp [intOf]; omega
    · have hin : i = k0 := by omega
      subst hin
      have hi1 : ¬ (i : Int) < (i : Int) := by omega
      go_wp2_with fail
      refine (awake_any wr).mono ?_
      rintro _ Z ⟨rfl, bZ⟩
      have B : Hid (Below w.heap.size w Z) := below_over K2.out.2.2.1 (below_over J.out bZ)
      clear bZ
      go_wp2
      go_ret
      exact ⟨rfl, B.out⟩
end Go.Proofs.Ytcejfkkhmlebdaa
