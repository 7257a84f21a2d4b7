/-
  The definition's New, Find, Behind and Same: their walks, for every base and every input.
-/
import Derived.Test.YtoelpbajaadfeaaRAge
namespace Go.Proofs.Ytoelpbajaadfeaa
set_option linter.unusedVariables false
set_option maxRecDepth 4000
set_option linter.unusedSimpArgs false
open Go.RowKit

attribute [local go_sem ↓] ldK stK ldM stM ldP stP ldE stE apE ldR stR
theorem three_rf (w : World) (c : Cf) (a : Option Addr) (n k : Nat) (q : Ky) : ∃ W, ((w.alloc (.cells (c.rs a n k) 29)).alloc (.cells q.mc 38)).alloc (.cells #[.int .u8 0, .int .u8 0, .int .u8 0, .int .u8 0, .int .u8 0, .int .u8 0] 38) = W ∧ RdAt W w.heap.size c a n k ∧ RvAt W (w.heap.size + 1) 38 q.mc ∧ RvAt W (w.heap.size + 1 + 1) 38 Ad.zero.cs ∧ Below w.heap.size w W ∧ W.heap.size = w.heap.size + 3 := by
  obtain ⟨A, hA⟩ : ∃ A, w.alloc (.cells (c.rs a n k) 29) = A := ⟨_, rfl⟩
  have bA : Below w.heap.size w A := by rw [← hA]; exact (Below.refl _ _).alloc (Nat.le_refl _) _
  have rA : RdAt A w.heap.size c a n k := by rw [← hA]; exact RvAt.new w _ _
  have zA : A.heap.size = w.heap.size + 1 := by rw [← hA]; simp
  obtain ⟨B, hB⟩ : ∃ B, A.alloc (.cells q.mc 38) = B := ⟨_, rfl⟩
  have bB : Below A.heap.size A B := by rw [← hB]; exact (Below.refl _ _).alloc (Nat.le_refl _) _
  have rB : RvAt B (w.heap.size + 1) 38 q.mc := by rw [← zA, ← hB]; exact RvAt.new A _ _
  have zB : B.heap.size = w.heap.size + 1 + 1 := by rw [← hB, ← zA]; simp
  rw [hA, hB]
  have bC : Below B.heap.size B (B.alloc (.cells #[.int .u8 0, .int .u8 0, .int .u8 0, .int .u8 0, .int .u8 0, .int .u8 0] 38)) := (Below.refl _ _).alloc (Nat.le_refl _) _
  refine ⟨_, rfl, (rA.below bB).below bC, rB.below bC, ?_, below_over (below_over bA bB) bC, by simp [zB]⟩
  rw [← zB]
  exact RvAt.new B 38 Ad.zero.cs
set_option maxHeartbeats 4000000 in
theorem rfind_any (c : Cf) (a : Option Addr) (n k : Nat) (l : List En) (q : Ky) (w : World) (h : SlAt w a n k l) (hl : Wfs l) (hq : q.wf) (hn : n ≤ 1000) :
    Calls Try.prog 29 #[.agg (c.rs a n k), .int .i64 q.vid, .agg q.mc] w fun r w' => r = .returned (.tuple #[.agg (plA l q.rk).cs, .bool (look l q.rk).isSome]) ∧ Below w.heap.size w w' := by
  obtain ⟨W, hW, d1, re, rz, bW, zW⟩ := three_rf w c a n k q
  have H : Hid (SlAt w a n k l ∧ Wfs l ∧ q.wf ∧ n ≤ 1000 ∧ l.length = n) := ⟨h, hl, hq, hn, h.len⟩
  have G : Hid (RdAt W w.heap.size c a n k ∧ RvAt W (w.heap.size + 1 + 1) 38 Ad.zero.cs ∧ Below w.heap.size w W) := ⟨d1, rz, bW⟩
  have ld1 := d1.ld
  have lm1 := re.ldm
  clear h hl hq hn d1 re rz bW zW
  go_enter Try.func29, Try.ntmps29
  go_wp2_with fail
  refine (at_any c a n k l q _ (H.out.1.below G.out.2.2) H.out.2.1 H.out.2.2.1 H.out.2.2.2.1).mono ?_
  rintro _ W2 ⟨⟨j, rfl, hat⟩, b2⟩
  have c3 := (G.out.1.below b2).c3
  obtain ⟨V, sV, rV, gV, zV⟩ := (G.out.2.1.below b2).put rtM (Ad.size _) (Ad.size (plA l q.rk)) (Ad.one _)
  have B2 := below_over G.out.2.2 b2
  have G2 : Hid (RvAt V (w.heap.size + 1 + 1) 38 (plA l q.rk).cs ∧ Below w.heap.size w V ∧ Below w.heap.size w W2) := ⟨rV, B2.trans (below_of_grown gV B2.size (fun j e => by cases e; omega)), B2⟩
  clear b2 ld1 lm1 hW G rV gV zV B2
  rcases hat with ⟨rfl, hno⟩ | ⟨i, x, rfl, hx, hlk⟩
  · have e1 : plA l q.rk = Ad.zero := by unfold plA; rw [hno]
    have e2 : (look l q.rk).isSome = false := by rw [hno]; rfl
    rw [e1] at sV
    have E : Hid ((look l q.rk).isSome = false) := e2
    change (stS 38 (.pointer (some ⟨w.heap.size + 1 + 1, 0, none⟩)) (.agg #[.int .u8 0, .int .u8 0, .int .u8 0, .int .u8 0, .int .u8 0, .int .u8 0])).run Try.prog W2 = _ at sV
    clear hno e1 e2
    go_wp2
    refine bodyPost_ret (results_rowtmp rtM Try.results29 _ _ _ _ rfl G2.out.1 (Ad.size _)) rfl ?_
    exact ⟨by rw [E.out]; rfl, G2.out.2.1⟩
  · have hil : i < n := by
      have := (List.getElem?_eq_some_iff.1 hx).1
      have := H.out.2.2.2.2
      omega
    have hi0 : (0 : Int) ≤ (i : Int) := by omega
    have hi1 : (i : Int) < (n : Int) := by omega
    have hi2 : ¬ (i : Int) < 0 := by omega
    obtain ⟨b, o, ha⟩ := H.out.1.some' (by omega)
    have s7 : (ldS 38 (.pointer (some ⟨b, o + i * 14 + 7, none⟩))).run Try.prog W2 = .ok (.agg x.bm.cs) W2 := by
      have := H.out.1.below G2.out.2.2
      rw [ha] at this
      exact this.bmac hx
    have e1 : plA l q.rk = x.bm := by unfold plA; rw [hlk]
    have e2 : (look l q.rk).isSome = true := by rw [hlk]; rfl
    rw [e1] at sV
    have E : Hid ((look l q.rk).isSome = true) := e2
    subst ha
    clear hx hlk e1 e2
    go_wp2
    refine bodyPost_ret (results_rowtmp rtM Try.results29 _ _ _ _ rfl G2.out.1 (Ad.size _)) rfl ?_
    exact ⟨by rw [E.out]; rfl, G2.out.2.1⟩
set_option maxHeartbeats 4000000 in
theorem rbehind_any (c : Cf) (a : Option Addr) (n k : Nat) (l : List En) (y : Ad) (w : World) (h : SlAt w a n k l) (hn : n ≤ 1000) :
    Calls Try.prog 30 #[.agg (c.rs a n k), .agg y.cs] w fun r w' => r = .returned (.int .i64 (behS l y)) ∧ Below w.heap.size w w' := by
  obtain ⟨W1, hW, d1, ry, bW, zW⟩ := two_rm w c a n k y
  have H : Hid (SlAt W1 a n k l ∧ RdAt W1 w.heap.size c a n k ∧ RvAt W1 (w.heap.size + 1) 38 y.cs ∧ n ≤ 1000 ∧ l.length = n ∧ Below w.heap.size w W1) := ⟨h.below bW, d1, ry, hn, h.len, bW⟩
  have hnn : (n : Int) ≤ 1000 := by omega
  clear h hn d1 ry bW zW
  go_enter Try.func30, Try.ntmps30
  go_wp2_with fail
  go_loopw [5, 6] (fun v5 v6 wr => ∃ i : Nat, i ≤ n ∧ v6 = .int .i64 i ∧ v5 = .int .i64 (behS (l.take i) y) ∧ Below W1.heap.size W1 wr) (fun _ v6 _ => n - (intOf v6).toNat)
  case atStart => exact ⟨0, by omega, rfl, rfl, by rw [← hW]; exact Below.refl _ _⟩
  case round =>
    obtain ⟨i, hi, rfl, rfl, hB⟩ := hrel
    have HB : Hid (Below W1.heap.size W1 wr) := hB
    have c3 := (H.out.2.1.below hB).c3
    have hlen := H.out.2.2.2.2.1
    have hin0 : (0 : Int) ≤ (i : Int) := by omega
    by_cases hit : i < n
    · have hin1 : (i : Int) < (n : Int) := by omega
      obtain ⟨b, o, rfl⟩ := H.out.1.some' (by omega)
      obtain ⟨x, hx⟩ : ∃ x, l[i]? = some x := ⟨_, List.getElem?_eq_getElem (by omega)⟩
      have htk : l.take (i + 1) = l.take i ++ [x] := by rw [List.take_add_one, hx]; rfl
      have hbt : behS (l.take (i + 1)) y = behS (l.take i) y + @ite Int (x.bm = y) (Ad.dec x.bm y) 1 0 := by
        unfold behS
        rw [htk, List.filter_append, List.length_append]
        by_cases he : x.bm = y
        · rw [List.filter_cons_of_pos (by simpa [goneSh] using he), if_pos he]
          simp
        · rw [List.filter_cons_of_neg (by simpa [goneSh] using he), if_neg he]
          simp
      have hb0 : 0 ≤ behS (l.take i) y ∧ behS (l.take i) y ≤ 1000 := by
        unfold behS
        have h1 := List.length_filter_le (goneSh y) (l.take i)
        rw [List.length_take] at h1
        have := H.out.2.2.2.1
        omega
      have hw : IntKind.i64.wrap (behS (l.take i) y + 1) = behS (l.take i) y + 1 := IntWalk.i64_in _ (by omega)
      have f3 := fun z : Later wr => ((H.out.2.1.below hB).below z.below).c3
      have fy := fun z : Later wr => ((H.out.2.2.1.below hB).below z.below).ld rtM (Ad.size _)
      have sq := fun z : Later wr => ((H.out.1.below hB).below z.below).bmac hx
      have ee := eqA x.bm y
      have HT : Hid (behS (l.take (i + 1)) y = behS (l.take i) y + @ite Int (x.bm = y) (Ad.dec x.bm y) 1 0) := hbt
      clear hB hx htk hbt
      by_cases he : x.bm = y
      · simp only [he, decide_true] at ee
        rw [he] at sq
        have HT2 : Hid (behS (l.take (i + 1)) y = behS (l.take i) y + 1) := by have := HT.out; rw [if_pos he] at this; exact this
        clear he
        go_wp2_with fail
        refine wp_region_later (by kernel_rfl) (by kernel_rfl) ?_
        repeat (go_big_quiet_step (first | exact rfl))
        refine wpQuiet_nil ?_
        intro _ hw'
        obtain ⟨z, rfl⟩ := hw'
        clear f3 fy sq c3 ee
        go_wp2
        go_roundw
        case rel => exact ⟨i + 1, by omega, by go_num, by rw [HT2.out], below_over HB.out z.below⟩
        case measure => simp [intOf]; omega
      · simp only [he, decide_false] at ee
        have HT2 : Hid (behS (l.take (i + 1)) y = behS (l.take i) y) := by have := HT.out; rw [if_neg he, Int.add_zero] at this; exact this
        clear he
        go_wp2_with fail
        refine wp_region_later (by kernel_rfl) (by kernel_rfl) ?_
        repeat (go_big_quiet_step (first | exact rfl))
        refine wpQuiet_nil ?_
        intro _ hw'
        obtain ⟨z, rfl⟩ := hw'
        clear f3 fy sq c3 ee
        go_wp2
        go_roundw
        case rel => exact ⟨i + 1, by omega, by go_num, by rw [HT2.out], below_over HB.out z.below⟩
        case measure => simp [intOf]; omega
    · have hin : i = n := by omega
      subst hin
      have hin1 : ¬ (i : Int) < (i : Int) := by omega
      have htk : l.take i = l := List.take_of_length_le (by omega)
      rw [htk]
      clear hB htk
      go_wp2
      go_ret
      exact ⟨rfl, below_over H.out.2.2.2.2.2 HB.out⟩
set_option maxHeartbeats 4000000 in
theorem rnew_any (c : Cf) (w : World) :
    Calls Try.prog 9 #[.int .i64 c.room, .int .i64 c.age] w fun r w' => ((okC c = false ∧ r = .returned (.tuple #[.agg (Cf.rs ⟨0, 0⟩ none 0 0), .int .i64 80])) ∨ (okC c = true ∧ r = .returned (.tuple #[.agg (c.rs none 0 0), .int .i64 0]))) ∧ Below w.heap.size w w' := by
  obtain ⟨W, hW⟩ : ∃ W, w.alloc (.cells #[.int .i64 0, .int .i64 0, .slice none 0 0] 29) = W := ⟨_, rfl⟩
  have d1 : RdAt W w.heap.size ⟨0, 0⟩ none 0 0 := by rw [← hW]; exact RvAt.new w 29 (Cf.rs ⟨0, 0⟩ none 0 0)
  have bW : Below w.heap.size w W := by rw [← hW]; exact (Below.refl _ _).alloc (Nat.le_refl _) _
  obtain ⟨V, sV, rV, gV, zV⟩ := d1.put (c' := ⟨0, 0⟩) (a' := none) (n' := 0) (k' := 0)
  obtain ⟨U, sU, rU, gU, zU⟩ := d1.put (c' := c) (a' := none) (n' := 0) (k' := 0)
  have HV : Hid (RvAt V w.heap.size 29 (Cf.rs ⟨0, 0⟩ none 0 0) ∧ Below w.heap.size w V) := ⟨rV, bW.trans (below_of_grown gV bW.size (fun j e => by cases e; exact Nat.le_refl _))⟩
  have HU : Hid (RvAt U w.heap.size 29 (c.rs none 0 0) ∧ Below w.heap.size w U) := ⟨rU, bW.trans (below_of_grown gU bW.size (fun j e => by cases e; exact Nat.le_refl _))⟩
  clear d1 bW rV gV zV rU gU zU
  change (stS 29 (.pointer (some ⟨w.heap.size, 0, none⟩)) (.agg #[.int .i64 0, .int .i64 0, .slice none 0 0])).run Try.prog W = _ at sV
  change (stS 29 (.pointer (some ⟨w.heap.size, 0, none⟩)) (.agg #[.int .i64 c.room, .int .i64 c.age, .slice none 0 0])).run Try.prog W = _ at sU
  have bad : ∀ (h : ¬ (1 ≤ c.room ∧ c.room ≤ 256 ∧ 1 ≤ c.age ∧ c.age ≤ 1048576)), okC c = false := fun h => by
    cases ho : okC c
    · rfl
    · exact absurd (by simp only [okC, inn, Bool.and_eq_true, decide_eq_true_eq] at ho; omega) h
  have good : ∀ (h : 1 ≤ c.room ∧ c.room ≤ 256 ∧ 1 ≤ c.age ∧ c.age ≤ 1048576), okC c = true := fun h => by simp [okC, inn, h]
  have HB : Hid (_ ∧ _) := ⟨bad, good⟩
  clear bad good
  by_cases h3 : c.room < 1
  · go_enter Try.func9, Try.ntmps9
    go_wp2
    refine bodyPost_ret (results_rowtmp rtR Try.results9 _ _ _ _ rfl HV.out.1 rfl) rfl ?_
    exact ⟨.inl ⟨HB.out.1 (by omega), rfl⟩, HV.out.2⟩
  by_cases h4 : c.room > 256
  · go_enter Try.func9, Try.ntmps9
    go_wp2
    refine bodyPost_ret (results_rowtmp rtR Try.results9 _ _ _ _ rfl HV.out.1 rfl) rfl ?_
    exact ⟨.inl ⟨HB.out.1 (by omega), rfl⟩, HV.out.2⟩
  by_cases h5 : c.age < 1
  · go_enter Try.func9, Try.ntmps9
    go_wp2
    refine bodyPost_ret (results_rowtmp rtR Try.results9 _ _ _ _ rfl HV.out.1 rfl) rfl ?_
    exact ⟨.inl ⟨HB.out.1 (by omega), rfl⟩, HV.out.2⟩
  by_cases h6 : c.age > 1048576
  · go_enter Try.func9, Try.ntmps9
    go_wp2
    refine bodyPost_ret (results_rowtmp rtR Try.results9 _ _ _ _ rfl HV.out.1 rfl) rfl ?_
    exact ⟨.inl ⟨HB.out.1 (by omega), rfl⟩, HV.out.2⟩
  · go_enter Try.func9, Try.ntmps9
    go_wp2
    refine bodyPost_ret (results_rowtmp rtR Try.results9 _ _ _ _ rfl HU.out.1 rfl) rfl ?_
    exact ⟨.inr ⟨HB.out.2 (by omega), rfl⟩, HU.out.2⟩
theorem neqE (x : En) (w : World) : (binOp .neq 51 (.agg x.cs) (.agg x.cs)).run Try.prog w = .ok (.bool false) w := by
  have u3 := Try.underlying3
  have a3 := Try.isAgg3
  have z3 := Try.sizeOf3
  have u4 := Try.underlying38
  have a4 := Try.isAgg38
  have z4 := Try.sizeOf38
  have hS : Try.prog.underlying 51 = some (.struct (Try.prog.fieldsOf 51)) := by kernel_rfl
  have hp : Try.prog.stoodInHeld 51 = false := by kernel_rfl
  have hm' : ∀ (a b c d e f a' b' c' d' e' f' : Int) (w : World), (Op.equalIn 9999 38 (.agg #[.int .u8 a, .int .u8 b, .int .u8 c, .int .u8 d, .int .u8 e, .int .u8 f]) (.agg #[.int .u8 a', .int .u8 b', .int .u8 c', .int .u8 d', .int .u8 e', .int .u8 f'])).run Try.prog w = .ok (eq6 a b c d e f a' b' c' d' e' f') w := eqMac9 9997
  have he := eq6_self x.k.a x.k.b x.k.c x.k.d x.k.e x.k.f
  have he2 := eq6_self x.bm.a x.bm.b x.bm.c x.bm.d x.bm.e x.bm.f
  simp only [En.cs]
  rw [run_neq_struct, show (10000 : Nat) = 9999 + 1 from rfl, run_equalIn_agg w 9999 51 _ _ hS hp]
  simp only [Program.fieldsOf, Try.underlying51]
  go_simp
set_option maxHeartbeats 4000000 in
theorem same_eq (a a' : Option Addr) (n k k' : Nat) (l : List En) (w : World) (h : SlAt w a n k l) (h' : SlAt w a' n k' l) (hn : n ≤ 1000) :
    Calls Try.prog 19 #[.slice a n k, .slice a' n k'] w fun r w' => r = .returned (.bool true) ∧ Below w.heap.size w w' := by
  have H : Hid (SlAt w a n k l ∧ SlAt w a' n k' l ∧ n ≤ 1000 ∧ l.length = n) := ⟨h, h', hn, h.len⟩
  have hnn : (n : Int) ≤ 1000 := by omega
  clear h h' hn
  go_enter Try.func19, Try.ntmps19
  go_wp2_with fail
  go_loopw [5] (fun v5 wr => ∃ i : Nat, i ≤ n ∧ v5 = .int .i64 i ∧ Below w.heap.size w wr) (fun v5 _ => n - (intOf v5).toNat)
  case atStart => exact ⟨0, by omega, rfl, Below.refl _ _⟩
  case round =>
    obtain ⟨i, hi, rfl, hB⟩ := hrel
    have hin0 : (0 : Int) ≤ (i : Int) := by omega
    by_cases hit : i < n
    · have hin1 : (i : Int) < (n : Int) := by omega
      obtain ⟨b, o, rfl⟩ := H.out.1.some' (by omega)
      obtain ⟨b', o', rfl⟩ := H.out.2.1.some' (by omega)
      obtain ⟨x, hx⟩ : ∃ x, l[i]? = some x := ⟨_, List.getElem?_eq_getElem (by have := H.out.2.2.2; omega)⟩
      have l1 := fun z : Later wr => ((H.out.1.below hB).below z.below).ld hx
      have l2 := fun z : Later wr => ((H.out.2.1.below hB).below z.below).ld hx
      have ne := neqE x
      have HB : Hid (Below w.heap.size w wr) := hB
      clear hB
      go_wp2_with fail
      refine wp_region_later (by kernel_rfl) (by kernel_rfl) ?_
      repeat (go_big_quiet_step (first | exact rfl))
      refine wpQuiet_nil ?_
      intro _ hw'
      obtain ⟨z, rfl⟩ := hw'
      clear l1 l2 ne
      go_wp2
      go_roundw
      case rel => exact ⟨i + 1, by omega, by go_num, below_over HB.out z.below⟩
      case measure => simp [intOf]; omega
    · have hin : i = n := by omega
      subst hin
      have hin1 : ¬ (i : Int) < (i : Int) := by omega
      go_wp2
      go_ret
      exact ⟨rfl, hB⟩
end Go.Proofs.Ytoelpbajaadfeaa
