/-
  The role taken, the beginning, and what reaches all ports: the walks of takeRole, begin, bringInStep and askReRoot.
-/
import Derived.Test.YtdlleecfmebenaaDeedA
namespace Go.Proofs.Ytdlleecfmebenaa
set_option linter.unusedVariables false
set_option maxRecDepth 4000
set_option linter.unusedSimpArgs false
open Go.RowKit

attribute [local go_sem ↓] ldP stP stB stU st49 stW ldT stT
set_option maxHeartbeats 4000000 in
theorem rolP_deed : Deed1 30 rolP := by
  intro w W b h g c n k Q l p D0
  have S0 : Hid (DP w W b h g c n k Q l p) := D0
  clear D0
  obtain ⟨N, hN⟩ : ∃ N, p.nm 31 = N := ⟨_, rfl⟩
  have tk30 : (takP p).nm 30 = N := by rw [← hN]; exact p.nset (fit_num kn30 (p.nwf kn31)) (by decide)
  by_cases h0 : N = 0
  · have E : rolP p = becDis (takP p) := by
      unfold rolP
      rw [hN, h0]
      rfl
    rw [E]
    have E31 : Hid (p.nm 31 = 0) := by rw [hN, h0]; exact rfl
    subst h0
    clear E hN
    go_enter Try.func30, Try.ntmps30
    go_wp2_with fail
    refine (dport_any S0.out).mono ?_
    rintro _ V1 ⟨rfl, D1⟩
    have l31 := D1.num (j := 31) (q := .i64) rfl
    obtain ⟨V2, s2, D2⟩ := D1.setN (t := 39) info1.2.2.2.1 kn30 (x := p.nm 31) (p.nwf kn31)
    have D2 : DP w V2 b h g c n k Q l (takP p) := D2
    have l30 := D2.num (j := 30) (q := .i64) rfl
    rw [tk30] at l30
    rw [E31.out] at s2 l31
    have S2 : Hid (DP w V2 b h g c n k Q l (takP p)) := D2
    clear D1 D2 tk30
    go_wp2_with fail
    refine (becDis_deed w _ b h g c n k Q l _ S2.out).mono ?_
    rintro _ V3 ⟨rfl, D3⟩
    have S3 : Hid (DP w V3 b h g c n k Q l (becDis (takP p))) := D3
    clear D3
    go_wp2
    go_end0
    exact ⟨rfl, S3.out⟩
  by_cases h3 : N = 3
  · have E : rolP p = becRoot (takP p) := by
      unfold rolP
      rw [hN, h3]
      rfl
    rw [E]
    have E31 : Hid (p.nm 31 = 3) := by rw [hN, h3]; exact rfl
    subst h3
    clear E hN
    go_enter Try.func30, Try.ntmps30
    go_wp2_with fail
    refine (dport_any S0.out).mono ?_
    rintro _ V1 ⟨rfl, D1⟩
    have l31 := D1.num (j := 31) (q := .i64) rfl
    obtain ⟨V2, s2, D2⟩ := D1.setN (t := 39) info1.2.2.2.1 kn30 (x := p.nm 31) (p.nwf kn31)
    have D2 : DP w V2 b h g c n k Q l (takP p) := D2
    have l30 := D2.num (j := 30) (q := .i64) rfl
    rw [tk30] at l30
    rw [E31.out] at s2 l31
    have S2 : Hid (DP w V2 b h g c n k Q l (takP p)) := D2
    clear D1 D2 tk30
    go_wp2_with fail
    refine (becRoot_deed w _ b h g c n k Q l _ S2.out).mono ?_
    rintro _ V3 ⟨rfl, D3⟩
    have S3 : Hid (DP w V3 b h g c n k Q l (becRoot (takP p))) := D3
    clear D3
    go_wp2
    go_end0
    exact ⟨rfl, S3.out⟩
  by_cases h4 : N = 4
  · have E : rolP p = becDsg (takP p) := by
      unfold rolP
      rw [hN, h4]
      rfl
    rw [E]
    have E31 : Hid (p.nm 31 = 4) := by rw [hN, h4]; exact rfl
    subst h4
    clear E hN
    go_enter Try.func30, Try.ntmps30
    go_wp2_with fail
    refine (dport_any S0.out).mono ?_
    rintro _ V1 ⟨rfl, D1⟩
    have l31 := D1.num (j := 31) (q := .i64) rfl
    obtain ⟨V2, s2, D2⟩ := D1.setN (t := 39) info1.2.2.2.1 kn30 (x := p.nm 31) (p.nwf kn31)
    have D2 : DP w V2 b h g c n k Q l (takP p) := D2
    have l30 := D2.num (j := 30) (q := .i64) rfl
    rw [tk30] at l30
    rw [E31.out] at s2 l31
    have S2 : Hid (DP w V2 b h g c n k Q l (takP p)) := D2
    clear D1 D2 tk30
    go_wp2_with fail
    refine (becDsg_deed w _ b h g c n k Q l _ S2.out).mono ?_
    rintro _ V3 ⟨rfl, D3⟩
    have S3 : Hid (DP w V3 b h g c n k Q l (becDsg (takP p))) := D3
    clear D3
    go_wp2
    go_end0
    exact ⟨rfl, S3.out⟩
  · have E : rolP p = becBlk (takP p) := by
      unfold rolP
      rw [hN, if_neg h0, if_neg h3, if_neg h4]
    rw [E]
    have E31 : Hid (p.nm 31 = N) := hN
    have x0 : (N == 0) = false := by simpa using h0
    have x3 : (N == 3) = false := by simpa using h3
    have x4 : (N == 4) = false := by simpa using h4
    clear E hN
    go_enter Try.func30, Try.ntmps30
    go_wp2_with fail
    refine (dport_any S0.out).mono ?_
    rintro _ V1 ⟨rfl, D1⟩
    have l31 := D1.num (j := 31) (q := .i64) rfl
    obtain ⟨V2, s2, D2⟩ := D1.setN (t := 39) info1.2.2.2.1 kn30 (x := p.nm 31) (p.nwf kn31)
    have D2 : DP w V2 b h g c n k Q l (takP p) := D2
    have l30 := D2.num (j := 30) (q := .i64) rfl
    rw [tk30] at l30
    rw [E31.out] at s2 l31
    have S2 : Hid (DP w V2 b h g c n k Q l (takP p)) := D2
    clear D1 D2 tk30
    go_wp2_with fail
    refine (becBlk_deed w _ b h g c n k Q l _ S2.out).mono ?_
    rintro _ V3 ⟨rfl, D3⟩
    have S3 : Hid (DP w V3 b h g c n k Q l (becBlk (takP p))) := D3
    clear D3
    go_wp2
    go_end0
    exact ⟨rfl, S3.out⟩
set_option maxHeartbeats 8000000 in
theorem begP_deed : Deed1 29 begP := by
  intro w W b h g c n k Q l p D0
  have S0 : Hid (DP w W b h g c n k Q l p) := D0
  clear D0
  go_enter Try.func29, Try.ntmps29
  go_wp2_with fail
  refine (dport_any S0.out).mono ?_
  rintro _ V0 ⟨rfl, D0⟩
  obtain ⟨V1, s1, D1⟩ := D0.setN (t := 39) info1.2.2.2.1 kn30 (x := 0) wi0
  obtain ⟨V2, s2, D2⟩ := D1.setN infoS kn73 (x := 1) wi1
  obtain ⟨V3, s3, D3⟩ := D2.setB kb9 false
  obtain ⟨V4, s4, D4⟩ := D3.setB kb7 false
  obtain ⟨V5, s5, D5⟩ := D4.setB kb25 false
  obtain ⟨V6, s6, D6⟩ := D5.setB kb24 true
  obtain ⟨V7, s7, D7⟩ := D6.setB kb20 true
  have D7 : DP w V7 b h g c n k Q l (begA p) := D7
  have S7 : Hid (DP w V7 b h g c n k Q l (begA p)) := D7
  clear D0 D1 D2 D3 D4 D5 D6 D7
  go_upto_region 4 with fail
  clear s1 s2 s3 s4 s5 s6 s7
  obtain ⟨X0, hX0⟩ : ∃ X0, World.drew V7 = X0 := ⟨_, rfl⟩
  have D7 : DP w X0 b h g c n k Q l (begA p) := by rw [← hX0]; exact S7.out.below (Below.refl _ _).drew
  obtain ⟨N43, h43⟩ : ∃ z, (begA p).nm 43 = z := ⟨_, rfl⟩
  obtain ⟨N41, h41⟩ : ∃ z, (begA p).nm 41 = z := ⟨_, rfl⟩
  have r43 : 0 ≤ N43 ∧ N43 ≤ 255 := by rw [← h43]; exact (begA p).u8 rfl
  have r41 : 0 ≤ N41 ∧ N41 ≤ 255 := by rw [← h41]; exact (begA p).u8 rfl
  obtain ⟨V8, s8, D8⟩ := D7.setU ku70 (x := N43) r43
  obtain ⟨V9, s9, D9⟩ := D8.setU ku65 (x := N41) r41
  obtain ⟨V10, s10, D10⟩ := D9.setU ku68 (x := 0) (by omega)
  have E0 : Hid ((begA p).nm 43 = N43 ∧ (begA p).nm 41 = N41) := ⟨h43, h41⟩
  have E1 : Hid (((begA p).setU 70 N43).nm 43 = N43 ∧ ((begA p).setU 70 N43).nm 41 = N41) := ⟨by rw [Row.setU_nm _ (by decide)]; exact h43, by rw [Row.setU_nm _ (by decide)]; exact h41⟩
  have E2 : Hid ((((begA p).setU 70 N43).setU 65 N41).nm 43 = N43 ∧ (((begA p).setU 70 N43).setU 65 N41).nm 41 = N41) := ⟨by rw [Row.setU_nm _ (by decide)]; exact E1.out.1, by rw [Row.setU_nm _ (by decide)]; exact E1.out.2⟩
  have E3 : Hid (((((begA p).setU 70 N43).setU 65 N41).setU 68 0).nm 43 = N43 ∧ ((((begA p).setU 70 N43).setU 65 N41).setU 68 0).nm 41 = N41) := ⟨by rw [Row.setU_nm _ (by decide)]; exact E2.out.1, by rw [Row.setU_nm _ (by decide)]; exact E2.out.2⟩
  have S10 : Hid (DP w V10 b h g c n k Q l (begP p)) := by
    have e : begP p = (((begA p).setU 70 N43).setU 65 N41).setU 68 0 := by
      unfold begP
      rw [h43, h41]
    rw [e]
    exact D10
  clear h43 h41 r43 r41
  refine wp_region_noPanic ?_
  refine wp_region_held_drew (S := fun w' => ∃ q', DP w w' b h g c n k Q l q' ∧ q'.nm 43 = N43 ∧ q'.nm 41 = N41) (by kernel_rfl) ⟨_, by rw [hX0]; exact D7, E0.out.1, E0.out.2⟩ (fun hHeld => ?_)
  rw [hX0] at hHeld ⊢
  clear hX0
  refine wpAnyH_take (i := 0) (oi := { dst := some 26, op := Op.move (Operand.tmp 2), type := 66, pos := "deeds.go:13", after := #[], guard := none }) (v := ?_) rfl (by kernel_rfl) (by kernel_rfl) (by kernel_rfl) (fun _ _ _ h => h) (Or.inl ⟨by rfl, ?_⟩) hHeld ?_
  rotate_left
  · intro W_ hSw_
    obtain ⟨qq, Dq, e43, e41⟩ := hSw_; have x43 := Dq.num (j := 43) (q := .u8) rfl; have x41 := Dq.num (j := 41) (q := .u8) rfl; rw [e43] at x43; rw [e41] at x41; clear Dq e43 e41
    first | (go_simp; done) | (go_simp; with_reducible rfl)
  rotate_left
  try simp only [Act.put, List.setIfInBounds_toArray, List.set_cons_zero, List.set_cons_succ]
  refine wpAnyH_take (i := 1) (oi := { dst := some 27, op := Op.move (Operand.tmp 2), type := 66, pos := "deeds.go:13", after := #[{ on := 15, ground := Ground.gcOnly Departure.lateStores }], guard := none }) (v := ?_) rfl (by kernel_rfl) (by kernel_rfl) (by kernel_rfl) (fun _ _ _ h => h) (Or.inl ⟨by rfl, ?_⟩) hHeld ?_
  rotate_left
  · intro W_ hSw_
    obtain ⟨qq, Dq, e43, e41⟩ := hSw_; have x43 := Dq.num (j := 43) (q := .u8) rfl; have x41 := Dq.num (j := 41) (q := .u8) rfl; rw [e43] at x43; rw [e41] at x41; clear Dq e43 e41
    first | (go_simp; done) | (go_simp; with_reducible rfl)
  rotate_left
  try simp only [Act.put, List.setIfInBounds_toArray, List.set_cons_zero, List.set_cons_succ]
  refine wpAnyH_take (i := 2) (oi := { dst := some 28, op := Op.move (Operand.tmp 2), type := 66, pos := "deeds.go:13", after := #[{ on := 18, ground := Ground.gcOnly Departure.lateStores }], guard := none }) (v := ?_) rfl (by kernel_rfl) (by kernel_rfl) (by kernel_rfl) (fun _ _ _ h => h) (Or.inl ⟨by rfl, ?_⟩) hHeld ?_
  rotate_left
  · intro W_ hSw_
    obtain ⟨qq, Dq, e43, e41⟩ := hSw_; have x43 := Dq.num (j := 43) (q := .u8) rfl; have x41 := Dq.num (j := 41) (q := .u8) rfl; rw [e43] at x43; rw [e41] at x41; clear Dq e43 e41
    first | (go_simp; done) | (go_simp; with_reducible rfl)
  rotate_left
  try simp only [Act.put, List.setIfInBounds_toArray, List.set_cons_zero, List.set_cons_succ]
  refine wpAnyH_take (i := 3) (oi := { dst := some 29, op := Op.move (Operand.tmp 2), type := 66, pos := "deeds.go:13", after := #[], guard := none }) (v := ?_) rfl (by kernel_rfl) (by kernel_rfl) (by kernel_rfl) (fun _ _ _ h => h) (Or.inl ⟨by rfl, ?_⟩) hHeld ?_
  rotate_left
  · intro W_ hSw_
    obtain ⟨qq, Dq, e43, e41⟩ := hSw_; have x43 := Dq.num (j := 43) (q := .u8) rfl; have x41 := Dq.num (j := 41) (q := .u8) rfl; rw [e43] at x43; rw [e41] at x41; clear Dq e43 e41
    first | (go_simp; done) | (go_simp; with_reducible rfl)
  rotate_left
  try simp only [Act.put, List.setIfInBounds_toArray, List.set_cons_zero, List.set_cons_succ]
  refine wpAnyH_take (i := 4) (oi := { dst := some 30, op := Op.nilCheck (Operand.tmp 29), type := 0, pos := "deeds.go:13", after := #[{ on := 3, ground := Ground.data }], guard := none }) (v := ?_) rfl (by kernel_rfl) (by kernel_rfl) (by kernel_rfl) (fun _ _ _ h => h) (Or.inl ⟨by rfl, ?_⟩) hHeld ?_
  rotate_left
  · intro W_ hSw_
    obtain ⟨qq, Dq, e43, e41⟩ := hSw_; have x43 := Dq.num (j := 43) (q := .u8) rfl; have x41 := Dq.num (j := 41) (q := .u8) rfl; rw [e43] at x43; rw [e41] at x41; clear Dq e43 e41
    first | (go_simp; done) | (go_simp; with_reducible rfl)
  rotate_left
  try simp only [Act.put, List.setIfInBounds_toArray, List.set_cons_zero, List.set_cons_succ]
  refine wpAnyH_take (i := 5) (oi := { dst := some 31, op := Op.fieldAddr 45 (Operand.tmp 30) 34, type := 0, pos := "deeds.go:13", after := #[{ on := 4, ground := Ground.data }], guard := none }) (v := ?_) rfl (by kernel_rfl) (by kernel_rfl) (by kernel_rfl) (fun _ _ _ h => h) (Or.inl ⟨by rfl, ?_⟩) hHeld ?_
  rotate_left
  · intro W_ hSw_
    obtain ⟨qq, Dq, e43, e41⟩ := hSw_; have x43 := Dq.num (j := 43) (q := .u8) rfl; have x41 := Dq.num (j := 41) (q := .u8) rfl; rw [e43] at x43; rw [e41] at x41; clear Dq e43 e41
    first | (go_simp; done) | (go_simp; with_reducible rfl)
  rotate_left
  try simp only [Act.put, List.setIfInBounds_toArray, List.set_cons_zero, List.set_cons_succ]
  refine wpAnyH_take (i := 6) (oi := { dst := some 32, op := Op.fieldAddr 24 (Operand.tmp 31) 3, type := 0, pos := "deeds.go:13", after := #[{ on := 5, ground := Ground.data }], guard := none }) (v := ?_) rfl (by kernel_rfl) (by kernel_rfl) (by kernel_rfl) (fun _ _ _ h => h) (Or.inl ⟨by rfl, ?_⟩) hHeld ?_
  rotate_left
  · intro W_ hSw_
    obtain ⟨qq, Dq, e43, e41⟩ := hSw_; have x43 := Dq.num (j := 43) (q := .u8) rfl; have x41 := Dq.num (j := 41) (q := .u8) rfl; rw [e43] at x43; rw [e41] at x41; clear Dq e43 e41
    first | (go_simp; done) | (go_simp; with_reducible rfl)
  rotate_left
  try simp only [Act.put, List.setIfInBounds_toArray, List.set_cons_zero, List.set_cons_succ]
  refine wpAnyH_take (i := 7) (oi := { dst := some 33, op := Op.load 5 (Operand.tmp 32), type := 5, pos := "deeds.go:13", after := #[{ on := 6, ground := Ground.data }], guard := none }) (v := ?_) rfl (by kernel_rfl) (by kernel_rfl) (by kernel_rfl) (fun _ _ _ h => h) (Or.inl ⟨by rfl, ?_⟩) hHeld ?_
  rotate_left
  · intro W_ hSw_
    obtain ⟨qq, Dq, e43, e41⟩ := hSw_; have x43 := Dq.num (j := 43) (q := .u8) rfl; have x41 := Dq.num (j := 41) (q := .u8) rfl; rw [e43] at x43; rw [e41] at x41; clear Dq e43 e41
    first | (go_simp; done) | (go_simp; with_reducible rfl)
  rotate_left
  try simp only [Act.put, List.setIfInBounds_toArray, List.set_cons_zero, List.set_cons_succ]
  refine wpAnyH_take (i := 8) (oi := { dst := some 34, op := Op.move (Operand.tmp 2), type := 66, pos := "deeds.go:13", after := #[], guard := none }) (v := ?_) rfl (by kernel_rfl) (by kernel_rfl) (by kernel_rfl) (fun _ _ _ h => h) (Or.inl ⟨by rfl, ?_⟩) hHeld ?_
  rotate_left
  · intro W_ hSw_
    obtain ⟨qq, Dq, e43, e41⟩ := hSw_; have x43 := Dq.num (j := 43) (q := .u8) rfl; have x41 := Dq.num (j := 41) (q := .u8) rfl; rw [e43] at x43; rw [e41] at x41; clear Dq e43 e41
    first | (go_simp; done) | (go_simp; with_reducible rfl)
  rotate_left
  try simp only [Act.put, List.setIfInBounds_toArray, List.set_cons_zero, List.set_cons_succ]
  refine wpAnyH_take (i := 9) (oi := { dst := some 35, op := Op.nilCheck (Operand.tmp 34), type := 0, pos := "deeds.go:13", after := #[{ on := 8, ground := Ground.data }], guard := none }) (v := ?_) rfl (by kernel_rfl) (by kernel_rfl) (by kernel_rfl) (fun _ _ _ h => h) (Or.inl ⟨by rfl, ?_⟩) hHeld ?_
  rotate_left
  · intro W_ hSw_
    obtain ⟨qq, Dq, e43, e41⟩ := hSw_; have x43 := Dq.num (j := 43) (q := .u8) rfl; have x41 := Dq.num (j := 41) (q := .u8) rfl; rw [e43] at x43; rw [e41] at x41; clear Dq e43 e41
    first | (go_simp; done) | (go_simp; with_reducible rfl)
  rotate_left
  try simp only [Act.put, List.setIfInBounds_toArray, List.set_cons_zero, List.set_cons_succ]
  refine wpAnyH_take (i := 10) (oi := { dst := some 36, op := Op.fieldAddr 45 (Operand.tmp 35) 34, type := 0, pos := "deeds.go:13", after := #[{ on := 9, ground := Ground.data }], guard := none }) (v := ?_) rfl (by kernel_rfl) (by kernel_rfl) (by kernel_rfl) (fun _ _ _ h => h) (Or.inl ⟨by rfl, ?_⟩) hHeld ?_
  rotate_left
  · intro W_ hSw_
    obtain ⟨qq, Dq, e43, e41⟩ := hSw_; have x43 := Dq.num (j := 43) (q := .u8) rfl; have x41 := Dq.num (j := 41) (q := .u8) rfl; rw [e43] at x43; rw [e41] at x41; clear Dq e43 e41
    first | (go_simp; done) | (go_simp; with_reducible rfl)
  rotate_left
  try simp only [Act.put, List.setIfInBounds_toArray, List.set_cons_zero, List.set_cons_succ]
  refine wpAnyH_take (i := 11) (oi := { dst := some 37, op := Op.fieldAddr 24 (Operand.tmp 36) 1, type := 0, pos := "deeds.go:13", after := #[{ on := 10, ground := Ground.data }], guard := none }) (v := ?_) rfl (by kernel_rfl) (by kernel_rfl) (by kernel_rfl) (fun _ _ _ h => h) (Or.inl ⟨by rfl, ?_⟩) hHeld ?_
  rotate_left
  · intro W_ hSw_
    obtain ⟨qq, Dq, e43, e41⟩ := hSw_; have x43 := Dq.num (j := 43) (q := .u8) rfl; have x41 := Dq.num (j := 41) (q := .u8) rfl; rw [e43] at x43; rw [e41] at x41; clear Dq e43 e41
    first | (go_simp; done) | (go_simp; with_reducible rfl)
  rotate_left
  try simp only [Act.put, List.setIfInBounds_toArray, List.set_cons_zero, List.set_cons_succ]
  refine wpAnyH_take (i := 12) (oi := { dst := some 38, op := Op.load 5 (Operand.tmp 37), type := 5, pos := "deeds.go:13", after := #[{ on := 11, ground := Ground.data }], guard := none }) (v := ?_) rfl (by kernel_rfl) (by kernel_rfl) (by kernel_rfl) (fun _ _ _ h => h) (Or.inl ⟨by rfl, ?_⟩) hHeld ?_
  rotate_left
  · intro W_ hSw_
    obtain ⟨qq, Dq, e43, e41⟩ := hSw_; have x43 := Dq.num (j := 43) (q := .u8) rfl; have x41 := Dq.num (j := 41) (q := .u8) rfl; rw [e43] at x43; rw [e41] at x41; clear Dq e43 e41
    first | (go_simp; done) | (go_simp; with_reducible rfl)
  rotate_left
  try simp only [Act.put, List.setIfInBounds_toArray, List.set_cons_zero, List.set_cons_succ]
  refine wpAnyH_take (i := 13) (oi := { dst := some 39, op := Op.nilCheck (Operand.tmp 26), type := 0, pos := "deeds.go:13", after := #[{ on := 0, ground := Ground.data }, { on := 0, ground := Ground.phase }, { on := 1, ground := Ground.textOnly Departure.lateStores }, { on := 2, ground := Ground.textOnly Departure.lateStores }, { on := 3, ground := Ground.phase }, { on := 4, ground := Ground.phase }, { on := 5, ground := Ground.phase }, { on := 6, ground := Ground.phase }, { on := 7, ground := Ground.phase }, { on := 8, ground := Ground.textOnly Departure.lateStores }, { on := 9, ground := Ground.textOnly Departure.lateStoresUnsure }, { on := 10, ground := Ground.textOnly Departure.lateStoresUnsure }, { on := 11, ground := Ground.textOnly Departure.lateStoresUnsure }, { on := 12, ground := Ground.phase }], guard := none }) (v := ?_) rfl (by kernel_rfl) (by kernel_rfl) (by kernel_rfl) (fun _ _ _ h => h) (Or.inl ⟨by rfl, ?_⟩) hHeld ?_
  rotate_left
  · intro W_ hSw_
    obtain ⟨qq, Dq, e43, e41⟩ := hSw_; have x43 := Dq.num (j := 43) (q := .u8) rfl; have x41 := Dq.num (j := 41) (q := .u8) rfl; rw [e43] at x43; rw [e41] at x41; clear Dq e43 e41
    first | (go_simp; done) | (go_simp; with_reducible rfl)
  rotate_left
  try simp only [Act.put, List.setIfInBounds_toArray, List.set_cons_zero, List.set_cons_succ]
  refine wpAnyH_take (i := 14) (oi := { dst := some 40, op := Op.fieldAddr 45 (Operand.tmp 39) 43, type := 0, pos := "deeds.go:13", after := #[{ on := 13, ground := Ground.data }, { on := 0, ground := Ground.phase }, { on := 1, ground := Ground.textOnly Departure.lateStores }, { on := 2, ground := Ground.textOnly Departure.lateStores }, { on := 3, ground := Ground.phase }, { on := 4, ground := Ground.phase }, { on := 5, ground := Ground.phase }, { on := 6, ground := Ground.phase }, { on := 7, ground := Ground.phase }, { on := 8, ground := Ground.textOnly Departure.lateStores }, { on := 9, ground := Ground.textOnly Departure.lateStoresUnsure }, { on := 10, ground := Ground.textOnly Departure.lateStoresUnsure }, { on := 11, ground := Ground.textOnly Departure.lateStoresUnsure }, { on := 12, ground := Ground.phase }], guard := none }) (v := ?_) rfl (by kernel_rfl) (by kernel_rfl) (by kernel_rfl) (fun _ _ _ h => h) (Or.inl ⟨by rfl, ?_⟩) hHeld ?_
  rotate_left
  · intro W_ hSw_
    obtain ⟨qq, Dq, e43, e41⟩ := hSw_; have x43 := Dq.num (j := 43) (q := .u8) rfl; have x41 := Dq.num (j := 41) (q := .u8) rfl; rw [e43] at x43; rw [e41] at x41; clear Dq e43 e41
    first | (go_simp; done) | (go_simp; with_reducible rfl)
  rotate_left
  try simp only [Act.put, List.setIfInBounds_toArray, List.set_cons_zero, List.set_cons_succ]
  refine wpAnyH_ready (rs := [15]) (by kernel_rfl) (by simp) ?_
  refine AllReadyH.cons (o := { dst := none, op := Op.store 5 (Operand.tmp 40) (Operand.tmp 33), type := 0, pos := "deeds.go:13", after := #[{ on := 14, ground := Ground.data }, { on := 7, ground := Ground.data }, { on := 0, ground := Ground.phase }, { on := 1, ground := Ground.textOnly Departure.lateStores }, { on := 2, ground := Ground.textOnly Departure.lateStores }, { on := 3, ground := Ground.phase }, { on := 4, ground := Ground.phase }, { on := 5, ground := Ground.phase }, { on := 6, ground := Ground.phase }, { on := 7, ground := Ground.phase }, { on := 8, ground := Ground.textOnly Departure.lateStores }, { on := 9, ground := Ground.textOnly Departure.lateStoresUnsure }, { on := 10, ground := Ground.textOnly Departure.lateStoresUnsure }, { on := 11, ground := Ground.textOnly Departure.lateStoresUnsure }, { on := 12, ground := Ground.phase }], guard := none }) rfl (fun K hK => ?_) AllReadyH.nil
  go_simp
  clear hHeld
  refine hK.out _ _ ⟨_, D8, E1.out.1, E1.out.2⟩ (fun hHeld => ?_)
  clear hK K
  try simp only [Act.put, List.setIfInBounds_toArray, List.set_cons_zero, List.set_cons_succ]
  refine wpAnyH_take (i := 16) (oi := { dst := some 41, op := Op.nilCheck (Operand.tmp 27), type := 0, pos := "deeds.go:13", after := #[{ on := 1, ground := Ground.data }, { on := 0, ground := Ground.phase }, { on := 1, ground := Ground.phase }, { on := 2, ground := Ground.textOnly Departure.lateStores }, { on := 3, ground := Ground.phase }, { on := 4, ground := Ground.phase }, { on := 5, ground := Ground.phase }, { on := 6, ground := Ground.phase }, { on := 7, ground := Ground.phase }, { on := 8, ground := Ground.phase }, { on := 9, ground := Ground.phase }, { on := 10, ground := Ground.phase }, { on := 11, ground := Ground.phase }, { on := 12, ground := Ground.phase }, { on := 13, ground := Ground.phase }, { on := 14, ground := Ground.phase }, { on := 15, ground := Ground.phase }], guard := none }) (v := ?_) rfl (by kernel_rfl) (by kernel_rfl) (by kernel_rfl) (fun _ _ _ h => h) (Or.inl ⟨by rfl, ?_⟩) hHeld ?_
  rotate_left
  · intro W_ hSw_
    obtain ⟨qq, Dq, e43, e41⟩ := hSw_; have x43 := Dq.num (j := 43) (q := .u8) rfl; have x41 := Dq.num (j := 41) (q := .u8) rfl; rw [e43] at x43; rw [e41] at x41; clear Dq e43 e41
    first | (go_simp; done) | (go_simp; with_reducible rfl)
  rotate_left
  try simp only [Act.put, List.setIfInBounds_toArray, List.set_cons_zero, List.set_cons_succ]
  refine wpAnyH_take (i := 17) (oi := { dst := some 42, op := Op.fieldAddr 45 (Operand.tmp 41) 38, type := 0, pos := "deeds.go:13", after := #[{ on := 16, ground := Ground.data }, { on := 0, ground := Ground.phase }, { on := 1, ground := Ground.phase }, { on := 2, ground := Ground.textOnly Departure.lateStores }, { on := 3, ground := Ground.phase }, { on := 4, ground := Ground.phase }, { on := 5, ground := Ground.phase }, { on := 6, ground := Ground.phase }, { on := 7, ground := Ground.phase }, { on := 8, ground := Ground.phase }, { on := 9, ground := Ground.phase }, { on := 10, ground := Ground.phase }, { on := 11, ground := Ground.phase }, { on := 12, ground := Ground.phase }, { on := 13, ground := Ground.phase }, { on := 14, ground := Ground.phase }, { on := 15, ground := Ground.phase }], guard := none }) (v := ?_) rfl (by kernel_rfl) (by kernel_rfl) (by kernel_rfl) (fun _ _ _ h => h) (Or.inl ⟨by rfl, ?_⟩) hHeld ?_
  rotate_left
  · intro W_ hSw_
    obtain ⟨qq, Dq, e43, e41⟩ := hSw_; have x43 := Dq.num (j := 43) (q := .u8) rfl; have x41 := Dq.num (j := 41) (q := .u8) rfl; rw [e43] at x43; rw [e41] at x41; clear Dq e43 e41
    first | (go_simp; done) | (go_simp; with_reducible rfl)
  rotate_left
  try simp only [Act.put, List.setIfInBounds_toArray, List.set_cons_zero, List.set_cons_succ]
  refine wpAnyH_ready (rs := [18]) (by kernel_rfl) (by simp) ?_
  refine AllReadyH.cons (o := { dst := none, op := Op.store 5 (Operand.tmp 42) (Operand.tmp 38), type := 0, pos := "deeds.go:13", after := #[{ on := 17, ground := Ground.data }, { on := 12, ground := Ground.data }, { on := 15, ground := Ground.chain }, { on := 0, ground := Ground.phase }, { on := 1, ground := Ground.phase }, { on := 2, ground := Ground.textOnly Departure.lateStores }, { on := 3, ground := Ground.phase }, { on := 4, ground := Ground.phase }, { on := 5, ground := Ground.phase }, { on := 6, ground := Ground.phase }, { on := 7, ground := Ground.phase }, { on := 8, ground := Ground.phase }, { on := 9, ground := Ground.phase }, { on := 10, ground := Ground.phase }, { on := 11, ground := Ground.phase }, { on := 12, ground := Ground.phase }, { on := 13, ground := Ground.phase }, { on := 14, ground := Ground.phase }, { on := 15, ground := Ground.phase }], guard := none }) rfl (fun K hK => ?_) AllReadyH.nil
  go_simp
  clear hHeld
  refine hK.out _ _ ⟨_, D9, E2.out.1, E2.out.2⟩ (fun hHeld => ?_)
  clear hK K
  try simp only [Act.put, List.setIfInBounds_toArray, List.set_cons_zero, List.set_cons_succ]
  refine wpAnyH_take (i := 19) (oi := { dst := some 43, op := Op.nilCheck (Operand.tmp 28), type := 0, pos := "deeds.go:13", after := #[{ on := 2, ground := Ground.data }, { on := 0, ground := Ground.phase }, { on := 1, ground := Ground.phase }, { on := 2, ground := Ground.phase }, { on := 3, ground := Ground.phase }, { on := 4, ground := Ground.phase }, { on := 5, ground := Ground.phase }, { on := 6, ground := Ground.phase }, { on := 7, ground := Ground.phase }, { on := 8, ground := Ground.phase }, { on := 9, ground := Ground.phase }, { on := 10, ground := Ground.phase }, { on := 11, ground := Ground.phase }, { on := 12, ground := Ground.phase }, { on := 13, ground := Ground.phase }, { on := 14, ground := Ground.phase }, { on := 15, ground := Ground.phase }, { on := 16, ground := Ground.phase }, { on := 17, ground := Ground.phase }, { on := 18, ground := Ground.phase }], guard := none }) (v := ?_) rfl (by kernel_rfl) (by kernel_rfl) (by kernel_rfl) (fun _ _ _ h => h) (Or.inl ⟨by rfl, ?_⟩) hHeld ?_
  rotate_left
  · intro W_ hSw_
    obtain ⟨qq, Dq, e43, e41⟩ := hSw_; have x43 := Dq.num (j := 43) (q := .u8) rfl; have x41 := Dq.num (j := 41) (q := .u8) rfl; rw [e43] at x43; rw [e41] at x41; clear Dq e43 e41
    first | (go_simp; done) | (go_simp; with_reducible rfl)
  rotate_left
  try simp only [Act.put, List.setIfInBounds_toArray, List.set_cons_zero, List.set_cons_succ]
  refine wpAnyH_take (i := 20) (oi := { dst := some 44, op := Op.fieldAddr 45 (Operand.tmp 43) 41, type := 0, pos := "deeds.go:13", after := #[{ on := 19, ground := Ground.data }, { on := 0, ground := Ground.phase }, { on := 1, ground := Ground.phase }, { on := 2, ground := Ground.phase }, { on := 3, ground := Ground.phase }, { on := 4, ground := Ground.phase }, { on := 5, ground := Ground.phase }, { on := 6, ground := Ground.phase }, { on := 7, ground := Ground.phase }, { on := 8, ground := Ground.phase }, { on := 9, ground := Ground.phase }, { on := 10, ground := Ground.phase }, { on := 11, ground := Ground.phase }, { on := 12, ground := Ground.phase }, { on := 13, ground := Ground.phase }, { on := 14, ground := Ground.phase }, { on := 15, ground := Ground.phase }, { on := 16, ground := Ground.phase }, { on := 17, ground := Ground.phase }, { on := 18, ground := Ground.phase }], guard := none }) (v := ?_) rfl (by kernel_rfl) (by kernel_rfl) (by kernel_rfl) (fun _ _ _ h => h) (Or.inl ⟨by rfl, ?_⟩) hHeld ?_
  rotate_left
  · intro W_ hSw_
    obtain ⟨qq, Dq, e43, e41⟩ := hSw_; have x43 := Dq.num (j := 43) (q := .u8) rfl; have x41 := Dq.num (j := 41) (q := .u8) rfl; rw [e43] at x43; rw [e41] at x41; clear Dq e43 e41
    first | (go_simp; done) | (go_simp; with_reducible rfl)
  rotate_left
  try simp only [Act.put, List.setIfInBounds_toArray, List.set_cons_zero, List.set_cons_succ]
  refine wpAnyH_ready (rs := [21]) (by kernel_rfl) (by simp) ?_
  refine AllReadyH.cons (o := { dst := none, op := Op.store 5 (Operand.tmp 44) (Operand.const (Value.int IntKind.u8 0)), type := 0, pos := "deeds.go:13", after := #[{ on := 20, ground := Ground.data }, { on := 18, ground := Ground.chain }, { on := 0, ground := Ground.phase }, { on := 1, ground := Ground.phase }, { on := 2, ground := Ground.phase }, { on := 3, ground := Ground.phase }, { on := 4, ground := Ground.phase }, { on := 5, ground := Ground.phase }, { on := 6, ground := Ground.phase }, { on := 7, ground := Ground.phase }, { on := 8, ground := Ground.phase }, { on := 9, ground := Ground.phase }, { on := 10, ground := Ground.phase }, { on := 11, ground := Ground.phase }, { on := 12, ground := Ground.phase }, { on := 13, ground := Ground.phase }, { on := 14, ground := Ground.phase }, { on := 15, ground := Ground.phase }, { on := 16, ground := Ground.phase }, { on := 17, ground := Ground.phase }, { on := 18, ground := Ground.phase }], guard := none }) rfl (fun K hK => ?_) AllReadyH.nil
  go_simp
  clear hHeld
  refine hK.out _ _ ⟨_, D10, E3.out.1, E3.out.2⟩ (fun hHeld => ?_)
  clear hK K
  try simp only [Act.put, List.setIfInBounds_toArray, List.set_cons_zero, List.set_cons_succ]
  refine wpAnyH_done (by kernel_rfl) ?_ _
  refine NoPanic.normal ?_
  clear hHeld
  go_wp2
  go_end0
  exact ⟨rfl, S10.out⟩
/-- What a deed that reaches all ports does. -/
def DeedN (F : Nat) (f : Nat → List Pt → List Pt) : Prop := ∀ (w W : World) (b : Nat) (h : Hd) (g c n k Q : Nat) (l : List Pt) (p : Pt), DP w W b h g c n k Q l p →
  Calls Try.prog F #[.pointer (some ⟨b, 0, none⟩)] W fun r W' => r = .returned (.tuple #[]) ∧ ∃ g' c', DP w W' b h g' c' n k Q (f k (l.set k p)) (gtP (f k (l.set k p)) k)
theorem set_gtP {l : List Pt} {k : Nat} (h : k < l.length) : l.set k (gtP l k) = l := set_self h
theorem Deed1.n {F : Nat} {f : Pt → Pt} (hF : Deed1 F f) : DeedN F (fun k l => l.set k (f (gtP l k))) := fun w W b h g c n k Q l p D => (hF w W b h g c n k Q l p D).mono fun r W' ⟨hr, D'⟩ => by
  refine ⟨hr, g, c, ?_⟩
  have hkl : k < (l.set k p).length := by rw [List.length_set, D.len]; exact D.hk
  have e1 : gtP (l.set k p) k = p := D.gt
  show DP w W' b h g c n k Q ((l.set k p).set k (f (gtP (l.set k p) k))) (gtP ((l.set k p).set k (f (gtP (l.set k p) k))) k)
  rw [e1, List.set_set]
  have e2 : gtP (l.set k (f p)) k = f p := D'.gt
  rw [e2]
  exact ⟨D'.var, by rw [List.set_set]; exact D'.pat, by rw [List.length_set]; exact D'.len, D'.bel, D'.hb, D'.hg, D'.ne, D'.hk, D'.hn, D'.hQ⟩
/-- Another tree, stored. -/
theorem DP.tree {w W X : World} {b g c n k Q : Nat} {h : Hd} {l m : List Pt} {p : Pt} {v : Value} (s : DP w W b h g c n k Q l p) (e : Below W.heap.size W X) (o : Own X W.heap.size v m) (hm : m.length = n) :
    ∃ V, (stS 31 (.pointer (some ⟨b, 0, none⟩)) (.agg (trc h v))).run Try.prog X = .ok () V ∧ ∃ g' c', DP w V b h g' c' n k Q m (gtP m k) := by
  have s' := s.below e
  obtain ⟨V, e1, r1, g1⟩ := s'.var.hst (g := h) (y := v) o.one
  refine ⟨V, e1, ?_⟩
  have hk := s.hk
  have hbW := s.var.lt
  rcases o.pat with ⟨_, rfl⟩ | ⟨g', c', rfl, hg, hp⟩
  · simp at hm; omega
  · rw [hm] at r1
    refine ⟨g', c', r1, ?_, hm, gro s'.bel g1 s.hb s'.bel.size, s.hb, Nat.le_trans s.bel.size hg, by omega, s.hk, s.hn, s.hQ⟩
    rw [set_gtP (by omega)]
    exact hp.keptBut g1 (by simp; omega)
set_option maxHeartbeats 4000000 in
theorem ask_deed : DeedN 56 (fun k l => l.map rerP) := by
  intro w W b h g c n k Q l p D0
  have S0 : Hid (DP w W b h g c n k Q l p) := D0
  have lt := D0.var.htree
  clear D0
  go_enter Try.func56, Try.ntmps56
  go_wp2_with fail
  refine (rer_any h (some ⟨g, 0, none⟩) n c (l.set k p) W S0.out.cs.sl S0.out.hn).mono ?_
  rintro _ X ⟨v, rfl, o1, b1⟩
  obtain ⟨V, s1, D1⟩ := S0.out.tree b1 o1 (by rw [List.length_map, List.length_set, S0.out.len])
  have S1 : Hid (∃ g' c', DP w V b h g' c' n k Q ((l.set k p).map rerP) (gtP ((l.set k p).map rerP) k)) := D1
  clear D1 o1 b1 lt
  go_wp2
  go_end0
  exact ⟨rfl, S1.out⟩
set_option maxHeartbeats 4000000 in
theorem brg_deed : DeedN 71 (fun k l => (l.set k (prdP (gtP l k))).map syncP) := by
  intro w W b h g c n k Q l p D0
  have S0 : Hid (DP w W b h g c n k Q l p) := D0
  have e1 : gtP (l.set k p) k = p := D0.gt
  show Calls _ _ _ _ fun r W' => r = .returned (.tuple #[]) ∧ ∃ g' c', DP w W' b h g' c' n k Q (((l.set k p).set k (prdP (gtP (l.set k p) k))).map syncP) (gtP (((l.set k p).set k (prdP (gtP (l.set k p) k))).map syncP) k)
  rw [e1, List.set_set]
  clear D0 e1
  go_enter Try.func71, Try.ntmps71
  go_wp2_with fail
  refine (dport_any S0.out).mono ?_
  rintro _ V1 ⟨rfl, D1⟩
  obtain ⟨V2, s2, D2⟩ := D1.setB kb12 false
  have S2 : Hid (DP w V2 b h g c n k Q l (prdP p)) := D2
  have lt := D2.var.htree
  clear D1 D2
  go_wp2_with fail
  refine (sync_any h (some ⟨g, 0, none⟩) n c (l.set k (prdP p)) V2 S2.out.cs.sl S2.out.hn).mono ?_
  rintro _ X ⟨v, rfl, o1, b1⟩
  obtain ⟨V, s1, D1⟩ := S2.out.tree b1 o1 (by rw [List.length_map, List.length_set, S2.out.len])
  have S1 : Hid (∃ g' c', DP w V b h g' c' n k Q ((l.set k (prdP p)).map syncP) (gtP ((l.set k (prdP p)).map syncP) k)) := D1
  clear D1 o1 b1 lt s2
  go_wp2
  go_end0
  exact ⟨rfl, S1.out⟩
end Go.Proofs.Ytdlleecfmebenaa
