/-
  Never more entries than there is room, and the eldest goes: the walk of the law.
-/
import Derived.Test.YtoelpbajaadfeaaLFu
import Derived.Deep.CutRange
namespace Go.Proofs.Ytoelpbajaadfeaa
set_option linter.unusedVariables false
set_option maxRecDepth 8000
set_option linter.unusedSimpArgs false
open Go.RowKit

attribute [local go_sem ↓] ldK stK ldM stM ldP stP ldE stE apE ldR stR ldO stO apI slI
set_option maxHeartbeats 16000000 in
theorem CfdbFull_walk (room : Int) (a : Option Addr) (n k : Nat) (bs : List Int) (w : World) (hro : 0 ≤ room ∧ room ≤ 255) (ho : BsAt w a n k bs) :
    Calls Try.prog 4 #[.int .u8 room, .slice a n k] w fun r w' => r = .returned (.bool true) ∧ Below w.heap.size w w' := by
  have HO : Hid (BsAt w a n k bs) := ho
  have hnn : (n : Int) ≤ 9223372036854775807 := by have := ho.cap; have := ho.max; unfold maxLen at this; omega
  clear ho
  obtain ⟨r0, hr0⟩ : ∃ r, room.tmod 8 = r := ⟨_, rfl⟩
  have hr0b : 0 ≤ r0 ∧ r0 ≤ 7 := by
    rw [← hr0]
    have h1 := Int.tmod_nonneg 8 hro.1
    have h2 := Int.tmod_lt_of_pos room (show (0 : Int) < 8 by omega)
    omega
  obtain ⟨nR, hnR⟩ : ∃ nR : Nat, (nR : Int) = 1 + r0 := ⟨(1 + r0).toNat, by omega⟩
  obtain ⟨c, hc⟩ : ∃ c : Cf, c = ⟨nR, 1000⟩ := ⟨_, rfl⟩
  have hcr : Hid (c.room = nR) := show c.room = nR by rw [hc]
  have hn1 : Hid (1 ≤ nR ∧ nR ≤ 8) := ⟨by omega, by omega⟩
  have hok : Hid (okC c = true) := show _ = _ by
    rw [hc]
    have h1 : (1 : Int) ≤ (nR : Int) := by omega
    have h2 : (nR : Int) ≤ 256 := by omega
    simp [okC, inn]
    omega
  have q0 : IntKind.i64.wrap room = room := IntWalk.i64_in _ (by omega)
  have q0' : wrap64 room = room := IntWalk.wrap64_in _ (by omega)
  go_enter Try.func4, Try.ntmps4
  go_wp2_with fail
  rw [← hnR]
  have HC : Hid (c = ⟨nR, 1000⟩) := hc
  refine (show Calls Try.prog 8 #[.int .i64 nR, .int .i64 1000] _ _ from (by have := new_yes c w hok.out; rw [hc] at this; exact this)).mono ?_
  rintro _ W0 ⟨p, b, rfl, d0, hp, hb, b0⟩
  rw [← hc] at d0
  have G0 : Hid (Db W0 p b c [] ∧ w.heap.size ≤ b ∧ Below w.heap.size w W0) := ⟨d0, hb, b0⟩
  clear d0 hp hb b0 hr0 q0 q0' hnR hc hr0b hro
  go_wp2_with fail
  refine (awake_any _).mono ?_
  rintro _ W2 ⟨rfl, b2⟩
  have G2 : Hid (Db W2 p b c [] ∧ w.heap.size ≤ b ∧ Below w.heap.size w W2 ∧ b < W2.heap.size) := ⟨G0.out.1.below b2, G0.out.2.1, below_over G0.out.2.2 b2, by have := G0.out.1.lt; have := b2.size; omega⟩
  have SEP : Hid (w.heap.size ≤ b ∧ b < W2.heap.size ∧ w.heap.size ≤ W2.heap.size) := ⟨G2.out.2.1, G2.out.2.2.2, G2.out.2.2.1.size⟩
  clear b2 G0
  go_wp2_with fail
  go_loopw [8, 9] (fun v8 v9 wr => ∃ (i : Nat) (l es : List En) (a8 : Option Addr) (m8 c8 : Nat), i ≤ n ∧ i ≤ 60 ∧ v9 = .int .i64 i ∧ v8 = .slice a8 m8 c8 ∧ IsL wr a8 m8 c8 (stns es) ∧ (∀ x, a8 = some x → W2.heap.size ≤ x.block) ∧ Db wr p b c l ∧ Fu nR i l es ∧ Below w.heap.size w wr ∧ W2.heap.size ≤ wr.heap.size) (fun _ v9 _ => n - (intOf v9).toNat)
  case atStart => exact ⟨0, [], [], none, 0, 0, by omega, by omega, rfl, rfl, IsL.none' _, (fun x e => by cases e), G2.out.1, ⟨fun x => Iff.rfl, (fun x hx => by cases hx), List.Pairwise.nil, by simp⟩, G2.out.2.2.1, Nat.le_refl _⟩
  case round =>
    obtain ⟨i, l, es, a8, m8, c8, hi, hi60, rfl, rfl, hL, ha8, hD, hF, hB, hs⟩ := hrel
    have G : Hid (IsL wr a8 m8 c8 (stns es) ∧ (∀ x, a8 = some x → W2.heap.size ≤ x.block) ∧ Db wr p b c l ∧ Fu nR i l es ∧ Below w.heap.size w wr ∧ W2.heap.size ≤ wr.heap.size) := ⟨hL, ha8, hD, hF, hB, hs⟩
    clear hL ha8 hD hF hB hs
    have hi0 : (0 : Int) ≤ (i : Int) := by omega
    go_upto_region 7 with fail
    go_cut [44] from 37 to 43 (fun v44 wx => v44 = .bool (decide (i < n ∧ i < 60)) ∧ wx = wr)
    case first =>
      by_cases h1 : i < n
      · have h1' : (i : Int) < (n : Int) := by omega
        by_cases h2 : i < 60
        · have h2' : (i : Int) < 60 := by omega
          go_wp2_with fail
          go_meet
          exact ⟨by simp [h1, h2], rfl⟩
        · have h2' : ¬ (i : Int) < 60 := by omega
          go_wp2_with fail
          go_meet
          exact ⟨by simp [h2], rfl⟩
      · have h1' : ¬ (i : Int) < (n : Int) := by omega
        go_wp2_with fail
        go_meet
        exact ⟨by simp [h1], rfl⟩
    case rest =>
      obtain ⟨rfl, hwc⟩ := hcut
      rw [hwc]
      clear hwc
      by_cases hx : i < n ∧ i < 60
      · simp only [hx, and_self, decide_true]
        obtain ⟨g, og, rfl⟩ := HO.out.some' (by omega)
        obtain ⟨u, hu⟩ : ∃ u, bs[i]? = some u := ⟨_, List.getElem?_eq_getElem (by have := HO.out.len; omega)⟩
        have hub := HO.out.bnd u (List.mem_of_getElem? hu)
        have lu := (HO.out.below G.out.2.2.2.2.1).cells g og rfl i u hu
        have hi1 : (i : Int) < (n : Int) := by omega
        obtain ⟨kk, hkk⟩ : ∃ kk, u.tmod 20 = kk := ⟨_, rfl⟩
        have hkb : 0 ≤ kk ∧ kk ≤ 19 := by
          rw [← hkk]
          have h1 := Int.tmod_nonneg 20 hub.1
          have h2 := Int.tmod_lt_of_pos u (show (0 : Int) < 20 by omega)
          omega
        have q1 : IntKind.i64.wrap kk = kk := IntWalk.i64_in _ (by omega)
        have q2 : wrap64 kk = kk := IntWalk.wrap64_in _ (by omega)
        have q3 : IntKind.u8.wrap kk = kk := IntWalk.u8_in _ (by omega)
        have HKB : Hid (0 ≤ kk ∧ kk ≤ 19) := hkb
        have hLF := G.out.2.2.2.1.learn hn1.out.1 G.out.2.2.1.map.1 hx.2 hkb c hcr.out
        have HL : Hid (learnS c l (eF kk i) = (putS c.room l (eF kk i), 0) ∧ Fu nR (i + 1) (putS c.room l (eF kk i)) (nxt nR es (eF kk i))) := hLF
        clear hu hLF
        go_wp2_with fail
        refine (station_any kk _ (by omega)).mono ?_
        rintro _ A ⟨rfl, bA⟩
        have GA : Hid (Below wr.heap.size wr A) := bA
        clear bA lu
        go_wp2_with fail
        refine (station_any 100 _ (by omega)).mono ?_
        rintro _ A2 ⟨rfl, bA2⟩
        have GA2 : Hid (Below wr.heap.size wr A2) := below_over GA.out bA2
        clear bA2 GA
        go_wp2_with fail
        refine (learn_any p b c l (eF kk i) _ (G.out.2.2.1.below GA2.out) (kyOf_wf (by omega) (stA_wf (by omega))) (stA_wf (by omega))).mono ?_
        rintro _ V ⟨rfl, dV, gV⟩
        obtain ⟨l', hl'⟩ : ∃ l', l' = putS c.room l (eF kk i) := ⟨_, rfl⟩
        have HL' : Hid (Fu nR (i + 1) l' (nxt nR es (eF kk i))) := by rw [hl']; exact HL.out.2
        rw [HL.out.1, ← hl'] at dV ⊢
        have hS := SEP.out
        have hsA := GA2.out.size
        have hsV := gV.size
        have bwA := below_over G.out.2.2.2.2.1 GA2.out
        have GV : Hid (Db V p b c l' ∧ IsL V a8 m8 c8 (stns es) ∧ Below w.heap.size w V ∧ W2.heap.size ≤ V.heap.size) := ⟨dV, (G.out.1.below GA2.out).keptBut gV (fun x e e2 => by have := G.out.2.1 x e; have := Option.some.inj e2; omega), bwA.trans (below_of_grown gV bwA.size (fun j e => by cases e; omega)), by have := G.out.2.2.2.2.2; omega⟩
        clear dV gV hsA hsV bwA hS hl'
        have hll := HL'.out.length GV.out.1.map.1
        have hle := HL'.out.len
        have hgt0 : ¬ ((l'.length : Int) > (nR : Int)) := by omega
        go_wp2_with fail
        refine (len_any p b c l' _ GV.out.1).mono ?_
        rintro _ Y ⟨rfl, hY⟩
        rw [hY]
        clear hY Y hll hle
        have hm8 : (m8 : Int) ≤ 8 := by have h1 := GV.out.2.1.len; have h2 := G.out.2.2.2.1.len; have h3 := hn1.out.2; have h4 : (stns es).length = es.length := List.length_map _; omega
        go_wp2_with fail
        go_loopw [11, 12] (fun v11 v12 wr => ∃ (j : Nat) (a6 : Option Addr) (m6 c6 : Nat), j ≤ m8 ∧ v12 = .int .i64 j ∧ v11 = .slice a6 m6 c6 ∧ (((stns es).take j).filter (fun z => decide (z ≠ kk))).length = m6 ∧ IOwn wr V.heap.size (.slice a6 m6 c6) (((stns es).take j).filter (fun z => decide (z ≠ kk))) ∧ Below V.heap.size V wr) (fun _ v12 _ => m8 - (intOf v12).toNat)
        case atStart => exact ⟨0, none, 0, 0, by omega, rfl, rfl, rfl, IOwn.nil _ _, Below.refl _ _⟩
        case round =>
          obtain ⟨j, a6, m6, c6, hj, rfl, rfl, hm6_, hO, hB⟩ := hrel
          obtain ⟨V2, rfl⟩ : ∃ V, V = wr := ⟨_, rfl⟩
          have HB : Hid (Below V.heap.size V V2) := hB
          have HOw : Hid (IOwn V2 V.heap.size (.slice a6 m6 c6) (((stns es).take j).filter (fun z => decide (z ≠ kk)))) := hO
          have hm6 : Hid ((((stns es).take j).filter (fun z => decide (z ≠ kk))).length = m6) := hm6_
          have hj0 : (0 : Int) ≤ (j : Int) := by omega
          have hfl : Hid ((((stns es).take j).filter (fun z => decide (z ≠ kk))).length ≤ 8) := by
            have h1 := List.length_filter_le (fun z => decide (z ≠ kk)) ((stns es).take j)
            rw [List.length_take] at h1
            show _ ≤ _
            omega
          clear hB hO hm6_
          by_cases hjt : j < m8
          · have hj1 : (j : Int) < (m8 : Int) := by omega
            obtain ⟨g8, o8, ha8⟩ := GV.out.2.1.some' (by omega)
            obtain ⟨x, hxj⟩ : ∃ x, (stns es)[j]? = some x := ⟨_, List.getElem?_eq_getElem (by have := GV.out.2.1.len; omega)⟩
            have htk : (stns es).take (j + 1) = (stns es).take j ++ [x] := by rw [List.take_add_one, hxj]; rfl
            have S8 := GV.out.2.1.below HB.out
            rw [ha8] at S8
            have cx := S8.cell hxj
            subst ha8
            clear S8 hxj
            by_cases hv : x = kk
            · have hkeep : Hid (((stns es).take (j + 1)).filter (fun z => decide (z ≠ kk)) = ((stns es).take j).filter (fun z => decide (z ≠ kk))) := by
                show _ = _
                rw [htk, List.filter_append, List.filter_cons_of_neg (by simp [hv]), List.filter_nil, List.append_nil]
              have hv2 : (x != kk) = false := by simp [hv]
              have Hv : Hid (x = kk) := hv
              clear htk hv
              go_wp2
              go_roundw
              case rel => exact ⟨j + 1, a6, m6, c6, by omega, by go_num, rfl, by rw [hkeep.out]; exact hm6.out, by rw [hkeep.out]; exact HOw.out, HB.out⟩
              case measure => simp [intOf]; omega
            · have hkeep : Hid (((stns es).take (j + 1)).filter (fun z => decide (z ≠ kk)) = ((stns es).take j).filter (fun z => decide (z ≠ kk)) ++ [x]) := by
                show _ = _
                rw [htk, List.filter_append, List.filter_cons_of_pos (by simp [hv])]
                rfl
              have hv2 : (x != kk) = true := by simpa using hv
              obtain ⟨Y1, Y2, a7, m7, c7, hY1, ap2, o2, hB2, hm7⟩ := HOw.out.one x HB.out (by have := hfl.out; omega)
              rw [← hkeep.out] at o2 hm7
              have G2 : Hid (Below V.heap.size V Y2 ∧ IOwn Y2 V.heap.size (.slice a7 m7 c7) (((stns es).take (j + 1)).filter (fun z => decide (z ≠ kk))) ∧ (((stns es).take (j + 1)).filter (fun z => decide (z ≠ kk))).length = m7) := ⟨hB2, o2, hm7⟩
              clear o2 hB2 hm7 htk
              go_wp2
              go_roundw
              case rel => exact ⟨j + 1, a7, m7, c7, by omega, by go_num, rfl, G2.out.2.2, G2.out.2.1, G2.out.1⟩
              case measure => simp [intOf]; omega
          · have hjm : j = m8 := by omega
            subst hjm
            have hj1 : ¬ (j : Int) < (j : Int) := by omega
            have htk : (stns es).take j = stns es := List.take_of_length_le (by have := GV.out.2.1.len; omega)
            have HO2 : Hid (IOwn V2 V.heap.size (.slice a6 m6 c6) ((stns es).filter (fun z => decide (z ≠ kk)))) := by
              have h1 := HOw.out
              rw [htk] at h1
              exact h1
            have hfl2 : Hid (((stns es).filter (fun z => decide (z ≠ kk))).length ≤ 8) := by
              have h1 := hfl.out
              rw [htk] at h1
              exact h1
            obtain ⟨Y1, Y, a7, m7, c7, hY1, ap2, o2, hB2, hm7_⟩ := HO2.out.one kk HB.out (by have := hfl2.out; omega)
            have hm7 : Hid (((stns es).filter (fun z => decide (z ≠ kk)) ++ [kk]).length = m7) := hm7_
            obtain ⟨a7', c7', hv7, s7, n7⟩ := o2.form
            obtain ⟨rfl, rfl⟩ : a7 = a7' ∧ c7 = c7' := by
              injection hv7 with e1 e2 e3
              exact ⟨e1, e3⟩
            rw [hm7_] at s7
            have hm79 : m7 ≤ 9 := by have h1 := hfl2.out; rw [← hm7_, List.length_append, List.length_singleton]; omega
            have hm79' : (m7 : Int) ≤ 9 := by omega
            have GZ : Hid (IsL Y a7 m7 c7 ((stns es).filter (fun z => decide (z ≠ kk)) ++ [kk]) ∧ m7 ≤ 9 ∧ Db Y p b c l' ∧ Fu nR (i + 1) l' (nxt nR es (eF kk i)) ∧ (∀ x, a7 = some x → W2.heap.size ≤ x.block) ∧ Below w.heap.size w Y ∧ W2.heap.size ≤ Y.heap.size) := ⟨s7, hm79, GV.out.1.below hB2, HL'.out, fun x e => Nat.le_trans GV.out.2.2.2 (n7 x e).1, below_over GV.out.2.2.1 hB2, Nat.le_trans GV.out.2.2.2 hB2.size⟩
            clear o2 hB2 hm7_ hv7 s7 n7 htk
            by_cases hgt : m7 ≤ nR
            · have hgt1 : ¬ ((m7 : Int) > (nR : Int)) := by omega
              obtain ⟨ns, hns_⟩ : ∃ ns, stns (nxt nR es (eF kk i)) = ns := ⟨_, rfl⟩
              have hns : Hid (stns (nxt nR es (eF kk i)) = ns) := hns_
              have hrs : (stns es).filter (fun z => decide (z ≠ kk)) ++ [kk] = ns := by
                rw [← hns_, stns_nxt G.out.2.2.2.1 kk i, show ((stns es).filter (fun j => decide (j ≠ kk)) ++ [kk]).length - nR = 0 by rw [hm7.out]; omega, List.drop_zero]
              obtain ⟨a9, m9, c9, rfl, rfl, rfl⟩ : ∃ a9 m9 c9, a9 = a7 ∧ m9 = m7 ∧ c9 = c7 := ⟨_, _, _, rfl, rfl, rfl⟩
              have GY : Hid (IsL Y a9 m9 c9 ns ∧ Db Y p b c l' ∧ Fu nR (i + 1) l' (nxt nR es (eF kk i)) ∧ (∀ x, a9 = some x → W2.heap.size ≤ x.block) ∧ Below w.heap.size w Y ∧ W2.heap.size ≤ Y.heap.size) := ⟨by rw [← hrs]; exact GZ.out.1, GZ.out.2.2⟩
              clear hns_ hrs GZ
              go_wp2_with fail
              go_loopw [13] (fun v13 wr => ∃ j : Nat, j ≤ 20 ∧ v13 = .int .i64 j ∧ Below Y.heap.size Y wr) (fun v13 _ => 20 - (intOf v13).toNat)
              case atStart => exact ⟨0, by omega, rfl, Below.refl _ _⟩
              case round =>
                obtain ⟨j, hj, rfl, hB4⟩ := hrel
                obtain ⟨V4, rfl⟩ : ∃ V, V = wr := ⟨_, rfl⟩
                have H4 : Hid (Below Y.heap.size Y V4) := hB4
                clear hB4
                have hj0 : (0 : Int) ≤ (j : Int) := by omega
                by_cases hjt : j < 20
                · have hj1 : (j : Int) < 20 := by omega
                  go_wp2_with fail
                  refine (station_any j _ (by omega)).mono ?_
                  rintro _ Q ⟨rfl, bQ⟩
                  have HQ : Hid (Below Y.heap.size Y Q) := below_over H4.out bQ
                  clear bQ
                  have hfd : Hid ((look l' (kyOf 3 (stA j)).rk).isSome = decide ((j : Int) ∈ ns)) := by rw [← hns.out]; exact GY.out.2.2.1.find GY.out.2.1.map.1 GY.out.2.1.map.2.1
                  go_wp2_with fail
                  refine (find_any p b c l' (kyOf 3 (stA j)) _ (GY.out.2.1.below HQ.out) (kyOf_wf (by omega) (stA_wf (by omega)))).mono ?_
                  rintro _ Q2 ⟨rfl, bQ2⟩
                  rw [hfd.out]
                  obtain ⟨Q3, s3, r3, b3, z3⟩ := row_new rtM Q2 #[.int .u8 0, .int .u8 0, .int .u8 0, .int .u8 0, .int .u8 0, .int .u8 0] (plA l' (kyOf 3 (stA j)).rk).cs rfl (Ad.size _) (Ad.one _)
                  have H3 : Hid (Below Y.heap.size Y Q3) := below_over HQ.out (below_over bQ2 b3)
                  clear bQ2 r3 b3 z3
                  go_wp2_with fail
                  clear s3
                  go_loopw [16, 17] (fun v16 v17 wr => ∃ y : Nat, y ≤ m9 ∧ v17 = .int .i64 y ∧ v16 = .bool (decide ((j : Int) ∈ ns.take y)) ∧ Below Y.heap.size Y wr) (fun _ v17 _ => m9 - (intOf v17).toNat)
                  case atStart => exact ⟨0, by omega, rfl, by simp, H3.out⟩
                  case round =>
                    obtain ⟨y, hy, rfl, rfl, hB6⟩ := hrel
                    obtain ⟨V6, rfl⟩ : ∃ V, V = wr := ⟨_, rfl⟩
                    have H6 : Hid (Below Y.heap.size Y V6) := hB6
                    clear hB6
                    have hy0 : (0 : Int) ≤ (y : Int) := by omega
                    by_cases hyt : y < m9
                    · have hy1 : (y : Int) < (m9 : Int) := by omega
                      obtain ⟨g9, o9, ha9⟩ := GY.out.1.some' (by omega)
                      obtain ⟨u, hu⟩ : ∃ u, ns[y]? = some u := ⟨_, List.getElem?_eq_getElem (by have := GY.out.1.len; omega)⟩
                      have S9 := GY.out.1.below H6.out
                      rw [ha9] at S9
                      have cu := S9.cell hu
                      have htk : Hid (decide ((j : Int) ∈ ns.take (y + 1)) = (decide ((j : Int) ∈ ns.take y) || decide (u = (j : Int)))) := by
                        show _ = _
                        rw [List.take_add_one, hu]
                        simp only [Option.toList_some, List.mem_append, List.mem_singleton, Bool.decide_or]
                        congr 1
                        exact decide_eq_decide.2 eq_comm
                      subst ha9
                      clear S9 hu
                      cases hd : decide ((j : Int) ∈ ns.take y)
                      · rw [hd, Bool.false_or] at htk
                        clear hd
                        go_wp2
                        go_roundw
                        case rel => exact ⟨y + 1, by omega, by go_num, by rw [htk.out]; first | rfl | (simp [beq_dec]; done), H6.out⟩
                        case measure => simp [intOf]; omega
                      · rw [hd, Bool.true_or] at htk
                        clear hd
                        go_wp2
                        go_roundw
                        case rel => exact ⟨y + 1, by omega, by go_num, by rw [htk.out], H6.out⟩
                        case measure => simp [intOf]; omega
                    · have hym : y = m9 := by omega
                      subst hym
                      have hy1 : ¬ (y : Int) < (y : Int) := by omega
                      have htk : ns.take y = ns := List.take_of_length_le (by have := GY.out.1.len; omega)
                      rw [htk]
                      clear htk
                      cases hd : decide ((j : Int) ∈ ns)
                      all_goals
                        clear hd
                        go_wp2
                        go_roundw
                        case rel => exact ⟨j + 1, by omega, by go_num, H6.out⟩
                        case measure => simp [intOf]; omega
                · have hjm : j = 20 := by omega
                  subst hjm
                  go_wp2
                  go_roundw
                  case rel => exact ⟨i + 1, l', nxt nR es (eF kk i), a9, m9, c9, by omega, by omega, by go_num, rfl, by rw [hns.out]; exact GY.out.1.below H4.out, GY.out.2.2.2.1, GY.out.2.1.below H4.out, GY.out.2.2.1, below_over GY.out.2.2.2.2.1 H4.out, by have := H4.out.size; have := GY.out.2.2.2.2.2; omega⟩
                  case measure => simp [intOf]; omega
            · have hgt1 : (m7 : Int) > (nR : Int) := by omega
              obtain ⟨ns, hns_⟩ : ∃ ns, stns (nxt nR es (eF kk i)) = ns := ⟨_, rfl⟩
              have hns : Hid (stns (nxt nR es (eF kk i)) = ns) := hns_
              have hrs : ((stns es).filter (fun z => decide (z ≠ kk)) ++ [kk]).drop (m7 - nR) = ns := by
                rw [← hns_, stns_nxt G.out.2.2.2.1 kk i, hm7.out]
              obtain ⟨a9, sr, s9, n9⟩ := GZ.out.1.suf (i := m7 - nR) (by omega)
              obtain ⟨m9, hm9⟩ : ∃ m9, m9 = m7 - (m7 - nR) := ⟨_, rfl⟩
              obtain ⟨c9, hc9⟩ : ∃ c9, c9 = c7 - (m7 - nR) := ⟨_, rfl⟩
              rw [← hm9, ← hc9] at sr s9
              have hsub : (m7 : Int) - (nR : Int) = ((m7 - nR : Nat) : Int) := by omega
              have hsr : ∀ X : World, (slIS (.slice a7 m7 c7) (some (.int .i64 ((m7 : Int) - (nR : Int)))) none none).run Try.prog X = .ok (.slice a9 m9 c9) X := fun X => by rw [hsub]; exact sr X
              have hm9' : (m9 : Int) ≤ 9 := by omega
              have GY : Hid (IsL Y a9 m9 c9 ns ∧ Db Y p b c l' ∧ Fu nR (i + 1) l' (nxt nR es (eF kk i)) ∧ (∀ x, a9 = some x → W2.heap.size ≤ x.block) ∧ Below w.heap.size w Y ∧ W2.heap.size ≤ Y.heap.size) := ⟨by rw [← hrs]; exact s9, GZ.out.2.2.1, GZ.out.2.2.2.1, fun x e => by obtain ⟨y, hy, e2⟩ := n9 x e; rw [e2]; exact GZ.out.2.2.2.2.1 y hy, GZ.out.2.2.2.2.2⟩
              clear hns_ hrs GZ s9 n9 sr hsub hm9 hc9
              go_wp2_with fail
              go_loopw [13] (fun v13 wr => ∃ j : Nat, j ≤ 20 ∧ v13 = .int .i64 j ∧ Below Y.heap.size Y wr) (fun v13 _ => 20 - (intOf v13).toNat)
              case atStart => exact ⟨0, by omega, rfl, Below.refl _ _⟩
              case round =>
                obtain ⟨j, hj, rfl, hB4⟩ := hrel
                obtain ⟨V4, rfl⟩ : ∃ V, V = wr := ⟨_, rfl⟩
                have H4 : Hid (Below Y.heap.size Y V4) := hB4
                clear hB4
                have hj0 : (0 : Int) ≤ (j : Int) := by omega
                by_cases hjt : j < 20
                · have hj1 : (j : Int) < 20 := by omega
                  go_wp2_with fail
                  refine (station_any j _ (by omega)).mono ?_
                  rintro _ Q ⟨rfl, bQ⟩
                  have HQ : Hid (Below Y.heap.size Y Q) := below_over H4.out bQ
                  clear bQ
                  have hfd : Hid ((look l' (kyOf 3 (stA j)).rk).isSome = decide ((j : Int) ∈ ns)) := by rw [← hns.out]; exact GY.out.2.2.1.find GY.out.2.1.map.1 GY.out.2.1.map.2.1
                  go_wp2_with fail
                  refine (find_any p b c l' (kyOf 3 (stA j)) _ (GY.out.2.1.below HQ.out) (kyOf_wf (by omega) (stA_wf (by omega)))).mono ?_
                  rintro _ Q2 ⟨rfl, bQ2⟩
                  rw [hfd.out]
                  obtain ⟨Q3, s3, r3, b3, z3⟩ := row_new rtM Q2 #[.int .u8 0, .int .u8 0, .int .u8 0, .int .u8 0, .int .u8 0, .int .u8 0] (plA l' (kyOf 3 (stA j)).rk).cs rfl (Ad.size _) (Ad.one _)
                  have H3 : Hid (Below Y.heap.size Y Q3) := below_over HQ.out (below_over bQ2 b3)
                  clear bQ2 r3 b3 z3
                  go_wp2_with fail
                  clear s3
                  go_loopw [16, 17] (fun v16 v17 wr => ∃ y : Nat, y ≤ m9 ∧ v17 = .int .i64 y ∧ v16 = .bool (decide ((j : Int) ∈ ns.take y)) ∧ Below Y.heap.size Y wr) (fun _ v17 _ => m9 - (intOf v17).toNat)
                  case atStart => exact ⟨0, by omega, rfl, by simp, H3.out⟩
                  case round =>
                    obtain ⟨y, hy, rfl, rfl, hB6⟩ := hrel
                    obtain ⟨V6, rfl⟩ : ∃ V, V = wr := ⟨_, rfl⟩
                    have H6 : Hid (Below Y.heap.size Y V6) := hB6
                    clear hB6
                    have hy0 : (0 : Int) ≤ (y : Int) := by omega
                    by_cases hyt : y < m9
                    · have hy1 : (y : Int) < (m9 : Int) := by omega
                      obtain ⟨g9, o9, ha9⟩ := GY.out.1.some' (by omega)
                      obtain ⟨u, hu⟩ : ∃ u, ns[y]? = some u := ⟨_, List.getElem?_eq_getElem (by have := GY.out.1.len; omega)⟩
                      have S9 := GY.out.1.below H6.out
                      rw [ha9] at S9
                      have cu := S9.cell hu
                      have htk : Hid (decide ((j : Int) ∈ ns.take (y + 1)) = (decide ((j : Int) ∈ ns.take y) || decide (u = (j : Int)))) := by
                        show _ = _
                        rw [List.take_add_one, hu]
                        simp only [Option.toList_some, List.mem_append, List.mem_singleton, Bool.decide_or]
                        congr 1
                        exact decide_eq_decide.2 eq_comm
                      subst ha9
                      clear S9 hu
                      cases hd : decide ((j : Int) ∈ ns.take y)
                      · rw [hd, Bool.false_or] at htk
                        clear hd
                        go_wp2
                        go_roundw
                        case rel => exact ⟨y + 1, by omega, by go_num, by rw [htk.out]; first | rfl | (simp [beq_dec]; done), H6.out⟩
                        case measure => simp [intOf]; omega
                      · rw [hd, Bool.true_or] at htk
                        clear hd
                        go_wp2
                        go_roundw
                        case rel => exact ⟨y + 1, by omega, by go_num, by rw [htk.out], H6.out⟩
                        case measure => simp [intOf]; omega
                    · have hym : y = m9 := by omega
                      subst hym
                      have hy1 : ¬ (y : Int) < (y : Int) := by omega
                      have htk : ns.take y = ns := List.take_of_length_le (by have := GY.out.1.len; omega)
                      rw [htk]
                      clear htk
                      cases hd : decide ((j : Int) ∈ ns)
                      all_goals
                        clear hd
                        go_wp2
                        go_roundw
                        case rel => exact ⟨j + 1, by omega, by go_num, H6.out⟩
                        case measure => simp [intOf]; omega
                · have hjm : j = 20 := by omega
                  subst hjm
                  go_wp2
                  go_roundw
                  case rel => exact ⟨i + 1, l', nxt nR es (eF kk i), a9, m9, c9, by omega, by omega, by go_num, rfl, by rw [hns.out]; exact GY.out.1.below H4.out, GY.out.2.2.2.1, GY.out.2.1.below H4.out, GY.out.2.2.1, below_over GY.out.2.2.2.2.1 H4.out, by have := H4.out.size; have := GY.out.2.2.2.2.2; omega⟩
                  case measure => simp [intOf]; omega
      · simp only [hx, decide_false]
        go_wp2
        go_ret
        exact ⟨rfl, G.out.2.2.2.2.1⟩
end Go.Proofs.Ytoelpbajaadfeaa
