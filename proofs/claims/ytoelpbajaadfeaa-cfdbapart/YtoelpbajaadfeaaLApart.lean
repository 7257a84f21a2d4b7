/-
  What is learned and flushed of one service changes nothing of another one's: the walk of the law.
-/
import Derived.Test.YtoelpbajaadfeaaLAp
import Derived.Deep.CutRange
namespace Go.Proofs.Ytoelpbajaadfeaa
set_option linter.unusedVariables false
set_option maxRecDepth 8000
set_option linter.unusedSimpArgs false
open Go.RowKit

theorem isat_one (X : World) (s : Int) : IsAt (X.alloc (.cells #[.int .i64 s] 3)) X.heap.size [s] := by
  intro i v hv
  refine RvAt.cell (RvAt.new X 3 #[.int .i64 s]) i _ ?_
  match i, hv with
  | 0, hv => cases hv; rfl
  | i + 1, hv => simp at hv
attribute [local go_sem ↓] ldK stK ldM stM ldP stP ldE stE apE ldR stR ldO stO
set_option maxHeartbeats 8000000 in
theorem CfdbApart_walk (a : Option Addr) (n k : Nat) (ops : List Oq) (isid : Int) (w : World) (ho : OpsAt w a n k ops) (hid : 0 ≤ isid ∧ isid ≤ 255) :
    Calls Try.prog 6 #[.slice a n k, .int .u8 isid] w fun r w' => r = .returned (.bool true) ∧ Below w.heap.size w w' := by
  have HO : Hid (OpsAt w a n k ops) := ho
  have hnn : (n : Int) ≤ 9223372036854775807 := by have := ho.2.1; have := ho.2.2.1; unfold maxLen at this; omega
  clear ho
  obtain ⟨r0, hr0⟩ : ∃ r, isid.tmod 3 = r := ⟨_, rfl⟩
  have hr0b : 0 ≤ r0 ∧ r0 ≤ 2 := by
    rw [← hr0]
    have h1 := Int.tmod_nonneg 3 hid.1
    have h2 := Int.tmod_lt_of_pos isid (show (0 : Int) < 3 by omega)
    omega
  obtain ⟨one, hone⟩ : ∃ s, s = 1 + r0 := ⟨_, rfl⟩
  have q0 : IntKind.i64.wrap isid = isid := IntWalk.i64_in _ (by omega)
  have q0' : wrap64 isid = isid := IntWalk.wrap64_in _ (by omega)
  have q3 : IntKind.i64.wrap (1 + r0) = one := by rw [hone]; exact IntWalk.i64_in _ (by omega)
  have q4 : wrap64 (1 + r0) = one := by rw [hone]; exact IntWalk.wrap64_in _ (by omega)
  go_enter Try.func6, Try.ntmps6
  go_wp2_with fail
  refine (new_yes cA _ cA_ok).mono ?_
  rintro _ W0 ⟨p1, b1, rfl, d0, hp1, hb1, b0⟩
  have G0 : Hid (Db W0 p1 b1 cA [] ∧ w.heap.size ≤ p1 ∧ w.heap.size ≤ b1 ∧ Below w.heap.size w W0) := ⟨d0, hp1, hb1, b0⟩
  rw [← hone]
  clear d0 hp1 hb1 b0 hr0 q0 q0' q3 q4 hone hr0b hid
  go_wp2_with fail
  refine (new_yes cA _ cA_ok).mono ?_
  rintro _ W1 ⟨p2, b2, rfl, d1, hp2, hb2, b1_⟩
  have hl0 := G0.out.1.lt
  have G1 : Hid (Db W1 p1 b1 cA [] ∧ Db W1 p2 b2 cA [] ∧ Below w.heap.size w W1) := ⟨G0.out.1.below b1_, d1, below_over G0.out.2.2.2 b1_⟩
  have hw0 := G0.out.2.2.2.size
  have SEP : Hid (w.heap.size ≤ b1 ∧ w.heap.size ≤ b2 ∧ p1 ≠ b2 ∧ b1 ≠ b2 ∧ p2 ≠ b1) := ⟨G0.out.2.2.1, by omega, by omega, by omega, by omega⟩
  clear d1 hp2 hb2 b1_ hl0 hw0 G0
  go_wp2_with fail
  refine (awake_any _).mono ?_
  rintro _ W2 ⟨rfl, b2_⟩
  have G2 : Hid (Db W2 p1 b1 cA [] ∧ Db W2 p2 b2 cA [] ∧ Below w.heap.size w W2) := ⟨G1.out.1.below b2_, G1.out.2.1.below b2_, below_over G1.out.2.2 b2_⟩
  clear b2_ G1
  go_wp2_with fail
  go_loopw [10] (fun v10 wr => ∃ (i : Nat) (la lb : List En), i ≤ n ∧ i ≤ 60 ∧ v10 = .int .i64 i ∧ Db wr p1 b1 cA la ∧ Db wr p2 b2 cA lb ∧ Ap la lb one i ∧ Below w.heap.size w wr) (fun v10 _ => n - (intOf v10).toNat)
  case atStart => exact ⟨0, [], [], by omega, by omega, rfl, G2.out.1, G2.out.2.1, ⟨rfl, Nat.le_refl _⟩, G2.out.2.2⟩
  case round =>
    obtain ⟨i, la, lb, hi, hi60, rfl, hD1, hD2, hA, hB⟩ := hrel
    have G : Hid (Db wr p1 b1 cA la ∧ Db wr p2 b2 cA lb ∧ Below w.heap.size w wr) := ⟨hD1, hD2, hB⟩
    have HA : Hid (Ap la lb one i) := hA
    clear hD1 hD2 hA hB
    have hi0 : (0 : Int) ≤ (i : Int) := by omega
    go_upto_region 7 with fail
    go_cut [52] from 45 to 51 (fun v52 wx => v52 = .bool (decide (i < n ∧ i < 60)) ∧ wx = wr)
    case first =>
      by_cases h1 : i < n
      · have h1' : (i : Int) < (n : Int) := by omega
        by_cases h2 : i < 60
        · have h2' : (i : Int) < 60 := by omega
          go_wp2_with fail
          go_meet
          exact ⟨by simp [h1, h2], rfl⟩
        · have h2' : ¬ (i : Int) < 60 := by omega
          go_wp2_with fail
          go_meet
          exact ⟨by simp [h2], rfl⟩
      · have h1' : ¬ (i : Int) < (n : Int) := by omega
        go_wp2_with fail
        go_meet
        exact ⟨by simp [h1], rfl⟩
    case rest =>
      obtain ⟨rfl, hwc⟩ := hcut
      rw [hwc]
      clear hwc
      by_cases hx : i < n ∧ i < 60
      · simp only [hx, and_self, decide_true]
        obtain ⟨g, og, rfl⟩ := HO.out.2.2.2.1 (by omega)
        have lo := (HO.out.below G.out.2.2).ld i hx.1
        obtain ⟨o, hoo⟩ : ∃ o, o = gtO ops i := ⟨_, rfl⟩
        have how : Hid (o.wf) := by rw [hoo]; exact HO.out.wf i hx.1
        rw [← hoo] at lo
        clear hoo
        have hi1 : (i : Int) < (n : Int) := by omega
        obtain ⟨U, sU, rU, bU, zU⟩ := row_new rtO wr #[.int .u8 0, .int .i64 0, .int .i64 0, .int .u8 0, .int .u8 0, .int .u8 0, .int .u8 0, .int .u8 0, .int .u8 0, .int .u8 0, .int .u8 0, .int .u8 0, .int .u8 0, .int .u8 0, .int .u8 0, .int .i64 0] o.cs rfl (Oq.size o) (Oq.one o)
        obtain ⟨vb, hvb⟩ : ∃ vb, vb = wr.heap.size := ⟨_, rfl⟩
        have c1 := rU.cell 1 (.int .i64 o.isid) rfl
        have fz := rU.fz 1
        obtain ⟨u, hu⟩ : ∃ u, IntKind.u64.wrap o.isid = u := ⟨_, rfl⟩
        have hub : 0 ≤ u := by rw [← hu]; simp [IntKind.wrap, IntKind.bits, IntKind.signed]; omega
        obtain ⟨r, hr⟩ : ∃ r, u.tmod 3 = r := ⟨_, rfl⟩
        have hrb : 0 ≤ r ∧ r ≤ 2 := by
          rw [← hr]
          have h1 := Int.tmod_nonneg 3 hub
          have h2 := Int.tmod_lt_of_pos u (show (0 : Int) < 3 by omega)
          omega
        obtain ⟨s, hs⟩ : ∃ s, s = 1 + r := ⟨_, rfl⟩
        have hsb : 1 ≤ s ∧ s ≤ 3 := by omega
        have q1 : IntKind.i64.wrap r = r := IntWalk.i64_in _ (by omega)
        have q2 : wrap64 r = r := IntWalk.wrap64_in _ (by omega)
        have q3 : IntKind.i64.wrap (1 + r) = s := by rw [hs]; exact IntWalk.i64_in _ (by omega)
        have q4 : wrap64 (1 + r) = s := by rw [hs]; exact IntWalk.wrap64_in _ (by omega)
        obtain ⟨rT, gT⟩ := rU.oset s
        obtain ⟨T, hT⟩ : ∃ T, U.setCell ⟨wr.heap.size, 1, none⟩ (.int .i64 s) = T := ⟨_, rfl⟩
        rw [hT] at rT gT

        have HS : Hid (s = 1 + r) := hs
        clear hs
        have hsw := G.out.2.2.size
        have hl1 := G.out.1.lt
        have hl2 := G.out.2.1.lt
        have dT1 : Db T p1 b1 cA la := (G.out.1.below bU).kept gT (fun e => by have := Option.some.inj e; omega) (fun e => by have := Option.some.inj e; omega)
        have dT2 : Db T p2 b2 cA lb := (G.out.2.1.below bU).kept gT (fun e => by have := Option.some.inj e; omega) (fun e => by have := Option.some.inj e; omega)
        have bwU := below_over G.out.2.2 bU
        have bT : Below w.heap.size w T := bwU.trans (below_of_grown gT bwU.size (fun j e => by cases e; omega))
        rw [← hvb] at rT
        have GT : Hid (Db T p1 b1 cA la ∧ Db T p2 b2 cA lb ∧ Below w.heap.size w T ∧ RvAt T vb 40 ({ o with isid := s } : Oq).cs ∧ p1 < vb ∧ b1 < vb ∧ p2 < vb ∧ b2 < vb ∧ w.heap.size ≤ vb) := ⟨dT1, dT2, bT, rT, by omega, by omega, by omega, by omega, by omega⟩
        have e0 := rT.cell 0 (.int .u8 o.act) rfl
        have e1 := rT.cell 1 (.int .i64 s) rfl
        clear rU bU zU rT gT dT1 dT2 bwU bT hl1 hl2 hsw
        rw [hvb] at e0 e1
        by_cases h5 : o.act.tmod 8 = 5
        · obtain ⟨T1, hT1⟩ : ∃ T1, T.alloc (.cells #[.int .i64 s] 3) = T1 := ⟨_, rfl⟩
          have bT1 : Below T.heap.size T T1 := by rw [← hT1]; exact (Below.refl _ _).alloc (Nat.le_refl _) _
          have IT : Hid (IsAt T1 T.heap.size [s] ∧ T.heap.size < T1.heap.size) := by rw [← hT1]; exact ⟨isat_one _ _, by simp⟩
          have GT1 : Hid (Db T1 p1 b1 cA la ∧ Db T1 p2 b2 cA lb ∧ Below w.heap.size w T1 ∧ RvAt T1 vb 40 ({ o with isid := s } : Oq).cs) := ⟨GT.out.1.below bT1, GT.out.2.1.below bT1, below_over GT.out.2.2.1 bT1, GT.out.2.2.2.1.below bT1⟩
          have hTb := GT.out.2.2.2.1.lt
          have hv5 := GT.out.2.2.2.2
          clear bT1
          go_wp2_with fail
          refine (flush_any p1 b1 cA la T.heap.size 1 1 [s] _ GT1.out.1 IT.out.1 IT.out.2 (by omega) rfl (by omega) (by omega)).mono ?_
          rintro _ F ⟨rfl, dF, gF⟩
          have hS := SEP.out
          have rF : RvAt F vb 40 ({ o with isid := s } : Oq).cs := (gF.block _ GT1.out.2.2.2.lt (fun e => by have := Option.some.inj e; omega)).trans GT1.out.2.2.2
          have e1F := rF.cell 1 (.int .i64 s) rfl
          have GF : Hid (Db F p1 b1 cA (remS la (flushSh [s])).1 ∧ Db F p2 b2 cA lb ∧ Below w.heap.size w F) := ⟨dF, GT1.out.2.1.kept gF (fun e => by have := Option.some.inj e; omega) (fun e => by have := Option.some.inj e; omega), GT1.out.2.2.1.trans (below_of_grown gF GT1.out.2.2.1.size (fun j e => by cases e; omega))⟩
          rw [hvb] at e1F
          have hAp : Hid (Ap (remS la (flushSh [s])).1 (if s = one then (remS lb (flushSh [s])).1 else lb) one (i + 1)) := HA.out.flush s
          clear dF gF hT1 IT GT1 e0 e1 rF c1 fz sU lo hT
          by_cases ho1 : s = one
          · rw [if_pos ho1] at hAp
            obtain ⟨F1, hF1⟩ : ∃ F1, F.alloc (.cells #[.int .i64 s] 3) = F1 := ⟨_, rfl⟩
            have bF1 : Below F.heap.size F F1 := by rw [← hF1]; exact (Below.refl _ _).alloc (Nat.le_refl _) _
            have IF : Hid (IsAt F1 F.heap.size [s] ∧ F.heap.size < F1.heap.size) := by rw [← hF1]; exact ⟨isat_one _ _, by simp⟩
            have GF1 : Hid (Db F1 p1 b1 cA (remS la (flushSh [s])).1 ∧ Db F1 p2 b2 cA lb ∧ Below w.heap.size w F1) := ⟨GF.out.1.below bF1, GF.out.2.1.below bF1, below_over GF.out.2.2 bF1⟩
            have hFb := GF.out.2.1.lt
            have ho2 : one = s := ho1.symm
            subst ho2
            clear bF1
            go_wp2_with fail
            refine (flush_any p2 b2 cA lb F.heap.size 1 1 [one] _ GF1.out.2.1 IF.out.1 IF.out.2 (by omega) rfl (by omega) (by omega)).mono ?_
            rintro _ E ⟨rfl, dE, gE⟩
            have GE : Hid (Db E p1 b1 cA (remS la (flushSh [one])).1 ∧ Db E p2 b2 cA (remS lb (flushSh [one])).1 ∧ Below w.heap.size w E) := ⟨GF1.out.1.kept gE (fun e => by have := Option.some.inj e; omega) (fun e => by have := Option.some.inj e; omega), dE, GF1.out.2.2.trans (below_of_grown gE GF1.out.2.2.size (fun j e => by cases e; omega))⟩
            clear dE gE hF1 IF GF1 e1F
            go_wp2
            go_roundw
            case rel => exact ⟨i + 1, _, _, by omega, by omega, by go_num, GE.out.1, GE.out.2.1, hAp.out, GE.out.2.2⟩
            case measure => simp [intOf]; omega
          · rw [if_neg ho1] at hAp
            have ho2 : (s == one) = false := by simpa using ho1
            go_wp2
            go_roundw
            case rel => exact ⟨i + 1, _, _, by omega, by omega, by go_num, GF.out.1, GF.out.2.1, hAp.out, GF.out.2.2⟩
            case measure => simp [intOf]; omega
        · have h5' : (o.act.tmod 8 == 5) = false := by simpa using h5
          have hewf : Hid (({ o with isid := s } : Oq).en.k.wf ∧ ({ o with isid := s } : Oq).en.bm.wf ∧ ({ o with isid := s } : Oq).en.k.vid = s) := ⟨kyOf_wf ⟨by show _ ≤ s; omega, by show s ≤ _; omega⟩ how.out.c, how.out.b, rfl⟩
          have lm := GT.out.2.2.2.1.ocmac
          have lb_ := GT.out.2.2.2.1.obmac
          have e15 := GT.out.2.2.2.1.cell 15 (.int .i64 o.tick) rfl
          have hTb := GT.out.2.2.2.1.lt
          have hv5 := GT.out.2.2.2.2
          rw [hvb] at lm lb_ e15
          go_wp2_with fail
          refine (learn_any p1 b1 cA la ({ o with isid := s } : Oq).en T GT.out.1 hewf.out.1 hewf.out.2.1).mono ?_
          rintro _ F ⟨rfl, dF, gF⟩
          have hS := SEP.out
          have rF : RvAt F vb 40 ({ o with isid := s } : Oq).cs := (gF.block _ GT.out.2.2.2.1.lt (fun e => by have := Option.some.inj e; omega)).trans GT.out.2.2.2.1
          have e1F := rF.cell 1 (.int .i64 s) rfl
          have lmF := rF.ocmac
          have lbF := rF.obmac
          have e15F := rF.cell 15 (.int .i64 o.tick) rfl
          have GF : Hid (Db F p1 b1 cA (learnS cA la ({ o with isid := s } : Oq).en).1 ∧ Db F p2 b2 cA lb ∧ Below w.heap.size w F) := ⟨dF, GT.out.2.1.kept gF (fun e => by have := Option.some.inj e; omega) (fun e => by have := Option.some.inj e; omega), GT.out.2.2.1.trans (below_of_grown gF GT.out.2.2.1.size (fun j e => by cases e; omega))⟩
          rw [hvb] at e1F lmF lbF e15F
          have hAp : Hid (Ap (learnS cA la ({ o with isid := s } : Oq).en).1 (if s = one then (learnS cA lb ({ o with isid := s } : Oq).en).1 else lb) one (i + 1)) := by
            have := HA.out.learn hx.2 G.out.1.map.1 G.out.1.map.2.1 hewf.out.1
            rw [hewf.out.2.2] at this
            exact this
          clear dF gF e0 e1 rF c1 fz sU lo hT lm lb_ e15
          by_cases ho1 : s = one
          · rw [if_pos ho1] at hAp
            have ho2 : one = s := ho1.symm
            subst ho2
            go_wp2_with fail
            refine (learn_any p2 b2 cA lb ({ o with isid := one } : Oq).en F GF.out.2.1 hewf.out.1 hewf.out.2.1).mono ?_
            rintro _ E ⟨rfl, dE, gE⟩
            have hFb := GF.out.2.1.lt
            have GE : Hid (Db E p1 b1 cA (learnS cA la ({ o with isid := one } : Oq).en).1 ∧ Db E p2 b2 cA (learnS cA lb ({ o with isid := one } : Oq).en).1 ∧ Below w.heap.size w E) := ⟨GF.out.1.kept gE (fun e => by have := Option.some.inj e; omega) (fun e => by have := Option.some.inj e; omega), dE, GF.out.2.2.trans (below_of_grown gE GF.out.2.2.size (fun j e => by cases e; omega))⟩
            clear dE gE e1F lmF lbF e15F
            go_wp2
            go_roundw
            case rel => exact ⟨i + 1, _, _, by omega, by omega, by go_num, GE.out.1, GE.out.2.1, hAp.out, GE.out.2.2⟩
            case measure => simp [intOf]; omega
          · rw [if_neg ho1] at hAp
            have ho2 : (s == one) = false := by simpa using ho1
            go_wp2
            go_roundw
            case rel => exact ⟨i + 1, _, _, by omega, by omega, by go_num, GF.out.1, GF.out.2.1, hAp.out, GF.out.2.2⟩
            case measure => simp [intOf]; omega
      · simp only [hx, decide_false]
        obtain ⟨Z, rfl⟩ : ∃ Z, Z = wr := ⟨_, rfl⟩
        have hll : Hid (la.length ≤ 60 ∧ lb.length ≤ 60) := ⟨by have := HA.out.len; omega, by have := HA.out.lenb; omega⟩
        go_wp2_with fail
        refine (all_any p1 b1 cA la _ G.out.1).mono ?_
        rintro _ Z2 ⟨v, rfl, ow, bb⟩
        obtain ⟨aa, ca, hv, sa, _⟩ := ow.form
        subst hv
        obtain ⟨m, hm⟩ : ∃ m, la.length = m := ⟨_, rfl⟩
        rw [hm] at sa
        have GZ : Hid (SlAt Z2 aa m ca la ∧ Db Z2 p2 b2 cA lb ∧ Below w.heap.size w Z2 ∧ la.length = m ∧ m ≤ 60) := ⟨sa, G.out.2.1.below bb, below_over G.out.2.2 bb, hm, by have := hll.out.1; omega⟩
        rw [hm]
        have hm60 : (m : Int) ≤ 60 := by have := GZ.out.2.2.2.2; omega
        clear sa bb ow hi hi60 hi0
        go_wp2_with fail
        go_loopw [12, 14] (fun v12 v14 wr => ∃ (j : Nat) (a6 : Option Addr) (m6 c6 : Nat), j ≤ m ∧ v14 = .int .i64 j ∧ v12 = .slice a6 m6 c6 ∧ ((la.take j).filter (ofS one)).length = m6 ∧ Own wr Z2.heap.size (.slice a6 m6 c6) ((la.take j).filter (ofS one)) ∧ Below Z2.heap.size Z2 wr) (fun _ v14 _ => m - (intOf v14).toNat)
        case atStart => exact ⟨0, none, 0, 0, by omega, rfl, rfl, rfl, Own.nil _ _, Below.refl _ _⟩
        case round =>
          obtain ⟨j, a6, m6, c6, hj, rfl, rfl, hm6_, hO, hB⟩ := hrel
          have HB : Hid (Below Z2.heap.size Z2 wr) := hB
          have HOw : Hid (Own wr Z2.heap.size (.slice a6 m6 c6) ((la.take j).filter (ofS one))) := hO
          have hm6 : Hid (((la.take j).filter (ofS one)).length = m6) := hm6_
          have hj0 : (0 : Int) ≤ (j : Int) := by omega
          clear hB hO hm6_
          by_cases hjt : j < m
          · have hj1 : (j : Int) < (m : Int) := by omega
            obtain ⟨ga, oa, rfl⟩ := GZ.out.1.some' (by omega)
            obtain ⟨x, hxj⟩ : ∃ x, la[j]? = some x := ⟨_, List.getElem?_eq_getElem (by omega)⟩
            have htk : la.take (j + 1) = la.take j ++ [x] := by rw [List.take_add_one, hxj]; rfl
            have s0 : wr.cell? ⟨ga, oa + j * 14, none⟩ = some (.int .i64 x.k.vid) := (GZ.out.1.below HB.out).cell hxj (k := 0) (v := .int .i64 x.k.vid) rfl (by omega)
            by_cases hv : x.k.vid = one
            · have hkeep : Hid ((la.take (j + 1)).filter (ofS one) = (la.take j).filter (ofS one) ++ [x]) := by
                show _ = _
                rw [htk, List.filter_append, List.filter_cons_of_pos (by simp [ofS, hv])]
                rfl
              have lx : (ldS 51 (.pointer (some ⟨ga, oa + j * 14, none⟩))).run Try.prog wr = .ok (.agg #[.int .i64 x.k.vid, .int .u8 x.k.a, .int .u8 x.k.b, .int .u8 x.k.c, .int .u8 x.k.d, .int .u8 x.k.e, .int .u8 x.k.f, .int .u8 x.bm.a, .int .u8 x.bm.b, .int .u8 x.bm.c, .int .u8 x.bm.d, .int .u8 x.bm.e, .int .u8 x.bm.f, .int .i64 x.seen]) wr := (GZ.out.1.below HB.out).ld hxj
              obtain ⟨Y1, Y2, a7, m7, c7, hY1, ap2, o2, hB2, hm7⟩ := HOw.out.one x HB.out (by have h1 : ((la.take j).filter (ofS one)).length ≤ (la.take j).length := List.length_filter_le _ _; rw [List.length_take] at h1; omega)
              rw [← hkeep.out] at o2 hm7
              have G2 : Hid (Below Z2.heap.size Z2 Y2 ∧ Own Y2 Z2.heap.size (.slice a7 m7 c7) ((la.take (j + 1)).filter (ofS one)) ∧ ((la.take (j + 1)).filter (ofS one)).length = m7) := ⟨hB2, o2, hm7⟩
              clear o2 hB2 hm7 hxj htk
              have hv2 : (x.k.vid == one) = true := by simp [hv]
              have Hv : Hid (x.k.vid = one) := hv
              clear hv
              go_wp2
              go_roundw
              case rel => exact ⟨j + 1, a7, m7, c7, by omega, by go_num, rfl, G2.out.2.2, G2.out.2.1, G2.out.1⟩
              case measure => simp [intOf]; omega
            · have hv' : (x.k.vid == one) = false := by simpa using hv
              have hkeep : Hid ((la.take (j + 1)).filter (ofS one) = (la.take j).filter (ofS one)) := by
                show _ = _
                rw [htk, List.filter_append, List.filter_cons_of_neg (by simp [ofS, hv]), List.filter_nil, List.append_nil]
              clear hxj htk
              go_wp2
              go_roundw
              case rel => exact ⟨j + 1, a6, m6, c6, by omega, by go_num, rfl, by rw [hkeep.out]; exact hm6.out, by rw [hkeep.out]; exact HOw.out, HB.out⟩
              case measure => simp [intOf]; omega
          · have hjm : j = m := by omega
            subst hjm
            have hj1 : ¬ (j : Int) < (j : Int) := by omega
            have htk : la.take j = la := List.take_of_length_le (by omega)
            have heq : (la.take j).filter (ofS one) = lb := by rw [htk]; exact HA.out.eq.symm
            have h1 := HOw.out
            have h2 := hm6.out
            rw [heq] at h1 h2
            obtain ⟨a7, c7, hv7, s7, _⟩ := h1.form
            obtain ⟨rfl, rfl⟩ : a6 = a7 ∧ c6 = c7 := by
              injection hv7 with e1 e2 e3
              exact ⟨e1, e3⟩
            rw [h2] at s7
            have GL : Hid (SlAt wr a6 m6 c6 lb ∧ lb.length = m6 ∧ lb.length ≤ 1000) := ⟨s7, h2, by have := hll.out.2; omega⟩
            clear h1 h2 hv7 s7 heq htk
            go_wp2_with fail
            refine (all_any p2 b2 cA lb _ (GZ.out.2.1.below HB.out)).mono ?_
            rintro _ Z3 ⟨v, rfl, ow, bb⟩
            obtain ⟨ab, cb, hv, sb, _⟩ := ow.form
            subst hv
            rw [GL.out.2.1] at sb ⊢
            have GS : Hid (SlAt Z3 ab m6 cb lb ∧ SlAt Z3 a6 m6 c6 lb ∧ Below w.heap.size w Z3) := ⟨sb, GL.out.1.below bb, below_over (below_over GZ.out.2.2.1 HB.out) bb⟩
            have hm6l := GL.out.2.2
            have hm6e := GL.out.2.1
            clear sb bb ow
            go_wp2_with fail
            refine (same_eq a6 ab m6 c6 cb lb _ GS.out.2.1 GS.out.1 (by omega)).mono ?_
            rintro _ Z4 ⟨rfl, b4⟩
            have B4 : Hid (Below w.heap.size w Z4) := below_over GS.out.2.2 b4
            clear b4
            go_wp2
            go_ret
            exact ⟨rfl, B4.out⟩
end Go.Proofs.Ytoelpbajaadfeaa
