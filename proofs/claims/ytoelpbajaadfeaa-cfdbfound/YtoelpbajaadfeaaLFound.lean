/-
  What was learned last is found, and nothing else: the walk of the law.
-/
import Derived.Test.YtoelpbajaadfeaaLFd
import Derived.Deep.CutRange
namespace Go.Proofs.Ytoelpbajaadfeaa
set_option linter.unusedVariables false
set_option maxRecDepth 8000
set_option linter.unusedSimpArgs false
open Go.RowKit

theorem Own.one2 {wr : World} {B : Nat} {a6 : Option Addr} {m6 c6 : Nat} {acc : List En} (x : En) (h : Own wr B (.slice a6 m6 c6) acc) (hB : B ≤ wr.heap.size) (hl : acc.length ≤ 1000) :
    ∃ Y1 Y2 a7 m7 c7 row, wr.alloc (.cells #[.int .i64 x.k.vid, .int .u8 x.k.a, .int .u8 x.k.b, .int .u8 x.k.c, .int .u8 x.k.d, .int .u8 x.k.e, .int .u8 x.k.f, .int .u8 x.bm.a, .int .u8 x.bm.b, .int .u8 x.bm.c, .int .u8 x.bm.d, .int .u8 x.bm.e, .int .u8 x.bm.f, .int .i64 x.seen] 51) = Y1 ∧
      (apS 27 #[.slice a6 m6 c6, .slice (some ⟨wr.heap.size, 0, none⟩) 1 1]).run Try.prog Y1 = .ok (.slice a7 m7 c7) Y2 ∧ Own Y2 B (.slice a7 m7 c7) (acc ++ [x]) ∧ (acc ++ [x]).length = m7 ∧ wr.grownBy Y2 row ∧ ∀ j, row = some j → B ≤ j := by
  obtain ⟨Y1, hY1⟩ : ∃ Y1, wr.alloc (.cells x.cs 51) = Y1 := ⟨_, rfl⟩
  have b1 : Below wr.heap.size wr Y1 := by rw [← hY1]; exact (Below.refl _ _).alloc (Nat.le_refl _) _
  have s1 : SlAt Y1 (some ⟨wr.heap.size, 0, none⟩) 1 1 [x] := by rw [← hY1]; exact one_new wr x
  have o1 := h.below b1
  obtain ⟨v2, Y2, ap2, o2, g2⟩ := o1.app s1 (by simp only [List.length_singleton]; omega) (Nat.le_trans hB b1.size) 27
  obtain ⟨a7, c7, hv7, s7, _⟩ := o2.form
  subst hv7
  exact ⟨Y1, Y2, a7, _, c7, _, hY1, ap2, o2, rfl, (grown_of_below b1 _).andThen g2 (fun j e => .inr e), fun j e => (World.ownsRow.lt o1 j e).1⟩
theorem RvAt.ocm {W : World} {b : Nat} {o : Oq} (h : RvAt W b 40 o.cs) : (ldS 38 (.pointer (some ⟨b, 3, none⟩))).run Try.prog W = .ok (.agg #[.int .u8 o.c.a, .int .u8 o.c.b, .int .u8 o.c.c, .int .u8 o.c.d, .int .u8 o.c.e, .int .u8 o.c.f]) W := h.ocmac
theorem RvAt.obm {W : World} {b : Nat} {o : Oq} (h : RvAt W b 40 o.cs) : (ldS 38 (.pointer (some ⟨b, 9, none⟩))).run Try.prog W = .ok (.agg #[.int .u8 o.b.a, .int .u8 o.b.b, .int .u8 o.b.c, .int .u8 o.b.d, .int .u8 o.b.e, .int .u8 o.b.f]) W := h.obmac
attribute [local go_sem ↓] ldK stK ldM stM ldP stP ldE stE apE ldR stR ldO stO
set_option maxHeartbeats 8000000 in
theorem CfdbFound_walk (a : Option Addr) (n k : Nat) (ops : List Oq) (w : World) (ho : OpsAt w a n k ops) :
    Calls Try.prog 5 #[.slice a n k] w fun r w' => r = .returned (.bool true) ∧ Below w.heap.size w w' := by
  have HO : Hid (OpsAt w a n k ops) := ho
  have hnn : (n : Int) ≤ 9223372036854775807 := by have := ho.2.1; have := ho.2.2.1; unfold maxLen at this; omega
  clear ho
  go_enter Try.func5, Try.ntmps5
  go_wp2_with fail
  refine (new_yes cF _ cF_ok).mono ?_
  rintro _ W0 ⟨p, b, rfl, d0, hp, hb, b0⟩
  have G0 : Hid (Db W0 p b cF [] ∧ w.heap.size ≤ b ∧ Below w.heap.size w W0) := ⟨d0, hb, b0⟩
  clear d0 hp hb b0
  go_wp2_with fail
  refine (awake_any _).mono ?_
  rintro _ W2 ⟨rfl, b2⟩
  have G2 : Hid (Db W2 p b cF [] ∧ w.heap.size ≤ b ∧ Below w.heap.size w W2 ∧ b < W2.heap.size) := ⟨G0.out.1.below b2, G0.out.2.1, below_over G0.out.2.2 b2, by have := G0.out.1.lt; have := b2.size; omega⟩
  clear b2 G0
  go_wp2_with fail
  go_loopw [5, 6] (fun v5 v6 wr => ∃ (i : Nat) (l acc : List En) (a5 : Option Addr) (m5 c5 : Nat), i ≤ n ∧ i ≤ 60 ∧ v6 = .int .i64 i ∧ v5 = .slice a5 m5 c5 ∧ acc.length = m5 ∧ acc.length ≤ i ∧ l.length ≤ i ∧ Own wr W2.heap.size (.slice a5 m5 c5) acc ∧ Db wr p b cF l ∧ Fd l acc ∧ Wfs acc ∧ Below w.heap.size w wr ∧ W2.heap.size ≤ wr.heap.size) (fun _ v6 _ => n - (intOf v6).toNat)
  case atStart => exact ⟨0, [], [], none, 0, 0, by omega, by omega, rfl, rfl, rfl, Nat.le_refl _, Nat.le_refl _, Own.nil _ _, G2.out.1, (fun q => rfl), (fun x hx => by cases hx), G2.out.2.2.1, Nat.le_refl _⟩
  case round =>
    obtain ⟨i, l, acc, a5, m5, c5, hi, hi60, rfl, rfl, hm5, hal, hll, hO, hD, hF, hW, hB, hs⟩ := hrel
    have G : Hid (acc.length = m5 ∧ acc.length ≤ i ∧ l.length ≤ i ∧ Own wr W2.heap.size (.slice a5 m5 c5) acc ∧ Db wr p b cF l ∧ Fd l acc ∧ Wfs acc ∧ Below w.heap.size w wr ∧ W2.heap.size ≤ wr.heap.size) := ⟨hm5, hal, hll, hO, hD, hF, hW, hB, hs⟩
    clear hm5 hal hll hO hD hF hW hB hs
    have hi0 : (0 : Int) ≤ (i : Int) := by omega
    go_upto_region 6 with fail
    go_cut [38] from 31 to 37 (fun v38 wx => v38 = .bool (decide (i < n ∧ i < 60)) ∧ wx = wr)
    case first =>
      by_cases h1 : i < n
      · have h1' : (i : Int) < (n : Int) := by omega
        by_cases h2 : i < 60
        · have h2' : (i : Int) < 60 := by omega
          go_wp2_with fail
          go_meet
          exact ⟨by simp [h1, h2], rfl⟩
        · have h2' : ¬ (i : Int) < 60 := by omega
          go_wp2_with fail
          go_meet
          exact ⟨by simp [h2], rfl⟩
      · have h1' : ¬ (i : Int) < (n : Int) := by omega
        go_wp2_with fail
        go_meet
        exact ⟨by simp [h1], rfl⟩
    case rest =>
      obtain ⟨rfl, hwc⟩ := hcut
      rw [hwc]
      clear hwc
      by_cases hx : i < n ∧ i < 60
      · simp only [hx, and_self, decide_true]
        obtain ⟨g, og, rfl⟩ := HO.out.2.2.2.1 (by omega)
        have lo := (HO.out.below G.out.2.2.2.2.2.2.2.1).ld i hx.1
        obtain ⟨o, hoo⟩ : ∃ o, o = gtO ops i := ⟨_, rfl⟩
        have how : Hid (o.wf) := by rw [hoo]; exact HO.out.wf i hx.1
        rw [← hoo] at lo
        clear hoo
        have hi1 : (i : Int) < (n : Int) := by omega
        obtain ⟨U, sU, rU, bU, zU⟩ := row_new rtO wr #[.int .u8 0, .int .i64 0, .int .i64 0, .int .u8 0, .int .u8 0, .int .u8 0, .int .u8 0, .int .u8 0, .int .u8 0, .int .u8 0, .int .u8 0, .int .u8 0, .int .u8 0, .int .u8 0, .int .u8 0, .int .i64 0] o.cs rfl (Oq.size o) (Oq.one o)
        have c1 := rU.cell 1 (.int .i64 o.isid) rfl
        have c15 := rU.cell 15 (.int .i64 o.tick) rfl
        have cm := rU.ocm
        have cb := rU.obm
        have hsU := bU.size
        have GU : Hid (RvAt U wr.heap.size 40 o.cs ∧ Own U W2.heap.size (.slice a5 m5 c5) acc ∧ Db U p b cF l ∧ Below w.heap.size w U ∧ W2.heap.size ≤ U.heap.size) := ⟨rU, G.out.2.2.2.1.below bU, G.out.2.2.2.2.1.below bU, below_over G.out.2.2.2.2.2.2.2.1 bU, by have := G.out.2.2.2.2.2.2.2.2; omega⟩
        clear rU bU zU hsU
        go_wp2_with fail
        refine (learn_any p b cF l o.en _ GU.out.2.2.1 how.out.k how.out.b).mono ?_
        rintro _ V ⟨rfl, dV, gV⟩
        have hbw := G2.out.2.1
        have hbW := G2.out.2.2.2
        have hpW := G2.out.1.lt.1
        have hsw := G.out.2.2.2.2.2.2.2.2
        have hww := G2.out.2.2.1.size
        have rV : RvAt V wr.heap.size 40 o.cs := (gV.block _ GU.out.1.lt (fun e => by have := Option.some.inj e; omega)).trans GU.out.1
        have oV : Own V W2.heap.size (.slice a5 m5 c5) acc := GU.out.2.1.keptBut gV (.inr (fun e => by have := (World.ownsRow.lt GU.out.2.1 b e).1; omega))
        have bV : Below w.heap.size w V := GU.out.2.2.2.1.trans (below_of_grown gV GU.out.2.2.2.1.size (fun j e => by cases e; exact hbw))
        have c1 := rV.cell 1 (.int .i64 o.isid) rfl
        have cm := rV.ocm
        have cb := rV.obm
        have hsV := gV.size
        have GV : Hid (Own V W2.heap.size (.slice a5 m5 c5) acc ∧ Db V p b cF (learnS cF l o.en).1 ∧ Below w.heap.size w V ∧ W2.heap.size ≤ V.heap.size) := ⟨oV, dV, bV, by have := GU.out.2.2.2.2; omega⟩
        clear dV gV rV oV bV sU lo hsV GU
        rcases G.out.2.2.2.2.2.1.learn G.out.2.2.2.2.1.map.1 (by have := G.out.2.2.1; omega) o with ⟨hl, hF2⟩ | hl
        · rw [hl] at GV ⊢
          obtain ⟨Y1, Y2, a7, m7, c7, row, hY1, ap2, o2, hm7, g2, hrow⟩ := GV.out.1.one2 o.kn GV.out.2.2.2 (by have := G.out.2.1; omega)
          have hlp := length_put_le G.out.2.2.2.2.1.map.1 o.en
          have hg2 := g2.size
          have GY : Hid ((acc ++ [o.kn]).length = m7 ∧ (acc ++ [o.kn]).length ≤ i + 1 ∧ (put l o.en).length ≤ i + 1 ∧ Own Y2 W2.heap.size (.slice a7 m7 c7) (acc ++ [o.kn]) ∧ Db Y2 p b cF (put l o.en) ∧ Fd (put l o.en) (acc ++ [o.kn]) ∧ Wfs (acc ++ [o.kn]) ∧ Below w.heap.size w Y2 ∧ W2.heap.size ≤ Y2.heap.size) :=
            ⟨hm7, by rw [List.length_append, List.length_singleton]; have := G.out.2.1; omega, by have := G.out.2.2.1; omega, o2, GV.out.2.1.kept g2 (fun e => by have := hrow _ e.symm; omega) (fun e => by have := hrow _ e.symm; omega), hF2, fun x hx => by
              rcases List.mem_append.1 hx with hx | hx
              · exact G.out.2.2.2.2.2.2.1 x hx
              · rw [List.mem_singleton.1 hx]; exact Oq.kn_wf how.out, GV.out.2.2.1.trans (below_of_grown g2 GV.out.2.2.1.size (fun j e => by have := hrow j e; omega)), by have := GV.out.2.2.2; omega⟩
          change V.alloc (.cells #[.int .i64 o.isid, .int .u8 o.c.a, .int .u8 o.c.b, .int .u8 o.c.c, .int .u8 o.c.d, .int .u8 o.c.e, .int .u8 o.c.f, .int .u8 o.b.a, .int .u8 o.b.b, .int .u8 o.b.c, .int .u8 o.b.d, .int .u8 o.b.e, .int .u8 o.b.f, .int .i64 0] 51) = Y1 at hY1
          clear o2 hm7 g2 hrow hlp hg2 hl hF2
          go_wp2
          go_roundw
          case rel => exact ⟨i + 1, put l o.en, acc ++ [o.kn], a7, m7, c7, by omega, by omega, by go_num, rfl, GY.out⟩
          case measure => simp [intOf]; omega
        · rw [hl] at GV ⊢
          clear hl c1 cm cb
          go_wp2
          go_roundw
          case rel => exact ⟨i + 1, l, acc, a5, m5, c5, by omega, by omega, by go_num, rfl, G.out.1, by have := G.out.2.1; omega, by have := G.out.2.2.1; omega, GV.out.1, GV.out.2.1, G.out.2.2.2.2.2.1, G.out.2.2.2.2.2.2.1, GV.out.2.2.1, GV.out.2.2.2⟩
          case measure => simp [intOf]; omega
      · simp only [hx, decide_false]
        obtain ⟨Z, rfl⟩ : ∃ Z, Z = wr := ⟨_, rfl⟩
        obtain ⟨a6, c6, hv6, s6, _⟩ := G.out.2.2.2.1.form
        obtain ⟨rfl, hc65⟩ : a5 = a6 ∧ c5 = c6 := by
          injection hv6 with e1 e2 e3
          exact ⟨e1, e3⟩
        rw [← hc65, G.out.1] at s6
        have GZ : Hid (SlAt Z a5 m5 c5 acc ∧ Db Z p b cF l ∧ Fd l acc ∧ acc.length = m5 ∧ m5 ≤ 60 ∧ Wfs acc ∧ Below w.heap.size w Z) := ⟨s6, G.out.2.2.2.2.1, G.out.2.2.2.2.2.1, G.out.1, by have := G.out.1; have := G.out.2.1; omega, G.out.2.2.2.2.2.2.1, G.out.2.2.2.2.2.2.2.1⟩
        clear hv6 s6 hc65 G hi hi60 hi0
        have hm60 : (m5 : Int) ≤ 60 := by have := GZ.out.2.2.2.2.1; omega
        go_wp2_with fail
        go_loopw [8] (fun v8 wr => ∃ j : Nat, j ≤ m5 ∧ v8 = .int .i64 j ∧ Below Z.heap.size Z wr) (fun v8 _ => m5 - (intOf v8).toNat)
        case atStart => exact ⟨0, by omega, rfl, Below.refl _ _⟩
        case round =>
          obtain ⟨j, hj, rfl, hB⟩ := hrel
          obtain ⟨Vj, rfl⟩ : ∃ Vj, Vj = wr := ⟨_, rfl⟩
          have hj0 : (0 : Int) ≤ (j : Int) := by omega
          have HB : Hid (Below Z.heap.size Z Vj) := hB
          clear hB
          by_cases hjt : j < m5
          · have hj1 : (j : Int) < (m5 : Int) := by omega
            obtain ⟨g, og, rfl⟩ := GZ.out.1.some' (by omega)
            obtain ⟨x, hx⟩ : ∃ x, acc[j]? = some x := ⟨_, List.getElem?_eq_getElem (by have := GZ.out.2.2.2.1; omega)⟩
            have Hx : Hid (acc[j]? = some x) := hx
            have hxw : Hid (x.wf) := GZ.out.2.2.2.2.2.1 x (List.mem_of_getElem? hx)
            have lb := (GZ.out.1.below HB.out).bmac hx
            obtain ⟨U, sU, rU, bU, zU⟩ := row_new rtM Vj #[.int .u8 0, .int .u8 0, .int .u8 0, .int .u8 0, .int .u8 0, .int .u8 0] x.bm.cs rfl (Ad.size _) (Ad.one _)
            obtain ⟨vb, hvb_⟩ : ∃ vb, vb = Vj.heap.size := ⟨_, rfl⟩
            have GU : Hid (RvAt U vb 38 x.bm.cs ∧ Below Z.heap.size Z U) := ⟨by rw [hvb_]; exact rU, below_over HB.out bU⟩
            have hvb : Hid (Z.heap.size ≤ vb) := by rw [hvb_]; exact HB.out.size
            clear rU bU zU hx
            go_wp2_with fail
            rw [← hvb_]
            clear hvb_ sU lb
            go_loopw [10] (fun v10 wr => ∃ (kk : Nat) (ad : Ad), j ≤ kk ∧ kk ≤ m5 ∧ v10 = .int .i64 kk ∧ RvAt wr vb 38 ad.cs ∧ Wt acc j kk x.rk ad ∧ Below Z.heap.size Z wr) (fun v10 _ => m5 - (intOf v10).toNat)
            case atStart => exact ⟨j, x.bm, Nat.le_refl _, by omega, rfl, GU.out.1, .inl ⟨rfl, x, Hx.out, rfl, rfl⟩, GU.out.2⟩
            case round =>
              obtain ⟨kk, ad, hjk, hk, rfl, hv9, hWt, hBq⟩ := hrel
              obtain ⟨Vq, rfl⟩ : ∃ Vq, Vq = wr := ⟨_, rfl⟩
              have GQ : Hid (Db Vq p b cF l ∧ RvAt Vq vb 38 ad.cs ∧ Wt acc j kk x.rk ad ∧ Below Z.heap.size Z Vq ∧ SlAt Vq (some ⟨g, og, none⟩) m5 c5 acc) := ⟨GZ.out.2.1.below hBq, hv9, hWt, hBq, GZ.out.1.below hBq⟩
              clear hv9 hWt hBq
              have hk0 : (0 : Int) ≤ (kk : Int) := by omega
              by_cases hkt : kk < m5
              · have hk1 : (kk : Int) < (m5 : Int) := by omega
                obtain ⟨y, hy⟩ : ∃ y, acc[kk]? = some y := ⟨_, List.getElem?_eq_getElem (by have := GZ.out.2.2.2.1; omega)⟩
                have hyw := GZ.out.2.2.2.2.2.1 y (List.mem_of_getElem? hy)
                have f0 : ∀ z : Later Vq, z.val.cell? ⟨g, og + kk * 14, none⟩ = some (.int .i64 y.k.vid) := fun z => (GQ.out.2.2.2.2.below z.below).cell hy (k := 0) (v := .int .i64 y.k.vid) rfl (by omega)
                have f1 : ∀ z : Later Vq, z.val.cell? ⟨g, og + j * 14, none⟩ = some (.int .i64 x.k.vid) := fun z => (GQ.out.2.2.2.2.below z.below).cell Hx.out (k := 0) (v := .int .i64 x.k.vid) rfl (by omega)
                have m0 := fun z : Later Vq => (GQ.out.2.2.2.2.below z.below).mac hy
                have m1 := fun z : Later Vq => (GQ.out.2.2.2.2.below z.below).mac Hx.out
                have hbq := beq_rk hyw.k hxw.out.k
                have Hy : Hid (acc[kk]? = some y) := hy
                clear hy hyw
                by_cases hv : y.k.vid = x.k.vid
                · cases he : eq6 y.k.a y.k.b y.k.c y.k.d y.k.e y.k.f x.k.a x.k.b x.k.c x.k.d x.k.e x.k.f
                  · have hWt2 : Hid (Wt acc j (kk + 1) x.rk ad) := GQ.out.2.2.1.miss Hy.out (fun h => by have := (hbq.2 h).2; rw [he] at this; cases this)
                    clear hbq
                    go_wp2_with fail
                    refine wp_region_later (by kernel_rfl) (by kernel_rfl) ?_
                    repeat (go_big_quiet_step (first | exact rfl))
                    refine wpQuiet_nil ?_
                    intro _ hw'
                    obtain ⟨z, rfl⟩ := hw'
                    clear f0 f1 m0 m1
                    go_wp2
                    go_roundw
                    case rel => exact ⟨kk + 1, ad, by omega, by omega, by go_num, GQ.out.2.1.below z.below, hWt2.out, below_over GQ.out.2.2.2.1 z.below⟩
                    case measure => simp [intOf]; omega
                  · have hWt2 : Hid (Wt acc j (kk + 1) x.rk y.bm) := GQ.out.2.2.1.hit Hy.out (hbq.1 ⟨hv, he⟩)
                    clear hbq
                    go_wp2_with fail
                    refine wp_region_later (by kernel_rfl) (by kernel_rfl) ?_
                    repeat (go_big_quiet_step (first | exact rfl))
                    refine wpQuiet_nil ?_
                    intro _ hw'
                    obtain ⟨z, rfl⟩ := hw'
                    clear f0 f1 m0 m1
                    have ly := (GQ.out.2.2.2.2.below z.below).bmac Hy.out
                    obtain ⟨T, sT, rT, gT, zT⟩ := (GQ.out.2.1.below z.below).put rtM (Ad.size _) (Ad.size y.bm) (Ad.one _)
                    have bz := below_over GQ.out.2.2.2.1 z.below
                    have hvl := hvb.out
                    have GT : Hid (RvAt T vb 38 y.bm.cs ∧ Below Z.heap.size Z T) := ⟨rT, bz.trans (below_of_grown gT bz.size (fun j e => by cases e; exact hvl))⟩
                    clear rT gT zT bz hvl
                    go_wp2
                    go_roundw
                    case rel => exact ⟨kk + 1, y.bm, by omega, by omega, by go_num, GT.out.1, hWt2.out, GT.out.2⟩
                    case measure => simp [intOf]; omega
                · have hWt2 : Hid (Wt acc j (kk + 1) x.rk ad) := GQ.out.2.2.1.miss Hy.out (fun h => hv (hbq.2 h).1)
                  have hv' : (y.k.vid == x.k.vid) = false := by simpa using hv
                  clear hbq
                  go_wp2_with fail
                  refine wp_region_later (by kernel_rfl) (by kernel_rfl) ?_
                  repeat (go_big_quiet_step (first | exact rfl))
                  refine wpQuiet_nil ?_
                  intro _ hw'
                  obtain ⟨z, rfl⟩ := hw'
                  clear f0 f1 m0 m1
                  go_wp2
                  go_roundw
                  case rel => exact ⟨kk + 1, ad, by omega, by omega, by go_num, GQ.out.2.1.below z.below, hWt2.out, below_over GQ.out.2.2.2.1 z.below⟩
                  case measure => simp [intOf]; omega
              · have hkm : kk = m5 := by omega
                subst hkm
                have hk1 : ¬ (kk : Int) < (kk : Int) := by omega
                have hfo : Hid (plA l x.k.rk = ad ∧ (look l x.k.rk).isSome = true) := by
                  refine GZ.out.2.2.1.found ?_
                  rcases GQ.out.2.2.1 with ⟨h, _⟩ | ⟨_, h⟩
                  · omega
                  · rw [List.take_of_length_le (by have := GZ.out.2.2.2.1; omega)] at h
                    exact h
                have f1 : ∀ z : Later Vq, z.val.cell? ⟨g, og + j * 14, none⟩ = some (.int .i64 x.k.vid) := fun z => (GQ.out.2.2.2.2.below z.below).cell Hx.out (k := 0) (v := .int .i64 x.k.vid) rfl (by omega)
                have m1 := fun z : Later Vq => (GQ.out.2.2.2.2.below z.below).mac Hx.out
                go_upto_region 20 with fail
                go_cut [11, 12] from 113 to 127 (fun vn vm wx => ∃ nb, vn = .pointer (some ⟨nb, 0, none⟩) ∧ vm = .bool true ∧ RvAt wx nb 38 ad.cs ∧ Below Vq.heap.size Vq wx)
                case first =>
                  obtain ⟨X0, hX0⟩ : ∃ X0, Vq.drew = X0 := ⟨_, rfl⟩
                  have B0 : Hid (Below Vq.heap.size Vq X0) := by rw [← hX0]; exact (Below.refl _ _).drew
                  refine wp_region_noPanic ?_
                  refine wp_region_held_drew (S := fun w' => ∃ x : Later Vq, w' = x.val) (by kernel_rfl) ⟨⟨_, (Below.refl _ _).drew⟩, rfl⟩ (fun hHeld => ?_)
                  rw [hX0] at hHeld ⊢
                  clear hX0
                  refine wpAnyH_take (i := 0) (oi := { dst := some 114, op := Op.move (Operand.tmp 3), type := 23, pos := "law.go:162", after := #[], guard := none }) (v := ?_) rfl (by kernel_rfl) (by kernel_rfl) (by kernel_rfl) (fun _ _ _ h => h) (Or.inl ⟨by rfl, ?_⟩) hHeld ?_
                  rotate_left
                  · intro W_ hSw_
                    obtain ⟨q, rfl⟩ := hSw_
                    first | (go_simp; done) | (go_simp; with_reducible rfl)
                  rotate_left
                  try simp only [Act.put, List.setIfInBounds_toArray, List.set_cons_zero, List.set_cons_succ]
                  refine wpAnyH_take (i := 1) (oi := { dst := some 115, op := Op.move (Operand.tmp 5), type := 27, pos := "law.go:162", after := #[], guard := none }) (v := ?_) rfl (by kernel_rfl) (by kernel_rfl) (by kernel_rfl) (fun _ _ _ h => h) (Or.inl ⟨by rfl, ?_⟩) hHeld ?_
                  rotate_left
                  · intro W_ hSw_
                    obtain ⟨q, rfl⟩ := hSw_
                    first | (go_simp; done) | (go_simp; with_reducible rfl)
                  rotate_left
                  try simp only [Act.put, List.setIfInBounds_toArray, List.set_cons_zero, List.set_cons_succ]
                  refine wpAnyH_take (i := 2) (oi := { dst := some 116, op := Op.move (Operand.tmp 8), type := 3, pos := "law.go:162", after := #[], guard := none }) (v := ?_) rfl (by kernel_rfl) (by kernel_rfl) (by kernel_rfl) (fun _ _ _ h => h) (Or.inl ⟨by rfl, ?_⟩) hHeld ?_
                  rotate_left
                  · intro W_ hSw_
                    obtain ⟨q, rfl⟩ := hSw_
                    first | (go_simp; done) | (go_simp; with_reducible rfl)
                  rotate_left
                  try simp only [Act.put, List.setIfInBounds_toArray, List.set_cons_zero, List.set_cons_succ]
                  refine wpAnyH_take (i := 3) (oi := { dst := some 117, op := Op.indexAddr 27 (Operand.tmp 115) (Operand.tmp 116), type := 0, pos := "law.go:162", after := #[{ on := 1, ground := Ground.data }, { on := 2, ground := Ground.data }], guard := none }) (v := ?_) rfl (by kernel_rfl) (by kernel_rfl) (by kernel_rfl) (fun _ _ _ h => h) (Or.inl ⟨by rfl, ?_⟩) hHeld ?_
                  rotate_left
                  · intro W_ hSw_
                    obtain ⟨q, rfl⟩ := hSw_
                    first | (go_simp; done) | (go_simp; with_reducible rfl)
                  rotate_left
                  try simp only [Act.put, List.setIfInBounds_toArray, List.set_cons_zero, List.set_cons_succ]
                  refine wpAnyH_take (i := 4) (oi := { dst := some 118, op := Op.fieldAddr 51 (Operand.tmp 117) 0, type := 0, pos := "law.go:162", after := #[{ on := 3, ground := Ground.data }], guard := none }) (v := ?_) rfl (by kernel_rfl) (by kernel_rfl) (by kernel_rfl) (fun _ _ _ h => h) (Or.inl ⟨by rfl, ?_⟩) hHeld ?_
                  rotate_left
                  · intro W_ hSw_
                    obtain ⟨q, rfl⟩ := hSw_
                    first | (go_simp; done) | (go_simp; with_reducible rfl)
                  rotate_left
                  try simp only [Act.put, List.setIfInBounds_toArray, List.set_cons_zero, List.set_cons_succ]
                  refine wpAnyH_take (i := 5) (oi := { dst := some 119, op := Op.load 3 (Operand.tmp 118), type := 3, pos := "law.go:162", after := #[{ on := 4, ground := Ground.data }], guard := none }) (v := ?_) rfl (by kernel_rfl) (by kernel_rfl) (by kernel_rfl) (fun _ _ _ h => h) (Or.inl ⟨by rfl, ?_⟩) hHeld ?_
                  rotate_left
                  · intro W_ hSw_
                    obtain ⟨q, rfl⟩ := hSw_
                    first | (go_simp; done) | (go_simp; with_reducible rfl)
                  rotate_left
                  try simp only [Act.put, List.setIfInBounds_toArray, List.set_cons_zero, List.set_cons_succ]
                  refine wpAnyH_take (i := 6) (oi := { dst := some 120, op := Op.move (Operand.tmp 5), type := 27, pos := "law.go:162", after := #[], guard := none }) (v := ?_) rfl (by kernel_rfl) (by kernel_rfl) (by kernel_rfl) (fun _ _ _ h => h) (Or.inl ⟨by rfl, ?_⟩) hHeld ?_
                  rotate_left
                  · intro W_ hSw_
                    obtain ⟨q, rfl⟩ := hSw_
                    first | (go_simp; done) | (go_simp; with_reducible rfl)
                  rotate_left
                  try simp only [Act.put, List.setIfInBounds_toArray, List.set_cons_zero, List.set_cons_succ]
                  refine wpAnyH_take (i := 7) (oi := { dst := some 121, op := Op.move (Operand.tmp 8), type := 3, pos := "law.go:162", after := #[], guard := none }) (v := ?_) rfl (by kernel_rfl) (by kernel_rfl) (by kernel_rfl) (fun _ _ _ h => h) (Or.inl ⟨by rfl, ?_⟩) hHeld ?_
                  rotate_left
                  · intro W_ hSw_
                    obtain ⟨q, rfl⟩ := hSw_
                    first | (go_simp; done) | (go_simp; with_reducible rfl)
                  rotate_left
                  try simp only [Act.put, List.setIfInBounds_toArray, List.set_cons_zero, List.set_cons_succ]
                  refine wpAnyH_take (i := 8) (oi := { dst := some 122, op := Op.indexAddr 27 (Operand.tmp 120) (Operand.tmp 121), type := 0, pos := "law.go:162", after := #[{ on := 6, ground := Ground.data }, { on := 7, ground := Ground.data }], guard := none }) (v := ?_) rfl (by kernel_rfl) (by kernel_rfl) (by kernel_rfl) (fun _ _ _ h => h) (Or.inl ⟨by rfl, ?_⟩) hHeld ?_
                  rotate_left
                  · intro W_ hSw_
                    obtain ⟨q, rfl⟩ := hSw_
                    first | (go_simp; done) | (go_simp; with_reducible rfl)
                  rotate_left
                  try simp only [Act.put, List.setIfInBounds_toArray, List.set_cons_zero, List.set_cons_succ]
                  refine wpAnyH_take (i := 9) (oi := { dst := some 123, op := Op.fieldAddr 51 (Operand.tmp 122) 1, type := 0, pos := "law.go:162", after := #[{ on := 8, ground := Ground.data }], guard := none }) (v := ?_) rfl (by kernel_rfl) (by kernel_rfl) (by kernel_rfl) (fun _ _ _ h => h) (Or.inl ⟨by rfl, ?_⟩) hHeld ?_
                  rotate_left
                  · intro W_ hSw_
                    obtain ⟨q, rfl⟩ := hSw_
                    first | (go_simp; done) | (go_simp; with_reducible rfl)
                  rotate_left
                  try simp only [Act.put, List.setIfInBounds_toArray, List.set_cons_zero, List.set_cons_succ]
                  refine wpAnyH_take (i := 10) (oi := { dst := some 124, op := Op.load 38 (Operand.tmp 123), type := 38, pos := "law.go:162", after := #[{ on := 9, ground := Ground.data }], guard := none }) (v := ?_) rfl (by kernel_rfl) (by kernel_rfl) (by kernel_rfl) (fun _ _ _ h => h) (Or.inl ⟨by rfl, ?_⟩) hHeld ?_
                  rotate_left
                  · intro W_ hSw_
                    obtain ⟨q, rfl⟩ := hSw_
                    first | (go_simp; done) | (go_simp; with_reducible rfl)
                  rotate_left
                  try simp only [Act.put, List.setIfInBounds_toArray, List.set_cons_zero, List.set_cons_succ]
                  refine wpAnyH_ready (rs := [11, 15]) (by kernel_rfl) (by simp) ?_
                  refine AllReadyH.cons (o := { dst := some 125, op := Op.call { callee := Callee.value (Operand.func 16), args := #[Operand.tmp 114, Operand.tmp 119, Operand.tmp 124], argTypes := #[23, 3, 38] }, type := 47, pos := "law.go:162", after := #[{ on := 0, ground := Ground.data }, { on := 5, ground := Ground.data }, { on := 10, ground := Ground.data }], guard := none }) rfl (fun K hK => ?_) (AllReadyH.cons (o := { dst := some 11, op := Op.alloc 38, type := 0, pos := "law.go:162", after := #[], guard := none }) rfl (fun K hK => ?_) AllReadyH.nil)
                  · skip
                    go_simp
                    refine (find_any p b cF l x.k _ (GQ.out.1.below B0.out) hxw.out.k).mono ?_
                    rintro _ X1 ⟨rfl, bb⟩
                    rw [hfo.out.1, hfo.out.2]
                    have B1 : Hid (Below Vq.heap.size Vq X1) := below_over B0.out bb
                    clear bb
                    clear hHeld
                    refine hK.out _ _ ⟨⟨_, B1.out⟩, rfl⟩ (fun hHeld => ?_)
                    clear hK K
                    try simp only [Act.put, List.setIfInBounds_toArray, List.set_cons_zero, List.set_cons_succ]
                    refine wpAnyH_take (i := 12) (oi := { dst := some 113, op := Op.move (Operand.tmp 125), type := 47, pos := "law.go:162", after := #[{ on := 11, ground := Ground.data }], guard := none }) (v := ?_) rfl (by kernel_rfl) (by kernel_rfl) (by kernel_rfl) (fun _ _ _ h => h) (Or.inl ⟨by rfl, ?_⟩) hHeld ?_
                    rotate_left
                    · intro W_ hSw_
                      obtain ⟨q, rfl⟩ := hSw_
                      first | (go_simp; done) | (go_simp; with_reducible rfl)
                    rotate_left
                    try simp only [Act.put, List.setIfInBounds_toArray, List.set_cons_zero, List.set_cons_succ]
                    refine wpAnyH_take (i := 13) (oi := { dst := some 126, op := Op.extract (Operand.tmp 113) 0, type := 38, pos := "law.go:162", after := #[{ on := 12, ground := Ground.data }], guard := none }) (v := ?_) rfl (by kernel_rfl) (by kernel_rfl) (by kernel_rfl) (fun _ _ _ h => h) (Or.inl ⟨by rfl, ?_⟩) hHeld ?_
                    rotate_left
                    · intro W_ hSw_
                      obtain ⟨q, rfl⟩ := hSw_
                      first | (go_simp; done) | (go_simp; with_reducible rfl)
                    rotate_left
                    try simp only [Act.put, List.setIfInBounds_toArray, List.set_cons_zero, List.set_cons_succ]
                    refine wpAnyH_take (i := 14) (oi := { dst := some 127, op := Op.extract (Operand.tmp 113) 1, type := 4, pos := "law.go:162", after := #[{ on := 12, ground := Ground.data }, { on := 16, ground := Ground.gcOnly Departure.lateStores }], guard := none }) (v := ?_) rfl (by kernel_rfl) (by kernel_rfl) (by kernel_rfl) (fun _ _ _ h => h) (Or.inl ⟨by rfl, ?_⟩) hHeld ?_
                    rotate_left
                    · intro W_ hSw_
                      obtain ⟨q, rfl⟩ := hSw_
                      first | (go_simp; done) | (go_simp; with_reducible rfl)
                    rotate_left
                    try simp only [Act.put, List.setIfInBounds_toArray, List.set_cons_zero, List.set_cons_succ]
                    refine wpAnyH_ready (rs := [15]) (by kernel_rfl) (by simp) ?_
                    refine AllReadyH.cons (o := { dst := some 11, op := Op.alloc 38, type := 0, pos := "law.go:162", after := #[], guard := none }) rfl (fun K hK => ?_) AllReadyH.nil
                    obtain ⟨X2, hX2⟩ : ∃ X2, X1.alloc (.cells #[.int .u8 0, .int .u8 0, .int .u8 0, .int .u8 0, .int .u8 0, .int .u8 0] 38) = X2 := ⟨_, rfl⟩
                    have N2 : Hid (RvAt X2 X1.heap.size 38 #[.int .u8 0, .int .u8 0, .int .u8 0, .int .u8 0, .int .u8 0, .int .u8 0] ∧ Vq.heap.size ≤ X1.heap.size ∧ Below Vq.heap.size Vq X2) := by rw [← hX2]; exact ⟨RvAt.new _ _ _, (B1.out).size, (B1.out).alloc (B1.out).size _⟩
                    go_simp
                    clear hHeld
                    refine hK.out _ _ ⟨⟨_, N2.out.2.2⟩, rfl⟩ (fun hHeld => ?_)
                    clear hK K
                    try simp only [Act.put, List.setIfInBounds_toArray, List.set_cons_zero, List.set_cons_succ]
                    clear hX2
                    refine wpAnyH_ready (rs := [16]) (by kernel_rfl) (by simp) ?_
                    refine AllReadyH.cons (o := { dst := none, op := Op.store 38 (Operand.tmp 11) (Operand.tmp 126), type := 0, pos := "law.go:162", after := #[{ on := 15, ground := Ground.data }, { on := 13, ground := Ground.data }, { on := 11, ground := Ground.chain }, { on := 0, ground := Ground.phase }, { on := 1, ground := Ground.phase }, { on := 2, ground := Ground.phase }, { on := 3, ground := Ground.phase }, { on := 4, ground := Ground.phase }, { on := 5, ground := Ground.phase }, { on := 6, ground := Ground.phase }, { on := 7, ground := Ground.phase }, { on := 8, ground := Ground.phase }, { on := 9, ground := Ground.phase }, { on := 10, ground := Ground.phase }, { on := 11, ground := Ground.phase }, { on := 12, ground := Ground.phase }, { on := 13, ground := Ground.phase }, { on := 14, ground := Ground.textOnly Departure.lateStores }, { on := 15, ground := Ground.phase }], guard := none }) rfl (fun K hK => ?_) AllReadyH.nil
                    obtain ⟨X3, s3, r3, g3, z3⟩ := N2.out.1.put rtM rfl (Ad.size ad) (Ad.one _)
                    have E3 : Hid (RvAt X3 X1.heap.size 38 ad.cs ∧ Below Vq.heap.size Vq X3) := ⟨r3, N2.out.2.2.trans (below_of_grown g3 N2.out.2.2.size (fun j e => by cases e; exact N2.out.2.1))⟩
                    clear r3 g3 z3
                    go_simp
                    clear hHeld
                    refine hK.out _ _ ⟨⟨_, E3.out.2⟩, rfl⟩ (fun hHeld => ?_)
                    clear hK K
                    try simp only [Act.put, List.setIfInBounds_toArray, List.set_cons_zero, List.set_cons_succ]
                    clear s3
                    refine wpAnyH_ready (rs := [17]) (by kernel_rfl) (by simp) ?_
                    refine AllReadyH.cons (o := { dst := some 12, op := Op.assign (Operand.tmp 127), type := 4, pos := "law.go:162", after := #[{ on := 14, ground := Ground.data }, { on := 16, ground := Ground.chain }, { on := 0, ground := Ground.phase }, { on := 1, ground := Ground.phase }, { on := 2, ground := Ground.phase }, { on := 3, ground := Ground.phase }, { on := 4, ground := Ground.phase }, { on := 5, ground := Ground.phase }, { on := 6, ground := Ground.phase }, { on := 7, ground := Ground.phase }, { on := 8, ground := Ground.phase }, { on := 9, ground := Ground.phase }, { on := 10, ground := Ground.phase }, { on := 11, ground := Ground.phase }, { on := 12, ground := Ground.phase }, { on := 13, ground := Ground.phase }, { on := 14, ground := Ground.phase }, { on := 15, ground := Ground.phase }, { on := 16, ground := Ground.phase }], guard := none }) rfl (fun K hK => ?_) AllReadyH.nil
                    go_simp
                    clear hHeld
                    refine hK.out _ _ ⟨⟨_, E3.out.2⟩, rfl⟩ (fun hHeld => ?_)
                    clear hK K
                    try simp only [Act.put, List.setIfInBounds_toArray, List.set_cons_zero, List.set_cons_succ]
                    refine wpAnyH_done (by kernel_rfl) ?_ _
                    refine NoPanic.normal ?_
                    clear hHeld
                    go_wp2_with fail
                    go_meet
                    exact ⟨_, rfl, rfl, E3.out.1, E3.out.2⟩
                  · skip
                    obtain ⟨X1, hX1⟩ : ∃ X1, X0.alloc (.cells #[.int .u8 0, .int .u8 0, .int .u8 0, .int .u8 0, .int .u8 0, .int .u8 0] 38) = X1 := ⟨_, rfl⟩
                    have N1 : Hid (RvAt X1 X0.heap.size 38 #[.int .u8 0, .int .u8 0, .int .u8 0, .int .u8 0, .int .u8 0, .int .u8 0] ∧ Vq.heap.size ≤ X0.heap.size ∧ Below Vq.heap.size Vq X1) := by rw [← hX1]; exact ⟨RvAt.new _ _ _, (B0.out).size, (B0.out).alloc (B0.out).size _⟩
                    go_simp
                    clear hHeld
                    refine hK.out _ _ ⟨⟨_, N1.out.2.2⟩, rfl⟩ (fun hHeld => ?_)
                    clear hK K
                    try simp only [Act.put, List.setIfInBounds_toArray, List.set_cons_zero, List.set_cons_succ]
                    clear hX1
                    refine wpAnyH_ready (rs := [11]) (by kernel_rfl) (by simp) ?_
                    refine AllReadyH.cons (o := { dst := some 125, op := Op.call { callee := Callee.value (Operand.func 16), args := #[Operand.tmp 114, Operand.tmp 119, Operand.tmp 124], argTypes := #[23, 3, 38] }, type := 47, pos := "law.go:162", after := #[{ on := 0, ground := Ground.data }, { on := 5, ground := Ground.data }, { on := 10, ground := Ground.data }], guard := none }) rfl (fun K hK => ?_) AllReadyH.nil
                    go_simp
                    refine (find_any p b cF l x.k _ (GQ.out.1.below N1.out.2.2) hxw.out.k).mono ?_
                    rintro _ X2 ⟨rfl, bb⟩
                    rw [hfo.out.1, hfo.out.2]
                    have N2 : Hid (RvAt X2 X0.heap.size 38 #[.int .u8 0, .int .u8 0, .int .u8 0, .int .u8 0, .int .u8 0, .int .u8 0] ∧ Vq.heap.size ≤ X0.heap.size ∧ Below Vq.heap.size Vq X2) := ⟨N1.out.1.below bb, N1.out.2.1, below_over N1.out.2.2 bb⟩
                    clear bb
                    clear hHeld
                    refine hK.out _ _ ⟨⟨_, N2.out.2.2⟩, rfl⟩ (fun hHeld => ?_)
                    clear hK K
                    try simp only [Act.put, List.setIfInBounds_toArray, List.set_cons_zero, List.set_cons_succ]
                    refine wpAnyH_take (i := 12) (oi := { dst := some 113, op := Op.move (Operand.tmp 125), type := 47, pos := "law.go:162", after := #[{ on := 11, ground := Ground.data }], guard := none }) (v := ?_) rfl (by kernel_rfl) (by kernel_rfl) (by kernel_rfl) (fun _ _ _ h => h) (Or.inl ⟨by rfl, ?_⟩) hHeld ?_
                    rotate_left
                    · intro W_ hSw_
                      obtain ⟨q, rfl⟩ := hSw_
                      first | (go_simp; done) | (go_simp; with_reducible rfl)
                    rotate_left
                    try simp only [Act.put, List.setIfInBounds_toArray, List.set_cons_zero, List.set_cons_succ]
                    refine wpAnyH_take (i := 13) (oi := { dst := some 126, op := Op.extract (Operand.tmp 113) 0, type := 38, pos := "law.go:162", after := #[{ on := 12, ground := Ground.data }], guard := none }) (v := ?_) rfl (by kernel_rfl) (by kernel_rfl) (by kernel_rfl) (fun _ _ _ h => h) (Or.inl ⟨by rfl, ?_⟩) hHeld ?_
                    rotate_left
                    · intro W_ hSw_
                      obtain ⟨q, rfl⟩ := hSw_
                      first | (go_simp; done) | (go_simp; with_reducible rfl)
                    rotate_left
                    try simp only [Act.put, List.setIfInBounds_toArray, List.set_cons_zero, List.set_cons_succ]
                    refine wpAnyH_take (i := 14) (oi := { dst := some 127, op := Op.extract (Operand.tmp 113) 1, type := 4, pos := "law.go:162", after := #[{ on := 12, ground := Ground.data }, { on := 16, ground := Ground.gcOnly Departure.lateStores }], guard := none }) (v := ?_) rfl (by kernel_rfl) (by kernel_rfl) (by kernel_rfl) (fun _ _ _ h => h) (Or.inl ⟨by rfl, ?_⟩) hHeld ?_
                    rotate_left
                    · intro W_ hSw_
                      obtain ⟨q, rfl⟩ := hSw_
                      first | (go_simp; done) | (go_simp; with_reducible rfl)
                    rotate_left
                    try simp only [Act.put, List.setIfInBounds_toArray, List.set_cons_zero, List.set_cons_succ]
                    refine wpAnyH_ready (rs := [16]) (by kernel_rfl) (by simp) ?_
                    refine AllReadyH.cons (o := { dst := none, op := Op.store 38 (Operand.tmp 11) (Operand.tmp 126), type := 0, pos := "law.go:162", after := #[{ on := 15, ground := Ground.data }, { on := 13, ground := Ground.data }, { on := 11, ground := Ground.chain }, { on := 0, ground := Ground.phase }, { on := 1, ground := Ground.phase }, { on := 2, ground := Ground.phase }, { on := 3, ground := Ground.phase }, { on := 4, ground := Ground.phase }, { on := 5, ground := Ground.phase }, { on := 6, ground := Ground.phase }, { on := 7, ground := Ground.phase }, { on := 8, ground := Ground.phase }, { on := 9, ground := Ground.phase }, { on := 10, ground := Ground.phase }, { on := 11, ground := Ground.phase }, { on := 12, ground := Ground.phase }, { on := 13, ground := Ground.phase }, { on := 14, ground := Ground.textOnly Departure.lateStores }, { on := 15, ground := Ground.phase }], guard := none }) rfl (fun K hK => ?_) AllReadyH.nil
                    obtain ⟨X3, s3, r3, g3, z3⟩ := N2.out.1.put rtM rfl (Ad.size ad) (Ad.one _)
                    have E3 : Hid (RvAt X3 X0.heap.size 38 ad.cs ∧ Below Vq.heap.size Vq X3) := ⟨r3, N2.out.2.2.trans (below_of_grown g3 N2.out.2.2.size (fun j e => by cases e; exact N2.out.2.1))⟩
                    clear r3 g3 z3
                    go_simp
                    clear hHeld
                    refine hK.out _ _ ⟨⟨_, E3.out.2⟩, rfl⟩ (fun hHeld => ?_)
                    clear hK K
                    try simp only [Act.put, List.setIfInBounds_toArray, List.set_cons_zero, List.set_cons_succ]
                    clear s3
                    refine wpAnyH_ready (rs := [17]) (by kernel_rfl) (by simp) ?_
                    refine AllReadyH.cons (o := { dst := some 12, op := Op.assign (Operand.tmp 127), type := 4, pos := "law.go:162", after := #[{ on := 14, ground := Ground.data }, { on := 16, ground := Ground.chain }, { on := 0, ground := Ground.phase }, { on := 1, ground := Ground.phase }, { on := 2, ground := Ground.phase }, { on := 3, ground := Ground.phase }, { on := 4, ground := Ground.phase }, { on := 5, ground := Ground.phase }, { on := 6, ground := Ground.phase }, { on := 7, ground := Ground.phase }, { on := 8, ground := Ground.phase }, { on := 9, ground := Ground.phase }, { on := 10, ground := Ground.phase }, { on := 11, ground := Ground.phase }, { on := 12, ground := Ground.phase }, { on := 13, ground := Ground.phase }, { on := 14, ground := Ground.phase }, { on := 15, ground := Ground.phase }, { on := 16, ground := Ground.phase }], guard := none }) rfl (fun K hK => ?_) AllReadyH.nil
                    go_simp
                    clear hHeld
                    refine hK.out _ _ ⟨⟨_, E3.out.2⟩, rfl⟩ (fun hHeld => ?_)
                    clear hK K
                    try simp only [Act.put, List.setIfInBounds_toArray, List.set_cons_zero, List.set_cons_succ]
                    refine wpAnyH_done (by kernel_rfl) ?_ _
                    refine NoPanic.normal ?_
                    clear hHeld
                    go_wp2_with fail
                    go_meet
                    exact ⟨_, rfl, rfl, E3.out.1, E3.out.2⟩
                case rest =>
                  obtain ⟨nb, rfl, rfl, e1, e2⟩ := hcut
                  obtain ⟨V3, hV3⟩ : ∃ V3, wc = V3 := ⟨_, rfl⟩
                  rw [hV3] at e1 e2 ⊢
                  clear hV3
                  have l1 := e1.ld rtM (Ad.size _)
                  have l2 := (GQ.out.2.1.below e2).ld rtM (Ad.size _)
                  have ne := neqA ad ad
                  simp only [decide_true, Bool.not_true] at ne
                  have B3 : Hid (Below Z.heap.size Z V3) := below_over GQ.out.2.2.2.1 e2
                  clear e1 e2 f1 m1
                  go_wp2
                  go_roundw
                  case rel => exact ⟨j + 1, by omega, by go_num, B3.out⟩
                  case measure => simp [intOf]; omega
          · have hjm : j = m5 := by omega
            subst hjm
            have hj1 : ¬ (j : Int) < (j : Int) := by omega
            go_wp2_with fail
            refine (all_any p b cF l _ (GZ.out.2.1.below HB.out)).mono ?_
            rintro _ Z2 ⟨v, rfl, ow, bb⟩
            obtain ⟨aa, ca, hv, sa, _⟩ := ow.form
            subst hv
            have GA0 : Hid (SlAt Z2 aa l.length ca l ∧ SlAt Z2 a5 j c5 acc ∧ Below w.heap.size w Z2 ∧ l.length ≤ 256) := ⟨sa, (GZ.out.1.below HB.out).below bb, below_over (below_over GZ.out.2.2.2.2.2.2 HB.out) bb, by have := GZ.out.2.1.len; have : cF.room = 256 := rfl; omega⟩
            obtain ⟨la, hla⟩ : ∃ la, l.length = la := ⟨_, rfl⟩
            rw [hla] at GA0 ⊢
            have hla2 : (la : Int) ≤ 256 := by have := GA0.out.2.2.2; omega
            clear sa bb ow
            obtain ⟨m5, rfl⟩ : ∃ m5, m5 = j := ⟨_, rfl⟩
            go_wp2_with fail
            go_loopw [14] (fun v14 wr => ∃ j : Nat, j ≤ la ∧ v14 = .int .i64 j ∧ Below Z2.heap.size Z2 wr) (fun v14 _ => la - (intOf v14).toNat)
            case atStart => exact ⟨0, by omega, rfl, Below.refl _ _⟩
            case round =>
              obtain ⟨j, hj, rfl, hB⟩ := hrel
              obtain ⟨Vj2, rfl⟩ : ∃ Vj, Vj = wr := ⟨_, rfl⟩
              have HB2 : Hid (Below Z2.heap.size Z2 Vj2) := hB
              have hj0 : (0 : Int) ≤ (j : Int) := by omega
              clear hB
              by_cases hjt : j < la
              · have hj1 : (j : Int) < (la : Int) := by omega
                obtain ⟨ga, oa, rfl⟩ := GA0.out.1.some' (by omega)
                obtain ⟨x, hx⟩ : ∃ x, l[j]? = some x := ⟨_, List.getElem?_eq_getElem (by omega)⟩
                have Hx : Hid (l[j]? = some x) := hx
                have hxw : Hid (x.wf) := GZ.out.2.1.map.2.1 x (List.mem_of_getElem? hx)
                have GA := GA0
                clear hx
                go_wp2_with fail
                go_loopw [15, 16] (fun v15 v16 wr => ∃ kk : Nat, kk ≤ m5 ∧ v16 = .int .i64 kk ∧ v15 = .bool (hasK (acc.take kk) x.rk) ∧ Below Z2.heap.size Z2 wr) (fun _ v16 _ => m5 - (intOf v16).toNat)
                case atStart => exact ⟨0, by omega, rfl, by simp [hasK], HB2.out⟩
                case round =>
                  obtain ⟨kk, hk, rfl, rfl, hBq⟩ := hrel
                  obtain ⟨Vq, rfl⟩ : ∃ Vq, Vq = wr := ⟨_, rfl⟩
                  have GQ : Hid (Below Z2.heap.size Z2 Vq) := hBq
                  clear hBq
                  have hk0 : (0 : Int) ≤ (kk : Int) := by omega
                  by_cases hkt : kk < m5
                  · have hk1 : (kk : Int) < (m5 : Int) := by omega
                    obtain ⟨g, og, ha5⟩ := GA.out.2.1.some' (by omega)
                    have SA := GA.out.2.1
                    rw [ha5] at SA
                    obtain ⟨y, hy⟩ : ∃ y, acc[kk]? = some y := ⟨_, List.getElem?_eq_getElem (by have := GZ.out.2.2.2.1; omega)⟩
                    have hyw := GZ.out.2.2.2.2.2.1 y (List.mem_of_getElem? hy)
                    have f0 : ∀ z : Later Vq, z.val.cell? ⟨g, og + kk * 14, none⟩ = some (.int .i64 y.k.vid) := fun z => ((SA.below GQ.out).below z.below).cell hy (k := 0) (v := .int .i64 y.k.vid) rfl (by omega)
                    have f1 : ∀ z : Later Vq, z.val.cell? ⟨ga, oa + j * 14, none⟩ = some (.int .i64 x.k.vid) := fun z => ((GA.out.1.below GQ.out).below z.below).cell Hx.out (k := 0) (v := .int .i64 x.k.vid) rfl (by omega)
                    have m0 := fun z : Later Vq => ((SA.below GQ.out).below z.below).mac hy
                    have m1 := fun z : Later Vq => ((GA.out.1.below GQ.out).below z.below).mac Hx.out
                    have hbq := beq_rk hyw.k hxw.out.k
                    have htk : Hid (hasK (acc.take (kk + 1)) x.rk = (hasK (acc.take kk) x.rk || decide (y.rk = x.rk))) := by
                      show _ = _
                      rw [List.take_add_one, hy]
                      exact hasK_snoc _ _ _
                    subst ha5
                    clear hy hyw SA
                    cases hh : hasK (acc.take kk) x.rk
                    · rw [hh, Bool.false_or] at htk
                      clear hh
                      by_cases hv : y.k.vid = x.k.vid
                      · cases he : eq6 y.k.a y.k.b y.k.c y.k.d y.k.e y.k.f x.k.a x.k.b x.k.c x.k.d x.k.e x.k.f
                        · have ht2 : Hid (hasK (acc.take (kk + 1)) x.rk = false) := by
                            show _ = _
                            rw [htk.out, decide_eq_false (fun h => by have := (hbq.2 h).2; rw [he] at this; cases this)]
                          clear hbq htk
                          go_wp2_with fail
                          refine wp_region_later (by kernel_rfl) (by kernel_rfl) ?_
                          repeat (go_big_quiet_step (first | exact rfl))
                          refine wpQuiet_nil ?_
                          intro _ hw'
                          obtain ⟨z, rfl⟩ := hw'
                          clear f0 f1 m0 m1
                          go_wp2
                          go_roundw
                          case rel => exact ⟨kk + 1, by omega, by go_num, by rw [ht2.out], below_over GQ.out z.below⟩
                          case measure => simp [intOf]; omega
                        · have ht2 : Hid (hasK (acc.take (kk + 1)) x.rk = true) := by
                            show _ = _
                            rw [htk.out, decide_eq_true (show y.rk = x.rk from hbq.1 ⟨hv, he⟩)]
                          clear hbq htk
                          go_wp2_with fail
                          refine wp_region_later (by kernel_rfl) (by kernel_rfl) ?_
                          repeat (go_big_quiet_step (first | exact rfl))
                          refine wpQuiet_nil ?_
                          intro _ hw'
                          obtain ⟨z, rfl⟩ := hw'
                          clear f0 f1 m0 m1
                          go_wp2
                          go_roundw
                          case rel => exact ⟨kk + 1, by omega, by go_num, by rw [ht2.out], below_over GQ.out z.below⟩
                          case measure => simp [intOf]; omega
                      · have hv' : (y.k.vid == x.k.vid) = false := by simpa using hv
                        have ht2 : Hid (hasK (acc.take (kk + 1)) x.rk = false) := by
                          show _ = _
                          rw [htk.out, decide_eq_false (show ¬ y.rk = x.rk from fun h => hv (hbq.2 h).1)]
                        clear hbq htk
                        go_wp2_with fail
                        refine wp_region_later (by kernel_rfl) (by kernel_rfl) ?_
                        repeat (go_big_quiet_step (first | exact rfl))
                        refine wpQuiet_nil ?_
                        intro _ hw'
                        obtain ⟨z, rfl⟩ := hw'
                        clear f0 f1 m0 m1
                        go_wp2
                        go_roundw
                        case rel => exact ⟨kk + 1, by omega, by go_num, by rw [ht2.out], below_over GQ.out z.below⟩
                        case measure => simp [intOf]; omega
                    · rw [hh, Bool.true_or] at htk
                      clear hh hbq
                      go_wp2_with fail
                      refine wp_region_later (by kernel_rfl) (by kernel_rfl) ?_
                      repeat (go_big_quiet_step (first | exact rfl))
                      refine wpQuiet_nil ?_
                      intro _ hw'
                      obtain ⟨z, rfl⟩ := hw'
                      clear f0 f1 m0 m1
                      go_wp2
                      go_roundw
                      case rel => exact ⟨kk + 1, by omega, by go_num, by rw [htk.out], below_over GQ.out z.below⟩
                      case measure => simp [intOf]; omega
                  · have hkm : kk = m5 := by omega
                    subst hkm
                    have hk1 : ¬ (kk : Int) < (kk : Int) := by omega
                    have hh : hasK (acc.take kk) x.rk = true := by
                      rw [List.take_of_length_le (by have := GZ.out.2.2.2.1; omega)]
                      exact GZ.out.2.2.1.has GZ.out.2.1.map.1 (List.mem_of_getElem? Hx.out)
                    rw [hh]
                    clear hh
                    go_wp2
                    go_roundw
                    case rel => exact ⟨j + 1, by omega, by go_num, GQ.out⟩
                    case measure => simp [intOf]; omega
              · have hjm : j = la := by omega
                subst hjm
                have hj1 : ¬ (j : Int) < (j : Int) := by omega
                go_wp2
                go_ret
                exact ⟨rfl, below_over GA0.out.2.2.1 HB2.out⟩
end Go.Proofs.Ytoelpbajaadfeaa
