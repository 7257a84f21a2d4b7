/-
  What each deed does to its port: the walks.
-/
import Derived.Test.YtdlleecfmebenaaDd
namespace Go.Proofs.Ytdlleecfmebenaa
set_option linter.unusedVariables false
set_option maxRecDepth 4000
set_option linter.unusedSimpArgs false
open Go.RowKit

attribute [local go_sem ↓] ldP stP stB stU st49 stW ldT stT
set_option maxHeartbeats 2000000 in
theorem becDis_deed : Deed1 39 becDis := by
  intro w W b h g c n k Q l p D0
  have S0 : Hid (DP w W b h g c n k Q l p) := D0
  clear D0
  go_enter Try.func39, Try.ntmps39
  go_wp2_with fail
  refine (dport_any S0.out).mono ?_
  rintro _ V1 ⟨rfl, D1⟩
  have S1 : Hid (DP w V1 b h g c n k Q l p) := D1
  clear D1
  have D1 := S1.out
  obtain ⟨V2, s2, D2⟩ := D1.setB kb9 false
  obtain ⟨V3, s3, D3⟩ := D2.setB kb7 false
  obtain ⟨V4, s4, D4⟩ := D3.setN infoS kn73 (x := 1) wi1
  have S4 : Hid (DP w V4 b h g c n k Q l (((p.setB 9 kb9 false).setB 7 kb7 false).setN 73 kn73 (1) wi1)) := D4
  clear D1 D2 D3 D4
  go_wp2
  go_end0
  exact ⟨rfl, S4.out⟩
set_option maxHeartbeats 2000000 in
theorem becRoot_deed : Deed1 40 becRoot := by
  intro w W b h g c n k Q l p D0
  have S0 : Hid (DP w W b h g c n k Q l p) := D0
  clear D0
  go_enter Try.func40, Try.ntmps40
  go_wp2_with fail
  refine (dport_any S0.out).mono ?_
  rintro _ V1 ⟨rfl, D1⟩
  have S1 : Hid (DP w V1 b h g c n k Q l p) := D1
  clear D1
  have D1 := S1.out
  have l43_1 := D1.num (q := .u8) (j := 43) rfl
  obtain ⟨V2, s2, D2⟩ := D1.setU ku70 (x := p.nm 43) (p.u8 rfl)
  obtain ⟨V3, s3, D3⟩ := D2.setN infoS kn73 (x := 3) wi3
  have S3 : Hid (DP w V3 b h g c n k Q l ((p.setU 70 (p.nm 43)).setN 73 kn73 (3) wi3)) := D3
  clear D1 D2 D3
  go_wp2
  go_end0
  exact ⟨rfl, S3.out⟩
set_option maxHeartbeats 2000000 in
theorem becDsg_deed : Deed1 41 becDsg := by
  intro w W b h g c n k Q l p D0
  have S0 : Hid (DP w W b h g c n k Q l p) := D0
  clear D0
  go_enter Try.func41, Try.ntmps41
  go_wp2_with fail
  refine (dport_any S0.out).mono ?_
  rintro _ V1 ⟨rfl, D1⟩
  have S1 : Hid (DP w V1 b h g c n k Q l p) := D1
  clear D1
  have D1 := S1.out
  obtain ⟨V2, s2, D2⟩ := D1.setN infoS kn73 (x := 4) wi4
  have S2 : Hid (DP w V2 b h g c n k Q l (p.setN 73 kn73 (4) wi4)) := D2
  clear D1 D2
  go_wp2
  go_end0
  exact ⟨rfl, S2.out⟩
set_option maxHeartbeats 2000000 in
theorem becBlk_deed : Deed1 38 becBlk := by
  intro w W b h g c n k Q l p D0
  have S0 : Hid (DP w W b h g c n k Q l p) := D0
  clear D0
  go_enter Try.func38, Try.ntmps38
  go_wp2_with fail
  refine (dport_any S0.out).mono ?_
  rintro _ V1 ⟨rfl, D1⟩
  have S1 : Hid (DP w V1 b h g c n k Q l p) := D1
  clear D1
  have D1 := S1.out
  obtain ⟨V2, s2, D2⟩ := D1.setB kb9 false
  obtain ⟨V3, s3, D3⟩ := D2.setB kb7 false
  obtain ⟨V4, s4, D4⟩ := D3.setN infoS kn73 (x := 5) wi5
  have S4 : Hid (DP w V4 b h g c n k Q l (((p.setB 9 kb9 false).setB 7 kb7 false).setN 73 kn73 (5) wi5)) := D4
  clear D1 D2 D3 D4
  go_wp2
  go_end0
  exact ⟨rfl, S4.out⟩
set_option maxHeartbeats 2000000 in
theorem restP_deed : Deed1 51 restP := by
  intro w W b h g c n k Q l p D0
  have S0 : Hid (DP w W b h g c n k Q l p) := D0
  clear D0
  go_enter Try.func51, Try.ntmps51
  go_wp2_with fail
  refine (dport_any S0.out).mono ?_
  rintro _ V1 ⟨rfl, D1⟩
  have S1 : Hid (DP w V1 b h g c n k Q l p) := D1
  clear D1
  have D1 := S1.out
  obtain ⟨V2, s2, D2⟩ := D1.setB kb25 true
  obtain ⟨V3, s3, D3⟩ := D2.setB kb24 false
  obtain ⟨V4, s4, D4⟩ := D3.setB kb20 false
  obtain ⟨V5, s5, D5⟩ := D4.setU ku70 (x := 0) (by omega)
  have S5 : Hid (DP w V5 b h g c n k Q l ((((p.setB 25 kb25 true).setB 24 kb24 false).setB 20 kb20 false).setU 70 (0))) := D5
  clear D1 D2 D3 D4 D5
  go_wp2
  go_end0
  exact ⟨rfl, S5.out⟩
set_option maxHeartbeats 2000000 in
theorem disP_deed : Deed1 43 disP := by
  intro w W b h g c n k Q l p D0
  have S0 : Hid (DP w W b h g c n k Q l p) := D0
  clear D0
  go_enter Try.func43, Try.ntmps43
  go_wp2_with fail
  refine (dport_any S0.out).mono ?_
  rintro _ V1 ⟨rfl, D1⟩
  have S1 : Hid (DP w V1 b h g c n k Q l p) := D1
  clear D1
  go_wp2_with fail
  refine (restP_deed w _ b h g c n k Q l _ S1.out).mono ?_
  rintro _ V2 ⟨rfl, D2⟩
  have S2 : Hid (DP w V2 b h g c n k Q l (restP p)) := D2
  clear D2
  have D2 := S2.out
  have l41_2 := D2.num (q := .u8) (j := 41) rfl
  obtain ⟨V3, s3, D3⟩ := D2.setU ku65 (x := (restP p).nm 41) ((restP p).u8 rfl)
  obtain ⟨V4, s4, D4⟩ := D3.setN infoS kn73 (x := 2) wi2
  have S4 : Hid (DP w V4 b h g c n k Q l (((restP p).setU 65 ((restP p).nm 41)).setN 73 kn73 (2) wi2)) := D4
  clear D2 D3 D4
  go_wp2
  go_end0
  exact ⟨rfl, S4.out⟩
set_option maxHeartbeats 2000000 in
theorem blkP_deed : Deed1 47 blkP := by
  intro w W b h g c n k Q l p D0
  have S0 : Hid (DP w W b h g c n k Q l p) := D0
  clear D0
  go_enter Try.func47, Try.ntmps47
  go_wp2_with fail
  refine (dport_any S0.out).mono ?_
  rintro _ V1 ⟨rfl, D1⟩
  have S1 : Hid (DP w V1 b h g c n k Q l p) := D1
  clear D1
  go_wp2_with fail
  refine (restP_deed w _ b h g c n k Q l _ S1.out).mono ?_
  rintro _ V2 ⟨rfl, D2⟩
  have S2 : Hid (DP w V2 b h g c n k Q l (restP p)) := D2
  clear D2
  have D2 := S2.out
  have l43_2 := D2.num (q := .u8) (j := 43) rfl
  obtain ⟨V3, s3, D3⟩ := D2.setU ku65 (x := (restP p).nm 43) ((restP p).u8 rfl)
  obtain ⟨V4, s4, D4⟩ := D3.setN infoS kn73 (x := 6) wi6
  have S4 : Hid (DP w V4 b h g c n k Q l (((restP p).setU 65 ((restP p).nm 43)).setN 73 kn73 (6) wi6)) := D4
  clear D2 D3 D4
  go_wp2
  go_end0
  exact ⟨rfl, S4.out⟩
set_option maxHeartbeats 2000000 in
theorem agrP_deed : Deed1 66 agrP := by
  intro w W b h g c n k Q l p D0
  have S0 : Hid (DP w W b h g c n k Q l p) := D0
  clear D0
  go_enter Try.func66, Try.ntmps66
  go_wp2_with fail
  refine (dport_any S0.out).mono ?_
  rintro _ V1 ⟨rfl, D1⟩
  have S1 : Hid (DP w V1 b h g c n k Q l p) := D1
  clear D1
  have D1 := S1.out
  obtain ⟨V2, s2, D2⟩ := D1.setB kb12 false
  obtain ⟨V3, s3, D3⟩ := D2.setB kb3 true
  obtain ⟨V4, s4, D4⟩ := D3.setB kb11 true
  have S4 : Hid (DP w V4 b h g c n k Q l (((p.setB 12 kb12 false).setB 3 kb3 true).setB 11 kb11 true)) := D4
  clear D1 D2 D3 D4
  go_wp2
  go_end0
  exact ⟨rfl, S4.out⟩
set_option maxHeartbeats 2000000 in
theorem agrRP_deed : Deed1 55 agrRP := by
  intro w W b h g c n k Q l p D0
  have S0 : Hid (DP w W b h g c n k Q l p) := D0
  clear D0
  go_enter Try.func55, Try.ntmps55
  go_wp2_with fail
  refine (dport_any S0.out).mono ?_
  rintro _ V1 ⟨rfl, D1⟩
  have S1 : Hid (DP w V1 b h g c n k Q l p) := D1
  clear D1
  have D1 := S1.out
  obtain ⟨V2, s2, D2⟩ := D1.setB kb24 false
  have S2 : Hid (DP w V2 b h g c n k Q l (p.setB 24 kb24 false)) := D2
  clear D1 D2
  go_wp2_with fail
  refine (agrP_deed w _ b h g c n k Q l _ S2.out).mono ?_
  rintro _ V3 ⟨rfl, D3⟩
  have S3 : Hid (DP w V3 b h g c n k Q l (agrP (p.setB 24 kb24 false))) := D3
  clear D3
  go_wp2
  go_end0
  exact ⟨rfl, S3.out⟩
set_option maxHeartbeats 2000000 in
theorem rrdP_deed : Deed1 57 rrdP := by
  intro w W b h g c n k Q l p D0
  have S0 : Hid (DP w W b h g c n k Q l p) := D0
  clear D0
  go_enter Try.func57, Try.ntmps57
  go_wp2_with fail
  refine (dport_any S0.out).mono ?_
  rintro _ V1 ⟨rfl, D1⟩
  have S1 : Hid (DP w V1 b h g c n k Q l p) := D1
  clear D1
  have D1 := S1.out
  obtain ⟨V2, s2, D2⟩ := D1.setB kb20 false
  have S2 : Hid (DP w V2 b h g c n k Q l (p.setB 20 kb20 false)) := D2
  clear D1 D2
  go_wp2
  go_end0
  exact ⟨rfl, S2.out⟩
set_option maxHeartbeats 2000000 in
theorem lrnP_deed : Deed1 58 lrnP := by
  intro w W b h g c n k Q l p D0
  have S0 : Hid (DP w W b h g c n k Q l p) := D0
  clear D0
  go_enter Try.func58, Try.ntmps58
  go_wp2_with fail
  refine (dport_any S0.out).mono ?_
  rintro _ V1 ⟨rfl, D1⟩
  have S1 : Hid (DP w V1 b h g c n k Q l p) := D1
  clear D1
  have ld1 := S1.out.ld
  go_wp2_with fail
  refine (delay_any p _).mono ?_
  rintro _ V2 ⟨rfl, b2⟩
  have S2 : Hid (DP w V2 b h g c n k Q l p) := S1.out.below b2
  clear b2 ld1
  have D2 := S2.out
  obtain ⟨V3, s3, D3⟩ := D2.setB kb9 true
  obtain ⟨V4, s4, D4⟩ := D3.setU ku65 (x := delayP p) (delay_in _)
  have S4 : Hid (DP w V4 b h g c n k Q l ((p.setB 9 kb9 true).setU 65 (delayP p))) := D4
  clear D2 D3 D4
  go_wp2
  go_end0
  exact ⟨rfl, S4.out⟩
set_option maxHeartbeats 2000000 in
theorem fwdP_deed : Deed1 59 fwdP := by
  intro w W b h g c n k Q l p D0
  have S0 : Hid (DP w W b h g c n k Q l p) := D0
  clear D0
  go_enter Try.func59, Try.ntmps59
  go_wp2_with fail
  refine (dport_any S0.out).mono ?_
  rintro _ V1 ⟨rfl, D1⟩
  have S1 : Hid (DP w V1 b h g c n k Q l p) := D1
  clear D1
  have D1 := S1.out
  obtain ⟨V2, s2, D2⟩ := D1.setB kb7 true
  obtain ⟨V3, s3, D3⟩ := D2.setU ku65 (x := 0) (by omega)
  have S3 : Hid (DP w V3 b h g c n k Q l ((p.setB 7 kb7 true).setU 65 (0))) := D3
  clear D1 D2 D3
  go_wp2
  go_end0
  exact ⟨rfl, S3.out⟩
set_option maxHeartbeats 2000000 in
theorem fwdDP_deed : Deed1 65 fwdDP := by
  intro w W b h g c n k Q l p D0
  have S0 : Hid (DP w W b h g c n k Q l p) := D0
  clear D0
  go_enter Try.func65, Try.ntmps65
  go_wp2_with fail
  refine (fwdP_deed w _ b h g c n k Q l _ S0.out).mono ?_
  rintro _ V1 ⟨rfl, D1⟩
  have S1 : Hid (DP w V1 b h g c n k Q l (fwdP p)) := D1
  clear D1
  go_wp2_with fail
  refine (dport_any S1.out).mono ?_
  rintro _ V2 ⟨rfl, D2⟩
  have S2 : Hid (DP w V2 b h g c n k Q l (fwdP p)) := D2
  clear D2
  have D2 := S2.out
  have l23_2 := D2.bit (j := 23) rfl
  obtain ⟨V3, s3, D3⟩ := D2.setB kb4 ((fwdP p).bt 23)
  have S3 : Hid (DP w V3 b h g c n k Q l ((fwdP p).setB 4 kb4 ((fwdP p).bt 23))) := D3
  clear D2 D3
  go_wp2
  go_end0
  exact ⟨rfl, S3.out⟩
set_option maxHeartbeats 2000000 in
theorem rcnP_deed : Deed1 60 rcnP := by
  intro w W b h g c n k Q l p D0
  have S0 : Hid (DP w W b h g c n k Q l p) := D0
  clear D0
  go_enter Try.func60, Try.ntmps60
  go_wp2_with fail
  refine (dport_any S0.out).mono ?_
  rintro _ V1 ⟨rfl, D1⟩
  have S1 : Hid (DP w V1 b h g c n k Q l p) := D1
  clear D1
  have D1 := S1.out
  have l43_1 := D1.num (q := .u8) (j := 43) rfl
  obtain ⟨V2, s2, D2⟩ := D1.setU ku70 (x := p.nm 43) (p.u8 rfl)
  have S2 : Hid (DP w V2 b h g c n k Q l (p.setU 70 (p.nm 43))) := D2
  clear D1 D2
  go_wp2
  go_end0
  exact ⟨rfl, S2.out⟩
set_option maxHeartbeats 2000000 in
theorem prsP_deed : Deed1 62 prsP := by
  intro w W b h g c n k Q l p D0
  have S0 : Hid (DP w W b h g c n k Q l p) := D0
  clear D0
  go_enter Try.func62, Try.ntmps62
  go_wp2_with fail
  refine (dport_any S0.out).mono ?_
  rintro _ V1 ⟨rfl, D1⟩
  have S1 : Hid (DP w V1 b h g c n k Q l p) := D1
  clear D1
  have D1 := S1.out
  obtain ⟨V2, s2, D2⟩ := D1.setB kb13 true
  obtain ⟨V3, s3, D3⟩ := D2.setB kb11 true
  have S3 : Hid (DP w V3 b h g c n k Q l ((p.setB 13 kb13 true).setB 11 kb11 true)) := D3
  clear D1 D2 D3
  go_wp2
  go_end0
  exact ⟨rfl, S3.out⟩
set_option maxHeartbeats 2000000 in
theorem synP_deed : Deed1 63 synP := by
  intro w W b h g c n k Q l p D0
  have S0 : Hid (DP w W b h g c n k Q l p) := D0
  clear D0
  go_enter Try.func63, Try.ntmps63
  go_wp2_with fail
  refine (dport_any S0.out).mono ?_
  rintro _ V1 ⟨rfl, D1⟩
  have S1 : Hid (DP w V1 b h g c n k Q l p) := D1
  clear D1
  have D1 := S1.out
  obtain ⟨V2, s2, D2⟩ := D1.setU ku70 (x := 0) (by omega)
  obtain ⟨V3, s3, D3⟩ := D2.setB kb25 true
  obtain ⟨V4, s4, D4⟩ := D3.setB kb24 false
  have S4 : Hid (DP w V4 b h g c n k Q l (((p.setU 70 (0)).setB 25 kb25 true).setB 24 kb24 false)) := D4
  clear D1 D2 D3 D4
  go_wp2
  go_end0
  exact ⟨rfl, S4.out⟩
set_option maxHeartbeats 2000000 in
theorem stpP_deed : Deed1 64 stpP := by
  intro w W b h g c n k Q l p D0
  have S0 : Hid (DP w W b h g c n k Q l p) := D0
  clear D0
  go_enter Try.func64, Try.ntmps64
  go_wp2_with fail
  refine (dport_any S0.out).mono ?_
  rintro _ V1 ⟨rfl, D1⟩
  have S1 : Hid (DP w V1 b h g c n k Q l p) := D1
  clear D1
  have D1 := S1.out
  obtain ⟨V2, s2, D2⟩ := D1.setB kb9 false
  obtain ⟨V3, s3, D3⟩ := D2.setB kb7 false
  obtain ⟨V4, s4, D4⟩ := D3.setB kb5 false
  have S4 : Hid (DP w V4 b h g c n k Q l (((p.setB 9 kb9 false).setB 7 kb7 false).setB 5 kb5 false)) := D4
  clear D1 D2 D3 D4
  have ld4 := S4.out.ld
  go_wp2_with fail
  refine (delay_any (((p.setB 9 kb9 false).setB 7 kb7 false).setB 5 kb5 false) _).mono ?_
  rintro _ V5 ⟨rfl, b5⟩
  have S5 : Hid (DP w V5 b h g c n k Q l (((p.setB 9 kb9 false).setB 7 kb7 false).setB 5 kb5 false)) := S4.out.below b5
  clear b5 ld4
  have D5 := S5.out
  obtain ⟨V6, s6, D6⟩ := D5.setU ku65 (x := delayP (((p.setB 9 kb9 false).setB 7 kb7 false).setB 5 kb5 false)) (delay_in _)
  have S6 : Hid (DP w V6 b h g c n k Q l ((((p.setB 9 kb9 false).setB 7 kb7 false).setB 5 kb5 false).setU 65 (delayP (((p.setB 9 kb9 false).setB 7 kb7 false).setB 5 kb5 false)))) := D6
  clear D5 D6
  go_wp2
  go_end0
  exact ⟨rfl, S6.out⟩
set_option maxHeartbeats 2000000 in
theorem bkuP_deed : Deed1 68 bkuP := by
  intro w W b h g c n k Q l p D0
  have S0 : Hid (DP w W b h g c n k Q l p) := D0
  clear D0
  go_enter Try.func68, Try.ntmps68
  go_wp2_with fail
  refine (dport_any S0.out).mono ?_
  rintro _ V1 ⟨rfl, D1⟩
  have S1 : Hid (DP w V1 b h g c n k Q l p) := D1
  clear D1
  have c42 := S1.out.num (j := 42) (q := .u8) rfl
  go_wp2_with fail
  refine (tw_any (p.nm 42) _ (p.u8 rfl)).mono ?_
  rintro _ V2 ⟨rfl, b2⟩
  have S2 : Hid (DP w V2 b h g c n k Q l p) := S1.out.below b2
  clear b2 c42
  have D2 := S2.out
  obtain ⟨V3, s3, D3⟩ := D2.setU ku68 (x := twN (p.nm 42)) (twN_in (p.u8 rfl))
  have S3 : Hid (DP w V3 b h g c n k Q l (p.setU 68 (twN (p.nm 42)))) := D3
  clear D2 D3
  go_wp2
  go_end0
  exact ⟨rfl, S3.out⟩
end Go.Proofs.Ytdlleecfmebenaa
