/-
  A step of a port, by the definition: the walk, for every port. And what follows from it here.
-/
import Derived.Test.YtlchejbggnbccaaGreatPbb
import Derived.Test.YtlchejbggnbccaaGreatP11c
import Derived.Test.YtlchejbggnbccaaGreatP11a
import Derived.Test.YtlchejbggnbccaaGreatP11b
import Derived.Deep.RegionHeld3
import Derived.Test.YtlchejbggnbccaaGreatPba
namespace Go.Proofs.YtlchejbggnbccaaGreat
set_option linter.unusedVariables false
set_option linter.unusedSimpArgs false
set_option maxRecDepth 4000
set_option maxHeartbeats 40000000
open _root_.Go.Proofs.Tryz
section
namespace S11
open Go.RowKit
attribute [local go_sem ↓] ldP stP ldM stM ldTm stTm ldV stV stB stU stI stW
attribute [local go_sem ↓] alP alM
attribute [local go_sem] z_l z_D
theorem z_aL (p:Pt) (w:World) :
  Calls prog 114 #[.agg p.cs] w fun r w'=>r=.returned (.tuple #[.agg (tellO p (stepO p)).cs,.bool (stepO p).isSome])∧Below w.heap.size w w':=by
 obtain⟨W0,hW,S0⟩:=PS.start w p;have l0:=S0.ld;have c2:=S0.var.bit (j:=2) rfl;have c14:=S0.var.bit (j:=14) rfl;have c22:=S0.var.bit (j:=22) rfl;have c28:=S0.var.bit (j:=28) rfl;have c29:=S0.var.num (j:=29) (k:=.i64) rfl;have c69:=S0.var.num (j:=69) (k:=.u8) rfl;have c72:=S0.var.num (j:=72) (k:=.i64) rfl;have H0:=hd1 S0;clear S0;by_cases e72_1:p.nm 72=1
 ·rw[e72_1] at c72;cases h2:p.bt 2
  ·rw[h2] at c2;by_cases e29_0:p.nm 29=0
   ·rw[e29_0] at c29;cases h14:p.bt 14
    ·rw[h14] at c14;have EQ:Hid (stepO p=none):=show stepO p=_ by simp[stepO,fdsO,fagO,fcuO,e72_1,h2,e29_0,h14]
     have ER:Hid (Ending.returned (.tuple #[.agg (p).cs,.bool false])=Ending.returned (.tuple #[.agg (tellO p (stepO p)).cs,.bool (stepO p).isSome])):=show Ending.returned _=_ by rw[EQ.out];rfl
     clear EQ;clear e29_0;clear e72_1;clear h2 h14;go_enter func114,ntmps114;obtain⟨U,sU,G0⟩:=H0.out.tell p;have G:=hd1 G0;clear G0 H0
     go_wp2_with (with_reducible exact z_j results114 rfl rfl rfl G.out.1 ⟨ER.out,G.out.2⟩)
    ·rw[h14] at c14;have EQ:Hid (stepO p=some (disP p)):=show stepO p=_ by simp[stepO,fdsO,fagO,fcuO,e72_1,h2,e29_0,h14]
     have ER:Hid (Ending.returned (.tuple #[.agg (disP p).cs,.bool true])=Ending.returned (.tuple #[.agg (tellO p (stepO p)).cs,.bool (stepO p).isSome])):=show Ending.returned _=_ by rw[EQ.out];rfl
     clear EQ;clear e29_0;clear e72_1;clear h2 h14;go_enter func114,ntmps114
     go_wp2_with fail
     refine (x_P p W0).mono ?_;rintro _ V ⟨rfl,bV⟩;obtain⟨U,sU,G0⟩:=(H0.out.below bV).tell (disP p);have G:=hd1 G0;clear G0 H0 bV hW l0 c2 c14 c22 c28 c29 c69 c72
     go_wp2_with (with_reducible exact z_j results114 rfl rfl rfl G.out.1 ⟨ER.out,G.out.2⟩)
   ·skip
    have EQ:Hid (stepO p=some (disP p)):=show stepO p=_ by simp[stepO,fdsO,fagO,fcuO,e72_1,h2,e29_0]
    have ER:Hid (Ending.returned (.tuple #[.agg (disP p).cs,.bool true])=Ending.returned (.tuple #[.agg (tellO p (stepO p)).cs,.bool (stepO p).isSome])):=show Ending.returned _=_ by rw[EQ.out];rfl
    clear EQ;obtain⟨K29,g29⟩:∃K,p.nm 29=K:=⟨_,rfl⟩;rw[g29] at c29 e29_0;have q29_0:(K29==0)=false:=by simp[e29_0]
    have n29_0:(K29 != 0)=true:=by simp[e29_0]
    clear g29;clear e72_1;clear h2;go_enter func114,ntmps114
    go_wp2_with fail
    refine (x_P p W0).mono ?_;rintro _ V ⟨rfl,bV⟩;obtain⟨U,sU,G0⟩:=(H0.out.below bV).tell (disP p);have G:=hd1 G0;clear G0 H0 bV hW l0 c2 c14 c22 c28 c29 c69 c72
    go_wp2_with (with_reducible exact z_j results114 rfl rfl rfl G.out.1 ⟨ER.out,G.out.2⟩)
  ·rw[h2] at c2;have EQ:Hid (stepO p=some (agdP p)):=show stepO p=_ by simp[stepO,fdsO,fagO,fcuO,e72_1,h2]
   have ER:Hid (Ending.returned (.tuple #[.agg (agdP p).cs,.bool true])=Ending.returned (.tuple #[.agg (tellO p (stepO p)).cs,.bool (stepO p).isSome])):=show Ending.returned _=_ by rw[EQ.out];rfl
   clear EQ;clear e72_1;clear h2;go_enter func114,ntmps114
   go_wp2_with fail
   refine (u_j p W0).mono ?_;rintro _ V ⟨rfl,bV⟩;obtain⟨U,sU,G0⟩:=(H0.out.below bV).tell (agdP p);have G:=hd1 G0;clear G0 H0 bV hW l0 c2 c14 c22 c28 c29 c69 c72
   go_wp2_with (with_reducible exact z_j results114 rfl rfl rfl G.out.1 ⟨ER.out,G.out.2⟩)
 ·skip
  by_cases e72_2:p.nm 72=2
  ·rw[e72_2] at c72;cases h2:p.bt 2
   ·rw[h2] at c2;by_cases e29_0:p.nm 29=0
    ·rw[e29_0] at c29;cases h22:p.bt 22
     ·rw[h22] at c22;have EQ:Hid (stepO p=none):=show stepO p=_ by simp[stepO,fdsO,fagO,fcuO,e72_1,e72_2,h2,e29_0,h22]
      have ER:Hid (Ending.returned (.tuple #[.agg (p).cs,.bool false])=Ending.returned (.tuple #[.agg (tellO p (stepO p)).cs,.bool (stepO p).isSome])):=show Ending.returned _=_ by rw[EQ.out];rfl
      clear EQ;clear e29_0;clear e72_1;clear e72_2;clear h2 h22;go_enter func114,ntmps114;obtain⟨U,sU,G0⟩:=H0.out.tell p;have G:=hd1 G0;clear G0 H0
      go_wp2_with (with_reducible exact z_j results114 rfl rfl rfl G.out.1 ⟨ER.out,G.out.2⟩)
     ·rw[h22] at c22;cases h28:p.bt 28
      ·rw[h28] at c28;have EQ:Hid (stepO p=none):=show stepO p=_ by simp[stepO,fdsO,fagO,fcuO,e72_1,e72_2,h2,e29_0,h22,h28]
       have ER:Hid (Ending.returned (.tuple #[.agg (p).cs,.bool false])=Ending.returned (.tuple #[.agg (tellO p (stepO p)).cs,.bool (stepO p).isSome])):=show Ending.returned _=_ by rw[EQ.out];rfl
       clear EQ;clear e29_0;clear e72_1;clear e72_2;clear h2 h22 h28;go_enter func114,ntmps114;obtain⟨U,sU,G0⟩:=H0.out.tell p;have G:=hd1 G0;clear G0 H0
       go_wp2_with (with_reducible exact z_j results114 rfl rfl rfl G.out.1 ⟨ER.out,G.out.2⟩)
      ·rw[h28] at c28;have EQ:Hid (stepO p=some (updP p)):=show stepO p=_ by simp[stepO,fdsO,fagO,fcuO,e72_1,e72_2,h2,e29_0,h22,h28]
       have ER:Hid (Ending.returned (.tuple #[.agg (updP p).cs,.bool true])=Ending.returned (.tuple #[.agg (tellO p (stepO p)).cs,.bool (stepO p).isSome])):=show Ending.returned _=_ by rw[EQ.out];rfl
       clear EQ;clear e29_0;clear e72_1;clear e72_2;clear h2 h22 h28;go_enter func114,ntmps114
       go_wp2_with fail
       refine (x_q p W0).mono ?_;rintro _ V ⟨rfl,bV⟩;obtain⟨U,sU,G0⟩:=(H0.out.below bV).tell (updP p);have G:=hd1 G0;clear G0 H0 bV hW l0 c2 c14 c22 c28 c29 c69 c72
       go_wp2_with (with_reducible exact z_j results114 rfl rfl rfl G.out.1 ⟨ER.out,G.out.2⟩)
    ·skip
     have EQ:Hid (stepO p=some (disP p)):=show stepO p=_ by simp[stepO,fdsO,fagO,fcuO,e72_1,e72_2,h2,e29_0]
     have ER:Hid (Ending.returned (.tuple #[.agg (disP p).cs,.bool true])=Ending.returned (.tuple #[.agg (tellO p (stepO p)).cs,.bool (stepO p).isSome])):=show Ending.returned _=_ by rw[EQ.out];rfl
     clear EQ;obtain⟨K29,g29⟩:∃K,p.nm 29=K:=⟨_,rfl⟩;rw[g29] at c29 e29_0;have q29_0:(K29==0)=false:=by simp[e29_0]
     have n29_0:(K29 != 0)=true:=by simp[e29_0]
     clear g29;clear e72_1;clear e72_2;clear h2;go_enter func114,ntmps114
     go_wp2_with fail
     refine (x_P p W0).mono ?_;rintro _ V ⟨rfl,bV⟩;obtain⟨U,sU,G0⟩:=(H0.out.below bV).tell (disP p);have G:=hd1 G0;clear G0 H0 bV hW l0 c2 c14 c22 c28 c29 c69 c72
     go_wp2_with (with_reducible exact z_j results114 rfl rfl rfl G.out.1 ⟨ER.out,G.out.2⟩)
   ·rw[h2] at c2;cases h22:p.bt 22
    ·rw[h22] at c22;have EQ:Hid (stepO p=none):=show stepO p=_ by simp[stepO,fdsO,fagO,fcuO,e72_1,e72_2,h2,h22]
     have ER:Hid (Ending.returned (.tuple #[.agg (p).cs,.bool false])=Ending.returned (.tuple #[.agg (tellO p (stepO p)).cs,.bool (stepO p).isSome])):=show Ending.returned _=_ by rw[EQ.out];rfl
     clear EQ;clear e72_1;clear e72_2;clear h2 h22;go_enter func114,ntmps114;obtain⟨U,sU,G0⟩:=H0.out.tell p;have G:=hd1 G0;clear G0 H0
     go_wp2_with (with_reducible exact z_j results114 rfl rfl rfl G.out.1 ⟨ER.out,G.out.2⟩)
    ·rw[h22] at c22;cases h28:p.bt 28
     ·rw[h28] at c28;have EQ:Hid (stepO p=none):=show stepO p=_ by simp[stepO,fdsO,fagO,fcuO,e72_1,e72_2,h2,h22,h28]
      have ER:Hid (Ending.returned (.tuple #[.agg (p).cs,.bool false])=Ending.returned (.tuple #[.agg (tellO p (stepO p)).cs,.bool (stepO p).isSome])):=show Ending.returned _=_ by rw[EQ.out];rfl
      clear EQ;clear e72_1;clear e72_2;clear h2 h22 h28;go_enter func114,ntmps114;obtain⟨U,sU,G0⟩:=H0.out.tell p;have G:=hd1 G0;clear G0 H0
      go_wp2_with (with_reducible exact z_j results114 rfl rfl rfl G.out.1 ⟨ER.out,G.out.2⟩)
     ·rw[h28] at c28;have EQ:Hid (stepO p=some (updP p)):=show stepO p=_ by simp[stepO,fdsO,fagO,fcuO,e72_1,e72_2,h2,h22,h28]
      have ER:Hid (Ending.returned (.tuple #[.agg (updP p).cs,.bool true])=Ending.returned (.tuple #[.agg (tellO p (stepO p)).cs,.bool (stepO p).isSome])):=show Ending.returned _=_ by rw[EQ.out];rfl
      clear EQ;clear e72_1;clear e72_2;clear h2 h22 h28;go_enter func114,ntmps114
      go_wp2_with fail
      refine (x_q p W0).mono ?_;rintro _ V ⟨rfl,bV⟩;obtain⟨U,sU,G0⟩:=(H0.out.below bV).tell (updP p);have G:=hd1 G0;clear G0 H0 bV hW l0 c2 c14 c22 c28 c29 c69 c72
      go_wp2_with (with_reducible exact z_j results114 rfl rfl rfl G.out.1 ⟨ER.out,G.out.2⟩)
  ·skip
   by_cases e72_3:p.nm 72=3
   ·rw[e72_3] at c72;cases h2:p.bt 2
    ·rw[h2] at c2;by_cases e29_0:p.nm 29=0
     ·rw[e29_0] at c29;cases h14:p.bt 14
      ·rw[h14] at c14;cases h22:p.bt 22
       ·rw[h22] at c22;have EQ:Hid (stepO p=none):=show stepO p=_ by simp[stepO,fdsO,fagO,fcuO,e72_1,e72_2,e72_3,h2,e29_0,h14,h22]
        have ER:Hid (Ending.returned (.tuple #[.agg (p).cs,.bool false])=Ending.returned (.tuple #[.agg (tellO p (stepO p)).cs,.bool (stepO p).isSome])):=show Ending.returned _=_ by rw[EQ.out];rfl
        clear EQ;clear e29_0;clear e72_1;clear e72_2;clear e72_3;clear h2 h14 h22;go_enter func114,ntmps114;obtain⟨U,sU,G0⟩:=H0.out.tell p;have G:=hd1 G0;clear G0 H0
        go_wp2_with (with_reducible exact z_j results114 rfl rfl rfl G.out.1 ⟨ER.out,G.out.2⟩)
       ·rw[h22] at c22;cases h28:p.bt 28
        ·rw[h28] at c28;have EQ:Hid (stepO p=none):=show stepO p=_ by simp[stepO,fdsO,fagO,fcuO,e72_1,e72_2,e72_3,h2,e29_0,h14,h22,h28]
         have ER:Hid (Ending.returned (.tuple #[.agg (p).cs,.bool false])=Ending.returned (.tuple #[.agg (tellO p (stepO p)).cs,.bool (stepO p).isSome])):=show Ending.returned _=_ by rw[EQ.out];rfl
         clear EQ;clear e29_0;clear e72_1;clear e72_2;clear e72_3;clear h2 h14 h22 h28;go_enter func114,ntmps114;obtain⟨U,sU,G0⟩:=H0.out.tell p;have G:=hd1 G0;clear G0 H0
         go_wp2_with (with_reducible exact z_j results114 rfl rfl rfl G.out.1 ⟨ER.out,G.out.2⟩)
        ·rw[h28] at c28;have EQ:Hid (stepO p=some (updP p)):=show stepO p=_ by simp[stepO,fdsO,fagO,fcuO,e72_1,e72_2,e72_3,h2,e29_0,h14,h22,h28]
         have ER:Hid (Ending.returned (.tuple #[.agg (updP p).cs,.bool true])=Ending.returned (.tuple #[.agg (tellO p (stepO p)).cs,.bool (stepO p).isSome])):=show Ending.returned _=_ by rw[EQ.out];rfl
         clear EQ;clear e29_0;clear e72_1;clear e72_2;clear e72_3;clear h2 h14 h22 h28;go_enter func114,ntmps114
         go_wp2_with fail
         refine (x_q p W0).mono ?_;rintro _ V ⟨rfl,bV⟩;obtain⟨U,sU,G0⟩:=(H0.out.below bV).tell (updP p);have G:=hd1 G0;clear G0 H0 bV hW l0 c2 c14 c22 c28 c29 c69 c72
         go_wp2_with (with_reducible exact z_j results114 rfl rfl rfl G.out.1 ⟨ER.out,G.out.2⟩)
      ·rw[h14] at c14;cases h28:p.bt 28
       ·rw[h28] at c28;have EQ:Hid (stepO p=some (recP p)):=show stepO p=_ by simp[stepO,fdsO,fagO,fcuO,e72_1,e72_2,e72_3,h2,e29_0,h14,h28]
        have ER:Hid (Ending.returned (.tuple #[.agg (recP p).cs,.bool true])=Ending.returned (.tuple #[.agg (tellO p (stepO p)).cs,.bool (stepO p).isSome])):=show Ending.returned _=_ by rw[EQ.out];rfl
        clear EQ;clear e29_0;clear e72_1;clear e72_2;clear e72_3;clear h2 h14 h28;go_enter func114,ntmps114
        go_wp2_with fail
        refine (z_bo p W0).mono ?_;rintro _ V ⟨rfl,bV⟩;obtain⟨U,sU,G0⟩:=(H0.out.below bV).tell (recP p);have G:=hd1 G0;clear G0 H0 bV hW l0 c2 c14 c22 c28 c29 c69 c72
        go_wp2_with (with_reducible exact z_j results114 rfl rfl rfl G.out.1 ⟨ER.out,G.out.2⟩)
       ·rw[h28] at c28;cases h22:p.bt 22
        ·rw[h22] at c22;have EQ:Hid (stepO p=none):=show stepO p=_ by simp[stepO,fdsO,fagO,fcuO,e72_1,e72_2,e72_3,h2,e29_0,h14,h28,h22]
         have ER:Hid (Ending.returned (.tuple #[.agg (p).cs,.bool false])=Ending.returned (.tuple #[.agg (tellO p (stepO p)).cs,.bool (stepO p).isSome])):=show Ending.returned _=_ by rw[EQ.out];rfl
         clear EQ;clear e29_0;clear e72_1;clear e72_2;clear e72_3;clear h2 h14 h28 h22;go_enter func114,ntmps114;obtain⟨U,sU,G0⟩:=H0.out.tell p;have G:=hd1 G0;clear G0 H0
         go_wp2_with (with_reducible exact z_j results114 rfl rfl rfl G.out.1 ⟨ER.out,G.out.2⟩)
        ·rw[h22] at c22;have EQ:Hid (stepO p=some (updP p)):=show stepO p=_ by simp[stepO,fdsO,fagO,fcuO,e72_1,e72_2,e72_3,h2,e29_0,h14,h28,h22]
         have ER:Hid (Ending.returned (.tuple #[.agg (updP p).cs,.bool true])=Ending.returned (.tuple #[.agg (tellO p (stepO p)).cs,.bool (stepO p).isSome])):=show Ending.returned _=_ by rw[EQ.out];rfl
         clear EQ;clear e29_0;clear e72_1;clear e72_2;clear e72_3;clear h2 h14 h28 h22;go_enter func114,ntmps114
         go_wp2_with fail
         refine (x_q p W0).mono ?_;rintro _ V ⟨rfl,bV⟩;obtain⟨U,sU,G0⟩:=(H0.out.below bV).tell (updP p);have G:=hd1 G0;clear G0 H0 bV hW l0 c2 c14 c22 c28 c29 c69 c72
         go_wp2_with (with_reducible exact z_j results114 rfl rfl rfl G.out.1 ⟨ER.out,G.out.2⟩)
     ·skip
      have EQ:Hid (stepO p=some (disP p)):=show stepO p=_ by simp[stepO,fdsO,fagO,fcuO,e72_1,e72_2,e72_3,h2,e29_0]
      have ER:Hid (Ending.returned (.tuple #[.agg (disP p).cs,.bool true])=Ending.returned (.tuple #[.agg (tellO p (stepO p)).cs,.bool (stepO p).isSome])):=show Ending.returned _=_ by rw[EQ.out];rfl
      clear EQ;obtain⟨K29,g29⟩:∃K,p.nm 29=K:=⟨_,rfl⟩;rw[g29] at c29 e29_0;have q29_0:(K29==0)=false:=by simp[e29_0]
      have n29_0:(K29 != 0)=true:=by simp[e29_0]
      clear g29;clear e72_1;clear e72_2;clear e72_3;clear h2;go_enter func114,ntmps114
      go_wp2_with fail
      refine (x_P p W0).mono ?_;rintro _ V ⟨rfl,bV⟩;obtain⟨U,sU,G0⟩:=(H0.out.below bV).tell (disP p);have G:=hd1 G0;clear G0 H0 bV hW l0 c2 c14 c22 c28 c29 c69 c72
      go_wp2_with (with_reducible exact z_j results114 rfl rfl rfl G.out.1 ⟨ER.out,G.out.2⟩)
    ·rw[h2] at c2;cases h14:p.bt 14
     ·rw[h14] at c14;cases h22:p.bt 22
      ·rw[h22] at c22;by_cases e29_3:p.nm 29=3
       ·rw[e29_3] at c29;by_cases e69_0:p.nm 69=0
        ·rw[e69_0] at c69;cases h28:p.bt 28
         ·rw[h28] at c28;have EQ:Hid (stepO p=some (agdP p)):=show stepO p=_ by simp[stepO,fdsO,fagO,fcuO,e72_1,e72_2,e72_3,h2,h14,h22,e29_3,e69_0,h28]
          have ER:Hid (Ending.returned (.tuple #[.agg (agdP p).cs,.bool true])=Ending.returned (.tuple #[.agg (tellO p (stepO p)).cs,.bool (stepO p).isSome])):=show Ending.returned _=_ by rw[EQ.out];rfl
          clear EQ;clear e29_3;clear e69_0;clear e72_1;clear e72_2;clear e72_3;clear h2 h14 h22 h28;go_enter func114,ntmps114
          go_wp2_with fail
          refine (u_j p W0).mono ?_;rintro _ V ⟨rfl,bV⟩;obtain⟨U,sU,G0⟩:=(H0.out.below bV).tell (agdP p);have G:=hd1 G0;clear G0 H0 bV hW l0 c2 c14 c22 c28 c29 c69 c72
          go_wp2_with (with_reducible exact z_j results114 rfl rfl rfl G.out.1 ⟨ER.out,G.out.2⟩)
         ·rw[h28] at c28;have EQ:Hid (stepO p=none):=show stepO p=_ by simp[stepO,fdsO,fagO,fcuO,e72_1,e72_2,e72_3,h2,h14,h22,e29_3,e69_0,h28]
          have ER:Hid (Ending.returned (.tuple #[.agg (p).cs,.bool false])=Ending.returned (.tuple #[.agg (tellO p (stepO p)).cs,.bool (stepO p).isSome])):=show Ending.returned _=_ by rw[EQ.out];rfl
          clear EQ;clear e29_3;clear e69_0;clear e72_1;clear e72_2;clear e72_3;clear h2 h14 h22 h28;go_enter func114,ntmps114;obtain⟨U,sU,G0⟩:=H0.out.tell p;have G:=hd1 G0;clear G0 H0
          go_wp2_with (with_reducible exact z_j results114 rfl rfl rfl G.out.1 ⟨ER.out,G.out.2⟩)
        ·skip
         have EQ:Hid (stepO p=none):=show stepO p=_ by simp[stepO,fdsO,fagO,fcuO,e72_1,e72_2,e72_3,h2,h14,h22,e29_3,e69_0]
         have ER:Hid (Ending.returned (.tuple #[.agg (p).cs,.bool false])=Ending.returned (.tuple #[.agg (tellO p (stepO p)).cs,.bool (stepO p).isSome])):=show Ending.returned _=_ by rw[EQ.out];rfl
         clear EQ;clear e29_3;obtain⟨K69,g69⟩:∃K,p.nm 69=K:=⟨_,rfl⟩;rw[g69] at c69 e69_0;have q69_0:(K69==0)=false:=by simp[e69_0]
         have n69_0:(K69 != 0)=true:=by simp[e69_0]
         clear g69;clear e72_1;clear e72_2;clear e72_3;clear h2 h14 h22;go_enter func114,ntmps114;obtain⟨U,sU,G0⟩:=H0.out.tell p;have G:=hd1 G0;clear G0 H0
         go_wp2_with (with_reducible exact z_j results114 rfl rfl rfl G.out.1 ⟨ER.out,G.out.2⟩)
       ·skip
        have EQ:Hid (stepO p=none):=show stepO p=_ by simp[stepO,fdsO,fagO,fcuO,e72_1,e72_2,e72_3,h2,h14,h22,e29_3]
        have ER:Hid (Ending.returned (.tuple #[.agg (p).cs,.bool false])=Ending.returned (.tuple #[.agg (tellO p (stepO p)).cs,.bool (stepO p).isSome])):=show Ending.returned _=_ by rw[EQ.out];rfl
        clear EQ;obtain⟨K29,g29⟩:∃K,p.nm 29=K:=⟨_,rfl⟩;rw[g29] at c29 e29_3;have q29_3:(K29==3)=false:=by simp[e29_3]
        have n29_3:(K29 != 3)=true:=by simp[e29_3]
        clear g29;clear e72_1;clear e72_2;clear e72_3;clear h2 h14 h22;go_enter func114,ntmps114;obtain⟨U,sU,G0⟩:=H0.out.tell p;have G:=hd1 G0;clear G0 H0
        go_wp2_with (with_reducible exact z_j results114 rfl rfl rfl G.out.1 ⟨ER.out,G.out.2⟩)
      ·rw[h22] at c22;cases h28:p.bt 28
       ·rw[h28] at c28;by_cases e29_3:p.nm 29=3
        ·rw[e29_3] at c29;by_cases e69_0:p.nm 69=0
         ·rw[e69_0] at c69;have EQ:Hid (stepO p=some (agdP p)):=show stepO p=_ by simp[stepO,fdsO,fagO,fcuO,e72_1,e72_2,e72_3,h2,h14,h22,h28,e29_3,e69_0]
          have ER:Hid (Ending.returned (.tuple #[.agg (agdP p).cs,.bool true])=Ending.returned (.tuple #[.agg (tellO p (stepO p)).cs,.bool (stepO p).isSome])):=show Ending.returned _=_ by rw[EQ.out];rfl
          clear EQ;clear e29_3;clear e69_0;clear e72_1;clear e72_2;clear e72_3;clear h2 h14 h22 h28;go_enter func114,ntmps114
          go_wp2_with fail
          refine (u_j p W0).mono ?_;rintro _ V ⟨rfl,bV⟩;obtain⟨U,sU,G0⟩:=(H0.out.below bV).tell (agdP p);have G:=hd1 G0;clear G0 H0 bV hW l0 c2 c14 c22 c28 c29 c69 c72
          go_wp2_with (with_reducible exact z_j results114 rfl rfl rfl G.out.1 ⟨ER.out,G.out.2⟩)
         ·skip
          have EQ:Hid (stepO p=none):=show stepO p=_ by simp[stepO,fdsO,fagO,fcuO,e72_1,e72_2,e72_3,h2,h14,h22,h28,e29_3,e69_0]
          have ER:Hid (Ending.returned (.tuple #[.agg (p).cs,.bool false])=Ending.returned (.tuple #[.agg (tellO p (stepO p)).cs,.bool (stepO p).isSome])):=show Ending.returned _=_ by rw[EQ.out];rfl
          clear EQ;clear e29_3;obtain⟨K69,g69⟩:∃K,p.nm 69=K:=⟨_,rfl⟩;rw[g69] at c69 e69_0;have q69_0:(K69==0)=false:=by simp[e69_0]
          have n69_0:(K69 != 0)=true:=by simp[e69_0]
          clear g69;clear e72_1;clear e72_2;clear e72_3;clear h2 h14 h22 h28;go_enter func114,ntmps114;obtain⟨U,sU,G0⟩:=H0.out.tell p;have G:=hd1 G0;clear G0 H0
          go_wp2_with (with_reducible exact z_j results114 rfl rfl rfl G.out.1 ⟨ER.out,G.out.2⟩)
        ·skip
         have EQ:Hid (stepO p=none):=show stepO p=_ by simp[stepO,fdsO,fagO,fcuO,e72_1,e72_2,e72_3,h2,h14,h22,h28,e29_3]
         have ER:Hid (Ending.returned (.tuple #[.agg (p).cs,.bool false])=Ending.returned (.tuple #[.agg (tellO p (stepO p)).cs,.bool (stepO p).isSome])):=show Ending.returned _=_ by rw[EQ.out];rfl
         clear EQ;obtain⟨K29,g29⟩:∃K,p.nm 29=K:=⟨_,rfl⟩;rw[g29] at c29 e29_3;have q29_3:(K29==3)=false:=by simp[e29_3]
         have n29_3:(K29 != 3)=true:=by simp[e29_3]
         clear g29;clear e72_1;clear e72_2;clear e72_3;clear h2 h14 h22 h28;go_enter func114,ntmps114;obtain⟨U,sU,G0⟩:=H0.out.tell p;have G:=hd1 G0;clear G0 H0
         go_wp2_with (with_reducible exact z_j results114 rfl rfl rfl G.out.1 ⟨ER.out,G.out.2⟩)
       ·rw[h28] at c28;have EQ:Hid (stepO p=some (updP p)):=show stepO p=_ by simp[stepO,fdsO,fagO,fcuO,e72_1,e72_2,e72_3,h2,h14,h22,h28]
        have ER:Hid (Ending.returned (.tuple #[.agg (updP p).cs,.bool true])=Ending.returned (.tuple #[.agg (tellO p (stepO p)).cs,.bool (stepO p).isSome])):=show Ending.returned _=_ by rw[EQ.out];rfl
        clear EQ;clear e72_1;clear e72_2;clear e72_3;clear h2 h14 h22 h28;go_enter func114,ntmps114
        go_wp2_with fail
        refine (x_q p W0).mono ?_;rintro _ V ⟨rfl,bV⟩;obtain⟨U,sU,G0⟩:=(H0.out.below bV).tell (updP p);have G:=hd1 G0;clear G0 H0 bV hW l0 c2 c14 c22 c28 c29 c69 c72
        go_wp2_with (with_reducible exact z_j results114 rfl rfl rfl G.out.1 ⟨ER.out,G.out.2⟩)
     ·rw[h14] at c14;cases h28:p.bt 28
      ·rw[h28] at c28;have EQ:Hid (stepO p=some (recP p)):=show stepO p=_ by simp[stepO,fdsO,fagO,fcuO,e72_1,e72_2,e72_3,h2,h14,h28]
       have ER:Hid (Ending.returned (.tuple #[.agg (recP p).cs,.bool true])=Ending.returned (.tuple #[.agg (tellO p (stepO p)).cs,.bool (stepO p).isSome])):=show Ending.returned _=_ by rw[EQ.out];rfl
       clear EQ;clear e72_1;clear e72_2;clear e72_3;clear h2 h14 h28;go_enter func114,ntmps114
       go_wp2_with fail
       refine (z_bo p W0).mono ?_;rintro _ V ⟨rfl,bV⟩;obtain⟨U,sU,G0⟩:=(H0.out.below bV).tell (recP p);have G:=hd1 G0;clear G0 H0 bV hW l0 c2 c14 c22 c28 c29 c69 c72
       go_wp2_with (with_reducible exact z_j results114 rfl rfl rfl G.out.1 ⟨ER.out,G.out.2⟩)
      ·rw[h28] at c28;cases h22:p.bt 22
       ·rw[h22] at c22;by_cases e29_3:p.nm 29=3
        ·rw[e29_3] at c29;by_cases e69_0:p.nm 69=0
         ·rw[e69_0] at c69;have EQ:Hid (stepO p=none):=show stepO p=_ by simp[stepO,fdsO,fagO,fcuO,e72_1,e72_2,e72_3,h2,h14,h28,h22,e29_3,e69_0]
          have ER:Hid (Ending.returned (.tuple #[.agg (p).cs,.bool false])=Ending.returned (.tuple #[.agg (tellO p (stepO p)).cs,.bool (stepO p).isSome])):=show Ending.returned _=_ by rw[EQ.out];rfl
          clear EQ;clear e29_3;clear e69_0;clear e72_1;clear e72_2;clear e72_3;clear h2 h14 h28 h22;go_enter func114,ntmps114;obtain⟨U,sU,G0⟩:=H0.out.tell p;have G:=hd1 G0;clear G0 H0
          go_wp2_with (with_reducible exact z_j results114 rfl rfl rfl G.out.1 ⟨ER.out,G.out.2⟩)
         ·skip
          have EQ:Hid (stepO p=none):=show stepO p=_ by simp[stepO,fdsO,fagO,fcuO,e72_1,e72_2,e72_3,h2,h14,h28,h22,e29_3,e69_0]
          have ER:Hid (Ending.returned (.tuple #[.agg (p).cs,.bool false])=Ending.returned (.tuple #[.agg (tellO p (stepO p)).cs,.bool (stepO p).isSome])):=show Ending.returned _=_ by rw[EQ.out];rfl
          clear EQ;clear e29_3;obtain⟨K69,g69⟩:∃K,p.nm 69=K:=⟨_,rfl⟩;rw[g69] at c69 e69_0;have q69_0:(K69==0)=false:=by simp[e69_0]
          have n69_0:(K69 != 0)=true:=by simp[e69_0]
          clear g69;clear e72_1;clear e72_2;clear e72_3;clear h2 h14 h28 h22;go_enter func114,ntmps114;obtain⟨U,sU,G0⟩:=H0.out.tell p;have G:=hd1 G0;clear G0 H0
          go_wp2_with (with_reducible exact z_j results114 rfl rfl rfl G.out.1 ⟨ER.out,G.out.2⟩)
        ·skip
         have EQ:Hid (stepO p=none):=show stepO p=_ by simp[stepO,fdsO,fagO,fcuO,e72_1,e72_2,e72_3,h2,h14,h28,h22,e29_3]
         have ER:Hid (Ending.returned (.tuple #[.agg (p).cs,.bool false])=Ending.returned (.tuple #[.agg (tellO p (stepO p)).cs,.bool (stepO p).isSome])):=show Ending.returned _=_ by rw[EQ.out];rfl
         clear EQ;obtain⟨K29,g29⟩:∃K,p.nm 29=K:=⟨_,rfl⟩;rw[g29] at c29 e29_3;have q29_3:(K29==3)=false:=by simp[e29_3]
         have n29_3:(K29 != 3)=true:=by simp[e29_3]
         clear g29;clear e72_1;clear e72_2;clear e72_3;clear h2 h14 h28 h22;go_enter func114,ntmps114;obtain⟨U,sU,G0⟩:=H0.out.tell p;have G:=hd1 G0;clear G0 H0
         go_wp2_with (with_reducible exact z_j results114 rfl rfl rfl G.out.1 ⟨ER.out,G.out.2⟩)
       ·rw[h22] at c22;have EQ:Hid (stepO p=some (updP p)):=show stepO p=_ by simp[stepO,fdsO,fagO,fcuO,e72_1,e72_2,e72_3,h2,h14,h28,h22]
        have ER:Hid (Ending.returned (.tuple #[.agg (updP p).cs,.bool true])=Ending.returned (.tuple #[.agg (tellO p (stepO p)).cs,.bool (stepO p).isSome])):=show Ending.returned _=_ by rw[EQ.out];rfl
        clear EQ;clear e72_1;clear e72_2;clear e72_3;clear h2 h14 h28 h22;go_enter func114,ntmps114
        go_wp2_with fail
        refine (x_q p W0).mono ?_;rintro _ V ⟨rfl,bV⟩;obtain⟨U,sU,G0⟩:=(H0.out.below bV).tell (updP p);have G:=hd1 G0;clear G0 H0 bV hW l0 c2 c14 c22 c28 c29 c69 c72
        go_wp2_with (with_reducible exact z_j results114 rfl rfl rfl G.out.1 ⟨ER.out,G.out.2⟩)
   ·skip
    have EQ:Hid (stepO p=some (disP p)):=show stepO p=_ by simp[stepO,fdsO,fagO,fcuO,e72_1,e72_2,e72_3]
    have ER:Hid (Ending.returned (.tuple #[.agg (disP p).cs,.bool true])=Ending.returned (.tuple #[.agg (tellO p (stepO p)).cs,.bool (stepO p).isSome])):=show Ending.returned _=_ by rw[EQ.out];rfl
    clear EQ;obtain⟨K72,g72⟩:∃K,p.nm 72=K:=⟨_,rfl⟩;rw[g72] at c72 e72_1 e72_2 e72_3;have q72_1:(K72==1)=false:=by simp[e72_1]
    have n72_1:(K72 != 1)=true:=by simp[e72_1]
    have q72_2:(K72==2)=false:=by simp[e72_2]
    have n72_2:(K72 != 2)=true:=by simp[e72_2]
    have q72_3:(K72==3)=false:=by simp[e72_3]
    have n72_3:(K72 != 3)=true:=by simp[e72_3]
    clear g72;go_enter func114,ntmps114
    go_wp2_with fail
    refine (x_P p W0).mono ?_;rintro _ V ⟨rfl,bV⟩;obtain⟨U,sU,G0⟩:=(H0.out.below bV).tell (disP p);have G:=hd1 G0;clear G0 H0 bV hW l0 c2 c14 c22 c28 c29 c69 c72
    go_wp2_with (with_reducible exact z_j results114 rfl rfl rfl G.out.1 ⟨ER.out,G.out.2⟩)
end S11
end
section
namespace S11
open Go.RowKit
attribute [local go_sem ↓] ldP stP ldT stT apE st32 st4
end S11
end
section
namespace S11
open Go.RowKit
attribute [local go_sem ↓] ldP stP ldT stT apE st32 st4
end S11
end
section
namespace S11
open Go.RowKit
attribute [local go_sem ↓] ldP stP ldT stT apE st32
theorem z_M (h:Hd) (a:Option Addr) (n c:Nat) (i:Int) (w:World) (hn:n≤1000) :
  Calls prog 67 #[.agg (trc h (.slice a n c)),.int .i64 i] w fun r w'=>r=.returned (.bool (decide (0≤i) && decide (i<n)))∧Below w.heap.size w w':=by
 obtain⟨W,hW,r0,bW,zW⟩:=y_S w h (.slice a n c);have c16:=r0.t16;have F:=hd1 bW;clear r0 bW zW;go_enter func67,ntmps67;by_cases h1:0≤i
 ·by_cases h2:i<(n:Int)
  ·go_wp2
   go_ret;exact⟨by simp[h1,h2],F.out⟩
  ·go_wp2
   go_ret;exact⟨by simp[h1,h2],F.out⟩
 ·go_wp2
  go_ret;exact⟨by simp;omega,F.out⟩
attribute [local go_sem] v_o z_ad
theorem z_gd (h:Hd) (a:Option Addr) (n c:Nat) (l:List Pt) (k:Nat) (p:Pt) (w:World) (hs:SlAt w a n c l) (hn:n≤1000) (hk:k<n) :
  Calls prog 68 #[.agg (trc h (.slice a n c)),.int .i64 (k:Int),.agg p.cs] w fun r w'=>∃g c',r=.returned (.agg (trc h (.slice (some ⟨g,0,none⟩) n c')))∧w.heap.size≤g∧SlAt w' (some ⟨g,0,none⟩) n c' (l.set k p)∧Below w.heap.size w w':=by
 obtain⟨W,hW,r0,rp,r1,bW,zW⟩:=z_at w h (.slice a n c) p;have c16:=r0.t16;have H:=hd8 (hs.below bW) hn hs.len r0 r1 bW zW rp;clear hs hn r0 r1 bW zW rp;go_enter func68,ntmps68
 go_wp2_with fail
 refine (y_F a n c l W H.out.1 H.out.2.1).mono ?_;rintro _ W2 ⟨v,rfl,o2,b2⟩;have z2:=H.out.2.2.2.2.2.2.1;have hl:=H.out.2.2.1;obtain⟨W3,s3,r3,g3⟩:=(H.out.2.2.2.1.below b2).tset o2.one;have o3:=o2.keptBut g3 (o2.apart (by omega));have q3:=(H.out.2.2.2.2.1.below b2).keptBut g3 (by simp only[ne_eq,Option.some.injEq];omega)
 have p3:=(H.out.2.2.2.2.2.2.2.below b2).keptBut g3 (by simp only[ne_eq,Option.some.injEq];omega);have b3:Below w.heap.size w W3:=gro (z_a H.out.2.2.2.2.2.1 b2) g3 (Nat.le_refl _) (by have:=b2.size;omega);have lp:=p3.pld;have hin0:(0:Int)≤(k:Int):=by omega
 have hin1:(k:Int)<(n:Int):=by omega
 clear b2 g3 o2 c16 hW;rcases o3.pat with ⟨hv,hle⟩ | ⟨g,cc,hv,hg,hp⟩
 ·rw[hle] at hl;simp at hl;omega
 ·rw[hl] at hv;subst hv;have c16:=r3.t16;obtain⟨V,sV,pV,gV⟩:=hp.stp (i:=k) (p:=p) (by omega) rfl;have r5:=r3.keptBut gV (by simp;omega);have q5:=q3.keptBut gV (by simp;omega);have l5:=r5.tld;obtain⟨W6,s6,r6,g6⟩:=q5.tst (g:=h) (y:=.slice (some ⟨g,0,none⟩) n cc) rfl;have p6:=pV.keptBut g6 (by simp;omega)
  have b6:Below w.heap.size w W6:=gro (gro b3 gV (by omega) b3.size) g6 (by omega) (by have:=b3.size;have:=gV.size;omega);have s6':=p6.sl;rw[List.length_set,hl] at s6';have F:Hid (RvAt W6 (w.heap.size+1+1) 39 (trc h (.slice (some ⟨g,0,none⟩) n cc))∧w.heap.size≤g∧SlAt W6 (some ⟨g,0,none⟩) n cc (l.set k p)∧Below w.heap.size w W6):=⟨r6,by omega,s6',b6⟩
  clear hp pV gV r5 q5 r6 g6 p6 b6 s6' hg r3 q3 p3 b3 o3 hl z2 hk;go_wp2
  refine bodyPost_ret (z_e rtT results68 _ _ _ _ rfl F.out.1 (z_c _ _)) rfl ?_;exact⟨g,cc,rfl,F.out.2⟩
end S11
end
section
namespace S11
open Go.RowKit
def stepL (l:List Pt) (i:Int):List Pt:=if 0≤i∧i<l.length then l.set i.toNat (tellO (gtP l i.toNat) (stepO (gtP l i.toNat))) else l
def stepB (l:List Pt) (i:Int):Bool:=if 0≤i∧i<l.length then (stepO (gtP l i.toNat)).isSome else false
attribute [local go_sem ↓] ldP stP ldT stT ldM stM
attribute [local go_sem ↓] alP alM
attribute [local go_sem] z_l z_D
theorem v_l (h:Hd) (a:Option Addr) (n c:Nat) (l:List Pt) (i:Int) (w:World) (hs:SlAt w a n c l) (hn:n≤1000) :
  Calls prog 131 #[.agg (trc h (.slice a n c)),.int .i64 i] w fun r w'=>∃a' c',r=.returned (.tuple #[.agg (trc h (.slice a' n c')),.bool (stepB l i)])∧SlAt w' a' n c' (stepL l i)∧Below w.heap.size w w'∧Fro w a a':=by
 obtain⟨W,hW,r0,r1,bW,zW⟩:=z_w w h (.slice a n c);have l0:=r0.tld;have H:Hid (SlAt W a n c l∧n≤1000∧l.length=n∧TS w W w.heap.size (w.heap.size+1) h (.slice a n c)∧W.heap.size=w.heap.size+2):=⟨hs.below bW,hn,hs.len,⟨r0,r1,bW,by omega⟩,zW⟩;have LT:Hid (∀x,a=some x→0<n→x.block<w.heap.size):=fun x hx h0=>by
  obtain⟨b,o,e,hc⟩:=hs.cells x hx h0;subst e;have hl:=hs.len;have:=hc 0 _ (List.getElem?_eq_getElem (by rw[z_O];omega));exact World.block_lt_of_cell? w _ this
 clear hs r0 r1 bW zW;go_enter func131,ntmps131
 go_wp2_with fail
 refine (z_M h a n c i W hn).mono ?_;rintro _ W1 ⟨rfl,b1⟩;have H1:=hd2 (H.out.1.below b1) (H.out.2.2.2.1.below b1);clear b1 l0 hW;have keep:Hid (∀{V U:World},SlAt V a n c l→V.grownBy U (some (w.heap.size+1))→SlAt U a n c l):=fun hs g=>by
  by_cases h0:0<n
  ·exact hs.keptBut g (fun x hx e=>by have:=LT.out x hx h0;simp only[Option.some.injEq] at e;omega)
  ·have hl:=hs.len;have hle:l=[]:=List.eq_nil_of_length_eq_zero (by omega);subst hle;exact⟨⟨hs.len,hs.cap,hs.max,hs.nil,fun x _ h1=>absurd h1 h0⟩,fun x _ h1=>absurd h1 h0⟩
 by_cases hi:0≤i∧i<(n:Int)
 ·have eb:(decide (0≤i) && decide (i<(n:Int)))=true:=by simp;omega
  rw[eb];clear eb;obtain⟨k,hk⟩:∃k:Nat,i=(k:Int):=⟨i.toNat,by omega⟩;subst hk;have hkn:k<n:=by omega
  have hkl:k<l.length:=by rw[H.out.2.2.1];exact hkn
  have hin0:(0:Int)≤(k:Int):=by omega
  have hin1:(k:Int)<(n:Int):=by omega
  obtain⟨b,o,rfl⟩:=H1.out.1.some' (by omega);have c16:=H1.out.2.var.t16;have lp:=H1.out.1.ld (z_k hkl);have EL:Hid (stepL l (k:Int)=l.set k (tellO (gtP l k) (stepO (gtP l k)))∧stepB l (k:Int)=(stepO (gtP l k)).isSome∧l.set k (gtP l k)=l):=⟨by unfold stepL;rw[if_pos ⟨hin0,by omega⟩];rfl,by unfold stepB;rw[if_pos ⟨hin0,by omega⟩];rfl,y_d hkl⟩;obtain⟨p,hp⟩:∃p,gtP l k=p:=⟨_,rfl⟩;rw[hp] at lp EL
  clear hp hkl hi
  go_wp2_with fail
  refine (u_b p W1).mono ?_;rintro _ W2 ⟨rfl,b2⟩;obtain⟨W3,s3,r3,b3,z3⟩:=y_b W2 (tellO p (stepO p));have H3:Hid (SlAt W3 (some ⟨b,o,none⟩) n c l∧TS w W3 w.heap.size (w.heap.size+1) h (.slice (some ⟨b,o,none⟩) n c)∧RvAt W3 W2.heap.size 74 (tellO p (stepO p)).cs):=⟨(H1.out.1.below b2).below b3,(H1.out.2.below b2).below b3,r3⟩;have l3:=H3.out.2.1.var.tld;have lq:=r3.pld
  obtain⟨z,hz⟩:∃z,W2.heap.size=z:=⟨_,rfl⟩;rw[hz] at s3 lq;clear b2 r3 b3 z3 H1 c16 lp;obtain⟨x,hx⟩:∃x,stepO p=x:=⟨_,rfl⟩;rw[hx] at EL s3 lq H3 ⊢;clear hx;cases x with
  | none=>
   obtain⟨U,sU,h1,h2,g⟩:=H3.out.2.1.tell (y:=.slice (some ⟨b,o,none⟩) n c) rfl;have G:=hd3 h1 (keep.out H3.out.1 g) h2;clear h1 h2 g H3;simp only[Option.isSome_none];go_wp2
   refine bodyPost_ret (z_d rtT results131 _ _ _ _ rfl G.out.1 (z_c _ _)) rfl ?_;refine⟨some ⟨b,o,none⟩,c,?_,?_,G.out.2.2,Or.inl rfl⟩
   ·rw[EL.out.2.1];rfl
   ·rw[EL.out.1]
    show SlAt U _ _ _ (l.set k p)
    rw[EL.out.2.2];exact G.out.2.1
  | some q=>
   simp only[Option.isSome_some]
   go_wp2_with fail
   refine (z_gd h (some ⟨b,o,none⟩) n c l k (tellO p (some q)) W3 H3.out.1 hn hkn).mono ?_;rintro _ W4 ⟨g',c',rfl,hg',s4,b4⟩;obtain⟨U,sU,h1,h2,g⟩:=(H3.out.2.1.below b4).tell (y:=.slice (some ⟨g',0,none⟩) n c') rfl;have hdl:=(H3.out.2.1).out.lt
   have G:Hid (RvAt U (w.heap.size+1) 39 (trc h (.slice (some ⟨g',0,none⟩) n c'))∧SlAt U (some ⟨g',0,none⟩) n c' (l.set k (tellO p (some q)))∧Below w.heap.size w U):=⟨h1,s4.keptBut g (fun x hx e=>by cases hx;simp only[Option.some.injEq] at e;omega),h2⟩;have FR:=hd1 (Nat.le_trans H3.out.2.1.bel.size hg');clear h1 h2 g H3 s4 b4 l3 lq s3 hdl hg';go_wp2
   refine bodyPost_ret (z_d rtT results131 _ _ _ _ rfl G.out.1 (z_c _ _)) rfl ?_;refine⟨some ⟨g',0,none⟩,c',?_,?_,G.out.2.2,Or.inr (Nw.of FR.out)⟩
   ·rw[EL.out.2.1];rfl
   ·rw[EL.out.1];exact G.out.2.1
 ·have eb:(decide (0≤i) && decide (i<(n:Int)))=false:=by simp;omega
  rw[eb];clear eb;have EL:Hid (stepL l i=l∧stepB l i=false):=⟨by unfold stepL;rw[if_neg (by have:=H.out.2.2.1;omega)],by unfold stepB;rw[if_neg (by have:=H.out.2.2.1;omega)]⟩;have l1:=H1.out.2.var.tld;obtain⟨U,sU,h1,h2,g⟩:=H1.out.2.tell (y:=.slice a n c) rfl;have G:=hd3 h1 (keep.out H1.out.1 g) h2;clear h1 h2 g H1 hi;go_wp2
  refine bodyPost_ret (z_d rtT results131 _ _ _ _ rfl G.out.1 (z_c _ _)) rfl ?_;refine⟨a,c,?_,?_,G.out.2.2,Or.inl rfl⟩
  ·rw[EL.out.2];rfl
  ·rw[EL.out.1];exact G.out.2.1
theorem x_e (h:Hd) (a:Option Addr) (n c:Nat) (l:List Pt) (i:Int) (w:World) (hs:SlAt w a n c l) (hn:n≤1000) :
  Calls prog 78 #[.agg (trc h (.slice a n c)),.int .i64 i] w fun r w'=>∃a' c',r=.returned (.tuple #[.agg (trc h (.slice a' n c')),.bool (stepB l i)])∧SlAt w' a' n c' (stepL l i)∧Below w.heap.size w w':=by
 obtain⟨W,hW,r0,r1,bW,zW⟩:=z_w w h (.slice a n c);have l0:=r0.tld;have H:Hid (SlAt W a n c l∧n≤1000∧l.length=n∧TS w W w.heap.size (w.heap.size+1) h (.slice a n c)∧W.heap.size=w.heap.size+2):=⟨hs.below bW,hn,hs.len,⟨r0,r1,bW,by omega⟩,zW⟩;have LT:Hid (∀x,a=some x→0<n→x.block<w.heap.size):=fun x hx h0=>by
  obtain⟨b,o,e,hc⟩:=hs.cells x hx h0;subst e;have hl:=hs.len;have:=hc 0 _ (List.getElem?_eq_getElem (by rw[z_O];omega));exact World.block_lt_of_cell? w _ this
 clear hs r0 r1 bW zW;go_enter func78,ntmps78
 go_wp2_with fail
 refine (w_k h a n c i W hn).mono ?_;rintro _ W1 ⟨rfl,b1⟩;have H1:=hd2 (H.out.1.below b1) (H.out.2.2.2.1.below b1);clear b1 l0 hW;have keep:Hid (∀{V U:World},SlAt V a n c l→V.grownBy U (some (w.heap.size+1))→SlAt U a n c l):=fun hs g=>by
  by_cases h0:0<n
  ·exact hs.keptBut g (fun x hx e=>by have:=LT.out x hx h0;simp only[Option.some.injEq] at e;omega)
  ·have hl:=hs.len;have hle:l=[]:=List.eq_nil_of_length_eq_zero (by omega);subst hle;exact⟨⟨hs.len,hs.cap,hs.max,hs.nil,fun x _ h1=>absurd h1 h0⟩,fun x _ h1=>absurd h1 h0⟩
 by_cases hi:0≤i∧i<(n:Int)
 ·have eb:(decide (0≤i) && decide (i<(n:Int)))=true:=by simp;omega
  rw[eb];clear eb;obtain⟨k,hk⟩:∃k:Nat,i=(k:Int):=⟨i.toNat,by omega⟩;subst hk;have hkn:k<n:=by omega
  have hkl:k<l.length:=by rw[H.out.2.2.1];exact hkn
  have hin0:(0:Int)≤(k:Int):=by omega
  have hin1:(k:Int)<(n:Int):=by omega
  obtain⟨b,o,rfl⟩:=H1.out.1.some' (by omega);have c16:=H1.out.2.var.t16;have lp:=H1.out.1.ld (z_k hkl);have EL:Hid (stepL l (k:Int)=l.set k (tellO (gtP l k) (stepO (gtP l k)))∧stepB l (k:Int)=(stepO (gtP l k)).isSome∧l.set k (gtP l k)=l):=⟨by unfold stepL;rw[if_pos ⟨hin0,by omega⟩];rfl,by unfold stepB;rw[if_pos ⟨hin0,by omega⟩];rfl,y_d hkl⟩;obtain⟨p,hp⟩:∃p,gtP l k=p:=⟨_,rfl⟩;rw[hp] at lp EL
  clear hp hkl hi
  go_wp2_with fail
  refine (z_aL p W1).mono ?_;rintro _ W2 ⟨rfl,b2⟩;obtain⟨W3,s3,r3,b3,z3⟩:=y_b W2 (tellO p (stepO p));have H3:Hid (SlAt W3 (some ⟨b,o,none⟩) n c l∧TS w W3 w.heap.size (w.heap.size+1) h (.slice (some ⟨b,o,none⟩) n c)∧RvAt W3 W2.heap.size 74 (tellO p (stepO p)).cs):=⟨(H1.out.1.below b2).below b3,(H1.out.2.below b2).below b3,r3⟩;have l3:=H3.out.2.1.var.tld;have lq:=r3.pld
  obtain⟨z,hz⟩:∃z,W2.heap.size=z:=⟨_,rfl⟩;rw[hz] at s3 lq;clear b2 r3 b3 z3 H1 c16 lp;obtain⟨x,hx⟩:∃x,stepO p=x:=⟨_,rfl⟩;rw[hx] at EL s3 lq H3 ⊢;clear hx;cases x with
  | none=>
   obtain⟨U,sU,h1,h2,g⟩:=H3.out.2.1.tell (y:=.slice (some ⟨b,o,none⟩) n c) rfl;have G:=hd3 h1 (keep.out H3.out.1 g) h2;clear h1 h2 g H3;simp only[Option.isSome_none];go_wp2
   refine bodyPost_ret (z_d rtT results78 _ _ _ _ rfl G.out.1 (z_c _ _)) rfl ?_;refine⟨some ⟨b,o,none⟩,c,?_,?_,G.out.2.2⟩
   ·rw[EL.out.2.1];rfl
   ·rw[EL.out.1]
    show SlAt U _ _ _ (l.set k p)
    rw[EL.out.2.2];exact G.out.2.1
  | some q=>
   simp only[Option.isSome_some]
   go_wp2_with fail
   refine (z_o h (some ⟨b,o,none⟩) n c l k (tellO p (some q)) W3 H3.out.1 hn hkn).mono ?_;rintro _ W4 ⟨g',c',rfl,hg',s4,b4⟩;obtain⟨U,sU,h1,h2,g⟩:=(H3.out.2.1.below b4).tell (y:=.slice (some ⟨g',0,none⟩) n c') rfl;have hdl:=(H3.out.2.1).out.lt
   have G:Hid (RvAt U (w.heap.size+1) 39 (trc h (.slice (some ⟨g',0,none⟩) n c'))∧SlAt U (some ⟨g',0,none⟩) n c' (l.set k (tellO p (some q)))∧Below w.heap.size w U):=⟨h1,s4.keptBut g (fun x hx e=>by cases hx;simp only[Option.some.injEq] at e;omega),h2⟩;clear h1 h2 g H3 s4 b4 l3 lq s3 hdl hg';go_wp2
   refine bodyPost_ret (z_d rtT results78 _ _ _ _ rfl G.out.1 (z_c _ _)) rfl ?_;refine⟨some ⟨g',0,none⟩,c',?_,?_,G.out.2.2⟩
   ·rw[EL.out.2.1];rfl
   ·rw[EL.out.1];exact G.out.2.1
 ·have eb:(decide (0≤i) && decide (i<(n:Int)))=false:=by simp;omega
  rw[eb];clear eb;have EL:Hid (stepL l i=l∧stepB l i=false):=⟨by unfold stepL;rw[if_neg (by have:=H.out.2.2.1;omega)],by unfold stepB;rw[if_neg (by have:=H.out.2.2.1;omega)]⟩;have l1:=H1.out.2.var.tld;obtain⟨U,sU,h1,h2,g⟩:=H1.out.2.tell (y:=.slice a n c) rfl;have G:=hd3 h1 (keep.out H1.out.1 g) h2;clear h1 h2 g H1 hi;go_wp2
  refine bodyPost_ret (z_d rtT results78 _ _ _ _ rfl G.out.1 (z_c _ _)) rfl ?_;refine⟨a,c,?_,?_,G.out.2.2⟩
  ·rw[EL.out.2];rfl
  ·rw[EL.out.1];exact G.out.2.1
end S11
end
end Go.Proofs.YtlchejbggnbccaaGreat
