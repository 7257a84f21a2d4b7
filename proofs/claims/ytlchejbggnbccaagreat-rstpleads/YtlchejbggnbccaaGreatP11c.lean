/-
  Steps of a port: the walks of fromDisabled, fromAged, fromCurrent and step, each for every port. And what follows from it here.
-/
import Derived.Test.YtlchejbggnbccaaGreatPbb
import Derived.Test.YtlchejbggnbccaaGreatP11b
namespace Go.Proofs.YtlchejbggnbccaaGreat
set_option linter.unusedVariables false
set_option linter.unusedSimpArgs false
set_option maxRecDepth 4000
set_option maxHeartbeats 40000000
open _root_.Go.Proofs.Tryz
section
namespace S11
open Go.RowKit
attribute [local go_sem ↓] ldP stP ldM stM ldTm stTm ldV stV stB stU stI stW
attribute [local go_sem ↓] alP alM
attribute [local go_sem] z_l z_D
theorem z_eO (p:Pt) (w:World) :
  Calls prog 201 #[.agg p.cs] w fun r w'=>r=.returned (.tuple #[.agg (tellO p (fdsO p)).cs,.bool (fdsO p).isSome])∧Below w.heap.size w w':=by
 obtain⟨W0,hW,S0⟩:=PS.start w p;have l0:=S0.ld;have c2:=S0.var.bit (j:=2) rfl;have c14:=S0.var.bit (j:=14) rfl;have H0:=hd1 S0;clear S0;cases h2:p.bt 2
 ·rw[h2] at c2;cases h14:p.bt 14
  ·rw[h14] at c14;have EQ:Hid (fdsO p=none):=show fdsO p=_ by simp[fdsO,h2,h14]
   have ER:Hid (Ending.returned (.tuple #[.agg (p).cs,.bool false])=Ending.returned (.tuple #[.agg (tellO p (fdsO p)).cs,.bool (fdsO p).isSome])):=show Ending.returned _=_ by rw[EQ.out];rfl
   clear EQ;clear h2 h14;go_enter func201,ntmps201;obtain⟨U,sU,G0⟩:=H0.out.tell p;have G:=hd1 G0;clear G0 H0
   go_wp2_with (with_reducible exact z_j results201 rfl rfl rfl G.out.1 ⟨ER.out,G.out.2⟩)
  ·rw[h14] at c14;have EQ:Hid (fdsO p=some (disP p)):=show fdsO p=_ by simp[fdsO,h2,h14]
   have ER:Hid (Ending.returned (.tuple #[.agg (disP p).cs,.bool true])=Ending.returned (.tuple #[.agg (tellO p (fdsO p)).cs,.bool (fdsO p).isSome])):=show Ending.returned _=_ by rw[EQ.out];rfl
   clear EQ;clear h2 h14;go_enter func201,ntmps201
   go_wp2_with fail
   refine (u_I p W0).mono ?_;rintro _ V ⟨rfl,bV⟩;obtain⟨U,sU,G0⟩:=(H0.out.below bV).tell (disP p);have G:=hd1 G0;clear G0 H0 bV hW l0 c2 c14
   go_wp2_with (with_reducible exact z_j results201 rfl rfl rfl G.out.1 ⟨ER.out,G.out.2⟩)
 ·rw[h2] at c2;have EQ:Hid (fdsO p=some (agdP p)):=show fdsO p=_ by simp[fdsO,h2]
  have ER:Hid (Ending.returned (.tuple #[.agg (agdP p).cs,.bool true])=Ending.returned (.tuple #[.agg (tellO p (fdsO p)).cs,.bool (fdsO p).isSome])):=show Ending.returned _=_ by rw[EQ.out];rfl
  clear EQ;clear h2;go_enter func201,ntmps201
  go_wp2_with fail
  refine (z_bb p W0).mono ?_;rintro _ V ⟨rfl,bV⟩;obtain⟨U,sU,G0⟩:=(H0.out.below bV).tell (agdP p);have G:=hd1 G0;clear G0 H0 bV hW l0 c2 c14
  go_wp2_with (with_reducible exact z_j results201 rfl rfl rfl G.out.1 ⟨ER.out,G.out.2⟩)
theorem z_eQ (p:Pt) (w:World) :
  Calls prog 202 #[.agg p.cs] w fun r w'=>r=.returned (.tuple #[.agg (tellO p (fagO p)).cs,.bool (fagO p).isSome])∧Below w.heap.size w w':=by
 obtain⟨W0,hW,S0⟩:=PS.start w p;have l0:=S0.ld;have c22:=S0.var.bit (j:=22) rfl;have c28:=S0.var.bit (j:=28) rfl;have H0:=hd1 S0;clear S0;cases h22:p.bt 22
 ·rw[h22] at c22;have EQ:Hid (fagO p=none):=show fagO p=_ by simp[fagO,h22]
  have ER:Hid (Ending.returned (.tuple #[.agg (p).cs,.bool false])=Ending.returned (.tuple #[.agg (tellO p (fagO p)).cs,.bool (fagO p).isSome])):=show Ending.returned _=_ by rw[EQ.out];rfl
  clear EQ;clear h22;go_enter func202,ntmps202;obtain⟨U,sU,G0⟩:=H0.out.tell p;have G:=hd1 G0;clear G0 H0
  go_wp2_with (with_reducible exact z_j results202 rfl rfl rfl G.out.1 ⟨ER.out,G.out.2⟩)
 ·rw[h22] at c22;cases h28:p.bt 28
  ·rw[h28] at c28;have EQ:Hid (fagO p=none):=show fagO p=_ by simp[fagO,h22,h28]
   have ER:Hid (Ending.returned (.tuple #[.agg (p).cs,.bool false])=Ending.returned (.tuple #[.agg (tellO p (fagO p)).cs,.bool (fagO p).isSome])):=show Ending.returned _=_ by rw[EQ.out];rfl
   clear EQ;clear h22 h28;go_enter func202,ntmps202;obtain⟨U,sU,G0⟩:=H0.out.tell p;have G:=hd1 G0;clear G0 H0
   go_wp2_with (with_reducible exact z_j results202 rfl rfl rfl G.out.1 ⟨ER.out,G.out.2⟩)
  ·rw[h28] at c28;have EQ:Hid (fagO p=some (updP p)):=show fagO p=_ by simp[fagO,h22,h28]
   have ER:Hid (Ending.returned (.tuple #[.agg (updP p).cs,.bool true])=Ending.returned (.tuple #[.agg (tellO p (fagO p)).cs,.bool (fagO p).isSome])):=show Ending.returned _=_ by rw[EQ.out];rfl
   clear EQ;clear h22 h28;go_enter func202,ntmps202
   go_wp2_with fail
   refine (z_as p W0).mono ?_;rintro _ V ⟨rfl,bV⟩;obtain⟨U,sU,G0⟩:=(H0.out.below bV).tell (updP p);have G:=hd1 G0;clear G0 H0 bV hW l0 c22 c28
   go_wp2_with (with_reducible exact z_j results202 rfl rfl rfl G.out.1 ⟨ER.out,G.out.2⟩)
theorem z_eP (p:Pt) (w:World) :
  Calls prog 203 #[.agg p.cs] w fun r w'=>r=.returned (.tuple #[.agg (tellO p (fcuO p)).cs,.bool (fcuO p).isSome])∧Below w.heap.size w w':=by
 obtain⟨W0,hW,S0⟩:=PS.start w p;have l0:=S0.ld;have c14:=S0.var.bit (j:=14) rfl;have c22:=S0.var.bit (j:=22) rfl;have c28:=S0.var.bit (j:=28) rfl;have c29:=S0.var.num (j:=29) (k:=.i64) rfl;have c69:=S0.var.num (j:=69) (k:=.u8) rfl;have H0:=hd1 S0;clear S0;cases h14:p.bt 14
 ·rw[h14] at c14;cases h22:p.bt 22
  ·rw[h22] at c22;by_cases e29_3:p.nm 29=3
   ·rw[e29_3] at c29;by_cases e69_0:p.nm 69=0
    ·rw[e69_0] at c69;cases h28:p.bt 28
     ·rw[h28] at c28;have EQ:Hid (fcuO p=some (agdP p)):=show fcuO p=_ by simp[fcuO,h14,h22,e29_3,e69_0,h28]
      have ER:Hid (Ending.returned (.tuple #[.agg (agdP p).cs,.bool true])=Ending.returned (.tuple #[.agg (tellO p (fcuO p)).cs,.bool (fcuO p).isSome])):=show Ending.returned _=_ by rw[EQ.out];rfl
      clear EQ;clear e29_3;clear e69_0;clear h14 h22 h28;go_enter func203,ntmps203
      go_wp2_with fail
      refine (z_bb p W0).mono ?_;rintro _ V ⟨rfl,bV⟩;obtain⟨U,sU,G0⟩:=(H0.out.below bV).tell (agdP p);have G:=hd1 G0;clear G0 H0 bV hW l0 c14 c22 c28 c29 c69
      go_wp2_with (with_reducible exact z_j results203 rfl rfl rfl G.out.1 ⟨ER.out,G.out.2⟩)
     ·rw[h28] at c28;have EQ:Hid (fcuO p=none):=show fcuO p=_ by simp[fcuO,h14,h22,e29_3,e69_0,h28]
      have ER:Hid (Ending.returned (.tuple #[.agg (p).cs,.bool false])=Ending.returned (.tuple #[.agg (tellO p (fcuO p)).cs,.bool (fcuO p).isSome])):=show Ending.returned _=_ by rw[EQ.out];rfl
      clear EQ;clear e29_3;clear e69_0;clear h14 h22 h28;go_enter func203,ntmps203;obtain⟨U,sU,G0⟩:=H0.out.tell p;have G:=hd1 G0;clear G0 H0
      go_wp2_with (with_reducible exact z_j results203 rfl rfl rfl G.out.1 ⟨ER.out,G.out.2⟩)
    ·skip
     have EQ:Hid (fcuO p=none):=show fcuO p=_ by simp[fcuO,h14,h22,e29_3,e69_0]
     have ER:Hid (Ending.returned (.tuple #[.agg (p).cs,.bool false])=Ending.returned (.tuple #[.agg (tellO p (fcuO p)).cs,.bool (fcuO p).isSome])):=show Ending.returned _=_ by rw[EQ.out];rfl
     clear EQ;clear e29_3;obtain⟨K69,g69⟩:∃K,p.nm 69=K:=⟨_,rfl⟩;rw[g69] at c69 e69_0;have q69_0:(K69==0)=false:=by simp[e69_0]
     have n69_0:(K69 != 0)=true:=by simp[e69_0]
     clear g69;clear h14 h22;go_enter func203,ntmps203;obtain⟨U,sU,G0⟩:=H0.out.tell p;have G:=hd1 G0;clear G0 H0
     go_wp2_with (with_reducible exact z_j results203 rfl rfl rfl G.out.1 ⟨ER.out,G.out.2⟩)
   ·skip
    have EQ:Hid (fcuO p=none):=show fcuO p=_ by simp[fcuO,h14,h22,e29_3]
    have ER:Hid (Ending.returned (.tuple #[.agg (p).cs,.bool false])=Ending.returned (.tuple #[.agg (tellO p (fcuO p)).cs,.bool (fcuO p).isSome])):=show Ending.returned _=_ by rw[EQ.out];rfl
    clear EQ;obtain⟨K29,g29⟩:∃K,p.nm 29=K:=⟨_,rfl⟩;rw[g29] at c29 e29_3;have q29_3:(K29==3)=false:=by simp[e29_3]
    have n29_3:(K29 != 3)=true:=by simp[e29_3]
    clear g29;clear h14 h22;go_enter func203,ntmps203;obtain⟨U,sU,G0⟩:=H0.out.tell p;have G:=hd1 G0;clear G0 H0
    go_wp2_with (with_reducible exact z_j results203 rfl rfl rfl G.out.1 ⟨ER.out,G.out.2⟩)
  ·rw[h22] at c22;cases h28:p.bt 28
   ·rw[h28] at c28;by_cases e29_3:p.nm 29=3
    ·rw[e29_3] at c29;by_cases e69_0:p.nm 69=0
     ·rw[e69_0] at c69;have EQ:Hid (fcuO p=some (agdP p)):=show fcuO p=_ by simp[fcuO,h14,h22,h28,e29_3,e69_0]
      have ER:Hid (Ending.returned (.tuple #[.agg (agdP p).cs,.bool true])=Ending.returned (.tuple #[.agg (tellO p (fcuO p)).cs,.bool (fcuO p).isSome])):=show Ending.returned _=_ by rw[EQ.out];rfl
      clear EQ;clear e29_3;clear e69_0;clear h14 h22 h28;go_enter func203,ntmps203
      go_wp2_with fail
      refine (z_bb p W0).mono ?_;rintro _ V ⟨rfl,bV⟩;obtain⟨U,sU,G0⟩:=(H0.out.below bV).tell (agdP p);have G:=hd1 G0;clear G0 H0 bV hW l0 c14 c22 c28 c29 c69
      go_wp2_with (with_reducible exact z_j results203 rfl rfl rfl G.out.1 ⟨ER.out,G.out.2⟩)
     ·skip
      have EQ:Hid (fcuO p=none):=show fcuO p=_ by simp[fcuO,h14,h22,h28,e29_3,e69_0]
      have ER:Hid (Ending.returned (.tuple #[.agg (p).cs,.bool false])=Ending.returned (.tuple #[.agg (tellO p (fcuO p)).cs,.bool (fcuO p).isSome])):=show Ending.returned _=_ by rw[EQ.out];rfl
      clear EQ;clear e29_3;obtain⟨K69,g69⟩:∃K,p.nm 69=K:=⟨_,rfl⟩;rw[g69] at c69 e69_0;have q69_0:(K69==0)=false:=by simp[e69_0]
      have n69_0:(K69 != 0)=true:=by simp[e69_0]
      clear g69;clear h14 h22 h28;go_enter func203,ntmps203;obtain⟨U,sU,G0⟩:=H0.out.tell p;have G:=hd1 G0;clear G0 H0
      go_wp2_with (with_reducible exact z_j results203 rfl rfl rfl G.out.1 ⟨ER.out,G.out.2⟩)
    ·skip
     have EQ:Hid (fcuO p=none):=show fcuO p=_ by simp[fcuO,h14,h22,h28,e29_3]
     have ER:Hid (Ending.returned (.tuple #[.agg (p).cs,.bool false])=Ending.returned (.tuple #[.agg (tellO p (fcuO p)).cs,.bool (fcuO p).isSome])):=show Ending.returned _=_ by rw[EQ.out];rfl
     clear EQ;obtain⟨K29,g29⟩:∃K,p.nm 29=K:=⟨_,rfl⟩;rw[g29] at c29 e29_3;have q29_3:(K29==3)=false:=by simp[e29_3]
     have n29_3:(K29 != 3)=true:=by simp[e29_3]
     clear g29;clear h14 h22 h28;go_enter func203,ntmps203;obtain⟨U,sU,G0⟩:=H0.out.tell p;have G:=hd1 G0;clear G0 H0
     go_wp2_with (with_reducible exact z_j results203 rfl rfl rfl G.out.1 ⟨ER.out,G.out.2⟩)
   ·rw[h28] at c28;have EQ:Hid (fcuO p=some (updP p)):=show fcuO p=_ by simp[fcuO,h14,h22,h28]
    have ER:Hid (Ending.returned (.tuple #[.agg (updP p).cs,.bool true])=Ending.returned (.tuple #[.agg (tellO p (fcuO p)).cs,.bool (fcuO p).isSome])):=show Ending.returned _=_ by rw[EQ.out];rfl
    clear EQ;clear h14 h22 h28;go_enter func203,ntmps203
    go_wp2_with fail
    refine (z_as p W0).mono ?_;rintro _ V ⟨rfl,bV⟩;obtain⟨U,sU,G0⟩:=(H0.out.below bV).tell (updP p);have G:=hd1 G0;clear G0 H0 bV hW l0 c14 c22 c28 c29 c69
    go_wp2_with (with_reducible exact z_j results203 rfl rfl rfl G.out.1 ⟨ER.out,G.out.2⟩)
 ·rw[h14] at c14;cases h28:p.bt 28
  ·rw[h28] at c28;have EQ:Hid (fcuO p=some (recP p)):=show fcuO p=_ by simp[fcuO,h14,h28]
   have ER:Hid (Ending.returned (.tuple #[.agg (recP p).cs,.bool true])=Ending.returned (.tuple #[.agg (tellO p (fcuO p)).cs,.bool (fcuO p).isSome])):=show Ending.returned _=_ by rw[EQ.out];rfl
   clear EQ;clear h14 h28;go_enter func203,ntmps203
   go_wp2_with fail
   refine (z_iY p W0).mono ?_;rintro _ V ⟨rfl,bV⟩;obtain⟨U,sU,G0⟩:=(H0.out.below bV).tell (recP p);have G:=hd1 G0;clear G0 H0 bV hW l0 c14 c22 c28 c29 c69
   go_wp2_with (with_reducible exact z_j results203 rfl rfl rfl G.out.1 ⟨ER.out,G.out.2⟩)
  ·rw[h28] at c28;cases h22:p.bt 22
   ·rw[h22] at c22;by_cases e29_3:p.nm 29=3
    ·rw[e29_3] at c29;by_cases e69_0:p.nm 69=0
     ·rw[e69_0] at c69;have EQ:Hid (fcuO p=none):=show fcuO p=_ by simp[fcuO,h14,h28,h22,e29_3,e69_0]
      have ER:Hid (Ending.returned (.tuple #[.agg (p).cs,.bool false])=Ending.returned (.tuple #[.agg (tellO p (fcuO p)).cs,.bool (fcuO p).isSome])):=show Ending.returned _=_ by rw[EQ.out];rfl
      clear EQ;clear e29_3;clear e69_0;clear h14 h28 h22;go_enter func203,ntmps203;obtain⟨U,sU,G0⟩:=H0.out.tell p;have G:=hd1 G0;clear G0 H0
      go_wp2_with (with_reducible exact z_j results203 rfl rfl rfl G.out.1 ⟨ER.out,G.out.2⟩)
     ·skip
      have EQ:Hid (fcuO p=none):=show fcuO p=_ by simp[fcuO,h14,h28,h22,e29_3,e69_0]
      have ER:Hid (Ending.returned (.tuple #[.agg (p).cs,.bool false])=Ending.returned (.tuple #[.agg (tellO p (fcuO p)).cs,.bool (fcuO p).isSome])):=show Ending.returned _=_ by rw[EQ.out];rfl
      clear EQ;clear e29_3;obtain⟨K69,g69⟩:∃K,p.nm 69=K:=⟨_,rfl⟩;rw[g69] at c69 e69_0;have q69_0:(K69==0)=false:=by simp[e69_0]
      have n69_0:(K69 != 0)=true:=by simp[e69_0]
      clear g69;clear h14 h28 h22;go_enter func203,ntmps203;obtain⟨U,sU,G0⟩:=H0.out.tell p;have G:=hd1 G0;clear G0 H0
      go_wp2_with (with_reducible exact z_j results203 rfl rfl rfl G.out.1 ⟨ER.out,G.out.2⟩)
    ·skip
     have EQ:Hid (fcuO p=none):=show fcuO p=_ by simp[fcuO,h14,h28,h22,e29_3]
     have ER:Hid (Ending.returned (.tuple #[.agg (p).cs,.bool false])=Ending.returned (.tuple #[.agg (tellO p (fcuO p)).cs,.bool (fcuO p).isSome])):=show Ending.returned _=_ by rw[EQ.out];rfl
     clear EQ;obtain⟨K29,g29⟩:∃K,p.nm 29=K:=⟨_,rfl⟩;rw[g29] at c29 e29_3;have q29_3:(K29==3)=false:=by simp[e29_3]
     have n29_3:(K29 != 3)=true:=by simp[e29_3]
     clear g29;clear h14 h28 h22;go_enter func203,ntmps203;obtain⟨U,sU,G0⟩:=H0.out.tell p;have G:=hd1 G0;clear G0 H0
     go_wp2_with (with_reducible exact z_j results203 rfl rfl rfl G.out.1 ⟨ER.out,G.out.2⟩)
   ·rw[h22] at c22;have EQ:Hid (fcuO p=some (updP p)):=show fcuO p=_ by simp[fcuO,h14,h28,h22]
    have ER:Hid (Ending.returned (.tuple #[.agg (updP p).cs,.bool true])=Ending.returned (.tuple #[.agg (tellO p (fcuO p)).cs,.bool (fcuO p).isSome])):=show Ending.returned _=_ by rw[EQ.out];rfl
    clear EQ;clear h14 h28 h22;go_enter func203,ntmps203
    go_wp2_with fail
    refine (z_as p W0).mono ?_;rintro _ V ⟨rfl,bV⟩;obtain⟨U,sU,G0⟩:=(H0.out.below bV).tell (updP p);have G:=hd1 G0;clear G0 H0 bV hW l0 c14 c22 c28 c29 c69
    go_wp2_with (with_reducible exact z_j results203 rfl rfl rfl G.out.1 ⟨ER.out,G.out.2⟩)
theorem u_b (p:Pt) (w:World) :
  Calls prog 165 #[.agg p.cs] w fun r w'=>r=.returned (.tuple #[.agg (tellO p (stepO p)).cs,.bool (stepO p).isSome])∧Below w.heap.size w w':=by
 obtain⟨W0,hW,S0⟩:=PS.start w p;have l0:=S0.ld;have c2:=S0.var.bit (j:=2) rfl;have c29:=S0.var.num (j:=29) (k:=.i64) rfl;have c72:=S0.var.num (j:=72) (k:=.i64) rfl;have H0:=hd1 S0;clear S0;cases h2:p.bt 2
 ·rw[h2] at c2;by_cases e29_0:p.nm 29=0
  ·rw[e29_0] at c29;by_cases e72_1:p.nm 72=1
   ·rw[e72_1] at c72;have EQ:Hid (stepO p=fdsO p):=show stepO p=_ by simp[stepO,h2,e29_0,e72_1]
    have ER:Hid (Ending.returned (.tuple #[.agg (tellO p (fdsO p)).cs,.bool (fdsO p).isSome])=Ending.returned (.tuple #[.agg (tellO p (stepO p)).cs,.bool (stepO p).isSome])):=show Ending.returned _=_ by rw[EQ.out]
    clear EQ;clear e29_0;clear e72_1;clear h2;go_enter func165,ntmps165
    go_wp2_with fail
    refine (z_eO p W0).mono ?_;rintro _ V ⟨rfl,bV⟩;obtain⟨U,sU,G0⟩:=(H0.out.below bV).tell (tellO p (fdsO p));have G:=hd1 G0;clear G0 H0 bV hW l0 c2 c29 c72
    go_wp2_with (with_reducible exact z_j results165 rfl rfl rfl G.out.1 ⟨ER.out,G.out.2⟩)
   ·skip
    by_cases e72_2:p.nm 72=2
    ·rw[e72_2] at c72;have EQ:Hid (stepO p=fagO p):=show stepO p=_ by simp[stepO,h2,e29_0,e72_1,e72_2]
     have ER:Hid (Ending.returned (.tuple #[.agg (tellO p (fagO p)).cs,.bool (fagO p).isSome])=Ending.returned (.tuple #[.agg (tellO p (stepO p)).cs,.bool (stepO p).isSome])):=show Ending.returned _=_ by rw[EQ.out]
     clear EQ;clear e29_0;clear e72_1;clear e72_2;clear h2;go_enter func165,ntmps165
     go_wp2_with fail
     refine (z_eQ p W0).mono ?_;rintro _ V ⟨rfl,bV⟩;obtain⟨U,sU,G0⟩:=(H0.out.below bV).tell (tellO p (fagO p));have G:=hd1 G0;clear G0 H0 bV hW l0 c2 c29 c72
     go_wp2_with (with_reducible exact z_j results165 rfl rfl rfl G.out.1 ⟨ER.out,G.out.2⟩)
    ·skip
     by_cases e72_3:p.nm 72=3
     ·rw[e72_3] at c72;have EQ:Hid (stepO p=fcuO p):=show stepO p=_ by simp[stepO,h2,e29_0,e72_1,e72_2,e72_3]
      have ER:Hid (Ending.returned (.tuple #[.agg (tellO p (fcuO p)).cs,.bool (fcuO p).isSome])=Ending.returned (.tuple #[.agg (tellO p (stepO p)).cs,.bool (stepO p).isSome])):=show Ending.returned _=_ by rw[EQ.out]
      clear EQ;clear e29_0;clear e72_1;clear e72_2;clear e72_3;clear h2;go_enter func165,ntmps165
      go_wp2_with fail
      refine (z_eP p W0).mono ?_;rintro _ V ⟨rfl,bV⟩;obtain⟨U,sU,G0⟩:=(H0.out.below bV).tell (tellO p (fcuO p));have G:=hd1 G0;clear G0 H0 bV hW l0 c2 c29 c72
      go_wp2_with (with_reducible exact z_j results165 rfl rfl rfl G.out.1 ⟨ER.out,G.out.2⟩)
     ·skip
      have EQ:Hid (stepO p=some (disP p)):=show stepO p=_ by simp[stepO,h2,e29_0,e72_1,e72_2,e72_3]
      have ER:Hid (Ending.returned (.tuple #[.agg (disP p).cs,.bool true])=Ending.returned (.tuple #[.agg (tellO p (stepO p)).cs,.bool (stepO p).isSome])):=show Ending.returned _=_ by rw[EQ.out];rfl
      clear EQ;clear e29_0;obtain⟨K72,g72⟩:∃K,p.nm 72=K:=⟨_,rfl⟩;rw[g72] at c72 e72_1 e72_2 e72_3;have q72_1:(K72==1)=false:=by simp[e72_1]
      have n72_1:(K72 != 1)=true:=by simp[e72_1]
      have q72_2:(K72==2)=false:=by simp[e72_2]
      have n72_2:(K72 != 2)=true:=by simp[e72_2]
      have q72_3:(K72==3)=false:=by simp[e72_3]
      have n72_3:(K72 != 3)=true:=by simp[e72_3]
      clear g72;clear h2;go_enter func165,ntmps165
      go_wp2_with fail
      refine (u_I p W0).mono ?_;rintro _ V ⟨rfl,bV⟩;obtain⟨U,sU,G0⟩:=(H0.out.below bV).tell (disP p);have G:=hd1 G0;clear G0 H0 bV hW l0 c2 c29 c72
      go_wp2_with (with_reducible exact z_j results165 rfl rfl rfl G.out.1 ⟨ER.out,G.out.2⟩)
  ·skip
   have EQ:Hid (stepO p=some (disP p)):=show stepO p=_ by simp[stepO,h2,e29_0]
   have ER:Hid (Ending.returned (.tuple #[.agg (disP p).cs,.bool true])=Ending.returned (.tuple #[.agg (tellO p (stepO p)).cs,.bool (stepO p).isSome])):=show Ending.returned _=_ by rw[EQ.out];rfl
   clear EQ;obtain⟨K29,g29⟩:∃K,p.nm 29=K:=⟨_,rfl⟩;rw[g29] at c29 e29_0;have q29_0:(K29==0)=false:=by simp[e29_0]
   have n29_0:(K29 != 0)=true:=by simp[e29_0]
   clear g29;clear h2;go_enter func165,ntmps165
   go_wp2_with fail
   refine (u_I p W0).mono ?_;rintro _ V ⟨rfl,bV⟩;obtain⟨U,sU,G0⟩:=(H0.out.below bV).tell (disP p);have G:=hd1 G0;clear G0 H0 bV hW l0 c2 c29 c72
   go_wp2_with (with_reducible exact z_j results165 rfl rfl rfl G.out.1 ⟨ER.out,G.out.2⟩)
 ·rw[h2] at c2;by_cases e72_1:p.nm 72=1
  ·rw[e72_1] at c72;have EQ:Hid (stepO p=fdsO p):=show stepO p=_ by simp[stepO,h2,e72_1]
   have ER:Hid (Ending.returned (.tuple #[.agg (tellO p (fdsO p)).cs,.bool (fdsO p).isSome])=Ending.returned (.tuple #[.agg (tellO p (stepO p)).cs,.bool (stepO p).isSome])):=show Ending.returned _=_ by rw[EQ.out]
   clear EQ;clear e72_1;clear h2;go_enter func165,ntmps165
   go_wp2_with fail
   refine (z_eO p W0).mono ?_;rintro _ V ⟨rfl,bV⟩;obtain⟨U,sU,G0⟩:=(H0.out.below bV).tell (tellO p (fdsO p));have G:=hd1 G0;clear G0 H0 bV hW l0 c2 c29 c72
   go_wp2_with (with_reducible exact z_j results165 rfl rfl rfl G.out.1 ⟨ER.out,G.out.2⟩)
  ·skip
   by_cases e72_2:p.nm 72=2
   ·rw[e72_2] at c72;have EQ:Hid (stepO p=fagO p):=show stepO p=_ by simp[stepO,h2,e72_1,e72_2]
    have ER:Hid (Ending.returned (.tuple #[.agg (tellO p (fagO p)).cs,.bool (fagO p).isSome])=Ending.returned (.tuple #[.agg (tellO p (stepO p)).cs,.bool (stepO p).isSome])):=show Ending.returned _=_ by rw[EQ.out]
    clear EQ;clear e72_1;clear e72_2;clear h2;go_enter func165,ntmps165
    go_wp2_with fail
    refine (z_eQ p W0).mono ?_;rintro _ V ⟨rfl,bV⟩;obtain⟨U,sU,G0⟩:=(H0.out.below bV).tell (tellO p (fagO p));have G:=hd1 G0;clear G0 H0 bV hW l0 c2 c29 c72
    go_wp2_with (with_reducible exact z_j results165 rfl rfl rfl G.out.1 ⟨ER.out,G.out.2⟩)
   ·skip
    by_cases e72_3:p.nm 72=3
    ·rw[e72_3] at c72;have EQ:Hid (stepO p=fcuO p):=show stepO p=_ by simp[stepO,h2,e72_1,e72_2,e72_3]
     have ER:Hid (Ending.returned (.tuple #[.agg (tellO p (fcuO p)).cs,.bool (fcuO p).isSome])=Ending.returned (.tuple #[.agg (tellO p (stepO p)).cs,.bool (stepO p).isSome])):=show Ending.returned _=_ by rw[EQ.out]
     clear EQ;clear e72_1;clear e72_2;clear e72_3;clear h2;go_enter func165,ntmps165
     go_wp2_with fail
     refine (z_eP p W0).mono ?_;rintro _ V ⟨rfl,bV⟩;obtain⟨U,sU,G0⟩:=(H0.out.below bV).tell (tellO p (fcuO p));have G:=hd1 G0;clear G0 H0 bV hW l0 c2 c29 c72
     go_wp2_with (with_reducible exact z_j results165 rfl rfl rfl G.out.1 ⟨ER.out,G.out.2⟩)
    ·skip
     have EQ:Hid (stepO p=some (disP p)):=show stepO p=_ by simp[stepO,h2,e72_1,e72_2,e72_3]
     have ER:Hid (Ending.returned (.tuple #[.agg (disP p).cs,.bool true])=Ending.returned (.tuple #[.agg (tellO p (stepO p)).cs,.bool (stepO p).isSome])):=show Ending.returned _=_ by rw[EQ.out];rfl
     clear EQ;obtain⟨K72,g72⟩:∃K,p.nm 72=K:=⟨_,rfl⟩;rw[g72] at c72 e72_1 e72_2 e72_3;have q72_1:(K72==1)=false:=by simp[e72_1]
     have n72_1:(K72 != 1)=true:=by simp[e72_1]
     have q72_2:(K72==2)=false:=by simp[e72_2]
     have n72_2:(K72 != 2)=true:=by simp[e72_2]
     have q72_3:(K72==3)=false:=by simp[e72_3]
     have n72_3:(K72 != 3)=true:=by simp[e72_3]
     clear g72;clear h2;go_enter func165,ntmps165
     go_wp2_with fail
     refine (u_I p W0).mono ?_;rintro _ V ⟨rfl,bV⟩;obtain⟨U,sU,G0⟩:=(H0.out.below bV).tell (disP p);have G:=hd1 G0;clear G0 H0 bV hW l0 c2 c29 c72
     go_wp2_with (with_reducible exact z_j results165 rfl rfl rfl G.out.1 ⟨ER.out,G.out.2⟩)
end S11
end
section
namespace S11
open Go.RowKit
attribute [local go_sem ↓] ldP stP ldM stM ldTm stTm ldV stV stB stU stI stW
attribute [local go_sem ↓] alP alM
attribute [local go_sem] z_l z_D
theorem x_P (p:Pt) (w:World) :
  Calls prog 150 #[.agg p.cs] w fun r w'=>r=.returned (.agg (disP p).cs)∧Below w.heap.size w w':=by
 obtain⟨W0,hW,S0⟩:=PS.start w p;obtain⟨W1,s1,S1⟩:=S0.setB kb14 false;obtain⟨W2,s2,S2⟩:=S1.setB kb13 false;obtain⟨W3,s3,S3⟩:=S2.setB kb12 false;obtain⟨W4,s4,S4⟩:=S3.setB kb3 false;obtain⟨W5,s5,S5⟩:=S4.setB kb4 false;obtain⟨W6,s6,S6⟩:=S5.setU ku69 (n:=0) (by omega);obtain⟨W7,s7,S7⟩:=S6.setN infoI kn29 wi0;obtain⟨W8,s8,S8⟩:=S7.setB kb21 true;obtain⟨W9,s9,S9⟩:=S8.setB kb22 false
 obtain⟨W10,s10,S10⟩:=S9.setN infoS kn72 wi1;rw[u_H p] at S10;have lX:=S10.ld;obtain⟨U,sU,G0⟩:=S10.tell (disP p);have G:=hd1 G0;clear G0 S0 S1 S2 S3 S4 S5 S6 S7 S8 S9 S10;go_enter func150,ntmps150
 go_wp2_with (with_reducible exact z_g results150 rfl rfl G.out.1 ⟨rfl,G.out.2⟩)
theorem u_j (p:Pt) (w:World) :
  Calls prog 151 #[.agg p.cs] w fun r w'=>r=.returned (.agg (agdP p).cs)∧Below w.heap.size w w':=by
 obtain⟨W0,hW,S0⟩:=PS.start w p;obtain⟨W1,s1,S1⟩:=S0.setN infoI kn29 wi1;obtain⟨W2,s2,S2⟩:=S1.setB kb21 true;obtain⟨W3,s3,S3⟩:=S2.setB kb22 false;obtain⟨W4,s4,S4⟩:=S3.setN infoS kn72 wi2;rw[z_kC p] at S4;have lX:=S4.ld;obtain⟨U,sU,G0⟩:=S4.tell (agdP p);have G:=hd1 G0;clear G0 S0 S1 S2 S3 S4;go_enter func151,ntmps151
 go_wp2_with (with_reducible exact z_g results151 rfl rfl G.out.1 ⟨rfl,G.out.2⟩)
theorem x_q (p:Pt) (w:World) :
  Calls prog 152 #[.agg p.cs] w fun r w'=>r=.returned (.agg (updP p).cs)∧Below w.heap.size w w':=by
 obtain⟨W0,hW,S0⟩:=PS.start w p;have c4:=S0.var.bit (j:=4) rfl;have l0:=S0.ld;obtain⟨A,hA⟩:∃A,updA p=A:=⟨_,rfl⟩;obtain⟨B,hB⟩:∃B,synP A=B:=⟨_,rfl⟩;have e:updP p=curP (ownP (clrP B)):=by rw[←hB,← hA];rfl
 rw[e]
 have key:∀V,PS w V w.heap.size (w.heap.size+1) p→∃V1,(stS 4 (.pointer (some ⟨w.heap.size,4,none⟩)) (.bool (p.bt 4 && bosP p 2))).run prog V=.ok () V1∧V1.cell? ⟨w.heap.size,25,none⟩=some (.bool (A.bt 25))∧V1.cell? ⟨w.heap.size,4,none⟩=some (.bool (A.bt 4))∧∃V2,(stS 4 (.pointer (some ⟨w.heap.size,25,none⟩)) (.bool (A.bt 25 && A.bt 4))).run prog V1=.ok () V2∧PS w V2 w.heap.size (w.heap.size+1) B:=fun V S=>by
  obtain⟨V1,s1,S1⟩:=S.setB kb4 (p.bt 4 && bosP p 2);have S1':PS w V1 w.heap.size (w.heap.size+1) A:=by rw[←hA];exact S1
  obtain⟨V2,s2,S2⟩:=S1'.setB kb25 (A.bt 25 && A.bt 4);exact⟨V1,s1,S1'.var.bit rfl,S1'.var.bit rfl,V2,s2,by rw[←hB];exact S2⟩
 have fin:∀V2,PS w V2 w.heap.size (w.heap.size+1) B→∃V3 V4 V5 V6 V7 V8 V9 V10 U,(stS 4 (.pointer (some ⟨w.heap.size,13,none⟩)) (.bool false)).run prog V2=.ok () V3∧(stS 4 (.pointer (some ⟨w.heap.size,12,none⟩)) (.bool false)).run prog V3=.ok () V4 ∧
   (ldS 36 (.pointer (some ⟨w.heap.size,32,none⟩))).run prog V4=.ok (.agg (dsg (clrP B)).cs) V4∧(ldS 24 (.pointer (some ⟨w.heap.size,40,none⟩))).run prog V4=.ok (.agg (dsgT (clrP B)).cs) V4 ∧
   (stS 36 (.pointer (some ⟨w.heap.size,36,none⟩)) (.agg (dsg (clrP B)).cs)).run prog V4=.ok () V5∧(stS 24 (.pointer (some ⟨w.heap.size,44,none⟩)) (.agg (dsgT (clrP B)).cs)).run prog V5=.ok () V6 ∧
   (stS 4 (.pointer (some ⟨w.heap.size,28,none⟩)) (.bool false)).run prog V6=.ok () V7∧(stS 71 (.pointer (some ⟨w.heap.size,29,none⟩)) (.int .i64 2)).run prog V7=.ok () V8∧(stS 4 (.pointer (some ⟨w.heap.size,11,none⟩)) (.bool true)).run prog V8=.ok () V9∧(stS 72 (.pointer (some ⟨w.heap.size,72,none⟩)) (.int .i64 3)).run prog V9=.ok () V10∧
   (ldS 74 (.pointer (some ⟨w.heap.size,0,none⟩))).run prog V10=.ok (.agg (curP (ownP (clrP B))).cs) V10∧(stS 74 (.pointer (some ⟨w.heap.size+1,0,none⟩)) (.agg (curP (ownP (clrP B))).cs)).run prog V10=.ok () U∧RvAt U (w.heap.size+1) 74 (curP (ownP (clrP B))).cs∧Below w.heap.size w U:=fun V2 S2=>by
  obtain⟨V3,s3,S3⟩:=S2.setB kb13 false;obtain⟨V4,s4,S4'⟩:=S3.setB kb12 false;have S4:PS w V4 w.heap.size (w.heap.size+1) (clrP B):=S4';obtain⟨V5,s5,S5⟩:=S4.putV (dsg (clrP B));obtain⟨V6,s6,S6'⟩:=S5.putT (dsgT (clrP B));have S6:PS w V6 w.heap.size (w.heap.size+1) (ownP (clrP B)):=S6';obtain⟨V7,s7,S7⟩:=S6.setB kb28 false;obtain⟨V8,s8,S8⟩:=S7.setN infoI kn29 wi2;obtain⟨V9,s9,S9⟩:=S8.setB kb11 true
  obtain⟨V10,s10,S10'⟩:=S9.setN infoS kn72 wi3;rw[z_kl] at S10';have S10:PS w V10 w.heap.size (w.heap.size+1) (curP (ownP (clrP B))):=S10';obtain⟨U,sU,h1,h2⟩:=S10.tell (curP (ownP (clrP B)));exact⟨V3,V4,V5,V6,V7,V8,V9,V10,U,s3,s4,S4.var.pdsg,S4.var.pdsT,s5,s6,s7,s8,s9,s10,S10.ld,sU,h1,h2⟩
 have K:=hd1 key;have L:=hd1 fin;have S:=hd1 S0;have E:Hid (∀b:Bool,(p.bt 4 && bosP p 2)=b→A.bt 4=b):=fun b hb=>by rw[←hA,← hb];exact y_h p kb4 _
 clear key fin S0 e hA hB;go_enter func152,ntmps152;cases h:p.bt 4
 ·rw[h] at c4;obtain⟨V1,t1,d25,d4,V2,t2,S2⟩:=K.out W0 S.out;rw[h,Bool.false_and] at t1;have e4:=E.out false (by rw[h];rfl);rw[e4,Bool.and_false] at t2;rw[e4] at d4;obtain⟨V3,V4,V5,V6,V7,V8,V9,V10,U,s3,s4,l1,l2,s5,s6,s7,s8,s9,s10,l3,sU,G0⟩:=L.out V2 S2;have G:=hd1 G0;clear G0 S2 S K L E h e4;cases h25:A.bt 25
  all_goals
   rw[h25] at d25;clear h25
   go_wp2_with (with_reducible exact z_g results152 rfl rfl G.out.1 ⟨rfl,G.out.2⟩)
 ·rw[h] at c4
  go_wp2_with fail
  refine (z_bq p 2 W0).mono ?_;rintro _ V0 ⟨rfl,bV⟩;obtain⟨V1,t1,d25,d4,V2,t2,S2⟩:=K.out V0 (S.out.below bV);rw[h,Bool.true_and] at t1;have e4:=E.out _ rfl;rw[h,Bool.true_and] at e4;rw[e4] at d4 t2;obtain⟨V3,V4,V5,V6,V7,V8,V9,V10,U,s3,s4,l1,l2,s5,s6,s7,s8,s9,s10,l3,sU,G0⟩:=L.out V2 S2;have G:=hd1 G0;obtain⟨y,hy⟩:∃y,bosP p 2=y:=⟨_,rfl⟩;rw[hy] at t1 t2 d4 ⊢;clear G0 S2 S K L E h e4 bV l0 c4 hy
  cases h25:A.bt 25
  all_goals
   rw[h25] at d25 t2;simp only[Bool.false_and,Bool.true_and] at t2;clear h25
   go_wp2_with (with_reducible exact z_g results152 rfl rfl G.out.1 ⟨rfl,G.out.2⟩)
end S11
end
section
namespace S11
open Go.RowKit
attribute [local go_sem ↓] ldP stP ldM stM ldTm stTm ldV stV stB stU stI stW
attribute [local go_sem ↓] alP alM
attribute [local go_sem] z_l z_D
theorem z_fU (p:Pt) (w:World) :
  Calls prog 191 #[.agg p.cs] w fun r w'=>r=.returned (.agg (supP p).cs)∧Below w.heap.size w w':=by
 obtain⟨W0,hW,S0⟩:=PS.start w p;obtain⟨W1,s1,S1⟩:=S0.setB kb4 false;obtain⟨W2,s2,S2'⟩:=S1.setB kb13 false;have S2:PS w W2 w.heap.size (w.heap.size+1) (d1P p):=S2';have l2:=S2.ld;have H2:Hid (PS w W2 w.heap.size (w.heap.size+1) (d1P p)):=S2;clear S0 S1 S2' S2;go_enter func191,ntmps191
 go_wp2_with fail
 refine (u_U (d1P p) W2).mono ?_;rintro _ V1 ⟨rfl,b1⟩;have H3:Hid (PS w V1 w.heap.size (w.heap.size+1) (d1P p)):=H2.out.below b1;clear b1 l2 s1 s2 hW H2
 go_wp2_with fail
 refine (x_O (propP (d1P p)) V1).mono ?_;rintro _ V2 ⟨rfl,b2⟩;obtain⟨A,hA⟩:∃A,flagP (propP (d1P p))=A:=⟨_,rfl⟩;have EA:Hid (supP p=d4P (whiP (timP (prioP (synP (agrP (d2P A))))))):=by rw[←hA];rfl
 rw[hA];obtain⟨V3,s3,S3⟩:=(H3.out.below b2).st A;have c3:=S3.var.bit (j:=3) rfl;have l3:=S3.ld;have H4:Hid (PS w V3 w.heap.size (w.heap.size+1) A):=S3;clear S3 H3 b2 hA;cases h:A.bt 3
 ·rw[h] at c3;obtain⟨V4,s4,S4'⟩:=H4.out.setB kb3 false;have S4:PS w V4 w.heap.size (w.heap.size+1) (d2P A):=by rw[show d2P A=A.setB 3 kb3 false from x_C A kb3 (by rw[h];rfl)];exact S4'
  clear S4' h H4;have l4:=S4.ld;have H5:Hid (PS w V4 w.heap.size (w.heap.size+1) (d2P A)):=S4;clear S4
  go_wp2_with fail
  refine (y_G (d2P A) V4).mono ?_;rintro _ V5 ⟨rfl,b5⟩;obtain⟨C,hC⟩:∃C,agrP (d2P A)=C:=⟨_,rfl⟩;have EC:Hid (supP p=d4P (whiP (timP (prioP (synP C))))):=by rw[←hC];exact EA.out
  rw[hC];obtain⟨V6,s6,S6⟩:=(H5.out.below b5).st C;have c25:=S6.var.bit (j:=25) rfl;have c4:=S6.var.bit (j:=4) rfl;obtain⟨x,hx⟩:∃x,(C.bt 25 && C.bt 4)=x:=⟨_,rfl⟩;obtain⟨V7,s7,S7'⟩:=S6.setB kb25 x;have S7:PS w V7 w.heap.size (w.heap.size+1) (synP C):=by rw[show synP C=C.setB 25 kb25 x from x_C C kb25 hx];exact S7'
  have l7:=S7.ld;have H6:Hid (PS w V7 w.heap.size (w.heap.size+1) (synP C)):=S7;clear S6 S7 S7' hC b5 H5 l4 s4;cases h25:C.bt 25
  all_goals
   rw[h25] at c25 hx;simp only[Bool.false_and,Bool.true_and] at hx;subst hx;clear h25
   go_wp2_with fail
   refine (u_V (synP C) V7).mono ?_;rintro _ V8 ⟨rfl,b8⟩;have H7:Hid (PS w V8 w.heap.size (w.heap.size+1) (synP C)):=H6.out.below b8;clear b8 l7 s7 s6 c25 c4
   go_wp2_with fail
   refine (z_bn (prioP (synP C)) V8).mono ?_;rintro _ V9 ⟨rfl,b9⟩;have H8:Hid (PS w V9 w.heap.size (w.heap.size+1) (synP C)):=H7.out.below b9;clear b9
   go_wp2_with fail
   refine (u_e (timP (prioP (synP C))) V9).mono ?_;rintro _ V10 ⟨rfl,b10⟩;obtain⟨E,hE⟩:∃E,whiP (timP (prioP (synP C)))=E:=⟨_,rfl⟩;have EE:Hid (supP p=d4P E):=by rw[←hE];exact EC.out
   rw[hE];obtain⟨V11,s11,S11⟩:=(H8.out.below b10).st E;obtain⟨V12,s12,S12⟩:=S11.setN infoI kn29 wi3;obtain⟨V13,s13,S13⟩:=S12.setB kb21 true;obtain⟨V14,s14,S14'⟩:=S13.setB kb22 false;have S14:PS w V14 w.heap.size (w.heap.size+1) (d4P E):=S14';have l14:=S14.ld;obtain⟨U,sU,G0⟩:=S14.tell (d4P E);have G:Hid (RvAt U (w.heap.size+1) 74 (supP p).cs∧Below w.heap.size w U):=by
    show RvAt U _ _ (supP p).cs∧_
    rw[EE.out];exact G0
   clear G0 S11 S12 S13 S14 S14' b10 hE H6 H7 H8 EA EC EE
   go_wp2_with (with_reducible exact z_g results191 (by with_unfolding_all rfl) (by with_unfolding_all rfl) G.out.1 ⟨rfl,G.out.2⟩)
 ·rw[h] at c3
  go_wp2_with fail
  refine (z_bq A 3 V3).mono ?_;rintro _ V3' ⟨rfl,b3⟩;obtain⟨V4,s4,S4'⟩:=(H4.out.below b3).setB kb3 (bosP A 3);have S4:PS w V4 w.heap.size (w.heap.size+1) (d2P A):=by rw[show d2P A=A.setB 3 kb3 (bosP A 3) from x_C A kb3 (by rw[h];rfl)];exact S4'
  clear S4' h H4 b3 l3 s3 c3;have l4:=S4.ld;have H5:Hid (PS w V4 w.heap.size (w.heap.size+1) (d2P A)):=S4;clear S4
  go_wp2_with fail
  refine (y_G (d2P A) V4).mono ?_;rintro _ V5 ⟨rfl,b5⟩;obtain⟨C,hC⟩:∃C,agrP (d2P A)=C:=⟨_,rfl⟩;have EC:Hid (supP p=d4P (whiP (timP (prioP (synP C))))):=by rw[←hC];exact EA.out
  rw[hC];obtain⟨V6,s6,S6⟩:=(H5.out.below b5).st C;have c25:=S6.var.bit (j:=25) rfl;have c4:=S6.var.bit (j:=4) rfl;obtain⟨x,hx⟩:∃x,(C.bt 25 && C.bt 4)=x:=⟨_,rfl⟩;obtain⟨V7,s7,S7'⟩:=S6.setB kb25 x;have S7:PS w V7 w.heap.size (w.heap.size+1) (synP C):=by rw[show synP C=C.setB 25 kb25 x from x_C C kb25 hx];exact S7'
  have l7:=S7.ld;have H6:Hid (PS w V7 w.heap.size (w.heap.size+1) (synP C)):=S7;clear S6 S7 S7' hC b5 H5 l4 s4;cases h25:C.bt 25
  all_goals
   rw[h25] at c25 hx;simp only[Bool.false_and,Bool.true_and] at hx;subst hx;clear h25
   go_wp2_with fail
   refine (u_V (synP C) V7).mono ?_;rintro _ V8 ⟨rfl,b8⟩;have H7:Hid (PS w V8 w.heap.size (w.heap.size+1) (synP C)):=H6.out.below b8;clear b8 l7 s7 s6 c25 c4
   go_wp2_with fail
   refine (z_bn (prioP (synP C)) V8).mono ?_;rintro _ V9 ⟨rfl,b9⟩;have H8:Hid (PS w V9 w.heap.size (w.heap.size+1) (synP C)):=H7.out.below b9;clear b9
   go_wp2_with fail
   refine (u_e (timP (prioP (synP C))) V9).mono ?_;rintro _ V10 ⟨rfl,b10⟩;obtain⟨E,hE⟩:∃E,whiP (timP (prioP (synP C)))=E:=⟨_,rfl⟩;have EE:Hid (supP p=d4P E):=by rw[←hE];exact EC.out
   rw[hE];obtain⟨V11,s11,S11⟩:=(H8.out.below b10).st E;obtain⟨V12,s12,S12⟩:=S11.setN infoI kn29 wi3;obtain⟨V13,s13,S13⟩:=S12.setB kb21 true;obtain⟨V14,s14,S14'⟩:=S13.setB kb22 false;have S14:PS w V14 w.heap.size (w.heap.size+1) (d4P E):=S14';have l14:=S14.ld;obtain⟨U,sU,G0⟩:=S14.tell (d4P E);have G:Hid (RvAt U (w.heap.size+1) 74 (supP p).cs∧Below w.heap.size w U):=by
    show RvAt U _ _ (supP p).cs∧_
    rw[EE.out];exact G0
   clear G0 S11 S12 S13 S14 S14' b10 hE H6 H7 H8 EA EC EE
   go_wp2_with (with_reducible exact z_g results191 (by with_unfolding_all rfl) (by with_unfolding_all rfl) G.out.1 ⟨rfl,G.out.2⟩)
theorem z_bo (p:Pt) (w:World) :
  Calls prog 153 #[.agg p.cs] w fun r w'=>r=.returned (.agg (recP p).cs)∧Below w.heap.size w w':=by
 obtain⟨W0,hW,S0⟩:=PS.start w p;have l0:=S0.ld;have H0:Hid (PS w W0 w.heap.size (w.heap.size+1) p):=S0;clear S0;have E:Hid (recP p=(if infP p=1 then supP p else if infP p=2 then whiP (agrP (flagP (propP p))) else if infP p=3 then dispP p else if infP p=4 then flagP (agrP p) else othP p).setB 14 kb14 false):=rfl;have IN:Hid (infP p=0∨infP p=1∨infP p=2∨infP p=3∨infP p=4):=by
  show _∨_
  unfold infP ofDes
  (repeat' split)<;>omega
 go_enter func153,ntmps153
 go_wp2_with fail
 refine (z_ga p W0).mono ?_;rintro _ W1 ⟨rfl,b1⟩;have S1:=H0.out.below b1;have l1:=S1.ld;have c48:=S1.var.num (j:=48) (k:=.i64) rfl;have H1:Hid (PS w W1 w.heap.size (w.heap.size+1) p):=S1;clear b1 l0 hW H0 S1;rcases IN.out with h | h | h | h | h
 ·by_cases h2:p.nm 48=2
  ·have EQ:Hid (recP p=(flagP p).setB 14 kb14 false):=show recP p=_ by rw[E.out,h,if_neg (by decide),if_neg (by decide),if_neg (by decide),if_neg (by decide),othP,if_pos h2]
   rw[h];rw[h2] at c48;clear h E IN h2
   go_wp2_with fail
   refine (x_O p W1).mono ?_;rintro _ X0 ⟨rfl,bb⟩;have K0:Hid (PS w X0 w.heap.size (w.heap.size+1) p):=H1.out.below bb;clear bb l1 c48 H1;obtain⟨Y,sY,SY⟩:=K0.out.st (flagP p);obtain⟨U1,t1,T1⟩:=SY.setB kb14 false;have lU:=T1.ld;obtain⟨U,sU,G0⟩:=T1.tell ((flagP p).setB 14 kb14 false);have G:Hid (RvAt U (w.heap.size+1) 74 (recP p).cs∧Below w.heap.size w U):=by
    show RvAt U _ _ (recP p).cs∧_
    rw[EQ.out];exact G0
   clear G0 T1 SY K0
   go_wp2_with (with_reducible exact z_g results153 (by with_unfolding_all rfl) (by with_unfolding_all rfl) G.out.1 ⟨rfl,G.out.2⟩)
  ·have EQ:Hid (recP p=p.setB 14 kb14 false):=show recP p=_ by rw[E.out,h,if_neg (by decide),if_neg (by decide),if_neg (by decide),if_neg (by decide),othP,if_neg h2]
   rw[h];clear h E IN;obtain⟨U1,t1,T1⟩:=H1.out.setB kb14 false;have lU:=T1.ld;obtain⟨U,sU,G0⟩:=T1.tell ((p).setB 14 kb14 false);have G:Hid (RvAt U (w.heap.size+1) 74 (recP p).cs∧Below w.heap.size w U):=by
    show RvAt U _ _ (recP p).cs∧_
    rw[EQ.out];exact G0
   clear G0 T1 H1 l1
   go_wp2_with (with_reducible exact z_g results153 (by with_unfolding_all rfl) (by with_unfolding_all rfl) G.out.1 ⟨rfl,G.out.2⟩)
 ·have EQ:Hid (recP p=(supP p).setB 14 kb14 false):=show recP p=_ by rw[E.out,h,if_pos rfl]
  rw[h];clear h E IN
  go_wp2_with fail
  refine (z_fU (p) W1).mono ?_;rintro _ X0 ⟨rfl,bb⟩;have K0:Hid (PS w X0 w.heap.size (w.heap.size+1) p):=H1.out.below bb;clear bb l1 c48 H1;obtain⟨Y,sY,SY⟩:=K0.out.st (supP p);obtain⟨U1,t1,T1⟩:=SY.setB kb14 false;have lU:=T1.ld;obtain⟨U,sU,G0⟩:=T1.tell ((supP p).setB 14 kb14 false);have G:Hid (RvAt U (w.heap.size+1) 74 (recP p).cs∧Below w.heap.size w U):=by
   show RvAt U _ _ (recP p).cs∧_
   rw[EQ.out];exact G0
  clear G0 T1 SY K0
  go_wp2_with (with_reducible exact z_g results153 (by with_unfolding_all rfl) (by with_unfolding_all rfl) G.out.1 ⟨rfl,G.out.2⟩)
 ·have EQ:Hid (recP p=(whiP (agrP (flagP (propP p)))).setB 14 kb14 false):=show recP p=_ by rw[E.out,h,if_neg (by decide),if_pos rfl]
  rw[h];clear h E IN
  go_wp2_with fail
  refine (u_U (p) W1).mono ?_;rintro _ X0 ⟨rfl,bb⟩;have K0:Hid (PS w X0 w.heap.size (w.heap.size+1) p):=H1.out.below bb;clear bb l1 c48 H1
  go_wp2_with fail
  refine (x_O (propP p) X0).mono ?_;rintro _ X1 ⟨rfl,bb⟩;have K1:Hid (PS w X1 w.heap.size (w.heap.size+1) p):=K0.out.below bb;clear bb K0
  go_wp2_with fail
  refine (y_G (flagP (propP p)) X1).mono ?_;rintro _ X2 ⟨rfl,bb⟩;have K2:Hid (PS w X2 w.heap.size (w.heap.size+1) p):=K1.out.below bb;clear bb K1
  go_wp2_with fail
  refine (u_e (agrP (flagP (propP p))) X2).mono ?_;rintro _ X3 ⟨rfl,bb⟩;have K3:Hid (PS w X3 w.heap.size (w.heap.size+1) p):=K2.out.below bb;clear bb K2;obtain⟨Y,sY,SY⟩:=K3.out.st (whiP (agrP (flagP (propP p))));obtain⟨U1,t1,T1⟩:=SY.setB kb14 false;have lU:=T1.ld;obtain⟨U,sU,G0⟩:=T1.tell ((whiP (agrP (flagP (propP p)))).setB 14 kb14 false)
  have G:Hid (RvAt U (w.heap.size+1) 74 (recP p).cs∧Below w.heap.size w U):=by
   show RvAt U _ _ (recP p).cs∧_
   rw[EQ.out];exact G0
  clear G0 T1 SY K3
  go_wp2_with (with_reducible exact z_g results153 (by with_unfolding_all rfl) (by with_unfolding_all rfl) G.out.1 ⟨rfl,G.out.2⟩)
 ·have EQ:Hid (recP p=(dispP p).setB 14 kb14 false):=show recP p=_ by rw[E.out,h,if_neg (by decide),if_neg (by decide),if_pos rfl]
  rw[h];clear h E IN
  go_wp2_with fail
  refine (z_dz (p) W1).mono ?_;rintro _ X0 ⟨rfl,bb⟩;have K0:Hid (PS w X0 w.heap.size (w.heap.size+1) p):=H1.out.below bb;clear bb l1 c48 H1;obtain⟨Y,sY,SY⟩:=K0.out.st (dispP p);obtain⟨U1,t1,T1⟩:=SY.setB kb14 false;have lU:=T1.ld;obtain⟨U,sU,G0⟩:=T1.tell ((dispP p).setB 14 kb14 false);have G:Hid (RvAt U (w.heap.size+1) 74 (recP p).cs∧Below w.heap.size w U):=by
   show RvAt U _ _ (recP p).cs∧_
   rw[EQ.out];exact G0
  clear G0 T1 SY K0
  go_wp2_with (with_reducible exact z_g results153 (by with_unfolding_all rfl) (by with_unfolding_all rfl) G.out.1 ⟨rfl,G.out.2⟩)
 ·have EQ:Hid (recP p=(flagP (agrP p)).setB 14 kb14 false):=show recP p=_ by rw[E.out,h,if_neg (by decide),if_neg (by decide),if_neg (by decide),if_pos rfl]
  rw[h];clear h E IN
  go_wp2_with fail
  refine (y_G (p) W1).mono ?_;rintro _ X0 ⟨rfl,bb⟩;have K0:Hid (PS w X0 w.heap.size (w.heap.size+1) p):=H1.out.below bb;clear bb l1 c48 H1
  go_wp2_with fail
  refine (x_O (agrP p) X0).mono ?_;rintro _ X1 ⟨rfl,bb⟩;have K1:Hid (PS w X1 w.heap.size (w.heap.size+1) p):=K0.out.below bb;clear bb K0;obtain⟨Y,sY,SY⟩:=K1.out.st (flagP (agrP p));obtain⟨U1,t1,T1⟩:=SY.setB kb14 false;have lU:=T1.ld;obtain⟨U,sU,G0⟩:=T1.tell ((flagP (agrP p)).setB 14 kb14 false);have G:Hid (RvAt U (w.heap.size+1) 74 (recP p).cs∧Below w.heap.size w U):=by
   show RvAt U _ _ (recP p).cs∧_
   rw[EQ.out];exact G0
  clear G0 T1 SY K1
  go_wp2_with (with_reducible exact z_g results153 (by with_unfolding_all rfl) (by with_unfolding_all rfl) G.out.1 ⟨rfl,G.out.2⟩)
end S11
end
end Go.Proofs.YtlchejbggnbccaaGreat
