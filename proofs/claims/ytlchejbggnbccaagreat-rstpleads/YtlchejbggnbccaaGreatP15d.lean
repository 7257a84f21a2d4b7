/-
  What a port says: the walk of message, for every port. And what follows from it here.
-/
import Derived.Test.YtlchejbggnbccaaGreatPbb
import Derived.Test.YtlchejbggnbccaaGreatP15a
import Derived.Deep.Cut
import Derived.Deep.CutRange
namespace Go.Proofs.YtlchejbggnbccaaGreat
set_option linter.unusedVariables false
set_option linter.unusedSimpArgs false
set_option maxRecDepth 4000
set_option maxHeartbeats 40000000
open _root_.Go.Proofs.Tryz
section
namespace S15
open Go.RowKit
abbrev z_U:Oper:={ dst:=none,op:=Op.store 36 (Operand.tmp 45) (Operand.tmp 42),type:=0,pos:= "send.go:88",after:=#[{ on:=4,ground:=Ground.data },{ on:=1,ground:=Ground.data },{ on:=0,ground:=Ground.phase },{ on:=1,ground:=Ground.phase },{ on:=2,ground:=Ground.textOnly Departure.lateStores },{ on:=3,ground:=Ground.textOnly Departure.lateStores }],guard:=none }
abbrev z_S:Oper:={ dst:=none,op:=Op.store 24 (Operand.tmp 46) (Operand.tmp 44),type:=0,pos:= "send.go:88",after:=#[{ on:=6,ground:=Ground.data },{ on:=3,ground:=Ground.data },{ on:=5,ground:=Ground.chain },{ on:=0,ground:=Ground.phase },{ on:=1,ground:=Ground.phase },{ on:=2,ground:=Ground.phase },{ on:=3,ground:=Ground.phase },{ on:=4,ground:=Ground.phase },{ on:=5,ground:=Ground.phase }],guard:=none }
abbrev w_I:Oper:={ dst:=none,op:=Op.store 4 (Operand.tmp 21) (Operand.tmp 18),type:=0,pos:= "send.go:82",after:=#[{ on:=4,ground:=Ground.data },{ on:=1,ground:=Ground.data },{ on:=0,ground:=Ground.phase },{ on:=1,ground:=Ground.phase },{ on:=2,ground:=Ground.textOnly Departure.lateStores },{ on:=3,ground:=Ground.textOnly Departure.lateStores }],guard:=none }
abbrev w_G:Oper:={ dst:=none,op:=Op.store 4 (Operand.tmp 22) (Operand.tmp 20),type:=0,pos:= "send.go:82",after:=#[{ on:=6,ground:=Ground.data },{ on:=3,ground:=Ground.data },{ on:=5,ground:=Ground.chain },{ on:=0,ground:=Ground.phase },{ on:=1,ground:=Ground.phase },{ on:=2,ground:=Ground.phase },{ on:=3,ground:=Ground.phase },{ on:=4,ground:=Ground.phase },{ on:=5,ground:=Ground.phase }],guard:=none }
abbrev w_A:Oper:={ dst:=none,op:=Op.store 4 (Operand.tmp 27) (Operand.tmp 24),type:=0,pos:= "send.go:83",after:=#[{ on:=4,ground:=Ground.data },{ on:=1,ground:=Ground.data },{ on:=0,ground:=Ground.phase },{ on:=1,ground:=Ground.phase },{ on:=2,ground:=Ground.textOnly Departure.lateStores },{ on:=3,ground:=Ground.textOnly Departure.lateStores }],guard:=none }
abbrev w_y:Oper:={ dst:=none,op:=Op.store 4 (Operand.tmp 28) (Operand.tmp 26),type:=0,pos:= "send.go:83",after:=#[{ on:=6,ground:=Ground.data },{ on:=3,ground:=Ground.data },{ on:=5,ground:=Ground.chain },{ on:=0,ground:=Ground.phase },{ on:=1,ground:=Ground.phase },{ on:=2,ground:=Ground.phase },{ on:=3,ground:=Ground.phase },{ on:=4,ground:=Ground.phase },{ on:=5,ground:=Ground.phase }],guard:=none }
attribute [local go_sem ↓] ldP stP stB stU stW ldT stT st32 alP alM ldM stM ldV stV ldTm stTm bdMs
attribute [local go_sem] z_l z_D
theorem stR (x y:Value):Instr.storeAt 44 x y=stS 44 x y:=rfl
attribute [local go_sem ↓] stR
theorem z_jM (p:Pt) (w:World):Calls prog 180 #[.agg p.cs] w fun r w'=>r=.returned (.agg (msgP p).cs)∧Below w.heap.size w w':=by
 obtain⟨M,hM⟩:∃z,msgP p=z:=⟨_,rfl⟩;rw[hM];have EM:Hid (msgP p=M):=hM;obtain⟨W,hW,r0,r1,bW,zW⟩:=z_le w p;have l0:=r0.pld;have H:Hid (RvAt W w.heap.size 74 p.cs∧RvAt W (w.heap.size+1) 46 zeroM.cs∧Below w.heap.size w W∧W.heap.size=w.heap.size+2):=⟨r0,r1,bW,zW⟩;obtain⟨b26,h26⟩:∃z,p.bt 26=z:=⟨_,rfl⟩;obtain⟨N,h71⟩:∃z,p.nm 71=z:=⟨_,rfl⟩;have H26:Hid (p.bt 26=b26):=h26;have H71:Hid (p.nm 71=N):=h71
 clear r0 r1 bW zW hM h26 h71;cases h23:p.bt 23
 ·by_cases h4:p.nm 30=4
  ·cases b26
   ·by_cases h0:N=0
    ·subst h0;have hT:tcB p=false:=by unfold tcB;rw[H71.out];rfl
     have E9:Hid (((((zeroM.setN 0 km0 1 wi1).setB 1 km1 false).setB 2 km2 false).put 8 (dsg p) mq8 ml8).put 12 (dsT p) mq12 ml12=M):=by
      rw[←EM.out];unfold msgP;rw[if_neg (by rw[h23];decide),if_pos h4];unfold cfgM;rw[show tcB p=false from hT,H26.out];exact rfl
     clear hT EM;have HKd:Hid (kinN p=1):=by unfold kinN;rw[if_neg (by rw[h23];decide),if_pos h4];exact rfl
     go_enter func180,ntmps180
     go_wp2_with fail
     refine (y_V p W).mono ?_;rintro _ W1 ⟨rfl,b1⟩;rw[HKd.out];obtain⟨W2,s2,r2,b2,z2⟩:=x_I W1 (zeroM.setN 0 km0 1 wi1);have q2:=z_Q wi1 W1;have hz:=b1.size;obtain⟨Z,hZ⟩:∃Z,W1.heap.size=Z:=⟨_,rfl⟩;rw[hZ] at s2 r2
     have S2:Hid (MS w W2 w.heap.size (w.heap.size+1) Z p (zeroM.setN 0 km0 1 wi1)):=⟨(H.out.1.below b1).below b2,(H.out.2.1.below b1).below b2,r2,z_a (z_a H.out.2.2.1 b1) b2,by omega,by have:=H.out.2.2.2;omega,by have:=H.out.2.2.2;omega⟩;have c0:=S2.out.mv.num (j:=0) (k:=.i64) rfl;rw[show Row.nm _ 0=(1:Int) from rfl] at c0;clear b1 b2 r2 z2 hz l0 HKd;have c71:=S2.out.pv.num (j:=71) (k:=.u8) rfl
     rw[H71.out] at c71;obtain⟨V7,e7,R7⟩:=S2.out.setB km1 false;have c26:=R7.pv.bit (j:=26) rfl;rw[H26.out] at c26;have cK:=R7.mv.num (j:=0) (k:=.i64) rfl;rw[show Row.nm _ 0=(1:Int) from rfl] at cK;obtain⟨V8,e8,R8⟩:=R7.setB km2 false;have T7:Hid (MS w V8 w.heap.size (w.heap.size+1) Z p _):=R8;clear R7 R8;go_upto_region 10 with fail
     clear c71 c26 cK e7 e8;obtain⟨X9,hX⟩:∃X0,World.drew V8=X0:=⟨_,rfl⟩;have Y9:=T7.out.drew' hX;obtain⟨A9,a9,SA9⟩:=Y9.putV (dsg p);obtain⟨B9,d9,SB9⟩:=SA9.putT (dsT p);have D10:Hid (RvAt X9 w.heap.size 74 p.cs∧RvAt A9 w.heap.size 74 p.cs∧RvAt B9 w.heap.size 74 p.cs):=⟨Y9.pv,SA9.pv,SB9.pv⟩;have S9:Hid (MS w B9 w.heap.size (w.heap.size+1) Z p _):=SB9;clear Y9 SA9 SB9;refine wp_region_noPanic ?_
     refine wp_region_held_drew (S:=fun w'=>RvAt w' w.heap.size 74 p.cs) (by kernel_rfl) (by rw[hX];exact D10.out.1) (fun hHeld=>?_);rw[hX] at hHeld ⊢;clear hX;refine tk 0 ?_ rfl ?_ hHeld ?_;rotate_left
     ·intro W_ hSw_;have xv:=hSw_.pdsg;have xt:=hSw_.pdsT15;clear hSw_
      go_simp<;>with_reducible rfl
     rotate_left;refine tk 1 ?_ rfl ?_ hHeld ?_;rotate_left
     ·intro W_ hSw_;have xv:=hSw_.pdsg;have xt:=hSw_.pdsT15;clear hSw_
      go_simp<;>with_reducible rfl
     rotate_left;refine tk 2 ?_ rfl ?_ hHeld ?_;rotate_left
     ·intro W_ hSw_;have xv:=hSw_.pdsg;have xt:=hSw_.pdsT15;clear hSw_
      go_simp<;>with_reducible rfl
     rotate_left;refine tk 3 ?_ rfl ?_ hHeld ?_;rotate_left
     ·intro W_ hSw_;have xv:=hSw_.pdsg;have xt:=hSw_.pdsT15;clear hSw_
      go_simp<;>with_reducible rfl
     rotate_left;refine tk 4 ?_ rfl ?_ hHeld ?_;rotate_left
     ·intro W_ hSw_;have xv:=hSw_.pdsg;have xt:=hSw_.pdsT15;clear hSw_
      go_simp<;>with_reducible rfl
     rotate_left
     try simp only[Act.put,zA,zB,zC]
     refine wpAnyH_ready (rs:=[5]) (by kernel_rfl) (by simp) ?_;refine AllReadyH.cons rfl (fun K hK=>?_) AllReadyH.nil
     go_simp
     clear hHeld;refine hK.out _ _ D10.out.2.1 (fun hHeld=>?_);clear hK K;refine tk 6 ?_ rfl ?_ hHeld ?_;rotate_left
     ·intro W_ hSw_;clear hSw_
      go_simp<;>with_reducible rfl
     rotate_left
     try simp only[Act.put,zA,zB,zC]
     refine wpAnyH_ready (rs:=[7]) (by kernel_rfl) (by simp) ?_;refine AllReadyH.cons rfl (fun K hK=>?_) AllReadyH.nil
     go_simp
     clear hHeld;refine hK.out _ _ D10.out.2.2 (fun hHeld=>?_);clear hK K
     try simp only[Act.put,zA,zB,zC]
     refine wpAnyH_done (by kernel_rfl) ?_ _;refine NoPanic.normal ?_;clear hHeld;clear a9 d9 D10;have lm:=S9.out.mv.mld;obtain⟨U,sU,h1,h2⟩:=S9.out.tell _;have G:Hid (RvAt U (w.heap.size+1) 46 M.cs∧Below w.heap.size w U):=by rw[←E9.out];exact⟨h1,h2⟩
     clear h1 h2 S9;go_wp2
     refine bodyPost_ret (z_e rtM results180 _ _ _ _ rfl G.out.1 (by rw[Row.csize,lenM])) rfl ?_;exact⟨rfl,G.out.2⟩
    ·have x0:(N==0)=false:=beq_eq_false_iff_ne.2 h0;have y0:(N != 0)=true:=by simp[h0]
     have hT:tcB p=true:=by unfold tcB;rw[H71.out,x0];rfl
     have E9:Hid (((((zeroM.setN 0 km0 1 wi1).setB 1 km1 true).setB 2 km2 false).put 8 (dsg p) mq8 ml8).put 12 (dsT p) mq12 ml12=M):=by
      rw[←EM.out];unfold msgP;rw[if_neg (by rw[h23];decide),if_pos h4];unfold cfgM;rw[show tcB p=true from hT,H26.out];exact rfl
     clear hT EM h0;have HKd:Hid (kinN p=1):=by unfold kinN;rw[if_neg (by rw[h23];decide),if_pos h4];exact rfl
     go_enter func180,ntmps180
     go_wp2_with fail
     refine (y_V p W).mono ?_;rintro _ W1 ⟨rfl,b1⟩;rw[HKd.out];obtain⟨W2,s2,r2,b2,z2⟩:=x_I W1 (zeroM.setN 0 km0 1 wi1);have q2:=z_Q wi1 W1;have hz:=b1.size;obtain⟨Z,hZ⟩:∃Z,W1.heap.size=Z:=⟨_,rfl⟩;rw[hZ] at s2 r2
     have S2:Hid (MS w W2 w.heap.size (w.heap.size+1) Z p (zeroM.setN 0 km0 1 wi1)):=⟨(H.out.1.below b1).below b2,(H.out.2.1.below b1).below b2,r2,z_a (z_a H.out.2.2.1 b1) b2,by omega,by have:=H.out.2.2.2;omega,by have:=H.out.2.2.2;omega⟩;have c0:=S2.out.mv.num (j:=0) (k:=.i64) rfl;rw[show Row.nm _ 0=(1:Int) from rfl] at c0;clear b1 b2 r2 z2 hz l0 HKd;have c71:=S2.out.pv.num (j:=71) (k:=.u8) rfl
     rw[H71.out] at c71;obtain⟨V7,e7,R7⟩:=S2.out.setB km1 true;have c26:=R7.pv.bit (j:=26) rfl;rw[H26.out] at c26;have cK:=R7.mv.num (j:=0) (k:=.i64) rfl;rw[show Row.nm _ 0=(1:Int) from rfl] at cK;obtain⟨V8,e8,R8⟩:=R7.setB km2 false;have T7:Hid (MS w V8 w.heap.size (w.heap.size+1) Z p _):=R8;clear R7 R8;go_upto_region 10 with fail
     clear c71 c26 cK e7 e8;obtain⟨X9,hX⟩:∃X0,World.drew V8=X0:=⟨_,rfl⟩;have Y9:=T7.out.drew' hX;obtain⟨A9,a9,SA9⟩:=Y9.putV (dsg p);obtain⟨B9,d9,SB9⟩:=SA9.putT (dsT p);have D10:Hid (RvAt X9 w.heap.size 74 p.cs∧RvAt A9 w.heap.size 74 p.cs∧RvAt B9 w.heap.size 74 p.cs):=⟨Y9.pv,SA9.pv,SB9.pv⟩;have S9:Hid (MS w B9 w.heap.size (w.heap.size+1) Z p _):=SB9;clear Y9 SA9 SB9;refine wp_region_noPanic ?_
     refine wp_region_held_drew (S:=fun w'=>RvAt w' w.heap.size 74 p.cs) (by kernel_rfl) (by rw[hX];exact D10.out.1) (fun hHeld=>?_);rw[hX] at hHeld ⊢;clear hX;refine tk 0 ?_ rfl ?_ hHeld ?_;rotate_left
     ·intro W_ hSw_;have xv:=hSw_.pdsg;have xt:=hSw_.pdsT15;clear hSw_
      go_simp<;>with_reducible rfl
     rotate_left;refine tk 1 ?_ rfl ?_ hHeld ?_;rotate_left
     ·intro W_ hSw_;have xv:=hSw_.pdsg;have xt:=hSw_.pdsT15;clear hSw_
      go_simp<;>with_reducible rfl
     rotate_left;refine tk 2 ?_ rfl ?_ hHeld ?_;rotate_left
     ·intro W_ hSw_;have xv:=hSw_.pdsg;have xt:=hSw_.pdsT15;clear hSw_
      go_simp<;>with_reducible rfl
     rotate_left;refine tk 3 ?_ rfl ?_ hHeld ?_;rotate_left
     ·intro W_ hSw_;have xv:=hSw_.pdsg;have xt:=hSw_.pdsT15;clear hSw_
      go_simp<;>with_reducible rfl
     rotate_left;refine tk 4 ?_ rfl ?_ hHeld ?_;rotate_left
     ·intro W_ hSw_;have xv:=hSw_.pdsg;have xt:=hSw_.pdsT15;clear hSw_
      go_simp<;>with_reducible rfl
     rotate_left
     try simp only[Act.put,zA,zB,zC]
     refine wpAnyH_ready (rs:=[5]) (by kernel_rfl) (by simp) ?_;refine AllReadyH.cons rfl (fun K hK=>?_) AllReadyH.nil
     go_simp
     clear hHeld;refine hK.out _ _ D10.out.2.1 (fun hHeld=>?_);clear hK K;refine tk 6 ?_ rfl ?_ hHeld ?_;rotate_left
     ·intro W_ hSw_;clear hSw_
      go_simp<;>with_reducible rfl
     rotate_left
     try simp only[Act.put,zA,zB,zC]
     refine wpAnyH_ready (rs:=[7]) (by kernel_rfl) (by simp) ?_;refine AllReadyH.cons rfl (fun K hK=>?_) AllReadyH.nil
     go_simp
     clear hHeld;refine hK.out _ _ D10.out.2.2 (fun hHeld=>?_);clear hK K
     try simp only[Act.put,zA,zB,zC]
     refine wpAnyH_done (by kernel_rfl) ?_ _;refine NoPanic.normal ?_;clear hHeld;clear a9 d9 D10;have lm:=S9.out.mv.mld;obtain⟨U,sU,h1,h2⟩:=S9.out.tell _;have G:Hid (RvAt U (w.heap.size+1) 46 M.cs∧Below w.heap.size w U):=by rw[←E9.out];exact⟨h1,h2⟩
     clear h1 h2 S9;go_wp2
     refine bodyPost_ret (z_e rtM results180 _ _ _ _ rfl G.out.1 (by rw[Row.csize,lenM])) rfl ?_;exact⟨rfl,G.out.2⟩
   ·by_cases h0:N=0
    ·subst h0;have hT:tcB p=false:=by unfold tcB;rw[H71.out];rfl
     have E9:Hid (((((zeroM.setN 0 km0 1 wi1).setB 1 km1 false).setB 2 km2 true).put 8 (dsg p) mq8 ml8).put 12 (dsT p) mq12 ml12=M):=by
      rw[←EM.out];unfold msgP;rw[if_neg (by rw[h23];decide),if_pos h4];unfold cfgM;rw[show tcB p=false from hT,H26.out];exact rfl
     clear hT EM;have HKd:Hid (kinN p=1):=by unfold kinN;rw[if_neg (by rw[h23];decide),if_pos h4];exact rfl
     go_enter func180,ntmps180
     go_wp2_with fail
     refine (y_V p W).mono ?_;rintro _ W1 ⟨rfl,b1⟩;rw[HKd.out];obtain⟨W2,s2,r2,b2,z2⟩:=x_I W1 (zeroM.setN 0 km0 1 wi1);have q2:=z_Q wi1 W1;have hz:=b1.size;obtain⟨Z,hZ⟩:∃Z,W1.heap.size=Z:=⟨_,rfl⟩;rw[hZ] at s2 r2
     have S2:Hid (MS w W2 w.heap.size (w.heap.size+1) Z p (zeroM.setN 0 km0 1 wi1)):=⟨(H.out.1.below b1).below b2,(H.out.2.1.below b1).below b2,r2,z_a (z_a H.out.2.2.1 b1) b2,by omega,by have:=H.out.2.2.2;omega,by have:=H.out.2.2.2;omega⟩;have c0:=S2.out.mv.num (j:=0) (k:=.i64) rfl;rw[show Row.nm _ 0=(1:Int) from rfl] at c0;clear b1 b2 r2 z2 hz l0 HKd;have c71:=S2.out.pv.num (j:=71) (k:=.u8) rfl
     rw[H71.out] at c71;obtain⟨V7,e7,R7⟩:=S2.out.setB km1 false;have c26:=R7.pv.bit (j:=26) rfl;rw[H26.out] at c26;have cK:=R7.mv.num (j:=0) (k:=.i64) rfl;rw[show Row.nm _ 0=(1:Int) from rfl] at cK;obtain⟨V8,e8,R8⟩:=R7.setB km2 true;have T7:Hid (MS w V8 w.heap.size (w.heap.size+1) Z p _):=R8;clear R7 R8;go_upto_region 10 with fail
     clear c71 c26 cK e7 e8;obtain⟨X9,hX⟩:∃X0,World.drew V8=X0:=⟨_,rfl⟩;have Y9:=T7.out.drew' hX;obtain⟨A9,a9,SA9⟩:=Y9.putV (dsg p);obtain⟨B9,d9,SB9⟩:=SA9.putT (dsT p);have D10:Hid (RvAt X9 w.heap.size 74 p.cs∧RvAt A9 w.heap.size 74 p.cs∧RvAt B9 w.heap.size 74 p.cs):=⟨Y9.pv,SA9.pv,SB9.pv⟩;have S9:Hid (MS w B9 w.heap.size (w.heap.size+1) Z p _):=SB9;clear Y9 SA9 SB9;refine wp_region_noPanic ?_
     refine wp_region_held_drew (S:=fun w'=>RvAt w' w.heap.size 74 p.cs) (by kernel_rfl) (by rw[hX];exact D10.out.1) (fun hHeld=>?_);rw[hX] at hHeld ⊢;clear hX;refine tk 0 ?_ rfl ?_ hHeld ?_;rotate_left
     ·intro W_ hSw_;have xv:=hSw_.pdsg;have xt:=hSw_.pdsT15;clear hSw_
      go_simp<;>with_reducible rfl
     rotate_left;refine tk 1 ?_ rfl ?_ hHeld ?_;rotate_left
     ·intro W_ hSw_;have xv:=hSw_.pdsg;have xt:=hSw_.pdsT15;clear hSw_
      go_simp<;>with_reducible rfl
     rotate_left;refine tk 2 ?_ rfl ?_ hHeld ?_;rotate_left
     ·intro W_ hSw_;have xv:=hSw_.pdsg;have xt:=hSw_.pdsT15;clear hSw_
      go_simp<;>with_reducible rfl
     rotate_left;refine tk 3 ?_ rfl ?_ hHeld ?_;rotate_left
     ·intro W_ hSw_;have xv:=hSw_.pdsg;have xt:=hSw_.pdsT15;clear hSw_
      go_simp<;>with_reducible rfl
     rotate_left;refine tk 4 ?_ rfl ?_ hHeld ?_;rotate_left
     ·intro W_ hSw_;have xv:=hSw_.pdsg;have xt:=hSw_.pdsT15;clear hSw_
      go_simp<;>with_reducible rfl
     rotate_left
     try simp only[Act.put,zA,zB,zC]
     refine wpAnyH_ready (rs:=[5]) (by kernel_rfl) (by simp) ?_;refine AllReadyH.cons rfl (fun K hK=>?_) AllReadyH.nil
     go_simp
     clear hHeld;refine hK.out _ _ D10.out.2.1 (fun hHeld=>?_);clear hK K;refine tk 6 ?_ rfl ?_ hHeld ?_;rotate_left
     ·intro W_ hSw_;clear hSw_
      go_simp<;>with_reducible rfl
     rotate_left
     try simp only[Act.put,zA,zB,zC]
     refine wpAnyH_ready (rs:=[7]) (by kernel_rfl) (by simp) ?_;refine AllReadyH.cons rfl (fun K hK=>?_) AllReadyH.nil
     go_simp
     clear hHeld;refine hK.out _ _ D10.out.2.2 (fun hHeld=>?_);clear hK K
     try simp only[Act.put,zA,zB,zC]
     refine wpAnyH_done (by kernel_rfl) ?_ _;refine NoPanic.normal ?_;clear hHeld;clear a9 d9 D10;have lm:=S9.out.mv.mld;obtain⟨U,sU,h1,h2⟩:=S9.out.tell _;have G:Hid (RvAt U (w.heap.size+1) 46 M.cs∧Below w.heap.size w U):=by rw[←E9.out];exact⟨h1,h2⟩
     clear h1 h2 S9;go_wp2
     refine bodyPost_ret (z_e rtM results180 _ _ _ _ rfl G.out.1 (by rw[Row.csize,lenM])) rfl ?_;exact⟨rfl,G.out.2⟩
    ·have x0:(N==0)=false:=beq_eq_false_iff_ne.2 h0;have y0:(N != 0)=true:=by simp[h0]
     have hT:tcB p=true:=by unfold tcB;rw[H71.out,x0];rfl
     have E9:Hid (((((zeroM.setN 0 km0 1 wi1).setB 1 km1 true).setB 2 km2 true).put 8 (dsg p) mq8 ml8).put 12 (dsT p) mq12 ml12=M):=by
      rw[←EM.out];unfold msgP;rw[if_neg (by rw[h23];decide),if_pos h4];unfold cfgM;rw[show tcB p=true from hT,H26.out];exact rfl
     clear hT EM h0;have HKd:Hid (kinN p=1):=by unfold kinN;rw[if_neg (by rw[h23];decide),if_pos h4];exact rfl
     go_enter func180,ntmps180
     go_wp2_with fail
     refine (y_V p W).mono ?_;rintro _ W1 ⟨rfl,b1⟩;rw[HKd.out];obtain⟨W2,s2,r2,b2,z2⟩:=x_I W1 (zeroM.setN 0 km0 1 wi1);have q2:=z_Q wi1 W1;have hz:=b1.size;obtain⟨Z,hZ⟩:∃Z,W1.heap.size=Z:=⟨_,rfl⟩;rw[hZ] at s2 r2
     have S2:Hid (MS w W2 w.heap.size (w.heap.size+1) Z p (zeroM.setN 0 km0 1 wi1)):=⟨(H.out.1.below b1).below b2,(H.out.2.1.below b1).below b2,r2,z_a (z_a H.out.2.2.1 b1) b2,by omega,by have:=H.out.2.2.2;omega,by have:=H.out.2.2.2;omega⟩;have c0:=S2.out.mv.num (j:=0) (k:=.i64) rfl;rw[show Row.nm _ 0=(1:Int) from rfl] at c0;clear b1 b2 r2 z2 hz l0 HKd;have c71:=S2.out.pv.num (j:=71) (k:=.u8) rfl
     rw[H71.out] at c71;obtain⟨V7,e7,R7⟩:=S2.out.setB km1 true;have c26:=R7.pv.bit (j:=26) rfl;rw[H26.out] at c26;have cK:=R7.mv.num (j:=0) (k:=.i64) rfl;rw[show Row.nm _ 0=(1:Int) from rfl] at cK;obtain⟨V8,e8,R8⟩:=R7.setB km2 true;have T7:Hid (MS w V8 w.heap.size (w.heap.size+1) Z p _):=R8;clear R7 R8;go_upto_region 10 with fail
     clear c71 c26 cK e7 e8;obtain⟨X9,hX⟩:∃X0,World.drew V8=X0:=⟨_,rfl⟩;have Y9:=T7.out.drew' hX;obtain⟨A9,a9,SA9⟩:=Y9.putV (dsg p);obtain⟨B9,d9,SB9⟩:=SA9.putT (dsT p);have D10:Hid (RvAt X9 w.heap.size 74 p.cs∧RvAt A9 w.heap.size 74 p.cs∧RvAt B9 w.heap.size 74 p.cs):=⟨Y9.pv,SA9.pv,SB9.pv⟩;have S9:Hid (MS w B9 w.heap.size (w.heap.size+1) Z p _):=SB9;clear Y9 SA9 SB9;refine wp_region_noPanic ?_
     refine wp_region_held_drew (S:=fun w'=>RvAt w' w.heap.size 74 p.cs) (by kernel_rfl) (by rw[hX];exact D10.out.1) (fun hHeld=>?_);rw[hX] at hHeld ⊢;clear hX;refine tk 0 ?_ rfl ?_ hHeld ?_;rotate_left
     ·intro W_ hSw_;have xv:=hSw_.pdsg;have xt:=hSw_.pdsT15;clear hSw_
      go_simp<;>with_reducible rfl
     rotate_left;refine tk 1 ?_ rfl ?_ hHeld ?_;rotate_left
     ·intro W_ hSw_;have xv:=hSw_.pdsg;have xt:=hSw_.pdsT15;clear hSw_
      go_simp<;>with_reducible rfl
     rotate_left;refine tk 2 ?_ rfl ?_ hHeld ?_;rotate_left
     ·intro W_ hSw_;have xv:=hSw_.pdsg;have xt:=hSw_.pdsT15;clear hSw_
      go_simp<;>with_reducible rfl
     rotate_left;refine tk 3 ?_ rfl ?_ hHeld ?_;rotate_left
     ·intro W_ hSw_;have xv:=hSw_.pdsg;have xt:=hSw_.pdsT15;clear hSw_
      go_simp<;>with_reducible rfl
     rotate_left;refine tk 4 ?_ rfl ?_ hHeld ?_;rotate_left
     ·intro W_ hSw_;have xv:=hSw_.pdsg;have xt:=hSw_.pdsT15;clear hSw_
      go_simp<;>with_reducible rfl
     rotate_left
     try simp only[Act.put,zA,zB,zC]
     refine wpAnyH_ready (rs:=[5]) (by kernel_rfl) (by simp) ?_;refine AllReadyH.cons rfl (fun K hK=>?_) AllReadyH.nil
     go_simp
     clear hHeld;refine hK.out _ _ D10.out.2.1 (fun hHeld=>?_);clear hK K;refine tk 6 ?_ rfl ?_ hHeld ?_;rotate_left
     ·intro W_ hSw_;clear hSw_
      go_simp<;>with_reducible rfl
     rotate_left
     try simp only[Act.put,zA,zB,zC]
     refine wpAnyH_ready (rs:=[7]) (by kernel_rfl) (by simp) ?_;refine AllReadyH.cons rfl (fun K hK=>?_) AllReadyH.nil
     go_simp
     clear hHeld;refine hK.out _ _ D10.out.2.2 (fun hHeld=>?_);clear hK K
     try simp only[Act.put,zA,zB,zC]
     refine wpAnyH_done (by kernel_rfl) ?_ _;refine NoPanic.normal ?_;clear hHeld;clear a9 d9 D10;have lm:=S9.out.mv.mld;obtain⟨U,sU,h1,h2⟩:=S9.out.tell _;have G:Hid (RvAt U (w.heap.size+1) 46 M.cs∧Below w.heap.size w U):=by rw[←E9.out];exact⟨h1,h2⟩
     clear h1 h2 S9;go_wp2
     refine bodyPost_ret (z_e rtM results180 _ _ _ _ rfl G.out.1 (by rw[Row.csize,lenM])) rfl ?_;exact⟨rfl,G.out.2⟩
  ·have E9:Hid (tcnM=M):=by rw[←EM.out];unfold msgP;rw[if_neg (by rw[h23];decide),if_neg h4];exact rfl
   have HKd:Hid (kinN p=2):=by unfold kinN;rw[if_neg (by rw[h23];decide),if_neg h4];exact rfl
   go_enter func180,ntmps180
   go_wp2_with fail
   refine (y_V p W).mono ?_;rintro _ W1 ⟨rfl,b1⟩;rw[HKd.out];obtain⟨W2,s2,r2,b2,z2⟩:=x_I W1 (zeroM.setN 0 km0 2 wi2);have q2:=z_Q wi2 W1;have hz:=b1.size;obtain⟨Z,hZ⟩:∃Z,W1.heap.size=Z:=⟨_,rfl⟩;rw[hZ] at s2 r2
   have S2:Hid (MS w W2 w.heap.size (w.heap.size+1) Z p (zeroM.setN 0 km0 2 wi2)):=⟨(H.out.1.below b1).below b2,(H.out.2.1.below b1).below b2,r2,z_a (z_a H.out.2.2.1 b1) b2,by omega,by have:=H.out.2.2.2;omega,by have:=H.out.2.2.2;omega⟩;have c0:=S2.out.mv.num (j:=0) (k:=.i64) rfl;rw[show Row.nm _ 0=(2:Int) from rfl] at c0;clear b1 b2 r2 z2 hz l0 HKd;have lm:=S2.out.mv.mld
   obtain⟨U,sU,h1,h2⟩:=S2.out.tell tcnM;have G:Hid (RvAt U (w.heap.size+1) 46 M.cs∧Below w.heap.size w U):=by rw[←E9.out];exact⟨h1,h2⟩
   rw[show (zeroM.setN 0 km0 2 wi2).cs=tcnM.cs from rfl] at lm;clear h1 h2 S2 h4 h23;go_wp2
   refine bodyPost_ret (z_e rtM results180 _ _ _ _ rfl G.out.1 (by rw[Row.csize,lenM])) rfl ?_;exact⟨rfl,G.out.2⟩
 ·cases b26
  ·by_cases h0:N=0
   ·subst h0;have hT:tcB p=false:=by unfold tcB;rw[H71.out];rfl
    have E9:Hid (((((((((((zeroM.setN 0 km0 3 wi3).setN 7 km7 (rolN (p.nm 30)) (x_N _)).setB 3 km3 (p.bt 13)).setB 6 km6 (p.bt 3)).setB 4 km4 (p.bt 10)).setB 5 km5 (p.bt 8)).setB 1 km1 false).setB 2 km2 false).put 8 (dsg p) mq8 ml8).put 12 (dsT p) mq12 ml12)=M):=by
     rw[←EM.out];unfold msgP;rw[if_pos h23];unfold rstM;rw[show tcB p=false from hT];exact rfl
    clear hT EM;have HKd:Hid (kinN p=3):=by unfold kinN;rw[if_pos h23];exact rfl
    go_enter func180,ntmps180
    go_wp2_with fail
    refine (y_V p W).mono ?_;rintro _ W1 ⟨rfl,b1⟩;rw[HKd.out];obtain⟨W2,s2,r2,b2,z2⟩:=x_I W1 (zeroM.setN 0 km0 3 wi3);have q2:=z_Q wi3 W1;have hz:=b1.size;obtain⟨Z,hZ⟩:∃Z,W1.heap.size=Z:=⟨_,rfl⟩;rw[hZ] at s2 r2
    have S2:Hid (MS w W2 w.heap.size (w.heap.size+1) Z p (zeroM.setN 0 km0 3 wi3)):=⟨(H.out.1.below b1).below b2,(H.out.2.1.below b1).below b2,r2,z_a (z_a H.out.2.2.1 b1) b2,by omega,by have:=H.out.2.2.2;omega,by have:=H.out.2.2.2;omega⟩;have c0:=S2.out.mv.num (j:=0) (k:=.i64) rfl;rw[show Row.nm _ 0=(3:Int) from rfl] at c0;clear b1 b2 r2 z2 hz l0 HKd;have c30:=S2.out.pv.num (j:=30) (k:=.i64) rfl
    go_wp2_with fail
    refine (u_a (p.nm 30) W2).mono ?_;rintro _ W3 ⟨rfl,b3⟩;obtain⟨V4,e4,R4⟩:=(S2.out.below b3).setN (t:=44) infoR km7 (x_N (p.nm 30));have S4:Hid (MS w V4 w.heap.size (w.heap.size+1) Z p _):=R4;clear R4 b3 c0 c30;go_upto_region 6 with fail
    clear e4;obtain⟨X5,hX⟩:∃X0,World.drew V4=X0:=⟨_,rfl⟩;have Y5:=S4.out.drew' hX;obtain⟨A5,a5,SA5⟩:=Y5.setB km3 (p.bt 13);obtain⟨B5,d5,SB5⟩:=SA5.setB km6 (p.bt 3);have D6:Hid (RvAt X5 w.heap.size 74 p.cs∧RvAt A5 w.heap.size 74 p.cs∧RvAt B5 w.heap.size 74 p.cs):=⟨Y5.pv,SA5.pv,SB5.pv⟩;have S5:Hid (MS w B5 w.heap.size (w.heap.size+1) Z p _):=SB5;clear Y5 SA5 SB5;refine wp_region_noPanic ?_
    refine wp_region_held_drew (S:=fun w'=>RvAt w' w.heap.size 74 p.cs) (by kernel_rfl) (by rw[hX];exact D6.out.1) (fun hHeld=>?_);rw[hX] at hHeld ⊢;clear hX;refine tk 0 ?_ rfl ?_ hHeld ?_;rotate_left
    ·intro W_ hSw_;have x13:=hSw_.bit (j:=13) rfl;have x3:=hSw_.bit (j:=3) rfl;clear hSw_
     go_simp<;>with_reducible rfl
    rotate_left;refine tk 1 ?_ rfl ?_ hHeld ?_;rotate_left
    ·intro W_ hSw_;have x13:=hSw_.bit (j:=13) rfl;have x3:=hSw_.bit (j:=3) rfl;clear hSw_
     go_simp<;>with_reducible rfl
    rotate_left;refine tk 2 ?_ rfl ?_ hHeld ?_;rotate_left
    ·intro W_ hSw_;have x13:=hSw_.bit (j:=13) rfl;have x3:=hSw_.bit (j:=3) rfl;clear hSw_
     go_simp<;>with_reducible rfl
    rotate_left;refine tk 3 ?_ rfl ?_ hHeld ?_;rotate_left
    ·intro W_ hSw_;have x13:=hSw_.bit (j:=13) rfl;have x3:=hSw_.bit (j:=3) rfl;clear hSw_
     go_simp<;>with_reducible rfl
    rotate_left;refine tk 4 ?_ rfl ?_ hHeld ?_;rotate_left
    ·intro W_ hSw_;have x13:=hSw_.bit (j:=13) rfl;have x3:=hSw_.bit (j:=3) rfl;clear hSw_
     go_simp<;>with_reducible rfl
    rotate_left
    try simp only[Act.put,zA,zB,zC]
    refine wpAnyH_ready (rs:=[5]) (by kernel_rfl) (by simp) ?_;refine AllReadyH.cons rfl (fun K hK=>?_) AllReadyH.nil
    go_simp
    clear hHeld;refine hK.out _ _ D6.out.2.1 (fun hHeld=>?_);clear hK K;refine tk 6 ?_ rfl ?_ hHeld ?_;rotate_left
    ·intro W_ hSw_;clear hSw_
     go_simp<;>with_reducible rfl
    rotate_left
    try simp only[Act.put,zA,zB,zC]
    refine wpAnyH_ready (rs:=[7]) (by kernel_rfl) (by simp) ?_;refine AllReadyH.cons rfl (fun K hK=>?_) AllReadyH.nil
    go_simp
    clear hHeld;refine hK.out _ _ D6.out.2.2 (fun hHeld=>?_);clear hK K
    try simp only[Act.put,zA,zB,zC]
    refine wpAnyH_done (by kernel_rfl) ?_ _;refine NoPanic.normal ?_;clear hHeld;clear a5 d5 D6;go_upto_region 7 with fail
    obtain⟨X6,hX⟩:∃X0,World.drew B5=X0:=⟨_,rfl⟩;have Y6:=S5.out.drew' hX;obtain⟨A6,a6,SA6⟩:=Y6.setB km4 (p.bt 10);obtain⟨B6,d6,SB6⟩:=SA6.setB km5 (p.bt 8);have D7:Hid (RvAt X6 w.heap.size 74 p.cs∧RvAt A6 w.heap.size 74 p.cs∧RvAt B6 w.heap.size 74 p.cs):=⟨Y6.pv,SA6.pv,SB6.pv⟩;have S6:Hid (MS w B6 w.heap.size (w.heap.size+1) Z p _):=SB6;clear Y6 SA6 SB6;refine wp_region_noPanic ?_
    refine wp_region_held_drew (S:=fun w'=>RvAt w' w.heap.size 74 p.cs) (by kernel_rfl) (by rw[hX];exact D7.out.1) (fun hHeld=>?_);rw[hX] at hHeld ⊢;clear hX;refine tk 0 ?_ rfl ?_ hHeld ?_;rotate_left
    ·intro W_ hSw_;have x10:=hSw_.bit (j:=10) rfl;have x8:=hSw_.bit (j:=8) rfl;clear hSw_
     go_simp<;>with_reducible rfl
    rotate_left;refine tk 1 ?_ rfl ?_ hHeld ?_;rotate_left
    ·intro W_ hSw_;have x10:=hSw_.bit (j:=10) rfl;have x8:=hSw_.bit (j:=8) rfl;clear hSw_
     go_simp<;>with_reducible rfl
    rotate_left;refine tk 2 ?_ rfl ?_ hHeld ?_;rotate_left
    ·intro W_ hSw_;have x10:=hSw_.bit (j:=10) rfl;have x8:=hSw_.bit (j:=8) rfl;clear hSw_
     go_simp<;>with_reducible rfl
    rotate_left;refine tk 3 ?_ rfl ?_ hHeld ?_;rotate_left
    ·intro W_ hSw_;have x10:=hSw_.bit (j:=10) rfl;have x8:=hSw_.bit (j:=8) rfl;clear hSw_
     go_simp<;>with_reducible rfl
    rotate_left;refine tk 4 ?_ rfl ?_ hHeld ?_;rotate_left
    ·intro W_ hSw_;have x10:=hSw_.bit (j:=10) rfl;have x8:=hSw_.bit (j:=8) rfl;clear hSw_
     go_simp<;>with_reducible rfl
    rotate_left
    try simp only[Act.put,zA,zB,zC]
    refine wpAnyH_ready (rs:=[5]) (by kernel_rfl) (by simp) ?_;refine AllReadyH.cons rfl (fun K hK=>?_) AllReadyH.nil
    go_simp
    clear hHeld;refine hK.out _ _ D7.out.2.1 (fun hHeld=>?_);clear hK K;refine tk 6 ?_ rfl ?_ hHeld ?_;rotate_left
    ·intro W_ hSw_;clear hSw_
     go_simp<;>with_reducible rfl
    rotate_left
    try simp only[Act.put,zA,zB,zC]
    refine wpAnyH_ready (rs:=[7]) (by kernel_rfl) (by simp) ?_;refine AllReadyH.cons rfl (fun K hK=>?_) AllReadyH.nil
    go_simp
    clear hHeld;refine hK.out _ _ D7.out.2.2 (fun hHeld=>?_);clear hK K
    try simp only[Act.put,zA,zB,zC]
    refine wpAnyH_done (by kernel_rfl) ?_ _;refine NoPanic.normal ?_;clear hHeld;clear a6 d6 D7;have c71:=S6.out.pv.num (j:=71) (k:=.u8) rfl;rw[H71.out] at c71;obtain⟨V7,e7,R7⟩:=S6.out.setB km1 false;have c26:=R7.pv.bit (j:=26) rfl;rw[H26.out] at c26;have cK:=R7.mv.num (j:=0) (k:=.i64) rfl;rw[show Row.nm _ 0=(3:Int) from rfl] at cK;obtain⟨V8,e8,R8⟩:=R7.setB km2 false
    have T7:Hid (MS w V8 w.heap.size (w.heap.size+1) Z p _):=R8;clear R7 R8;go_upto_region 10 with fail
    clear c71 c26 cK e7 e8;obtain⟨X9,hX⟩:∃X0,World.drew V8=X0:=⟨_,rfl⟩;have Y9:=T7.out.drew' hX;obtain⟨A9,a9,SA9⟩:=Y9.putV (dsg p);obtain⟨B9,d9,SB9⟩:=SA9.putT (dsT p);have D10:Hid (RvAt X9 w.heap.size 74 p.cs∧RvAt A9 w.heap.size 74 p.cs∧RvAt B9 w.heap.size 74 p.cs):=⟨Y9.pv,SA9.pv,SB9.pv⟩;have S9:Hid (MS w B9 w.heap.size (w.heap.size+1) Z p _):=SB9;clear Y9 SA9 SB9;refine wp_region_noPanic ?_
    refine wp_region_held_drew (S:=fun w'=>RvAt w' w.heap.size 74 p.cs) (by kernel_rfl) (by rw[hX];exact D10.out.1) (fun hHeld=>?_);rw[hX] at hHeld ⊢;clear hX;refine tk 0 ?_ rfl ?_ hHeld ?_;rotate_left
    ·intro W_ hSw_;have xv:=hSw_.pdsg;have xt:=hSw_.pdsT15;clear hSw_
     go_simp<;>with_reducible rfl
    rotate_left;refine tk 1 ?_ rfl ?_ hHeld ?_;rotate_left
    ·intro W_ hSw_;have xv:=hSw_.pdsg;have xt:=hSw_.pdsT15;clear hSw_
     go_simp<;>with_reducible rfl
    rotate_left;refine tk 2 ?_ rfl ?_ hHeld ?_;rotate_left
    ·intro W_ hSw_;have xv:=hSw_.pdsg;have xt:=hSw_.pdsT15;clear hSw_
     go_simp<;>with_reducible rfl
    rotate_left;refine tk 3 ?_ rfl ?_ hHeld ?_;rotate_left
    ·intro W_ hSw_;have xv:=hSw_.pdsg;have xt:=hSw_.pdsT15;clear hSw_
     go_simp<;>with_reducible rfl
    rotate_left;refine tk 4 ?_ rfl ?_ hHeld ?_;rotate_left
    ·intro W_ hSw_;have xv:=hSw_.pdsg;have xt:=hSw_.pdsT15;clear hSw_
     go_simp<;>with_reducible rfl
    rotate_left
    try simp only[Act.put,zA,zB,zC]
    refine wpAnyH_ready (rs:=[5]) (by kernel_rfl) (by simp) ?_;refine AllReadyH.cons rfl (fun K hK=>?_) AllReadyH.nil
    go_simp
    clear hHeld;refine hK.out _ _ D10.out.2.1 (fun hHeld=>?_);clear hK K;refine tk 6 ?_ rfl ?_ hHeld ?_;rotate_left
    ·intro W_ hSw_;clear hSw_
     go_simp<;>with_reducible rfl
    rotate_left
    try simp only[Act.put,zA,zB,zC]
    refine wpAnyH_ready (rs:=[7]) (by kernel_rfl) (by simp) ?_;refine AllReadyH.cons rfl (fun K hK=>?_) AllReadyH.nil
    go_simp
    clear hHeld;refine hK.out _ _ D10.out.2.2 (fun hHeld=>?_);clear hK K
    try simp only[Act.put,zA,zB,zC]
    refine wpAnyH_done (by kernel_rfl) ?_ _;refine NoPanic.normal ?_;clear hHeld;clear a9 d9 D10;have lm:=S9.out.mv.mld;obtain⟨U,sU,h1,h2⟩:=S9.out.tell _;have G:Hid (RvAt U (w.heap.size+1) 46 M.cs∧Below w.heap.size w U):=by rw[←E9.out];exact⟨h1,h2⟩
    clear h1 h2 S9;go_wp2
    refine bodyPost_ret (z_e rtM results180 _ _ _ _ rfl G.out.1 (by rw[Row.csize,lenM])) rfl ?_;exact⟨rfl,G.out.2⟩
   ·have x0:(N==0)=false:=beq_eq_false_iff_ne.2 h0;have y0:(N != 0)=true:=by simp[h0]
    have hT:tcB p=true:=by unfold tcB;rw[H71.out,x0];rfl
    have E9:Hid (((((((((((zeroM.setN 0 km0 3 wi3).setN 7 km7 (rolN (p.nm 30)) (x_N _)).setB 3 km3 (p.bt 13)).setB 6 km6 (p.bt 3)).setB 4 km4 (p.bt 10)).setB 5 km5 (p.bt 8)).setB 1 km1 true).setB 2 km2 false).put 8 (dsg p) mq8 ml8).put 12 (dsT p) mq12 ml12)=M):=by
     rw[←EM.out];unfold msgP;rw[if_pos h23];unfold rstM;rw[show tcB p=true from hT];exact rfl
    clear hT EM h0;have HKd:Hid (kinN p=3):=by unfold kinN;rw[if_pos h23];exact rfl
    go_enter func180,ntmps180
    go_wp2_with fail
    refine (y_V p W).mono ?_;rintro _ W1 ⟨rfl,b1⟩;rw[HKd.out];obtain⟨W2,s2,r2,b2,z2⟩:=x_I W1 (zeroM.setN 0 km0 3 wi3);have q2:=z_Q wi3 W1;have hz:=b1.size;obtain⟨Z,hZ⟩:∃Z,W1.heap.size=Z:=⟨_,rfl⟩;rw[hZ] at s2 r2
    have S2:Hid (MS w W2 w.heap.size (w.heap.size+1) Z p (zeroM.setN 0 km0 3 wi3)):=⟨(H.out.1.below b1).below b2,(H.out.2.1.below b1).below b2,r2,z_a (z_a H.out.2.2.1 b1) b2,by omega,by have:=H.out.2.2.2;omega,by have:=H.out.2.2.2;omega⟩;have c0:=S2.out.mv.num (j:=0) (k:=.i64) rfl;rw[show Row.nm _ 0=(3:Int) from rfl] at c0;clear b1 b2 r2 z2 hz l0 HKd;have c30:=S2.out.pv.num (j:=30) (k:=.i64) rfl
    go_wp2_with fail
    refine (u_a (p.nm 30) W2).mono ?_;rintro _ W3 ⟨rfl,b3⟩;obtain⟨V4,e4,R4⟩:=(S2.out.below b3).setN (t:=44) infoR km7 (x_N (p.nm 30));have S4:Hid (MS w V4 w.heap.size (w.heap.size+1) Z p _):=R4;clear R4 b3 c0 c30;go_upto_region 6 with fail
    clear e4;obtain⟨X5,hX⟩:∃X0,World.drew V4=X0:=⟨_,rfl⟩;have Y5:=S4.out.drew' hX;obtain⟨A5,a5,SA5⟩:=Y5.setB km3 (p.bt 13);obtain⟨B5,d5,SB5⟩:=SA5.setB km6 (p.bt 3);have D6:Hid (RvAt X5 w.heap.size 74 p.cs∧RvAt A5 w.heap.size 74 p.cs∧RvAt B5 w.heap.size 74 p.cs):=⟨Y5.pv,SA5.pv,SB5.pv⟩;have S5:Hid (MS w B5 w.heap.size (w.heap.size+1) Z p _):=SB5;clear Y5 SA5 SB5;refine wp_region_noPanic ?_
    refine wp_region_held_drew (S:=fun w'=>RvAt w' w.heap.size 74 p.cs) (by kernel_rfl) (by rw[hX];exact D6.out.1) (fun hHeld=>?_);rw[hX] at hHeld ⊢;clear hX;refine tk 0 ?_ rfl ?_ hHeld ?_;rotate_left
    ·intro W_ hSw_;have x13:=hSw_.bit (j:=13) rfl;have x3:=hSw_.bit (j:=3) rfl;clear hSw_
     go_simp<;>with_reducible rfl
    rotate_left;refine tk 1 ?_ rfl ?_ hHeld ?_;rotate_left
    ·intro W_ hSw_;have x13:=hSw_.bit (j:=13) rfl;have x3:=hSw_.bit (j:=3) rfl;clear hSw_
     go_simp<;>with_reducible rfl
    rotate_left;refine tk 2 ?_ rfl ?_ hHeld ?_;rotate_left
    ·intro W_ hSw_;have x13:=hSw_.bit (j:=13) rfl;have x3:=hSw_.bit (j:=3) rfl;clear hSw_
     go_simp<;>with_reducible rfl
    rotate_left;refine tk 3 ?_ rfl ?_ hHeld ?_;rotate_left
    ·intro W_ hSw_;have x13:=hSw_.bit (j:=13) rfl;have x3:=hSw_.bit (j:=3) rfl;clear hSw_
     go_simp<;>with_reducible rfl
    rotate_left;refine tk 4 ?_ rfl ?_ hHeld ?_;rotate_left
    ·intro W_ hSw_;have x13:=hSw_.bit (j:=13) rfl;have x3:=hSw_.bit (j:=3) rfl;clear hSw_
     go_simp<;>with_reducible rfl
    rotate_left
    try simp only[Act.put,zA,zB,zC]
    refine wpAnyH_ready (rs:=[5]) (by kernel_rfl) (by simp) ?_;refine AllReadyH.cons rfl (fun K hK=>?_) AllReadyH.nil
    go_simp
    clear hHeld;refine hK.out _ _ D6.out.2.1 (fun hHeld=>?_);clear hK K;refine tk 6 ?_ rfl ?_ hHeld ?_;rotate_left
    ·intro W_ hSw_;clear hSw_
     go_simp<;>with_reducible rfl
    rotate_left
    try simp only[Act.put,zA,zB,zC]
    refine wpAnyH_ready (rs:=[7]) (by kernel_rfl) (by simp) ?_;refine AllReadyH.cons rfl (fun K hK=>?_) AllReadyH.nil
    go_simp
    clear hHeld;refine hK.out _ _ D6.out.2.2 (fun hHeld=>?_);clear hK K
    try simp only[Act.put,zA,zB,zC]
    refine wpAnyH_done (by kernel_rfl) ?_ _;refine NoPanic.normal ?_;clear hHeld;clear a5 d5 D6;go_upto_region 7 with fail
    obtain⟨X6,hX⟩:∃X0,World.drew B5=X0:=⟨_,rfl⟩;have Y6:=S5.out.drew' hX;obtain⟨A6,a6,SA6⟩:=Y6.setB km4 (p.bt 10);obtain⟨B6,d6,SB6⟩:=SA6.setB km5 (p.bt 8);have D7:Hid (RvAt X6 w.heap.size 74 p.cs∧RvAt A6 w.heap.size 74 p.cs∧RvAt B6 w.heap.size 74 p.cs):=⟨Y6.pv,SA6.pv,SB6.pv⟩;have S6:Hid (MS w B6 w.heap.size (w.heap.size+1) Z p _):=SB6;clear Y6 SA6 SB6;refine wp_region_noPanic ?_
    refine wp_region_held_drew (S:=fun w'=>RvAt w' w.heap.size 74 p.cs) (by kernel_rfl) (by rw[hX];exact D7.out.1) (fun hHeld=>?_);rw[hX] at hHeld ⊢;clear hX;refine tk 0 ?_ rfl ?_ hHeld ?_;rotate_left
    ·intro W_ hSw_;have x10:=hSw_.bit (j:=10) rfl;have x8:=hSw_.bit (j:=8) rfl;clear hSw_
     go_simp<;>with_reducible rfl
    rotate_left;refine tk 1 ?_ rfl ?_ hHeld ?_;rotate_left
    ·intro W_ hSw_;have x10:=hSw_.bit (j:=10) rfl;have x8:=hSw_.bit (j:=8) rfl;clear hSw_
     go_simp<;>with_reducible rfl
    rotate_left;refine tk 2 ?_ rfl ?_ hHeld ?_;rotate_left
    ·intro W_ hSw_;have x10:=hSw_.bit (j:=10) rfl;have x8:=hSw_.bit (j:=8) rfl;clear hSw_
     go_simp<;>with_reducible rfl
    rotate_left;refine tk 3 ?_ rfl ?_ hHeld ?_;rotate_left
    ·intro W_ hSw_;have x10:=hSw_.bit (j:=10) rfl;have x8:=hSw_.bit (j:=8) rfl;clear hSw_
     go_simp<;>with_reducible rfl
    rotate_left;refine tk 4 ?_ rfl ?_ hHeld ?_;rotate_left
    ·intro W_ hSw_;have x10:=hSw_.bit (j:=10) rfl;have x8:=hSw_.bit (j:=8) rfl;clear hSw_
     go_simp<;>with_reducible rfl
    rotate_left
    try simp only[Act.put,zA,zB,zC]
    refine wpAnyH_ready (rs:=[5]) (by kernel_rfl) (by simp) ?_;refine AllReadyH.cons rfl (fun K hK=>?_) AllReadyH.nil
    go_simp
    clear hHeld;refine hK.out _ _ D7.out.2.1 (fun hHeld=>?_);clear hK K;refine tk 6 ?_ rfl ?_ hHeld ?_;rotate_left
    ·intro W_ hSw_;clear hSw_
     go_simp<;>with_reducible rfl
    rotate_left
    try simp only[Act.put,zA,zB,zC]
    refine wpAnyH_ready (rs:=[7]) (by kernel_rfl) (by simp) ?_;refine AllReadyH.cons rfl (fun K hK=>?_) AllReadyH.nil
    go_simp
    clear hHeld;refine hK.out _ _ D7.out.2.2 (fun hHeld=>?_);clear hK K
    try simp only[Act.put,zA,zB,zC]
    refine wpAnyH_done (by kernel_rfl) ?_ _;refine NoPanic.normal ?_;clear hHeld;clear a6 d6 D7;have c71:=S6.out.pv.num (j:=71) (k:=.u8) rfl;rw[H71.out] at c71;obtain⟨V7,e7,R7⟩:=S6.out.setB km1 true;have c26:=R7.pv.bit (j:=26) rfl;rw[H26.out] at c26;have cK:=R7.mv.num (j:=0) (k:=.i64) rfl;rw[show Row.nm _ 0=(3:Int) from rfl] at cK;obtain⟨V8,e8,R8⟩:=R7.setB km2 false
    have T7:Hid (MS w V8 w.heap.size (w.heap.size+1) Z p _):=R8;clear R7 R8;go_upto_region 10 with fail
    clear c71 c26 cK e7 e8;obtain⟨X9,hX⟩:∃X0,World.drew V8=X0:=⟨_,rfl⟩;have Y9:=T7.out.drew' hX;obtain⟨A9,a9,SA9⟩:=Y9.putV (dsg p);obtain⟨B9,d9,SB9⟩:=SA9.putT (dsT p);have D10:Hid (RvAt X9 w.heap.size 74 p.cs∧RvAt A9 w.heap.size 74 p.cs∧RvAt B9 w.heap.size 74 p.cs):=⟨Y9.pv,SA9.pv,SB9.pv⟩;have S9:Hid (MS w B9 w.heap.size (w.heap.size+1) Z p _):=SB9;clear Y9 SA9 SB9;refine wp_region_noPanic ?_
    refine wp_region_held_drew (S:=fun w'=>RvAt w' w.heap.size 74 p.cs) (by kernel_rfl) (by rw[hX];exact D10.out.1) (fun hHeld=>?_);rw[hX] at hHeld ⊢;clear hX;refine tk 0 ?_ rfl ?_ hHeld ?_;rotate_left
    ·intro W_ hSw_;have xv:=hSw_.pdsg;have xt:=hSw_.pdsT15;clear hSw_
     go_simp<;>with_reducible rfl
    rotate_left;refine tk 1 ?_ rfl ?_ hHeld ?_;rotate_left
    ·intro W_ hSw_;have xv:=hSw_.pdsg;have xt:=hSw_.pdsT15;clear hSw_
     go_simp<;>with_reducible rfl
    rotate_left;refine tk 2 ?_ rfl ?_ hHeld ?_;rotate_left
    ·intro W_ hSw_;have xv:=hSw_.pdsg;have xt:=hSw_.pdsT15;clear hSw_
     go_simp<;>with_reducible rfl
    rotate_left;refine tk 3 ?_ rfl ?_ hHeld ?_;rotate_left
    ·intro W_ hSw_;have xv:=hSw_.pdsg;have xt:=hSw_.pdsT15;clear hSw_
     go_simp<;>with_reducible rfl
    rotate_left;refine tk 4 ?_ rfl ?_ hHeld ?_;rotate_left
    ·intro W_ hSw_;have xv:=hSw_.pdsg;have xt:=hSw_.pdsT15;clear hSw_
     go_simp<;>with_reducible rfl
    rotate_left
    try simp only[Act.put,zA,zB,zC]
    refine wpAnyH_ready (rs:=[5]) (by kernel_rfl) (by simp) ?_;refine AllReadyH.cons rfl (fun K hK=>?_) AllReadyH.nil
    go_simp
    clear hHeld;refine hK.out _ _ D10.out.2.1 (fun hHeld=>?_);clear hK K;refine tk 6 ?_ rfl ?_ hHeld ?_;rotate_left
    ·intro W_ hSw_;clear hSw_
     go_simp<;>with_reducible rfl
    rotate_left
    try simp only[Act.put,zA,zB,zC]
    refine wpAnyH_ready (rs:=[7]) (by kernel_rfl) (by simp) ?_;refine AllReadyH.cons rfl (fun K hK=>?_) AllReadyH.nil
    go_simp
    clear hHeld;refine hK.out _ _ D10.out.2.2 (fun hHeld=>?_);clear hK K
    try simp only[Act.put,zA,zB,zC]
    refine wpAnyH_done (by kernel_rfl) ?_ _;refine NoPanic.normal ?_;clear hHeld;clear a9 d9 D10;have lm:=S9.out.mv.mld;obtain⟨U,sU,h1,h2⟩:=S9.out.tell _;have G:Hid (RvAt U (w.heap.size+1) 46 M.cs∧Below w.heap.size w U):=by rw[←E9.out];exact⟨h1,h2⟩
    clear h1 h2 S9;go_wp2
    refine bodyPost_ret (z_e rtM results180 _ _ _ _ rfl G.out.1 (by rw[Row.csize,lenM])) rfl ?_;exact⟨rfl,G.out.2⟩
  ·by_cases h0:N=0
   ·subst h0;have hT:tcB p=false:=by unfold tcB;rw[H71.out];rfl
    have E9:Hid (((((((((((zeroM.setN 0 km0 3 wi3).setN 7 km7 (rolN (p.nm 30)) (x_N _)).setB 3 km3 (p.bt 13)).setB 6 km6 (p.bt 3)).setB 4 km4 (p.bt 10)).setB 5 km5 (p.bt 8)).setB 1 km1 false).setB 2 km2 false).put 8 (dsg p) mq8 ml8).put 12 (dsT p) mq12 ml12)=M):=by
     rw[←EM.out];unfold msgP;rw[if_pos h23];unfold rstM;rw[show tcB p=false from hT];exact rfl
    clear hT EM;have HKd:Hid (kinN p=3):=by unfold kinN;rw[if_pos h23];exact rfl
    go_enter func180,ntmps180
    go_wp2_with fail
    refine (y_V p W).mono ?_;rintro _ W1 ⟨rfl,b1⟩;rw[HKd.out];obtain⟨W2,s2,r2,b2,z2⟩:=x_I W1 (zeroM.setN 0 km0 3 wi3);have q2:=z_Q wi3 W1;have hz:=b1.size;obtain⟨Z,hZ⟩:∃Z,W1.heap.size=Z:=⟨_,rfl⟩;rw[hZ] at s2 r2
    have S2:Hid (MS w W2 w.heap.size (w.heap.size+1) Z p (zeroM.setN 0 km0 3 wi3)):=⟨(H.out.1.below b1).below b2,(H.out.2.1.below b1).below b2,r2,z_a (z_a H.out.2.2.1 b1) b2,by omega,by have:=H.out.2.2.2;omega,by have:=H.out.2.2.2;omega⟩;have c0:=S2.out.mv.num (j:=0) (k:=.i64) rfl;rw[show Row.nm _ 0=(3:Int) from rfl] at c0;clear b1 b2 r2 z2 hz l0 HKd;have c30:=S2.out.pv.num (j:=30) (k:=.i64) rfl
    go_wp2_with fail
    refine (u_a (p.nm 30) W2).mono ?_;rintro _ W3 ⟨rfl,b3⟩;obtain⟨V4,e4,R4⟩:=(S2.out.below b3).setN (t:=44) infoR km7 (x_N (p.nm 30));have S4:Hid (MS w V4 w.heap.size (w.heap.size+1) Z p _):=R4;clear R4 b3 c0 c30;go_upto_region 6 with fail
    clear e4;obtain⟨X5,hX⟩:∃X0,World.drew V4=X0:=⟨_,rfl⟩;have Y5:=S4.out.drew' hX;obtain⟨A5,a5,SA5⟩:=Y5.setB km3 (p.bt 13);obtain⟨B5,d5,SB5⟩:=SA5.setB km6 (p.bt 3);have D6:Hid (RvAt X5 w.heap.size 74 p.cs∧RvAt A5 w.heap.size 74 p.cs∧RvAt B5 w.heap.size 74 p.cs):=⟨Y5.pv,SA5.pv,SB5.pv⟩;have S5:Hid (MS w B5 w.heap.size (w.heap.size+1) Z p _):=SB5;clear Y5 SA5 SB5;refine wp_region_noPanic ?_
    refine wp_region_held_drew (S:=fun w'=>RvAt w' w.heap.size 74 p.cs) (by kernel_rfl) (by rw[hX];exact D6.out.1) (fun hHeld=>?_);rw[hX] at hHeld ⊢;clear hX;refine tk 0 ?_ rfl ?_ hHeld ?_;rotate_left
    ·intro W_ hSw_;have x13:=hSw_.bit (j:=13) rfl;have x3:=hSw_.bit (j:=3) rfl;clear hSw_
     go_simp<;>with_reducible rfl
    rotate_left;refine tk 1 ?_ rfl ?_ hHeld ?_;rotate_left
    ·intro W_ hSw_;have x13:=hSw_.bit (j:=13) rfl;have x3:=hSw_.bit (j:=3) rfl;clear hSw_
     go_simp<;>with_reducible rfl
    rotate_left;refine tk 2 ?_ rfl ?_ hHeld ?_;rotate_left
    ·intro W_ hSw_;have x13:=hSw_.bit (j:=13) rfl;have x3:=hSw_.bit (j:=3) rfl;clear hSw_
     go_simp<;>with_reducible rfl
    rotate_left;refine tk 3 ?_ rfl ?_ hHeld ?_;rotate_left
    ·intro W_ hSw_;have x13:=hSw_.bit (j:=13) rfl;have x3:=hSw_.bit (j:=3) rfl;clear hSw_
     go_simp<;>with_reducible rfl
    rotate_left;refine tk 4 ?_ rfl ?_ hHeld ?_;rotate_left
    ·intro W_ hSw_;have x13:=hSw_.bit (j:=13) rfl;have x3:=hSw_.bit (j:=3) rfl;clear hSw_
     go_simp<;>with_reducible rfl
    rotate_left
    try simp only[Act.put,zA,zB,zC]
    refine wpAnyH_ready (rs:=[5]) (by kernel_rfl) (by simp) ?_;refine AllReadyH.cons rfl (fun K hK=>?_) AllReadyH.nil
    go_simp
    clear hHeld;refine hK.out _ _ D6.out.2.1 (fun hHeld=>?_);clear hK K;refine tk 6 ?_ rfl ?_ hHeld ?_;rotate_left
    ·intro W_ hSw_;clear hSw_
     go_simp<;>with_reducible rfl
    rotate_left
    try simp only[Act.put,zA,zB,zC]
    refine wpAnyH_ready (rs:=[7]) (by kernel_rfl) (by simp) ?_;refine AllReadyH.cons rfl (fun K hK=>?_) AllReadyH.nil
    go_simp
    clear hHeld;refine hK.out _ _ D6.out.2.2 (fun hHeld=>?_);clear hK K
    try simp only[Act.put,zA,zB,zC]
    refine wpAnyH_done (by kernel_rfl) ?_ _;refine NoPanic.normal ?_;clear hHeld;clear a5 d5 D6;go_upto_region 7 with fail
    obtain⟨X6,hX⟩:∃X0,World.drew B5=X0:=⟨_,rfl⟩;have Y6:=S5.out.drew' hX;obtain⟨A6,a6,SA6⟩:=Y6.setB km4 (p.bt 10);obtain⟨B6,d6,SB6⟩:=SA6.setB km5 (p.bt 8);have D7:Hid (RvAt X6 w.heap.size 74 p.cs∧RvAt A6 w.heap.size 74 p.cs∧RvAt B6 w.heap.size 74 p.cs):=⟨Y6.pv,SA6.pv,SB6.pv⟩;have S6:Hid (MS w B6 w.heap.size (w.heap.size+1) Z p _):=SB6;clear Y6 SA6 SB6;refine wp_region_noPanic ?_
    refine wp_region_held_drew (S:=fun w'=>RvAt w' w.heap.size 74 p.cs) (by kernel_rfl) (by rw[hX];exact D7.out.1) (fun hHeld=>?_);rw[hX] at hHeld ⊢;clear hX;refine tk 0 ?_ rfl ?_ hHeld ?_;rotate_left
    ·intro W_ hSw_;have x10:=hSw_.bit (j:=10) rfl;have x8:=hSw_.bit (j:=8) rfl;clear hSw_
     go_simp<;>with_reducible rfl
    rotate_left;refine tk 1 ?_ rfl ?_ hHeld ?_;rotate_left
    ·intro W_ hSw_;have x10:=hSw_.bit (j:=10) rfl;have x8:=hSw_.bit (j:=8) rfl;clear hSw_
     go_simp<;>with_reducible rfl
    rotate_left;refine tk 2 ?_ rfl ?_ hHeld ?_;rotate_left
    ·intro W_ hSw_;have x10:=hSw_.bit (j:=10) rfl;have x8:=hSw_.bit (j:=8) rfl;clear hSw_
     go_simp<;>with_reducible rfl
    rotate_left;refine tk 3 ?_ rfl ?_ hHeld ?_;rotate_left
    ·intro W_ hSw_;have x10:=hSw_.bit (j:=10) rfl;have x8:=hSw_.bit (j:=8) rfl;clear hSw_
     go_simp<;>with_reducible rfl
    rotate_left;refine tk 4 ?_ rfl ?_ hHeld ?_;rotate_left
    ·intro W_ hSw_;have x10:=hSw_.bit (j:=10) rfl;have x8:=hSw_.bit (j:=8) rfl;clear hSw_
     go_simp<;>with_reducible rfl
    rotate_left
    try simp only[Act.put,zA,zB,zC]
    refine wpAnyH_ready (rs:=[5]) (by kernel_rfl) (by simp) ?_;refine AllReadyH.cons rfl (fun K hK=>?_) AllReadyH.nil
    go_simp
    clear hHeld;refine hK.out _ _ D7.out.2.1 (fun hHeld=>?_);clear hK K;refine tk 6 ?_ rfl ?_ hHeld ?_;rotate_left
    ·intro W_ hSw_;clear hSw_
     go_simp<;>with_reducible rfl
    rotate_left
    try simp only[Act.put,zA,zB,zC]
    refine wpAnyH_ready (rs:=[7]) (by kernel_rfl) (by simp) ?_;refine AllReadyH.cons rfl (fun K hK=>?_) AllReadyH.nil
    go_simp
    clear hHeld;refine hK.out _ _ D7.out.2.2 (fun hHeld=>?_);clear hK K
    try simp only[Act.put,zA,zB,zC]
    refine wpAnyH_done (by kernel_rfl) ?_ _;refine NoPanic.normal ?_;clear hHeld;clear a6 d6 D7;have c71:=S6.out.pv.num (j:=71) (k:=.u8) rfl;rw[H71.out] at c71;obtain⟨V7,e7,R7⟩:=S6.out.setB km1 false;have c26:=R7.pv.bit (j:=26) rfl;rw[H26.out] at c26;have cK:=R7.mv.num (j:=0) (k:=.i64) rfl;rw[show Row.nm _ 0=(3:Int) from rfl] at cK;obtain⟨V8,e8,R8⟩:=R7.setB km2 false
    have T7:Hid (MS w V8 w.heap.size (w.heap.size+1) Z p _):=R8;clear R7 R8;go_upto_region 10 with fail
    clear c71 c26 cK e7 e8;obtain⟨X9,hX⟩:∃X0,World.drew V8=X0:=⟨_,rfl⟩;have Y9:=T7.out.drew' hX;obtain⟨A9,a9,SA9⟩:=Y9.putV (dsg p);obtain⟨B9,d9,SB9⟩:=SA9.putT (dsT p);have D10:Hid (RvAt X9 w.heap.size 74 p.cs∧RvAt A9 w.heap.size 74 p.cs∧RvAt B9 w.heap.size 74 p.cs):=⟨Y9.pv,SA9.pv,SB9.pv⟩;have S9:Hid (MS w B9 w.heap.size (w.heap.size+1) Z p _):=SB9;clear Y9 SA9 SB9;refine wp_region_noPanic ?_
    refine wp_region_held_drew (S:=fun w'=>RvAt w' w.heap.size 74 p.cs) (by kernel_rfl) (by rw[hX];exact D10.out.1) (fun hHeld=>?_);rw[hX] at hHeld ⊢;clear hX;refine tk 0 ?_ rfl ?_ hHeld ?_;rotate_left
    ·intro W_ hSw_;have xv:=hSw_.pdsg;have xt:=hSw_.pdsT15;clear hSw_
     go_simp<;>with_reducible rfl
    rotate_left;refine tk 1 ?_ rfl ?_ hHeld ?_;rotate_left
    ·intro W_ hSw_;have xv:=hSw_.pdsg;have xt:=hSw_.pdsT15;clear hSw_
     go_simp<;>with_reducible rfl
    rotate_left;refine tk 2 ?_ rfl ?_ hHeld ?_;rotate_left
    ·intro W_ hSw_;have xv:=hSw_.pdsg;have xt:=hSw_.pdsT15;clear hSw_
     go_simp<;>with_reducible rfl
    rotate_left;refine tk 3 ?_ rfl ?_ hHeld ?_;rotate_left
    ·intro W_ hSw_;have xv:=hSw_.pdsg;have xt:=hSw_.pdsT15;clear hSw_
     go_simp<;>with_reducible rfl
    rotate_left;refine tk 4 ?_ rfl ?_ hHeld ?_;rotate_left
    ·intro W_ hSw_;have xv:=hSw_.pdsg;have xt:=hSw_.pdsT15;clear hSw_
     go_simp<;>with_reducible rfl
    rotate_left
    try simp only[Act.put,zA,zB,zC]
    refine wpAnyH_ready (rs:=[5]) (by kernel_rfl) (by simp) ?_;refine AllReadyH.cons rfl (fun K hK=>?_) AllReadyH.nil
    go_simp
    clear hHeld;refine hK.out _ _ D10.out.2.1 (fun hHeld=>?_);clear hK K;refine tk 6 ?_ rfl ?_ hHeld ?_;rotate_left
    ·intro W_ hSw_;clear hSw_
     go_simp<;>with_reducible rfl
    rotate_left
    try simp only[Act.put,zA,zB,zC]
    refine wpAnyH_ready (rs:=[7]) (by kernel_rfl) (by simp) ?_;refine AllReadyH.cons rfl (fun K hK=>?_) AllReadyH.nil
    go_simp
    clear hHeld;refine hK.out _ _ D10.out.2.2 (fun hHeld=>?_);clear hK K
    try simp only[Act.put,zA,zB,zC]
    refine wpAnyH_done (by kernel_rfl) ?_ _;refine NoPanic.normal ?_;clear hHeld;clear a9 d9 D10;have lm:=S9.out.mv.mld;obtain⟨U,sU,h1,h2⟩:=S9.out.tell _;have G:Hid (RvAt U (w.heap.size+1) 46 M.cs∧Below w.heap.size w U):=by rw[←E9.out];exact⟨h1,h2⟩
    clear h1 h2 S9;go_wp2
    refine bodyPost_ret (z_e rtM results180 _ _ _ _ rfl G.out.1 (by rw[Row.csize,lenM])) rfl ?_;exact⟨rfl,G.out.2⟩
   ·have x0:(N==0)=false:=beq_eq_false_iff_ne.2 h0;have y0:(N != 0)=true:=by simp[h0]
    have hT:tcB p=true:=by unfold tcB;rw[H71.out,x0];rfl
    have E9:Hid (((((((((((zeroM.setN 0 km0 3 wi3).setN 7 km7 (rolN (p.nm 30)) (x_N _)).setB 3 km3 (p.bt 13)).setB 6 km6 (p.bt 3)).setB 4 km4 (p.bt 10)).setB 5 km5 (p.bt 8)).setB 1 km1 true).setB 2 km2 false).put 8 (dsg p) mq8 ml8).put 12 (dsT p) mq12 ml12)=M):=by
     rw[←EM.out];unfold msgP;rw[if_pos h23];unfold rstM;rw[show tcB p=true from hT];exact rfl
    clear hT EM h0;have HKd:Hid (kinN p=3):=by unfold kinN;rw[if_pos h23];exact rfl
    go_enter func180,ntmps180
    go_wp2_with fail
    refine (y_V p W).mono ?_;rintro _ W1 ⟨rfl,b1⟩;rw[HKd.out];obtain⟨W2,s2,r2,b2,z2⟩:=x_I W1 (zeroM.setN 0 km0 3 wi3);have q2:=z_Q wi3 W1;have hz:=b1.size;obtain⟨Z,hZ⟩:∃Z,W1.heap.size=Z:=⟨_,rfl⟩;rw[hZ] at s2 r2
    have S2:Hid (MS w W2 w.heap.size (w.heap.size+1) Z p (zeroM.setN 0 km0 3 wi3)):=⟨(H.out.1.below b1).below b2,(H.out.2.1.below b1).below b2,r2,z_a (z_a H.out.2.2.1 b1) b2,by omega,by have:=H.out.2.2.2;omega,by have:=H.out.2.2.2;omega⟩;have c0:=S2.out.mv.num (j:=0) (k:=.i64) rfl;rw[show Row.nm _ 0=(3:Int) from rfl] at c0;clear b1 b2 r2 z2 hz l0 HKd;have c30:=S2.out.pv.num (j:=30) (k:=.i64) rfl
    go_wp2_with fail
    refine (u_a (p.nm 30) W2).mono ?_;rintro _ W3 ⟨rfl,b3⟩;obtain⟨V4,e4,R4⟩:=(S2.out.below b3).setN (t:=44) infoR km7 (x_N (p.nm 30));have S4:Hid (MS w V4 w.heap.size (w.heap.size+1) Z p _):=R4;clear R4 b3 c0 c30;go_upto_region 6 with fail
    clear e4;obtain⟨X5,hX⟩:∃X0,World.drew V4=X0:=⟨_,rfl⟩;have Y5:=S4.out.drew' hX;obtain⟨A5,a5,SA5⟩:=Y5.setB km3 (p.bt 13);obtain⟨B5,d5,SB5⟩:=SA5.setB km6 (p.bt 3);have D6:Hid (RvAt X5 w.heap.size 74 p.cs∧RvAt A5 w.heap.size 74 p.cs∧RvAt B5 w.heap.size 74 p.cs):=⟨Y5.pv,SA5.pv,SB5.pv⟩;have S5:Hid (MS w B5 w.heap.size (w.heap.size+1) Z p _):=SB5;clear Y5 SA5 SB5;refine wp_region_noPanic ?_
    refine wp_region_held_drew (S:=fun w'=>RvAt w' w.heap.size 74 p.cs) (by kernel_rfl) (by rw[hX];exact D6.out.1) (fun hHeld=>?_);rw[hX] at hHeld ⊢;clear hX;refine tk 0 ?_ rfl ?_ hHeld ?_;rotate_left
    ·intro W_ hSw_;have x13:=hSw_.bit (j:=13) rfl;have x3:=hSw_.bit (j:=3) rfl;clear hSw_
     go_simp<;>with_reducible rfl
    rotate_left;refine tk 1 ?_ rfl ?_ hHeld ?_;rotate_left
    ·intro W_ hSw_;have x13:=hSw_.bit (j:=13) rfl;have x3:=hSw_.bit (j:=3) rfl;clear hSw_
     go_simp<;>with_reducible rfl
    rotate_left;refine tk 2 ?_ rfl ?_ hHeld ?_;rotate_left
    ·intro W_ hSw_;have x13:=hSw_.bit (j:=13) rfl;have x3:=hSw_.bit (j:=3) rfl;clear hSw_
     go_simp<;>with_reducible rfl
    rotate_left;refine tk 3 ?_ rfl ?_ hHeld ?_;rotate_left
    ·intro W_ hSw_;have x13:=hSw_.bit (j:=13) rfl;have x3:=hSw_.bit (j:=3) rfl;clear hSw_
     go_simp<;>with_reducible rfl
    rotate_left;refine tk 4 ?_ rfl ?_ hHeld ?_;rotate_left
    ·intro W_ hSw_;have x13:=hSw_.bit (j:=13) rfl;have x3:=hSw_.bit (j:=3) rfl;clear hSw_
     go_simp<;>with_reducible rfl
    rotate_left
    try simp only[Act.put,zA,zB,zC]
    refine wpAnyH_ready (rs:=[5]) (by kernel_rfl) (by simp) ?_;refine AllReadyH.cons rfl (fun K hK=>?_) AllReadyH.nil
    go_simp
    clear hHeld;refine hK.out _ _ D6.out.2.1 (fun hHeld=>?_);clear hK K;refine tk 6 ?_ rfl ?_ hHeld ?_;rotate_left
    ·intro W_ hSw_;clear hSw_
     go_simp<;>with_reducible rfl
    rotate_left
    try simp only[Act.put,zA,zB,zC]
    refine wpAnyH_ready (rs:=[7]) (by kernel_rfl) (by simp) ?_;refine AllReadyH.cons rfl (fun K hK=>?_) AllReadyH.nil
    go_simp
    clear hHeld;refine hK.out _ _ D6.out.2.2 (fun hHeld=>?_);clear hK K
    try simp only[Act.put,zA,zB,zC]
    refine wpAnyH_done (by kernel_rfl) ?_ _;refine NoPanic.normal ?_;clear hHeld;clear a5 d5 D6;go_upto_region 7 with fail
    obtain⟨X6,hX⟩:∃X0,World.drew B5=X0:=⟨_,rfl⟩;have Y6:=S5.out.drew' hX;obtain⟨A6,a6,SA6⟩:=Y6.setB km4 (p.bt 10);obtain⟨B6,d6,SB6⟩:=SA6.setB km5 (p.bt 8);have D7:Hid (RvAt X6 w.heap.size 74 p.cs∧RvAt A6 w.heap.size 74 p.cs∧RvAt B6 w.heap.size 74 p.cs):=⟨Y6.pv,SA6.pv,SB6.pv⟩;have S6:Hid (MS w B6 w.heap.size (w.heap.size+1) Z p _):=SB6;clear Y6 SA6 SB6;refine wp_region_noPanic ?_
    refine wp_region_held_drew (S:=fun w'=>RvAt w' w.heap.size 74 p.cs) (by kernel_rfl) (by rw[hX];exact D7.out.1) (fun hHeld=>?_);rw[hX] at hHeld ⊢;clear hX;refine tk 0 ?_ rfl ?_ hHeld ?_;rotate_left
    ·intro W_ hSw_;have x10:=hSw_.bit (j:=10) rfl;have x8:=hSw_.bit (j:=8) rfl;clear hSw_
     go_simp<;>with_reducible rfl
    rotate_left;refine tk 1 ?_ rfl ?_ hHeld ?_;rotate_left
    ·intro W_ hSw_;have x10:=hSw_.bit (j:=10) rfl;have x8:=hSw_.bit (j:=8) rfl;clear hSw_
     go_simp<;>with_reducible rfl
    rotate_left;refine tk 2 ?_ rfl ?_ hHeld ?_;rotate_left
    ·intro W_ hSw_;have x10:=hSw_.bit (j:=10) rfl;have x8:=hSw_.bit (j:=8) rfl;clear hSw_
     go_simp<;>with_reducible rfl
    rotate_left;refine tk 3 ?_ rfl ?_ hHeld ?_;rotate_left
    ·intro W_ hSw_;have x10:=hSw_.bit (j:=10) rfl;have x8:=hSw_.bit (j:=8) rfl;clear hSw_
     go_simp<;>with_reducible rfl
    rotate_left;refine tk 4 ?_ rfl ?_ hHeld ?_;rotate_left
    ·intro W_ hSw_;have x10:=hSw_.bit (j:=10) rfl;have x8:=hSw_.bit (j:=8) rfl;clear hSw_
     go_simp<;>with_reducible rfl
    rotate_left
    try simp only[Act.put,zA,zB,zC]
    refine wpAnyH_ready (rs:=[5]) (by kernel_rfl) (by simp) ?_;refine AllReadyH.cons rfl (fun K hK=>?_) AllReadyH.nil
    go_simp
    clear hHeld;refine hK.out _ _ D7.out.2.1 (fun hHeld=>?_);clear hK K;refine tk 6 ?_ rfl ?_ hHeld ?_;rotate_left
    ·intro W_ hSw_;clear hSw_
     go_simp<;>with_reducible rfl
    rotate_left
    try simp only[Act.put,zA,zB,zC]
    refine wpAnyH_ready (rs:=[7]) (by kernel_rfl) (by simp) ?_;refine AllReadyH.cons rfl (fun K hK=>?_) AllReadyH.nil
    go_simp
    clear hHeld;refine hK.out _ _ D7.out.2.2 (fun hHeld=>?_);clear hK K
    try simp only[Act.put,zA,zB,zC]
    refine wpAnyH_done (by kernel_rfl) ?_ _;refine NoPanic.normal ?_;clear hHeld;clear a6 d6 D7;have c71:=S6.out.pv.num (j:=71) (k:=.u8) rfl;rw[H71.out] at c71;obtain⟨V7,e7,R7⟩:=S6.out.setB km1 true;have c26:=R7.pv.bit (j:=26) rfl;rw[H26.out] at c26;have cK:=R7.mv.num (j:=0) (k:=.i64) rfl;rw[show Row.nm _ 0=(3:Int) from rfl] at cK;obtain⟨V8,e8,R8⟩:=R7.setB km2 false
    have T7:Hid (MS w V8 w.heap.size (w.heap.size+1) Z p _):=R8;clear R7 R8;go_upto_region 10 with fail
    clear c71 c26 cK e7 e8;obtain⟨X9,hX⟩:∃X0,World.drew V8=X0:=⟨_,rfl⟩;have Y9:=T7.out.drew' hX;obtain⟨A9,a9,SA9⟩:=Y9.putV (dsg p);obtain⟨B9,d9,SB9⟩:=SA9.putT (dsT p);have D10:Hid (RvAt X9 w.heap.size 74 p.cs∧RvAt A9 w.heap.size 74 p.cs∧RvAt B9 w.heap.size 74 p.cs):=⟨Y9.pv,SA9.pv,SB9.pv⟩;have S9:Hid (MS w B9 w.heap.size (w.heap.size+1) Z p _):=SB9;clear Y9 SA9 SB9;refine wp_region_noPanic ?_
    refine wp_region_held_drew (S:=fun w'=>RvAt w' w.heap.size 74 p.cs) (by kernel_rfl) (by rw[hX];exact D10.out.1) (fun hHeld=>?_);rw[hX] at hHeld ⊢;clear hX;refine tk 0 ?_ rfl ?_ hHeld ?_;rotate_left
    ·intro W_ hSw_;have xv:=hSw_.pdsg;have xt:=hSw_.pdsT15;clear hSw_
     go_simp<;>with_reducible rfl
    rotate_left;refine tk 1 ?_ rfl ?_ hHeld ?_;rotate_left
    ·intro W_ hSw_;have xv:=hSw_.pdsg;have xt:=hSw_.pdsT15;clear hSw_
     go_simp<;>with_reducible rfl
    rotate_left;refine tk 2 ?_ rfl ?_ hHeld ?_;rotate_left
    ·intro W_ hSw_;have xv:=hSw_.pdsg;have xt:=hSw_.pdsT15;clear hSw_
     go_simp<;>with_reducible rfl
    rotate_left;refine tk 3 ?_ rfl ?_ hHeld ?_;rotate_left
    ·intro W_ hSw_;have xv:=hSw_.pdsg;have xt:=hSw_.pdsT15;clear hSw_
     go_simp<;>with_reducible rfl
    rotate_left;refine tk 4 ?_ rfl ?_ hHeld ?_;rotate_left
    ·intro W_ hSw_;have xv:=hSw_.pdsg;have xt:=hSw_.pdsT15;clear hSw_
     go_simp<;>with_reducible rfl
    rotate_left
    try simp only[Act.put,zA,zB,zC]
    refine wpAnyH_ready (rs:=[5]) (by kernel_rfl) (by simp) ?_;refine AllReadyH.cons rfl (fun K hK=>?_) AllReadyH.nil
    go_simp
    clear hHeld;refine hK.out _ _ D10.out.2.1 (fun hHeld=>?_);clear hK K;refine tk 6 ?_ rfl ?_ hHeld ?_;rotate_left
    ·intro W_ hSw_;clear hSw_
     go_simp<;>with_reducible rfl
    rotate_left
    try simp only[Act.put,zA,zB,zC]
    refine wpAnyH_ready (rs:=[7]) (by kernel_rfl) (by simp) ?_;refine AllReadyH.cons rfl (fun K hK=>?_) AllReadyH.nil
    go_simp
    clear hHeld;refine hK.out _ _ D10.out.2.2 (fun hHeld=>?_);clear hK K
    try simp only[Act.put,zA,zB,zC]
    refine wpAnyH_done (by kernel_rfl) ?_ _;refine NoPanic.normal ?_;clear hHeld;clear a9 d9 D10;have lm:=S9.out.mv.mld;obtain⟨U,sU,h1,h2⟩:=S9.out.tell _;have G:Hid (RvAt U (w.heap.size+1) 46 M.cs∧Below w.heap.size w U):=by rw[←E9.out];exact⟨h1,h2⟩
    clear h1 h2 S9;go_wp2
    refine bodyPost_ret (z_e rtM results180 _ _ _ _ rfl G.out.1 (by rw[Row.csize,lenM])) rfl ?_;exact⟨rfl,G.out.2⟩
end S15
end
end Go.Proofs.YtlchejbggnbccaaGreat
