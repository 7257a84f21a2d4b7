/-
  The definition's step: its walk, for every tree; it is the code's. And what follows from it here.
-/
import Derived.Test.YtlchejbggnbccaaGreatPbb
import Derived.Test.YtlchejbggnbccaaGreatP13f
import Derived.Test.YtlchejbggnbccaaGreatP13e
import Derived.Test.YtlchejbggnbccaaGreatP13a
import Derived.Deep.RegionHeld3
import Derived.Test.YtlchejbggnbccaaGreatPba
namespace Go.Proofs.YtlchejbggnbccaaGreat
set_option linter.unusedVariables false
set_option linter.unusedSimpArgs false
set_option maxRecDepth 4000
set_option maxHeartbeats 40000000
open _root_.Go.Proofs.Tryz
section
namespace S13
open Go.RowKit
def stO (l:List Pt) (k:Nat):Option (List Pt):=
 if (gtP l k).nm 73=1 then (if stopB (gtP l k)=true then some (l.set k (disP (gtP l k))) else none) else if (gtP l k).nm 73=2 then (if looB (gtP l k) 41=true then some (l.set k (disP (gtP l k))) else none) else if (gtP l k).nm 73=3 then orO (agrO l k) (rotO l k) else if (gtP l k).nm 73=4 then (dsgO (gtP l k)).map (fun q=>l.set k q) else if (gtP l k).nm 73=5 then (if stopB (gtP l k)=true then some (l.set k (blkP (gtP l k))) else none) else if (gtP l k).nm 73=6 then orO (agrO l k) (altO l k) else none
def refO (l:List Pt) (k:Nat):Option (List Pt):=
 if (decide ((gtP l k).nm 73<1) || decide (6<(gtP l k).nm 73))=true then some (l.set k (begP (gtP l k))) else if (!(gtP l k).bt 22 || (gtP l k).bt 28)=true then none else if ((gtP l k).nm 31 != (gtP l k).nm 30)=true then some (l.set k (rolP (gtP l k))) else stO l k
theorem z_F (b:Bool) (F:Nat) (r:List (Bool×Nat)) (k:Nat) (l:List Pt):((firstF ((b,F)::r)).map fun F=>fnOf F k l)=if b=true then some (fnOf F k l) else ((firstF r).map fun F=>fnOf F k l):=by
 cases b<;>rfl
theorem y_E (k:Nat) (l:List Pt):((firstF []).map fun F=>fnOf F k l)=none:=rfl
theorem w_R (k:Nat) (l:List Pt):fnOf 205 k l=l.set k (begP (gtP l k)):=rfl
theorem y_W (k:Nat) (l:List Pt):fnOf 206 k l=l.set k (rolP (gtP l k)):=rfl
theorem y_w (k:Nat) (l:List Pt):fnOf 241 k l=l.set k (disP (gtP l k)):=rfl
theorem x_w (k:Nat) (l:List Pt):fnOf 245 k l=l.set k (blkP (gtP l k)):=rfl
theorem y_B (k:Nat) (l:List Pt):fnOf 265 k l=l.set k (agrRP (gtP l k)):=rfl
theorem u_E (k:Nat) (l:List Pt):fnOf 276 k l=l.set k (agrP (gtP l k)):=rfl
theorem x_G (k:Nat) (l:List Pt):fnOf 267 k l=l.set k (rrdP (gtP l k)):=rfl
theorem u_D (k:Nat) (l:List Pt):fnOf 268 k l=l.set k (lrnP (gtP l k)):=rfl
theorem w_m (k:Nat) (l:List Pt):fnOf 269 k l=l.set k (fwdP (gtP l k)):=rfl
theorem v_z (k:Nat) (l:List Pt):fnOf 270 k l=l.set k (rcnP (gtP l k)):=rfl
theorem w_l (k:Nat) (l:List Pt):fnOf 272 k l=l.set k (prsP (gtP l k)):=rfl
theorem v_y (k:Nat) (l:List Pt):fnOf 273 k l=l.set k (synP (gtP l k)):=rfl
theorem z_aQ (k:Nat) (l:List Pt):fnOf 274 k l=l.set k (stpP (gtP l k)):=rfl
theorem z_C (k:Nat) (l:List Pt):fnOf 275 k l=l.set k (fwdDP (gtP l k)):=rfl
theorem v_A (k:Nat) (l:List Pt):fnOf 278 k l=l.set k (bkuP (gtP l k)):=rfl
theorem y_A (k:Nat) (l:List Pt):fnOf 293 k l=(l.set k (prdP (gtP l k))).map syncP:=rfl
theorem x_i (k:Nat) (l:List Pt):fnOf 266 k l=l.map rerP:=rfl
theorem z_lt (l:List Pt) (k:Nat):((firstF (dsgR (gtP l k))).map fun F=>fnOf F k l)=(dsgO (gtP l k)).map (fun q=>l.set k q):=by
 unfold dsgR dsgO;simp only[z_F,y_E,w_R,y_W,y_w,x_w,y_B,u_E,x_G,u_D,w_m,v_z,w_l,v_y,z_aQ,z_C,v_A,y_A,x_i]
 (repeat' split)<;>rfl
theorem z_iS {l:List Pt} {k:Nat} (h:(gtP l k).nm 73=3):((firstF (rootR l k)).map fun F=>fnOf F k l)=orO (agrO l k) (rotO l k):=by
 unfold rootR agrO rotO;rw[if_pos h];simp only[List.cons_append,List.nil_append,z_F,y_E,w_R,y_W,y_w,x_w,y_B,u_E,x_G,u_D,w_m,v_z,w_l,v_y,z_aQ,z_C,v_A,y_A,x_i];by_cases h1:prpB (gtP l k)=true
 ·rw[if_pos h1,if_pos h1];rfl
 ·rw[if_neg h1,if_neg h1];by_cases h2:ansB l k=true
  ·rw[if_pos h2,if_pos h2];rfl
  ·rw[if_neg h2,if_neg h2];rfl
theorem z_lI {l:List Pt} {k:Nat} (h:(gtP l k).nm 73=6):((firstF (altR l k)).map fun F=>fnOf F k l)=orO (agrO l k) (altO l k):=by
 unfold altR agrO altO;rw[if_neg (c:=(gtP l k).nm 73=3) (by omega)];simp only[List.cons_append,List.nil_append,z_F,y_E,w_R,y_W,y_w,x_w,y_B,u_E,x_G,u_D,w_m,v_z,w_l,v_y,z_aQ,z_C,v_A,y_A,x_i];by_cases h1:prpB (gtP l k)=true
 ·rw[if_pos h1,if_pos h1];rfl
 ·rw[if_neg h1,if_neg h1];by_cases h2:ansB l k=true
  ·rw[if_pos h2,if_pos h2];rfl
  ·rw[if_neg h2,if_neg h2];rfl
theorem z_lL (l:List Pt) (k:Nat):((firstF (stR l k)).map fun F=>fnOf F k l)=stO l k:=by
 unfold stR stO;by_cases h1:(gtP l k).nm 73=1
 ·rw[if_pos h1,if_pos h1,z_F,y_E,y_w]
 ·rw[if_neg h1,if_neg h1];by_cases h2:(gtP l k).nm 73=2
  ·rw[if_pos h2,if_pos h2,z_F,y_E,y_w]
  ·rw[if_neg h2,if_neg h2];by_cases h3:(gtP l k).nm 73=3
   ·rw[if_pos h3,if_pos h3];exact z_iS h3
   ·rw[if_neg h3,if_neg h3];by_cases h4:(gtP l k).nm 73=4
    ·rw[if_pos h4,if_pos h4];exact z_lt l k
    ·rw[if_neg h4,if_neg h4];by_cases h5:(gtP l k).nm 73=5
     ·rw[if_pos h5,if_pos h5,z_F,y_E,x_w]
     ·rw[if_neg h5,if_neg h5];by_cases h6:(gtP l k).nm 73=6
      ·rw[if_pos h6,if_pos h6];exact z_lI h6
      ·rw[if_neg h6,if_neg h6];rfl
theorem z_fM (l:List Pt) (k:Nat):stepO l k=refO l k:=by
 unfold stepO refO rulL;have hb:begB (gtP l k)=!(decide ((gtP l k).nm 73<1) || decide (6<(gtP l k).nm 73)):=by
  unfold begB;by_cases h1:(gtP l k).nm 73<1<;>by_cases h2:6<(gtP l k).nm 73
  ·omega
  ·simp[h1,h2]
  ·simp[h1,h2]
  ·simp[h1,h2];omega
 rw[hb];cases hx:(decide ((gtP l k).nm 73<1) || decide (6<(gtP l k).nm 73))
 ·simp only[Bool.not_false,Bool.true_and,Bool.not_true,Bool.false_eq_true,if_false];by_cases h1:(!(gtP l k).bt 22 || (gtP l k).bt 28)=true
  ·rw[if_pos h1,if_pos h1];rfl
  ·rw[if_neg h1,if_neg h1,List.cons_append,List.cons_append,List.nil_append,z_F,z_F,y_W,z_lL];simp only[Bool.false_eq_true,if_false]
 ·simp only[Bool.not_true,Bool.false_and,Bool.false_eq_true,if_false,Bool.not_false,if_true];rw[List.cons_append,z_F,if_pos rfl,w_R]
attribute [local go_sem ↓] ldP stP stB stU stW ldT stT
attribute [local go_sem ↓] alP
attribute [local go_sem] z_l
theorem z_kQ (h:Hd) (g o n c:Nat) (l:List Pt) (k:Nat) (w:World) (hs:SlAt w (some ⟨g,o,none⟩) n c l) (hn:n≤1000) (hk:k<n) :
  Calls prog 79 #[.agg (trc h (.slice (some ⟨g,o,none⟩) n c)),.int .i64 (k:Int)] w fun r w'=>∃a' c',r=.returned (.tuple #[.agg (trc h (.slice a' n c')),.bool (refO l k).isSome])∧SlAt w' a' n c' ((refO l k).getD l)∧Below w.heap.size w w':=by
 obtain⟨OO,hOO⟩:∃z,refO l k=z:=⟨_,rfl⟩;rw[hOO];have EO:Hid (refO l k=OO):=hOO;clear hOO;have HL:Hid (l.length=n):=hs.len;have hkl:k<l.length:=by rw[HL.out];exact hk
 have hin0:(0:Int)≤(k:Int):=by omega
 have hin1:(k:Int)<(n:Int):=by omega
 obtain⟨W,hW,r0,r1,bW,zW⟩:=z_w w h (.slice (some ⟨g,o,none⟩) n c);have l0:=r0.tld;have c16:=r0.t16;have H:Hid (TS w W w.heap.size (w.heap.size+1) h (.slice (some ⟨g,o,none⟩) n c)∧SlAt W (some ⟨g,o,none⟩) n c l∧W.heap.size=w.heap.size+2):=⟨⟨r0,r1,bW,by omega⟩,hs.below bW,zW⟩;have GL:Hid (g<w.heap.size):=hs.low (by omega);obtain⟨p,hp⟩:∃p,gtP l k=p:=⟨_,rfl⟩;have HP:Hid (gtP l k=p):=hp
 obtain⟨N,hN⟩:∃N,p.nm 73=N:=⟨_,rfl⟩;have EN:Hid (p.nm 73=N):=hN;obtain⟨C0,hC0⟩:∃z,(decide (p.nm 73<1) || decide (6<p.nm 73))=z:=⟨_,rfl⟩;have EC0:Hid ((decide (p.nm 73<1) || decide (6<p.nm 73))=C0):=hC0;obtain⟨C1,hC1⟩:∃z,(!p.bt 22 || p.bt 28)=z:=⟨_,rfl⟩;have EC1:Hid ((!p.bt 22 || p.bt 28)=C1):=hC1;obtain⟨C2,hC2⟩:∃z,(p.nm 31 != p.nm 30)=z:=⟨_,rfl⟩;have EC2:Hid ((p.nm 31 != p.nm 30)=C2):=hC2
 obtain⟨CS_,hCS⟩:∃z,(!p.bt 10 && !p.bt 8)=z:=⟨_,rfl⟩;have ECS:Hid (stopB p=CS_):=hCS;have HCS:Hid ((!p.bt 10 && !p.bt 8)=CS_):=hCS;clear hs r0 r1 bW zW hC0 hC1 hC2 hCS c16 hN hp;go_enter func79,ntmps79
 go_wp2_with fail
 refine (w_k h (some ⟨g,o,none⟩) n c (k:Int) W hn).mono ?_;rintro _ V1 ⟨rfl,b1⟩;have eb:(decide (0≤(k:Int)) && decide ((k:Int)<(n:Int)))=true:=by simp;omega
 rw[eb];clear eb;have T0:Hid (TS w V1 w.heap.size (w.heap.size+1) h (.slice (some ⟨g,o,none⟩) n c)∧SlAt V1 (some ⟨g,o,none⟩) n c l∧w.heap.size≤V1.heap.size):=⟨H.out.1.below b1,H.out.2.1.below b1,by have:=H.out.2.2;have:=b1.size;omega⟩;clear b1 l0 H;have c16:=T0.out.1.var.t16;have lp:=T0.out.2.1.ld (z_k hkl);rw[HP.out] at lp;obtain⟨W0,s0,r0,b0,z0⟩:=y_b V1 p;obtain⟨Z,hZ⟩:∃Z,V1.heap.size=Z:=⟨_,rfl⟩
 rw[hZ] at s0 r0;have P0:Hid (TP w W0 w.heap.size (w.heap.size+1) Z h g o n c l p):=⟨T0.out.1.below b0,T0.out.2.1.below b0,r0,by have:=T0.out.2.2;omega,GL.out⟩;have R:=r0.rdE;clear r0 b0 z0 T0;go_upto_region 4 with fail
 refine wp_plain (C:=fun w'=>w'=W0) rfl ?_;refine z_b (v:=.pointer (some ⟨Z,0+73,none⟩)) (yq rfl (Rn.qt (qfield rfl rfl fp46))) ?_
 try simp only[Act.put,zA,zB,zC]
 refine z_b (v:=.int .i64 (p.nm 73)) (yq rfl (Rn.qt (qload rfl rfl (R.state rfl)))) ?_
 try simp only[Act.put,zA,zB,zC]
 refine z_b (v:=.bool (decide ((p.nm 73)<1))) (yq rfl (Rn.qt (qbin rfl rfl rfl (w_U _ _ _ _ _) (z_gV _ _)))) ?_
 try simp only[Act.put,zA,zB,zC]
 refine z_b (v:=.bool (decide ((p.nm 73)<1))) (yq rfl (Rn.qt (qmove rfl rfl))) ?_
 try simp only[Act.put,zA,zB,zC]
 refine z_b (v:=gd (decide ((p.nm 73)<1)) false (.pointer (some ⟨Z,0+73,none⟩))) (yq1 rfl rfl (fun e=>Rn.qt (qfield rfl rfl fp46))) ?_
 try simp only[Act.put,zA,zB,zC]
 refine z_b (v:=gd (decide ((p.nm 73)<1)) false (.int .i64 (p.nm 73))) (yq1 rfl rfl (fun e=>Rn.qt (qload rfl (on e rfl) (R.state rfl)))) ?_
 try simp only[Act.put,zA,zB,zC]
 refine z_b (v:=gd (decide ((p.nm 73)<1)) false (.bool (decide (6<(p.nm 73))))) (yq1 rfl rfl (fun e=>Rn.qt (qbin rfl (on e rfl) rfl (w_U _ _ _ _ _) (z_gY _ _)))) ?_
 try simp only[Act.put,zA,zB,zC]
 refine z_b (v:=.bool ((decide ((p.nm 73)<1)) || (decide (6<(p.nm 73))))) (yq rfl (Rn.qt (qpick rfl rfl (pkO rfl rfl)))) ?_
 try simp only[Act.put,zA,zB,zC]
 refine z_b (v:=.bool ((decide ((p.nm 73)<1)) || (decide (6<(p.nm 73))))) (yq rfl (Rn.qt (qassign rfl rfl))) ?_
 try simp only[Act.put,zA,zB,zC]
 refine wpQuiet_nil ?_;rintro y_ hy_;rw[hy_];clear hy_ y_;clear c16 lp s0 hZ;rw[EC0.out];cases C0;rotate_left
 ·have E:OO=some (l.set k (rbegP p)):=by
   rw[←EO.out];unfold refO;rw[HP.out,if_pos EC0.out,z_aX]
  have ft:=fun x:Later W0=>(P0.out.below x.below).tre.var.tld;have fp:=fun x:Later W0=>(P0.out.below x.below).pv.pld;have P1:Hid (∀x:Later W0,_):=fun x:Later W0=>z_gf p x.val;go_upto_region 5 with fail
  refine wp_region_later_tail 4 (by kernel_rfl) (by kernel_rfl) ?_;simp only[List.take_succ_cons,List.take_zero]
  repeat (go_big_quiet_step (first|exact rfl | (go_at_call 115;with_reducible exact Calls.later_of (P1.out _))))
  refine wpQuiet_nil ?_;intro z;simp only[List.drop_succ_cons,List.drop_zero];have TZ:Hid (TP w z.val w.heap.size (w.heap.size+1) Z h g o n c l p):=P0.out.below z.below;clear ft fp P1
  go_wp2_with fail
  refine (z_o h (some ⟨g,o,none⟩) n c l k (rbegP p) _ TZ.out.sl hn hk).mono ?_;rintro _ Y ⟨g2,c2,rfl,hg2,s2,b2⟩;obtain⟨U,sU,h1,h2,gU⟩:=(TZ.out.tre.below b2).tell (y:=.slice (some ⟨g2,0,none⟩) n c2) rfl;have G:Hid (RvAt U (w.heap.size+1) 39 (trc h (.slice (some ⟨g2,0,none⟩) n c2))∧SlAt U (some ⟨g2,0,none⟩) n c2 (OO.getD l)∧Below w.heap.size w U∧OO.isSome=true):=by
   rw[E];exact⟨h1,s2.keptT (TZ.out.tre.below b2).out gU,h2,rfl⟩
  clear h1 h2 gU s2 b2 hg2 TZ;go_wp2
  refine bodyPost_ret (z_d rtT results79 _ _ _ _ rfl G.out.1 (z_c _ _)) rfl ?_;exact⟨some ⟨g2,0,none⟩,c2,by rw[G.out.2.2.2];rfl,G.out.2.1,G.out.2.2.1⟩
 go_upto_region 6 with fail
 refine wp_plain (C:=fun w'=>w'=W0) rfl ?_;refine z_b (v:=.pointer (some ⟨Z,0+22,none⟩)) (yq rfl (Rn.qt (qfield rfl rfl fp22))) ?_
 try simp only[Act.put,zA,zB,zC]
 refine z_b (v:=.bool (p.bt 22)) (yq rfl (Rn.qt (qload rfl rfl (R.bit rfl)))) ?_
 try simp only[Act.put,zA,zB,zC]
 refine z_b (v:=.bool (!(p.bt 22))) (yq rfl (Rn.qt (qnot rfl rfl))) ?_
 try simp only[Act.put,zA,zB,zC]
 refine z_b (v:=.bool (!(p.bt 22))) (yq rfl (Rn.qt (qmove rfl rfl))) ?_
 try simp only[Act.put,zA,zB,zC]
 refine z_b (v:=gd (!(p.bt 22)) false (.pointer (some ⟨Z,0+28,none⟩))) (yq1 rfl rfl (fun e=>Rn.qt (qfield rfl rfl fp28))) ?_
 try simp only[Act.put,zA,zB,zC]
 refine z_b (v:=gd (!(p.bt 22)) false (.bool (p.bt 28))) (yq1 rfl rfl (fun e=>Rn.qt (qload rfl (on e rfl) (R.bit rfl)))) ?_
 try simp only[Act.put,zA,zB,zC]
 refine z_b (v:=.bool ((!(p.bt 22)) || (p.bt 28))) (yq rfl (Rn.qt (qpick rfl rfl (pkO rfl rfl)))) ?_
 try simp only[Act.put,zA,zB,zC]
 refine z_b (v:=.bool ((!(p.bt 22)) || (p.bt 28))) (yq rfl (Rn.qt (qassign rfl rfl))) ?_
 try simp only[Act.put,zA,zB,zC]
 refine wpQuiet_nil ?_;rintro y_ hy_;rw[hy_];clear hy_ y_;rw[EC1.out];cases C1;rotate_left
 ·have E:OO=none:=by
   rw[←EO.out];unfold refO;rw[HP.out,if_neg (by rw[EC0.out];decide),if_pos EC1.out]
  have lt_:=(P0.out).tre.var.tld;obtain⟨U,sU,h1,h2,gU⟩:=(P0.out).tre.tell (y:=.slice (some ⟨g,o,none⟩) n c) rfl;have G:Hid (RvAt U (w.heap.size+1) 39 (trc h (.slice (some ⟨g,o,none⟩) n c))∧SlAt U (some ⟨g,o,none⟩) n c (OO.getD l)∧Below w.heap.size w U∧OO.isSome=false):=by
   rw[E];exact⟨h1,(P0.out).sl.keptT (P0.out).tre.out gU,h2,rfl⟩
  clear h1 h2 gU E R;go_wp2
  refine bodyPost_ret (z_d rtT results79 _ _ _ _ rfl G.out.1 (z_c _ _)) rfl ?_;exact⟨some ⟨g,o,none⟩,c,by rw[G.out.2.2.2];rfl,G.out.2.1,G.out.2.2.1⟩
 go_upto_region 8 with fail
 refine wp_plain (C:=fun w'=>w'=W0) rfl ?_;refine z_b (v:=.pointer (some ⟨Z,0+31,none⟩)) (yq rfl (Rn.qt (qfield rfl rfl fp31))) ?_
 try simp only[Act.put,zA,zB,zC]
 refine z_b (v:=.int .i64 (p.nm 31)) (yq rfl (Rn.qt (qload rfl rfl (R.role rfl)))) ?_
 try simp only[Act.put,zA,zB,zC]
 refine z_b (v:=.pointer (some ⟨Z,0+30,none⟩)) (yq rfl (Rn.qt (qfield rfl rfl fp30))) ?_
 try simp only[Act.put,zA,zB,zC]
 refine z_b (v:=.int .i64 (p.nm 30)) (yq rfl (Rn.qt (qload rfl rfl (R.role rfl)))) ?_
 try simp only[Act.put,zA,zB,zC]
 refine z_b (v:=.bool ((p.nm 31) != (p.nm 30))) (yq rfl (Rn.qt (qbin rfl rfl rfl (w_n _ _ _ _ _) (z_eu _ _)))) ?_
 try simp only[Act.put,zA,zB,zC]
 refine z_b (v:=.bool ((p.nm 31) != (p.nm 30))) (yq rfl (Rn.qt (qassign rfl rfl))) ?_
 try simp only[Act.put,zA,zB,zC]
 refine wpQuiet_nil ?_;rintro y_ hy_;rw[hy_];clear hy_ y_;rw[EC2.out];cases C2;rotate_left
 ·have E:OO=some (l.set k (rolP p)):=by
   rw[←EO.out];unfold refO;rw[HP.out,if_neg (by rw[EC0.out];decide),if_neg (by rw[EC1.out];decide),if_pos EC2.out]
  have ft:=fun x:Later W0=>(P0.out.below x.below).tre.var.tld;have fp:=fun x:Later W0=>(P0.out.below x.below).pv.pld;have P1:Hid (∀x:Later W0,_):=fun x:Later W0=>z_fW p x.val;go_upto_region 9 with fail
  refine wp_region_later_tail 4 (by kernel_rfl) (by kernel_rfl) ?_;simp only[List.take_succ_cons,List.take_zero]
  repeat (go_big_quiet_step (first|exact rfl | (go_at_call 116;with_reducible exact Calls.later_of (P1.out _))))
  refine wpQuiet_nil ?_;intro z;simp only[List.drop_succ_cons,List.drop_zero];have TZ:Hid (TP w z.val w.heap.size (w.heap.size+1) Z h g o n c l p):=P0.out.below z.below;clear ft fp P1
  go_wp2_with fail
  refine (z_o h (some ⟨g,o,none⟩) n c l k (rolP p) _ TZ.out.sl hn hk).mono ?_;rintro _ Y ⟨g2,c2,rfl,hg2,s2,b2⟩;obtain⟨U,sU,h1,h2,gU⟩:=(TZ.out.tre.below b2).tell (y:=.slice (some ⟨g2,0,none⟩) n c2) rfl;have G:Hid (RvAt U (w.heap.size+1) 39 (trc h (.slice (some ⟨g2,0,none⟩) n c2))∧SlAt U (some ⟨g2,0,none⟩) n c2 (OO.getD l)∧Below w.heap.size w U∧OO.isSome=true):=by
   rw[E];exact⟨h1,s2.keptT (TZ.out.tre.below b2).out gU,h2,rfl⟩
  clear h1 h2 gU s2 b2 hg2 TZ;go_wp2
  refine bodyPost_ret (z_d rtT results79 _ _ _ _ rfl G.out.1 (z_c _ _)) rfl ?_;exact⟨some ⟨g2,0,none⟩,c2,by rw[G.out.2.2.2];rfl,G.out.2.1,G.out.2.2.1⟩
 have ES0:OO=stO l k:=by
  rw[←EO.out];unfold refO;rw[HP.out,if_neg (by rw[EC0.out];decide),if_neg (by rw[EC1.out];decide),if_neg (by rw[EC2.out];decide)]
 have ES:Hid (OO=stO l k):=ES0;clear ES0;have hN16:1≤N∧N≤6:=by
  have:=EC0.out;rw[EN.out] at this;simp only[Bool.or_eq_false_iff,decide_eq_false_iff_not] at this;omega
 have l73:=P0.out.pv.pnum (j:=73) (k:=.i64) rfl;rw[EN.out] at l73;clear EO EC0 EC1 EC2;by_cases h1:N=1
 ·have ESN:OO=(if stopB p=true then some (l.set k (disP p)) else none):=by
   rw[ES.out];unfold stO;rw[HP.out,EN.out,h1];rfl
  subst h1;go_upto_region 12 with fail
  refine wp_plain (C:=fun w'=>w'=W0) rfl ?_;refine z_b (v:=.pointer (some ⟨Z,0+10,none⟩)) (yq rfl (Rn.qt (qfield rfl rfl fp10))) ?_
  try simp only[Act.put,zA,zB,zC]
  refine z_b (v:=.bool (p.bt 10)) (yq rfl (Rn.qt (qload rfl rfl (R.bit rfl)))) ?_
  try simp only[Act.put,zA,zB,zC]
  refine z_b (v:=.bool (!(p.bt 10))) (yq rfl (Rn.qt (qnot rfl rfl))) ?_
  try simp only[Act.put,zA,zB,zC]
  refine z_b (v:=.bool (!(p.bt 10))) (yq rfl (Rn.qt (qmove rfl rfl))) ?_
  try simp only[Act.put,zA,zB,zC]
  refine z_b (v:=gd (!(p.bt 10)) true (.pointer (some ⟨Z,0+8,none⟩))) (yq1 rfl rfl (fun e=>Rn.qt (qfield rfl rfl fp8))) ?_
  try simp only[Act.put,zA,zB,zC]
  refine z_b (v:=gd (!(p.bt 10)) true (.bool (p.bt 8))) (yq1 rfl rfl (fun e=>Rn.qt (qload rfl (on e rfl) (R.bit rfl)))) ?_
  try simp only[Act.put,zA,zB,zC]
  refine z_b (v:=gd (!(p.bt 10)) true (.bool (!(p.bt 8)))) (yq1 rfl rfl (fun e=>Rn.qt (qnot rfl (on e rfl)))) ?_
  try simp only[Act.put,zA,zB,zC]
  refine z_b (v:=.bool ((!(p.bt 10)) && (!(p.bt 8)))) (yq rfl (Rn.qt (qpick rfl rfl (pkA rfl rfl)))) ?_
  try simp only[Act.put,zA,zB,zC]
  refine wpQuiet_nil ?_;rintro y_ hy_;rw[hy_];clear hy_ y_;rw[HCS.out];clear R;cases CS_
  ·have E:OO=none:=by rw[ESN,if_neg (by rw[ECS.out];decide)]
   clear ESN;have lt_:=(P0.out).tre.var.tld;obtain⟨U,sU,h1,h2,gU⟩:=(P0.out).tre.tell (y:=.slice (some ⟨g,o,none⟩) n c) rfl;have G:Hid (RvAt U (w.heap.size+1) 39 (trc h (.slice (some ⟨g,o,none⟩) n c))∧SlAt U (some ⟨g,o,none⟩) n c (OO.getD l)∧Below w.heap.size w U∧OO.isSome=false):=by
    rw[E];exact⟨h1,(P0.out).sl.keptT (P0.out).tre.out gU,h2,rfl⟩
   clear h1 h2 gU E;go_wp2
   refine bodyPost_ret (z_d rtT results79 _ _ _ _ rfl G.out.1 (z_c _ _)) rfl ?_;exact⟨some ⟨g,o,none⟩,c,by rw[G.out.2.2.2];rfl,G.out.2.1,G.out.2.2.1⟩
  ·have E:OO=some (l.set k (rstP p (p.nm 41) 2 wi2)):=by rw[ESN,if_pos ECS.out,u_H]
   clear ESN;have ft:=fun x:Later W0=>(P0.out.below x.below).tre.var.tld;have fp:=fun x:Later W0=>(P0.out.below x.below).pv.pld;have fm:=fun x:Later W0=>(P0.out.below x.below).pv.pnum (j:=41) (k:=.u8) rfl;have P1:Hid (∀x:Later W0,_):=fun x:Later W0=>w_w p (p.nm 41) 2 x.val (p.u8 rfl) wi2;go_upto_region 13 with fail
   refine wp_region_later_tail 7 (by kernel_rfl) (by kernel_rfl) ?_;simp only[List.take_succ_cons,List.take_zero]
   repeat (go_big_quiet_step (first|exact rfl | (go_at_call 117;with_reducible exact Calls.later_of (P1.out _))))
   refine wpQuiet_nil ?_;intro z;simp only[List.drop_succ_cons,List.drop_zero];have TZ:Hid (TP w z.val w.heap.size (w.heap.size+1) Z h g o n c l p):=P0.out.below z.below;clear ft fp P1 fm
   go_wp2_with fail
   refine (z_o h (some ⟨g,o,none⟩) n c l k (rstP p (p.nm 41) 2 wi2) _ TZ.out.sl hn hk).mono ?_;rintro _ Y ⟨g2,c2,rfl,hg2,s2,b2⟩;obtain⟨U,sU,h1,h2,gU⟩:=(TZ.out.tre.below b2).tell (y:=.slice (some ⟨g2,0,none⟩) n c2) rfl;have G:Hid (RvAt U (w.heap.size+1) 39 (trc h (.slice (some ⟨g2,0,none⟩) n c2))∧SlAt U (some ⟨g2,0,none⟩) n c2 (OO.getD l)∧Below w.heap.size w U∧OO.isSome=true):=by
    rw[E];exact⟨h1,s2.keptT (TZ.out.tre.below b2).out gU,h2,rfl⟩
   clear h1 h2 gU s2 b2 hg2 TZ;go_wp2
   refine bodyPost_ret (z_d rtT results79 _ _ _ _ rfl G.out.1 (z_c _ _)) rfl ?_;exact⟨some ⟨g2,0,none⟩,c2,by rw[G.out.2.2.2];rfl,G.out.2.1,G.out.2.2.1⟩
 by_cases h5:N=5
 ·have ESN:OO=(if stopB p=true then some (l.set k (blkP p)) else none):=by
   rw[ES.out];unfold stO;rw[HP.out,EN.out,h5];rfl
  subst h5;go_upto_region 24 with fail
  refine wp_plain (C:=fun w'=>w'=W0) rfl ?_;refine z_b (v:=.pointer (some ⟨Z,0+10,none⟩)) (yq rfl (Rn.qt (qfield rfl rfl fp10))) ?_
  try simp only[Act.put,zA,zB,zC]
  refine z_b (v:=.bool (p.bt 10)) (yq rfl (Rn.qt (qload rfl rfl (R.bit rfl)))) ?_
  try simp only[Act.put,zA,zB,zC]
  refine z_b (v:=.bool (!(p.bt 10))) (yq rfl (Rn.qt (qnot rfl rfl))) ?_
  try simp only[Act.put,zA,zB,zC]
  refine z_b (v:=.bool (!(p.bt 10))) (yq rfl (Rn.qt (qmove rfl rfl))) ?_
  try simp only[Act.put,zA,zB,zC]
  refine z_b (v:=gd (!(p.bt 10)) true (.pointer (some ⟨Z,0+8,none⟩))) (yq1 rfl rfl (fun e=>Rn.qt (qfield rfl rfl fp8))) ?_
  try simp only[Act.put,zA,zB,zC]
  refine z_b (v:=gd (!(p.bt 10)) true (.bool (p.bt 8))) (yq1 rfl rfl (fun e=>Rn.qt (qload rfl (on e rfl) (R.bit rfl)))) ?_
  try simp only[Act.put,zA,zB,zC]
  refine z_b (v:=gd (!(p.bt 10)) true (.bool (!(p.bt 8)))) (yq1 rfl rfl (fun e=>Rn.qt (qnot rfl (on e rfl)))) ?_
  try simp only[Act.put,zA,zB,zC]
  refine z_b (v:=.bool ((!(p.bt 10)) && (!(p.bt 8)))) (yq rfl (Rn.qt (qpick rfl rfl (pkA rfl rfl)))) ?_
  try simp only[Act.put,zA,zB,zC]
  refine wpQuiet_nil ?_;rintro y_ hy_;rw[hy_];clear hy_ y_;rw[HCS.out];clear R;cases CS_
  ·have E:OO=none:=by rw[ESN,if_neg (by rw[ECS.out];decide)]
   clear ESN;have lt_:=(P0.out).tre.var.tld;obtain⟨U,sU,h1,h2,gU⟩:=(P0.out).tre.tell (y:=.slice (some ⟨g,o,none⟩) n c) rfl;have G:Hid (RvAt U (w.heap.size+1) 39 (trc h (.slice (some ⟨g,o,none⟩) n c))∧SlAt U (some ⟨g,o,none⟩) n c (OO.getD l)∧Below w.heap.size w U∧OO.isSome=false):=by
    rw[E];exact⟨h1,(P0.out).sl.keptT (P0.out).tre.out gU,h2,rfl⟩
   clear h1 h2 gU E;go_wp2
   refine bodyPost_ret (z_d rtT results79 _ _ _ _ rfl G.out.1 (z_c _ _)) rfl ?_;exact⟨some ⟨g,o,none⟩,c,by rw[G.out.2.2.2];rfl,G.out.2.1,G.out.2.2.1⟩
  ·have E:OO=some (l.set k (rstP p (p.nm 43) 6 wi6)):=by rw[ESN,if_pos ECS.out,z_ft]
   clear ESN;have ft:=fun x:Later W0=>(P0.out.below x.below).tre.var.tld;have fp:=fun x:Later W0=>(P0.out.below x.below).pv.pld;have fm:=fun x:Later W0=>(P0.out.below x.below).pv.pnum (j:=43) (k:=.u8) rfl;have P1:Hid (∀x:Later W0,_):=fun x:Later W0=>w_w p (p.nm 43) 6 x.val (p.u8 rfl) wi6;go_upto_region 25 with fail
   refine wp_region_later_tail 7 (by kernel_rfl) (by kernel_rfl) ?_;simp only[List.take_succ_cons,List.take_zero]
   repeat (go_big_quiet_step (first|exact rfl | (go_at_call 117;with_reducible exact Calls.later_of (P1.out _))))
   refine wpQuiet_nil ?_;intro z;simp only[List.drop_succ_cons,List.drop_zero];have TZ:Hid (TP w z.val w.heap.size (w.heap.size+1) Z h g o n c l p):=P0.out.below z.below;clear ft fp P1 fm
   go_wp2_with fail
   refine (z_o h (some ⟨g,o,none⟩) n c l k (rstP p (p.nm 43) 6 wi6) _ TZ.out.sl hn hk).mono ?_;rintro _ Y ⟨g2,c2,rfl,hg2,s2,b2⟩;obtain⟨U,sU,h1,h2,gU⟩:=(TZ.out.tre.below b2).tell (y:=.slice (some ⟨g2,0,none⟩) n c2) rfl;have G:Hid (RvAt U (w.heap.size+1) 39 (trc h (.slice (some ⟨g2,0,none⟩) n c2))∧SlAt U (some ⟨g2,0,none⟩) n c2 (OO.getD l)∧Below w.heap.size w U∧OO.isSome=true):=by
    rw[E];exact⟨h1,s2.keptT (TZ.out.tre.below b2).out gU,h2,rfl⟩
   clear h1 h2 gU s2 b2 hg2 TZ;go_wp2
   refine bodyPost_ret (z_d rtT results79 _ _ _ _ rfl G.out.1 (z_c _ _)) rfl ?_;exact⟨some ⟨g2,0,none⟩,c2,by rw[G.out.2.2.2];rfl,G.out.2.1,G.out.2.2.1⟩
 by_cases h2:N=2
 ·have ESN:OO=(if looB p 41=true then some (l.set k (disP p)) else none):=by
   rw[ES.out];unfold stO;rw[HP.out,EN.out,h2];rfl
  subst h2;have lq:=P0.out.pv.pld;have l41:=P0.out.pv.pnum (j:=41) (k:=.u8) rfl;obtain⟨CL,hCL⟩:∃z,((p.nm 65 != p.nm 41) || askP p)=z:=⟨_,rfl⟩;have ECL:Hid (looB p 41=CL):=hCL;clear R
  go_wp2_with fail
  refine (z_bp p (p.nm 41) W0).mono ?_;rw[hCL];rintro _ X2 ⟨rfl,bx⟩;have T1:Hid (TP w X2 w.heap.size (w.heap.size+1) Z h g o n c l p):=P0.out.below bx;clear bx lq l41 hCL l73;cases CL
  ·have E:OO=none:=by rw[ESN,if_neg (by rw[ECL.out];decide)]
   clear ESN;have lt_:=(T1.out).tre.var.tld;obtain⟨U,sU,h1,h2,gU⟩:=(T1.out).tre.tell (y:=.slice (some ⟨g,o,none⟩) n c) rfl;have G:Hid (RvAt U (w.heap.size+1) 39 (trc h (.slice (some ⟨g,o,none⟩) n c))∧SlAt U (some ⟨g,o,none⟩) n c (OO.getD l)∧Below w.heap.size w U∧OO.isSome=false):=by
    rw[E];exact⟨h1,(T1.out).sl.keptT (T1.out).tre.out gU,h2,rfl⟩
   clear h1 h2 gU E;go_wp2
   refine bodyPost_ret (z_d rtT results79 _ _ _ _ rfl G.out.1 (z_c _ _)) rfl ?_;exact⟨some ⟨g,o,none⟩,c,by rw[G.out.2.2.2];rfl,G.out.2.1,G.out.2.2.1⟩
  ·have E:OO=some (l.set k (rstP p (p.nm 41) 2 wi2)):=by rw[ESN,if_pos ECL.out,u_H]
   clear ESN;have ft:=fun x:Later X2=>(T1.out.below x.below).tre.var.tld;have fp:=fun x:Later X2=>(T1.out.below x.below).pv.pld;have fm:=fun x:Later X2=>(T1.out.below x.below).pv.pnum (j:=41) (k:=.u8) rfl;have P1:Hid (∀x:Later X2,_):=fun x:Later X2=>w_w p (p.nm 41) 2 x.val (p.u8 rfl) wi2;go_upto_region 16 with fail
   refine wp_region_later_tail 7 (by kernel_rfl) (by kernel_rfl) ?_;simp only[List.take_succ_cons,List.take_zero]
   repeat (go_big_quiet_step (first|exact rfl | (go_at_call 117;with_reducible exact Calls.later_of (P1.out _))))
   refine wpQuiet_nil ?_;intro z;simp only[List.drop_succ_cons,List.drop_zero];have TZ:Hid (TP w z.val w.heap.size (w.heap.size+1) Z h g o n c l p):=T1.out.below z.below;clear ft fp P1 fm
   go_wp2_with fail
   refine (z_o h (some ⟨g,o,none⟩) n c l k (rstP p (p.nm 41) 2 wi2) _ TZ.out.sl hn hk).mono ?_;rintro _ Y ⟨g2,c2,rfl,hg2,s2,b2⟩;obtain⟨U,sU,h1,h2,gU⟩:=(TZ.out.tre.below b2).tell (y:=.slice (some ⟨g2,0,none⟩) n c2) rfl;have G:Hid (RvAt U (w.heap.size+1) 39 (trc h (.slice (some ⟨g2,0,none⟩) n c2))∧SlAt U (some ⟨g2,0,none⟩) n c2 (OO.getD l)∧Below w.heap.size w U∧OO.isSome=true):=by
    rw[E];exact⟨h1,s2.keptT (TZ.out.tre.below b2).out gU,h2,rfl⟩
   clear h1 h2 gU s2 b2 hg2 TZ;go_wp2
   refine bodyPost_ret (z_d rtT results79 _ _ _ _ rfl G.out.1 (z_c _ _)) rfl ?_;exact⟨some ⟨g2,0,none⟩,c2,by rw[G.out.2.2.2];rfl,G.out.2.1,G.out.2.2.1⟩
 by_cases h3:N=3
 ·have ESN:OO=orO (agrO l k) (rotO l k):=by
   rw[ES.out];unfold stO;rw[HP.out,EN.out,h3];rfl
  subst h3;have lt_:=P0.out.tre.var.tld;obtain⟨XO,hXO⟩:∃z,orO (agrO l k) (rotO l k)=z:=⟨_,rfl⟩;have EX:Hid (orO (agrO l k) (rotO l k)=XO):=hXO;rw[hXO] at ESN;have EE:Hid (OO=XO):=ESN;clear R hXO ESN
  go_wp2_with fail
  refine (v_g h g o n c l k W0 P0.out.sl hn hk).mono ?_;rw[EX.out];rintro _ X2 ⟨a2,c2,rfl,s2,b2⟩;obtain⟨U,sU,h1,h2,gU⟩:=(P0.out.tre.below b2).tell (y:=.slice a2 n c2) rfl;have G:Hid (RvAt U (w.heap.size+1) 39 (trc h (.slice a2 n c2))∧SlAt U a2 n c2 (OO.getD l)∧Below w.heap.size w U∧OO.isSome=XO.isSome):=by
   rw[EE.out];exact⟨h1,s2.keptT (P0.out.tre.below b2).out gU,h2,rfl⟩
  clear h1 h2 gU s2 b2 lt_;go_wp2
  refine bodyPost_ret (z_d rtT results79 _ _ _ _ rfl G.out.1 (z_c _ _)) rfl ?_;exact⟨a2,c2,by rw[G.out.2.2.2];rfl,G.out.2.1,G.out.2.2.1⟩
 by_cases h6:N=6
 ·have ESN:OO=orO (agrO l k) (altO l k):=by
   rw[ES.out];unfold stO;rw[HP.out,EN.out,h6];rfl
  subst h6;have lt_:=P0.out.tre.var.tld;obtain⟨XO,hXO⟩:∃z,orO (agrO l k) (altO l k)=z:=⟨_,rfl⟩;have EX:Hid (orO (agrO l k) (altO l k)=XO):=hXO;rw[hXO] at ESN;have EE:Hid (OO=XO):=ESN;clear R hXO ESN
  go_wp2_with fail
  refine (z_gg h g o n c l k W0 P0.out.sl hn hk).mono ?_;rw[EX.out];rintro _ X2 ⟨a2,c2,rfl,s2,b2⟩;obtain⟨U,sU,h1,h2,gU⟩:=(P0.out.tre.below b2).tell (y:=.slice a2 n c2) rfl;have G:Hid (RvAt U (w.heap.size+1) 39 (trc h (.slice a2 n c2))∧SlAt U a2 n c2 (OO.getD l)∧Below w.heap.size w U∧OO.isSome=XO.isSome):=by
   rw[EE.out];exact⟨h1,s2.keptT (P0.out.tre.below b2).out gU,h2,rfl⟩
  clear h1 h2 gU s2 b2 lt_;go_wp2
  refine bodyPost_ret (z_d rtT results79 _ _ _ _ rfl G.out.1 (z_c _ _)) rfl ?_;exact⟨a2,c2,by rw[G.out.2.2.2];rfl,G.out.2.1,G.out.2.2.1⟩
 by_cases h4:N=4
 ·have ESN:OO=(dsgO p).map (fun q=>l.set k q):=by
   rw[ES.out];unfold stO;rw[HP.out,EN.out,h4];rfl
  subst h4;have lq:=P0.out.pv.pld;obtain⟨DO,hDO⟩:∃z,dsgO p=z:=⟨_,rfl⟩;have EDO:Hid (dsgO p=DO):=hDO;rw[hDO] at ESN;clear R hDO
  go_wp2_with fail
  refine (z_ge p W0).mono ?_;rw[EDO.out];rintro _ X2 ⟨rfl,bx⟩;obtain⟨V2,s2,r2,bq,zq⟩:=y_b X2 (DO.getD p);obtain⟨Z2,hZ2⟩:∃Z,X2.heap.size=Z:=⟨_,rfl⟩;rw[hZ2] at s2 r2;have T1:Hid (TP w V2 w.heap.size (w.heap.size+1) Z h g o n c l p):=(P0.out.below bx).below bq;have hz2:=P0.out.tre.bel.size;have hz3:=bx.size
  have TQ_:Hid (TP w V2 w.heap.size (w.heap.size+1) Z2 h g o n c l (DO.getD p)):=⟨T1.out.tre,T1.out.sl,r2,by omega,GL.out⟩;clear bx r2 bq zq lq l73 hz2 hz3;cases DO with
  | none=>
   have E:OO=none:=ESN;simp only[Option.isSome_none,Option.getD_none] at s2 ⊢;clear ESN;have lt_:=(T1.out).tre.var.tld;obtain⟨U,sU,h1,h2,gU⟩:=(T1.out).tre.tell (y:=.slice (some ⟨g,o,none⟩) n c) rfl;have G:Hid (RvAt U (w.heap.size+1) 39 (trc h (.slice (some ⟨g,o,none⟩) n c))∧SlAt U (some ⟨g,o,none⟩) n c (OO.getD l)∧Below w.heap.size w U∧OO.isSome=false):=by
    rw[E];exact⟨h1,(T1.out).sl.keptT (T1.out).tre.out gU,h2,rfl⟩
   clear h1 h2 gU E;go_wp2
   refine bodyPost_ret (z_d rtT results79 _ _ _ _ rfl G.out.1 (z_c _ _)) rfl ?_;exact⟨some ⟨g,o,none⟩,c,by rw[G.out.2.2.2];rfl,G.out.2.1,G.out.2.2.1⟩
  | some q=>
   have E:OO=some (l.set k q):=ESN;have SQ:Hid (TP w V2 w.heap.size (w.heap.size+1) Z2 h g o n c l q):=TQ_.out;simp only[Option.isSome_some,Option.getD_some] at s2 ⊢;have lt_:=SQ.out.tre.var.tld;have lp_:=SQ.out.pv.pld;clear ESN TQ_
   go_wp2_with fail
   refine (z_o h (some ⟨g,o,none⟩) n c l k q _ SQ.out.sl hn hk).mono ?_;rintro _ X3 ⟨g2,c2,rfl,hg2,s3,b3⟩;obtain⟨U,sU,h1,h2,gU⟩:=(SQ.out.tre.below b3).tell (y:=.slice (some ⟨g2,0,none⟩) n c2) rfl;have G:Hid (RvAt U (w.heap.size+1) 39 (trc h (.slice (some ⟨g2,0,none⟩) n c2))∧SlAt U (some ⟨g2,0,none⟩) n c2 (OO.getD l)∧Below w.heap.size w U∧OO.isSome=true):=by
    rw[E];exact⟨h1,s3.keptT (SQ.out.tre.below b3).out gU,h2,rfl⟩
   clear h1 h2 gU s3 b3 hg2 lt_ lp_ SQ;go_wp2
   refine bodyPost_ret (z_d rtT results79 _ _ _ _ rfl G.out.1 (z_c _ _)) rfl ?_;exact⟨some ⟨g2,0,none⟩,c2,by rw[G.out.2.2.2];rfl,G.out.2.1,G.out.2.2.1⟩
 omega
theorem x_e (h:Hd) (a:Option Addr) (n c:Nat) (l:List Pt) (i:Int) (w:World) (hs:SlAt w a n c l) (hn:n≤1000) :
  Calls prog 79 #[.agg (trc h (.slice a n c)),.int .i64 i] w fun r w'=>∃a' c',r=.returned (.tuple #[.agg (trc h (.slice a' n c')),.bool (stepB l i)])∧SlAt w' a' n c' (stepL l i)∧Below w.heap.size w w':=by
 by_cases hi:0≤i∧i<(n:Int)
 ·obtain⟨k,hk⟩:∃k:Nat,i=(k:Int):=⟨i.toNat,by omega⟩;subst hk;have hkn:k<n:=by omega
  obtain⟨g,o,rfl⟩:=hs.some' (by omega);obtain⟨e1,e2⟩:=z_cX (l:=l) (k:=k) (by rw[hs.len];exact hkn);rw[e1,e2,z_fM];exact z_kQ h g o n c l k w hs hn hkn
 ·obtain⟨e1,e2⟩:=z_bk (l:=l) (i:=i) (by rw[hs.len];exact hi);rw[e1,e2];obtain⟨W,hW,r0,r1,bW,zW⟩:=z_w w h (.slice a n c);have l0:=r0.tld;have H:Hid (SlAt W a n c l∧TS w W w.heap.size (w.heap.size+1) h (.slice a n c)):=⟨hs.below bW,r0,r1,bW,by omega⟩;clear hs r0 r1 bW zW e1 e2;go_enter func79,ntmps79
  go_wp2_with fail
  refine (w_k h a n c i W hn).mono ?_;rintro _ W1 ⟨rfl,b1⟩;have eb:(decide (0≤i) && decide (i<(n:Int)))=false:=by simp;omega
  rw[eb];have H1:=hd2 (H.out.1.below b1) (H.out.2.below b1);have l1:=H1.out.2.var.tld;obtain⟨U,sU,h1,h2,g⟩:=H1.out.2.tell (y:=.slice a n c) rfl;have G:=hd3 h1 (H1.out.1.keptT H1.out.2.out g) h2;clear h1 h2 g H1 hi l0 eb b1 H hW;go_wp2
  refine bodyPost_ret (z_d rtT results79 _ _ _ _ rfl G.out.1 (z_c _ _)) rfl ?_;exact⟨a,c,rfl,G.out.2.1,G.out.2.2⟩
end S13
end
section
namespace S13
open Go.RowKit
theorem z_me (c0 c1 c2 c3 c4 c5 c6 c7 c8 c9 c10 c11 c12 c13 c14 c15 v:Value) (k:Int) (w:World):(Instr.build 182 #[(0,.agg #[c0,c1,c2,c3,c4,c5,c6,c7,c8,c9,c10,c11,c12,c13,c14,c15,v]),(1,.int .i64 k)]).run prog w=.ok (.agg #[c0,c1,c2,c3,c4,c5,c6,c7,c8,c9,c10,c11,c12,c13,c14,c15,v,.int .i64 k]) w:=by kernel_rfl
theorem bd50 (h:Hd) (v:Value) (k:Int) (w:World):(Instr.build 182 #[(0,.agg (trc h v)),(1,.int .i64 k)]).run prog w=.ok (.agg (chc h v k)) w:=by
 have hl:=h.len;rw[lenH] at hl;unfold trc chc
 match h.cl,hl with
 | [c0,c1,c2,c3,c4,c5,c6,c7,c8,c9,c10,c11,c12,c13,c14,c15],_=>exact z_me c0 c1 c2 c3 c4 c5 c6 c7 c8 c9 c10 c11 c12 c13 c14 c15 v k w
def bdS (x:Array (Nat×Value)):Sem Value:=Instr.build 182 x
theorem bdE (x:Array (Nat×Value)):Instr.build 182 x=bdS x:=rfl
theorem z_lF (h:Hd) (v:Value) (k:Int) (w:World):(bdS #[(0,.agg (trc h v)),(1,.int .i64 k)]).run prog w=.ok (.agg (chc h v k)) w:=bd50 h v k w
structure SS (W0 W:World) (t d b:Nat) (h:Hd) (g o n c k:Nat) (l:List Pt) (ra:Option Addr) (m rc:Nat) (rs:List (Bool×Nat)):Prop where
 tre:RvAt W t 39 (trc h (.slice (some ⟨g,o,none⟩) n c))
 cs:CS W b h g o n c k l
 rul:RsAt W ra m rc b rs
 bel:Below W0.heap.size W0 W
theorem SS.below {W0 W V:World} {t d b g o n c k m rc:Nat} {h:Hd} {l:List Pt} {ra:Option Addr} {rs:List (Bool×Nat)} (s:SS W0 W t d b h g o n c k l ra m rc rs) (e:Below W.heap.size W V):SS W0 V t d b h g o n c k l ra m rc rs:=⟨s.tre.below e,s.cs.below e,s.rul.below e,z_a s.bel e⟩
attribute [local go_sem ↓] ldT stT bdE ldRu stRu
theorem v_l (h:Hd) (a:Option Addr) (n c:Nat) (l:List Pt) (i:Int) (w:World) (hs:SlAt w a n c l) (hn:n≤1000) :
  Calls prog 132 #[.agg (trc h (.slice a n c)),.int .i64 i] w fun r w'=>∃a' c',r=.returned (.tuple #[.agg (trc h (.slice a' n c')),.bool (stepB l i)])∧SlAt w' a' n c' (stepL l i)∧Below w.heap.size w w'∧Fro w a a':=by
 obtain⟨W,hW,r0,r1,bW,zW⟩:=z_w w h (.slice a n c);have l0:=r0.tld;have c16:=r0.t16;have H:Hid (SlAt W a n c l∧l.length=n∧RvAt W w.heap.size 39 (trc h (.slice a n c))∧RvAt W (w.heap.size+1) 39 (trc zeroH (.slice none 0 0))∧Below w.heap.size w W∧W.heap.size=w.heap.size+2):=⟨hs.below bW,hs.len,r0,r1,bW,zW⟩;clear hs r0 r1 bW;by_cases hi:0≤i∧i<(n:Int)
 rotate_left
 ·obtain⟨e1,e2⟩:=z_bk (l:=l) (i:=i) (by rw[H.out.2.1];exact hi);rw[e1,e2];obtain⟨U,sU,rU,gU⟩:=H.out.2.2.2.1.tst (g:=h) (y:=.slice a n c) rfl;have G:Hid (RvAt U (w.heap.size+1) 39 (trc h (.slice a n c))∧SlAt U a n c l∧Below w.heap.size w U):=⟨rU,H.out.1.keptT H.out.2.2.2.1 gU,gro H.out.2.2.2.2.1 gU (by omega) H.out.2.2.2.2.1.size⟩;clear rU gU e1 e2 zW;go_enter func132,ntmps132
  go_wp2_with fail
  go_step3
  by_cases h0:i<0
  ·go_wp2
   try rw[Exit.noGoto_ret]
   refine bodyPost_ret (z_d rtT results132 _ _ _ _ rfl G.out.1 (z_c _ _)) rfl ?_;exact⟨a,c,rfl,G.out.2.1,G.out.2.2,Or.inl rfl⟩
  ·have h1:(n:Int)≤i:=by omega
   go_wp2
   try rw[Exit.noGoto_ret]
   refine bodyPost_ret (z_d rtT results132 _ _ _ _ rfl G.out.1 (z_c _ _)) rfl ?_;exact⟨a,c,rfl,G.out.2.1,G.out.2.2,Or.inl rfl⟩
 obtain⟨k,hk⟩:∃k:Nat,i=(k:Int):=⟨i.toNat,by omega⟩;subst hk;have hkn:k<n:=by omega
 have hkl:k<l.length:=by rw[H.out.2.1];exact hkn
 have hin0:¬ (k:Int)<0:=by omega
 have hin1:¬ (n:Int)≤(k:Int):=by omega
 obtain⟨g,o,rfl⟩:=H.out.1.some' (by omega);obtain⟨e1,e2⟩:=z_cX hkl;rw[e1,e2];obtain⟨OO,hOO⟩:∃z,stepO l k=z:=⟨_,rfl⟩;rw[hOO];have EO:Hid (firstF (rulL l k)=none→OO=none):=fun e=>by rw[←hOO];unfold stepO;rw[e];rfl
 have EF:Hid (∀F,firstF (rulL l k)=some F→OO=some (fnOf F k l)):=fun F e=>by rw[←hOO];unfold stepO;rw[e];rfl
 clear hOO e1 e2;have DD:Hid (∀x∈rulL l k,Deed x.2):=z_dm l k;have LL:Hid ((rulL l k).length≤9):=z_iO l k;obtain⟨W1,hW1⟩:∃W1,W.alloc (.cells (chc h (.slice (some ⟨g,o,none⟩) n c) (k:Int)) 182)=W1:=⟨_,rfl⟩;have b1:Below W.heap.size W W1:=by rw[←hW1];exact (Below.refl _ _).alloc (Nat.le_refl _) _
 have r1:RvAt W1 W.heap.size 182 (chc h (.slice (some ⟨g,o,none⟩) n c) (k:Int)):=by rw[←hW1];exact RvAt.new W _ _
 have CS1:Hid (CS W1 W.heap.size h g o n c k l):=⟨r1,H.out.1.below b1,hkn,hn⟩;have B1:Hid (Below W.heap.size W W1):=b1;have bd:=z_lF h (.slice (some ⟨g,o,none⟩) n c) (k:Int);clear b1 r1 hi;obtain⟨b,hb⟩:∃b,W.heap.size=b:=⟨_,rfl⟩;have HB:Hid (W.heap.size=b):=hb;rw[hb] at CS1;clear zW;go_enter func132,ntmps132
 go_wp2_with fail
 go_step3
 go_wp2_with fail
 go_step3
 go_wp2_with fail
 refine (z_dl CS1.out).mono ?_;rintro _ W2 ⟨v,rfl,o2,b2⟩;obtain⟨ra,rc,rfl,hr,_⟩:=o2.form;obtain⟨RL,hRL⟩:∃z,rulL l k=z:=⟨_,rfl⟩;rw[hRL] at hr DD LL EO EF ⊢;clear hRL;obtain⟨m,hm⟩:∃m,RL.length=m:=⟨_,rfl⟩;rw[hm] at hr LL ⊢;have HM:Hid (RL.length=m):=hm;have hm9:=LL.out
 have S2:Hid (SS W W2 w.heap.size (w.heap.size+1) b h g o n c k l ra m rc RL):=⟨(H.out.2.2.1.below B1.out).below b2,CS1.out.below b2,hr,z_a B1.out b2⟩;clear o2 b2 hr hm CS1 B1 l0 c16 bd hW1 hb
 go_wp2_with fail
 go_loopw [7,27] (fun v7 v27 wr=>∃j:Nat,j≤m∧v27=.int .i64 j∧v7=.bool false∧(∀(t:Nat) (x:Bool×Nat),t<j→RL[t]?=some x→x.1=false)∧SS W wr w.heap.size (w.heap.size+1) b h g o n c k l ra m rc RL) (fun _ v27 _=>m-(intOf v27).toNat)
 case atStart=>exact⟨0,by omega,rfl,rfl,fun t x ht=>by omega,S2.out⟩
 case round=>
  obtain⟨j,hj,rfl,rfl,hlow,hS⟩:=hrel;have JL:Hid (∀(t:Nat) (x:Bool×Nat),t<j→RL[t]?=some x→x.1=false):=hlow;have hj0:(0:Int)≤(j:Int):=by omega
  by_cases hjm:j<m
  ·have hj1:(j:Int)<(m:Int):=by omega
   have hjl:j<RL.length:=by rw[HM.out];exact hjm
   obtain⟨gr,hgr⟩:∃gr,ra=some ⟨gr,0,none⟩:=by
    cases ra with
    | none=>have:=(hS.rul.nil rfl).1;omega
    | some x=>obtain⟨gr,rfl⟩:=hS.rul.form x rfl;exact⟨gr,rfl⟩
   obtain⟨xj,hxj⟩:∃x,RL[j]?=some x:=⟨_,List.getElem?_eq_getElem hjl⟩;have lr:(ldS 186 (.pointer (some ⟨gr,j*2,none⟩))).run prog wr=.ok (.agg (rcC b xj)) wr:=by
    have:=hS.rul;rw[hgr] at this;exact this.ld hxj
   obtain⟨V,sV,rV,bV,zV⟩:=z_E rtRu wr #[.bool false,.nilFunc] (rcC b xj) rfl rfl (z_jb b xj);have c0:=rV.cell 0 (.bool xj.1) rfl;have c1:V.cell? ⟨wr.heap.size,1,none⟩=some (.func (.func xj.2) #[.pointer (some ⟨b,0,none⟩)] #[]):=rV.cell 1 (dv b xj.2) rfl;have J:Hid (SS W V w.heap.size (w.heap.size+1) b h g o n c k l ra m rc RL):=hS.below bV;have XJ:Hid (RL[j]?=some xj):=hxj
   have R9:Hid (RvAt V wr.heap.size 186 (rcC b xj)∧wr.heap.size<V.heap.size∧W.heap.size≤wr.heap.size):=⟨rV,rV.lt,hS.bel.size⟩;clear hS rV bV zV hlow hxj hjl;subst hgr;obtain⟨so,F⟩:=xj;simp only at c0 c1;cases so
   ·have NX:Hid (∀(t:Nat) (x:Bool×Nat),t<j+1→RL[t]?=some x→x.1=false):=fun t x ht hx=>by
     by_cases e:t=j
     ·subst e;have:=XJ.out;rw[this] at hx;cases hx;rfl
     ·exact JL.out t x (by omega) hx
    go_wp2
    go_roundw
    case rel=>exact⟨j+1,by omega,by go_num,rfl,NX.out,J.out⟩
    case measure=>simp[intOf];omega
   ·have OF:OO=some (fnOf F k l):=EF.out F (z_bO RL j F XJ.out JL.out);have D:Hid (DeedN F (fnOf F)):=(DD.out (true,F) (List.mem_of_getElem? XJ.out)).does;have en:=(DD.out (true,F) (List.mem_of_getElem? XJ.out)).enter;have lt:=J.out.tre.tld;obtain⟨wz,hwz⟩:∃z,wr.heap.size=z:=⟨_,rfl⟩;rw[hwz] at sV c0 c1 R9
    go_wp2_with fail
    refine (y_Y h (some ⟨g,o,none⟩) n c l V J.out.cs.sl hn).mono ?_;rintro _ X ⟨v,rfl,ox,bx⟩;have hlen:l.length=n:=H.out.2.1;have JX:=J.out.below bx;obtain⟨Y,sY,rY,gY⟩:=JX.cs.var.hst (g:=h) (y:=v) ox.one;have hbW:=HB.out;have DP0:Hid (∃g' c',DP W Y b h g' c' n k (k*77) l (gtP l k)):=by
     rcases ox.pat with ⟨_,rfl⟩ | ⟨g',c',rfl,hg',hp⟩
     ·simp at hlen;omega
     ·have hbl:=J.out.cs.var.lt;rw[hlen] at rY;exact⟨g',c',rY,by rw[u_d hkl];exact hp.keptBut gY (by simp;omega),hlen,gro JX.bel gY (by omega) JX.bel.size,by omega,Nat.le_trans J.out.bel.size hg',by omega,hkn,hn,rfl⟩
    have c1Y:Y.cell? ⟨wz,1,none⟩=some (.func (.func F) #[.pointer (some ⟨b,0,none⟩)] #[]):=((R9.out.1.below bx).keptBut gY (by have:=JX.cs.var.apart (R9.out.1.below bx) (by decide);simpa using this.symm)).cell 1 _ rfl;obtain⟨g',c',DPY⟩:=DP0.out;have DY:Hid (DP W Y b h g' c' n k (k*77) l (gtP l k)):=DPY;clear ox bx rY gY DPY DP0 JX lt c0 c1 lr
    go_wp2_with fail
    refine (D.out W Y b h g' c' n k (k*77) l (gtP l k) DY.out).mono ?_;rintro _ Z ⟨rfl,g2,c2,DZ⟩;rw[u_d hkl] at DZ;have lz:=DZ.var.htree;have sl2:=DZ.cs.sl;rw[u_d (by rw[z_lp];exact hkl)] at sl2;have rd:=H.out.2.2.2.1.below DZ.bel;obtain⟨U,sU,rU,gU⟩:=rd.tst (g:=h) (y:=.slice (some ⟨g2,0,none⟩) n c2) rfl
    have G:Hid (RvAt U (w.heap.size+1) 39 (trc h (.slice (some ⟨g2,0,none⟩) n c2))∧SlAt U (some ⟨g2,0,none⟩) n c2 (OO.getD l)∧Below w.heap.size w U∧OO.isSome=true):=by
     rw[OF];exact⟨rU,sl2.keptT rd gU,gro (z_a H.out.2.2.2.2.1 DZ.bel) gU (by omega) (z_a H.out.2.2.2.2.1 DZ.bel).size,rfl⟩
    have FR:Hid (w.heap.size≤g2):=Nat.le_trans H.out.2.2.2.2.1.size DZ.hg;clear DZ sl2 rd rU gU DY OF sY sV en c1Y;go_wp2
    try rw[Exit.noGoto_ret]
    refine bodyPost_ret (z_d rtT results132 _ _ _ _ rfl G.out.1 (z_c _ _)) rfl ?_;exact⟨some ⟨g2,0,none⟩,c2,by rw[G.out.2.2.2];rfl,G.out.2.1,G.out.2.2.1,Or.inr (Nw.of FR.out)⟩
  ·have hjm':j=m:=by omega
   subst hjm';have hj1:¬ (j:Int)<(j:Int):=by omega
   have ON:OO=none:=EO.out (v_S RL (fun t x hx=>JL.out t x (by rw[←HM.out];exact (List.getElem?_eq_some_iff.1 hx).1) hx));have lz:=hS.cs.var.htree;have rd:=H.out.2.2.2.1.below hS.bel;obtain⟨U,sU,rU,gU⟩:=rd.tst (g:=h) (y:=.slice (some ⟨g,o,none⟩) n c) rfl
   have G:Hid (RvAt U (w.heap.size+1) 39 (trc h (.slice (some ⟨g,o,none⟩) n c))∧SlAt U (some ⟨g,o,none⟩) n c (OO.getD l)∧Below w.heap.size w U∧OO.isSome=false):=by
    rw[ON];exact⟨rU,hS.cs.sl.keptT rd gU,gro (z_a H.out.2.2.2.2.1 hS.bel) gU (by omega) (z_a H.out.2.2.2.2.1 hS.bel).size,rfl⟩
   clear hS rd rU gU ON hlow;go_wp2
   try rw[Exit.noGoto_ret]
   refine bodyPost_ret (z_d rtT results132 _ _ _ _ rfl G.out.1 (z_c _ _)) rfl ?_;exact⟨some ⟨g,o,none⟩,c,by rw[G.out.2.2.2];rfl,G.out.2.1,G.out.2.2.1,Or.inl rfl⟩
end S13
end
end Go.Proofs.YtlchejbggnbccaaGreat
