/-
  A tree's variable, the result's and a port's of the definition; how it agrees: the walk of agrees. And what follows from it here.
-/
import Derived.Test.YtlchejbggnbccaaGreatPbb
import Derived.Test.YtlchejbggnbccaaGreatP13e
import Derived.Test.YtlchejbggnbccaaGreatP13a
import Derived.Deep.RegionHeld3
import Derived.Test.YtlchejbggnbccaaGreatPba
namespace Go.Proofs.YtlchejbggnbccaaGreat
set_option linter.unusedVariables false
set_option linter.unusedSimpArgs false
set_option maxRecDepth 4000
set_option maxHeartbeats 40000000
open _root_.Go.Proofs.Tryz
section
namespace S13
open Go.RowKit
def agrO (l:List Pt) (k:Nat):Option (List Pt):=
 if prpB (gtP l k)=true then some ((l.set k (prdP (gtP l k))).map syncP) else if ansB l k=true then some (l.set k (if (gtP l k).nm 73=3 then agrRP (gtP l k) else agrP (gtP l k))) else none
attribute [local go_sem ↓] ldP stP stB stU stW ldT stT
attribute [local go_sem ↓] alP
attribute [local go_sem] z_l
theorem y_G (h:Hd) (g o n c:Nat) (l:List Pt) (k:Nat) (w:World) (hs:SlAt w (some ⟨g,o,none⟩) n c l) (hn:n≤1000) (hk:k<n) :
  Calls prog 154 #[.agg (trc h (.slice (some ⟨g,o,none⟩) n c)),.int .i64 (k:Int)] w fun r w'=>∃a' c',r=.returned (.tuple #[.agg (trc h (.slice a' n c')),.bool (agrO l k).isSome])∧SlAt w' a' n c' ((agrO l k).getD l)∧Below w.heap.size w w':=by
 obtain⟨OO,hOO⟩:∃z,agrO l k=z:=⟨_,rfl⟩;rw[hOO];have EO:Hid (agrO l k=OO):=hOO;clear hOO;have HL:Hid (l.length=n):=hs.len;have hkl:k<l.length:=by rw[HL.out];exact hk
 have hin0:(0:Int)≤(k:Int):=by omega
 have hin1:(k:Int)<(n:Int):=by omega
 obtain⟨W,hW,r0,r1,bW,zW⟩:=z_w w h (.slice (some ⟨g,o,none⟩) n c);have l0:=r0.tld;have c16:=r0.t16;have H:Hid (TS w W w.heap.size (w.heap.size+1) h (.slice (some ⟨g,o,none⟩) n c)∧SlAt W (some ⟨g,o,none⟩) n c l∧W.heap.size=w.heap.size+2):=⟨⟨r0,r1,bW,by omega⟩,hs.below bW,zW⟩;have GL:Hid (g<w.heap.size):=hs.low (by omega);have lp:=(hs.below bW).ld (z_k hkl);obtain⟨p,hp⟩:∃p,gtP l k=p:=⟨_,rfl⟩
 have HP:Hid (gtP l k=p):=hp;rw[hp] at lp;obtain⟨W0,s0,r0',b0,z0⟩:=y_b W p;obtain⟨Z,hZ⟩:∃Z,W.heap.size=Z:=⟨_,rfl⟩;rw[hZ] at s0 r0';have T0:Hid (TP w W0 w.heap.size (w.heap.size+1) Z h g o n c l p):=⟨H.out.1.below b0,H.out.2.1.below b0,r0',by have:=H.out.2.2;omega,GL.out⟩;obtain⟨C0,hC0⟩:∃z,prpB p=z:=⟨_,rfl⟩;have EC0:Hid (prpB p=C0):=hC0;obtain⟨M,hM⟩:∃z,inS l k=z:=⟨_,rfl⟩;have EM:Hid (inS l k=M):=hM
 obtain⟨C1,hC1⟩:∃z,((M && !p.bt 3) || (p.bt 12 && p.bt 3))=z:=⟨_,rfl⟩;have EC1:Hid (ansB l k=C1):=by rw[←hC1,← hM,← hp];rfl
 have HC1:Hid (((M && !p.bt 3) || (p.bt 12 && p.bt 3))=C1):=hC1;have R:=r0'.rdE;clear hs r0 r1 bW zW hp hC0 hM hC1 b0 z0 r0';go_enter func154,ntmps154;go_upto_region 2 with fail
 refine wp_plain (C:=fun w'=>w'=W0) rfl ?_;refine z_b (v:=.pointer (some ⟨Z,0+12,none⟩)) (yq rfl (Rn.qt (qfield rfl rfl fp12))) ?_
 try simp only[Act.put,zA,zB,zC]
 refine z_b (v:=.bool (p.bt 12)) (yq rfl (Rn.qt (qload rfl rfl (R.bit rfl)))) ?_
 try simp only[Act.put,zA,zB,zC]
 refine z_b (v:=.bool (p.bt 12)) (yq rfl (Rn.qt (qmove rfl rfl))) ?_
 try simp only[Act.put,zA,zB,zC]
 refine z_b (v:=gd (p.bt 12) true (.pointer (some ⟨Z,0+3,none⟩))) (yq1 rfl rfl (fun e=>Rn.qt (qfield rfl rfl fp3))) ?_
 try simp only[Act.put,zA,zB,zC]
 refine z_b (v:=gd (p.bt 12) true (.bool (p.bt 3))) (yq1 rfl rfl (fun e=>Rn.qt (qload rfl (on e rfl) (R.bit rfl)))) ?_
 try simp only[Act.put,zA,zB,zC]
 refine z_b (v:=gd (p.bt 12) true (.bool (!(p.bt 3)))) (yq1 rfl rfl (fun e=>Rn.qt (qnot rfl (on e rfl)))) ?_
 try simp only[Act.put,zA,zB,zC]
 refine z_b (v:=.bool ((p.bt 12) && (!(p.bt 3)))) (yq rfl (Rn.qt (qpick rfl rfl (pkA rfl rfl)))) ?_
 try simp only[Act.put,zA,zB,zC]
 refine wpQuiet_nil ?_;rintro y_ hy_;rw[hy_];clear hy_ y_;clear l0 c16 lp s0 R;have hc:=EC0.out;unfold prpB at hc;rw[hc];clear hc;cases C0;rotate_left
 ·have E:OO=some ((l.set k (prdP p)).map syncP):=by
   rw[←EO.out];unfold agrO;rw[HP.out,if_pos EC0.out]
  obtain⟨W1,s1,S1⟩:=T0.out.setB kb12 false;have S1:TP w W1 w.heap.size (w.heap.size+1) Z h g o n c l (prdP p):=S1;have SW:Hid (TP w _ w.heap.size (w.heap.size+1) Z h g o n c l (prdP p)):=S1;have lt_:=SW.out.tre.var.tld;have lp_:=SW.out.pv.pld;clear S1
  go_wp2_with fail
  refine (z_o h (some ⟨g,o,none⟩) n c l k (prdP p) _ SW.out.sl hn hk).mono ?_;rintro _ X ⟨g2,c2,rfl,hg2,s2,b2⟩;have ST:Hid (TS w X w.heap.size (w.heap.size+1) h (.slice (some ⟨g,o,none⟩) n c)∧SlAt X (some ⟨g2,0,none⟩) n c2 (l.set k (prdP p))):=⟨SW.out.tre.below b2,s2⟩;clear s2 b2 hg2 lt_ lp_ SW
  go_wp2_with fail
  refine (z_dq h (some ⟨g2,0,none⟩) n c2 (l.set k (prdP p)) X ST.out.2 hn).mono ?_;rintro _ Y ⟨v,rfl,oy,b3⟩;obtain⟨a3,c3,hv,s3,_⟩:=oy.form;rw[List.length_map,List.length_set,HL.out] at hv s3;subst hv;obtain⟨U,sU,h1,h2,gU⟩:=(ST.out.1.below b3).tell (y:=.slice a3 n c3) rfl
  have G:Hid (RvAt U (w.heap.size+1) 39 (trc h (.slice a3 n c3))∧SlAt U a3 n c3 (OO.getD l)∧Below w.heap.size w U∧OO.isSome=true):=by
   rw[E];exact⟨h1,s3.keptT (ST.out.1.below b3).out gU,h2,rfl⟩
  clear h1 h2 gU s3 b3 oy ST;go_wp2
  refine bodyPost_ret (z_d rtT results154 _ _ _ _ rfl G.out.1 (z_c _ _)) rfl ?_;exact⟨a3,c3,by rw[G.out.2.2.2];rfl,G.out.2.1,G.out.2.2.1⟩
 have R:=T0.out.pv.rdL;have LT:∀w',(∃x:Later W0,w'=x.val)→(Instr.loadAt 39 (.pointer (some ⟨w.heap.size,0,none⟩))).run prog w'=.ok (.agg (trc h (.slice (some ⟨g,o,none⟩) n c))) w':=by
  rintro _ ⟨x,rfl⟩;exact (T0.out.below x.below).tre.var.tld
 have AS:∀x:Later W0,Calls prog 198 #[.agg (trc h (.slice (some ⟨g,o,none⟩) n c)),.int .i64 (k:Int)] x.val fun r W'=>r=.returned (.bool M)∧∃y:Later W0,W'=y.val:=fun x=>by
  have:=z_dB h (some ⟨g,o,none⟩) n c l (k:Int) x.val (T0.out.below x.below).sl hn;rw[show allK (okS (k:Int)) l=M from EM.out] at this;exact Calls.later_of this
 go_upto_region 5 with fail
 refine wp_plain (C:=fun w'=>∃x:Later W0,w'=x.val) ⟨⟨_,Below.refl _ _⟩,rfl⟩ ?_;refine z_b (v:=.agg (trc h (.slice (some ⟨g,o,none⟩) n c))) (yq rfl (Rn.qt (qload rfl rfl LT))) ?_
 try simp only[Act.put,zA,zB,zC]
 refine z_b (v:=.int .i64 (k:Int)) (yq rfl (Rn.qt (qmove rfl rfl))) ?_
 try simp only[Act.put,zA,zB,zC]
 refine z_b (v:=.bool M) (yq rfl (z_id rfl rfl rfl (fun V=>by go_simp) (fun w hw=>by obtain⟨x,rfl⟩:=hw;exact AS x))) ?_
 try simp only[Act.put,zA,zB,zC]
 refine z_b (v:=.bool M) (yq rfl (Rn.qt (qmove rfl rfl))) ?_
 try simp only[Act.put,zA,zB,zC]
 refine z_b (v:=gd M true (.pointer (some ⟨Z,0+3,none⟩))) (yq1 rfl rfl (fun e=>Rn.qt (qfield rfl rfl fp3))) ?_
 try simp only[Act.put,zA,zB,zC]
 refine z_b (v:=gd M true (.bool (p.bt 3))) (yq1 rfl rfl (fun e=>Rn.qt (qload rfl (on e rfl) (R.bit rfl)))) ?_
 try simp only[Act.put,zA,zB,zC]
 refine z_b (v:=gd M true (.bool (!(p.bt 3)))) (yq1 rfl rfl (fun e=>Rn.qt (qnot rfl (on e rfl)))) ?_
 try simp only[Act.put,zA,zB,zC]
 refine z_b (v:=.bool (M && (!(p.bt 3)))) (yq rfl (Rn.qt (qpick rfl rfl (pkA rfl rfl)))) ?_
 try simp only[Act.put,zA,zB,zC]
 refine z_b (v:=.bool (M && (!(p.bt 3)))) (yq rfl (Rn.qt (qmove rfl rfl))) ?_
 try simp only[Act.put,zA,zB,zC]
 refine z_b (v:=gd (M && (!(p.bt 3))) false (.pointer (some ⟨Z,0+12,none⟩))) (yq1 rfl rfl (fun e=>Rn.qt (qfield rfl rfl fp12))) ?_
 try simp only[Act.put,zA,zB,zC]
 refine z_b (v:=gd (M && (!(p.bt 3))) false (.bool (p.bt 12))) (yq1 rfl rfl (fun e=>Rn.qt (qload rfl (on e rfl) (R.bit rfl)))) ?_
 try simp only[Act.put,zA,zB,zC]
 refine z_b (v:=gd (M && (!(p.bt 3))) false (.bool (p.bt 12))) (yq1 rfl rfl (fun e=>Rn.qt (qmove rfl (on e rfl)))) ?_
 try simp only[Act.put,zA,zB,zC]
 refine z_b (v:=gd (M && (!(p.bt 3))) false (gd (p.bt 12) true (.pointer (some ⟨Z,0+3,none⟩)))) (yq2 rfl rfl (fun e1 e2=>Rn.qt (qfield rfl rfl fp3))) ?_
 try simp only[Act.put,zA,zB,zC]
 refine z_b (v:=gd (M && (!(p.bt 3))) false (gd (p.bt 12) true (.bool (p.bt 3)))) (yq2 rfl rfl (fun e1 e2=>Rn.qt (qload rfl (on e2 (on e1 rfl)) (R.bit rfl)))) ?_
 try simp only[Act.put,zA,zB,zC]
 refine z_b (v:=gd (M && (!(p.bt 3))) false (.bool ((p.bt 12) && (p.bt 3)))) (yq1 rfl rfl (fun e=>Rn.qt (qpick rfl (on e rfl) (pkA (on e rfl) rfl)))) ?_
 try simp only[Act.put,zA,zB,zC]
 refine z_b (v:=.bool ((M && (!(p.bt 3))) || ((p.bt 12) && (p.bt 3)))) (yq rfl (Rn.qt (qpick rfl rfl (pkO rfl rfl)))) ?_
 try simp only[Act.put,zA,zB,zC]
 refine wpQuiet_nil ?_;rintro _ ⟨y,rfl⟩;obtain⟨V,hV⟩:∃V,y.val=V:=⟨_,rfl⟩;have bV:Below W0.heap.size W0 V:=by rw[←hV];exact y.below
 rw[hV];have T1:Hid (TP w V w.heap.size (w.heap.size+1) Z h g o n c l p):=T0.out.below bV;clear R LT AS hV bV y;rw[HC1.out];clear HC1;cases C1
 ·have E:OO=none:=by
   rw[←EO.out];unfold agrO;rw[HP.out,if_neg (by rw[EC0.out];decide),if_neg (by rw[EC1.out];decide)]
  have lt_:=(T1.out).tre.var.tld;obtain⟨U,sU,h1,h2,gU⟩:=(T1.out).tre.tell (y:=.slice (some ⟨g,o,none⟩) n c) rfl;have G:Hid (RvAt U (w.heap.size+1) 39 (trc h (.slice (some ⟨g,o,none⟩) n c))∧SlAt U (some ⟨g,o,none⟩) n c (OO.getD l)∧Below w.heap.size w U∧OO.isSome=false):=by
   rw[E];exact⟨h1,(T1.out).sl.keptT (T1.out).tre.out gU,h2,rfl⟩
  clear h1 h2 gU E;go_wp2
  refine bodyPost_ret (z_d rtT results154 _ _ _ _ rfl G.out.1 (z_c _ _)) rfl ?_;exact⟨some ⟨g,o,none⟩,c,by rw[G.out.2.2.2];rfl,G.out.2.1,G.out.2.2.1⟩
 obtain⟨N,hN⟩:∃N,p.nm 73=N:=⟨_,rfl⟩;have l73:=T1.out.pv.pnum (j:=73) (k:=.i64) rfl;rw[hN] at l73;by_cases h3:N=3
 ·have E:OO=some (l.set k (agrRP p)):=by
   rw[←EO.out];unfold agrO;rw[HP.out,if_neg (by rw[EC0.out];decide),if_pos EC1.out,hN,if_pos h3]
  subst h3;have S0:=T1.out;obtain⟨W1,s1,S1⟩:=S0.setB kb24 false;obtain⟨W2,s2,S2⟩:=S1.setB kb12 false;obtain⟨W3,s3,S3⟩:=S2.setB kb3 true;obtain⟨W4,s4,S4⟩:=S3.setB kb11 true;have S4:TP w W4 w.heap.size (w.heap.size+1) Z h g o n c l (agrRP p):=S4;have SW:Hid (TP w _ w.heap.size (w.heap.size+1) Z h g o n c l (agrRP p)):=S4;have lt_:=SW.out.tre.var.tld;have lp_:=SW.out.pv.pld;clear S0 S1 S2 S3 S4
  go_wp2_with fail
  refine (z_o h (some ⟨g,o,none⟩) n c l k (agrRP p) _ SW.out.sl hn hk).mono ?_;rintro _ X ⟨g2,c2,rfl,hg2,s2,b2⟩;obtain⟨U,sU,h1,h2,gU⟩:=(SW.out.tre.below b2).tell (y:=.slice (some ⟨g2,0,none⟩) n c2) rfl;have G:Hid (RvAt U (w.heap.size+1) 39 (trc h (.slice (some ⟨g2,0,none⟩) n c2))∧SlAt U (some ⟨g2,0,none⟩) n c2 (OO.getD l)∧Below w.heap.size w U∧OO.isSome=true):=by
   rw[E];exact⟨h1,s2.keptT (SW.out.tre.below b2).out gU,h2,rfl⟩
  clear h1 h2 gU s2 b2 hg2 lt_ lp_ SW;go_wp2
  refine bodyPost_ret (z_d rtT results154 _ _ _ _ rfl G.out.1 (z_c _ _)) rfl ?_;exact⟨some ⟨g2,0,none⟩,c2,by rw[G.out.2.2.2];rfl,G.out.2.1,G.out.2.2.1⟩
 ·have E:OO=some (l.set k (agrP p)):=by
   rw[←EO.out];unfold agrO;rw[HP.out,if_neg (by rw[EC0.out];decide),if_pos EC1.out,hN,if_neg h3]
  have x3:(N==3)=false:=by simpa using h3
  have S0:=T1.out;obtain⟨W1,s1,S1⟩:=S0.setB kb12 false;obtain⟨W2,s2,S2⟩:=S1.setB kb3 true;obtain⟨W3,s3,S3⟩:=S2.setB kb11 true;have S3:TP w W3 w.heap.size (w.heap.size+1) Z h g o n c l (agrP p):=S3;have SW:Hid (TP w _ w.heap.size (w.heap.size+1) Z h g o n c l (agrP p)):=S3;have lt_:=SW.out.tre.var.tld;have lp_:=SW.out.pv.pld;clear S0 S1 S2 S3
  go_wp2_with fail
  refine (z_o h (some ⟨g,o,none⟩) n c l k (agrP p) _ SW.out.sl hn hk).mono ?_;rintro _ X ⟨g2,c2,rfl,hg2,s2,b2⟩;obtain⟨U,sU,h1,h2,gU⟩:=(SW.out.tre.below b2).tell (y:=.slice (some ⟨g2,0,none⟩) n c2) rfl;have G:Hid (RvAt U (w.heap.size+1) 39 (trc h (.slice (some ⟨g2,0,none⟩) n c2))∧SlAt U (some ⟨g2,0,none⟩) n c2 (OO.getD l)∧Below w.heap.size w U∧OO.isSome=true):=by
   rw[E];exact⟨h1,s2.keptT (SW.out.tre.below b2).out gU,h2,rfl⟩
  clear h1 h2 gU s2 b2 hg2 lt_ lp_ SW;go_wp2
  refine bodyPost_ret (z_d rtT results154 _ _ _ _ rfl G.out.1 (z_c _ _)) rfl ?_;exact⟨some ⟨g2,0,none⟩,c2,by rw[G.out.2.2.2];rfl,G.out.2.1,G.out.2.2.1⟩
end S13
end
section
namespace S13
open Go.RowKit
def rotO (l:List Pt) (k:Nat):Option (List Pt):=
 if (!(gtP l k).bt 7 && !(gtP l k).bt 20)=true then some (l.map rerP) else if ((gtP l k).bt 20 && (gtP l k).bt 7)=true then some (l.set k (rrdP (gtP l k))) else if (rdyB l k && !(gtP l k).bt 9)=true then some (l.set k (lrnP (gtP l k))) else if ((rdyB l k && (gtP l k).bt 9) && !(gtP l k).bt 7)=true then some (l.set k (fwdP (gtP l k))) else if ((gtP l k).nm 70 != (gtP l k).nm 43)=true then some (l.set k (rcnP (gtP l k))) else none
def orO (a b:Option (List Pt)):Option (List Pt):=match a with | some m=>some m | none=>b
attribute [local go_sem ↓] ldP stP stB stU stW ldT stT
attribute [local go_sem ↓] alP
attribute [local go_sem] z_l
theorem v_g (h:Hd) (g o n c:Nat) (l:List Pt) (k:Nat) (w:World) (hs:SlAt w (some ⟨g,o,none⟩) n c l) (hn:n≤1000) (hk:k<n) :
  Calls prog 119 #[.agg (trc h (.slice (some ⟨g,o,none⟩) n c)),.int .i64 (k:Int)] w fun r w'=>∃a' c',r=.returned (.tuple #[.agg (trc h (.slice a' n c')),.bool (orO (agrO l k) (rotO l k)).isSome])∧SlAt w' a' n c' ((orO (agrO l k) (rotO l k)).getD l)∧Below w.heap.size w w':=by
 obtain⟨OO,hOO⟩:∃z,orO (agrO l k) (rotO l k)=z:=⟨_,rfl⟩;rw[hOO];have EO:Hid (orO (agrO l k) (rotO l k)=OO):=hOO;clear hOO;have HL:Hid (l.length=n):=hs.len;have hkl:k<l.length:=by rw[HL.out];exact hk
 have hin0:(0:Int)≤(k:Int):=by omega
 have hin1:(k:Int)<(n:Int):=by omega
 obtain⟨W,hW,r0,r1,bW,zW⟩:=z_w w h (.slice (some ⟨g,o,none⟩) n c);have l0:=r0.tld;have c16:=r0.t16;have H:Hid (TS w W w.heap.size (w.heap.size+1) h (.slice (some ⟨g,o,none⟩) n c)∧SlAt W (some ⟨g,o,none⟩) n c l∧W.heap.size=w.heap.size+2):=⟨⟨r0,r1,bW,by omega⟩,hs.below bW,zW⟩;have GL:Hid (g<w.heap.size):=hs.low (by omega);have HS:Hid (SlAt w (some ⟨g,o,none⟩) n c l):=hs
 obtain⟨p,hp⟩:∃p,gtP l k=p:=⟨_,rfl⟩;have HP:Hid (gtP l k=p):=hp;obtain⟨AO,hAO⟩:∃z,agrO l k=z:=⟨_,rfl⟩;have EA:Hid (agrO l k=AO):=hAO;clear hs r0 r1 bW zW hp hAO c16;go_enter func119,ntmps119
 go_wp2_with fail
 refine (y_G h g o n c l k W H.out.2.1 hn hk).mono ?_;rw[EA.out];rintro _ X ⟨a1,c1,rfl,s1,b1⟩;obtain⟨V1,t1,rV1,bV1,zV1⟩:=z_bB X h (.slice a1 n c1) rfl
 have T0:Hid (TS w V1 w.heap.size (w.heap.size+1) h (.slice (some ⟨g,o,none⟩) n c)∧SlAt V1 (some ⟨g,o,none⟩) n c l∧SlAt V1 a1 n c1 (AO.getD l)∧RvAt V1 X.heap.size 39 (trc h (.slice a1 n c1))∧w.heap.size≤V1.heap.size):=⟨(H.out.1.below b1).below bV1,(H.out.2.1.below b1).below bV1,s1.below bV1,rV1,by have:=H.out.2.2;have:=b1.size;have:=bV1.size;omega⟩;clear s1 b1 rV1 bV1 zV1 l0;cases AO with
 | some m=>
  have E:OO=some m:=by rw[←EO.out,EA.out];rfl
  have lu:=T0.out.2.2.2.1.tld;obtain⟨U,sU,h1,h2,gU⟩:=T0.out.1.tell (y:=.slice a1 n c1) rfl;have G:Hid (RvAt U (w.heap.size+1) 39 (trc h (.slice a1 n c1))∧SlAt U a1 n c1 (OO.getD l)∧Below w.heap.size w U∧OO.isSome=true):=by
   rw[E];exact⟨h1,T0.out.2.2.1.keptT T0.out.1.out gU,h2,rfl⟩
  clear h1 h2 gU E;simp only[Option.isSome_some];go_wp2
  refine bodyPost_ret (z_d rtT results119 _ _ _ _ rfl G.out.1 (z_c _ _)) rfl ?_;exact⟨a1,c1,by rw[G.out.2.2.2];rfl,G.out.2.1,G.out.2.2.1⟩
 | none=>
  have c16:=T0.out.1.var.t16;have lp:=T0.out.2.1.ld (z_k hkl);rw[HP.out] at lp;obtain⟨W0,s0,r0,b0,z0⟩:=y_b V1 p;obtain⟨Z,hZ⟩:∃Z,V1.heap.size=Z:=⟨_,rfl⟩;rw[hZ] at s0 r0;have P0:Hid (TP w W0 w.heap.size (w.heap.size+1) Z h g o n c l p):=⟨T0.out.1.below b0,T0.out.2.1.below b0,r0,by have:=T0.out.2.2.2.2;omega,GL.out⟩;clear r0 b0 z0;simp only[Option.isSome_none];obtain⟨RA,hRA⟩:∃z,wasR l k=z:=⟨_,rfl⟩
  have ERA:Hid (wasR l k=RA):=hRA;clear hRA;have R:=P0.out.pv.rdL;have LT:∀w',(∃x:Later W0,w'=x.val)→(Instr.loadAt 39 (.pointer (some ⟨w.heap.size,0,none⟩))).run prog w'=.ok (.agg (trc h (.slice (some ⟨g,o,none⟩) n c))) w':=by
   rintro _ ⟨x,rfl⟩;exact (P0.out.below x.below).tre.var.tld
  have AS:∀x:Later W0,Calls prog 155 #[.agg (trc h (.slice (some ⟨g,o,none⟩) n c)),.int .i64 (k:Int)] x.val fun r W'=>r=.returned (.bool RA)∧∃y:Later W0,W'=y.val:=fun x=>by
   have:=z_dC h (some ⟨g,o,none⟩) n c l (k:Int) x.val (P0.out.below x.below).sl hn;rw[show allK (okR (k:Int)) l=RA from ERA.out] at this;exact Calls.later_of this
  go_upto_region 5 with fail
  clear t1 c16 lp s0 hZ;refine wp_plain (C:=fun w'=>∃x:Later W0,w'=x.val) ⟨⟨_,Below.refl _ _⟩,rfl⟩ ?_;refine z_b (v:=.pointer (some ⟨Z,0+65,none⟩)) (yq rfl (Rn.qt (qfield rfl rfl fp38))) ?_
  try simp only[Act.put,zA,zB,zC]
  refine z_b (v:=.int .u8 (p.nm 65)) (yq rfl (Rn.qt (qload rfl rfl (R.u8 rfl)))) ?_
  try simp only[Act.put,zA,zB,zC]
  refine z_b (v:=.bool ((p.nm 65)==0)) (yq rfl (Rn.qt (qbin rfl rfl rfl (x_a _ _ _ _ _) (u_F _ _)))) ?_
  try simp only[Act.put,zA,zB,zC]
  refine z_b (v:=.bool ((p.nm 65)==0)) (yq rfl (Rn.qt (qmove rfl rfl))) ?_
  try simp only[Act.put,zA,zB,zC]
  refine z_b (v:=gd ((p.nm 65)==0) false (.agg (trc h (.slice (some ⟨g,o,none⟩) n c)))) (yq1 rfl rfl (fun e=>Rn.qt (qload rfl rfl LT))) ?_
  try simp only[Act.put,zA,zB,zC]
  refine z_b (v:=gd ((p.nm 65)==0) false (.int .i64 (k:Int))) (yq1 rfl rfl (fun e=>Rn.qt (qmove rfl rfl))) ?_
  try simp only[Act.put,zA,zB,zC]
  refine z_b (v:=gd ((p.nm 65)==0) false (.bool RA)) (yq1 rfl rfl (fun e=>z_id rfl (on e rfl) (on e rfl) (fun V=>by go_simp) (fun w hw=>by obtain⟨x,rfl⟩:=hw;exact AS x))) ?_
  try simp only[Act.put,zA,zB,zC]
  refine z_b (v:=gd ((p.nm 65)==0) false (.bool RA)) (yq1 rfl rfl (fun e=>Rn.qt (qmove rfl (on e rfl)))) ?_
  try simp only[Act.put,zA,zB,zC]
  refine z_b (v:=gd ((p.nm 65)==0) false (gd RA true (.pointer (some ⟨Z,0+68,none⟩)))) (yq2 rfl rfl (fun e1 e2=>Rn.qt (qfield rfl rfl fp41))) ?_
  try simp only[Act.put,zA,zB,zC]
  refine z_b (v:=gd ((p.nm 65)==0) false (gd RA true (.int .u8 (p.nm 68)))) (yq2 rfl rfl (fun e1 e2=>Rn.qt (qload rfl (on e2 (on e1 rfl)) (R.u8 rfl)))) ?_
  try simp only[Act.put,zA,zB,zC]
  refine z_b (v:=gd ((p.nm 65)==0) false (gd RA true (.bool ((p.nm 68)==0)))) (yq2 rfl rfl (fun e1 e2=>Rn.qt (qbin rfl (on e2 (on e1 rfl)) rfl (x_a _ _ _ _ _) (u_F _ _)))) ?_
  try simp only[Act.put,zA,zB,zC]
  refine z_b (v:=gd ((p.nm 65)==0) false (.bool (RA && ((p.nm 68)==0)))) (yq1 rfl rfl (fun e=>Rn.qt (qpick rfl (on e rfl) (pkA (on e rfl) rfl)))) ?_
  try simp only[Act.put,zA,zB,zC]
  refine z_b (v:=.bool (((p.nm 65)==0) || (RA && ((p.nm 68)==0)))) (yq rfl (Rn.qt (qpick rfl rfl (pkO rfl rfl)))) ?_
  try simp only[Act.put,zA,zB,zC]
  refine z_b (v:=.bool (((p.nm 65)==0) || (RA && ((p.nm 68)==0)))) (yq rfl (Rn.qt (qassign rfl rfl))) ?_
  try simp only[Act.put,zA,zB,zC]
  refine wpQuiet_nil ?_;rintro _ ⟨y,rfl⟩;obtain⟨V,hV⟩:∃V,y.val=V:=⟨_,rfl⟩;have bV:Below W0.heap.size W0 V:=by rw[←hV];exact y.below
  rw[hV];have T1:Hid (TP w V w.heap.size (w.heap.size+1) Z h g o n c l p):=P0.out.below bV;clear R LT AS hV bV y P0;have R:=T1.out.pv.rdE;obtain⟨RY,hRY⟩:∃z,((p.nm 65==0) || (RA && (p.nm 68==0)))=z:=⟨_,rfl⟩;rw[hRY];have ERY:Hid (rdyB l k=RY):=by rw[←hRY,← ERA.out,← HP.out];rfl
  clear hRY;obtain⟨C0,hC0⟩:∃z,(!p.bt 7 && !p.bt 20)=z:=⟨_,rfl⟩;have EC0:Hid ((!p.bt 7 && !p.bt 20)=C0):=hC0;clear hC0;obtain⟨C1,hC1⟩:∃z,(p.bt 20 && p.bt 7)=z:=⟨_,rfl⟩;have EC1:Hid ((p.bt 20 && p.bt 7)=C1):=hC1;clear hC1;obtain⟨C2,hC2⟩:∃z,(RY && !p.bt 9)=z:=⟨_,rfl⟩;have EC2:Hid ((RY && !p.bt 9)=C2):=hC2;clear hC2;obtain⟨C3,hC3⟩:∃z,((RY && p.bt 9) && !p.bt 7)=z:=⟨_,rfl⟩
  have EC3:Hid (((RY && p.bt 9) && !p.bt 7)=C3):=hC3;clear hC3;obtain⟨C4,hC4⟩:∃z,(p.nm 70 != p.nm 43)=z:=⟨_,rfl⟩;have EC4:Hid ((p.nm 70 != p.nm 43)=C4):=hC4;clear hC4;go_upto_region 7 with fail
  refine wp_plain (C:=fun w'=>w'=V) rfl ?_;refine z_b (v:=.pointer (some ⟨Z,0+7,none⟩)) (yq rfl (Rn.qt (qfield rfl rfl fp7))) ?_
  try simp only[Act.put,zA,zB,zC]
  refine z_b (v:=.bool (p.bt 7)) (yq rfl (Rn.qt (qload rfl rfl (R.bit rfl)))) ?_
  try simp only[Act.put,zA,zB,zC]
  refine z_b (v:=.bool (!(p.bt 7))) (yq rfl (Rn.qt (qnot rfl rfl))) ?_
  try simp only[Act.put,zA,zB,zC]
  refine z_b (v:=.bool (!(p.bt 7))) (yq rfl (Rn.qt (qmove rfl rfl))) ?_
  try simp only[Act.put,zA,zB,zC]
  refine z_b (v:=gd (!(p.bt 7)) true (.pointer (some ⟨Z,0+20,none⟩))) (yq1 rfl rfl (fun e=>Rn.qt (qfield rfl rfl fp20))) ?_
  try simp only[Act.put,zA,zB,zC]
  refine z_b (v:=gd (!(p.bt 7)) true (.bool (p.bt 20))) (yq1 rfl rfl (fun e=>Rn.qt (qload rfl (on e rfl) (R.bit rfl)))) ?_
  try simp only[Act.put,zA,zB,zC]
  refine z_b (v:=gd (!(p.bt 7)) true (.bool (!(p.bt 20)))) (yq1 rfl rfl (fun e=>Rn.qt (qnot rfl (on e rfl)))) ?_
  try simp only[Act.put,zA,zB,zC]
  refine z_b (v:=.bool ((!(p.bt 7)) && (!(p.bt 20)))) (yq rfl (Rn.qt (qpick rfl rfl (pkA rfl rfl)))) ?_
  try simp only[Act.put,zA,zB,zC]
  refine z_b (v:=.bool ((!(p.bt 7)) && (!(p.bt 20)))) (yq rfl (Rn.qt (qassign rfl rfl))) ?_
  try simp only[Act.put,zA,zB,zC]
  refine wpQuiet_nil ?_;rintro y_ hy_;rw[hy_];clear hy_ y_;rw[EC0.out];cases C0;rotate_left
  ·have E:OO=some (l.map rerP):=by
    rw[←EO.out,EA.out];unfold orO rotO;simp only;rw[HP.out,ERY.out,if_pos EC0.out]
   have lt_:=T1.out.tre.var.tld;clear R
   go_wp2_with fail
   refine (z_fX h (some ⟨g,o,none⟩) n c l V T1.out.sl hn).mono ?_;rintro _ Y ⟨v,rfl,oy,b3⟩;obtain⟨a3,c3,hv,s3,_⟩:=oy.form;rw[List.length_map,HL.out] at hv s3;subst hv;obtain⟨U,sU,h1,h2,gU⟩:=(T1.out.tre.below b3).tell (y:=.slice a3 n c3) rfl;have G:Hid (RvAt U (w.heap.size+1) 39 (trc h (.slice a3 n c3))∧SlAt U a3 n c3 (OO.getD l)∧Below w.heap.size w U∧OO.isSome=true):=by
    rw[E];exact⟨h1,s3.keptT (T1.out.tre.below b3).out gU,h2,rfl⟩
   clear h1 h2 gU s3 b3 oy lt_;go_wp2
   refine bodyPost_ret (z_d rtT results119 _ _ _ _ rfl G.out.1 (z_c _ _)) rfl ?_;exact⟨a3,c3,by rw[G.out.2.2.2];rfl,G.out.2.1,G.out.2.2.1⟩
  go_upto_region 9 with fail
  refine wp_plain (C:=fun w'=>w'=V) rfl ?_;refine z_b (v:=.pointer (some ⟨Z,0+20,none⟩)) (yq rfl (Rn.qt (qfield rfl rfl fp20))) ?_
  try simp only[Act.put,zA,zB,zC]
  refine z_b (v:=.bool (p.bt 20)) (yq rfl (Rn.qt (qload rfl rfl (R.bit rfl)))) ?_
  try simp only[Act.put,zA,zB,zC]
  refine z_b (v:=.bool (p.bt 20)) (yq rfl (Rn.qt (qmove rfl rfl))) ?_
  try simp only[Act.put,zA,zB,zC]
  refine z_b (v:=gd (p.bt 20) true (.pointer (some ⟨Z,0+7,none⟩))) (yq1 rfl rfl (fun e=>Rn.qt (qfield rfl rfl fp7))) ?_
  try simp only[Act.put,zA,zB,zC]
  refine z_b (v:=gd (p.bt 20) true (.bool (p.bt 7))) (yq1 rfl rfl (fun e=>Rn.qt (qload rfl (on e rfl) (R.bit rfl)))) ?_
  try simp only[Act.put,zA,zB,zC]
  refine z_b (v:=.bool ((p.bt 20) && (p.bt 7))) (yq rfl (Rn.qt (qpick rfl rfl (pkA rfl rfl)))) ?_
  try simp only[Act.put,zA,zB,zC]
  refine z_b (v:=.bool ((p.bt 20) && (p.bt 7))) (yq rfl (Rn.qt (qassign rfl rfl))) ?_
  try simp only[Act.put,zA,zB,zC]
  refine wpQuiet_nil ?_;rintro y_ hy_;rw[hy_];clear hy_ y_;rw[EC1.out];cases C1;rotate_left
  ·have E:OO=some (l.set k (rrdP p)):=by
    rw[←EO.out,EA.out];unfold orO rotO;simp only;rw[HP.out,ERY.out,if_neg (by rw[EC0.out];decide),if_pos EC1.out]
   have S0:=T1.out;clear R;obtain⟨W1,s1,S1⟩:=S0.setB kb20 false;have S1:TP w W1 w.heap.size (w.heap.size+1) Z h g o n c l (rrdP p):=S1;have SW:Hid (TP w _ w.heap.size (w.heap.size+1) Z h g o n c l (rrdP p)):=S1;have lt_:=SW.out.tre.var.tld;have lp_:=SW.out.pv.pld;clear S0 S1
   go_wp2_with fail
   refine (z_o h (some ⟨g,o,none⟩) n c l k (rrdP p) _ SW.out.sl hn hk).mono ?_;rintro _ X ⟨g2,c2,rfl,hg2,s2,b2⟩;obtain⟨U,sU,h1,h2,gU⟩:=(SW.out.tre.below b2).tell (y:=.slice (some ⟨g2,0,none⟩) n c2) rfl;have G:Hid (RvAt U (w.heap.size+1) 39 (trc h (.slice (some ⟨g2,0,none⟩) n c2))∧SlAt U (some ⟨g2,0,none⟩) n c2 (OO.getD l)∧Below w.heap.size w U∧OO.isSome=true):=by
    rw[E];exact⟨h1,s2.keptT (SW.out.tre.below b2).out gU,h2,rfl⟩
   clear h1 h2 gU s2 b2 hg2 lt_ lp_ SW;go_wp2
   refine bodyPost_ret (z_d rtT results119 _ _ _ _ rfl G.out.1 (z_c _ _)) rfl ?_;exact⟨some ⟨g2,0,none⟩,c2,by rw[G.out.2.2.2];rfl,G.out.2.1,G.out.2.2.1⟩
  go_upto_region 11 with fail
  refine wp_plain (C:=fun w'=>w'=V) rfl ?_;refine z_b (v:=.bool RY) (yq rfl (Rn.qt (qmove rfl rfl))) ?_
  try simp only[Act.put,zA,zB,zC]
  refine z_b (v:=.bool RY) (yq rfl (Rn.qt (qmove rfl rfl))) ?_
  try simp only[Act.put,zA,zB,zC]
  refine z_b (v:=gd RY true (.pointer (some ⟨Z,0+9,none⟩))) (yq1 rfl rfl (fun e=>Rn.qt (qfield rfl rfl fp9))) ?_
  try simp only[Act.put,zA,zB,zC]
  refine z_b (v:=gd RY true (.bool (p.bt 9))) (yq1 rfl rfl (fun e=>Rn.qt (qload rfl (on e rfl) (R.bit rfl)))) ?_
  try simp only[Act.put,zA,zB,zC]
  refine z_b (v:=gd RY true (.bool (!(p.bt 9)))) (yq1 rfl rfl (fun e=>Rn.qt (qnot rfl (on e rfl)))) ?_
  try simp only[Act.put,zA,zB,zC]
  refine z_b (v:=.bool (RY && (!(p.bt 9)))) (yq rfl (Rn.qt (qpick rfl rfl (pkA rfl rfl)))) ?_
  try simp only[Act.put,zA,zB,zC]
  refine z_b (v:=.bool (RY && (!(p.bt 9)))) (yq rfl (Rn.qt (qassign rfl rfl))) ?_
  try simp only[Act.put,zA,zB,zC]
  refine wpQuiet_nil ?_;rintro y_ hy_;rw[hy_];clear hy_ y_;rw[EC2.out];cases C2;rotate_left
  ·have E:OO=some (l.set k (lrnP p)):=by
    rw[←EO.out,EA.out];unfold orO rotO;simp only;rw[HP.out,ERY.out,if_neg (by rw[EC0.out];decide),if_neg (by rw[EC1.out];decide),if_pos EC2.out]
   have lp2:=T1.out.pv.pld;clear R
   go_wp2_with fail
   refine (w_b p _).mono ?_;rintro _ X2 ⟨rfl,bx⟩;have S0:=T1.out.below bx;clear bx lp2;obtain⟨W1,s1,S1⟩:=S0.setB kb9 true;obtain⟨W2,s2,S2⟩:=S1.setU ku65 (x:=delayP p) (x_U p);have S2:TP w W2 w.heap.size (w.heap.size+1) Z h g o n c l (lrnP p):=S2;have SW:Hid (TP w _ w.heap.size (w.heap.size+1) Z h g o n c l (lrnP p)):=S2;have lt_:=SW.out.tre.var.tld;have lp_:=SW.out.pv.pld;clear S0 S1 S2
   go_wp2_with fail
   refine (z_o h (some ⟨g,o,none⟩) n c l k (lrnP p) _ SW.out.sl hn hk).mono ?_;rintro _ X ⟨g2,c2,rfl,hg2,s2,b2⟩;obtain⟨U,sU,h1,h2,gU⟩:=(SW.out.tre.below b2).tell (y:=.slice (some ⟨g2,0,none⟩) n c2) rfl;have G:Hid (RvAt U (w.heap.size+1) 39 (trc h (.slice (some ⟨g2,0,none⟩) n c2))∧SlAt U (some ⟨g2,0,none⟩) n c2 (OO.getD l)∧Below w.heap.size w U∧OO.isSome=true):=by
    rw[E];exact⟨h1,s2.keptT (SW.out.tre.below b2).out gU,h2,rfl⟩
   clear h1 h2 gU s2 b2 hg2 lt_ lp_ SW;go_wp2
   refine bodyPost_ret (z_d rtT results119 _ _ _ _ rfl G.out.1 (z_c _ _)) rfl ?_;exact⟨some ⟨g2,0,none⟩,c2,by rw[G.out.2.2.2];rfl,G.out.2.1,G.out.2.2.1⟩
  go_upto_region 13 with fail
  refine wp_plain (C:=fun w'=>w'=V) rfl ?_;refine z_b (v:=.bool RY) (yq rfl (Rn.qt (qmove rfl rfl))) ?_
  try simp only[Act.put,zA,zB,zC]
  refine z_b (v:=.bool RY) (yq rfl (Rn.qt (qmove rfl rfl))) ?_
  try simp only[Act.put,zA,zB,zC]
  refine z_b (v:=gd RY true (.pointer (some ⟨Z,0+9,none⟩))) (yq1 rfl rfl (fun e=>Rn.qt (qfield rfl rfl fp9))) ?_
  try simp only[Act.put,zA,zB,zC]
  refine z_b (v:=gd RY true (.bool (p.bt 9))) (yq1 rfl rfl (fun e=>Rn.qt (qload rfl (on e rfl) (R.bit rfl)))) ?_
  try simp only[Act.put,zA,zB,zC]
  refine z_b (v:=.bool (RY && (p.bt 9))) (yq rfl (Rn.qt (qpick rfl rfl (pkA rfl rfl)))) ?_
  try simp only[Act.put,zA,zB,zC]
  refine z_b (v:=.bool (RY && (p.bt 9))) (yq rfl (Rn.qt (qmove rfl rfl))) ?_
  try simp only[Act.put,zA,zB,zC]
  refine z_b (v:=gd (RY && (p.bt 9)) true (.pointer (some ⟨Z,0+7,none⟩))) (yq1 rfl rfl (fun e=>Rn.qt (qfield rfl rfl fp7))) ?_
  try simp only[Act.put,zA,zB,zC]
  refine z_b (v:=gd (RY && (p.bt 9)) true (.bool (p.bt 7))) (yq1 rfl rfl (fun e=>Rn.qt (qload rfl (on e rfl) (R.bit rfl)))) ?_
  try simp only[Act.put,zA,zB,zC]
  refine z_b (v:=gd (RY && (p.bt 9)) true (.bool (!(p.bt 7)))) (yq1 rfl rfl (fun e=>Rn.qt (qnot rfl (on e rfl)))) ?_
  try simp only[Act.put,zA,zB,zC]
  refine z_b (v:=.bool ((RY && (p.bt 9)) && (!(p.bt 7)))) (yq rfl (Rn.qt (qpick rfl rfl (pkA rfl rfl)))) ?_
  try simp only[Act.put,zA,zB,zC]
  refine z_b (v:=.bool ((RY && (p.bt 9)) && (!(p.bt 7)))) (yq rfl (Rn.qt (qassign rfl rfl))) ?_
  try simp only[Act.put,zA,zB,zC]
  refine wpQuiet_nil ?_;rintro y_ hy_;rw[hy_];clear hy_ y_;rw[EC3.out];cases C3;rotate_left
  ·have E:OO=some (l.set k (fwdP p)):=by
    rw[←EO.out,EA.out];unfold orO rotO;simp only;rw[HP.out,ERY.out,if_neg (by rw[EC0.out];decide),if_neg (by rw[EC1.out];decide),if_neg (by rw[EC2.out];decide),if_pos EC3.out]
   have S0:=T1.out;clear R;obtain⟨W1,s1,S1⟩:=S0.setB kb7 true;obtain⟨W2,s2,S2⟩:=S1.setU ku65 (x:=0) (by omega);have S2:TP w W2 w.heap.size (w.heap.size+1) Z h g o n c l (fwdP p):=S2;have SW:Hid (TP w _ w.heap.size (w.heap.size+1) Z h g o n c l (fwdP p)):=S2;have lt_:=SW.out.tre.var.tld;have lp_:=SW.out.pv.pld;clear S0 S1 S2
   go_wp2_with fail
   refine (z_o h (some ⟨g,o,none⟩) n c l k (fwdP p) _ SW.out.sl hn hk).mono ?_;rintro _ X ⟨g2,c2,rfl,hg2,s2,b2⟩;obtain⟨U,sU,h1,h2,gU⟩:=(SW.out.tre.below b2).tell (y:=.slice (some ⟨g2,0,none⟩) n c2) rfl;have G:Hid (RvAt U (w.heap.size+1) 39 (trc h (.slice (some ⟨g2,0,none⟩) n c2))∧SlAt U (some ⟨g2,0,none⟩) n c2 (OO.getD l)∧Below w.heap.size w U∧OO.isSome=true):=by
    rw[E];exact⟨h1,s2.keptT (SW.out.tre.below b2).out gU,h2,rfl⟩
   clear h1 h2 gU s2 b2 hg2 lt_ lp_ SW;go_wp2
   refine bodyPost_ret (z_d rtT results119 _ _ _ _ rfl G.out.1 (z_c _ _)) rfl ?_;exact⟨some ⟨g2,0,none⟩,c2,by rw[G.out.2.2.2];rfl,G.out.2.1,G.out.2.2.1⟩
  go_upto_region 15 with fail
  refine wp_plain (C:=fun w'=>w'=V) rfl ?_;refine z_b (v:=.pointer (some ⟨Z,0+70,none⟩)) (yq rfl (Rn.qt (qfield rfl rfl fp43))) ?_
  try simp only[Act.put,zA,zB,zC]
  refine z_b (v:=.int .u8 (p.nm 70)) (yq rfl (Rn.qt (qload rfl rfl (R.u8 rfl)))) ?_
  try simp only[Act.put,zA,zB,zC]
  refine z_b (v:=.pointer (some ⟨Z,0+40,none⟩)) (yq rfl (Rn.qt (qfield rfl rfl fp34))) ?_
  try simp only[Act.put,zA,zB,zC]
  refine z_b (v:=.pointer (some ⟨Z,0+40+3,none⟩)) (yq rfl (Rn.qt (qfield rfl rfl ft3))) ?_
  try simp only[Act.put,zA,zB,zC]
  refine z_b (v:=.int .u8 (p.nm 43)) (yq rfl (Rn.qt (qload rfl rfl (R.dt rfl rfl)))) ?_
  try simp only[Act.put,zA,zB,zC]
  refine z_b (v:=.bool ((p.nm 70) != (p.nm 43))) (yq rfl (Rn.qt (qbin rfl rfl rfl (x_a _ _ _ _ _) (u_t _ _)))) ?_
  try simp only[Act.put,zA,zB,zC]
  refine z_b (v:=.bool ((p.nm 70) != (p.nm 43))) (yq rfl (Rn.qt (qassign rfl rfl))) ?_
  try simp only[Act.put,zA,zB,zC]
  refine wpQuiet_nil ?_;rintro y_ hy_;rw[hy_];clear hy_ y_;rw[EC4.out];cases C4;rotate_left
  ·have E:OO=some (l.set k (rcnP p)):=by
    rw[←EO.out,EA.out];unfold orO rotO;simp only;rw[HP.out,ERY.out,if_neg (by rw[EC0.out];decide),if_neg (by rw[EC1.out];decide),if_neg (by rw[EC2.out];decide),if_neg (by rw[EC3.out];decide),if_pos EC4.out]
   have S0:=T1.out;clear R;have l43:=S0.pv.pnum (j:=43) (k:=.u8) rfl;obtain⟨W1,s1,S1⟩:=S0.setU ku70 (x:=p.nm 43) (p.u8 rfl);have S1:TP w W1 w.heap.size (w.heap.size+1) Z h g o n c l (rcnP p):=S1;have SW:Hid (TP w _ w.heap.size (w.heap.size+1) Z h g o n c l (rcnP p)):=S1;have lt_:=SW.out.tre.var.tld;have lp_:=SW.out.pv.pld;clear S0 S1
   go_wp2_with fail
   refine (z_o h (some ⟨g,o,none⟩) n c l k (rcnP p) _ SW.out.sl hn hk).mono ?_;rintro _ X ⟨g2,c2,rfl,hg2,s2,b2⟩;obtain⟨U,sU,h1,h2,gU⟩:=(SW.out.tre.below b2).tell (y:=.slice (some ⟨g2,0,none⟩) n c2) rfl;have G:Hid (RvAt U (w.heap.size+1) 39 (trc h (.slice (some ⟨g2,0,none⟩) n c2))∧SlAt U (some ⟨g2,0,none⟩) n c2 (OO.getD l)∧Below w.heap.size w U∧OO.isSome=true):=by
    rw[E];exact⟨h1,s2.keptT (SW.out.tre.below b2).out gU,h2,rfl⟩
   clear h1 h2 gU s2 b2 hg2 lt_ lp_ SW;go_wp2
   refine bodyPost_ret (z_d rtT results119 _ _ _ _ rfl G.out.1 (z_c _ _)) rfl ?_;exact⟨some ⟨g2,0,none⟩,c2,by rw[G.out.2.2.2];rfl,G.out.2.1,G.out.2.2.1⟩
  have E:OO=none:=by
   rw[←EO.out,EA.out];unfold orO rotO;simp only;rw[HP.out,ERY.out,if_neg (by rw[EC0.out];decide),if_neg (by rw[EC1.out];decide),if_neg (by rw[EC2.out];decide),if_neg (by rw[EC3.out];decide),if_neg (by rw[EC4.out];decide)]
  have lt_:=(T1.out).tre.var.tld;obtain⟨U,sU,h1,h2,gU⟩:=(T1.out).tre.tell (y:=.slice (some ⟨g,o,none⟩) n c) rfl;have G:Hid (RvAt U (w.heap.size+1) 39 (trc h (.slice (some ⟨g,o,none⟩) n c))∧SlAt U (some ⟨g,o,none⟩) n c (OO.getD l)∧Below w.heap.size w U∧OO.isSome=false):=by
   rw[E];exact⟨h1,(T1.out).sl.keptT (T1.out).tre.out gU,h2,rfl⟩
  clear h1 h2 gU E R;go_wp2
  refine bodyPost_ret (z_d rtT results119 _ _ _ _ rfl G.out.1 (z_c _ _)) rfl ?_;exact⟨some ⟨g,o,none⟩,c,by rw[G.out.2.2.2];rfl,G.out.2.1,G.out.2.2.1⟩
end S13
end
section
namespace S13
open Go.RowKit
def altO (l:List Pt) (k:Nat):Option (List Pt):=
 if looB (gtP l k) 43=true then some (l.set k (blkP (gtP l k))) else if bckB (gtP l k)=true then some (l.set k (bkuP (gtP l k))) else none
attribute [local go_sem ↓] ldP stP stB stU stW ldT stT
attribute [local go_sem ↓] alP
attribute [local go_sem] z_l
theorem z_gg (h:Hd) (g o n c:Nat) (l:List Pt) (k:Nat) (w:World) (hs:SlAt w (some ⟨g,o,none⟩) n c l) (hn:n≤1000) (hk:k<n) :
  Calls prog 121 #[.agg (trc h (.slice (some ⟨g,o,none⟩) n c)),.int .i64 (k:Int)] w fun r w'=>∃a' c',r=.returned (.tuple #[.agg (trc h (.slice a' n c')),.bool (orO (agrO l k) (altO l k)).isSome])∧SlAt w' a' n c' ((orO (agrO l k) (altO l k)).getD l)∧Below w.heap.size w w':=by
 obtain⟨OO,hOO⟩:∃z,orO (agrO l k) (altO l k)=z:=⟨_,rfl⟩;rw[hOO];have EO:Hid (orO (agrO l k) (altO l k)=OO):=hOO;clear hOO;have HL:Hid (l.length=n):=hs.len;have hkl:k<l.length:=by rw[HL.out];exact hk
 have hin0:(0:Int)≤(k:Int):=by omega
 have hin1:(k:Int)<(n:Int):=by omega
 obtain⟨W,hW,r0,r1,bW,zW⟩:=z_w w h (.slice (some ⟨g,o,none⟩) n c);have l0:=r0.tld;have c16:=r0.t16;have H:Hid (TS w W w.heap.size (w.heap.size+1) h (.slice (some ⟨g,o,none⟩) n c)∧SlAt W (some ⟨g,o,none⟩) n c l∧W.heap.size=w.heap.size+2):=⟨⟨r0,r1,bW,by omega⟩,hs.below bW,zW⟩;have GL:Hid (g<w.heap.size):=hs.low (by omega);have HS:Hid (SlAt w (some ⟨g,o,none⟩) n c l):=hs
 obtain⟨p,hp⟩:∃p,gtP l k=p:=⟨_,rfl⟩;have HP:Hid (gtP l k=p):=hp;obtain⟨AO,hAO⟩:∃z,agrO l k=z:=⟨_,rfl⟩;have EA:Hid (agrO l k=AO):=hAO;clear hs r0 r1 bW zW hp hAO c16;go_enter func121,ntmps121
 go_wp2_with fail
 refine (y_G h g o n c l k W H.out.2.1 hn hk).mono ?_;rw[EA.out];rintro _ X ⟨a1,c1,rfl,s1,b1⟩;obtain⟨V1,t1,rV1,bV1,zV1⟩:=z_bB X h (.slice a1 n c1) rfl
 have T0:Hid (TS w V1 w.heap.size (w.heap.size+1) h (.slice (some ⟨g,o,none⟩) n c)∧SlAt V1 (some ⟨g,o,none⟩) n c l∧SlAt V1 a1 n c1 (AO.getD l)∧RvAt V1 X.heap.size 39 (trc h (.slice a1 n c1))∧w.heap.size≤V1.heap.size):=⟨(H.out.1.below b1).below bV1,(H.out.2.1.below b1).below bV1,s1.below bV1,rV1,by have:=H.out.2.2;have:=b1.size;have:=bV1.size;omega⟩;clear s1 b1 rV1 bV1 zV1 l0;cases AO with
 | some m=>
  have E:OO=some m:=by rw[←EO.out,EA.out];rfl
  have lu:=T0.out.2.2.2.1.tld;obtain⟨U,sU,h1,h2,gU⟩:=T0.out.1.tell (y:=.slice a1 n c1) rfl;have G:Hid (RvAt U (w.heap.size+1) 39 (trc h (.slice a1 n c1))∧SlAt U a1 n c1 (OO.getD l)∧Below w.heap.size w U∧OO.isSome=true):=by
   rw[E];exact⟨h1,T0.out.2.2.1.keptT T0.out.1.out gU,h2,rfl⟩
  clear h1 h2 gU E;simp only[Option.isSome_some];go_wp2
  refine bodyPost_ret (z_d rtT results121 _ _ _ _ rfl G.out.1 (z_c _ _)) rfl ?_;exact⟨a1,c1,by rw[G.out.2.2.2];rfl,G.out.2.1,G.out.2.2.1⟩
 | none=>
  have c16:=T0.out.1.var.t16;have lp:=T0.out.2.1.ld (z_k hkl);rw[HP.out] at lp;obtain⟨W0,s0,r0,b0,z0⟩:=y_b V1 p;obtain⟨Z,hZ⟩:∃Z,V1.heap.size=Z:=⟨_,rfl⟩;rw[hZ] at s0 r0;have P0:Hid (TP w W0 w.heap.size (w.heap.size+1) Z h g o n c l p):=⟨T0.out.1.below b0,T0.out.2.1.below b0,r0,by have:=T0.out.2.2.2.2;omega,GL.out⟩;clear r0 b0 z0;simp only[Option.isSome_none];have lq:=P0.out.pv.pld
  have l43:=P0.out.pv.pnum (j:=43) (k:=.u8) rfl;obtain⟨C0,hC0⟩:∃z,((p.nm 65 != p.nm 43) || askP p)=z:=⟨_,rfl⟩;have EC0:Hid (looB p 43=C0):=hC0;obtain⟨C1,hC1⟩:∃z,((p.nm 30==2) && (p.nm 68 != twN (p.nm 42)))=z:=⟨_,rfl⟩;have EC1:Hid (bckB p=C1):=hC1;have HC1:Hid (((p.nm 30==2) && (p.nm 68 != twN (p.nm 42)))=C1):=hC1
  go_wp2_with fail
  refine (z_bp p (p.nm 43) W0).mono ?_;rw[hC0];rintro _ X2 ⟨rfl,bx⟩;have T1:Hid (TP w X2 w.heap.size (w.heap.size+1) Z h g o n c l p):=P0.out.below bx;clear bx lq l43 hC0 hC1 t1 c16 lp s0 hZ P0;cases C0;rotate_left
  ·have E:OO=some (l.set k (rstP p (p.nm 43) 6 wi6)):=by
    rw[←EO.out,EA.out];unfold orO altO;simp only;rw[HP.out,if_pos EC0.out,z_ft]
   have ft:=fun x:Later X2=>(T1.out.below x.below).tre.var.tld;have fp:=fun x:Later X2=>(T1.out.below x.below).pv.pld;have f43:=fun x:Later X2=>(T1.out.below x.below).pv.pnum (j:=43) (k:=.u8) rfl;have P1:Hid (∀x:Later X2,_):=fun x:Later X2=>w_w p (p.nm 43) 6 x.val (p.u8 rfl) wi6;go_upto_region 6 with fail
   refine wp_region_later_tail 7 (by kernel_rfl) (by kernel_rfl) ?_;simp only[List.take_succ_cons,List.take_zero]
   repeat (go_big_quiet_step (first|exact rfl | (go_at_call 117;with_reducible exact Calls.later_of (P1.out _))))
   refine wpQuiet_nil ?_;intro z;simp only[List.drop_succ_cons,List.drop_zero];have TZ:Hid (TP w z.val w.heap.size (w.heap.size+1) Z h g o n c l p):=T1.out.below z.below;clear ft fp f43 P1
   go_wp2_with fail
   refine (z_o h (some ⟨g,o,none⟩) n c l k (rstP p (p.nm 43) 6 wi6) _ TZ.out.sl hn hk).mono ?_;rintro _ Y ⟨g2,c2,rfl,hg2,s2,b2⟩;obtain⟨U,sU,h1,h2,gU⟩:=(TZ.out.tre.below b2).tell (y:=.slice (some ⟨g2,0,none⟩) n c2) rfl;have G:Hid (RvAt U (w.heap.size+1) 39 (trc h (.slice (some ⟨g2,0,none⟩) n c2))∧SlAt U (some ⟨g2,0,none⟩) n c2 (OO.getD l)∧Below w.heap.size w U∧OO.isSome=true):=by
    rw[E];exact⟨h1,s2.keptT (TZ.out.tre.below b2).out gU,h2,rfl⟩
   clear h1 h2 gU s2 b2 hg2 TZ;go_wp2
   refine bodyPost_ret (z_d rtT results121 _ _ _ _ rfl G.out.1 (z_c _ _)) rfl ?_;exact⟨some ⟨g2,0,none⟩,c2,by rw[G.out.2.2.2];rfl,G.out.2.1,G.out.2.2.1⟩
  have R:=T1.out.pv.rdL;have N42:0≤p.nm 42∧p.nm 42≤255:=p.u8 rfl;go_upto_region 7 with fail
  refine wp_region_later (by kernel_rfl) (by kernel_rfl) ?_;refine z_b (v:=.pointer (some ⟨Z,0+30,none⟩)) (yq rfl (Rn.qt (qfield rfl rfl fp30))) ?_
  try simp only[Act.put,zA,zB,zC]
  refine z_b (v:=.int .i64 (p.nm 30)) (yq rfl (Rn.qt (qload rfl rfl (R.role rfl)))) ?_
  try simp only[Act.put,zA,zB,zC]
  refine z_b (v:=.bool ((p.nm 30)==2)) (yq rfl (Rn.qt (qbin rfl rfl rfl (w_n _ _ _ _ _) (u_G _ _)))) ?_
  try simp only[Act.put,zA,zB,zC]
  refine z_b (v:=.bool ((p.nm 30)==2)) (yq rfl (Rn.qt (qmove rfl rfl))) ?_
  try simp only[Act.put,zA,zB,zC]
  refine z_b (v:=gd ((p.nm 30)==2) true (.pointer (some ⟨Z,0+68,none⟩))) (yq1 rfl rfl (fun e=>Rn.qt (qfield rfl rfl fp41))) ?_
  try simp only[Act.put,zA,zB,zC]
  refine z_b (v:=gd ((p.nm 30)==2) true (.int .u8 (p.nm 68))) (yq1 rfl rfl (fun e=>Rn.qt (qload rfl (on e rfl) (R.u8 rfl)))) ?_
  try simp only[Act.put,zA,zB,zC]
  refine z_b (v:=gd ((p.nm 30)==2) true (.pointer (some ⟨Z,0+40,none⟩))) (yq1 rfl rfl (fun e=>Rn.qt (qfield rfl rfl fp34))) ?_
  try simp only[Act.put,zA,zB,zC]
  refine z_b (v:=gd ((p.nm 30)==2) true (.pointer (some ⟨Z,0+40+2,none⟩))) (yq1 rfl rfl (fun e=>Rn.qt (qfield rfl (on e rfl) ft2))) ?_
  try simp only[Act.put,zA,zB,zC]
  refine z_b (v:=gd ((p.nm 30)==2) true (.int .u8 (p.nm 42))) (yq1 rfl rfl (fun e=>Rn.qt (qload rfl (on e rfl) (R.dt rfl rfl)))) ?_
  try simp only[Act.put,zA,zB,zC]
  refine z_b (v:=gd ((p.nm 30)==2) true (.int .u8 (twN (p.nm 42)))) (yq1 rfl rfl (fun e=>u_Y rfl (on e rfl) (fun V=>by go_simp) (fun w hw=>by obtain⟨x,rfl⟩:=hw;exact Calls.later_of (z_dn (p.nm 42) x.val N42)))) ?_
  try simp only[Act.put,zA,zB,zC]
  refine z_b (v:=gd ((p.nm 30)==2) true (.bool ((p.nm 68) != (twN (p.nm 42))))) (yq1 rfl rfl (fun e=>Rn.qt (qbin rfl (on e rfl) (on e rfl) (x_a _ _ _ _ _) (u_t _ _)))) ?_
  try simp only[Act.put,zA,zB,zC]
  refine z_b (v:=.bool (((p.nm 30)==2) && ((p.nm 68) != (twN (p.nm 42))))) (yq rfl (Rn.qt (qpick rfl rfl (pkA rfl rfl)))) ?_
  try simp only[Act.put,zA,zB,zC]
  refine wpQuiet_nil ?_;rintro _ ⟨y,rfl⟩;obtain⟨V,hV⟩:∃V,y.val=V:=⟨_,rfl⟩;have bV:Below X2.heap.size X2 V:=by rw[←hV];exact y.below
  rw[hV];have T2:Hid (TP w V w.heap.size (w.heap.size+1) Z h g o n c l p):=T1.out.below bV;clear R hV bV y T1;rw[HC1.out];cases C1
  ·have E:OO=none:=by
    rw[←EO.out,EA.out];unfold orO altO;simp only;rw[HP.out,if_neg (by rw[EC0.out];decide),if_neg (by rw[EC1.out];decide)]
   have lt_:=(T2.out).tre.var.tld;obtain⟨U,sU,h1,h2,gU⟩:=(T2.out).tre.tell (y:=.slice (some ⟨g,o,none⟩) n c) rfl;have G:Hid (RvAt U (w.heap.size+1) 39 (trc h (.slice (some ⟨g,o,none⟩) n c))∧SlAt U (some ⟨g,o,none⟩) n c (OO.getD l)∧Below w.heap.size w U∧OO.isSome=false):=by
    rw[E];exact⟨h1,(T2.out).sl.keptT (T2.out).tre.out gU,h2,rfl⟩
   clear h1 h2 gU E;go_wp2
   refine bodyPost_ret (z_d rtT results121 _ _ _ _ rfl G.out.1 (z_c _ _)) rfl ?_;exact⟨some ⟨g,o,none⟩,c,by rw[G.out.2.2.2];rfl,G.out.2.1,G.out.2.2.1⟩
  ·have E:OO=some (l.set k (bkuP p)):=by
    rw[←EO.out,EA.out];unfold orO altO;simp only;rw[HP.out,if_neg (by rw[EC0.out];decide),if_pos EC1.out]
   have l42:=T2.out.pv.pnum (j:=42) (k:=.u8) rfl
   go_wp2_with fail
   refine (z_dn (p.nm 42) _ N42).mono ?_;rintro _ X3 ⟨rfl,bx⟩;have S0:=T2.out.below bx;obtain⟨W1,s1,S1⟩:=S0.setU ku68 (x:=twN (p.nm 42)) (z_hV N42);have S1:TP w W1 w.heap.size (w.heap.size+1) Z h g o n c l (bkuP p):=S1;clear l42;have SW:Hid (TP w _ w.heap.size (w.heap.size+1) Z h g o n c l (bkuP p)):=S1;have lt_:=SW.out.tre.var.tld;have lp_:=SW.out.pv.pld;clear S0 S1 bx
   go_wp2_with fail
   refine (z_o h (some ⟨g,o,none⟩) n c l k (bkuP p) _ SW.out.sl hn hk).mono ?_;rintro _ X ⟨g2,c2,rfl,hg2,s2,b2⟩;obtain⟨U,sU,h1,h2,gU⟩:=(SW.out.tre.below b2).tell (y:=.slice (some ⟨g2,0,none⟩) n c2) rfl;have G:Hid (RvAt U (w.heap.size+1) 39 (trc h (.slice (some ⟨g2,0,none⟩) n c2))∧SlAt U (some ⟨g2,0,none⟩) n c2 (OO.getD l)∧Below w.heap.size w U∧OO.isSome=true):=by
    rw[E];exact⟨h1,s2.keptT (SW.out.tre.below b2).out gU,h2,rfl⟩
   clear h1 h2 gU s2 b2 hg2 lt_ lp_ SW;go_wp2
   refine bodyPost_ret (z_d rtT results121 _ _ _ _ rfl G.out.1 (z_c _ _)) rfl ?_;exact⟨some ⟨g2,0,none⟩,c2,by rw[G.out.2.2.2];rfl,G.out.2.1,G.out.2.2.1⟩
end S13
end
end Go.Proofs.YtlchejbggnbccaaGreat
