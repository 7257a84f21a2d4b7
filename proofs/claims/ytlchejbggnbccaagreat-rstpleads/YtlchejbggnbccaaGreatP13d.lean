/-
  All rules of a port: the walks of rulesOfState and rules. And what follows from it here.
-/
import Derived.Test.YtlchejbggnbccaaGreatPbb
import Derived.Test.YtlchejbggnbccaaGreatP13c
import Derived.Test.YtlchejbggnbccaaGreatP13b
namespace Go.Proofs.YtlchejbggnbccaaGreat
set_option linter.unusedVariables false
set_option linter.unusedSimpArgs false
set_option maxRecDepth 4000
set_option maxHeartbeats 40000000
open _root_.Go.Proofs.Tryz
section
namespace S13
open Go.RowKit
def stR (l:List Pt) (k:Nat):List (Bool×Nat):=
 if (gtP l k).nm 73=1 then [(stopB (gtP l k),241)] else if (gtP l k).nm 73=2 then [(looB (gtP l k) 41,241)] else if (gtP l k).nm 73=3 then rootR l k else if (gtP l k).nm 73=4 then dsgR (gtP l k) else if (gtP l k).nm 73=5 then [(stopB (gtP l k),245)] else if (gtP l k).nm 73=6 then altR l k else []
theorem z_cY (l:List Pt) (k:Nat):(stR l k).length≤7:=by
 unfold stR rootR dsgR altR
 (repeat' split)<;>simp
def begB (p:Pt):Bool:=decide (1≤p.nm 73) && decide (p.nm 73≤6)
def rz (G:Bool) (r:List (Bool×Nat)):List (Bool×Nat):=match G with | true=>[] | false=>r
def rulL (l:List Pt) (k:Nat):List (Bool×Nat):=
 if (begB (gtP l k) && (!(gtP l k).bt 22 || (gtP l k).bt 28))=true then [] else [(!begB (gtP l k),205),((gtP l k).nm 31 != (gtP l k).nm 30,206)]++stR l k
attribute [local go_sem ↓] ldT bsRE apRE
theorem z_kM {W:World} {b g o n c k:Nat} {h:Hd} {l:List Pt} (s:CS W b h g o n c k l) :
  Calls prog 207 #[.pointer (some ⟨b,0,none⟩)] W fun r W'=>∃v,r=.returned v∧OwnR W' W.heap.size v b (stR l k)∧Below W.heap.size W W':=by
 have H:=hd1 s;have f73:∀V,Below W.heap.size W V→V.cell? ⟨g,o+k*77+73,none⟩=some (.int .i64 ((gtP l k).nm 73)):=fun V hV=>(H.out.below hV).cell ((gtP l k).num (j:=73) (k:=.i64) rfl);obtain⟨q,hq⟩:∃q,o+k*77=q:=⟨_,rfl⟩;rw[hq] at f73;obtain⟨N,hN⟩:∃N,(gtP l k).nm 73=N:=⟨_,rfl⟩;rw[hN] at f73;clear s;by_cases h1:N=1
 ·have E:stR l k=[(stopB (gtP l k),241)]:=by
   unfold stR;rw[hN,h1];rfl
  rw[E];subst h1;clear E hN;go_enter func207,ntmps207
  go_wp2_with fail
  refine (z_v H.out).mono ?_;rintro _ V ⟨rfl,b1⟩;rw[hq];have B:=hd1 b1;have c73:=f73 V b1;clear b1 f73 hq
  go_wp2_with fail
  refine (v_c (H.out.below B.out) 241).mono ?_;rintro _ V2 ⟨v,rfl,o2,b2⟩;have F:=hd2 (o2.base B.out.size) (z_a B.out b2);clear o2 b2;go_wp2
  go_ret;exact⟨_,rfl,F.out.1,F.out.2⟩
 by_cases h2:N=2
 ·have E:stR l k=[(looB (gtP l k) 41,241)]:=by
   unfold stR;rw[hN,h2];rfl
  rw[E];subst h2;clear E hN;go_enter func207,ntmps207
  go_wp2_with fail
  refine (z_v H.out).mono ?_;rintro _ V ⟨rfl,b1⟩;rw[hq];have B:=hd1 b1;have c73:=f73 V b1;clear b1 f73 hq
  go_wp2_with fail
  refine (z_cA (H.out.below B.out)).mono ?_;rintro _ V2 ⟨v,rfl,o2,b2⟩;have F:=hd2 (o2.base B.out.size) (z_a B.out b2);clear o2 b2;go_wp2
  go_ret;exact⟨_,rfl,F.out.1,F.out.2⟩
 by_cases h3:N=3
 ·have E:stR l k=rootR l k:=by
   unfold stR;rw[hN,h3];rfl
  rw[E];subst h3;clear E hN;go_enter func207,ntmps207
  go_wp2_with fail
  refine (z_v H.out).mono ?_;rintro _ V ⟨rfl,b1⟩;rw[hq];have B:=hd1 b1;have c73:=f73 V b1;clear b1 f73 hq
  go_wp2_with fail
  refine (z_bX (H.out.below B.out)).mono ?_;rintro _ V2 ⟨v,rfl,o2,b2⟩;have F:=hd2 (o2.base B.out.size) (z_a B.out b2);clear o2 b2;go_wp2
  go_ret;exact⟨_,rfl,F.out.1,F.out.2⟩
 by_cases h4:N=4
 ·have E:stR l k=dsgR (gtP l k):=by
   unfold stR;rw[hN,h4];rfl
  rw[E];subst h4;clear E hN;go_enter func207,ntmps207
  go_wp2_with fail
  refine (z_v H.out).mono ?_;rintro _ V ⟨rfl,b1⟩;rw[hq];have B:=hd1 b1;have c73:=f73 V b1;clear b1 f73 hq
  go_wp2_with fail
  refine (z_cz (H.out.below B.out)).mono ?_;rintro _ V2 ⟨v,rfl,o2,b2⟩;have F:=hd2 (o2.base B.out.size) (z_a B.out b2);clear o2 b2;go_wp2
  go_ret;exact⟨_,rfl,F.out.1,F.out.2⟩
 by_cases h5:N=5
 ·have E:stR l k=[(stopB (gtP l k),245)]:=by
   unfold stR;rw[hN,h5];rfl
  rw[E];subst h5;clear E hN;go_enter func207,ntmps207
  go_wp2_with fail
  refine (z_v H.out).mono ?_;rintro _ V ⟨rfl,b1⟩;rw[hq];have B:=hd1 b1;have c73:=f73 V b1;clear b1 f73 hq
  go_wp2_with fail
  refine (v_c (H.out.below B.out) 245).mono ?_;rintro _ V2 ⟨v,rfl,o2,b2⟩;have F:=hd2 (o2.base B.out.size) (z_a B.out b2);clear o2 b2;go_wp2
  go_ret;exact⟨_,rfl,F.out.1,F.out.2⟩
 by_cases h6:N=6
 ·have E:stR l k=altR l k:=by
   unfold stR;rw[hN,h6];rfl
  rw[E];subst h6;clear E hN;go_enter func207,ntmps207
  go_wp2_with fail
  refine (z_v H.out).mono ?_;rintro _ V ⟨rfl,b1⟩;rw[hq];have B:=hd1 b1;have c73:=f73 V b1;clear b1 f73 hq
  go_wp2_with fail
  refine (z_cB (H.out.below B.out)).mono ?_;rintro _ V2 ⟨v,rfl,o2,b2⟩;have F:=hd2 (o2.base B.out.size) (z_a B.out b2);clear o2 b2;go_wp2
  go_ret;exact⟨_,rfl,F.out.1,F.out.2⟩
 have E:stR l k=[]:=by
  unfold stR;rw[hN,if_neg h1,if_neg h2,if_neg h3,if_neg h4,if_neg h5,if_neg h6]
 rw[E];clear E hN;have x1:(N==1)=false:=by simpa using h1
 have x2:(N==2)=false:=by simpa using h2
 have x3:(N==3)=false:=by simpa using h3
 have x4:(N==4)=false:=by simpa using h4
 have x5:(N==5)=false:=by simpa using h5
 have x6:(N==6)=false:=by simpa using h6
 go_enter func207,ntmps207
 go_wp2_with fail
 refine (z_v H.out).mono ?_;rintro _ V ⟨rfl,b1⟩;rw[hq];have B:=hd1 b1;have c73:=f73 V b1;clear b1 f73 hq;go_wp2
 go_ret;exact⟨_,rfl,OwnR.nil _ _ _,B.out⟩
theorem z_dl {W:World} {b g o n c k:Nat} {h:Hd} {l:List Pt} (s:CS W b h g o n c k l) :
  Calls prog 166 #[.pointer (some ⟨b,0,none⟩)] W fun r W'=>∃v,r=.returned v∧OwnR W' W.heap.size v b (rulL l k)∧Below W.heap.size W W':=by
 obtain⟨SR,hSR⟩:∃z,stR l k=z:=⟨_,rfl⟩;have HS:Hid (∀V,CS V b h g o n c k l→Calls prog 207 #[.pointer (some ⟨b,0,none⟩)] V fun r W'=>∃v,r=.returned v∧OwnR W' V.heap.size v b SR∧Below V.heap.size V W'):=fun V hV=>by rw[←hSR];exact z_kM hV
 have LS:Hid (SR.length≤7):=by rw[←hSR];exact z_cY l k
 unfold rulL;rw[hSR];clear hSR;obtain⟨GG,hGG0⟩:∃z,(begB (gtP l k) && (!(gtP l k).bt 22 || (gtP l k).bt 28))=z:=⟨_,rfl⟩;rw[hGG0];obtain⟨BG,hBG0⟩:∃z,begB (gtP l k)=z:=⟨_,rfl⟩;rw[hBG0] at hGG0 ⊢;have PST:Hid ((if GG=true then [] else [(!BG,205),((gtP l k).nm 31 != (gtP l k).nm 30,206)]++SR)=rz GG ([(!BG,205),((gtP l k).nm 31 != (gtP l k).nm 30,206)]++SR)):=by cases GG<;>rfl
 rw[PST.out];clear PST;have H:Hid (CS W b h g o n c k l):=s;obtain⟨p,hp⟩:∃p,gtP l k=p:=⟨_,rfl⟩;rw[hp] at hGG0 hBG0 ⊢;have R0:∀V,Below W.heap.size W V→Prd (fun w'=>∃x:Later V,w'=x.val) g (o+k*77) p:=fun V hV=>by rw[←hp];exact (H.out.below hV).rd
 obtain⟨q,hq⟩:∃q,o+k*77=q:=⟨_,rfl⟩;rw[hq] at R0;clear s hp;go_enter func166,ntmps166
 go_wp2_with fail
 refine (z_v H.out).mono ?_;rintro _ V ⟨rfl,b1⟩;rw[hq];have B:Hid (Below W.heap.size W V):=b1;clear b1 hq;have R:=R0 V B.out;go_upto_region 2 with fail
 refine wp_plain (C:=fun w'=>∃x:Later V,w'=x.val) ⟨⟨_,Below.refl _ _⟩,rfl⟩ ?_;refine z_b (v:=.pointer (some ⟨g,q,none⟩)) (yq rfl (Rn.qt (qmove rfl rfl))) ?_
 try simp only[Act.put,zA,zB,zC]
 refine z_b (v:=.pointer (some ⟨g,q,none⟩)) (yq rfl (Rn.qt (qnil rfl rfl))) ?_
 try simp only[Act.put,zA,zB,zC]
 refine z_b (v:=.pointer (some ⟨g,q+73,none⟩)) (yq rfl (Rn.qt (qfield rfl rfl fp46))) ?_
 try simp only[Act.put,zA,zB,zC]
 refine z_b (v:=.int .i64 (p.nm 73)) (yq rfl (Rn.qt (qload rfl rfl (R.state rfl)))) ?_
 try simp only[Act.put,zA,zB,zC]
 refine z_b (v:=.bool (decide (1≤(p.nm 73)))) (yq rfl (Rn.qt (qbin rfl rfl rfl (w_U _ _ _ _ _) (z_bF _ _)))) ?_
 try simp only[Act.put,zA,zB,zC]
 refine z_b (v:=.bool (decide (1≤(p.nm 73)))) (yq rfl (Rn.qt (qmove rfl rfl))) ?_
 try simp only[Act.put,zA,zB,zC]
 refine z_b (v:=gd (decide (1≤(p.nm 73))) true (.pointer (some ⟨g,q,none⟩))) (yq1 rfl rfl (fun e=>Rn.qt (qmove rfl rfl))) ?_
 try simp only[Act.put,zA,zB,zC]
 refine z_b (v:=gd (decide (1≤(p.nm 73))) true (.pointer (some ⟨g,q,none⟩))) (yq1 rfl rfl (fun e=>Rn.qt (qnil rfl (on e rfl)))) ?_
 try simp only[Act.put,zA,zB,zC]
 refine z_b (v:=gd (decide (1≤(p.nm 73))) true (.pointer (some ⟨g,q+73,none⟩))) (yq1 rfl rfl (fun e=>Rn.qt (qfield rfl (on e rfl) fp46))) ?_
 try simp only[Act.put,zA,zB,zC]
 refine z_b (v:=gd (decide (1≤(p.nm 73))) true (.int .i64 (p.nm 73))) (yq1 rfl rfl (fun e=>Rn.qt (qload rfl (on e rfl) (R.state rfl)))) ?_
 try simp only[Act.put,zA,zB,zC]
 refine z_b (v:=gd (decide (1≤(p.nm 73))) true (.bool (decide ((p.nm 73)≤6)))) (yq1 rfl rfl (fun e=>Rn.qt (qbin rfl (on e rfl) rfl (w_U _ _ _ _ _) (z_bF _ _)))) ?_
 try simp only[Act.put,zA,zB,zC]
 refine z_b (v:=.bool ((decide (1≤(p.nm 73))) && (decide ((p.nm 73)≤6)))) (yq rfl (Rn.qt (qpick rfl rfl (pkA rfl rfl)))) ?_
 try simp only[Act.put,zA,zB,zC]
 refine z_b (v:=.bool ((decide (1≤(p.nm 73))) && (decide ((p.nm 73)≤6)))) (yq rfl (Rn.qt (qassign rfl rfl))) ?_
 try simp only[Act.put,zA,zB,zC]
 refine wpQuiet_nil ?_;rintro _ ⟨y,rfl⟩;obtain⟨U,hU⟩:∃U,y.val=U:=⟨_,rfl⟩;have bU:Below V.heap.size V U:=by rw[←hU];exact y.below
 rw[hU];have B2:Hid (Below W.heap.size W U):=z_a B.out bU;clear R hU bU y;have R:=R0 U B2.out;unfold begB at hBG0;rw[hBG0];clear hBG0;go_upto_region 3 with fail
 refine wp_plain (C:=fun w'=>∃x:Later U,w'=x.val) ⟨⟨_,Below.refl _ _⟩,rfl⟩ ?_;refine z_b (v:=.bool BG) (yq rfl (Rn.qt (qmove rfl rfl))) ?_
 try simp only[Act.put,zA,zB,zC]
 refine z_b (v:=.bool BG) (yq rfl (Rn.qt (qmove rfl rfl))) ?_
 try simp only[Act.put,zA,zB,zC]
 refine z_b (v:=gd BG true (.pointer (some ⟨g,q,none⟩))) (yq1 rfl rfl (fun e=>Rn.qt (qmove rfl rfl))) ?_
 try simp only[Act.put,zA,zB,zC]
 refine z_b (v:=gd BG true (.pointer (some ⟨g,q,none⟩))) (yq1 rfl rfl (fun e=>Rn.qt (qnil rfl (on e rfl)))) ?_
 try simp only[Act.put,zA,zB,zC]
 refine z_b (v:=gd BG true (.pointer (some ⟨g,q+22,none⟩))) (yq1 rfl rfl (fun e=>Rn.qt (qfield rfl (on e rfl) fp22))) ?_
 try simp only[Act.put,zA,zB,zC]
 refine z_b (v:=gd BG true (.bool (p.bt 22))) (yq1 rfl rfl (fun e=>Rn.qt (qload rfl (on e rfl) (R.bit rfl)))) ?_
 try simp only[Act.put,zA,zB,zC]
 refine z_b (v:=gd BG true (.bool (!(p.bt 22)))) (yq1 rfl rfl (fun e=>Rn.qt (qnot rfl (on e rfl)))) ?_
 try simp only[Act.put,zA,zB,zC]
 refine z_b (v:=gd BG true (.bool (!(p.bt 22)))) (yq1 rfl rfl (fun e=>Rn.qt (qmove rfl (on e rfl)))) ?_
 try simp only[Act.put,zA,zB,zC]
 refine z_b (v:=gd BG true (gd (!(p.bt 22)) false (.pointer (some ⟨g,q,none⟩)))) (yq2 rfl rfl (fun e1 e2=>Rn.qt (qmove rfl rfl))) ?_
 try simp only[Act.put,zA,zB,zC]
 refine z_b (v:=gd BG true (gd (!(p.bt 22)) false (.pointer (some ⟨g,q,none⟩)))) (yq2 rfl rfl (fun e1 e2=>Rn.qt (qnil rfl (on e2 (on e1 rfl))))) ?_
 try simp only[Act.put,zA,zB,zC]
 refine z_b (v:=gd BG true (gd (!(p.bt 22)) false (.pointer (some ⟨g,q+28,none⟩)))) (yq2 rfl rfl (fun e1 e2=>Rn.qt (qfield rfl (on e2 (on e1 rfl)) fp28))) ?_
 try simp only[Act.put,zA,zB,zC]
 refine z_b (v:=gd BG true (gd (!(p.bt 22)) false (.bool (p.bt 28)))) (yq2 rfl rfl (fun e1 e2=>Rn.qt (qload rfl (on e2 (on e1 rfl)) (R.bit rfl)))) ?_
 try simp only[Act.put,zA,zB,zC]
 refine z_b (v:=gd BG true (.bool ((!(p.bt 22)) || (p.bt 28)))) (yq1 rfl rfl (fun e=>Rn.qt (qpick rfl (on e rfl) (pkO rfl (on e rfl))))) ?_
 try simp only[Act.put,zA,zB,zC]
 refine z_b (v:=.bool (BG && ((!(p.bt 22)) || (p.bt 28)))) (yq rfl (Rn.qt (qpick rfl rfl (pkA rfl rfl)))) ?_
 try simp only[Act.put,zA,zB,zC]
 refine wpQuiet_nil ?_;rintro _ ⟨y,rfl⟩;obtain⟨U3,hU⟩:∃U,y.val=U:=⟨_,rfl⟩;have bU:Below U.heap.size U U3:=by rw[←hU];exact y.below
 rw[hU];have B3:Hid (Below W.heap.size W U3):=z_a B2.out bU;clear R hU bU y;have R:=R0 U3 B3.out;clear R0;rw[hGG0];clear hGG0;cases GG;rotate_left
 ·go_wp2
  go_ret;exact⟨_,rfl,OwnR.nil _ _ _,B3.out⟩
 go_upto_region 5 with fail
 refine wp_region_later_tail 17 (by kernel_rfl) (by kernel_rfl) ?_;simp only[List.take_succ_cons,List.take_zero];refine z_b (v:=.bool BG) (yq rfl (Rn.qt (qmove rfl rfl))) ?_
 try simp only[Act.put,zA,zB,zC]
 refine z_b (v:=.bool (!BG)) (yq rfl (Rn.qt (qnot rfl rfl))) ?_
 try simp only[Act.put,zA,zB,zC]
 refine z_b (v:=.pointer (some ⟨b,0,none⟩)) (yq rfl (Rn.qt (qmove rfl rfl))) ?_
 try simp only[Act.put,zA,zB,zC]
 refine z_b (v:=.func (.func 205) #[.pointer (some ⟨b,0,none⟩)] #[]) (yq rfl (Rn.qt (qfn rfl rfl))) ?_
 try simp only[Act.put,zA,zB,zC]
 refine z_b (v:=.agg #[.bool (!BG),.func (.func 205) #[.pointer (some ⟨b,0,none⟩)] #[]]) (yq rfl (Rn.qt (qrule rfl rfl rfl))) ?_
 try simp only[Act.put,zA,zB,zC]
 refine z_b (v:=.pointer (some ⟨g,q,none⟩)) (yq rfl (Rn.qt (qmove rfl rfl))) ?_
 try simp only[Act.put,zA,zB,zC]
 refine z_b (v:=.pointer (some ⟨g,q,none⟩)) (yq rfl (Rn.qt (qnil rfl rfl))) ?_
 try simp only[Act.put,zA,zB,zC]
 refine z_b (v:=.pointer (some ⟨g,q+31,none⟩)) (yq rfl (Rn.qt (qfield rfl rfl fp31))) ?_
 try simp only[Act.put,zA,zB,zC]
 refine z_b (v:=.int .i64 (p.nm 31)) (yq rfl (Rn.qt (qload rfl rfl (R.role rfl)))) ?_
 try simp only[Act.put,zA,zB,zC]
 refine z_b (v:=.pointer (some ⟨g,q,none⟩)) (yq rfl (Rn.qt (qmove rfl rfl))) ?_
 try simp only[Act.put,zA,zB,zC]
 refine z_b (v:=.pointer (some ⟨g,q,none⟩)) (yq rfl (Rn.qt (qnil rfl rfl))) ?_
 try simp only[Act.put,zA,zB,zC]
 refine z_b (v:=.pointer (some ⟨g,q+30,none⟩)) (yq rfl (Rn.qt (qfield rfl rfl fp30))) ?_
 try simp only[Act.put,zA,zB,zC]
 refine z_b (v:=.int .i64 (p.nm 30)) (yq rfl (Rn.qt (qload rfl rfl (R.role rfl)))) ?_
 try simp only[Act.put,zA,zB,zC]
 refine z_b (v:=.bool ((p.nm 31) != (p.nm 30))) (yq rfl (Rn.qt (qbin rfl rfl rfl (w_n _ _ _ _ _) (z_eu _ _)))) ?_
 try simp only[Act.put,zA,zB,zC]
 refine z_b (v:=.pointer (some ⟨b,0,none⟩)) (yq rfl (Rn.qt (qmove rfl rfl))) ?_
 try simp only[Act.put,zA,zB,zC]
 refine z_b (v:=.func (.func 206) #[.pointer (some ⟨b,0,none⟩)] #[]) (yq rfl (Rn.qt (qfn rfl rfl))) ?_
 try simp only[Act.put,zA,zB,zC]
 refine z_b (v:=.agg #[.bool ((p.nm 31) != (p.nm 30)),.func (.func 206) #[.pointer (some ⟨b,0,none⟩)] #[]]) (yq rfl (Rn.qt (qrule rfl rfl rfl))) ?_
 try simp only[Act.put,zA,zB,zC]
 refine wpQuiet_nil ?_;intro z;simp only[List.drop_succ_cons,List.drop_zero];have sb:=bsR2 b (!BG) (p.nm 31 != p.nm 30) 205 206 z.val;obtain⟨Y,hY⟩:∃Y,z.val.alloc (.cells (rcs b [(!BG,205),(p.nm 31 != p.nm 30,206)]).toArray 186)=Y:=⟨_,rfl⟩;rw[hY] at sb
 have F:Hid (OwnR Y W.heap.size (.slice (some ⟨z.val.heap.size,0,none⟩) 2 2) b [(!BG,205),(p.nm 31 != p.nm 30,206)]∧Below W.heap.size W Y∧W.heap.size≤z.val.heap.size∧z.val.heap.size<Y.heap.size):=by
  have b2:=z_a B3.out z.below;rw[←hY];exact⟨(OwnR.new z.val b _ (by simp)).base b2.size,b2.trans ((Below.refl _ _).alloc b2.size _),b2.size,by simp⟩
 obtain⟨x,hx⟩:∃x,z.val.heap.size=x:=⟨_,rfl⟩;rw[hx] at sb F;clear hY R
 go_wp2_with fail
 refine (HS.out Y (H.out.below F.out.2.1)).mono ?_;rintro _ Z ⟨v,rfl,o2,b2⟩;obtain⟨a2,c2,rfl,r2,h2⟩:=o2.form;obtain⟨v',X,ap,oX,gX⟩:=(F.out.1.below b2).app r2 (by have:=LS.out;simp;omega) (Nat.le_trans F.out.2.1.size b2.size) 183;obtain⟨m,hm⟩:∃m,SR.length=m:=⟨_,rfl⟩;rw[hm] at ap;have G:Hid (OwnR X W.heap.size v' b ([(!BG,205),(p.nm 31 != p.nm 30,206)]++SR)∧Below W.heap.size W X):=
  ⟨oX,(z_a F.out.2.1 b2).trans (z_h gX (Nat.le_trans F.out.2.1.size b2.size) (fun j e=>by cases e;exact F.out.2.2.1))⟩
 rw[hm];clear o2 b2 r2 h2 oX gX sb hx;go_wp2
 go_ret;exact⟨_,rfl,G.out.1,G.out.2⟩
end S13
end
section
namespace S13
open Go.RowKit
theorem kb7:kdP[7]?=some none:=rfl
theorem kb9:kdP[9]?=some none:=rfl
theorem kn30:kdP[30]?=some (some .i64):=rfl
theorem kn73:kdP[73]?=some (some .i64):=rfl
theorem ku65:kdP[65]?=some (some .u8):=rfl
theorem ku68:kdP[68]?=some (some .u8):=rfl
theorem ku70:kdP[70]?=some (some .u8):=rfl
theorem wi5:(Lit.int .i64 5).wf=true:=by decide
theorem wi6:(Lit.int .i64 6).wf=true:=by decide
def restP (p:Pt):Pt:=(((p.setB 25 kb25 true).setB 24 kb24 false).setB 20 kb20 false).setU 70 0
def disP (p:Pt):Pt:=((restP p).setU 65 ((restP p).nm 41)).setN 73 kn73 2 wi2
def blkP (p:Pt):Pt:=((restP p).setU 65 ((restP p).nm 43)).setN 73 kn73 6 wi6
def becDis (p:Pt):Pt:=((p.setB 9 kb9 false).setB 7 kb7 false).setN 73 kn73 1 wi1
def becRoot (p:Pt):Pt:=(p.setU 70 (p.nm 43)).setN 73 kn73 3 wi3
def becDsg (p:Pt):Pt:=p.setN 73 kn73 4 wi4
def becBlk (p:Pt):Pt:=((p.setB 9 kb9 false).setB 7 kb7 false).setN 73 kn73 5 wi5
def takP (p:Pt):Pt:=p.setN 30 kn30 (p.nm 31) (p.nwf kn31)
def rolP (p:Pt):Pt:=if p.nm 31=0 then becDis (takP p) else if p.nm 31=3 then becRoot (takP p) else if p.nm 31=4 then becDsg (takP p) else becBlk (takP p)
def begA (p:Pt):Pt:=((((((p.setN 30 kn30 0 wi0).setN 73 kn73 1 wi1).setB 9 kb9 false).setB 7 kb7 false).setB 25 kb25 false).setB 24 kb24 true).setB 20 kb20 true
def begP (p:Pt):Pt:=(((begA p).setU 70 ((begA p).nm 43)).setU 65 ((begA p).nm 41)).setU 68 0
def agrP (p:Pt):Pt:=((p.setB 12 kb12 false).setB 3 kb3 true).setB 11 kb11 true
def agrRP (p:Pt):Pt:=agrP (p.setB 24 kb24 false)
def rrdP (p:Pt):Pt:=p.setB 20 kb20 false
def lrnP (p:Pt):Pt:=(p.setB 9 kb9 true).setU 65 (delayP p)
def fwdP (p:Pt):Pt:=(p.setB 7 kb7 true).setU 65 0
def fwdDP (p:Pt):Pt:=(fwdP p).setB 4 kb4 ((fwdP p).bt 23)
def rcnP (p:Pt):Pt:=p.setU 70 (p.nm 43)
def prsP (p:Pt):Pt:=(p.setB 13 kb13 true).setB 11 kb11 true
def synP (p:Pt):Pt:=((p.setU 70 0).setB 25 kb25 true).setB 24 kb24 false
def stpA (p:Pt):Pt:=((p.setB 9 kb9 false).setB 7 kb7 false).setB 5 kb5 false
def stpP (p:Pt):Pt:=(stpA p).setU 65 (delayP (stpA p))
def bkuP (p:Pt):Pt:=p.setU 68 (twN (p.nm 42))
def prdP (p:Pt):Pt:=p.setB 12 kb12 false
theorem x_U (p:Pt):0≤delayP p∧delayP p≤255:=by
 unfold delayP
 split
 ·exact p.u8 rfl
 ·exact p.u8 rfl
structure DP (w W:World) (b:Nat) (h:Hd) (g c n k Q:Nat) (l:List Pt) (p:Pt):Prop where
 var:RvAt W b 182 (chc h (.slice (some ⟨g,0,none⟩) n c) k)
 pat:PAt W g c (l.set k p)
 len:l.length=n
 bel:Below w.heap.size w W
 hb:w.heap.size≤b
 hg:w.heap.size≤g
 ne:g≠b
 hk:k<n
 hn:n≤1000
 hQ:Q=k*77
theorem DP.at' {w W:World} {b g c n k Q:Nat} {h:Hd} {l:List Pt} {p:Pt} (s:DP w W b h g c n k Q l p):(l.set k p)[k]?=some p:=by
 rw[List.getElem?_set,if_pos rfl,if_pos (by rw[s.len];exact s.hk)]
theorem DP.gt {w W:World} {b g c n k Q:Nat} {h:Hd} {l:List Pt} {p:Pt} (s:DP w W b h g c n k Q l p):gtP (l.set k p) k=p:=u_C (by rw[s.len];exact s.hk)
theorem DP.cs {w W:World} {b g c n k Q:Nat} {h:Hd} {l:List Pt} {p:Pt} (s:DP w W b h g c n k Q l p):CS W b h g 0 n c k (l.set k p):=⟨s.var,by have:=s.pat.sl;rw[List.length_set,s.len] at this;exact this,s.hk,s.hn⟩
theorem DP.below {w W V:World} {b g c n k Q:Nat} {h:Hd} {l:List Pt} {p:Pt} (s:DP w W b h g c n k Q l p) (e:Below W.heap.size W V):DP w V b h g c n k Q l p:=⟨s.var.below e,s.pat.below e,s.len,z_a s.bel e,s.hb,s.hg,s.ne,s.hk,s.hn,s.hQ⟩
theorem DP.go {w W V:World} {b g c n k Q:Nat} {h:Hd} {l:List Pt} {p q:Pt} (s:DP w W b h g c n k Q l p) (hp:PAt V g c ((l.set k p).set k q)) (e:W.grownBy V (some g)):DP w V b h g c n k Q l q:=
 ⟨s.var.keptBut e (by have:=s.ne;simpa using this.symm),by rw[List.set_set] at hp;exact hp,s.len,gro s.bel e s.hg s.bel.size,s.hb,s.hg,s.ne,s.hk,s.hn,s.hQ⟩
theorem DP.setB {w W:World} {b g c n k Q j:Nat} {h:Hd} {l:List Pt} {p:Pt} (s:DP w W b h g c n k Q l p) (hk:kdP[j]?=some none) (x:Bool):∃V,(stS 4 (.pointer (some ⟨g,Q+j,none⟩)) (.bool x)).run prog W=.ok () V∧DP w V b h g c n k Q l (p.setB j hk x):=by
 obtain⟨V,e,h1,g1⟩:=s.pat.st1 (q:=Q+j) (v:=.bool x) s.at' u_z.1 (by rw[←lenP];exact (List.getElem?_eq_some_iff.1 hk).1) rfl (y_x hk) (by rw[s.hQ]);exact⟨V,e,s.go h1 g1⟩
theorem DP.setU {w W:World} {b g c n k Q j:Nat} {h:Hd} {l:List Pt} {p:Pt} (s:DP w W b h g c n k Q l p) (hk:kdP[j]?=some (some .u8)) {x:Int} (hx:0≤x∧x≤255):∃V,(stS 5 (.pointer (some ⟨g,Q+j,none⟩)) (.int .u8 x)).run prog W=.ok () V∧DP w V b h g c n k Q l (p.setU j x):=by
 obtain⟨V,e,h1,g1⟩:=s.pat.st1 (q:=Q+j) (v:=.int .u8 x) s.at' u_z.2 (by rw[←lenP];exact (List.getElem?_eq_some_iff.1 hk).1) rfl (z_z hk (wf8 hx)) (by rw[s.hQ]);rw[p.setU_is hk (wf8 hx)];exact⟨V,e,s.go h1 g1⟩
theorem DP.setN {w W:World} {b g c n k Q j:Nat} {h:Hd} {l:List Pt} {p:Pt} (s:DP w W b h g c n k Q l p) {t:TypeId} (ht:(prog.info? t).map (·.size)=some 1) (hk:kdP[j]?=some (some .i64)) {x:Int} (hx:(Lit.int .i64 x).wf=true):∃V,(stS t (.pointer (some ⟨g,Q+j,none⟩)) (.int .i64 x)).run prog W=.ok () V∧DP w V b h g c n k Q l (p.setN j hk x hx):=by
 obtain⟨V,e,h1,g1⟩:=s.pat.st1 (q:=Q+j) (v:=.int .i64 x) s.at' ht (by rw[←lenP];exact (List.getElem?_eq_some_iff.1 hk).1) rfl (z_z hk hx) (by rw[s.hQ]);exact⟨V,e,s.go h1 g1⟩
theorem DP.num {w W:World} {b g c n k Q j:Nat} {h:Hd} {l:List Pt} {p:Pt} {q:IntKind} (s:DP w W b h g c n k Q l p) (hk:kdP[j]?=some (some q)):W.cell? ⟨g,Q+j,none⟩=some (.int q (p.nm j)):=s.pat.num s.at' hk (by rw[s.hQ])
theorem DP.bit {w W:World} {b g c n k Q j:Nat} {h:Hd} {l:List Pt} {p:Pt} (s:DP w W b h g c n k Q l p) (hk:kdP[j]?=some none):W.cell? ⟨g,Q+j,none⟩=some (.bool (p.bt j)):=s.pat.bit s.at' hk (by rw[s.hQ])
theorem DP.ld {w W:World} {b g c n k Q:Nat} {h:Hd} {l:List Pt} {p:Pt} (s:DP w W b h g c n k Q l p):(ldS 74 (.pointer (some ⟨g,Q,none⟩))).run prog W=.ok (.agg p.cs) W:=s.pat.ld s.at' s.hQ
theorem z_s {w W:World} {b g c n k Q:Nat} {h:Hd} {l:List Pt} {p:Pt} (s:DP w W b h g c n k Q l p) :
  Calls prog 204 #[.pointer (some ⟨b,0,none⟩)] W fun r W'=>r=.returned (.pointer (some ⟨g,Q,none⟩))∧DP w W' b h g c n k Q l p:=
 (z_v s.cs).mono fun r W' ⟨hr,hB⟩=>⟨by rw[hr,s.hQ,Nat.zero_add],s.below hB⟩
def y_z (F:Nat) (f:Pt→Pt):Prop:=∀(w W:World) (b:Nat) (h:Hd) (g c n k Q:Nat) (l:List Pt) (p:Pt),DP w W b h g c n k Q l p →
 Calls prog F #[.pointer (some ⟨b,0,none⟩)] W fun r W'=>r=.returned (.tuple #[])∧DP w W' b h g c n k Q l (f p)
end S13
end
section
namespace S13
open Go.RowKit
attribute [local go_sem ↓] ldP stP stB stU st49 stW ldT stT
theorem z_aZ:y_z 237 becDis:=by
 intro w W b h g c n k Q l p D0;have S0:=hd1 D0;clear D0;go_enter func237,ntmps237
 go_wp2_with fail
 refine (z_s S0.out).mono ?_;rintro _ V1 ⟨rfl,D1⟩;have S1:=hd1 D1;clear D1;have D1:=S1.out;obtain⟨V2,s2,D2⟩:=D1.setB kb9 false;obtain⟨V3,s3,D3⟩:=D2.setB kb7 false;obtain⟨V4,s4,D4⟩:=D3.setN infoS kn73 (x:=1) wi1;have S4:=hd1 D4;clear D1 D2 D3 D4;go_wp2
 go_end0
 exact⟨rfl,S4.out⟩
theorem z_an:y_z 238 becRoot:=by
 intro w W b h g c n k Q l p D0;have S0:=hd1 D0;clear D0;go_enter func238,ntmps238
 go_wp2_with fail
 refine (z_s S0.out).mono ?_;rintro _ V1 ⟨rfl,D1⟩;have S1:=hd1 D1;clear D1;have D1:=S1.out;have l43_1:=D1.num (q:=.u8) (j:=43) rfl;obtain⟨V2,s2,D2⟩:=D1.setU ku70 (x:=p.nm 43) (p.u8 rfl);obtain⟨V3,s3,D3⟩:=D2.setN infoS kn73 (x:=3) wi3;have S3:=hd1 D3;clear D1 D2 D3;go_wp2
 go_end0
 exact⟨rfl,S3.out⟩
theorem z_aY:y_z 239 becDsg:=by
 intro w W b h g c n k Q l p D0;have S0:=hd1 D0;clear D0;go_enter func239,ntmps239
 go_wp2_with fail
 refine (z_s S0.out).mono ?_;rintro _ V1 ⟨rfl,D1⟩;have S1:=hd1 D1;clear D1;have D1:=S1.out;obtain⟨V2,s2,D2⟩:=D1.setN infoS kn73 (x:=4) wi4;have S2:=hd1 D2;clear D1 D2;go_wp2
 go_end0
 exact⟨rfl,S2.out⟩
theorem z_ba:y_z 236 becBlk:=by
 intro w W b h g c n k Q l p D0;have S0:=hd1 D0;clear D0;go_enter func236,ntmps236
 go_wp2_with fail
 refine (z_s S0.out).mono ?_;rintro _ V1 ⟨rfl,D1⟩;have S1:=hd1 D1;clear D1;have D1:=S1.out;obtain⟨V2,s2,D2⟩:=D1.setB kb9 false;obtain⟨V3,s3,D3⟩:=D2.setB kb7 false;obtain⟨V4,s4,D4⟩:=D3.setN infoS kn73 (x:=5) wi5;have S4:=hd1 D4;clear D1 D2 D3 D4;go_wp2
 go_end0
 exact⟨rfl,S4.out⟩
theorem v_P:y_z 261 restP:=by
 intro w W b h g c n k Q l p D0;have S0:=hd1 D0;clear D0;go_enter func261,ntmps261
 go_wp2_with fail
 refine (z_s S0.out).mono ?_;rintro _ V1 ⟨rfl,D1⟩;have S1:=hd1 D1;clear D1;have D1:=S1.out;obtain⟨V2,s2,D2⟩:=D1.setB kb25 true;obtain⟨V3,s3,D3⟩:=D2.setB kb24 false;obtain⟨V4,s4,D4⟩:=D3.setB kb20 false;obtain⟨V5,s5,D5⟩:=D4.setU ku70 (x:=0) (by omega);have S5:=hd1 D5;clear D1 D2 D3 D4 D5;go_wp2
 go_end0
 exact⟨rfl,S5.out⟩
theorem z_fc:y_z 241 disP:=by
 intro w W b h g c n k Q l p D0;have S0:=hd1 D0;clear D0;go_enter func241,ntmps241
 go_wp2_with fail
 refine (z_s S0.out).mono ?_;rintro _ V1 ⟨rfl,D1⟩;have S1:=hd1 D1;clear D1
 go_wp2_with fail
 refine (v_P w _ b h g c n k Q l _ S1.out).mono ?_;rintro _ V2 ⟨rfl,D2⟩;have S2:=hd1 D2;clear D2;have D2:=S2.out;have l41_2:=D2.num (q:=.u8) (j:=41) rfl;obtain⟨V3,s3,D3⟩:=D2.setU ku65 (x:=(restP p).nm 41) ((restP p).u8 rfl);obtain⟨V4,s4,D4⟩:=D3.setN infoS kn73 (x:=2) wi2;have S4:=hd1 D4;clear D2 D3 D4;go_wp2
 go_end0
 exact⟨rfl,S4.out⟩
theorem z_fu:y_z 245 blkP:=by
 intro w W b h g c n k Q l p D0;have S0:=hd1 D0;clear D0;go_enter func245,ntmps245
 go_wp2_with fail
 refine (z_s S0.out).mono ?_;rintro _ V1 ⟨rfl,D1⟩;have S1:=hd1 D1;clear D1
 go_wp2_with fail
 refine (v_P w _ b h g c n k Q l _ S1.out).mono ?_;rintro _ V2 ⟨rfl,D2⟩;have S2:=hd1 D2;clear D2;have D2:=S2.out;have l43_2:=D2.num (q:=.u8) (j:=43) rfl;obtain⟨V3,s3,D3⟩:=D2.setU ku65 (x:=(restP p).nm 43) ((restP p).u8 rfl);obtain⟨V4,s4,D4⟩:=D3.setN infoS kn73 (x:=6) wi6;have S4:=hd1 D4;clear D2 D3 D4;go_wp2
 go_end0
 exact⟨rfl,S4.out⟩
theorem z_ap:y_z 276 agrP:=by
 intro w W b h g c n k Q l p D0;have S0:=hd1 D0;clear D0;go_enter func276,ntmps276
 go_wp2_with fail
 refine (z_s S0.out).mono ?_;rintro _ V1 ⟨rfl,D1⟩;have S1:=hd1 D1;clear D1;have D1:=S1.out;obtain⟨V2,s2,D2⟩:=D1.setB kb12 false;obtain⟨V3,s3,D3⟩:=D2.setB kb3 true;obtain⟨V4,s4,D4⟩:=D3.setB kb11 true;have S4:=hd1 D4;clear D1 D2 D3 D4;go_wp2
 go_end0
 exact⟨rfl,S4.out⟩
theorem z_cw:y_z 265 agrRP:=by
 intro w W b h g c n k Q l p D0;have S0:=hd1 D0;clear D0;go_enter func265,ntmps265
 go_wp2_with fail
 refine (z_s S0.out).mono ?_;rintro _ V1 ⟨rfl,D1⟩;have S1:=hd1 D1;clear D1;have D1:=S1.out;obtain⟨V2,s2,D2⟩:=D1.setB kb24 false;have S2:=hd1 D2;clear D1 D2
 go_wp2_with fail
 refine (z_ap w _ b h g c n k Q l _ S2.out).mono ?_;rintro _ V3 ⟨rfl,D3⟩;have S3:=hd1 D3;clear D3;go_wp2
 go_end0
 exact⟨rfl,S3.out⟩
theorem z_dv:y_z 267 rrdP:=by
 intro w W b h g c n k Q l p D0;have S0:=hd1 D0;clear D0;go_enter func267,ntmps267
 go_wp2_with fail
 refine (z_s S0.out).mono ?_;rintro _ V1 ⟨rfl,D1⟩;have S1:=hd1 D1;clear D1;have D1:=S1.out;obtain⟨V2,s2,D2⟩:=D1.setB kb20 false;have S2:=hd1 D2;clear D1 D2;go_wp2
 go_end0
 exact⟨rfl,S2.out⟩
theorem z_ev:y_z 268 lrnP:=by
 intro w W b h g c n k Q l p D0;have S0:=hd1 D0;clear D0;go_enter func268,ntmps268
 go_wp2_with fail
 refine (z_s S0.out).mono ?_;rintro _ V1 ⟨rfl,D1⟩;have S1:=hd1 D1;clear D1;have ld1:=S1.out.ld
 go_wp2_with fail
 refine (z_ah p _).mono ?_;rintro _ V2 ⟨rfl,b2⟩;have S2:=hd1 (S1.out.below b2);clear b2 ld1;have D2:=S2.out;obtain⟨V3,s3,D3⟩:=D2.setB kb9 true;obtain⟨V4,s4,D4⟩:=D3.setU ku65 (x:=delayP p) (x_U _);have S4:=hd1 D4;clear D2 D3 D4;go_wp2
 go_end0
 exact⟨rfl,S4.out⟩
theorem z_ae:y_z 269 fwdP:=by
 intro w W b h g c n k Q l p D0;have S0:=hd1 D0;clear D0;go_enter func269,ntmps269
 go_wp2_with fail
 refine (z_s S0.out).mono ?_;rintro _ V1 ⟨rfl,D1⟩;have S1:=hd1 D1;clear D1;have D1:=S1.out;obtain⟨V2,s2,D2⟩:=D1.setB kb7 true;obtain⟨V3,s3,D3⟩:=D2.setU ku65 (x:=0) (by omega);have S3:=hd1 D3;clear D1 D2 D3;go_wp2
 go_end0
 exact⟨rfl,S3.out⟩
theorem z_cp:y_z 275 fwdDP:=by
 intro w W b h g c n k Q l p D0;have S0:=hd1 D0;clear D0;go_enter func275,ntmps275
 go_wp2_with fail
 refine (z_ae w _ b h g c n k Q l _ S0.out).mono ?_;rintro _ V1 ⟨rfl,D1⟩;have S1:=hd1 D1;clear D1
 go_wp2_with fail
 refine (z_s S1.out).mono ?_;rintro _ V2 ⟨rfl,D2⟩;have S2:=hd1 D2;clear D2;have D2:=S2.out;have l23_2:=D2.bit (j:=23) rfl;obtain⟨V3,s3,D3⟩:=D2.setB kb4 ((fwdP p).bt 23);have S3:=hd1 D3;clear D2 D3;go_wp2
 go_end0
 exact⟨rfl,S3.out⟩
theorem z_dA:y_z 270 rcnP:=by
 intro w W b h g c n k Q l p D0;have S0:=hd1 D0;clear D0;go_enter func270,ntmps270
 go_wp2_with fail
 refine (z_s S0.out).mono ?_;rintro _ V1 ⟨rfl,D1⟩;have S1:=hd1 D1;clear D1;have D1:=S1.out;have l43_1:=D1.num (q:=.u8) (j:=43) rfl;obtain⟨V2,s2,D2⟩:=D1.setU ku70 (x:=p.nm 43) (p.u8 rfl);have S2:=hd1 D2;clear D1 D2;go_wp2
 go_end0
 exact⟨rfl,S2.out⟩
theorem z_ee:y_z 272 prsP:=by
 intro w W b h g c n k Q l p D0;have S0:=hd1 D0;clear D0;go_enter func272,ntmps272
 go_wp2_with fail
 refine (z_s S0.out).mono ?_;rintro _ V1 ⟨rfl,D1⟩;have S1:=hd1 D1;clear D1;have D1:=S1.out;obtain⟨V2,s2,D2⟩:=D1.setB kb13 true;obtain⟨V3,s3,D3⟩:=D2.setB kb11 true;have S3:=hd1 D3;clear D1 D2 D3;go_wp2
 go_end0
 exact⟨rfl,S3.out⟩
theorem z_cQ:y_z 273 synP:=by
 intro w W b h g c n k Q l p D0;have S0:=hd1 D0;clear D0;go_enter func273,ntmps273
 go_wp2_with fail
 refine (z_s S0.out).mono ?_;rintro _ V1 ⟨rfl,D1⟩;have S1:=hd1 D1;clear D1;have D1:=S1.out;obtain⟨V2,s2,D2⟩:=D1.setU ku70 (x:=0) (by omega);obtain⟨V3,s3,D3⟩:=D2.setB kb25 true;obtain⟨V4,s4,D4⟩:=D3.setB kb24 false;have S4:=hd1 D4;clear D1 D2 D3 D4;go_wp2
 go_end0
 exact⟨rfl,S4.out⟩
theorem z_cT:y_z 274 stpP:=by
 intro w W b h g c n k Q l p D0;have S0:=hd1 D0;clear D0;go_enter func274,ntmps274
 go_wp2_with fail
 refine (z_s S0.out).mono ?_;rintro _ V1 ⟨rfl,D1⟩;have S1:=hd1 D1;clear D1;have D1:=S1.out;obtain⟨V2,s2,D2⟩:=D1.setB kb9 false;obtain⟨V3,s3,D3⟩:=D2.setB kb7 false;obtain⟨V4,s4,D4⟩:=D3.setB kb5 false;have S4:=hd1 D4;clear D1 D2 D3 D4;have ld4:=S4.out.ld
 go_wp2_with fail
 refine (z_ah (((p.setB 9 kb9 false).setB 7 kb7 false).setB 5 kb5 false) _).mono ?_;rintro _ V5 ⟨rfl,b5⟩;have S5:=hd1 (S4.out.below b5);clear b5 ld4;have D5:=S5.out;obtain⟨V6,s6,D6⟩:=D5.setU ku65 (x:=delayP (((p.setB 9 kb9 false).setB 7 kb7 false).setB 5 kb5 false)) (x_U _);have S6:=hd1 D6;clear D5 D6;go_wp2
 go_end0
 exact⟨rfl,S6.out⟩
theorem z_fv:y_z 278 bkuP:=by
 intro w W b h g c n k Q l p D0;have S0:=hd1 D0;clear D0;go_enter func278,ntmps278
 go_wp2_with fail
 refine (z_s S0.out).mono ?_;rintro _ V1 ⟨rfl,D1⟩;have S1:=hd1 D1;clear D1;have c42:=S1.out.num (j:=42) (q:=.u8) rfl
 go_wp2_with fail
 refine (z_hU (p.nm 42) _ (p.u8 rfl)).mono ?_;rintro _ V2 ⟨rfl,b2⟩;have S2:=hd1 (S1.out.below b2);clear b2 c42;have D2:=S2.out;obtain⟨V3,s3,D3⟩:=D2.setU ku68 (x:=twN (p.nm 42)) (z_hV (p.u8 rfl));have S3:=hd1 D3;clear D2 D3;go_wp2
 go_end0
 exact⟨rfl,S3.out⟩
end S13
end
section
namespace S13
open Go.RowKit
abbrev z_dP:Oper:={ dst:=none,op:=Op.store 5 (Operand.tmp 40) (Operand.tmp 33),type:=0,pos:= "deeds.go:13",after:=#[{ on:=14,ground:=Ground.data },{ on:=7,ground:=Ground.data },{ on:=0,ground:=Ground.phase },{ on:=1,ground:=Ground.textOnly Departure.lateStores },{ on:=2,ground:=Ground.textOnly Departure.lateStores },{ on:=3,ground:=Ground.phase },{ on:=4,ground:=Ground.phase },{ on:=5,ground:=Ground.phase },{ on:=6,ground:=Ground.phase },{ on:=7,ground:=Ground.phase },{ on:=8,ground:=Ground.textOnly Departure.lateStores },{ on:=9,ground:=Ground.textOnly Departure.lateStoresUnsure },{ on:=10,ground:=Ground.textOnly Departure.lateStoresUnsure },{ on:=11,ground:=Ground.textOnly Departure.lateStoresUnsure },{ on:=12,ground:=Ground.phase }],guard:=none }
abbrev z_dM:Oper:={ dst:=none,op:=Op.store 5 (Operand.tmp 42) (Operand.tmp 38),type:=0,pos:= "deeds.go:13",after:=#[{ on:=17,ground:=Ground.data },{ on:=12,ground:=Ground.data },{ on:=15,ground:=Ground.chain },{ on:=0,ground:=Ground.phase },{ on:=1,ground:=Ground.phase },{ on:=2,ground:=Ground.textOnly Departure.lateStores },{ on:=3,ground:=Ground.phase },{ on:=4,ground:=Ground.phase },{ on:=5,ground:=Ground.phase },{ on:=6,ground:=Ground.phase },{ on:=7,ground:=Ground.phase },{ on:=8,ground:=Ground.phase },{ on:=9,ground:=Ground.phase },{ on:=10,ground:=Ground.phase },{ on:=11,ground:=Ground.phase },{ on:=12,ground:=Ground.phase },{ on:=13,ground:=Ground.phase },{ on:=14,ground:=Ground.phase },{ on:=15,ground:=Ground.phase }],guard:=none }
abbrev z_dJ:Oper:={ dst:=none,op:=Op.store 5 (Operand.tmp 44) (Operand.const (Value.int IntKind.u8 0)),type:=0,pos:= "deeds.go:13",after:=#[{ on:=20,ground:=Ground.data },{ on:=18,ground:=Ground.chain },{ on:=0,ground:=Ground.phase },{ on:=1,ground:=Ground.phase },{ on:=2,ground:=Ground.phase },{ on:=3,ground:=Ground.phase },{ on:=4,ground:=Ground.phase },{ on:=5,ground:=Ground.phase },{ on:=6,ground:=Ground.phase },{ on:=7,ground:=Ground.phase },{ on:=8,ground:=Ground.phase },{ on:=9,ground:=Ground.phase },{ on:=10,ground:=Ground.phase },{ on:=11,ground:=Ground.phase },{ on:=12,ground:=Ground.phase },{ on:=13,ground:=Ground.phase },{ on:=14,ground:=Ground.phase },{ on:=15,ground:=Ground.phase },{ on:=16,ground:=Ground.phase },{ on:=17,ground:=Ground.phase },{ on:=18,ground:=Ground.phase }],guard:=none }
attribute [local go_sem ↓] ldP stP stB stU st49 stW ldT stT
theorem z_dx:y_z 206 rolP:=by
 intro w W b h g c n k Q l p D0;have S0:=hd1 D0;clear D0;obtain⟨N,hN⟩:∃N,p.nm 31=N:=⟨_,rfl⟩;have tk30:(takP p).nm 30=N:=by rw[←hN];exact p.nset (z_z kn30 (p.nwf kn31)) (by decide)
 by_cases h0:N=0
 ·have E:rolP p=becDis (takP p):=by
   unfold rolP;rw[hN,h0];rfl
  rw[E];have E31:Hid (p.nm 31=0):=by rw[hN,h0];exact rfl
  subst h0;clear E hN;go_enter func206,ntmps206
  go_wp2_with fail
  refine (z_s S0.out).mono ?_;rintro _ V1 ⟨rfl,D1⟩;have l31:=D1.num (j:=31) (q:=.i64) rfl;obtain⟨V2,s2,D2⟩:=D1.setN (t:=44) x_S.2.2.2.1 kn30 (x:=p.nm 31) (p.nwf kn31);have D2:DP w V2 b h g c n k Q l (takP p):=D2;have l30:=D2.num (j:=30) (q:=.i64) rfl;rw[tk30] at l30;rw[E31.out] at s2 l31;have S2:=hd1 D2;clear D1 D2 tk30
  go_wp2_with fail
  refine (z_aZ w _ b h g c n k Q l _ S2.out).mono ?_;rintro _ V3 ⟨rfl,D3⟩;have S3:=hd1 D3;clear D3;go_wp2
  go_end0
  exact⟨rfl,S3.out⟩
 by_cases h3:N=3
 ·have E:rolP p=becRoot (takP p):=by
   unfold rolP;rw[hN,h3];rfl
  rw[E];have E31:Hid (p.nm 31=3):=by rw[hN,h3];exact rfl
  subst h3;clear E hN;go_enter func206,ntmps206
  go_wp2_with fail
  refine (z_s S0.out).mono ?_;rintro _ V1 ⟨rfl,D1⟩;have l31:=D1.num (j:=31) (q:=.i64) rfl;obtain⟨V2,s2,D2⟩:=D1.setN (t:=44) x_S.2.2.2.1 kn30 (x:=p.nm 31) (p.nwf kn31);have D2:DP w V2 b h g c n k Q l (takP p):=D2;have l30:=D2.num (j:=30) (q:=.i64) rfl;rw[tk30] at l30;rw[E31.out] at s2 l31;have S2:=hd1 D2;clear D1 D2 tk30
  go_wp2_with fail
  refine (z_an w _ b h g c n k Q l _ S2.out).mono ?_;rintro _ V3 ⟨rfl,D3⟩;have S3:=hd1 D3;clear D3;go_wp2
  go_end0
  exact⟨rfl,S3.out⟩
 by_cases h4:N=4
 ·have E:rolP p=becDsg (takP p):=by
   unfold rolP;rw[hN,h4];rfl
  rw[E];have E31:Hid (p.nm 31=4):=by rw[hN,h4];exact rfl
  subst h4;clear E hN;go_enter func206,ntmps206
  go_wp2_with fail
  refine (z_s S0.out).mono ?_;rintro _ V1 ⟨rfl,D1⟩;have l31:=D1.num (j:=31) (q:=.i64) rfl;obtain⟨V2,s2,D2⟩:=D1.setN (t:=44) x_S.2.2.2.1 kn30 (x:=p.nm 31) (p.nwf kn31);have D2:DP w V2 b h g c n k Q l (takP p):=D2;have l30:=D2.num (j:=30) (q:=.i64) rfl;rw[tk30] at l30;rw[E31.out] at s2 l31;have S2:=hd1 D2;clear D1 D2 tk30
  go_wp2_with fail
  refine (z_aY w _ b h g c n k Q l _ S2.out).mono ?_;rintro _ V3 ⟨rfl,D3⟩;have S3:=hd1 D3;clear D3;go_wp2
  go_end0
  exact⟨rfl,S3.out⟩
 ·have E:rolP p=becBlk (takP p):=by
   unfold rolP;rw[hN,if_neg h0,if_neg h3,if_neg h4]
  rw[E];have E31:=hd1 hN;have x0:(N==0)=false:=by simpa using h0
  have x3:(N==3)=false:=by simpa using h3
  have x4:(N==4)=false:=by simpa using h4
  clear E hN;go_enter func206,ntmps206
  go_wp2_with fail
  refine (z_s S0.out).mono ?_;rintro _ V1 ⟨rfl,D1⟩;have l31:=D1.num (j:=31) (q:=.i64) rfl;obtain⟨V2,s2,D2⟩:=D1.setN (t:=44) x_S.2.2.2.1 kn30 (x:=p.nm 31) (p.nwf kn31);have D2:DP w V2 b h g c n k Q l (takP p):=D2;have l30:=D2.num (j:=30) (q:=.i64) rfl;rw[tk30] at l30;rw[E31.out] at s2 l31;have S2:=hd1 D2;clear D1 D2 tk30
  go_wp2_with fail
  refine (z_ba w _ b h g c n k Q l _ S2.out).mono ?_;rintro _ V3 ⟨rfl,D3⟩;have S3:=hd1 D3;clear D3;go_wp2
  go_end0
  exact⟨rfl,S3.out⟩
theorem z_fw:y_z 205 begP:=by
 intro w W b h g c n k Q l p D0;have S0:Hid (DP w W b h g c n k Q l p):=D0;clear D0;go_enter func205,ntmps205
 go_wp2_with fail
 refine (z_s S0.out).mono ?_;rintro _ V0 ⟨rfl,D0⟩;obtain⟨V1,s1,D1⟩:=D0.setN (t:=44) x_S.2.2.2.1 kn30 (x:=0) wi0;obtain⟨V2,s2,D2⟩:=D1.setN infoS kn73 (x:=1) wi1;obtain⟨V3,s3,D3⟩:=D2.setB kb9 false;obtain⟨V4,s4,D4⟩:=D3.setB kb7 false;obtain⟨V5,s5,D5⟩:=D4.setB kb25 false;obtain⟨V6,s6,D6⟩:=D5.setB kb24 true;obtain⟨V7,s7,D7⟩:=D6.setB kb20 true;have D7:DP w V7 b h g c n k Q l (begA p):=D7
 have S7:Hid (DP w V7 b h g c n k Q l (begA p)):=D7;clear D0 D1 D2 D3 D4 D5 D6 D7;go_upto_region 4 with fail
 clear s1 s2 s3 s4 s5 s6 s7;obtain⟨X0,hX0⟩:∃X0,World.drew V7=X0:=⟨_,rfl⟩;have D7:DP w X0 b h g c n k Q l (begA p):=by rw[←hX0];exact S7.out.below (Below.refl _ _).drew
 obtain⟨N43,h43⟩:∃z,(begA p).nm 43=z:=⟨_,rfl⟩;obtain⟨N41,h41⟩:∃z,(begA p).nm 41=z:=⟨_,rfl⟩;have r43:0≤N43∧N43≤255:=by rw[←h43];exact (begA p).u8 rfl
 have r41:0≤N41∧N41≤255:=by rw[←h41];exact (begA p).u8 rfl
 obtain⟨V8,s8,D8⟩:=D7.setU ku70 (x:=N43) r43;obtain⟨V9,s9,D9⟩:=D8.setU ku65 (x:=N41) r41;obtain⟨V10,s10,D10⟩:=D9.setU ku68 (x:=0) (by omega);have E0:Hid ((begA p).nm 43=N43∧(begA p).nm 41=N41):=⟨h43,h41⟩;have E1:Hid (((begA p).setU 70 N43).nm 43=N43∧((begA p).setU 70 N43).nm 41=N41):=⟨by rw[Row.setU_nm _ (by decide)];exact h43,by rw[Row.setU_nm _ (by decide)];exact h41⟩
 have E2:Hid ((((begA p).setU 70 N43).setU 65 N41).nm 43=N43∧(((begA p).setU 70 N43).setU 65 N41).nm 41=N41):=⟨by rw[Row.setU_nm _ (by decide)];exact E1.out.1,by rw[Row.setU_nm _ (by decide)];exact E1.out.2⟩
 have E3:Hid (((((begA p).setU 70 N43).setU 65 N41).setU 68 0).nm 43=N43∧((((begA p).setU 70 N43).setU 65 N41).setU 68 0).nm 41=N41):=⟨by rw[Row.setU_nm _ (by decide)];exact E2.out.1,by rw[Row.setU_nm _ (by decide)];exact E2.out.2⟩;have S10:Hid (DP w V10 b h g c n k Q l (begP p)):=by
  have e:begP p=(((begA p).setU 70 N43).setU 65 N41).setU 68 0:=by
   unfold begP;rw[h43,h41]
  rw[e];exact D10
 clear h43 h41 r43 r41;refine wp_region_noPanic ?_;refine wp_region_held_drew (S:=fun w'=>∃q',DP w w' b h g c n k Q l q'∧q'.nm 43=N43∧q'.nm 41=N41) (by kernel_rfl) ⟨_,by rw[hX0];exact D7,E0.out.1,E0.out.2⟩ (fun hHeld=>?_);rw[hX0] at hHeld ⊢;clear hX0;refine tk 0 ?_ rfl ?_ hHeld ?_;rotate_left
 ·intro W_ hSw_;obtain⟨qq,Dq,e43,e41⟩:=hSw_;have x43:=Dq.num (j:=43) (q:=.u8) rfl;have x41:=Dq.num (j:=41) (q:=.u8) rfl;rw[e43] at x43;rw[e41] at x41;clear Dq e43 e41
  go_simp<;>with_reducible rfl
 rotate_left;refine tk 1 ?_ rfl ?_ hHeld ?_;rotate_left
 ·intro W_ hSw_;obtain⟨qq,Dq,e43,e41⟩:=hSw_;have x43:=Dq.num (j:=43) (q:=.u8) rfl;have x41:=Dq.num (j:=41) (q:=.u8) rfl;rw[e43] at x43;rw[e41] at x41;clear Dq e43 e41
  go_simp<;>with_reducible rfl
 rotate_left;refine tk 2 ?_ rfl ?_ hHeld ?_;rotate_left
 ·intro W_ hSw_;obtain⟨qq,Dq,e43,e41⟩:=hSw_;have x43:=Dq.num (j:=43) (q:=.u8) rfl;have x41:=Dq.num (j:=41) (q:=.u8) rfl;rw[e43] at x43;rw[e41] at x41;clear Dq e43 e41
  go_simp<;>with_reducible rfl
 rotate_left;refine tk 3 ?_ rfl ?_ hHeld ?_;rotate_left
 ·intro W_ hSw_;obtain⟨qq,Dq,e43,e41⟩:=hSw_;have x43:=Dq.num (j:=43) (q:=.u8) rfl;have x41:=Dq.num (j:=41) (q:=.u8) rfl;rw[e43] at x43;rw[e41] at x41;clear Dq e43 e41
  go_simp<;>with_reducible rfl
 rotate_left;refine tk 4 ?_ rfl ?_ hHeld ?_;rotate_left
 ·intro W_ hSw_;obtain⟨qq,Dq,e43,e41⟩:=hSw_;have x43:=Dq.num (j:=43) (q:=.u8) rfl;have x41:=Dq.num (j:=41) (q:=.u8) rfl;rw[e43] at x43;rw[e41] at x41;clear Dq e43 e41
  go_simp<;>with_reducible rfl
 rotate_left;refine tk 5 ?_ rfl ?_ hHeld ?_;rotate_left
 ·intro W_ hSw_;obtain⟨qq,Dq,e43,e41⟩:=hSw_;have x43:=Dq.num (j:=43) (q:=.u8) rfl;have x41:=Dq.num (j:=41) (q:=.u8) rfl;rw[e43] at x43;rw[e41] at x41;clear Dq e43 e41
  go_simp<;>with_reducible rfl
 rotate_left;refine tk 6 ?_ rfl ?_ hHeld ?_;rotate_left
 ·intro W_ hSw_;obtain⟨qq,Dq,e43,e41⟩:=hSw_;have x43:=Dq.num (j:=43) (q:=.u8) rfl;have x41:=Dq.num (j:=41) (q:=.u8) rfl;rw[e43] at x43;rw[e41] at x41;clear Dq e43 e41
  go_simp<;>with_reducible rfl
 rotate_left;refine tk 7 ?_ rfl ?_ hHeld ?_;rotate_left
 ·intro W_ hSw_;obtain⟨qq,Dq,e43,e41⟩:=hSw_;have x43:=Dq.num (j:=43) (q:=.u8) rfl;have x41:=Dq.num (j:=41) (q:=.u8) rfl;rw[e43] at x43;rw[e41] at x41;clear Dq e43 e41
  go_simp<;>with_reducible rfl
 rotate_left;refine tk 8 ?_ rfl ?_ hHeld ?_;rotate_left
 ·intro W_ hSw_;obtain⟨qq,Dq,e43,e41⟩:=hSw_;have x43:=Dq.num (j:=43) (q:=.u8) rfl;have x41:=Dq.num (j:=41) (q:=.u8) rfl;rw[e43] at x43;rw[e41] at x41;clear Dq e43 e41
  go_simp<;>with_reducible rfl
 rotate_left;refine tk 9 ?_ rfl ?_ hHeld ?_;rotate_left
 ·intro W_ hSw_;obtain⟨qq,Dq,e43,e41⟩:=hSw_;have x43:=Dq.num (j:=43) (q:=.u8) rfl;have x41:=Dq.num (j:=41) (q:=.u8) rfl;rw[e43] at x43;rw[e41] at x41;clear Dq e43 e41
  go_simp<;>with_reducible rfl
 rotate_left;refine tk 10 ?_ rfl ?_ hHeld ?_;rotate_left
 ·intro W_ hSw_;obtain⟨qq,Dq,e43,e41⟩:=hSw_;have x43:=Dq.num (j:=43) (q:=.u8) rfl;have x41:=Dq.num (j:=41) (q:=.u8) rfl;rw[e43] at x43;rw[e41] at x41;clear Dq e43 e41
  go_simp<;>with_reducible rfl
 rotate_left;refine tk 11 ?_ rfl ?_ hHeld ?_;rotate_left
 ·intro W_ hSw_;obtain⟨qq,Dq,e43,e41⟩:=hSw_;have x43:=Dq.num (j:=43) (q:=.u8) rfl;have x41:=Dq.num (j:=41) (q:=.u8) rfl;rw[e43] at x43;rw[e41] at x41;clear Dq e43 e41
  go_simp<;>with_reducible rfl
 rotate_left;refine tk 12 ?_ rfl ?_ hHeld ?_;rotate_left
 ·intro W_ hSw_;obtain⟨qq,Dq,e43,e41⟩:=hSw_;have x43:=Dq.num (j:=43) (q:=.u8) rfl;have x41:=Dq.num (j:=41) (q:=.u8) rfl;rw[e43] at x43;rw[e41] at x41;clear Dq e43 e41
  go_simp<;>with_reducible rfl
 rotate_left;refine tk 13 ?_ rfl ?_ hHeld ?_;rotate_left
 ·intro W_ hSw_;obtain⟨qq,Dq,e43,e41⟩:=hSw_;have x43:=Dq.num (j:=43) (q:=.u8) rfl;have x41:=Dq.num (j:=41) (q:=.u8) rfl;rw[e43] at x43;rw[e41] at x41;clear Dq e43 e41
  go_simp<;>with_reducible rfl
 rotate_left;refine tk 14 ?_ rfl ?_ hHeld ?_;rotate_left
 ·intro W_ hSw_;obtain⟨qq,Dq,e43,e41⟩:=hSw_;have x43:=Dq.num (j:=43) (q:=.u8) rfl;have x41:=Dq.num (j:=41) (q:=.u8) rfl;rw[e43] at x43;rw[e41] at x41;clear Dq e43 e41
  go_simp<;>with_reducible rfl
 rotate_left
 try simp only[Act.put,zA,zB,zC]
 refine wpAnyH_ready (rs:=[15]) (by kernel_rfl) (by simp) ?_;refine AllReadyH.cons rfl (fun K hK=>?_) AllReadyH.nil
 go_simp
 clear hHeld;refine hK.out _ _ ⟨_,D8,E1.out.1,E1.out.2⟩ (fun hHeld=>?_);clear hK K;refine tk 16 ?_ rfl ?_ hHeld ?_;rotate_left
 ·intro W_ hSw_;obtain⟨qq,Dq,e43,e41⟩:=hSw_;have x43:=Dq.num (j:=43) (q:=.u8) rfl;have x41:=Dq.num (j:=41) (q:=.u8) rfl;rw[e43] at x43;rw[e41] at x41;clear Dq e43 e41
  go_simp<;>with_reducible rfl
 rotate_left;refine tk 17 ?_ rfl ?_ hHeld ?_;rotate_left
 ·intro W_ hSw_;obtain⟨qq,Dq,e43,e41⟩:=hSw_;have x43:=Dq.num (j:=43) (q:=.u8) rfl;have x41:=Dq.num (j:=41) (q:=.u8) rfl;rw[e43] at x43;rw[e41] at x41;clear Dq e43 e41
  go_simp<;>with_reducible rfl
 rotate_left
 try simp only[Act.put,zA,zB,zC]
 refine wpAnyH_ready (rs:=[18]) (by kernel_rfl) (by simp) ?_;refine AllReadyH.cons rfl (fun K hK=>?_) AllReadyH.nil
 go_simp
 clear hHeld;refine hK.out _ _ ⟨_,D9,E2.out.1,E2.out.2⟩ (fun hHeld=>?_);clear hK K;refine tk 19 ?_ rfl ?_ hHeld ?_;rotate_left
 ·intro W_ hSw_;obtain⟨qq,Dq,e43,e41⟩:=hSw_;have x43:=Dq.num (j:=43) (q:=.u8) rfl;have x41:=Dq.num (j:=41) (q:=.u8) rfl;rw[e43] at x43;rw[e41] at x41;clear Dq e43 e41
  go_simp<;>with_reducible rfl
 rotate_left;refine tk 20 ?_ rfl ?_ hHeld ?_;rotate_left
 ·intro W_ hSw_;obtain⟨qq,Dq,e43,e41⟩:=hSw_;have x43:=Dq.num (j:=43) (q:=.u8) rfl;have x41:=Dq.num (j:=41) (q:=.u8) rfl;rw[e43] at x43;rw[e41] at x41;clear Dq e43 e41
  go_simp<;>with_reducible rfl
 rotate_left
 try simp only[Act.put,zA,zB,zC]
 refine wpAnyH_ready (rs:=[21]) (by kernel_rfl) (by simp) ?_;refine AllReadyH.cons rfl (fun K hK=>?_) AllReadyH.nil
 go_simp
 clear hHeld;refine hK.out _ _ ⟨_,D10,E3.out.1,E3.out.2⟩ (fun hHeld=>?_);clear hK K
 try simp only[Act.put,zA,zB,zC]
 refine wpAnyH_done (by kernel_rfl) ?_ _;refine NoPanic.normal ?_;clear hHeld;go_wp2
 go_end0
 exact⟨rfl,S10.out⟩
def DeedN (F:Nat) (f:Nat→List Pt→List Pt):Prop:=∀(w W:World) (b:Nat) (h:Hd) (g c n k Q:Nat) (l:List Pt) (p:Pt),DP w W b h g c n k Q l p →
 Calls prog F #[.pointer (some ⟨b,0,none⟩)] W fun r W'=>r=.returned (.tuple #[])∧∃g' c',DP w W' b h g' c' n k Q (f k (l.set k p)) (gtP (f k (l.set k p)) k)
theorem u_d {l:List Pt} {k:Nat} (h:k<l.length):l.set k (gtP l k)=l:=y_d h
theorem y_z.n {F:Nat} {f:Pt→Pt} (hF:y_z F f):DeedN F (fun k l=>l.set k (f (gtP l k))):=fun w W b h g c n k Q l p D=>(hF w W b h g c n k Q l p D).mono fun r W' ⟨hr,D'⟩=>by
 refine⟨hr,g,c,?_⟩;have hkl:k<(l.set k p).length:=by rw[List.length_set,D.len];exact D.hk
 have e1:gtP (l.set k p) k=p:=D.gt
 show DP w W' b h g c n k Q ((l.set k p).set k (f (gtP (l.set k p) k))) (gtP ((l.set k p).set k (f (gtP (l.set k p) k))) k)
 rw[e1,List.set_set];have e2:gtP (l.set k (f p)) k=f p:=D'.gt;rw[e2];exact⟨D'.var,by rw[List.set_set];exact D'.pat,by rw[List.length_set];exact D'.len,D'.bel,D'.hb,D'.hg,D'.ne,D'.hk,D'.hn,D'.hQ⟩
theorem DP.tree {w W X:World} {b g c n k Q:Nat} {h:Hd} {l m:List Pt} {p:Pt} {v:Value} (s:DP w W b h g c n k Q l p) (e:Below W.heap.size W X) (o:Own X W.heap.size v m) (hm:m.length=n) :
  ∃V,(stS 39 (.pointer (some ⟨b,0,none⟩)) (.agg (trc h v))).run prog X=.ok () V∧∃g' c',DP w V b h g' c' n k Q m (gtP m k):=by
 have s':=s.below e;obtain⟨V,e1,r1,g1⟩:=s'.var.hst (g:=h) (y:=v) o.one;refine⟨V,e1,?_⟩;have hk:=s.hk;have hbW:=s.var.lt;rcases o.pat with ⟨_,rfl⟩ | ⟨g',c',rfl,hg,hp⟩
 ·simp at hm;omega
 ·rw[hm] at r1;refine⟨g',c',r1,?_,hm,gro s'.bel g1 s.hb s'.bel.size,s.hb,Nat.le_trans s.bel.size hg,by omega,s.hk,s.hn,s.hQ⟩;rw[u_d (by omega)];exact hp.keptBut g1 (by simp;omega)
theorem z_hN:DeedN 266 (fun k l=>l.map rerP):=by
 intro w W b h g c n k Q l p D0;have S0:=hd1 D0;have lt:=D0.var.htree;clear D0;go_enter func266,ntmps266
 go_wp2_with fail
 refine (z_iW h (some ⟨g,0,none⟩) n c (l.set k p) W S0.out.cs.sl S0.out.hn).mono ?_;rintro _ X ⟨v,rfl,o1,b1⟩;obtain⟨V,s1,D1⟩:=S0.out.tree b1 o1 (by rw[List.length_map,List.length_set,S0.out.len]);have S1:=hd1 D1;clear D1 o1 b1 lt;go_wp2
 go_end0
 exact⟨rfl,S1.out⟩
theorem z_hJ:DeedN 293 (fun k l=>(l.set k (prdP (gtP l k))).map syncP):=by
 intro w W b h g c n k Q l p D0;have S0:=hd1 D0;have e1:gtP (l.set k p) k=p:=D0.gt
 show Calls _ _ _ _ fun r W'=>r=.returned (.tuple #[])∧∃g' c',DP w W' b h g' c' n k Q (((l.set k p).set k (prdP (gtP (l.set k p) k))).map syncP) (gtP (((l.set k p).set k (prdP (gtP (l.set k p) k))).map syncP) k)
 rw[e1,List.set_set];clear D0 e1;go_enter func293,ntmps293
 go_wp2_with fail
 refine (z_s S0.out).mono ?_;rintro _ V1 ⟨rfl,D1⟩;obtain⟨V2,s2,D2⟩:=D1.setB kb12 false;have S2:=hd1 D2;have lt:=D2.var.htree;clear D1 D2
 go_wp2_with fail
 refine (z_fK h (some ⟨g,0,none⟩) n c (l.set k (prdP p)) V2 S2.out.cs.sl S2.out.hn).mono ?_;rintro _ X ⟨v,rfl,o1,b1⟩;obtain⟨V,s1,D1⟩:=S2.out.tree b1 o1 (by rw[List.length_map,List.length_set,S2.out.len]);have S1:=hd1 D1;clear D1 o1 b1 lt s2;go_wp2
 go_end0
 exact⟨rfl,S1.out⟩
end S13
end
end Go.Proofs.YtlchejbggnbccaaGreat
