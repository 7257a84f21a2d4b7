/-
  What becomes of a port's version: the walk of turnOf, for every port. And what follows from it here.
-/
import Derived.Test.YtlchejbggnbccaaGreatPbb
import Derived.Test.YtlchejbggnbccaaGreatP15b
import Derived.Test.YtlchejbggnbccaaGreatP15a
namespace Go.Proofs.YtlchejbggnbccaaGreat
set_option linter.unusedVariables false
set_option linter.unusedSimpArgs false
set_option maxRecDepth 4000
set_option maxHeartbeats 40000000
open _root_.Go.Proofs.Tryz
section
namespace S15
open Go.RowKit
attribute [local go_sem ↓] ldP stP stB stU stW ldT stT st32 alP
attribute [local go_sem] z_l
def turV:Nat→Value
 | 0=>.nilFunc
 | 1=>fv 217
 | 2=>fv 218
 | _=>fv 219
theorem z_kX (p:Pt):ppmC p=0∨ppmC p=1∨ppmC p=2∨ppmC p=3:=by
 unfold ppmC
 (repeat' split)<;>simp
theorem z_fG (p:Pt) (w:World):Calls prog 174 #[.agg p.cs] w fun r w'=>r=.returned (turV (ppmC p))∧Below w.heap.size w w':=by
 obtain⟨C,hC⟩:∃z,ppmC p=z:=⟨_,rfl⟩;rw[hC];have E:=hd1 hC;obtain⟨W,hW,r0,bW,zW⟩:=y_T w p;have c76:=r0.num (j:=76) (k:=.i64) rfl;have c67:=r0.num (j:=67) (k:=.u8) rfl;have c2:=r0.bit (j:=2) rfl;have c23:=r0.bit (j:=23) rfl;have c15:=r0.bit (j:=15) rfl;have c16:=r0.bit (j:=16) rfl;have H:=hd1 bW;clear r0 bW zW hC;obtain⟨N,hN⟩:∃z,p.nm 76=z:=⟨_,rfl⟩;obtain⟨M,hM⟩:∃z,p.nm 67=z:=⟨_,rfl⟩
 obtain⟨b2,h2⟩:∃z,p.bt 2=z:=⟨_,rfl⟩;obtain⟨b23,h23⟩:∃z,p.bt 23=z:=⟨_,rfl⟩;obtain⟨b15,h15⟩:∃z,p.bt 15=z:=⟨_,rfl⟩;obtain⟨b16,h16⟩:∃z,p.bt 16=z:=⟨_,rfl⟩;have HN:=hd1 hN;have HM:=hd1 hM;have H2:=hd1 h2;have H23:=hd1 h23;have H15:=hd1 h15;have H16:=hd1 h16;rw[hN] at c76;rw[hM] at c67;rw[h2] at c2;rw[h23] at c23;rw[h15] at c15;rw[h16] at c16;clear hN hM h2 h23 h15 h16;by_cases hN1:N=1
 ·subst hN1;cases b2
  ·by_cases hM3:M=3
   ·subst hM3;have EC:ppmC p=0:=by unfold ppmC;simp[HN.out,HM.out,H2.out,H23.out,H15.out,H16.out]
    have E2:Hid (C=0):=by rw[←E.out];exact EC
    clear EC E HN HM H2 H23 H15 H16 ;go_enter func174,ntmps174;go_wp2
    go_ret;exact⟨by rw[E2.out];rfl,H.out⟩
   ·have xM3:(M==3)=false:=beq_eq_false_iff_ne.2 hM3;have yM3:(M != 3)=true:=by simp[hM3]
    have EC:ppmC p=1:=by unfold ppmC;simp[HN.out,HM.out,H2.out,H23.out,H15.out,H16.out,hM3]
    have E2:Hid (C=1):=by rw[←E.out];exact EC
    clear EC E HN HM H2 H23 H15 H16 hM3;go_enter func174,ntmps174;go_wp2
    go_ret;exact⟨by rw[E2.out];rfl,H.out⟩
  ·by_cases hM0:M=0
   ·subst hM0;have EC:ppmC p=2:=by unfold ppmC;simp[HN.out,HM.out,H2.out,H23.out,H15.out,H16.out]
    have E2:Hid (C=2):=by rw[←E.out];exact EC
    clear EC E HN HM H2 H23 H15 H16 ;go_enter func174,ntmps174;go_wp2
    go_ret;exact⟨by rw[E2.out];rfl,H.out⟩
   ·have xM0:(M==0)=false:=beq_eq_false_iff_ne.2 hM0;have yM0:(M != 0)=true:=by simp[hM0]
    have EC:ppmC p=0:=by unfold ppmC;simp[HN.out,HM.out,H2.out,H23.out,H15.out,H16.out,hM0]
    have E2:Hid (C=0):=by rw[←E.out];exact EC
    clear EC E HN HM H2 H23 H15 H16 hM0;go_enter func174,ntmps174;go_wp2
    go_ret;exact⟨by rw[E2.out];rfl,H.out⟩
 ·have xN1:(N==1)=false:=beq_eq_false_iff_ne.2 hN1;have yN1:(N != 1)=true:=by simp[hN1]
  by_cases hN3:N=3
  ·subst hN3;clear xN1 yN1;cases b2
   ·have EC:ppmC p=1:=by unfold ppmC;simp[HN.out,HM.out,H2.out,H23.out,H15.out,H16.out]
    have E2:Hid (C=1):=by rw[←E.out];exact EC
    clear EC E HN HM H2 H23 H15 H16 ;go_enter func174,ntmps174;go_wp2
    go_ret;exact⟨by rw[E2.out];rfl,H.out⟩
   ·cases b23
    ·cases b15
     ·have EC:ppmC p=0:=by unfold ppmC;simp[HN.out,HM.out,H2.out,H23.out,H15.out,H16.out]
      have E2:Hid (C=0):=by rw[←E.out];exact EC
      clear EC E HN HM H2 H23 H15 H16 ;go_enter func174,ntmps174;go_wp2
      go_ret;exact⟨by rw[E2.out];rfl,H.out⟩
     ·have EC:ppmC p=1:=by unfold ppmC;simp[HN.out,HM.out,H2.out,H23.out,H15.out,H16.out]
      have E2:Hid (C=1):=by rw[←E.out];exact EC
      clear EC E HN HM H2 H23 H15 H16 ;go_enter func174,ntmps174;go_wp2
      go_ret;exact⟨by rw[E2.out];rfl,H.out⟩
    ·cases b16
     ·have EC:ppmC p=0:=by unfold ppmC;simp[HN.out,HM.out,H2.out,H23.out,H15.out,H16.out]
      have E2:Hid (C=0):=by rw[←E.out];exact EC
      clear EC E HN HM H2 H23 H15 H16 ;go_enter func174,ntmps174;go_wp2
      go_ret;exact⟨by rw[E2.out];rfl,H.out⟩
     ·have EC:ppmC p=3:=by unfold ppmC;simp[HN.out,HM.out,H2.out,H23.out,H15.out,H16.out]
      have E2:Hid (C=3):=by rw[←E.out];exact EC
      clear EC E HN HM H2 H23 H15 H16 ;go_enter func174,ntmps174;go_wp2
      go_ret;exact⟨by rw[E2.out];rfl,H.out⟩
  ·have xN3:(N==3)=false:=beq_eq_false_iff_ne.2 hN3;have yN3:(N != 3)=true:=by simp[hN3]
   by_cases hN2:N=2
   ·subst hN2;clear xN1 yN1 xN3 yN3;by_cases hM0:M=0
    ·subst hM0;have EC:ppmC p=2:=by unfold ppmC;simp[HN.out,HM.out,H2.out,H23.out,H15.out,H16.out]
     have E2:Hid (C=2):=by rw[←E.out];exact EC
     clear EC E HN HM H2 H23 H15 H16 ;go_enter func174,ntmps174;go_wp2
     go_ret;exact⟨by rw[E2.out];rfl,H.out⟩
    ·have xM0:(M==0)=false:=beq_eq_false_iff_ne.2 hM0;have yM0:(M != 0)=true:=by simp[hM0]
     cases b2
     ·have EC:ppmC p=2:=by unfold ppmC;simp[HN.out,HM.out,H2.out,H23.out,H15.out,H16.out,hM0]
      have E2:Hid (C=2):=by rw[←E.out];exact EC
      clear EC E HN HM H2 H23 H15 H16 hM0;go_enter func174,ntmps174;go_wp2
      go_ret;exact⟨by rw[E2.out];rfl,H.out⟩
     ·have EC:ppmC p=0:=by unfold ppmC;simp[HN.out,HM.out,H2.out,H23.out,H15.out,H16.out,hM0]
      have E2:Hid (C=0):=by rw[←E.out];exact EC
      clear EC E HN HM H2 H23 H15 H16 hM0;go_enter func174,ntmps174;go_wp2
      go_ret;exact⟨by rw[E2.out];rfl,H.out⟩
   ·have xN2:(N==2)=false:=beq_eq_false_iff_ne.2 hN2;have yN2:(N != 2)=true:=by simp[hN2]
    have EC:ppmC p=1:=by unfold ppmC;simp[HN.out,HM.out,H2.out,H23.out,H15.out,H16.out,hN1,hN2,hN3]
    have E2:Hid (C=1):=by rw[←E.out];exact EC
    clear EC E HN HM H2 H23 H15 H16 hN1 hN2 hN3;go_enter func174,ntmps174;go_wp2
    go_ret;exact⟨by rw[E2.out];rfl,H.out⟩
end S15
end
section
namespace S15
open Go.RowKit
attribute [local go_sem ↓] ldP stP stB stU stW ldT stT st32 alP
attribute [local go_sem] z_l
def bsF (n:Nat) (ps:Array (Nat×Value)):Sem Value:=Instr.buildSlice 204 n ps
theorem bsFs (n:Nat) (ps:Array (Nat×Value)):Instr.buildSlice 204 n ps=bsF n ps:=rfl
theorem bsF1 (f:Fn) (x y:Array Value) (w:World):(bsF 1 #[(0,.func f x y)]).run prog w=.ok (.slice (some ⟨w.heap.size,0,none⟩) 1 1) (w.alloc (.cells #[.func f x y] 127)):=by kernel_rfl
theorem bsF2 (f g:Fn) (x y z u:Array Value) (w:World):(bsF 2 #[(0,.func f x y),(1,.func g z u)]).run prog w=.ok (.slice (some ⟨w.heap.size,0,none⟩) 2 2) (w.alloc (.cells #[.func f x y,.func g z u] 127)):=by kernel_rfl
theorem v_q (w:World) (cs:Array Value):∃W,w.alloc (.cells cs 127)=W∧FnAt W w.heap.size cs∧Below w.heap.size w W:=
 ⟨_,rfl,RvAt.new w _ _,(Below.refl _ _).alloc (Nat.le_refl _) _⟩
theorem z_ha (w:World):(binOp .eql 127 .nilFunc .nilFunc).run prog w=.ok (.bool true) w:=by kernel_rfl
theorem z_jV (f:Fn) (x y:Array Value) (w:World):(binOp .eql 127 (.func f x y) .nilFunc).run prog w=.ok (.bool false) w:=by kernel_rfl
attribute [local go_sem] z_ha z_jV
attribute [local go_sem ↓] bsFs
theorem z_jx (h:Hd) (a:Option Addr) (n c:Nat) (l:List Pt) (k:Nat) (w:World) (hs:SlAt w a n c l) (hn:n≤1000) (hk:k<n) :
  Calls prog 135 #[.agg (trc h (.slice a n c)),.int .i64 (k:Int)] w fun r w'=>TBf w h a n l (ppmO l k) r w':=by
 obtain⟨OO,hOO⟩:∃z,ppmO l k=z:=⟨_,rfl⟩;rw[hOO];have EO:=hd1 hOO;clear hOO;obtain⟨g,o,rfl⟩:=hs.some' (by omega);have HL:=hd3 hs.len hn hk;have hkl:k<l.length:=by rw[HL.out.1];exact hk
 have hin0:(0:Int)≤(k:Int):=by omega
 have hin1:(k:Int)<(n:Int):=by omega
 obtain⟨W,hW,r0,r1,bW,zW⟩:=z_w w h (.slice (some ⟨g,o,none⟩) n c);have l0:=r0.tld;have H:Hid (TS w W w.heap.size (w.heap.size+1) h (.slice (some ⟨g,o,none⟩) n c)∧SlAt W (some ⟨g,o,none⟩) n c l):=⟨⟨r0,r1,bW,by omega⟩,hs.below bW⟩;have T:Hid _:=x_n (h:=h) (a:=some ⟨g,o,none⟩) (c:=c) (w:=W) hk;obtain⟨p,hp⟩:∃p,gtP l k=p:=⟨_,rfl⟩;have HP:=hd1 hp;have HK:=hd1 hkl;clear hs hn hk r0 r1 bW zW hp hkl
 go_enter func135,ntmps135
 go_wp2_with fail
 refine Calls.mono T.out ?_;rintro _ V ⟨rfl,bV⟩;have K:=hd2 (H.out.1.below bV) (H.out.2.below bV);have c16:=K.out.1.var.t16;have lp:=K.out.2.ld (z_k HK.out);rw[HP.out] at lp;clear bV T l0 hW H
 go_wp2_with fail
 refine (z_fG p V).mono ?_;rintro _ X ⟨rfl,bX⟩;have L:=hd2 (K.out.1.below bX) (K.out.2.below bX);have lt:=L.out.1.var.tld;clear bX K lp c16;obtain⟨C,hC⟩:∃z,ppmC p=z:=⟨_,rfl⟩;have hle:=z_kX p;rw[hC] at hle ⊢;have HC:=hd1 hC;clear hC;rcases hle with rfl | rfl | rfl | rfl
 ·have E:OO=none:=by rw[←EO.out];exact z_ef (by rw[HP.out];exact HC.out)
  subst E;clear EO;obtain⟨U,sU,h1,h2,gU⟩:=L.out.1.tell (y:=.slice (some ⟨g,o,none⟩) n c) rfl;have G:=hd3 h1 (L.out.2.keptT L.out.1.out gU) h2;clear h1 h2 gU;rw[show turV 0=.nilFunc from rfl];go_wp2
  refine bodyPost_ret (z_i results135 _ _ _ _ _ rfl G.out.1) rfl ?_;exact⟨some ⟨g,o,none⟩,c,rfl,Or.inl rfl,G.out.2⟩
 ·have E:OO=some (l.set k (chkP p)):=by rw[←EO.out,w_O (c:=1) (by rw[HP.out];exact HC.out) (by decide),HP.out];rfl
  subst E;clear EO;rw[show turV 1=fv 217 from rfl];obtain⟨Y,hY,fY,bY⟩:=v_q X #[fv 217];have qY:=bsF1 (.func 217) #[] #[] X;rw[hY] at qY;have Q:=hd3 (L.out.1.below bY) (L.out.2.below bY) fY;clear fY bY hY
  go_wp2_with fail
  refine (u_o 217 chkP z_fp z_eV h (some ⟨g,o,none⟩) n c l k X.heap.size Y Q.out.2.1 HL.out.2.1 HL.out.2.2 Q.out.2.2).mono ?_;rintro _ X2 ⟨g2,c2,rfl,f2,s2,b2⟩;rw[HP.out] at s2;obtain⟨U,sU,h1,h2,gU⟩:=(Q.out.1.below b2).tell (y:=.slice (some ⟨g2,0,none⟩) n c2) rfl
  have G:Hid (RvAt U (w.heap.size+1) 39 (trc h (.slice (some ⟨g2,0,none⟩) n c2))∧SlAt U (some ⟨g2,0,none⟩) n c2 (l.set k (chkP p))∧Below w.heap.size w U):=⟨h1,s2.keptT (Q.out.1.below b2).out gU,h2⟩;have FR:=hd1 (Nat.le_trans Q.out.1.bel.size f2);clear h1 h2 gU s2 b2 f2;go_wp2
  refine bodyPost_ret (z_i results135 _ _ _ _ _ rfl G.out.1) rfl ?_;exact⟨some ⟨g2,0,none⟩,c2,rfl,Or.inr (fun x hx=>by cases hx;exact FR.out),G.out.2⟩
 ·have E:OO=some (l.set k (senP p)):=by rw[←EO.out,w_O (c:=2) (by rw[HP.out];exact HC.out) (by decide),HP.out];rfl
  subst E;clear EO;rw[show turV 2=fv 218 from rfl];obtain⟨Y,hY,fY,bY⟩:=v_q X #[fv 218];have qY:=bsF1 (.func 218) #[] #[] X;rw[hY] at qY;have Q:=hd3 (L.out.1.below bY) (L.out.2.below bY) fY;clear fY bY hY
  go_wp2_with fail
  refine (u_o 218 senP z_fn z_eT h (some ⟨g,o,none⟩) n c l k X.heap.size Y Q.out.2.1 HL.out.2.1 HL.out.2.2 Q.out.2.2).mono ?_;rintro _ X2 ⟨g2,c2,rfl,f2,s2,b2⟩;rw[HP.out] at s2;obtain⟨U,sU,h1,h2,gU⟩:=(Q.out.1.below b2).tell (y:=.slice (some ⟨g2,0,none⟩) n c2) rfl
  have G:Hid (RvAt U (w.heap.size+1) 39 (trc h (.slice (some ⟨g2,0,none⟩) n c2))∧SlAt U (some ⟨g2,0,none⟩) n c2 (l.set k (senP p))∧Below w.heap.size w U):=⟨h1,s2.keptT (Q.out.1.below b2).out gU,h2⟩;have FR:=hd1 (Nat.le_trans Q.out.1.bel.size f2);clear h1 h2 gU s2 b2 f2;go_wp2
  refine bodyPost_ret (z_i results135 _ _ _ _ _ rfl G.out.1) rfl ?_;exact⟨some ⟨g2,0,none⟩,c2,rfl,Or.inr (fun x hx=>by cases hx;exact FR.out),G.out.2⟩
 ·have E:OO=some (l.set k (falP p)):=by rw[←EO.out,w_O (c:=3) (by rw[HP.out];exact HC.out) (by decide),HP.out];rfl
  subst E;clear EO;rw[show turV 3=fv 219 from rfl];obtain⟨Y,hY,fY,bY⟩:=v_q X #[fv 219];have qY:=bsF1 (.func 219) #[] #[] X;rw[hY] at qY;have Q:=hd3 (L.out.1.below bY) (L.out.2.below bY) fY;clear fY bY hY
  go_wp2_with fail
  refine (u_o 219 falP z_hD z_af h (some ⟨g,o,none⟩) n c l k X.heap.size Y Q.out.2.1 HL.out.2.1 HL.out.2.2 Q.out.2.2).mono ?_;rintro _ X2 ⟨g2,c2,rfl,f2,s2,b2⟩;rw[HP.out] at s2;obtain⟨U,sU,h1,h2,gU⟩:=(Q.out.1.below b2).tell (y:=.slice (some ⟨g2,0,none⟩) n c2) rfl
  have G:Hid (RvAt U (w.heap.size+1) 39 (trc h (.slice (some ⟨g2,0,none⟩) n c2))∧SlAt U (some ⟨g2,0,none⟩) n c2 (l.set k (falP p))∧Below w.heap.size w U):=⟨h1,s2.keptT (Q.out.1.below b2).out gU,h2⟩;have FR:=hd1 (Nat.le_trans Q.out.1.bel.size f2);clear h1 h2 gU s2 b2 f2;go_wp2
  refine bodyPost_ret (z_i results135 _ _ _ _ _ rfl G.out.1) rfl ?_;exact⟨some ⟨g2,0,none⟩,c2,rfl,Or.inr (fun x hx=>by cases hx;exact FR.out),G.out.2⟩
end S15
end
end Go.Proofs.YtlchejbggnbccaaGreat
