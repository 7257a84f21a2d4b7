/-
  A step of a port's transmission: the walk of Ptx, for every tree. And what follows from it here.
-/
import Derived.Test.YtlchejbggnbccaaGreatPbb
import Derived.Test.YtlchejbggnbccaaGreatP15a
import Derived.Test.YtlchejbggnbccaaGreatP15d
import Derived.Test.YtlchejbggnbccaaGreatP15c
import Derived.Test.YtlchejbggnbccaaGreatP9a
namespace Go.Proofs.YtlchejbggnbccaaGreat
set_option linter.unusedVariables false
set_option linter.unusedSimpArgs false
set_option maxRecDepth 4000
set_option maxHeartbeats 40000000
open _root_.Go.Proofs.Tryz
section
namespace S15
open Go.RowKit
abbrev z_ea:Oper:={ dst:=some 66,op:=Op.load 39 (Operand.tmp 2),type:=39,pos:= "send.go:29",after:=#[],guard:=none }
abbrev z_dZ:Oper:={ dst:=some 67,op:=Op.move (Operand.tmp 1),type:=3,pos:= "send.go:29",after:=#[],guard:=none }
abbrev z_dY:Oper:={ dst:=some 68,op:=Op.move (Operand.tmp 9),type:=127,pos:= "send.go:29",after:=#[],guard:=none }
abbrev z_dX:Oper:={ dst:=some 71,op:=Op.move (Operand.tmp 1),type:=3,pos:= "send.go:29",after:=#[{ on:=9,ground:=Ground.gcOnly Departure.lateStores }],guard:=none }
abbrev z_dW:Oper:={ dst:=some 72,op:=Op.load 46 (Operand.tmp 8),type:=46,pos:= "send.go:29",after:=#[{ on:=9,ground:=Ground.gcOnly Departure.lateStores }],guard:=none }
abbrev z_dV:Oper:={ dst:=some 73,op:=Op.build 91 #[(0,Operand.tmp 71),(1,Operand.tmp 72)],type:=91,pos:= "send.go:29",after:=#[{ on:=5,ground:=Ground.data },{ on:=6,ground:=Ground.data },{ on:=9,ground:=Ground.gcOnly Departure.lateStores }],guard:=none }
abbrev u_Z:Oper:={ dst:=some 69,op:=Op.buildSlice 204 2 #[(0,Operand.tmp 68),(1,Operand.func 177)],type:=204,pos:= "send.go:29",after:=#[{ on:=2,ground:=Ground.data }],guard:=none }
abbrev x_R:Oper:={ dst:=some 74,op:=Op.buildSlice 49 1 #[(0,Operand.tmp 73)],type:=49,pos:= "send.go:29",after:=#[{ on:=7,ground:=Ground.data },{ on:=9,ground:=Ground.gcOnly Departure.lateStores }],guard:=none }
abbrev v_j:Oper:={ dst:=some 70,op:=Op.call { callee:=Callee.value (Operand.func 175),args:=#[Operand.tmp 66,Operand.tmp 67,Operand.tmp 69],argTypes:=#[39,3,204] },type:=39,pos:= "send.go:29",after:=#[{ on:=0,ground:=Ground.data },{ on:=1,ground:=Ground.data },{ on:=3,ground:=Ground.data }],guard:=none }
abbrev x_Q:Oper:={ dst:=none,op:=Op.store 39 (Operand.tmp 4) (Operand.tmp 70),type:=0,pos:= "send.go:29",after:=#[{ on:=4,ground:=Ground.data },{ on:=4,ground:=Ground.chain },{ on:=0,ground:=Ground.phase },{ on:=1,ground:=Ground.phase },{ on:=2,ground:=Ground.phase },{ on:=3,ground:=Ground.phase },{ on:=4,ground:=Ground.phase },{ on:=5,ground:=Ground.textOnly Departure.lateStores },{ on:=6,ground:=Ground.textOnly Departure.lateStores },{ on:=7,ground:=Ground.textOnly Departure.lateStores },{ on:=8,ground:=Ground.textOnly Departure.lateStores }],guard:=none }
abbrev x_u:Oper:={ dst:=some 5,op:=Op.assign (Operand.tmp 74),type:=49,pos:= "send.go:29",after:=#[{ on:=8,ground:=Ground.data },{ on:=9,ground:=Ground.chain },{ on:=0,ground:=Ground.phase },{ on:=1,ground:=Ground.phase },{ on:=2,ground:=Ground.phase },{ on:=3,ground:=Ground.phase },{ on:=4,ground:=Ground.phase },{ on:=5,ground:=Ground.phase },{ on:=6,ground:=Ground.phase },{ on:=7,ground:=Ground.phase },{ on:=8,ground:=Ground.phase },{ on:=9,ground:=Ground.phase }],guard:=none }
abbrev x_t:Oper:={ dst:=some 6,op:=Op.assign (Operand.const (Value.bool true)),type:=4,pos:= "send.go:29",after:=#[{ on:=10,ground:=Ground.chain },{ on:=0,ground:=Ground.phase },{ on:=1,ground:=Ground.phase },{ on:=2,ground:=Ground.phase },{ on:=3,ground:=Ground.phase },{ on:=4,ground:=Ground.phase },{ on:=5,ground:=Ground.phase },{ on:=6,ground:=Ground.phase },{ on:=7,ground:=Ground.phase },{ on:=8,ground:=Ground.phase },{ on:=9,ground:=Ground.phase },{ on:=10,ground:=Ground.phase }],guard:=none }
attribute [local go_sem ↓] ldP stP stB stU stW ldT stT st32 alP alM ldM stM bsFs bdOs bsOs
attribute [local go_sem] z_l z_D
structure PX (w W:World) (h:Hd) (g o n c:Nat) (l:List Pt) (p:Pt) (mb:Nat):Prop where
 tre:TS w W w.heap.size (w.heap.size+1) h (.slice (some ⟨g,o,none⟩) n c)
 sl:SlAt W (some ⟨g,o,none⟩) n c l
 mv:RvAt W mb 46 (msgP p).cs
theorem PX.below {w W V:World} {h:Hd} {g o n c mb:Nat} {l:List Pt} {p:Pt} (s:PX w W h g o n c l p mb) (k:Below W.heap.size W V):PX w V h g o n c l p mb:=⟨s.tre.below k,s.sl.below k,s.mv.below k⟩
theorem PX.held {w W:World} {h:Hd} {g o n c mb:Nat} {l:List Pt} {p:Pt} (s:PX w W h g o n c l p mb):RvAt W w.heap.size 39 (trc h (.slice (some ⟨g,o,none⟩) n c))∧RvAt W mb 46 (msgP p).cs:=⟨s.tre.var,s.mv⟩
theorem PX.kept {w W V:World} {h:Hd} {g o n c mb:Nat} {l:List Pt} {p:Pt} (s:PX w W h g o n c l p mb) (k:W.grownBy V (some (w.heap.size+1))):RvAt V w.heap.size 39 (trc h (.slice (some ⟨g,o,none⟩) n c))∧RvAt V mb 46 (msgP p).cs:=
 ⟨s.tre.var.keptBut k (by simp),s.mv.keptBut k (by have:=s.mv.apart s.tre.out (by decide);simpa using this)⟩
theorem z_kV (h:Hd) (a:Option Addr) (n c:Nat) (l:List Pt) (k:Nat) (w:World) (hs:SlAt w a n c l) (hn:n≤1000) (hk:k<n) :
  Calls prog 136 #[.agg (trc h (.slice a n c)),.int .i64 (k:Int)] w fun r w'=>TOf w h a n l (ptxO h l k) (ptxU h l k) r w':=by
 obtain⟨OO,hOO⟩:∃z,ptxO h l k=z:=⟨_,rfl⟩
 obtain⟨UU,hUU⟩:∃z,ptxU h l k=z:=⟨_,rfl⟩
 rw[hOO,hUU]
 have EO:Hid (ptxO h l k=OO):=hOO
 have EU:Hid (ptxU h l k=UU):=hUU
 clear hOO hUU
 obtain⟨g,o,rfl⟩:=hs.some' (by omega)
 have HL:Hid (l.length=n∧n≤1000∧k<n):=⟨hs.len,hn,hk⟩
 have hkl:k<l.length:=by rw[HL.out.1];exact hk
 have GL:g<w.heap.size:=hs.low (by omega)
 have hin0:(0:Int)≤(k:Int):=by omega
 have hin1:(k:Int)<(n:Int):=by omega
 obtain⟨W,hW,r0,r1,bW,zW⟩:=z_w w h (.slice (some ⟨g,o,none⟩) n c)
 have l0:=r0.tld
 have H:Hid (TS w W w.heap.size (w.heap.size+1) h (.slice (some ⟨g,o,none⟩) n c)∧SlAt W (some ⟨g,o,none⟩) n c l):=⟨⟨r0,r1,bW,by omega⟩,hs.below bW⟩
 have T:Hid _:=x_n (h:=h) (a:=some ⟨g,o,none⟩) (c:=c) (w:=W) hk
 obtain⟨p,hp⟩:∃p,gtP l k=p:=⟨_,rfl⟩
 have HP:Hid (gtP l k=p):=hp
 have HK:Hid (k<l.length):=hkl
 clear hs hn hk r0 r1 bW zW hp hkl
 go_enter func136,ntmps136
 go_wp2_with fail
 refine Calls.mono T.out ?_
 rintro _ V ⟨rfl,bV⟩
 have K:Hid (TS w V w.heap.size (w.heap.size+1) h (.slice (some ⟨g,o,none⟩) n c)∧SlAt V (some ⟨g,o,none⟩) n c l):=⟨H.out.1.below bV,H.out.2.below bV⟩
 have c16:=K.out.1.var.t16
 have lp:=K.out.2.ld (z_k HK.out)
 rw[HP.out] at lp
 obtain⟨W0,s0,q0,b0,z0⟩:=y_b V p
 obtain⟨Z,hZ⟩:∃Z,V.heap.size=Z:=⟨_,rfl⟩
 have P0:Hid (TP w W0 w.heap.size (w.heap.size+1) Z h g o n c l p):=⟨K.out.1.below b0,K.out.2.below b0,by rw[←hZ];exact q0,by rw[←hZ];exact K.out.1.bel.size,GL⟩
 rw[hZ] at s0
 clear bV T l0 hW H q0 b0 z0 GL K
 obtain⟨N,hN⟩:∃z,p.nm 75=z:=⟨_,rfl⟩
 obtain⟨M,hM⟩:∃z,p.nm 66=z:=⟨_,rfl⟩
 have HN:Hid (p.nm 75=N):=hN
 have HM:Hid (p.nm 66=M):=hM
 obtain⟨b22,h22⟩:∃z,p.bt 22=z:=⟨_,rfl⟩
 have H22:Hid (p.bt 22=b22):=h22
 obtain⟨b28,h28⟩:∃z,p.bt 28=z:=⟨_,rfl⟩
 have H28:Hid (p.bt 28=b28):=h28
 obtain⟨b2,h2⟩:∃z,p.bt 2=z:=⟨_,rfl⟩
 have H2:Hid (p.bt 2=b2):=h2
 obtain⟨b11,h11⟩:∃z,p.bt 11=z:=⟨_,rfl⟩
 have H11:Hid (p.bt 11=b11):=h11
 obtain⟨B,hB⟩:∃z,voiB p=z:=⟨_,rfl⟩
 have HB:Hid (voiB p=B):=hB
 clear hN hM h22 h28 h2 h11 hB
 by_cases hN:N=1
 ·subst hN
  cases b22
  ·have EC:ptxC h p=0:=by unfold ptxC;simp[HN.out,HM.out,H22.out,H28.out,H2.out,H11.out,HB.out]
   have E1:OO=none:=by rw[←EO.out];exact y_R (by rw[HP.out];exact EC)
   have E2:UU=none:=by rw[←EU.out];exact z_P (c:=0) (by rw[HP.out];exact EC) (by decide)
   subst E1
   subst E2
   clear EC EO EU
   have c75:=P0.out.pv.num (j:=75) (k:=.i64) rfl
   rw[HN.out] at c75
   have c22:=P0.out.pv.bit (j:=22) rfl
   rw[H22.out] at c22
   have c28:=P0.out.pv.bit (j:=28) rfl
   rw[H28.out] at c28
   have c66:=P0.out.pv.num (j:=66) (k:=.u8) rfl
   rw[HM.out] at c66
   have c2:=P0.out.pv.bit (j:=2) rfl
   rw[H2.out] at c2
   have c11:=P0.out.pv.bit (j:=11) rfl
   rw[H11.out] at c11
   have c64:=P0.out.pv.num (j:=64) (k:=.u8) rfl
   have t5:=P0.out.tre.var.tnum (j:=5) (k:=.u8) rfl
   clear HN HM H22 H28 H2 H11
   have lt9:=P0.out.tre.var.tld
   obtain⟨U,sU,h1,h2,gU⟩:=P0.out.tre.tell (y:=.slice (some ⟨g,o,none⟩) n c) rfl
   have G:Hid (RvAt U (w.heap.size+1) 39 (trc h (.slice (some ⟨g,o,none⟩) n c))∧SlAt U (some ⟨g,o,none⟩) n c l∧OutAt U (.slice none 0 0) none∧Below w.heap.size w U):=⟨h1,P0.out.sl.keptT P0.out.tre.out gU,rfl,h2⟩
   clear h1 h2 gU
   go_wp2
   refine bodyPost_ret (z_p results136 _ _ _ _ _ rfl G.out.1) rfl ?_
   exact⟨some ⟨g,o,none⟩,c,.slice none 0 0,rfl,G.out.2.1,G.out.2.2.1,G.out.2.2.2,Or.inl rfl⟩
  ·cases b28
   ·by_cases hM:M=0
    ·subst hM
     have EC:ptxC h p=2:=by unfold ptxC;simp[HN.out,HM.out,H22.out,H28.out,H2.out,H11.out,HB.out]
     have E1:OO=some (l.set k (waiP (remP p))):=by rw[←EO.out,x_v (c:=2) (by rw[HP.out];exact EC) (by decide),HP.out];rfl
     have E2:UU=none:=by rw[←EU.out];exact z_P (c:=2) (by rw[HP.out];exact EC) (by decide)
     subst E1
     subst E2
     clear EC EO EU
     have c75:=P0.out.pv.num (j:=75) (k:=.i64) rfl
     rw[HN.out] at c75
     have c22:=P0.out.pv.bit (j:=22) rfl
     rw[H22.out] at c22
     have c28:=P0.out.pv.bit (j:=28) rfl
     rw[H28.out] at c28
     have c66:=P0.out.pv.num (j:=66) (k:=.u8) rfl
     rw[HM.out] at c66
     have c2:=P0.out.pv.bit (j:=2) rfl
     rw[H2.out] at c2
     have c11:=P0.out.pv.bit (j:=11) rfl
     rw[H11.out] at c11
     have c64:=P0.out.pv.num (j:=64) (k:=.u8) rfl
     have t5:=P0.out.tre.var.tnum (j:=5) (k:=.u8) rfl
     clear HN HM H22 H28 H2 H11
     have lt9:=P0.out.tre.var.tld
     obtain⟨Y,hY,fY,bY⟩:=v_q W0 #[fv 178,fv 177]
     have qY:=bsF2 (.func 178) (.func 177) #[] #[] #[] #[] W0
     rw[hY] at qY
     have Q:Hid (TP w Y w.heap.size (w.heap.size+1) Z h g o n c l p∧FnAt Y W0.heap.size #[fv 178,fv 177]):=⟨P0.out.below bY,fY⟩
     clear fY bY hY
     go_wp2_with fail
     refine (z_bu 178 remP z_ct z_cq h (some ⟨g,o,none⟩) n c l k W0.heap.size Y Q.out.1.sl HL.out.2.1 HL.out.2.2 Q.out.2).mono ?_
     rintro _ X2 ⟨a2,c2,rfl,s2,b2,f2⟩
     have FR:Hid (Nw w a2):=f2.up Q.out.1.tre.bel.size
     clear f2
     rw[HP.out] at s2
     obtain⟨U,sU,h1,h2,gU⟩:=(Q.out.1.tre.below b2).tell (y:=.slice a2 n c2) rfl
     have G:Hid (RvAt U (w.heap.size+1) 39 (trc h (.slice a2 n c2))∧SlAt U a2 n c2 (l.set k (waiP (remP p)))∧OutAt U (.slice none 0 0) none∧Below w.heap.size w U):=⟨h1,s2.keptT (Q.out.1.tre.below b2).out gU,rfl,h2⟩
     clear h1 h2 gU s2 b2
     go_wp2
     refine bodyPost_ret (z_p results136 _ _ _ _ _ rfl G.out.1) rfl ?_
     exact⟨a2,c2,.slice none 0 0,rfl,G.out.2.1,G.out.2.2.1,G.out.2.2.2,Or.inr FR.out⟩
    ·have xM:(M==0)=false:=beq_eq_false_iff_ne.2 hM
     cases b2
     ·have EC:ptxC h p=0:=by unfold ptxC;simp[HN.out,HM.out,H22.out,H28.out,H2.out,H11.out,HB.out,hM]
      have E1:OO=none:=by rw[←EO.out];exact y_R (by rw[HP.out];exact EC)
      have E2:UU=none:=by rw[←EU.out];exact z_P (c:=0) (by rw[HP.out];exact EC) (by decide)
      subst E1
      subst E2
      clear EC EO EU
      have c75:=P0.out.pv.num (j:=75) (k:=.i64) rfl
      rw[HN.out] at c75
      have c22:=P0.out.pv.bit (j:=22) rfl
      rw[H22.out] at c22
      have c28:=P0.out.pv.bit (j:=28) rfl
      rw[H28.out] at c28
      have c66:=P0.out.pv.num (j:=66) (k:=.u8) rfl
      rw[HM.out] at c66
      have c2:=P0.out.pv.bit (j:=2) rfl
      rw[H2.out] at c2
      have c11:=P0.out.pv.bit (j:=11) rfl
      rw[H11.out] at c11
      have c64:=P0.out.pv.num (j:=64) (k:=.u8) rfl
      have t5:=P0.out.tre.var.tnum (j:=5) (k:=.u8) rfl
      clear hM
      clear HN HM H22 H28 H2 H11
      have lt9:=P0.out.tre.var.tld
      obtain⟨U,sU,h1,h2,gU⟩:=P0.out.tre.tell (y:=.slice (some ⟨g,o,none⟩) n c) rfl
      have G:Hid (RvAt U (w.heap.size+1) 39 (trc h (.slice (some ⟨g,o,none⟩) n c))∧SlAt U (some ⟨g,o,none⟩) n c l∧OutAt U (.slice none 0 0) none∧Below w.heap.size w U):=⟨h1,P0.out.sl.keptT P0.out.tre.out gU,rfl,h2⟩
      clear h1 h2 gU
      go_wp2
      refine bodyPost_ret (z_p results136 _ _ _ _ _ rfl G.out.1) rfl ?_
      exact⟨some ⟨g,o,none⟩,c,.slice none 0 0,rfl,G.out.2.1,G.out.2.2.1,G.out.2.2.2,Or.inl rfl⟩
     ·cases b11
      ·have EC:ptxC h p=0:=by unfold ptxC;simp[HN.out,HM.out,H22.out,H28.out,H2.out,H11.out,HB.out,hM]
       have E1:OO=none:=by rw[←EO.out];exact y_R (by rw[HP.out];exact EC)
       have E2:UU=none:=by rw[←EU.out];exact z_P (c:=0) (by rw[HP.out];exact EC) (by decide)
       subst E1
       subst E2
       clear EC EO EU
       have c75:=P0.out.pv.num (j:=75) (k:=.i64) rfl
       rw[HN.out] at c75
       have c22:=P0.out.pv.bit (j:=22) rfl
       rw[H22.out] at c22
       have c28:=P0.out.pv.bit (j:=28) rfl
       rw[H28.out] at c28
       have c66:=P0.out.pv.num (j:=66) (k:=.u8) rfl
       rw[HM.out] at c66
       have c2:=P0.out.pv.bit (j:=2) rfl
       rw[H2.out] at c2
       have c11:=P0.out.pv.bit (j:=11) rfl
       rw[H11.out] at c11
       have c64:=P0.out.pv.num (j:=64) (k:=.u8) rfl
       have t5:=P0.out.tre.var.tnum (j:=5) (k:=.u8) rfl
       clear hM
       clear HN HM H22 H28 H2 H11
       have lt9:=P0.out.tre.var.tld
       obtain⟨U,sU,h1,h2,gU⟩:=P0.out.tre.tell (y:=.slice (some ⟨g,o,none⟩) n c) rfl
       have G:Hid (RvAt U (w.heap.size+1) 39 (trc h (.slice (some ⟨g,o,none⟩) n c))∧SlAt U (some ⟨g,o,none⟩) n c l∧OutAt U (.slice none 0 0) none∧Below w.heap.size w U):=⟨h1,P0.out.sl.keptT P0.out.tre.out gU,rfl,h2⟩
       clear h1 h2 gU
       go_wp2
       refine bodyPost_ret (z_p results136 _ _ _ _ _ rfl G.out.1) rfl ?_
       exact⟨some ⟨g,o,none⟩,c,.slice none 0 0,rfl,G.out.2.1,G.out.2.2.1,G.out.2.2.2,Or.inl rfl⟩
      ·by_cases hT:p.nm 64<h.nm 5
       ·cases B
        ·have EC:ptxC h p=0:=by unfold ptxC;simp[HN.out,HM.out,H22.out,H28.out,H2.out,H11.out,HB.out,hM,hT]
         have E1:OO=none:=by rw[←EO.out];exact y_R (by rw[HP.out];exact EC)
         have E2:UU=none:=by rw[←EU.out];exact z_P (c:=0) (by rw[HP.out];exact EC) (by decide)
         subst E1
         subst E2
         clear EC EO EU
         have c75:=P0.out.pv.num (j:=75) (k:=.i64) rfl
         rw[HN.out] at c75
         have c22:=P0.out.pv.bit (j:=22) rfl
         rw[H22.out] at c22
         have c28:=P0.out.pv.bit (j:=28) rfl
         rw[H28.out] at c28
         have c66:=P0.out.pv.num (j:=66) (k:=.u8) rfl
         rw[HM.out] at c66
         have c2:=P0.out.pv.bit (j:=2) rfl
         rw[H2.out] at c2
         have c11:=P0.out.pv.bit (j:=11) rfl
         rw[H11.out] at c11
         have c64:=P0.out.pv.num (j:=64) (k:=.u8) rfl
         have t5:=P0.out.tre.var.tnum (j:=5) (k:=.u8) rfl
         clear hM
         clear HN HM H22 H28 H2 H11
         have lp1:=P0.out.pv.pld
         go_wp2_with fail
         refine (z_cF p W0).mono ?_
         rintro _ W1 ⟨rfl,b1⟩
         rw[HB.out]
         have P1:Hid (TP w W1 w.heap.size (w.heap.size+1) Z h g o n c l p):=P0.out.below b1
         clear b1 lp1 c75 c22 c28 c66 c2 c11 c64 t5 P0
         have lt9:=P1.out.tre.var.tld
         obtain⟨U,sU,h1,h2,gU⟩:=P1.out.tre.tell (y:=.slice (some ⟨g,o,none⟩) n c) rfl
         have G:Hid (RvAt U (w.heap.size+1) 39 (trc h (.slice (some ⟨g,o,none⟩) n c))∧SlAt U (some ⟨g,o,none⟩) n c l∧OutAt U (.slice none 0 0) none∧Below w.heap.size w U):=⟨h1,P1.out.sl.keptT P1.out.tre.out gU,rfl,h2⟩
         clear h1 h2 gU
         go_wp2
         refine bodyPost_ret (z_p results136 _ _ _ _ _ rfl G.out.1) rfl ?_
         exact⟨some ⟨g,o,none⟩,c,.slice none 0 0,rfl,G.out.2.1,G.out.2.2.1,G.out.2.2.2,Or.inl rfl⟩
        ·have EC:ptxC h p=3:=by unfold ptxC;simp[HN.out,HM.out,H22.out,H28.out,H2.out,H11.out,HB.out,hM,hT]
         have E1:OO=some (l.set k (waiP (sntP p))):=by rw[←EO.out,x_v (c:=3) (by rw[HP.out];exact EC) (by decide),HP.out];rfl
         have E2:UU=some (outI (k:Int) (msgP p)):=by rw[←EU.out,z_bv (by rw[HP.out];exact EC),HP.out]
         subst E1
         subst E2
         clear EC EO EU
         have c75:=P0.out.pv.num (j:=75) (k:=.i64) rfl
         rw[HN.out] at c75
         have c22:=P0.out.pv.bit (j:=22) rfl
         rw[H22.out] at c22
         have c28:=P0.out.pv.bit (j:=28) rfl
         rw[H28.out] at c28
         have c66:=P0.out.pv.num (j:=66) (k:=.u8) rfl
         rw[HM.out] at c66
         have c2:=P0.out.pv.bit (j:=2) rfl
         rw[H2.out] at c2
         have c11:=P0.out.pv.bit (j:=11) rfl
         rw[H11.out] at c11
         have c64:=P0.out.pv.num (j:=64) (k:=.u8) rfl
         have t5:=P0.out.tre.var.tnum (j:=5) (k:=.u8) rfl
         have H64:Hid (p.nm 64<255):=by have:=h.u8 (j:=5) rfl;exact (by omega:p.nm 64<255)
         have HWK:Hid ((Lit.int .i64 (k:Int)).wf=true):=wi_k (by have:=HL.out;omega)
         clear hM
         clear HN HM H22 H28 H2 H11
         have lp1:=P0.out.pv.pld
         go_wp2_with fail
         refine (z_cF p W0).mono ?_
         rintro _ W1 ⟨rfl,b1⟩
         rw[HB.out]
         have P1:Hid (TP w W1 w.heap.size (w.heap.size+1) Z h g o n c l p):=P0.out.below b1
         have lp2:=P1.out.pv.pld
         clear b1 lp1 c75 c22 c28 c66 c2 c11 c64 t5 P0
         go_wp2_with fail
         refine (z_jM p W1).mono ?_
         rintro _ W2 ⟨rfl,b2⟩
         obtain⟨W3,s3,r3,b3,z3⟩:=x_I W2 (msgP p)
         obtain⟨mb,hmb⟩:∃z,W2.heap.size=z:=⟨_,rfl⟩
         rw[hmb] at s3 r3
         have PX0':Hid (PX w W3 h g o n c l p mb):=⟨((P1.out.below b2).below b3).tre,((P1.out.below b2).below b3).sl,r3⟩
         clear b2 b3 r3 z3 lp2 P1
         go_upto_region 13 with fail
         clear s3 hmb
         obtain⟨RO,hRO⟩:∃z,outR (k:Int) HWK.out (msgP p)=z:=⟨_,rfl⟩
         have HRO:Hid (outR (k:Int) HWK.out (msgP p)=RO):=hRO
         have HRO2:Hid (outI (k:Int) (msgP p)=RO):=by rw[←hRO];exact z_em HWK.out _
         clear hRO
         have qO:∀q:World,(bdO #[(0,.int .i64 (k:Int)),(1,.agg (msgP p).cs)]).run prog q=.ok (.agg RO.cs) q:=fun q=>by rw[←HRO.out];exact z_is _ _ _ q
         obtain⟨FC,hFC⟩:∃z:Array Value,#[.func (.func 181) #[] #[.pointer (some ⟨mb,0,none⟩)],fv 177]=z:=⟨_,rfl⟩
         have HFC:Hid (FC=#[.func (.func 181) #[] #[.pointer (some ⟨mb,0,none⟩)],fv 177]):=hFC.symm
         clear hFC
         obtain⟨X0,hX0⟩:∃X0,World.drew W3=X0:=⟨_,rfl⟩
         have PX0:Hid (PX w X0 h g o n c l p mb):=by rw[←hX0];exact PX0'.out.below (Below.refl _ _).drew
         clear PX0'
         refine wp_region_noPanic ?_
         refine wp_region_held_drew (S:=fun w'=>RvAt w' w.heap.size 39 (trc h (.slice (some ⟨g,o,none⟩) n c))∧RvAt w' mb 46 (msgP p).cs) (by kernel_rfl) (by rw[hX0];exact PX0.out.held) (fun hHeld=>?_)
         rw[hX0] at hHeld ⊢
         clear hX0
         refine tk (oi:=z_ea) 0 ?_ rfl ?_ hHeld ?_
         rotate_left
         ·intro W_ hSw_
          have xt:=hSw_.1.tld;have xm:=hSw_.2.mld;clear hSw_
          go_simp<;>with_reducible rfl
         rotate_left
         refine tk (oi:=z_dZ) 1 ?_ rfl ?_ hHeld ?_
         rotate_left
         ·intro W_ hSw_
          have xt:=hSw_.1.tld;have xm:=hSw_.2.mld;clear hSw_
          go_simp<;>with_reducible rfl
         rotate_left
         refine tk (oi:=z_dY) 2 ?_ rfl ?_ hHeld ?_
         rotate_left
         ·intro W_ hSw_
          have xt:=hSw_.1.tld;have xm:=hSw_.2.mld;clear hSw_
          go_simp<;>with_reducible rfl
         rotate_left
         refine tk (oi:=z_dX) 5 ?_ rfl ?_ hHeld ?_
         rotate_left
         ·intro W_ hSw_
          have xt:=hSw_.1.tld;have xm:=hSw_.2.mld;clear hSw_
          go_simp<;>with_reducible rfl
         rotate_left
         refine tk (oi:=z_dW) 6 ?_ rfl ?_ hHeld ?_
         rotate_left
         ·intro W_ hSw_
          have xt:=hSw_.1.tld;have xm:=hSw_.2.mld;clear hSw_
          go_simp<;>with_reducible rfl
         rotate_left
         refine tk (oi:=z_dV) 7 ?_ rfl ?_ hHeld ?_
         rotate_left
         ·intro W_ hSw_
          have xt:=hSw_.1.tld;have xm:=hSw_.2.mld;clear hSw_
          go_simp<;>with_reducible rfl
         rotate_left
         try simp only[Act.put,zA,zB,zC]
         refine wpAnyH_ready (rs:=[3,8]) (by kernel_rfl) (by simp) ?_
         refine (AllReadyH.cons (o:=u_Z) rfl (fun K hK=>?_) (AllReadyH.cons (o:=x_R) rfl (fun K hK=>?_) AllReadyH.nil))
         ·skip
          obtain⟨Y1,hY,fY,bY⟩:=v_q X0 FC
          have qY:=bsF2 (.func 181) (.func 177) #[] #[.pointer (some ⟨mb,0,none⟩)] #[] #[] X0
          rw[show X0.alloc (.cells #[.func (.func 181) #[] #[.pointer (some ⟨mb,0,none⟩)],fv 177] 127)=Y1 from by rw[←hY,HFC.out]] at qY
          have FN1:Hid (FnAt Y1 X0.heap.size FC):=fY
          have PX1:Hid (PX w Y1 h g o n c l p mb):=PX0.out.below bY
          clear fY bY hY
          go_simp
          clear qY hHeld
          refine hK.out _ _ PX1.out.held (fun hHeld=>?_)
          clear hK K
          try simp only[Act.put,zA,zB,zC]
          refine wpAnyH_ready (rs:=[4,8]) (by kernel_rfl) (by simp) ?_
          refine (AllReadyH.cons (o:=v_j) rfl (fun K hK=>?_) (AllReadyH.cons (o:=x_R) rfl (fun K hK=>?_) AllReadyH.nil))
          ·skip
           go_simp
           refine (v_k h (some ⟨g,o,none⟩) n c l k X0.heap.size Y1 PX1.out.sl HL.out.2.1 HL.out.2.2 mb (by have:=FN1.out;rw[HFC.out] at this;exact this) (msgP p) PX1.out.mv (by rw[HP.out];exact w_P p) (by rw[HP.out];exact H64.out)).mono ?_
           rintro _ Y2 ⟨a2,c2,rfl,s2,b2,f2⟩
           have FR:Hid (Nw w a2):=f2.up PX1.out.tre.bel.size
           clear f2
           rw[HP.out] at s2
           have SL2:Hid (SlAt Y2 a2 n c2 (l.set k (waiP (sntP p)))):=s2
           have PX2:Hid (PX w Y2 h g o n c l p mb):=PX1.out.below b2
           have FN1_2:Hid (FnAt Y2 X0.heap.size FC):=FN1.out.below b2
           clear s2 b2 hHeld
           refine hK.out _ _ PX2.out.held (fun hHeld=>?_)
           clear hK K
           try simp only[Act.put,zA,zB,zC]
           refine wpAnyH_ready (rs:=[8,9]) (by kernel_rfl) (by simp) ?_
           refine (AllReadyH.cons (o:=x_R) rfl (fun K hK=>?_) (AllReadyH.cons (o:=x_Q) rfl (fun K hK=>?_) AllReadyH.nil))
           ·skip
            obtain⟨Y3,hY,fY,bY⟩:=v_p Y2 RO.cs
            have qY:=v_G (k:Int) HWK.out (msgP p) Y2
            rw[HRO.out,hY] at qY
            have OT3:Hid (RvAt Y3 Y2.heap.size 91 RO.cs):=fY
            have PX3:Hid (PX w Y3 h g o n c l p mb):=PX2.out.below bY
            have FN1_2_3:Hid (FnAt Y3 X0.heap.size FC):=FN1_2.out.below bY
            have SL2_3:Hid (SlAt Y3 a2 n c2 (l.set k (waiP (sntP p)))):=SL2.out.below bY
            clear fY bY hY
            go_simp
            clear qY hHeld
            refine hK.out _ _ PX3.out.held (fun hHeld=>?_)
            clear hK K
            try simp only[Act.put,zA,zB,zC]
            refine wpAnyH_ready (rs:=[9]) (by kernel_rfl) (by simp) ?_
            refine AllReadyH.cons (o:=x_Q) rfl (fun K hK=>?_) AllReadyH.nil
            obtain⟨Y4,sU,h1,h2,gU⟩:=PX3.out.tre.tell (y:=.slice a2 n c2) rfl
            have SV4:Hid (RvAt Y4 (w.heap.size+1) 39 (trc h (.slice a2 n c2))∧SlAt Y4 a2 n c2 (l.set k (waiP (sntP p)))∧Below w.heap.size w Y4):=⟨h1,SL2_3.out.keptT PX3.out.tre.out gU,h2⟩
            have HE4:Hid (RvAt Y4 w.heap.size 39 (trc h (.slice (some ⟨g,o,none⟩) n c))∧RvAt Y4 mb 46 (msgP p).cs):=PX3.out.kept gU
            have OT3_4:Hid (RvAt Y4 Y2.heap.size 91 RO.cs):=OT3.out.keptBut gU (by have:=OT3.out.apart PX3.out.tre.out (by decide);simpa using this)
            clear h1 h2 gU
            go_simp
            clear sU hHeld
            refine hK.out _ _ HE4.out (fun hHeld=>?_)
            clear hK K
            refine tk (oi:=x_u) 10 ?_ rfl ?_ hHeld ?_
            rotate_left
            ·intro W_ hSw_
             have xt:=hSw_.1.tld;have xm:=hSw_.2.mld;clear hSw_
             go_simp<;>with_reducible rfl
            rotate_left
            refine tk (oi:=x_t) 11 ?_ rfl ?_ hHeld ?_
            rotate_left
            ·intro W_ hSw_
             have xt:=hSw_.1.tld;have xm:=hSw_.2.mld;clear hSw_
             go_simp<;>with_reducible rfl
            rotate_left
            try simp only[Act.put,zA,zB,zC]
            refine wpAnyH_done (by kernel_rfl) ?_ _
            refine NoPanic.normal ?_
            clear hHeld
            go_wp2
            refine bodyPost_ret (z_p results136 _ _ _ _ _ rfl SV4.out.1) rfl ?_
            exact⟨a2,c2,_,rfl,SV4.out.2.1,⟨_,rfl,by rw[←HRO2.out] at OT3_4;exact OT3_4.out⟩,SV4.out.2.2,Or.inr FR.out⟩
           ·skip
            obtain⟨Y3,sU,h1,h2,gU⟩:=PX2.out.tre.tell (y:=.slice a2 n c2) rfl
            have SV3:Hid (RvAt Y3 (w.heap.size+1) 39 (trc h (.slice a2 n c2))∧SlAt Y3 a2 n c2 (l.set k (waiP (sntP p)))∧Below w.heap.size w Y3):=⟨h1,SL2.out.keptT PX2.out.tre.out gU,h2⟩
            have HE3:Hid (RvAt Y3 w.heap.size 39 (trc h (.slice (some ⟨g,o,none⟩) n c))∧RvAt Y3 mb 46 (msgP p).cs):=PX2.out.kept gU
            clear h1 h2 gU
            go_simp
            clear sU hHeld
            refine hK.out _ _ HE3.out (fun hHeld=>?_)
            clear hK K
            try simp only[Act.put,zA,zB,zC]
            refine wpAnyH_ready (rs:=[8]) (by kernel_rfl) (by simp) ?_
            refine AllReadyH.cons (o:=x_R) rfl (fun K hK=>?_) AllReadyH.nil
            obtain⟨Y4,hY,fY,bY⟩:=v_p Y3 RO.cs
            have qY:=v_G (k:Int) HWK.out (msgP p) Y3
            rw[HRO.out,hY] at qY
            have OT4:Hid (RvAt Y4 Y3.heap.size 91 RO.cs):=fY
            have SV4:Hid (RvAt Y4 (w.heap.size+1) 39 (trc h (.slice a2 n c2))∧SlAt Y4 a2 n c2 (l.set k (waiP (sntP p)))∧Below w.heap.size w Y4):=⟨SV3.out.1.below bY,SV3.out.2.1.below bY,z_a SV3.out.2.2 bY⟩
            have HE4:Hid (RvAt Y4 w.heap.size 39 (trc h (.slice (some ⟨g,o,none⟩) n c))∧RvAt Y4 mb 46 (msgP p).cs):=⟨HE3.out.1.below bY,HE3.out.2.below bY⟩
            clear fY bY hY
            go_simp
            clear qY hHeld
            refine hK.out _ _ HE4.out (fun hHeld=>?_)
            clear hK K
            refine tk (oi:=x_u) 10 ?_ rfl ?_ hHeld ?_
            rotate_left
            ·intro W_ hSw_
             have xt:=hSw_.1.tld;have xm:=hSw_.2.mld;clear hSw_
             go_simp<;>with_reducible rfl
            rotate_left
            refine tk (oi:=x_t) 11 ?_ rfl ?_ hHeld ?_
            rotate_left
            ·intro W_ hSw_
             have xt:=hSw_.1.tld;have xm:=hSw_.2.mld;clear hSw_
             go_simp<;>with_reducible rfl
            rotate_left
            try simp only[Act.put,zA,zB,zC]
            refine wpAnyH_done (by kernel_rfl) ?_ _
            refine NoPanic.normal ?_
            clear hHeld
            go_wp2
            refine bodyPost_ret (z_p results136 _ _ _ _ _ rfl SV4.out.1) rfl ?_
            exact⟨a2,c2,_,rfl,SV4.out.2.1,⟨_,rfl,by rw[←HRO2.out] at OT4;exact OT4.out⟩,SV4.out.2.2,Or.inr FR.out⟩
          ·skip
           obtain⟨Y2,hY,fY,bY⟩:=v_p Y1 RO.cs
           have qY:=v_G (k:Int) HWK.out (msgP p) Y1
           rw[HRO.out,hY] at qY
           have OT2:Hid (RvAt Y2 Y1.heap.size 91 RO.cs):=fY
           have PX2:Hid (PX w Y2 h g o n c l p mb):=PX1.out.below bY
           have FN1_2:Hid (FnAt Y2 X0.heap.size FC):=FN1.out.below bY
           clear fY bY hY
           go_simp
           clear qY hHeld
           refine hK.out _ _ PX2.out.held (fun hHeld=>?_)
           clear hK K
           try simp only[Act.put,zA,zB,zC]
           refine wpAnyH_ready (rs:=[4]) (by kernel_rfl) (by simp) ?_
           refine AllReadyH.cons (o:=v_j) rfl (fun K hK=>?_) AllReadyH.nil
           go_simp
           refine (v_k h (some ⟨g,o,none⟩) n c l k X0.heap.size Y2 PX2.out.sl HL.out.2.1 HL.out.2.2 mb (by have:=FN1_2.out;rw[HFC.out] at this;exact this) (msgP p) PX2.out.mv (by rw[HP.out];exact w_P p) (by rw[HP.out];exact H64.out)).mono ?_
           rintro _ Y3 ⟨a2,c2,rfl,s2,b2,f2⟩
           have FR:Hid (Nw w a2):=f2.up PX2.out.tre.bel.size
           clear f2
           rw[HP.out] at s2
           have SL3:Hid (SlAt Y3 a2 n c2 (l.set k (waiP (sntP p)))):=s2
           have PX3:Hid (PX w Y3 h g o n c l p mb):=PX2.out.below b2
           have FN1_2_3:Hid (FnAt Y3 X0.heap.size FC):=FN1_2.out.below b2
           have OT2_3:Hid (RvAt Y3 Y1.heap.size 91 RO.cs):=OT2.out.below b2
           clear s2 b2 hHeld
           refine hK.out _ _ PX3.out.held (fun hHeld=>?_)
           clear hK K
           try simp only[Act.put,zA,zB,zC]
           refine wpAnyH_ready (rs:=[9]) (by kernel_rfl) (by simp) ?_
           refine AllReadyH.cons (o:=x_Q) rfl (fun K hK=>?_) AllReadyH.nil
           obtain⟨Y4,sU,h1,h2,gU⟩:=PX3.out.tre.tell (y:=.slice a2 n c2) rfl
           have SV4:Hid (RvAt Y4 (w.heap.size+1) 39 (trc h (.slice a2 n c2))∧SlAt Y4 a2 n c2 (l.set k (waiP (sntP p)))∧Below w.heap.size w Y4):=⟨h1,SL3.out.keptT PX3.out.tre.out gU,h2⟩
           have HE4:Hid (RvAt Y4 w.heap.size 39 (trc h (.slice (some ⟨g,o,none⟩) n c))∧RvAt Y4 mb 46 (msgP p).cs):=PX3.out.kept gU
           have OT2_3_4:Hid (RvAt Y4 Y1.heap.size 91 RO.cs):=OT2_3.out.keptBut gU (by have:=OT2_3.out.apart PX3.out.tre.out (by decide);simpa using this)
           clear h1 h2 gU
           go_simp
           clear sU hHeld
           refine hK.out _ _ HE4.out (fun hHeld=>?_)
           clear hK K
           refine tk (oi:=x_u) 10 ?_ rfl ?_ hHeld ?_
           rotate_left
           ·intro W_ hSw_
            have xt:=hSw_.1.tld;have xm:=hSw_.2.mld;clear hSw_
            go_simp<;>with_reducible rfl
           rotate_left
           refine tk (oi:=x_t) 11 ?_ rfl ?_ hHeld ?_
           rotate_left
           ·intro W_ hSw_
            have xt:=hSw_.1.tld;have xm:=hSw_.2.mld;clear hSw_
            go_simp<;>with_reducible rfl
           rotate_left
           try simp only[Act.put,zA,zB,zC]
           refine wpAnyH_done (by kernel_rfl) ?_ _
           refine NoPanic.normal ?_
           clear hHeld
           go_wp2
           refine bodyPost_ret (z_p results136 _ _ _ _ _ rfl SV4.out.1) rfl ?_
           exact⟨a2,c2,_,rfl,SV4.out.2.1,⟨_,rfl,by rw[←HRO2.out] at OT2_3_4;exact OT2_3_4.out⟩,SV4.out.2.2,Or.inr FR.out⟩
         ·skip
          obtain⟨Y1,hY,fY,bY⟩:=v_p X0 RO.cs
          have qY:=v_G (k:Int) HWK.out (msgP p) X0
          rw[HRO.out,hY] at qY
          have OT1:Hid (RvAt Y1 X0.heap.size 91 RO.cs):=fY
          have PX1:Hid (PX w Y1 h g o n c l p mb):=PX0.out.below bY
          clear fY bY hY
          go_simp
          clear qY hHeld
          refine hK.out _ _ PX1.out.held (fun hHeld=>?_)
          clear hK K
          try simp only[Act.put,zA,zB,zC]
          refine wpAnyH_ready (rs:=[3]) (by kernel_rfl) (by simp) ?_
          refine AllReadyH.cons (o:=u_Z) rfl (fun K hK=>?_) AllReadyH.nil
          obtain⟨Y2,hY,fY,bY⟩:=v_q Y1 FC
          have qY:=bsF2 (.func 181) (.func 177) #[] #[.pointer (some ⟨mb,0,none⟩)] #[] #[] Y1
          rw[show Y1.alloc (.cells #[.func (.func 181) #[] #[.pointer (some ⟨mb,0,none⟩)],fv 177] 127)=Y2 from by rw[←hY,HFC.out]] at qY
          have FN2:Hid (FnAt Y2 Y1.heap.size FC):=fY
          have PX2:Hid (PX w Y2 h g o n c l p mb):=PX1.out.below bY
          have OT1_2:Hid (RvAt Y2 X0.heap.size 91 RO.cs):=OT1.out.below bY
          clear fY bY hY
          go_simp
          clear qY hHeld
          refine hK.out _ _ PX2.out.held (fun hHeld=>?_)
          clear hK K
          try simp only[Act.put,zA,zB,zC]
          refine wpAnyH_ready (rs:=[4]) (by kernel_rfl) (by simp) ?_
          refine AllReadyH.cons (o:=v_j) rfl (fun K hK=>?_) AllReadyH.nil
          go_simp
          refine (v_k h (some ⟨g,o,none⟩) n c l k Y1.heap.size Y2 PX2.out.sl HL.out.2.1 HL.out.2.2 mb (by have:=FN2.out;rw[HFC.out] at this;exact this) (msgP p) PX2.out.mv (by rw[HP.out];exact w_P p) (by rw[HP.out];exact H64.out)).mono ?_
          rintro _ Y3 ⟨a2,c2,rfl,s2,b2,f2⟩
          have FR:Hid (Nw w a2):=f2.up PX2.out.tre.bel.size
          clear f2
          rw[HP.out] at s2
          have SL3:Hid (SlAt Y3 a2 n c2 (l.set k (waiP (sntP p)))):=s2
          have PX3:Hid (PX w Y3 h g o n c l p mb):=PX2.out.below b2
          have FN2_3:Hid (FnAt Y3 Y1.heap.size FC):=FN2.out.below b2
          have OT1_2_3:Hid (RvAt Y3 X0.heap.size 91 RO.cs):=OT1_2.out.below b2
          clear s2 b2 hHeld
          refine hK.out _ _ PX3.out.held (fun hHeld=>?_)
          clear hK K
          try simp only[Act.put,zA,zB,zC]
          refine wpAnyH_ready (rs:=[9]) (by kernel_rfl) (by simp) ?_
          refine AllReadyH.cons (o:=x_Q) rfl (fun K hK=>?_) AllReadyH.nil
          obtain⟨Y4,sU,h1,h2,gU⟩:=PX3.out.tre.tell (y:=.slice a2 n c2) rfl
          have SV4:Hid (RvAt Y4 (w.heap.size+1) 39 (trc h (.slice a2 n c2))∧SlAt Y4 a2 n c2 (l.set k (waiP (sntP p)))∧Below w.heap.size w Y4):=⟨h1,SL3.out.keptT PX3.out.tre.out gU,h2⟩
          have HE4:Hid (RvAt Y4 w.heap.size 39 (trc h (.slice (some ⟨g,o,none⟩) n c))∧RvAt Y4 mb 46 (msgP p).cs):=PX3.out.kept gU
          have OT1_2_3_4:Hid (RvAt Y4 X0.heap.size 91 RO.cs):=OT1_2_3.out.keptBut gU (by have:=OT1_2_3.out.apart PX3.out.tre.out (by decide);simpa using this)
          clear h1 h2 gU
          go_simp
          clear sU hHeld
          refine hK.out _ _ HE4.out (fun hHeld=>?_)
          clear hK K
          refine tk (oi:=x_u) 10 ?_ rfl ?_ hHeld ?_
          rotate_left
          ·intro W_ hSw_
           have xt:=hSw_.1.tld;have xm:=hSw_.2.mld;clear hSw_
           go_simp<;>with_reducible rfl
          rotate_left
          refine tk (oi:=x_t) 11 ?_ rfl ?_ hHeld ?_
          rotate_left
          ·intro W_ hSw_
           have xt:=hSw_.1.tld;have xm:=hSw_.2.mld;clear hSw_
           go_simp<;>with_reducible rfl
          rotate_left
          try simp only[Act.put,zA,zB,zC]
          refine wpAnyH_done (by kernel_rfl) ?_ _
          refine NoPanic.normal ?_
          clear hHeld
          go_wp2
          refine bodyPost_ret (z_p results136 _ _ _ _ _ rfl SV4.out.1) rfl ?_
          exact⟨a2,c2,_,rfl,SV4.out.2.1,⟨_,rfl,by rw[←HRO2.out] at OT1_2_3_4;exact OT1_2_3_4.out⟩,SV4.out.2.2,Or.inr FR.out⟩
       ·have EC:ptxC h p=0:=by unfold ptxC;simp[HN.out,HM.out,H22.out,H28.out,H2.out,H11.out,HB.out,hM,hT]
        have E1:OO=none:=by rw[←EO.out];exact y_R (by rw[HP.out];exact EC)
        have E2:UU=none:=by rw[←EU.out];exact z_P (c:=0) (by rw[HP.out];exact EC) (by decide)
        subst E1
        subst E2
        clear EC EO EU
        have c75:=P0.out.pv.num (j:=75) (k:=.i64) rfl
        rw[HN.out] at c75
        have c22:=P0.out.pv.bit (j:=22) rfl
        rw[H22.out] at c22
        have c28:=P0.out.pv.bit (j:=28) rfl
        rw[H28.out] at c28
        have c66:=P0.out.pv.num (j:=66) (k:=.u8) rfl
        rw[HM.out] at c66
        have c2:=P0.out.pv.bit (j:=2) rfl
        rw[H2.out] at c2
        have c11:=P0.out.pv.bit (j:=11) rfl
        rw[H11.out] at c11
        have c64:=P0.out.pv.num (j:=64) (k:=.u8) rfl
        have t5:=P0.out.tre.var.tnum (j:=5) (k:=.u8) rfl
        clear hM
        clear HN HM H22 H28 H2 H11
        have lt9:=P0.out.tre.var.tld
        obtain⟨U,sU,h1,h2,gU⟩:=P0.out.tre.tell (y:=.slice (some ⟨g,o,none⟩) n c) rfl
        have G:Hid (RvAt U (w.heap.size+1) 39 (trc h (.slice (some ⟨g,o,none⟩) n c))∧SlAt U (some ⟨g,o,none⟩) n c l∧OutAt U (.slice none 0 0) none∧Below w.heap.size w U):=⟨h1,P0.out.sl.keptT P0.out.tre.out gU,rfl,h2⟩
        clear h1 h2 gU
        go_wp2
        refine bodyPost_ret (z_p results136 _ _ _ _ _ rfl G.out.1) rfl ?_
        exact⟨some ⟨g,o,none⟩,c,.slice none 0 0,rfl,G.out.2.1,G.out.2.2.1,G.out.2.2.2,Or.inl rfl⟩
   ·have EC:ptxC h p=0:=by unfold ptxC;simp[HN.out,HM.out,H22.out,H28.out,H2.out,H11.out,HB.out]
    have E1:OO=none:=by rw[←EO.out];exact y_R (by rw[HP.out];exact EC)
    have E2:UU=none:=by rw[←EU.out];exact z_P (c:=0) (by rw[HP.out];exact EC) (by decide)
    subst E1
    subst E2
    clear EC EO EU
    have c75:=P0.out.pv.num (j:=75) (k:=.i64) rfl
    rw[HN.out] at c75
    have c22:=P0.out.pv.bit (j:=22) rfl
    rw[H22.out] at c22
    have c28:=P0.out.pv.bit (j:=28) rfl
    rw[H28.out] at c28
    have c66:=P0.out.pv.num (j:=66) (k:=.u8) rfl
    rw[HM.out] at c66
    have c2:=P0.out.pv.bit (j:=2) rfl
    rw[H2.out] at c2
    have c11:=P0.out.pv.bit (j:=11) rfl
    rw[H11.out] at c11
    have c64:=P0.out.pv.num (j:=64) (k:=.u8) rfl
    have t5:=P0.out.tre.var.tnum (j:=5) (k:=.u8) rfl
    clear HN HM H22 H28 H2 H11
    have lt9:=P0.out.tre.var.tld
    obtain⟨U,sU,h1,h2,gU⟩:=P0.out.tre.tell (y:=.slice (some ⟨g,o,none⟩) n c) rfl
    have G:Hid (RvAt U (w.heap.size+1) 39 (trc h (.slice (some ⟨g,o,none⟩) n c))∧SlAt U (some ⟨g,o,none⟩) n c l∧OutAt U (.slice none 0 0) none∧Below w.heap.size w U):=⟨h1,P0.out.sl.keptT P0.out.tre.out gU,rfl,h2⟩
    clear h1 h2 gU
    go_wp2
    refine bodyPost_ret (z_p results136 _ _ _ _ _ rfl G.out.1) rfl ?_
    exact⟨some ⟨g,o,none⟩,c,.slice none 0 0,rfl,G.out.2.1,G.out.2.2.1,G.out.2.2.2,Or.inl rfl⟩
 ·have xN:(N==1)=false:=beq_eq_false_iff_ne.2 hN
  have yN:(N != 1)=true:=by simp[hN]
  have EC:ptxC h p=1:=by unfold ptxC;simp[HN.out,HM.out,H22.out,H28.out,H2.out,H11.out,HB.out,hN]
  have E1:OO=some (l.set k (waiP (begP p))):=by rw[←EO.out,x_v (c:=1) (by rw[HP.out];exact EC) (by decide),HP.out];rfl
  have E2:UU=none:=by rw[←EU.out];exact z_P (c:=1) (by rw[HP.out];exact EC) (by decide)
  subst E1
  subst E2
  clear EC EO EU
  have c75:=P0.out.pv.num (j:=75) (k:=.i64) rfl
  rw[HN.out] at c75
  have c22:=P0.out.pv.bit (j:=22) rfl
  rw[H22.out] at c22
  have c28:=P0.out.pv.bit (j:=28) rfl
  rw[H28.out] at c28
  have c66:=P0.out.pv.num (j:=66) (k:=.u8) rfl
  rw[HM.out] at c66
  have c2:=P0.out.pv.bit (j:=2) rfl
  rw[H2.out] at c2
  have c11:=P0.out.pv.bit (j:=11) rfl
  rw[H11.out] at c11
  have c64:=P0.out.pv.num (j:=64) (k:=.u8) rfl
  have t5:=P0.out.tre.var.tnum (j:=5) (k:=.u8) rfl
  clear hN
  clear HN HM H22 H28 H2 H11
  have lt9:=P0.out.tre.var.tld
  obtain⟨Y,hY,fY,bY⟩:=v_q W0 #[fv 176,fv 177]
  have qY:=bsF2 (.func 176) (.func 177) #[] #[] #[] #[] W0
  rw[hY] at qY
  have Q:Hid (TP w Y w.heap.size (w.heap.size+1) Z h g o n c l p∧FnAt Y W0.heap.size #[fv 176,fv 177]):=⟨P0.out.below bY,fY⟩
  clear fY bY hY
  go_wp2_with fail
  refine (z_bu 176 begP z_fq z_eW h (some ⟨g,o,none⟩) n c l k W0.heap.size Y Q.out.1.sl HL.out.2.1 HL.out.2.2 Q.out.2).mono ?_
  rintro _ X2 ⟨a2,c2,rfl,s2,b2,f2⟩
  have FR:Hid (Nw w a2):=f2.up Q.out.1.tre.bel.size
  clear f2
  rw[HP.out] at s2
  obtain⟨U,sU,h1,h2,gU⟩:=(Q.out.1.tre.below b2).tell (y:=.slice a2 n c2) rfl
  have G:Hid (RvAt U (w.heap.size+1) 39 (trc h (.slice a2 n c2))∧SlAt U a2 n c2 (l.set k (waiP (begP p)))∧OutAt U (.slice none 0 0) none∧Below w.heap.size w U):=⟨h1,s2.keptT (Q.out.1.tre.below b2).out gU,rfl,h2⟩
  clear h1 h2 gU s2 b2
  go_wp2
  refine bodyPost_ret (z_p results136 _ _ _ _ _ rfl G.out.1) rfl ?_
  exact⟨a2,c2,.slice none 0 0,rfl,G.out.2.1,G.out.2.2.1,G.out.2.2.2,Or.inr FR.out⟩
end S15
end
section
namespace S15
open Go.RowKit
def eqPs:List Pt→List Pt→Bool
 | [],[]=>true
 | a::l,b::m=>a.eq b && eqPs l m
 | _,_=>false
theorem w_T:∀{l m:List Pt},eqPs l m=true↔l=m
 | [],[]=>by simp[eqPs]
 | a::l,b::m=>by
  have e:=w_T (l:=l) (m:=m)
  simp only[eqPs,Bool.and_eq_true,List.cons.injEq]
  rw[Row.eq_iff,e]
 | [],_::_=>by simp[eqPs]
 | _::_,[]=>by simp[eqPs]
theorem z_eS (l:List Pt):eqPs l l=true:=w_T.2 rfl
def sameT (h g:Hd) (l m:List Pt):Bool:=h.eq g && eqPs l m
theorem v_e {h g:Hd} {l m:List Pt}:sameT h g l m=true↔h=g∧l=m:=by
 unfold sameT
 rw[Bool.and_eq_true,Row.eq_iff,w_T]
theorem z_cb (h:Hd) (l:List Pt):sameT h h l l=true:=v_e.2 ⟨rfl,rfl⟩
theorem z_H {h g:Hd} {l m:List Pt} (x:¬ (h=g∧l=m)):sameT h g l m=false:=by
 cases e:sameT h g l m with
 | false=>rfl
 | true=>exact absurd (v_e.1 e) x
theorem z_fS {h g:Hd} {l m:List Pt} (x:h=g):sameT h g l m=eqPs l m:=by
 rw[Bool.eq_iff_iff,v_e,w_T]
 exact⟨fun y=>y.2,fun y=>⟨x,y⟩⟩
theorem z_gX {h g:Hd} (e0:h.nm 0=g.nm 0) (e1:tOfH h=tOfH g) (e2:h.nm 5=g.nm 5) (e3:h.bt 6=g.bt 6) (e4:h.nm 7=g.nm 7) (e5:rOf h=rOf g) (e6:uOf h=uOf g):h=g:=by
 have q1:=congrArg Row.cl e1
 have q5:=congrArg Row.cl e5
 have q6:=congrArg Row.cl e6
 simp only[tOfH,rOf,uOf] at q1 q5 q6
 have sub:∀(o:Nat),(h.cl.drop o).take 4=(g.cl.drop o).take 4→∀j,j<4→h.cl[o+j]?=g.cl[o+j]?:=fun o q j hj=>by
  have:=congrArg (fun x=>x[j]?) q
  simp only[List.getElem?_take,if_pos hj,List.getElem?_drop] at this
  exact this
 refine Row.same fun j hj=>?_
 rw[lenH] at hj
 have c0:h.cl[0]?=g.cl[0]?:=by rw[h.num (j:=0) rfl,g.num (j:=0) rfl,e0]
 have c5:h.cl[5]?=g.cl[5]?:=by rw[h.num (j:=5) rfl,g.num (j:=5) rfl,e2]
 have c6:h.cl[6]?=g.cl[6]?:=by rw[h.bit (j:=6) rfl,g.bit (j:=6) rfl,e3]
 have c7:h.cl[7]?=g.cl[7]?:=by rw[h.num (j:=7) rfl,g.num (j:=7) rfl,e4]
 match j,hj with
 | 0,_=>exact c0
 | 1,_=>exact sub 1 q1 0 (by omega)
 | 2,_=>exact sub 1 q1 1 (by omega)
 | 3,_=>exact sub 1 q1 2 (by omega)
 | 4,_=>exact sub 1 q1 3 (by omega)
 | 5,_=>exact c5
 | 6,_=>exact c6
 | 7,_=>exact c7
 | 8,_=>exact sub 8 q5 0 (by omega)
 | 9,_=>exact sub 8 q5 1 (by omega)
 | 10,_=>exact sub 8 q5 2 (by omega)
 | 11,_=>exact sub 8 q5 3 (by omega)
 | 12,_=>exact sub 12 q6 0 (by omega)
 | 13,_=>exact sub 12 q6 1 (by omega)
 | 14,_=>exact sub 12 q6 2 (by omega)
 | 15,_=>exact sub 12 q6 3 (by omega)
 | j+16,hj=>omega
theorem w_S {ks:List (Option IntKind)} {a b:Row ks} (h:a≠b):a.eq b=false:=by
 cases e:a.eq b with
 | false=>rfl
 | true=>exact absurd (Row.eq_iff.1 e) h
theorem z_cP {l m:List Pt} {i:Nat} (hi:i<l.length) (hm:i<m.length) (h:l.take i=m.take i) (e:l[i]=m[i]):l.take (i+1)=m.take (i+1):=by
 rw[List.take_add_one,List.take_add_one,List.getElem?_eq_getElem hi,List.getElem?_eq_getElem hm,h,e]
attribute [local go_sem ↓] ldP stP ldT stT ldTm ldV eqgP neqP eqgTm neqTm eqlTm eqgV neqV eqlV
theorem z_kG (w:World) (h g:Hd) (x y:Value):∃W,(w.alloc (.cells (trc h x) 39)).alloc (.cells (trc g y) 39)=W∧RvAt W w.heap.size 39 (trc h x)∧RvAt W (w.heap.size+1) 39 (trc g y)∧Below w.heap.size w W∧W.heap.size=w.heap.size+2:=by
 obtain⟨A,hA⟩:∃A,w.alloc (.cells (trc h x) 39)=A:=⟨_,rfl⟩
 have bA:Below w.heap.size w A:=by rw[←hA];exact (Below.refl _ _).alloc (Nat.le_refl _) _
 have rA:RvAt A w.heap.size 39 (trc h x):=by rw[←hA];exact RvAt.new w _ _
 have zA:A.heap.size=w.heap.size+1:=by rw[←hA];simp
 rw[hA]
 have bB:Below A.heap.size A (A.alloc (.cells (trc g y) 39)):=(Below.refl _ _).alloc (Nat.le_refl _) _
 refine⟨_,rfl,rA.below bB,?_,z_a bA bB,by simp[zA]⟩
 rw[←zA]
 exact RvAt.new A _ _
theorem z_dt (h g:Hd) (a a':Option Addr) (n n' c c':Nat) (l m:List Pt) (w:World) (hs:SlAt w a n c l) (hs':SlAt w a' n' c' m) (hn:n≤1000) (hn':n'≤1000) :
  Calls prog 24 #[.agg (trc h (.slice a n c)),.agg (trc g (.slice a' n' c'))] w fun r w'=>r=.returned (.bool (sameT h g l m))∧Below w.heap.size w w':=by
 obtain⟨W,hW,r0,r1,bW,zW⟩:=z_kG w h g (.slice a n c) (.slice a' n' c')
 have H:Hid (SlAt W a n c l∧SlAt W a' n' c' m∧n≤1000∧n'≤1000∧l.length=n∧m.length=n'∧Below w.heap.size w W∧RvAt W w.heap.size 39 (trc h (.slice a n c))∧RvAt W (w.heap.size+1) 39 (trc g (.slice a' n' c'))):=⟨hs.below bW,hs'.below bW,hn,hn',hs.len,hs'.len,bW,r0,r1⟩
 have x0:=r0.tnum (j:=0) rfl
 have y0:=r1.tnum (j:=0) rfl
 have x1:=r0.tT
 have y1:=r1.tT
 have x2:=r0.tnum (j:=5) rfl
 have y2:=r1.tnum (j:=5) rfl
 have x3:=r0.tbit (j:=6) rfl
 have y3:=r1.tbit (j:=6) rfl
 have x4:=r0.tnum (j:=7) rfl
 have y4:=r1.tnum (j:=7) rfl
 have x5:=r0.tR
 have y5:=r1.tR
 have x6:=r0.tU
 have y6:=r1.tU
 have x7:=r0.t16
 have y7:=r1.t16
 clear hs hs' r0 r1 bW zW
 obtain⟨i0,hi0⟩:∃z,h.nm 0=z:=⟨_,rfl⟩
 obtain⟨j0,hj0⟩:∃z,g.nm 0=z:=⟨_,rfl⟩
 obtain⟨i2,hi2⟩:∃z,h.nm 5=z:=⟨_,rfl⟩
 obtain⟨j2,hj2⟩:∃z,g.nm 5=z:=⟨_,rfl⟩
 obtain⟨i3,hi3⟩:∃z,h.bt 6=z:=⟨_,rfl⟩
 obtain⟨j3,hj3⟩:∃z,g.bt 6=z:=⟨_,rfl⟩
 obtain⟨i4,hi4⟩:∃z,h.nm 7=z:=⟨_,rfl⟩
 obtain⟨j4,hj4⟩:∃z,g.nm 7=z:=⟨_,rfl⟩
 rw[hi0] at x0
 rw[hj0] at y0
 rw[hi2] at x2
 rw[hj2] at y2
 rw[hi3] at x3
 rw[hj3] at y3
 rw[hi4] at x4
 rw[hj4] at y4
 have E:Hid (h.nm 0=i0∧g.nm 0=j0∧h.nm 5=i2∧g.nm 5=j2∧h.bt 6=i3∧g.bt 6=j3∧h.nm 7=i4∧g.nm 7=j4):=⟨hi0,hj0,hi2,hj2,hi3,hj3,hi4,hj4⟩
 clear hi0 hj0 hi2 hj2 hi3 hj3 hi4 hj4
 go_enter func24,ntmps24
 by_cases k0:i0=j0
 rotate_left
 ·have kb:(i0==j0)=false:=by simpa using k0
  have N:Hid (¬ (h=g∧l=m)):=fun e=>k0 (by rw[←E.out.1,← E.out.2.1,e.1])
  go_wp2
  go_ret
  exact⟨by rw[z_H N.out];rfl,H.out.2.2.2.2.2.2.1⟩
 subst k0
 by_cases k1:tOfH h=tOfH g
 rotate_left
 ·have kb:(tOfH h).eq (tOfH g)=false:=w_S k1
  have N:Hid (¬ (h=g∧l=m)):=fun e=>k1 (by rw[e.1])
  go_wp2
  go_ret
  exact⟨by rw[z_H N.out];rfl,H.out.2.2.2.2.2.2.1⟩
 have kb1:(tOfH h).eq (tOfH g)=true:=Row.eq_iff.2 k1
 have KB1:Hid (tOfH h=tOfH g):=k1
 clear k1
 by_cases k2:i2=j2
 rotate_left
 ·have kb:(i2==j2)=false:=by simpa using k2
  have N:Hid (¬ (h=g∧l=m)):=fun e=>k2 (by rw[←E.out.2.2.1,← E.out.2.2.2.1,e.1])
  go_wp2
  go_ret
  exact⟨by rw[z_H N.out];rfl,H.out.2.2.2.2.2.2.1⟩
 subst k2
 by_cases k3:i3=j3
 rotate_left
 ·have N:Hid (¬ (h=g∧l=m)):=fun e=>k3 (by rw[←E.out.2.2.2.2.1,← E.out.2.2.2.2.2.1,e.1])
  cases i3<;>cases j3
  ·exact absurd rfl k3
  ·go_wp2
   go_ret
   exact⟨by rw[z_H N.out];rfl,H.out.2.2.2.2.2.2.1⟩
  ·go_wp2
   go_ret
   exact⟨by rw[z_H N.out];rfl,H.out.2.2.2.2.2.2.1⟩
  ·exact absurd rfl k3
 subst k3
 by_cases k4:i4=j4
 rotate_left
 ·have kb:(i4==j4)=false:=by simpa using k4
  have N:Hid (¬ (h=g∧l=m)):=fun e=>k4 (by rw[←E.out.2.2.2.2.2.2.1,← E.out.2.2.2.2.2.2.2,e.1])
  go_wp2
  go_ret
  exact⟨by rw[z_H N.out];rfl,H.out.2.2.2.2.2.2.1⟩
 subst k4
 by_cases k5:rOf h=rOf g
 rotate_left
 ·have kb:(rOf h).eq (rOf g)=false:=w_S k5
  have N:Hid (¬ (h=g∧l=m)):=fun e=>k5 (by rw[e.1])
  go_wp2
  go_ret
  exact⟨by rw[z_H N.out];rfl,H.out.2.2.2.2.2.2.1⟩
 have kb5:(rOf h).eq (rOf g)=true:=Row.eq_iff.2 k5
 have KB5:Hid (rOf h=rOf g):=k5
 clear k5
 by_cases k6:uOf h=uOf g
 rotate_left
 ·have kb:(uOf h).eq (uOf g)=false:=w_S k6
  have N:Hid (¬ (h=g∧l=m)):=fun e=>k6 (by rw[e.1])
  go_wp2
  go_ret
  exact⟨by rw[z_H N.out];rfl,H.out.2.2.2.2.2.2.1⟩
 have kb6:(uOf h).eq (uOf g)=true:=Row.eq_iff.2 k6
 have KB6:Hid (uOf h=uOf g):=k6
 clear k6
 have HE:Hid (h=g):=z_gX (E.out.1.trans E.out.2.1.symm) KB1.out (E.out.2.2.1.trans E.out.2.2.2.1.symm) (E.out.2.2.2.2.1.trans E.out.2.2.2.2.2.1.symm) (E.out.2.2.2.2.2.2.1.trans E.out.2.2.2.2.2.2.2.symm) KB5.out KB6.out
 by_cases he:n=n'
 rotate_left
 ·have hne:¬ (n:Int)=(n':Int):=by omega
  have hnb:((n:Int)==(n':Int))=false:=by simpa using hne
  have N:Hid (¬ (h=g∧l=m)):=fun e=>he (by rw[←H.out.2.2.2.2.1,← H.out.2.2.2.2.2.1,e.2])
  go_wp2
  go_ret
  exact⟨by rw[z_H N.out];rfl,H.out.2.2.2.2.2.2.1⟩
 subst he
 go_wp2_with fail
 clear x0 y0 x1 y1 x2 y2 x3 y3 x4 y4 x5 y5 x6 y6 x7 y7
 go_loopw [5] (fun v5 wr=>∃i:Nat,i≤n∧v5=.int .i64 i∧l.take i=m.take i∧Below W.heap.size W wr) (fun v5 _=>n-(intOf v5).toNat)
 case atStart=>exact⟨0,by omega,rfl,rfl,by first|exact Below.refl _ _ | (rw[←hW];exact Below.refl _ _)⟩
 case round=>
  obtain⟨i,hi,rfl,ht,hB⟩:=hrel
  have J:Hid (l.take i=m.take i∧Below W.heap.size W wr):=⟨ht,hB⟩
  have hin0:(0:Int)≤(i:Int):=by omega
  have u7:=(H.out.2.2.2.2.2.2.2.1.below hB).t16
  by_cases hit:i<n
  ·have hin1:(i:Int)<(n:Int):=by omega
   obtain⟨b,o,rfl⟩:=H.out.1.some' (by omega)
   obtain⟨b',o',rfl⟩:=H.out.2.1.some' (by omega)
   have hl:i<l.length:=by rw[H.out.2.2.2.2.1];exact hit
   have hm:i<m.length:=by rw[H.out.2.2.2.2.2.1];exact hit
   have s1:=fun z:Later wr=>((H.out.1.below hB).below z.below).ld (List.getElem?_eq_getElem hl)
   have s2:=fun z:Later wr=>((H.out.2.1.below hB).below z.below).ld (List.getElem?_eq_getElem hm)
   have s3:=fun z:Later wr=>((H.out.2.2.2.2.2.2.2.1.below hB).below z.below).t16
   have s4:=fun z:Later wr=>((H.out.2.2.2.2.2.2.2.2.below hB).below z.below).t16
   by_cases hx:l[i]=m[i]
   ·have ex:(l[i]).eq m[i]=true:=Row.eq_iff.2 hx
    have N:Hid (l.take (i+1)=m.take (i+1)):=z_cP hl hm ht hx
    generalize l[i]=x at s1 ex
    generalize m[i]=y at s2 ex
    clear ht hB hx
    go_wp2_with fail
    refine wp_region_later (by kernel_rfl) (by kernel_rfl) ?_
    repeat (go_big_quiet_step (first|exact rfl))
    refine wpQuiet_nil ?_
    intro _ hw'
    obtain⟨z,rfl⟩:=hw'
    clear s1 s2 s3 s4 ex
    go_wp2
    go_roundw
    case rel=>exact⟨i+1,by omega,by go_num,N.out,z_a J.out.2 z.below⟩
    case measure=>simp[intOf];omega
   ·have ex:(l[i]).eq m[i]=false:=w_S hx
    have N:Hid (¬ (h=g∧l=m)):=fun e=>hx (by obtain⟨_,rfl⟩:=e;rfl)
    generalize l[i]=x at s1 ex
    generalize m[i]=y at s2 ex
    clear ht hB hx
    go_wp2_with fail
    refine wp_region_later (by kernel_rfl) (by kernel_rfl) ?_
    repeat (go_big_quiet_step (first|exact rfl))
    refine wpQuiet_nil ?_
    intro _ hw'
    obtain⟨z,rfl⟩:=hw'
    clear s1 s2 s3 s4 ex
    go_wp2
    go_ret
    exact⟨by rw[z_H N.out];rfl,z_a H.out.2.2.2.2.2.2.1 (z_a J.out.2 z.below)⟩
  ·have hin:i=n:=by omega
   subst hin
   have hin1:¬ (i:Int)<(i:Int):=by omega
   clear ht hB
   go_wp2
   go_ret
   refine⟨?_,z_a H.out.2.2.2.2.2.2.1 J.out.2⟩
   have e:=J.out.1
   rw[List.take_of_length_le (by rw[H.out.2.2.2.2.1];omega),List.take_of_length_le (by rw[H.out.2.2.2.2.2.1];omega)] at e
   rw[z_fS HE.out,e,z_eS]
   rfl
end S15
end
section
namespace S15
open S9
open Go.RowKit
def cX:Cf:=⟨[.int .u64 9223372036854775813,.int .u8 0,.int .u8 20,.int .u8 2,.int .u8 15,.int .u8 6],by
 refine⟨rfl,fun j k v hk hv=>?_⟩
 match j,hk,hv with
 | 0,hk,hv=>cases hk;cases hv;exact⟨_,rfl,by decide⟩
 | 1,hk,hv=>cases hk;cases hv;exact⟨_,rfl,by decide⟩
 | 2,hk,hv=>cases hk;cases hv;exact⟨_,rfl,by decide⟩
 | 3,hk,hv=>cases hk;cases hv;exact⟨_,rfl,by decide⟩
 | 4,hk,hv=>cases hk;cases hv;exact⟨_,rfl,by decide⟩
 | 5,hk,hv=>cases hk;cases hv;exact⟨_,rfl,by decide⟩
 | j+6,hk,hv=>simp at hv⟩
attribute [local go_sem ↓] ldP stP ldT stT apE st32 st4 st5 st49 ldC stC ldTm
theorem z_fk (W:World):CsAt (W.alloc (.cells #[.int .u32 20000,.int .u32 20000] 34)) (some ⟨W.heap.size,0,none⟩) 2 2 [20000,20000]:=by
 refine⟨rfl,Nat.le_refl _,by unfold maxLen;omega,fun _=>⟨_,_,rfl⟩,fun x hx=>?_,fun b o e j v hv=>?_⟩
 ·simp only[List.mem_cons,List.not_mem_nil,or_false,or_self] at hx
  subst hx
  decide
 ·cases e
  have h:RvAt (W.alloc (.cells #[.int .u32 20000,.int .u32 20000] 34)) W.heap.size 34 #[.int .u32 20000,.int .u32 20000]:=RvAt.new W _ _
  rw[Nat.zero_add]
  refine h.cell j _ ?_
  match j,hv with
  | 0,hv=>cases hv;rfl
  | 1,hv=>cases hv;rfl
  | j+2,hv=>simp at hv
theorem z_hv (w:World):Calls prog 38 #[] w fun r w'=>∃a k,r=.returned (.agg (cfc cX (.slice a 2 k)))∧CsAt w' a 2 k [20000,20000]∧Below w.heap.size w w':=by
 obtain⟨A,hA⟩:∃A,w.alloc (.cells #[.int .u64 0,.int .u8 0,.int .u8 0,.int .u8 0,.int .u8 0,.int .u8 0,.slice none 0 0] 27)=A:=⟨_,rfl⟩
 have bA:Below w.heap.size w A:=by rw[←hA];exact (Below.refl _ _).alloc (Nat.le_refl _) _
 have rA:RvAt A w.heap.size 27 #[.int .u64 0,.int .u8 0,.int .u8 0,.int .u8 0,.int .u8 0,.int .u8 0,.slice none 0 0]:=by rw[←hA];exact RvAt.new w _ _
 have zA:A.heap.size=w.heap.size+1:=by rw[←hA];simp
 obtain⟨C,hC⟩:∃C,A.alloc (.cells #[.int .u32 20000,.int .u32 20000] 34)=C:=⟨_,rfl⟩
 have bC:Below A.heap.size A C:=by rw[←hC];exact (Below.refl _ _).alloc (Nat.le_refl _) _
 have sC:CsAt C (some ⟨w.heap.size+1,0,none⟩) 2 2 [20000,20000]:=by rw[←hC,← zA];exact z_fk A
 have rC:=rA.below bC
 have ss:=rC.st rtC rfl (u_M cX (.slice (some ⟨w.heap.size+1,0,none⟩) 2 2)) (z_kt rfl)
 have rD:=rC.set (ds:=cfc cX (.slice (some ⟨w.heap.size+1,0,none⟩) 2 2))
 obtain⟨D,hD⟩:∃D,C.setRow w.heap.size (cfc cX (.slice (some ⟨w.heap.size+1,0,none⟩) 2 2))=D:=⟨_,rfl⟩
 have gD:C.grownBy D (some w.heap.size):=by rw[←hD];exact⟨rfl,rfl,rfl,by simp,fun i hi hne=>setRow_other C _ i _ (fun e=>hne (by rw[e]))⟩
 rw[hD] at ss rD
 have sD:CsAt D (some ⟨w.heap.size+1,0,none⟩) 2 2 [20000,20000]:=⟨sC.len,sC.cap,sC.max,sC.some',sC.bnd,fun b o e j v hv=>by
  refine gD.cell (sC.cells b o e j v hv) ?_
  cases e
  simp⟩
 have F:Hid (RvAt D w.heap.size 27 (cfc cX (.slice (some ⟨w.heap.size+1,0,none⟩) 2 2))∧CsAt D (some ⟨w.heap.size+1,0,none⟩) 2 2 [20000,20000]∧Below w.heap.size w D):=⟨rD,sD,gro (z_a bA bC) gD (Nat.le_refl _) (z_a bA bC).size⟩
 change (stS 27 (.pointer (some ⟨w.heap.size,0,none⟩)) (.agg #[.int .u64 9223372036854775813,.int .u8 0,.int .u8 20,.int .u8 2,.int .u8 15,.int .u8 6,.slice (some ⟨w.heap.size+1,0,none⟩) 2 2])).run prog C=_ at ss
 clear bA rA bC sC rC rD hD gD sD
 go_enter func38,ntmps38
 go_wp2
 refine bodyPost_ret (z_e rtC results38 _ _ _ _ rfl F.out.1 (u_M _ _)) rfl ?_
 exact⟨_,_,rfl,F.out.2.1,F.out.2.2⟩
/-! ### the example's ports -/
def aX:Pt:=newP 32769 20000
def bX:Pt:=newP 32770 20000
theorem x0:okC cX [20000,20000]=true:=by kernel_rfl
theorem x1:newPs [20000,20000]=[aX,bX]:=rfl
theorem x2:bX.nm 0=32770:=by kernel_rfl
def fdS (x:Value) (k:Nat):Sem Value:=Instr.field 39 x k
theorem fd34 (x:Value) (k:Nat):Instr.field 39 x k=fdS x k:=rfl
attribute [local go_sem ↓] fd34
end S15
end
end Go.Proofs.YtlchejbggnbccaaGreat
