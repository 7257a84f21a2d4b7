/-
  The definition's Select: its walk, for every tree. And what follows from it here.
-/
import Derived.Test.YtlchejbggnbccaaGreatPbb
import Derived.Test.YtlchejbggnbccaaGreatP12b
import Derived.Test.YtlchejbggnbccaaGreatP12a
namespace Go.Proofs.YtlchejbggnbccaaGreat
set_option linter.unusedVariables false
set_option linter.unusedSimpArgs false
set_option maxRecDepth 4000
set_option maxHeartbeats 40000000
open _root_.Go.Proofs.Tryz
section
namespace S12
open Go.RowKit
theorem ku42:kdP[42]?=some (some .u8):=rfl
theorem z_fx (h:Hd) (v:Vc) (p:Pt) (w:World):(bdS 36 #[(0,.int .u64 (v.nm 0)),(1,.int .u32 (v.nm 1)),(2,.int .u64 (h.nm 0)),(3,.int .u16 (p.nm 0))]).run prog w=.ok (.agg (desV h v p).cs) w:=by
 show _=Result.ok (Value.agg #[.int .u64 (v.nm 0),.int .u32 (v.nm 1),.int .u64 (h.nm 0),.int .u16 (p.nm 0)]) w
 kernel_rfl
theorem z_cM (h:Hd) (v:Vc) (p:Pt) (hv:rOf h=v):((((p.setB 21 kb21 false).put 32 (desV h v p) kq32 kl32).put 40 (uOf h) kq40 kl40).setU 42 (h.nm 3))=(telP h p).setB 21 kb21 false:=by
 subst hv;have hw:=wf8 (h.u8 (j:=3) rfl);refine Row.same fun i _=>?_;rw[Row.setU_get _ ku42 hw,Row.put_get,Row.put_get,Row.setB_get,Row.setB_get,x_o,lenV,lenT,← z_fe,Row.setU_get _ kt2 hw];by_cases h1:i=42
 ·subst h1;rfl
 ·rw[if_neg h1];by_cases h2:40≤i∧i<44
  ·rw[if_pos (by omega),if_neg (by omega),if_pos h2,if_neg (by omega)]
  ·rw[if_neg (by omega),if_neg h2];by_cases h3:32≤i∧i<36
   ·rw[if_pos (by omega),if_neg (by omega),if_pos h3]
   ·rw[if_neg (by omega),if_neg h3]
theorem z_ay (h:Hd) (r:Bool) (p:Pt):(wanP h r ((telP h p).setB 21 kb21 false)).setB 22 kb22 true=selP h r p:=by
 have st:∀j,j≠21→((telP h p).setB 21 kb21 false).cl[j]?=(telP h p).cl[j]?:=fun j hj=>by rw[Row.setB_get,if_neg hj]
 have e29:((telP h p).setB 21 kb21 false).nm 29=(telP h p).nm 29:=y_C (st 29 (by omega));have e28:((telP h p).setB 21 kb21 false).bt 28=(telP h p).bt 28:=u_O (st 28 (by omega));have eo:outB ((telP h p).setB 21 kb21 false)=outB (telP h p):=z_en fun j _ _=>st j (by omega);have eh:heaN h r ((telP h p).setB 21 kb21 false)=heaN h r (telP h p):=z_eD fun j _ _=>st j (by omega)
 have ew:wanN h r ((telP h p).setB 21 kb21 false)=wanN h r (telP h p):=by unfold wanN;rw[e29,eh]
 have eu:updB h r ((telP h p).setB 21 kb21 false)=updB h r (telP h p):=by unfold updB;rw[e29,e28,eo,eh]
 unfold selP;refine Row.same fun i _=>?_;unfold wanP;rw[Row.setB_get,Row.setN_get,Row.setB_get,Row.setB_get,z_bW,ew,eu];by_cases h1:i=22
 ·subst h1;rfl
 ·rw[if_neg h1];by_cases h2:i=28
  ·subst h2;rfl
  ·by_cases h3:i=31
   ·subst h3;rfl
   ·simp only[if_neg h1,if_neg h2,if_neg h3]
attribute [local go_sem ↓] ldP stP ldT stT ldV stV ldTm stTm st16 st32 stB stU bdV bs32 apE alP
attribute [local go_sem] z_l
theorem v_f (h:Hd) (a:Option Addr) (n c:Nat) (l:List Pt) (w:World) (hs:SlAt w a n c l) (hn:n≤1000) :
  Calls prog 77 #[.agg (trc h (.slice a n c))] w fun r w'=>∃a' c',r=.returned (.agg (trc (hdS h l) (.slice a' n c')))∧SlAt w' a' n c' (selL h l)∧Below w.heap.size w w':=by
 obtain⟨W,hW,r0,r1,bW,zW⟩:=z_w w h (.slice a n c);have l0:=r0.tld;have H:Hid (QA w W h a n c l∧W.heap.size=w.heap.size+2∧l.length=n):=⟨⟨⟨r0,r1,bW⟩,hs.below bW⟩,zW,hs.len⟩;have HS:Hid (SlAt w a n c l):=hs;clear hs r0 r1 bW zW;have E1:Hid (rooK h l=-1→hdA h (rooV h l)=hdS h l):=z_eE
 have E2:Hid (∀k:Nat,rooK h l=(k:Int)→((hdA h (rooV h l)).setH 7 ((gtP l k).nm 0)).put 12 (oldT (priT (gtP l k))) hq12 hl12=hdS h l):=fun k=>z_bJ;have E3:Hid (selL h l=l.mapIdx fun i p=>selP (hdS h l) (isK (rooK h l) i) p):=by unfold selL;exact rfl
 have E4:Hid (rOf (hdS h l)=rooV h l):=u_B h l;have KR:Hid (-1≤rooK h l∧rooK h l<n):=by have:=x_d h l l.length;rw[←H.out.2.2];exact this
 have C:Hid _:=v_g h a n c l W H.out.1.sl hn;obtain⟨K,hK⟩:∃z,rooK h l=z:=⟨_,rfl⟩;obtain⟨v,hv⟩:∃z,rooV h l=z:=⟨_,rfl⟩;obtain⟨hS,hhS⟩:∃z,hdS h l=z:=⟨_,rfl⟩;obtain⟨lS,hlS⟩:∃z,selL h l=z:=⟨_,rfl⟩;rw[hK,hv,hhS] at E1 E2;rw[hK,hhS,hlS] at E3;rw[hhS,hv] at E4;rw[hK] at KR;rw[hK,hv] at C;rw[hhS,hlS];clear hK hv hhS hlS;go_enter func77,ntmps77
 go_wp2_with fail
 refine Calls.mono C.out ?_;rintro _ W1 ⟨rfl,b1⟩;obtain⟨W2,s2,r2,b2,z2⟩:=z_cn W1 v;have lv:=r2.vld;have Q2:=(H.out.1.below b1).below b2;obtain⟨V1,e1,Q3,g3⟩:=Q2.put (tv:=36) v hq8 hl8 infoV;obtain⟨V2,e2,Q4,g4⟩:=Q3.setH w16;have tT:=Q4.q.var.tT;rw[show tOfH ((h.put 8 v hq8 hl8).setH 7 0)=tOfH h from Row.ext' (u_S (ks':=kdT) (o:=1) (by decide) (fun j hj=>by
  rw[lenT] at hj;rw[Row.setH_get _ kh7 w16,if_neg (by omega),Row.put_get,if_neg (by omega)]
  show h.cl[1+j]?=((h.cl.drop 1).take 4)[j]?
  rw[List.getElem?_take,if_pos hj,List.getElem?_drop]))] at tT
 obtain⟨V3,e3,Q5,g5⟩:=Q4.put (tv:=24) (tOfH h) hq12 hl12 infoTm
 change QA w V3 (hdA h v) a n c l at Q5
 obtain⟨e,he⟩:∃e,W1.heap.size=e:=⟨_,rfl⟩;have hew:w.heap.size+2≤e:=by have:=b1.size;have:=H.out.2.1;omega
 have rv:RvAt V3 e 36 v.cs:=by
  rw[←he];exact ((r2.keptBut g3 (by simp;omega)).keptBut g4 (by simp;omega)).keptBut g5 (by simp;omega)
 rw[he] at s2 lv;have Q:Hid (QA w V3 (hdA h v) a n c l∧RvAt V3 e 36 v.cs∧w.heap.size+2≤e∧l.length=n):=⟨Q5,rv,hew,H.out.2.2⟩;clear r2 b2 z2 b1 Q2 Q3 g3 Q4 g4 Q5 g5 H C l0 hW hew rv;by_cases hk:K=-1
 ·have EH:=E1.out hk;rw[EH] at Q;subst hk;clear EH;have hkb:¬ (0:Int)≤-1:=by omega
  go_wp2_with fail
  clear lv tT e1 e2 e3 s2;obtain⟨f,hf⟩:∃f:Nat→Pt→Pt,(fun i p=>selP hS (isK (-1) i) p)=f:=⟨_,rfl⟩;have HF:Hid (∀i p,selP hS (isK (-1) i) p=f i p):=by rw[←hf];exact fun i p=>rfl
  rw[hf] at E3;clear hf;obtain⟨B,hB⟩:∃B,e+1=B:=⟨_,rfl⟩;have BB:Hid (e+1=B∧B≤V3.heap.size):=⟨hB,by rw[←hB];exact Q.out.2.1.lt⟩;clear hB
  go_loopw [5,6] (fun v5 v6 wr=>∃i:Nat,i≤n∧v6=.int .i64 i∧Own wr B v5 ((l.take i).mapIdx f)∧QS w wr hS (.slice a n c)∧RvAt wr e 36 v.cs∧B≤wr.heap.size) (fun _ v6 _=>n-(intOf v6).toNat)
  case atStart=>exact⟨0,by omega,rfl,Own.nil _ _,Q.out.1.q,Q.out.2.1,BB.out.2⟩
  case round=>
   obtain⟨i,hi,rfl,hO,hQ,hV,hBw⟩:=hrel;have hin0:(0:Int)≤(i:Int):=by omega
   have d16:=hQ.var.t16;by_cases hit:i<n
   ·have hin1:(i:Int)<(n:Int):=by omega
    have hil:i<l.length:=by rw[Q.out.2.2.2];exact hit
    obtain⟨bs,os,eo⟩:=(HS.out.below hQ.bel).some' (by omega);have hat:=z_k hil;have lp:(ldS 74 (.pointer (some ⟨bs,os+i*77,none⟩))).run prog wr=.ok (.agg (gtP l i).cs) wr:=by
     have h5:=HS.out.below hQ.bel;rw[eo] at h5;exact h5.ld hat
    rw[eo] at d16 hQ;have hnx:=u_A (f:=f) hil;rw[←HF.out] at hnx;obtain⟨p,hp⟩:∃p,gtP l i=p:=⟨_,rfl⟩;rw[hp] at lp hnx;obtain⟨Y0,y0,N0⟩:=PN.new wr p;obtain⟨pb,hpb⟩:∃z,wr.heap.size=z:=⟨_,rfl⟩;rw[hpb] at y0 N0;obtain⟨Y1,y1,N1⟩:=N0.setB kb21 false;have k0:=(hV.below N1.bel).num (j:=0) (k:=.u64) rfl;have k1:=(hV.below N1.bel).num (j:=1) (k:=.u32) rfl
    have k2:=(hQ.below N1.bel).var.tnum (j:=0) (k:=.u64) rfl;have k3:=N1.var.num (j:=0) (k:=.u16) rfl;rw[z_G _ _ _ (by omega)] at k3;have bb:=z_fx hS v p;obtain⟨Y2,y2,N2⟩:=N1.put (tv:=36) (desV hS v p) kq32 kl32 infoV;have kU:=(hQ.below N2.bel).var.tU;obtain⟨Y3,y3,N3⟩:=N2.put (tv:=24) (uOf hS) kq40 kl40 infoTm;have k4:=(hQ.below N3.bel).var.tnum (j:=3) (k:=.u8) rfl
    obtain⟨Y4,y4,N4⟩:=N3.setU ku42 (hS.u8 (j:=3) rfl);rw[z_cM hS v p E4.out] at N4;have lt:=(hQ.below N4.bel).var.tld;have lq:=N4.var.pld
    have G:Hid (PN wr Y4 pb ((telP hS p).setB 21 kb21 false)∧QS w wr hS (.slice (some ⟨bs,os,none⟩) n c)∧RvAt wr e 36 v.cs∧B≤wr.heap.size∧Own wr B u5 ((l.take i).mapIdx f)∧(l.take (i+1)).mapIdx f=(l.take i).mapIdx f++[selP hS (isK (-1) i) p]∧a=some ⟨bs,os,none⟩∧i≤1000):=⟨N4,hQ,hV,hBw,hO,hnx,eo,by omega⟩;clear N0 N1 N2 N3 N4 hO hQ hV hBw hnx hat hp eo;by_cases hr:(i:Int)=(-1)
    ·exact absurd hr (by omega)
    ·have hrb:((i:Int)==(-1))=false:=beq_eq_false_iff_ne.2 hr;rw[show isK (-1) i=false by simp[isK,hr]] at G
     go_wp2_with fail
     refine (x_D hS _ _ _ Y4).mono ?_;rintro _ Y5 ⟨rfl,b5⟩;obtain⟨Y6,y6,N6⟩:=(G.out.1.below b5).st (wanP hS false ((telP hS p).setB 21 kb21 false));obtain⟨Y7,y7,N7⟩:=N6.setB kb22 true;rw[z_ay] at N7;have l7:=N7.var.pld;obtain⟨s,hs⟩:∃s,selP hS false p=s:=⟨_,rfl⟩;rw[hs] at N7 l7;have hB7:B≤Y7.heap.size:=Nat.le_trans G.out.2.2.2.1 N7.bel.size
     obtain⟨v',Y8,ap,o8,b8⟩:=(G.out.2.2.2.2.1.below N7.bel).next hB7 (by simp;have:=G.out.2.2.2.2.2.2.2;omega) s;have bs7:=v_F s Y7;have S8:=G.out.2.1.below N7.bel;have Z:Hid (Own Y8 B v' ((l.take (i+1)).mapIdx f)∧QS w Y8 hS (.slice a n c)∧RvAt Y8 e 36 v.cs∧B≤Y8.heap.size):=by
      have he:=BB.out.1;have hwe:=Q.out.2.2.1;refine⟨by rw[G.out.2.2.2.2.2.1,hs];exact o8,?_,(G.out.2.2.1.below N7.bel).belowB b8 (by omega),Nat.le_trans hB7 b8.size⟩;rw[G.out.2.2.2.2.2.2.1];exact⟨S8.var.belowB b8 (by omega),S8.out.belowB b8 (by omega),S8.bel.trans (b8.mono (by omega))⟩
     clear N6 N7 o8 b8 S8 G b5 hB7 k0 k1 k2 k3 k4 kU bb lt lq y0 y1 y2 y3 y4 lp hs;go_wp2
     go_roundw
     case rel=>exact⟨i+1,by omega,by go_num,Z.out.1,Z.out.2.1,Z.out.2.2.1,Z.out.2.2.2⟩
     case measure=>simp[intOf];omega
   ·have hin:i=n:=by omega
    subst hin;have hin1:¬ (i:Int)<(i:Int):=by omega
    rw[List.take_of_length_le (by rw[Q.out.2.2.2];omega),← E3.out] at hO;have hlS:lS.length=i:=by rw[E3.out,List.length_mapIdx,Q.out.2.2.2]
    obtain⟨a',c',hx,pa,hga⟩:=PA.of hO;rw[hlS] at hx pa;subst hx;obtain⟨X2,t2,rX2,gX2⟩:=hQ.var.tset (y:=.slice a' i c') rfl;have S2:=hQ.go rX2 gX2;have sl2:=pa.sl.keptT hQ.var gX2;have lX:=S2.var.tld;obtain⟨U,sU,rU,gU⟩:=S2.out.tst (g:=hS) (y:=.slice a' i c') rfl
    have F:Hid (RvAt U (w.heap.size+1) 39 (trc hS (.slice a' i c'))∧SlAt U a' i c' lS∧Below w.heap.size w U):=⟨rU,sl2.keptT S2.out gU,gro S2.bel gU (by omega) S2.bel.size⟩;clear hO hQ hV hBw pa hga rX2 gX2 S2 sl2 rU gU hlS;go_wp2
    refine bodyPost_ret (z_e rtT results77 _ _ _ _ rfl F.out.1 (z_c _ _)) rfl ?_;exact⟨a',c',rfl,F.out.2.1,F.out.2.2⟩
 ·have hk0:0≤K:=by have:=KR.out;omega
  obtain⟨k,rfl⟩:=Int.eq_ofNat_of_zero_le hk0;have hkn:k<n:=by have:=KR.out;omega
  have hk1:(k:Int)<(n:Int):=by omega
  have EH:Hid _:=E2.out k rfl;obtain⟨b,o,rfl⟩:=Q.out.1.sl.some' (by omega);have hlk:=z_k (l:=l) (i:=k) (by rw[Q.out.2.2.2];exact hkn);obtain⟨p,hp⟩:∃p,gtP l k=p:=⟨_,rfl⟩;rw[hp] at hlk EH;have f16:=Q.out.1.q.var.t16;have f0:=Q.out.1.sl.cell hlk (p.num (j:=0) (k:=.u16) rfl) (by omega);simp only[Nat.add_zero] at f0;obtain⟨V4,e4,R4,g4⟩:=Q.out.1.setH (m:=p.nm 0) (p.nwf (j:=0) rfl);have h16:=R4.q.var.t16
  have f44:=R4.sl.part (q:=priT p) (j:=44) hlk rfl rfl (by omega) underlying24 rfl infoTm;have P1:Hid (QA w V4 ((hdA h v).setH 7 (p.nm 0)) (some ⟨b,o,none⟩) n c l∧RvAt V4 e 36 v.cs∧w.heap.size+2≤e∧l.length=n):=⟨R4,Q.out.2.1.keptBut g4 (by have:=Q.out.2.2.1;simp;omega),Q.out.2.2.1,Q.out.2.2.2⟩;clear hp hlk R4 g4 Q
  go_wp2_with fail
  refine (z_cf (priT p) V4).mono ?_;rintro _ V5 ⟨rfl,b5⟩;clear lv tT e1 e2 e3 s2;have R0:=P1.out.1.below b5;obtain⟨V6,e6,R6,g6⟩:=R0.put (tv:=24) (oldT (priT p)) hq12 hl12 infoTm;rw[EH.out] at R6;have Q:Hid (QA w V6 hS (some ⟨b,o,none⟩) n c l∧RvAt V6 e 36 v.cs∧w.heap.size+2≤e∧l.length=n):=⟨R6,(P1.out.2.1.below b5).keptBut g6 (by have:=P1.out.2.2.1;simp;omega),P1.out.2.2.1,P1.out.2.2.2⟩
  clear R0 R6 g6 P1 EH b5 f16 f0 h16 f44
  go_wp2_with fail
  obtain⟨f,hf⟩:∃f:Nat→Pt→Pt,(fun i p=>selP hS (isK (k:Int) i) p)=f:=⟨_,rfl⟩;have HF:Hid (∀i p,selP hS (isK (k:Int) i) p=f i p):=by rw[←hf];exact fun i p=>rfl
  rw[hf] at E3;clear hf;obtain⟨B,hB⟩:∃B,e+1=B:=⟨_,rfl⟩;have BB:Hid (e+1=B∧B≤V6.heap.size):=⟨hB,by rw[←hB];exact Q.out.2.1.lt⟩;clear hB
  go_loopw [5,6] (fun v5 v6 wr=>∃i:Nat,i≤n∧v6=.int .i64 i∧Own wr B v5 ((l.take i).mapIdx f)∧QS w wr hS (.slice (some ⟨b,o,none⟩:Option Addr) n c)∧RvAt wr e 36 v.cs∧B≤wr.heap.size) (fun _ v6 _=>n-(intOf v6).toNat)
  case atStart=>exact⟨0,by omega,rfl,Own.nil _ _,Q.out.1.q,Q.out.2.1,BB.out.2⟩
  case round=>
   obtain⟨i,hi,rfl,hO,hQ,hV,hBw⟩:=hrel;have hin0:(0:Int)≤(i:Int):=by omega
   have d16:=hQ.var.t16;by_cases hit:i<n
   ·have hin1:(i:Int)<(n:Int):=by omega
    have hil:i<l.length:=by rw[Q.out.2.2.2];exact hit
    obtain⟨bs,os,eo⟩:=(HS.out.below hQ.bel).some' (by omega);have hat:=z_k hil;have lp:(ldS 74 (.pointer (some ⟨bs,os+i*77,none⟩))).run prog wr=.ok (.agg (gtP l i).cs) wr:=by
     have h5:=HS.out.below hQ.bel;rw[eo] at h5;exact h5.ld hat
    rw[eo] at d16 hQ;have hnx:=u_A (f:=f) hil;rw[←HF.out] at hnx;obtain⟨p,hp⟩:∃p,gtP l i=p:=⟨_,rfl⟩;rw[hp] at lp hnx;obtain⟨Y0,y0,N0⟩:=PN.new wr p;obtain⟨pb,hpb⟩:∃z,wr.heap.size=z:=⟨_,rfl⟩;rw[hpb] at y0 N0;obtain⟨Y1,y1,N1⟩:=N0.setB kb21 false;have k0:=(hV.below N1.bel).num (j:=0) (k:=.u64) rfl;have k1:=(hV.below N1.bel).num (j:=1) (k:=.u32) rfl
    have k2:=(hQ.below N1.bel).var.tnum (j:=0) (k:=.u64) rfl;have k3:=N1.var.num (j:=0) (k:=.u16) rfl;rw[z_G _ _ _ (by omega)] at k3;have bb:=z_fx hS v p;obtain⟨Y2,y2,N2⟩:=N1.put (tv:=36) (desV hS v p) kq32 kl32 infoV;have kU:=(hQ.below N2.bel).var.tU;obtain⟨Y3,y3,N3⟩:=N2.put (tv:=24) (uOf hS) kq40 kl40 infoTm;have k4:=(hQ.below N3.bel).var.tnum (j:=3) (k:=.u8) rfl
    obtain⟨Y4,y4,N4⟩:=N3.setU ku42 (hS.u8 (j:=3) rfl);rw[z_cM hS v p E4.out] at N4;have lt:=(hQ.below N4.bel).var.tld;have lq:=N4.var.pld
    have G:Hid (PN wr Y4 pb ((telP hS p).setB 21 kb21 false)∧QS w wr hS (.slice (some ⟨bs,os,none⟩) n c)∧RvAt wr e 36 v.cs∧B≤wr.heap.size∧Own wr B u5 ((l.take i).mapIdx f)∧(l.take (i+1)).mapIdx f=(l.take i).mapIdx f++[selP hS (isK (k:Int) i) p]∧(some ⟨b,o,none⟩:Option Addr)=some ⟨bs,os,none⟩∧i≤1000):=⟨N4,hQ,hV,hBw,hO,hnx,eo,by omega⟩;clear N0 N1 N2 N3 N4 hO hQ hV hBw hnx hat hp eo
    by_cases hr:(i:Int)=(k:Int)
    ·have hik:i=k:=by omega
     subst hik;rw[show isK (i:Int) i=true by simp[isK]] at G;clear hr
     go_wp2_with fail
     refine (x_D hS _ _ _ Y4).mono ?_;rintro _ Y5 ⟨rfl,b5⟩;obtain⟨Y6,y6,N6⟩:=(G.out.1.below b5).st (wanP hS true ((telP hS p).setB 21 kb21 false));obtain⟨Y7,y7,N7⟩:=N6.setB kb22 true;rw[z_ay] at N7;have l7:=N7.var.pld;obtain⟨s,hs⟩:∃s,selP hS true p=s:=⟨_,rfl⟩;rw[hs] at N7 l7;have hB7:B≤Y7.heap.size:=Nat.le_trans G.out.2.2.2.1 N7.bel.size
     obtain⟨v',Y8,ap,o8,b8⟩:=(G.out.2.2.2.2.1.below N7.bel).next hB7 (by simp;have:=G.out.2.2.2.2.2.2.2;omega) s;have bs7:=v_F s Y7;have S8:=G.out.2.1.below N7.bel;have Z:Hid (Own Y8 B v' ((l.take (i+1)).mapIdx f)∧QS w Y8 hS (.slice (some ⟨b,o,none⟩:Option Addr) n c)∧RvAt Y8 e 36 v.cs∧B≤Y8.heap.size):=by
      have he:=BB.out.1;have hwe:=Q.out.2.2.1;refine⟨by rw[G.out.2.2.2.2.2.1,hs];exact o8,?_,(G.out.2.2.1.below N7.bel).belowB b8 (by omega),Nat.le_trans hB7 b8.size⟩;rw[G.out.2.2.2.2.2.2.1];exact⟨S8.var.belowB b8 (by omega),S8.out.belowB b8 (by omega),S8.bel.trans (b8.mono (by omega))⟩
     clear N6 N7 o8 b8 S8 G b5 hB7 k0 k1 k2 k3 k4 kU bb lt lq y0 y1 y2 y3 y4 lp hs;go_wp2
     go_roundw
     case rel=>exact⟨i+1,by omega,by go_num,Z.out.1,Z.out.2.1,Z.out.2.2.1,Z.out.2.2.2⟩
     case measure=>simp[intOf];omega
    ·have hrb:((i:Int)==(k:Int))=false:=beq_eq_false_iff_ne.2 hr;rw[show isK (k:Int) i=false by simp[isK,hr]] at G
     go_wp2_with fail
     refine (x_D hS _ _ _ Y4).mono ?_;rintro _ Y5 ⟨rfl,b5⟩;obtain⟨Y6,y6,N6⟩:=(G.out.1.below b5).st (wanP hS false ((telP hS p).setB 21 kb21 false));obtain⟨Y7,y7,N7⟩:=N6.setB kb22 true;rw[z_ay] at N7;have l7:=N7.var.pld;obtain⟨s,hs⟩:∃s,selP hS false p=s:=⟨_,rfl⟩;rw[hs] at N7 l7;have hB7:B≤Y7.heap.size:=Nat.le_trans G.out.2.2.2.1 N7.bel.size
     obtain⟨v',Y8,ap,o8,b8⟩:=(G.out.2.2.2.2.1.below N7.bel).next hB7 (by simp;have:=G.out.2.2.2.2.2.2.2;omega) s;have bs7:=v_F s Y7;have S8:=G.out.2.1.below N7.bel;have Z:Hid (Own Y8 B v' ((l.take (i+1)).mapIdx f)∧QS w Y8 hS (.slice (some ⟨b,o,none⟩:Option Addr) n c)∧RvAt Y8 e 36 v.cs∧B≤Y8.heap.size):=by
      have he:=BB.out.1;have hwe:=Q.out.2.2.1;refine⟨by rw[G.out.2.2.2.2.2.1,hs];exact o8,?_,(G.out.2.2.1.below N7.bel).belowB b8 (by omega),Nat.le_trans hB7 b8.size⟩;rw[G.out.2.2.2.2.2.2.1];exact⟨S8.var.belowB b8 (by omega),S8.out.belowB b8 (by omega),S8.bel.trans (b8.mono (by omega))⟩
     clear N6 N7 o8 b8 S8 G b5 hB7 k0 k1 k2 k3 k4 kU bb lt lq y0 y1 y2 y3 y4 lp hs;go_wp2
     go_roundw
     case rel=>exact⟨i+1,by omega,by go_num,Z.out.1,Z.out.2.1,Z.out.2.2.1,Z.out.2.2.2⟩
     case measure=>simp[intOf];omega
   ·have hin:i=n:=by omega
    subst hin;have hin1:¬ (i:Int)<(i:Int):=by omega
    rw[List.take_of_length_le (by rw[Q.out.2.2.2];omega),← E3.out] at hO;have hlS:lS.length=i:=by rw[E3.out,List.length_mapIdx,Q.out.2.2.2]
    obtain⟨a',c',hx,pa,hga⟩:=PA.of hO;rw[hlS] at hx pa;subst hx;obtain⟨X2,t2,rX2,gX2⟩:=hQ.var.tset (y:=.slice a' i c') rfl;have S2:=hQ.go rX2 gX2;have sl2:=pa.sl.keptT hQ.var gX2;have lX:=S2.var.tld;obtain⟨U,sU,rU,gU⟩:=S2.out.tst (g:=hS) (y:=.slice a' i c') rfl
    have F:Hid (RvAt U (w.heap.size+1) 39 (trc hS (.slice a' i c'))∧SlAt U a' i c' lS∧Below w.heap.size w U):=⟨rU,sl2.keptT S2.out gU,gro S2.bel gU (by omega) S2.bel.size⟩;clear hO hQ hV hBw pa hga rX2 gX2 S2 sl2 rU gU hlS;go_wp2
    refine bodyPost_ret (z_e rtT results77 _ _ _ _ rfl F.out.1 (z_c _ _)) rfl ?_;exact⟨a',c',rfl,F.out.2.1,F.out.2.2⟩
end S12
end
section
namespace S12
open Go.RowKit
attribute [local go_sem ↓] ldP stP ldT stT
theorem z_hM (p:Pt) (w:World):Calls prog 138 #[.agg p.cs] w fun r w'=>r=.returned (.bool (p.bt 21))∧Below w.heap.size w w':=by
 obtain⟨W,hW,r0,bW,zW⟩:=y_T w p;have c21:=r0.bit (j:=21) rfl;have H:=hd1 bW;clear r0 bW zW;go_enter func138,ntmps138;go_wp2
 go_ret;exact⟨rfl,H.out⟩
theorem z_fD {l:List Pt} {i:Nat} (hi:i<l.length) (h:(gtP l i).bt 21=true):anyR l=true:=by
 unfold anyR;rw[List.any_eq_true];have:=z_k hi;rw[List.getElem?_eq_getElem hi] at this;exact⟨l[i],List.getElem_mem _,by rw[Option.some.inj this];exact h⟩
theorem z_it {l:List Pt} (h:∀j,j<l.length→(gtP l j).bt 21=false):anyR l=false:=by
 unfold anyR;rw[List.any_eq_false];intro x hx;obtain⟨j,hj,e⟩:=List.mem_iff_getElem.1 hx;have h1:=z_k hj;rw[List.getElem?_eq_getElem hj,e] at h1;rw[Option.some.inj h1,h j hj]
 decide
theorem v_v (a:Option Addr) (n c:Nat) (l:List Pt) (w:World) (hs:SlAt w a n c l) (hn:n≤1000) :
  Calls prog 182 #[.slice a n c,.func (.func 138) #[] #[]] w fun r w'=>(∃j:Int,r=.returned (.int .i64 j)∧(decide (0≤j)=anyR l))∧Below w.heap.size w w':=by
 have H:=hd3 hs hn hs.len;have hnn:(n:Int)≤1000:=by omega
 clear hs hn;go_enter func182,ntmps182
 go_wp2_with fail
 go_loopw [8] (fun v8 wr=>∃i:Nat,i≤n∧v8=.int .i64 i∧(∀j,j<i→(gtP l j).bt 21=false)∧Below w.heap.size w wr) (fun v8 _=>n-(intOf v8).toNat)
 case atStart=>exact⟨0,by omega,rfl,fun j hj=>by omega,Below.refl _ _⟩
 case round=>
  obtain⟨i,hi,rfl,ht,hB⟩:=hrel;have J:=hd2 ht hB;have hin0:(0:Int)≤(i:Int):=by omega
  by_cases hit:i<n
  ·have hin1:(i:Int)<(n:Int):=by omega
   have hl:i<l.length:=by rw[H.out.2.2];exact hit
   obtain⟨b,o,rfl⟩:=H.out.1.some' (by omega);have lp:=(H.out.1.below hB).ld (z_k hl);obtain⟨p,hp⟩:∃p,gtP l i=p:=⟨_,rfl⟩;have E:=hd2 hl hp;rw[hp] at lp;clear ht hB hl hp
   go_wp2_with fail
   refine (z_hM p wr).mono ?_;rintro _ V ⟨rfl,bV⟩;cases hb:p.bt 21
   ·have N:Hid (∀j,j<i+1→(gtP l j).bt 21=false):=fun j hj=>by
     by_cases hji:j=i
     ·subst hji;rw[E.out.2];exact hb
     ·exact J.out.1 j (by omega)
    clear lp hb;go_wp2
    go_roundw
    case rel=>exact⟨i+1,by omega,by go_num,N.out,z_a J.out.2 bV⟩
    case measure=>simp[intOf];omega
   ·have N:Hid (anyR l=true):=z_fD E.out.1 (by rw[E.out.2];exact hb);clear lp hb;go_wp2
    go_ret;exact⟨⟨(i:Int),rfl,by rw[N.out];simp⟩,z_a J.out.2 bV⟩
  ·have hin:i=n:=by omega
   subst hin;have hin1:¬ (i:Int)<(i:Int):=by omega
   clear ht hB;go_wp2
   go_ret;exact⟨⟨-1,rfl,by rw[z_it (fun j hj=>J.out.1 j (by rw[←H.out.2.2];exact hj))];rfl⟩,J.out.2⟩
theorem x_l (a:Option Addr) (n c:Nat) (l:List Pt) (w:World) (hs:SlAt w a n c l) (hn:n≤1000) :
  Calls prog 137 #[.slice a n c,.func (.func 138) #[] #[]] w fun r w'=>r=.returned (.bool (anyR l))∧Below w.heap.size w w':=by
 go_enter func137,ntmps137
 go_wp2_with fail
 refine (v_v a n c l w hs hn).mono ?_;rintro _ V ⟨⟨j,rfl,hj⟩,bV⟩;have F:=hd1 hj;clear hj hs hn;go_wp2
 go_ret;exact⟨by rw[←F.out];rfl,bV⟩
theorem v_N {fn:Func} {k t:Nat} (hr:fn.results=#[.cell k 39,.tmp t]) {R:Ending→World→Prop} {a:Act} {w:World} {b:Nat} {h:Hd} {y:Value} {x:Value} (hd:a.defers=[]) (h2:a.tmps.getD k undef=.pointer (some ⟨b,0,none⟩)) (h3:a.tmps.getD t undef=x) (r:RvAt w b 39 (trc h y)) (hR:R (.returned (.tuple #[.agg (trc h y),x])) w):bodyPost prog fn R .ret a w:=
 bodyPost_ret (z_i hr _ _ _ _ _ h2 r) hd (by rw[h3];exact hR)
theorem z_ia {h:Hd} {l:List Pt} (h1:h.bt 6=true) (h2:anyR l=false):stpB h l=false∧stpH h l=h∧stpL h l=l:=by
 have e:stpB h l=false:=by unfold stpB;rw[h1,h2];rfl
 unfold stpH stpL;rw[e];exact⟨rfl,rfl,rfl⟩
theorem x_b {h:Hd} {l:List Pt} (e:stpB h l=true):stpH h l=hdS (h.setB 6 kh6 true) l∧stpL h l=selL (h.setB 6 kh6 true) l:=by
 unfold stpH stpL;rw[e];exact⟨rfl,rfl⟩
attribute [local go_sem ↓] stB
theorem z_eJ {w:World} {a b:Option Addr} (h:Nw w b):Fro w a b:=Or.inr h
theorem z_gZ {w:World} {a:Option Addr}:Fro w a a:=Or.inl rfl
theorem u_b (h:Hd) (a:Option Addr) (n c:Nat) (l:List Pt) (w:World) (hs:SlAt w a n c l) (hn:n≤1000) :
  Calls prog 99 #[.agg (trc h (.slice a n c))] w fun r w'=>∃a' c',r=.returned (.tuple #[.agg (trc (stpH h l) (.slice a' n c')),.bool (stpB h l)])∧SlAt w' a' n c' (stpL h l)∧Below w.heap.size w w'∧Fro w a a':=by
 obtain⟨W,hW,r0,r1,bW,zW⟩:=z_w w h (.slice a n c);have c6:=r0.tbit (j:=6) rfl;have c16:=r0.t16;have H:Hid (QA w W h a n c l):=⟨⟨r0,r1,bW⟩,hs.below bW⟩;clear hs r0 r1 bW zW;have P1:Hid _:=x_l a n c l W H.out.sl hn;cases h6:h.bt 6
 ·have e:stpB h l=true:=by unfold stpB;rw[h6];rfl
  rw[e,(x_b e).1,(x_b e).2];rw[h6] at c6;obtain⟨V,sV,rV,gV⟩:=H.out.q.var.tsetB true;have Q:=H.out.q.go rV gV;have S:=H.out.sl.keptT H.out.q.var gV;have lV:=Q.var.tld;have K:=hd1 Q;have C:Hid _:=v_L (h.setB 6 kh6 true) a n c l V S hn;clear rV gV Q S H P1 e;go_enter func99,ntmps99
  go_wp2_with fail
  refine Calls.mono C.out ?_;rintro _ W1 ⟨a',c',rfl,s1,b1,f1⟩;have FR:=hd1 (f1.up K.out.bel.size);clear f1;obtain⟨U,sU,rU,gU⟩:=(K.out.below b1).out.tst (g:=hdS (h.setB 6 kh6 true) l) (y:=.slice a' n c') rfl
  have F:Hid (RvAt U (w.heap.size+1) 39 (trc (hdS (h.setB 6 kh6 true) l) (.slice a' n c'))∧SlAt U a' n c' (selL (h.setB 6 kh6 true) l)∧Below w.heap.size w U):=⟨rU,s1.keptT (K.out.below b1).out gU,gro (K.out.below b1).bel gU (by omega) (K.out.below b1).bel.size⟩;clear s1 rU gU b1 K C lV
  go_wp2_with (with_reducible exact v_N results99 rfl rfl rfl F.out.1 ⟨a',c',rfl,F.out.2.1,F.out.2.2,z_eJ FR.out⟩)
 ·rw[h6] at c6;cases ha:anyR l
  ·rw[ha] at P1;obtain⟨e1,e2,e3⟩:=z_ia h6 ha;rw[e1,e2,e3];clear e1 e2 e3 ha h6;go_enter func99,ntmps99
   go_wp2_with fail
   refine Calls.mono P1.out ?_;rintro _ W1 ⟨rfl,b1⟩;have K:=H.out.below b1;have lt:=K.q.var.tld;obtain⟨U,sU,rU,gU⟩:=K.q.out.tst (g:=h) (y:=.slice a n c) rfl;have F:=hd3 rU (K.sl.keptT K.q.out gU) (gro K.q.bel gU (by omega) K.q.bel.size);clear rU gU b1 K P1 H c6 c16
   go_wp2_with (with_reducible exact v_N results99 rfl rfl rfl F.out.1 ⟨a,c,rfl,F.out.2.1,F.out.2.2,z_gZ⟩)
  ·rw[ha] at P1;have e:stpB h l=true:=by unfold stpB;rw[h6,ha];rfl
   rw[e,(x_b e).1,(x_b e).2];clear e ha h6;go_enter func99,ntmps99
   go_wp2_with fail
   refine Calls.mono P1.out ?_;rintro _ W1 ⟨rfl,b1⟩;have K1:=H.out.below b1;obtain⟨V,sV,rV,gV⟩:=K1.q.var.tsetB true;have Q:=K1.q.go rV gV;have S:=K1.sl.keptT K1.q.var gV;have lV:=Q.var.tld;have K:=hd1 Q;have C:Hid _:=v_L (h.setB 6 kh6 true) a n c l V S hn;clear rV gV Q S H P1 K1 b1 c6 c16
   go_wp2_with fail
   refine Calls.mono C.out ?_;rintro _ W2 ⟨a',c',rfl,s2,b2,f2⟩;have FR:=hd1 (f2.up K.out.bel.size);clear f2;obtain⟨U,sU,rU,gU⟩:=(K.out.below b2).out.tst (g:=hdS (h.setB 6 kh6 true) l) (y:=.slice a' n c') rfl
   have F:Hid (RvAt U (w.heap.size+1) 39 (trc (hdS (h.setB 6 kh6 true) l) (.slice a' n c'))∧SlAt U a' n c' (selL (h.setB 6 kh6 true) l)∧Below w.heap.size w U):=⟨rU,s2.keptT (K.out.below b2).out gU,gro (K.out.below b2).bel gU (by omega) (K.out.below b2).bel.size⟩;clear s2 rU gU b2 K C lV
   go_wp2_with (with_reducible exact v_N results99 rfl rfl rfl F.out.1 ⟨a',c',rfl,F.out.2.1,F.out.2.2,z_eJ FR.out⟩)
end S12
end
section
namespace S12
open Go.RowKit
theorem z_gU {f:Pt→Pt} {l:List Pt} {i:Nat} (h:i<l.length):(l.take (i+1)).map f=(l.take i).map f++[f (gtP l i)]:=by
 rw[List.take_add_one,z_k h];simp
attribute [local go_sem ↓] ldP stP ldT stT st32 stB st49 bs32 apE alP
attribute [local go_sem] z_l
theorem x_e (h:Hd) (a:Option Addr) (n c:Nat) (l:List Pt) (w:World) (hs:SlAt w a n c l) (hn:n≤1000) :
  Calls prog 57 #[.agg (trc h (.slice a n c))] w fun r w'=>∃a' c',r=.returned (.tuple #[.agg (trc (stpH h l) (.slice a' n c')),.bool (stpB h l)])∧SlAt w' a' n c' (stpL h l)∧Below w.heap.size w w':=by
 obtain⟨W,hW,r0,r1,bW,zW⟩:=z_w w h (.slice a n c);have c6:=r0.tbit (j:=6) rfl;have H:Hid (QA w W h a n c l∧SlAt w a n c l∧l.length=n∧W.heap.size=w.heap.size+2):=⟨⟨⟨r0,r1,bW⟩,hs.below bW⟩,hs,hs.len,zW⟩;clear hs r0 r1 bW zW;cases h6:h.bt 6
 ·have e:stpB h l=true:=by unfold stpB;rw[h6];rfl
  rw[e,(x_b e).1,(x_b e).2,← (z_ii (h.setB 6 kh6 true) l).1,← (z_ii (h.setB 6 kh6 true) l).2];rw[h6] at c6;clear e h6;obtain⟨h',hh'⟩:∃h',h.setB 6 kh6 true=h':=⟨_,rfl⟩;obtain⟨V,sV,rV,gV⟩:=H.out.1.q.var.tsetB true;rw[hh'] at rV ⊢;have Q0:Hid (QS w V h' (.slice a n c)∧w.heap.size+2≤V.heap.size):=⟨H.out.1.q.go rV gV,by have:=gV.size;have:=H.out.2.2.2;omega⟩;obtain⟨lN,hlN⟩:∃z,l.map noP=z:=⟨_,rfl⟩
  rw[hlN];have LN:Hid (lN=l.map noP):=hlN.symm;clear hlN hh' rV gV;obtain⟨B,hB⟩:∃B,w.heap.size+2=B:=⟨_,rfl⟩;go_enter func57,ntmps57
  go_wp2_with fail
  clear sV c6 hW
  go_loopw [4,5] (fun v4 v5 wr=>∃i:Nat,i≤n∧v5=.int .i64 i∧Own wr B v4 ((l.take i).map noP)∧QS w wr h' (.slice a n c)∧B≤wr.heap.size) (fun _ v5 _=>n-(intOf v5).toNat)
  case atStart=>exact⟨0,by omega,rfl,Own.nil _ _,Q0.out.1,by rw[←hB];exact Q0.out.2⟩
  case round=>
   obtain⟨i,hi,rfl,hO,hQ,hBw⟩:=hrel;have hin0:(0:Int)≤(i:Int):=by omega
   have d16:=hQ.var.t16;by_cases hit:i<n
   ·have hin1:(i:Int)<(n:Int):=by omega
    have hil:i<l.length:=by rw[H.out.2.2.1];exact hit
    obtain⟨bs,os,eo⟩:=(H.out.2.1.below hQ.bel).some' (by omega);have hat:=z_k hil;have lp:(ldS 74 (.pointer (some ⟨bs,os+i*77,none⟩))).run prog wr=.ok (.agg (gtP l i).cs) wr:=by
     have h5:=H.out.2.1.below hQ.bel;rw[eo] at h5;exact h5.ld hat
    rw[eo] at d16 hQ;have hnx:=z_gU (f:=noP) hil;obtain⟨p,hp⟩:∃p,gtP l i=p:=⟨_,rfl⟩;rw[hp] at lp hnx;obtain⟨Y0,y0,N0⟩:=PN.new wr p;obtain⟨pb,hpb⟩:∃z,wr.heap.size=z:=⟨_,rfl⟩;rw[hpb] at y0 N0;obtain⟨Y1,y1,N1⟩:=N0.setN (t:=44) infoR kn31 wi0
    change PN wr Y1 pb (noP p) at N1
    obtain⟨s,hs⟩:∃s,noP p=s:=⟨_,rfl⟩;rw[hs] at N1 hnx;have l7:=N1.var.pld;have hB7:B≤Y1.heap.size:=Nat.le_trans hBw N1.bel.size;obtain⟨v',Y8,ap,o8,b8⟩:=(hO.below N1.bel).next hB7 (by simp;omega) s;have bs7:=v_F s Y1;have S8:=hQ.below N1.bel;have Z:Hid (Own Y8 B v' ((l.take (i+1)).map noP)∧QS w Y8 h' (.slice a n c)∧B≤Y8.heap.size):=by
     refine⟨by rw[hnx];exact o8,?_,Nat.le_trans hB7 b8.size⟩;rw[eo];exact⟨S8.var.belowB b8 (by omega),S8.out.belowB b8 (by omega),S8.bel.trans (b8.mono (by omega))⟩
    clear N0 N1 o8 b8 S8 hO hQ hBw hnx hat hp hs hB7 eo;go_wp2
    go_roundw
    case rel=>exact⟨i+1,by omega,by go_num,Z.out.1,Z.out.2.1,Z.out.2.2⟩
    case measure=>simp[intOf];omega
   ·have hin:i=n:=by omega
    subst hin;have hin1:¬ (i:Int)<(i:Int):=by omega
    rw[List.take_of_length_le (by rw[H.out.2.2.1];omega),← LN.out] at hO;have hlS:lN.length=i:=by rw[LN.out,List.length_map,H.out.2.2.1]
    obtain⟨a',c',hx,pa,hga⟩:=PA.of hO;rw[hlS] at hx pa;subst hx;obtain⟨X2,t2,rX2,gX2⟩:=hQ.var.tset (y:=.slice a' i c') rfl;have S2:Hid (QS w X2 h' (.slice a' i c')):=hQ.go rX2 gX2;have sl2:=pa.sl.keptT hQ.var gX2;have lX:=S2.out.var.tld;have C:Hid _:=v_f h' a' i c' lN X2 sl2 hn;clear hO hQ hBw pa hga rX2 gX2 sl2 hlS
    go_wp2_with fail
    refine Calls.mono C.out ?_;rintro _ X3 ⟨a2,c2,rfl,s3,b3⟩;have K:=S2.out.below b3;obtain⟨U,sU,rU,gU⟩:=K.out.tst (g:=hdS h' lN) (y:=.slice a2 i c2) rfl;have F:Hid (RvAt U (w.heap.size+1) 39 (trc (hdS h' lN) (.slice a2 i c2))∧SlAt U a2 i c2 (selL h' lN)∧Below w.heap.size w U):=⟨rU,s3.keptT K.out gU,gro K.bel gU (by omega) K.bel.size⟩;clear K rU gU s3 b3 C S2 lX t2 d16
    go_wp2_with (with_reducible exact v_N results57 (by with_unfolding_all rfl) (by with_unfolding_all rfl) (by with_unfolding_all rfl) F.out.1 ⟨a2,c2,rfl,F.out.2.1,F.out.2.2⟩)
 ·rw[h6] at c6;have EY:Hid (anyR l=true→stpB h l=true∧stpH h l=hdS h l∧stpL h l=selL h l):=fun ha=>by
   have e:stpB h l=true:=by unfold stpB;rw[ha];simp
   refine⟨e,?_,?_⟩
   ·rw[(x_b e).1,z_R _ kh6 h6]
   ·rw[(x_b e).2,z_R _ kh6 h6]
  have EN:Hid (anyR l=false→stpB h l=false∧stpH h l=h∧stpL h l=l):=fun ha=>z_ia h6 ha;clear h6;obtain⟨B0,hB0⟩:∃z,stpB h l=z:=⟨_,rfl⟩;obtain⟨h0,hh0⟩:∃z,stpH h l=z:=⟨_,rfl⟩;obtain⟨l0,hl0⟩:∃z,stpL h l=z:=⟨_,rfl⟩;rw[hB0,hh0,hl0] at EY EN ⊢;clear hB0 hh0 hl0;go_enter func57,ntmps57
  go_wp2_with fail
  clear c6 hW
  go_loopw [7] (fun v7 wr=>∃i:Nat,i≤n∧v7=.int .i64 i∧(∀j,j<i→(gtP l j).bt 21=false)∧QA w wr h a n c l) (fun v7 _=>n-(intOf v7).toNat)
  case atStart=>exact⟨0,by omega,rfl,fun j hj=>by omega,H.out.1⟩
  case round=>
   obtain⟨i,hi,rfl,ht,hQ⟩:=hrel;have hin0:(0:Int)≤(i:Int):=by omega
   have d16:=hQ.q.var.t16;have J:Hid ((∀j,j<i→(gtP l j).bt 21=false)∧QA w wr h a n c l):=⟨ht,hQ⟩;by_cases hit:i<n
   ·have hin1:(i:Int)<(n:Int):=by omega
    have hil:i<l.length:=by rw[H.out.2.2.1];exact hit
    obtain⟨b,o,rfl⟩:=hQ.sl.some' (by omega);have c21:=hQ.sl.cell (z_k hil) ((gtP l i).bit (j:=21) rfl) (by omega);have HIL:Hid (i<l.length):=hil;cases hb:(gtP l i).bt 21
    ·rw[hb] at c21;have N:Hid (∀j,j<i+1→(gtP l j).bt 21=false):=fun j hj=>by
      by_cases hji:j=i
      ·subst hji;exact hb
      ·exact ht j (by omega)
     clear ht hQ hb hil;go_wp2
     go_roundw
     case rel=>exact⟨i+1,by omega,by go_num,N.out,J.out.2⟩
     case measure=>simp[intOf];omega
    ·rw[hb] at c21;obtain⟨rfl,rfl,rfl⟩:=EY.out (z_fD hil hb);have lt:=hQ.q.var.tld;have C:Hid _:=v_f h (some ⟨b,o,none⟩) n c l wr hQ.sl hn;clear ht hQ hb hil
     go_wp2_with fail
     refine Calls.mono C.out ?_;rintro _ X3 ⟨a2,c2,rfl,s3,b3⟩;have K:=(J.out.2.below b3).q;obtain⟨U,sU,rU,gU⟩:=K.out.tst (g:=hdS h l) (y:=.slice a2 n c2) rfl;have F:Hid (RvAt U (w.heap.size+1) 39 (trc (hdS h l) (.slice a2 n c2))∧SlAt U a2 n c2 (selL h l)∧Below w.heap.size w U):=⟨rU,s3.keptT K.out gU,gro K.bel gU (by omega) K.bel.size⟩;clear K rU gU s3 b3 C lt d16 c21
     go_wp2_with (with_reducible exact v_N results57 (by with_unfolding_all rfl) (by with_unfolding_all rfl) (by with_unfolding_all rfl) F.out.1 ⟨a2,c2,rfl,F.out.2.1,F.out.2.2⟩)
   ·have hin:i=n:=by omega
    subst hin;have hin1:¬ (i:Int)<(i:Int):=by omega
    obtain⟨rfl,rfl,rfl⟩:=EN.out (z_it (fun j hj=>ht j (by rw[←H.out.2.2.1];exact hj)));have lt:=hQ.q.var.tld;obtain⟨U,sU,rU,gU⟩:=hQ.q.out.tst (g:=h0) (y:=.slice a i c) rfl;have F:Hid (RvAt U (w.heap.size+1) 39 (trc h0 (.slice a i c))∧SlAt U a i c l0∧Below w.heap.size w U):=⟨rU,hQ.sl.keptT hQ.q.out gU,gro hQ.q.bel gU (by omega) hQ.q.bel.size⟩;clear rU gU ht hQ
    go_wp2_with (with_reducible exact v_N results57 (by with_unfolding_all rfl) (by with_unfolding_all rfl) (by with_unfolding_all rfl) F.out.1 ⟨a,c,rfl,F.out.2.1,F.out.2.2⟩)
end S12
end
end Go.Proofs.YtlchejbggnbccaaGreat
