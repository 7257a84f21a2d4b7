/-
  A step of a port that learns: its walk, for every tree. And what follows from it here.
-/
import Derived.Test.YtlchejbggnbccaaGreatPbb
import Derived.Test.YtlchejbggnbccaaGreatP14c
namespace Go.Proofs.YtlchejbggnbccaaGreat
set_option linter.unusedVariables false
set_option linter.unusedSimpArgs false
set_option maxRecDepth 4000
set_option maxHeartbeats 40000000
open _root_.Go.Proofs.Tryz
section
namespace S14
open Go.RowKit
attribute [local go_sem ↓] ldP stP stB stU stW ldT stT st32 alP
attribute [local go_sem] z_l
theorem z_lg (h:Hd) (a:Option Addr) (n c:Nat) (l:List Pt) (k:Nat) (w:World) (hs:SlAt w a n c l) (hn:n≤1000) (hk:k<n) :
  Calls prog 170 #[.agg (trc h (.slice a n c)),.int .i64 (k:Int)] w fun r w'=>TBf w h a n l (leaO h l k) r w':=by
 obtain⟨OO,hOO⟩:∃z,leaO h l k=z:=⟨_,rfl⟩;rw[hOO];have EO:Hid (leaO h l k=OO):=hOO;clear hOO;obtain⟨g,o,rfl⟩:=hs.some' (by omega);have HL:Hid (l.length=n∧n≤1000∧k<n):=⟨hs.len,hn,hk⟩;have hkl:k<l.length:=by rw[HL.out.1];exact hk
 have hin0:(0:Int)≤(k:Int):=by omega
 have hin1:(k:Int)<(n:Int):=by omega
 obtain⟨W,hW,r0,r1,bW,zW⟩:=z_w w h (.slice (some ⟨g,o,none⟩) n c);have c16:=r0.t16;have lp:=(hs.below bW).ld (z_k hkl);obtain⟨p,hp⟩:∃p,gtP l k=p:=⟨_,rfl⟩;rw[hp] at lp;have HP:Hid (gtP l k=p):=hp;obtain⟨W0,s0,r0',b0,z0⟩:=y_b W p;obtain⟨Z,hZ⟩:∃Z,W.heap.size=Z:=⟨_,rfl⟩;rw[hZ] at s0 r0'
 have T0:Hid (TP w W0 w.heap.size (w.heap.size+1) Z h g o n c l p):=⟨⟨r0.below b0,r1.below b0,z_a bW b0,by omega⟩,(hs.below bW).below b0,r0',by omega,hs.low (by omega)⟩;obtain⟨b7,h7⟩:∃z,p.bt 7=z:=⟨_,rfl⟩;obtain⟨b9,h9⟩:∃z,p.bt 9=z:=⟨_,rfl⟩;obtain⟨b10,h10⟩:∃z,p.bt 10=z:=⟨_,rfl⟩;obtain⟨PB,hPB⟩:∃z,hasB p=z:=⟨_,rfl⟩;have EP:Hid (hasB p=PB):=hPB;obtain⟨TB,hTB⟩:∃z,tldB p=z:=⟨_,rfl⟩
 have ET:Hid (tldB p=TB):=hTB;have EB:Hid (p.bt 7=b7∧p.bt 9=b9∧p.bt 10=b10):=⟨h7,h9,h10⟩;clear hs hn hk r0 r1 bW zW b0 z0 r0' hp hkl h7 h9 h10 hPB hTB;cases PB
 ·cases b9
  ·cases b10
   ·cases TB
    ·have E:OO=some (l.set k (quiP p)):=by
      rw[←EO.out];unfold leaO;rw[HP.out];rw[if_neg (by rw[EP.out];simp),if_pos (by rw[EP.out,EB.out.2.1,EB.out.2.2,ET.out];simp)]
     have E:Hid (OO=some (l.set k (quiP p))):=E;have c7:=T0.out.pv.pbit (j:=7) rfl;rw[EB.out.1] at c7;have c9:=T0.out.pv.pbit (j:=9) rfl;rw[EB.out.2.1] at c9;have c10:=T0.out.pv.pbit (j:=10) rfl;rw[EB.out.2.2] at c10;have lp0:=T0.out.pv.pld;go_enter func170,ntmps170
     go_wp2_with fail
     refine (z_u p W0).mono ?_;rintro _ W1 ⟨rfl,b1_⟩;rw[EP.out];have T1:Hid (TP w W1 w.heap.size (w.heap.size+1) Z h g o n c l p):=T0.out.below b1_;clear c7 c9 c10 lp0 b1_;have c7:=T1.out.pv.pbit (j:=7) rfl;rw[EB.out.1] at c7;have c9:=T1.out.pv.pbit (j:=9) rfl;rw[EB.out.2.1] at c9;have c10:=T1.out.pv.pbit (j:=10) rfl;rw[EB.out.2.2] at c10;have lp1:=T1.out.pv.pld
     go_wp2_with fail
     refine (z_u p W1).mono ?_;rintro _ W2 ⟨rfl,b2_⟩;rw[EP.out];have T2:Hid (TP w W2 w.heap.size (w.heap.size+1) Z h g o n c l p):=T1.out.below b2_;clear c7 c9 c10 lp1 b2_;have c7:=T2.out.pv.pbit (j:=7) rfl;rw[EB.out.1] at c7;have c9:=T2.out.pv.pbit (j:=9) rfl;rw[EB.out.2.1] at c9;have c10:=T2.out.pv.pbit (j:=10) rfl;rw[EB.out.2.2] at c10;have lp2:=T2.out.pv.pld
     go_wp2_with fail
     refine (y_c p W2).mono ?_;rintro _ W3 ⟨rfl,b3_⟩;rw[ET.out];have T3:Hid (TP w W3 w.heap.size (w.heap.size+1) Z h g o n c l p):=T2.out.below b3_;clear c7 c9 c10 lp2 b3_;have c7:=T3.out.pv.pbit (j:=7) rfl;rw[EB.out.1] at c7;have c9:=T3.out.pv.pbit (j:=9) rfl;rw[EB.out.2.1] at c9;have c10:=T3.out.pv.pbit (j:=10) rfl;rw[EB.out.2.2] at c10;have lp3:=T3.out.pv.pld;have lt0:=T3.out.tre.var.tld
     go_wp2_with fail
     refine (z_br h (some ⟨g,o,none⟩) n c l k W3 T3.out.sl HL.out.2.1 HL.out.2.2).mono ?_;rintro _ X ⟨a2,c2,rfl,s2,b2,f2⟩;have FR:Hid (Nw w a2):=f2.up T3.out.tre.bel.size;clear f2;rw[HP.out] at s2;obtain⟨U,sU,h1,h2,gU⟩:=(T3.out.tre.below b2).tell (y:=.slice a2 n c2) rfl
     have G:Hid (RvAt U (w.heap.size+1) 39 (trc h (.slice a2 n c2))∧SlAt U a2 n c2 (OO.getD l)∧Below w.heap.size w U∧OO.isSome=true):=by
      rw[E.out];exact⟨h1,s2.keptT (T3.out.tre.below b2).out gU,h2,rfl⟩
     clear h1 h2 gU s2 b2;go_wp2
     refine bodyPost_ret (z_i results170 _ _ _ _ _ rfl G.out.1) rfl ?_;exact⟨a2,c2,by rw[G.out.2.2.2];rfl,G.out.2.1,G.out.2.2.1,Or.inr FR.out⟩
    ·have E:OO=some (l.set k (lrnP p)):=by
      rw[←EO.out];unfold leaO;rw[HP.out];rw[if_neg (by rw[EP.out];simp),if_neg (by rw[EP.out,EB.out.2.1,EB.out.2.2,ET.out];simp),if_pos ET.out]
     have E:Hid (OO=some (l.set k (lrnP p))):=E;have c7:=T0.out.pv.pbit (j:=7) rfl;rw[EB.out.1] at c7;have c9:=T0.out.pv.pbit (j:=9) rfl;rw[EB.out.2.1] at c9;have c10:=T0.out.pv.pbit (j:=10) rfl;rw[EB.out.2.2] at c10;have lp0:=T0.out.pv.pld;go_enter func170,ntmps170
     go_wp2_with fail
     refine (z_u p W0).mono ?_;rintro _ W1 ⟨rfl,b1_⟩;rw[EP.out];have T1:Hid (TP w W1 w.heap.size (w.heap.size+1) Z h g o n c l p):=T0.out.below b1_;clear c7 c9 c10 lp0 b1_;have c7:=T1.out.pv.pbit (j:=7) rfl;rw[EB.out.1] at c7;have c9:=T1.out.pv.pbit (j:=9) rfl;rw[EB.out.2.1] at c9;have c10:=T1.out.pv.pbit (j:=10) rfl;rw[EB.out.2.2] at c10;have lp1:=T1.out.pv.pld
     go_wp2_with fail
     refine (z_u p W1).mono ?_;rintro _ W2 ⟨rfl,b2_⟩;rw[EP.out];have T2:Hid (TP w W2 w.heap.size (w.heap.size+1) Z h g o n c l p):=T1.out.below b2_;clear c7 c9 c10 lp1 b2_;have c7:=T2.out.pv.pbit (j:=7) rfl;rw[EB.out.1] at c7;have c9:=T2.out.pv.pbit (j:=9) rfl;rw[EB.out.2.1] at c9;have c10:=T2.out.pv.pbit (j:=10) rfl;rw[EB.out.2.2] at c10;have lp2:=T2.out.pv.pld
     go_wp2_with fail
     refine (y_c p W2).mono ?_;rintro _ W3 ⟨rfl,b3_⟩;rw[ET.out];have T3:Hid (TP w W3 w.heap.size (w.heap.size+1) Z h g o n c l p):=T2.out.below b3_;clear c7 c9 c10 lp2 b3_;have c7:=T3.out.pv.pbit (j:=7) rfl;rw[EB.out.1] at c7;have c9:=T3.out.pv.pbit (j:=9) rfl;rw[EB.out.2.1] at c9;have c10:=T3.out.pv.pbit (j:=10) rfl;rw[EB.out.2.2] at c10;have lp3:=T3.out.pv.pld
     go_wp2_with fail
     refine (y_c p W3).mono ?_;rintro _ W4 ⟨rfl,b4_⟩;rw[ET.out];have T4:Hid (TP w W4 w.heap.size (w.heap.size+1) Z h g o n c l p):=T3.out.below b4_;clear c7 c9 c10 lp3 b4_;have c7:=T4.out.pv.pbit (j:=7) rfl;rw[EB.out.1] at c7;have c9:=T4.out.pv.pbit (j:=9) rfl;rw[EB.out.2.1] at c9;have c10:=T4.out.pv.pbit (j:=10) rfl;rw[EB.out.2.2] at c10;have lp4:=T4.out.pv.pld;have lt0:=T4.out.tre.var.tld
     go_wp2_with fail
     refine (y_D h (some ⟨g,o,none⟩) n c l k W4 T4.out.sl HL.out.2.1 HL.out.2.2).mono ?_;rintro _ X ⟨a2,c2,rfl,s2,b2,f2⟩;have FR:Hid (Nw w a2):=f2.up T4.out.tre.bel.size;clear f2;rw[HP.out] at s2;obtain⟨U,sU,h1,h2,gU⟩:=(T4.out.tre.below b2).tell (y:=.slice a2 n c2) rfl
     have G:Hid (RvAt U (w.heap.size+1) 39 (trc h (.slice a2 n c2))∧SlAt U a2 n c2 (OO.getD l)∧Below w.heap.size w U∧OO.isSome=true):=by
      rw[E.out];exact⟨h1,s2.keptT (T4.out.tre.below b2).out gU,h2,rfl⟩
     clear h1 h2 gU s2 b2;go_wp2
     refine bodyPost_ret (z_i results170 _ _ _ _ _ rfl G.out.1) rfl ?_;exact⟨a2,c2,by rw[G.out.2.2.2];rfl,G.out.2.1,G.out.2.2.1,Or.inr FR.out⟩
   ·cases TB
    ·have E:OO=none:=by
      rw[←EO.out];unfold leaO;rw[HP.out];rw[if_neg (by rw[EP.out];simp),if_neg (by rw[EP.out,EB.out.2.1,EB.out.2.2];simp),if_neg (by rw[ET.out];simp)]
     have E:Hid (OO=none):=E;have c7:=T0.out.pv.pbit (j:=7) rfl;rw[EB.out.1] at c7;have c9:=T0.out.pv.pbit (j:=9) rfl;rw[EB.out.2.1] at c9;have c10:=T0.out.pv.pbit (j:=10) rfl;rw[EB.out.2.2] at c10;have lp0:=T0.out.pv.pld;go_enter func170,ntmps170
     go_wp2_with fail
     refine (z_u p W0).mono ?_;rintro _ W1 ⟨rfl,b1_⟩;rw[EP.out];have T1:Hid (TP w W1 w.heap.size (w.heap.size+1) Z h g o n c l p):=T0.out.below b1_;clear c7 c9 c10 lp0 b1_;have c7:=T1.out.pv.pbit (j:=7) rfl;rw[EB.out.1] at c7;have c9:=T1.out.pv.pbit (j:=9) rfl;rw[EB.out.2.1] at c9;have c10:=T1.out.pv.pbit (j:=10) rfl;rw[EB.out.2.2] at c10;have lp1:=T1.out.pv.pld
     go_wp2_with fail
     refine (z_u p W1).mono ?_;rintro _ W2 ⟨rfl,b2_⟩;rw[EP.out];have T2:Hid (TP w W2 w.heap.size (w.heap.size+1) Z h g o n c l p):=T1.out.below b2_;clear c7 c9 c10 lp1 b2_;have c7:=T2.out.pv.pbit (j:=7) rfl;rw[EB.out.1] at c7;have c9:=T2.out.pv.pbit (j:=9) rfl;rw[EB.out.2.1] at c9;have c10:=T2.out.pv.pbit (j:=10) rfl;rw[EB.out.2.2] at c10;have lp2:=T2.out.pv.pld
     go_wp2_with fail
     refine (y_c p W2).mono ?_;rintro _ W3 ⟨rfl,b3_⟩;rw[ET.out];have T3:Hid (TP w W3 w.heap.size (w.heap.size+1) Z h g o n c l p):=T2.out.below b3_;clear c7 c9 c10 lp2 b3_;have c7:=T3.out.pv.pbit (j:=7) rfl;rw[EB.out.1] at c7;have c9:=T3.out.pv.pbit (j:=9) rfl;rw[EB.out.2.1] at c9;have c10:=T3.out.pv.pbit (j:=10) rfl;rw[EB.out.2.2] at c10;have lp3:=T3.out.pv.pld;have lt0:=T3.out.tre.var.tld
     obtain⟨U,sU,h1,h2,gU⟩:=T3.out.tre.tell (y:=.slice (some ⟨g,o,none⟩) n c) rfl;have G:Hid (RvAt U (w.heap.size+1) 39 (trc h (.slice (some ⟨g,o,none⟩) n c))∧SlAt U (some ⟨g,o,none⟩) n c (OO.getD l)∧Below w.heap.size w U∧OO.isSome=false):=by
      rw[E.out];exact⟨h1,T3.out.sl.keptT T3.out.tre.out gU,h2,rfl⟩
     clear h1 h2 gU;go_wp2
     refine bodyPost_ret (z_i results170 _ _ _ _ _ rfl G.out.1) rfl ?_;exact⟨some ⟨g,o,none⟩,c,by rw[G.out.2.2.2];rfl,G.out.2.1,G.out.2.2.1,Or.inl rfl⟩
    ·have E:OO=some (l.set k (lrnP p)):=by
      rw[←EO.out];unfold leaO;rw[HP.out];rw[if_neg (by rw[EP.out];simp),if_neg (by rw[EP.out,EB.out.2.1,EB.out.2.2];simp),if_pos ET.out]
     have E:Hid (OO=some (l.set k (lrnP p))):=E;have c7:=T0.out.pv.pbit (j:=7) rfl;rw[EB.out.1] at c7;have c9:=T0.out.pv.pbit (j:=9) rfl;rw[EB.out.2.1] at c9;have c10:=T0.out.pv.pbit (j:=10) rfl;rw[EB.out.2.2] at c10;have lp0:=T0.out.pv.pld;go_enter func170,ntmps170
     go_wp2_with fail
     refine (z_u p W0).mono ?_;rintro _ W1 ⟨rfl,b1_⟩;rw[EP.out];have T1:Hid (TP w W1 w.heap.size (w.heap.size+1) Z h g o n c l p):=T0.out.below b1_;clear c7 c9 c10 lp0 b1_;have c7:=T1.out.pv.pbit (j:=7) rfl;rw[EB.out.1] at c7;have c9:=T1.out.pv.pbit (j:=9) rfl;rw[EB.out.2.1] at c9;have c10:=T1.out.pv.pbit (j:=10) rfl;rw[EB.out.2.2] at c10;have lp1:=T1.out.pv.pld
     go_wp2_with fail
     refine (z_u p W1).mono ?_;rintro _ W2 ⟨rfl,b2_⟩;rw[EP.out];have T2:Hid (TP w W2 w.heap.size (w.heap.size+1) Z h g o n c l p):=T1.out.below b2_;clear c7 c9 c10 lp1 b2_;have c7:=T2.out.pv.pbit (j:=7) rfl;rw[EB.out.1] at c7;have c9:=T2.out.pv.pbit (j:=9) rfl;rw[EB.out.2.1] at c9;have c10:=T2.out.pv.pbit (j:=10) rfl;rw[EB.out.2.2] at c10;have lp2:=T2.out.pv.pld
     go_wp2_with fail
     refine (y_c p W2).mono ?_;rintro _ W3 ⟨rfl,b3_⟩;rw[ET.out];have T3:Hid (TP w W3 w.heap.size (w.heap.size+1) Z h g o n c l p):=T2.out.below b3_;clear c7 c9 c10 lp2 b3_;have c7:=T3.out.pv.pbit (j:=7) rfl;rw[EB.out.1] at c7;have c9:=T3.out.pv.pbit (j:=9) rfl;rw[EB.out.2.1] at c9;have c10:=T3.out.pv.pbit (j:=10) rfl;rw[EB.out.2.2] at c10;have lp3:=T3.out.pv.pld;have lt0:=T3.out.tre.var.tld
     go_wp2_with fail
     refine (y_D h (some ⟨g,o,none⟩) n c l k W3 T3.out.sl HL.out.2.1 HL.out.2.2).mono ?_;rintro _ X ⟨a2,c2,rfl,s2,b2,f2⟩;have FR:Hid (Nw w a2):=f2.up T3.out.tre.bel.size;clear f2;rw[HP.out] at s2;obtain⟨U,sU,h1,h2,gU⟩:=(T3.out.tre.below b2).tell (y:=.slice a2 n c2) rfl
     have G:Hid (RvAt U (w.heap.size+1) 39 (trc h (.slice a2 n c2))∧SlAt U a2 n c2 (OO.getD l)∧Below w.heap.size w U∧OO.isSome=true):=by
      rw[E.out];exact⟨h1,s2.keptT (T3.out.tre.below b2).out gU,h2,rfl⟩
     clear h1 h2 gU s2 b2;go_wp2
     refine bodyPost_ret (z_i results170 _ _ _ _ _ rfl G.out.1) rfl ?_;exact⟨a2,c2,by rw[G.out.2.2.2];rfl,G.out.2.1,G.out.2.2.1,Or.inr FR.out⟩
  ·cases TB
   ·have E:OO=none:=by
     rw[←EO.out];unfold leaO;rw[HP.out];rw[if_neg (by rw[EP.out];simp),if_neg (by rw[EP.out,EB.out.2.1];simp),if_neg (by rw[ET.out];simp)]
    have E:Hid (OO=none):=E;have c7:=T0.out.pv.pbit (j:=7) rfl;rw[EB.out.1] at c7;have c9:=T0.out.pv.pbit (j:=9) rfl;rw[EB.out.2.1] at c9;have c10:=T0.out.pv.pbit (j:=10) rfl;rw[EB.out.2.2] at c10;have lp0:=T0.out.pv.pld;go_enter func170,ntmps170
    go_wp2_with fail
    refine (z_u p W0).mono ?_;rintro _ W1 ⟨rfl,b1_⟩;rw[EP.out];have T1:Hid (TP w W1 w.heap.size (w.heap.size+1) Z h g o n c l p):=T0.out.below b1_;clear c7 c9 c10 lp0 b1_;have c7:=T1.out.pv.pbit (j:=7) rfl;rw[EB.out.1] at c7;have c9:=T1.out.pv.pbit (j:=9) rfl;rw[EB.out.2.1] at c9;have c10:=T1.out.pv.pbit (j:=10) rfl;rw[EB.out.2.2] at c10;have lp1:=T1.out.pv.pld
    go_wp2_with fail
    refine (z_u p W1).mono ?_;rintro _ W2 ⟨rfl,b2_⟩;rw[EP.out];have T2:Hid (TP w W2 w.heap.size (w.heap.size+1) Z h g o n c l p):=T1.out.below b2_;clear c7 c9 c10 lp1 b2_;have c7:=T2.out.pv.pbit (j:=7) rfl;rw[EB.out.1] at c7;have c9:=T2.out.pv.pbit (j:=9) rfl;rw[EB.out.2.1] at c9;have c10:=T2.out.pv.pbit (j:=10) rfl;rw[EB.out.2.2] at c10;have lp2:=T2.out.pv.pld
    go_wp2_with fail
    refine (y_c p W2).mono ?_;rintro _ W3 ⟨rfl,b3_⟩;rw[ET.out];have T3:Hid (TP w W3 w.heap.size (w.heap.size+1) Z h g o n c l p):=T2.out.below b3_;clear c7 c9 c10 lp2 b3_;have c7:=T3.out.pv.pbit (j:=7) rfl;rw[EB.out.1] at c7;have c9:=T3.out.pv.pbit (j:=9) rfl;rw[EB.out.2.1] at c9;have c10:=T3.out.pv.pbit (j:=10) rfl;rw[EB.out.2.2] at c10;have lp3:=T3.out.pv.pld;have lt0:=T3.out.tre.var.tld
    obtain⟨U,sU,h1,h2,gU⟩:=T3.out.tre.tell (y:=.slice (some ⟨g,o,none⟩) n c) rfl;have G:Hid (RvAt U (w.heap.size+1) 39 (trc h (.slice (some ⟨g,o,none⟩) n c))∧SlAt U (some ⟨g,o,none⟩) n c (OO.getD l)∧Below w.heap.size w U∧OO.isSome=false):=by
     rw[E.out];exact⟨h1,T3.out.sl.keptT T3.out.tre.out gU,h2,rfl⟩
    clear h1 h2 gU;go_wp2
    refine bodyPost_ret (z_i results170 _ _ _ _ _ rfl G.out.1) rfl ?_;exact⟨some ⟨g,o,none⟩,c,by rw[G.out.2.2.2];rfl,G.out.2.1,G.out.2.2.1,Or.inl rfl⟩
   ·have E:OO=some (l.set k (lrnP p)):=by
     rw[←EO.out];unfold leaO;rw[HP.out];rw[if_neg (by rw[EP.out];simp),if_neg (by rw[EP.out,EB.out.2.1];simp),if_pos ET.out]
    have E:Hid (OO=some (l.set k (lrnP p))):=E;have c7:=T0.out.pv.pbit (j:=7) rfl;rw[EB.out.1] at c7;have c9:=T0.out.pv.pbit (j:=9) rfl;rw[EB.out.2.1] at c9;have c10:=T0.out.pv.pbit (j:=10) rfl;rw[EB.out.2.2] at c10;have lp0:=T0.out.pv.pld;go_enter func170,ntmps170
    go_wp2_with fail
    refine (z_u p W0).mono ?_;rintro _ W1 ⟨rfl,b1_⟩;rw[EP.out];have T1:Hid (TP w W1 w.heap.size (w.heap.size+1) Z h g o n c l p):=T0.out.below b1_;clear c7 c9 c10 lp0 b1_;have c7:=T1.out.pv.pbit (j:=7) rfl;rw[EB.out.1] at c7;have c9:=T1.out.pv.pbit (j:=9) rfl;rw[EB.out.2.1] at c9;have c10:=T1.out.pv.pbit (j:=10) rfl;rw[EB.out.2.2] at c10;have lp1:=T1.out.pv.pld
    go_wp2_with fail
    refine (z_u p W1).mono ?_;rintro _ W2 ⟨rfl,b2_⟩;rw[EP.out];have T2:Hid (TP w W2 w.heap.size (w.heap.size+1) Z h g o n c l p):=T1.out.below b2_;clear c7 c9 c10 lp1 b2_;have c7:=T2.out.pv.pbit (j:=7) rfl;rw[EB.out.1] at c7;have c9:=T2.out.pv.pbit (j:=9) rfl;rw[EB.out.2.1] at c9;have c10:=T2.out.pv.pbit (j:=10) rfl;rw[EB.out.2.2] at c10;have lp2:=T2.out.pv.pld
    go_wp2_with fail
    refine (y_c p W2).mono ?_;rintro _ W3 ⟨rfl,b3_⟩;rw[ET.out];have T3:Hid (TP w W3 w.heap.size (w.heap.size+1) Z h g o n c l p):=T2.out.below b3_;clear c7 c9 c10 lp2 b3_;have c7:=T3.out.pv.pbit (j:=7) rfl;rw[EB.out.1] at c7;have c9:=T3.out.pv.pbit (j:=9) rfl;rw[EB.out.2.1] at c9;have c10:=T3.out.pv.pbit (j:=10) rfl;rw[EB.out.2.2] at c10;have lp3:=T3.out.pv.pld;have lt0:=T3.out.tre.var.tld
    go_wp2_with fail
    refine (y_D h (some ⟨g,o,none⟩) n c l k W3 T3.out.sl HL.out.2.1 HL.out.2.2).mono ?_;rintro _ X ⟨a2,c2,rfl,s2,b2,f2⟩;have FR:Hid (Nw w a2):=f2.up T3.out.tre.bel.size;clear f2;rw[HP.out] at s2;obtain⟨U,sU,h1,h2,gU⟩:=(T3.out.tre.below b2).tell (y:=.slice a2 n c2) rfl;have G:Hid (RvAt U (w.heap.size+1) 39 (trc h (.slice a2 n c2))∧SlAt U a2 n c2 (OO.getD l)∧Below w.heap.size w U∧OO.isSome=true):=by
     rw[E.out];exact⟨h1,s2.keptT (T3.out.tre.below b2).out gU,h2,rfl⟩
    clear h1 h2 gU s2 b2;go_wp2
    refine bodyPost_ret (z_i results170 _ _ _ _ _ rfl G.out.1) rfl ?_;exact⟨a2,c2,by rw[G.out.2.2.2];rfl,G.out.2.1,G.out.2.2.1,Or.inr FR.out⟩
 ·cases b7
  ·cases TB
   ·have E:OO=none:=by
     rw[←EO.out];unfold leaO;rw[HP.out];rw[if_neg (by rw[EP.out,EB.out.1];simp),if_neg (by rw[EP.out];simp),if_neg (by rw[ET.out];simp)]
    have E:Hid (OO=none):=E;have c7:=T0.out.pv.pbit (j:=7) rfl;rw[EB.out.1] at c7;have c9:=T0.out.pv.pbit (j:=9) rfl;rw[EB.out.2.1] at c9;have c10:=T0.out.pv.pbit (j:=10) rfl;rw[EB.out.2.2] at c10;have lp0:=T0.out.pv.pld;go_enter func170,ntmps170
    go_wp2_with fail
    refine (z_u p W0).mono ?_;rintro _ W1 ⟨rfl,b1_⟩;rw[EP.out];have T1:Hid (TP w W1 w.heap.size (w.heap.size+1) Z h g o n c l p):=T0.out.below b1_;clear c7 c9 c10 lp0 b1_;have c7:=T1.out.pv.pbit (j:=7) rfl;rw[EB.out.1] at c7;have c9:=T1.out.pv.pbit (j:=9) rfl;rw[EB.out.2.1] at c9;have c10:=T1.out.pv.pbit (j:=10) rfl;rw[EB.out.2.2] at c10;have lp1:=T1.out.pv.pld
    go_wp2_with fail
    refine (z_u p W1).mono ?_;rintro _ W2 ⟨rfl,b2_⟩;rw[EP.out];have T2:Hid (TP w W2 w.heap.size (w.heap.size+1) Z h g o n c l p):=T1.out.below b2_;clear c7 c9 c10 lp1 b2_;have c7:=T2.out.pv.pbit (j:=7) rfl;rw[EB.out.1] at c7;have c9:=T2.out.pv.pbit (j:=9) rfl;rw[EB.out.2.1] at c9;have c10:=T2.out.pv.pbit (j:=10) rfl;rw[EB.out.2.2] at c10;have lp2:=T2.out.pv.pld
    go_wp2_with fail
    refine (y_c p W2).mono ?_;rintro _ W3 ⟨rfl,b3_⟩;rw[ET.out];have T3:Hid (TP w W3 w.heap.size (w.heap.size+1) Z h g o n c l p):=T2.out.below b3_;clear c7 c9 c10 lp2 b3_;have c7:=T3.out.pv.pbit (j:=7) rfl;rw[EB.out.1] at c7;have c9:=T3.out.pv.pbit (j:=9) rfl;rw[EB.out.2.1] at c9;have c10:=T3.out.pv.pbit (j:=10) rfl;rw[EB.out.2.2] at c10;have lp3:=T3.out.pv.pld;have lt0:=T3.out.tre.var.tld
    obtain⟨U,sU,h1,h2,gU⟩:=T3.out.tre.tell (y:=.slice (some ⟨g,o,none⟩) n c) rfl;have G:Hid (RvAt U (w.heap.size+1) 39 (trc h (.slice (some ⟨g,o,none⟩) n c))∧SlAt U (some ⟨g,o,none⟩) n c (OO.getD l)∧Below w.heap.size w U∧OO.isSome=false):=by
     rw[E.out];exact⟨h1,T3.out.sl.keptT T3.out.tre.out gU,h2,rfl⟩
    clear h1 h2 gU;go_wp2
    refine bodyPost_ret (z_i results170 _ _ _ _ _ rfl G.out.1) rfl ?_;exact⟨some ⟨g,o,none⟩,c,by rw[G.out.2.2.2];rfl,G.out.2.1,G.out.2.2.1,Or.inl rfl⟩
   ·have E:OO=some (l.set k (lrnP p)):=by
     rw[←EO.out];unfold leaO;rw[HP.out];rw[if_neg (by rw[EP.out,EB.out.1];simp),if_neg (by rw[EP.out];simp),if_pos ET.out]
    have E:Hid (OO=some (l.set k (lrnP p))):=E;have c7:=T0.out.pv.pbit (j:=7) rfl;rw[EB.out.1] at c7;have c9:=T0.out.pv.pbit (j:=9) rfl;rw[EB.out.2.1] at c9;have c10:=T0.out.pv.pbit (j:=10) rfl;rw[EB.out.2.2] at c10;have lp0:=T0.out.pv.pld;go_enter func170,ntmps170
    go_wp2_with fail
    refine (z_u p W0).mono ?_;rintro _ W1 ⟨rfl,b1_⟩;rw[EP.out];have T1:Hid (TP w W1 w.heap.size (w.heap.size+1) Z h g o n c l p):=T0.out.below b1_;clear c7 c9 c10 lp0 b1_;have c7:=T1.out.pv.pbit (j:=7) rfl;rw[EB.out.1] at c7;have c9:=T1.out.pv.pbit (j:=9) rfl;rw[EB.out.2.1] at c9;have c10:=T1.out.pv.pbit (j:=10) rfl;rw[EB.out.2.2] at c10;have lp1:=T1.out.pv.pld
    go_wp2_with fail
    refine (z_u p W1).mono ?_;rintro _ W2 ⟨rfl,b2_⟩;rw[EP.out];have T2:Hid (TP w W2 w.heap.size (w.heap.size+1) Z h g o n c l p):=T1.out.below b2_;clear c7 c9 c10 lp1 b2_;have c7:=T2.out.pv.pbit (j:=7) rfl;rw[EB.out.1] at c7;have c9:=T2.out.pv.pbit (j:=9) rfl;rw[EB.out.2.1] at c9;have c10:=T2.out.pv.pbit (j:=10) rfl;rw[EB.out.2.2] at c10;have lp2:=T2.out.pv.pld
    go_wp2_with fail
    refine (y_c p W2).mono ?_;rintro _ W3 ⟨rfl,b3_⟩;rw[ET.out];have T3:Hid (TP w W3 w.heap.size (w.heap.size+1) Z h g o n c l p):=T2.out.below b3_;clear c7 c9 c10 lp2 b3_;have c7:=T3.out.pv.pbit (j:=7) rfl;rw[EB.out.1] at c7;have c9:=T3.out.pv.pbit (j:=9) rfl;rw[EB.out.2.1] at c9;have c10:=T3.out.pv.pbit (j:=10) rfl;rw[EB.out.2.2] at c10;have lp3:=T3.out.pv.pld;have lt0:=T3.out.tre.var.tld
    go_wp2_with fail
    refine (y_D h (some ⟨g,o,none⟩) n c l k W3 T3.out.sl HL.out.2.1 HL.out.2.2).mono ?_;rintro _ X ⟨a2,c2,rfl,s2,b2,f2⟩;have FR:Hid (Nw w a2):=f2.up T3.out.tre.bel.size;clear f2;rw[HP.out] at s2;obtain⟨U,sU,h1,h2,gU⟩:=(T3.out.tre.below b2).tell (y:=.slice a2 n c2) rfl;have G:Hid (RvAt U (w.heap.size+1) 39 (trc h (.slice a2 n c2))∧SlAt U a2 n c2 (OO.getD l)∧Below w.heap.size w U∧OO.isSome=true):=by
     rw[E.out];exact⟨h1,s2.keptT (T3.out.tre.below b2).out gU,h2,rfl⟩
    clear h1 h2 gU s2 b2;go_wp2
    refine bodyPost_ret (z_i results170 _ _ _ _ _ rfl G.out.1) rfl ?_;exact⟨a2,c2,by rw[G.out.2.2.2];rfl,G.out.2.1,G.out.2.2.1,Or.inr FR.out⟩
  ·have E:OO=some (sprL l k (detP h p)):=by
    rw[←EO.out];unfold leaO;rw[HP.out];rw[if_pos (by rw[EP.out,EB.out.1];simp)]
   have E:Hid (OO=some (sprL l k (detP h p))):=E;have c7:=T0.out.pv.pbit (j:=7) rfl;rw[EB.out.1] at c7;have c9:=T0.out.pv.pbit (j:=9) rfl;rw[EB.out.2.1] at c9;have c10:=T0.out.pv.pbit (j:=10) rfl;rw[EB.out.2.2] at c10;have lp0:=T0.out.pv.pld;go_enter func170,ntmps170
   go_wp2_with fail
   refine (z_u p W0).mono ?_;rintro _ W1 ⟨rfl,b1_⟩;rw[EP.out];have T1:Hid (TP w W1 w.heap.size (w.heap.size+1) Z h g o n c l p):=T0.out.below b1_;clear c7 c9 c10 lp0 b1_;have c7:=T1.out.pv.pbit (j:=7) rfl;rw[EB.out.1] at c7;have c9:=T1.out.pv.pbit (j:=9) rfl;rw[EB.out.2.1] at c9;have c10:=T1.out.pv.pbit (j:=10) rfl;rw[EB.out.2.2] at c10;have lp1:=T1.out.pv.pld;have lt0:=T1.out.tre.var.tld
   go_wp2_with fail
   refine (z_aS h (some ⟨g,o,none⟩) n c l k W1 T1.out.sl HL.out.2.1 HL.out.2.2).mono ?_;rintro _ X ⟨a2,c2,rfl,s2,b2,f2⟩;have FR:Hid (Nw w a2):=f2.up T1.out.tre.bel.size;clear f2;rw[HP.out] at s2;obtain⟨U,sU,h1,h2,gU⟩:=(T1.out.tre.below b2).tell (y:=.slice a2 n c2) rfl;have G:Hid (RvAt U (w.heap.size+1) 39 (trc h (.slice a2 n c2))∧SlAt U a2 n c2 (OO.getD l)∧Below w.heap.size w U∧OO.isSome=true):=by
    rw[E.out];exact⟨h1,s2.keptT (T1.out.tre.below b2).out gU,h2,rfl⟩
   clear h1 h2 gU s2 b2;go_wp2
   refine bodyPost_ret (z_i results170 _ _ _ _ _ rfl G.out.1) rfl ?_;exact⟨a2,c2,by rw[G.out.2.2.2];rfl,G.out.2.1,G.out.2.2.1,Or.inr FR.out⟩
end S14
end
section
namespace S14
open Go.RowKit
attribute [local go_sem ↓] ldP stP stB stU stW ldT stT st32 alP
attribute [local go_sem] z_l
theorem z_lJ (h:Hd) (a:Option Addr) (n c:Nat) (l:List Pt) (k:Nat) (w:World) (hs:SlAt w a n c l) (hn:n≤1000) (hk:k<n) :
  Calls prog 171 #[.agg (trc h (.slice a n c)),.int .i64 (k:Int)] w fun r w'=>TBf w h a n l (actO h l k) r w':=by
 obtain⟨OO,hOO⟩:∃z,actO h l k=z:=⟨_,rfl⟩;rw[hOO];have EO:Hid (actO h l k=OO):=hOO;clear hOO;obtain⟨g,o,rfl⟩:=hs.some' (by omega);have HL:Hid (l.length=n∧n≤1000∧k<n):=⟨hs.len,hn,hk⟩;have hkl:k<l.length:=by rw[HL.out.1];exact hk
 have hin0:(0:Int)≤(k:Int):=by omega
 have hin1:(k:Int)<(n:Int):=by omega
 obtain⟨W,hW,r0,r1,bW,zW⟩:=z_w w h (.slice (some ⟨g,o,none⟩) n c);have c16:=r0.t16;have lp:=(hs.below bW).ld (z_k hkl);obtain⟨p,hp⟩:∃p,gtP l k=p:=⟨_,rfl⟩;rw[hp] at lp;have HP:Hid (gtP l k=p):=hp;obtain⟨W0,s0,r0',b0,z0⟩:=y_b W p;obtain⟨Z,hZ⟩:∃Z,W.heap.size=Z:=⟨_,rfl⟩;rw[hZ] at s0 r0'
 have T0:Hid (TP w W0 w.heap.size (w.heap.size+1) Z h g o n c l p):=⟨⟨r0.below b0,r1.below b0,z_a bW b0,by omega⟩,(hs.below bW).below b0,r0',by omega,hs.low (by omega)⟩;obtain⟨b19,h19⟩:∃z,p.bt 19=z:=⟨_,rfl⟩;obtain⟨b17,h17⟩:∃z,p.bt 17=z:=⟨_,rfl⟩;obtain⟨b27,h27⟩:∃z,p.bt 27=z:=⟨_,rfl⟩;obtain⟨b18,h18⟩:∃z,p.bt 18=z:=⟨_,rfl⟩;obtain⟨PB,hPB⟩:∃z,hasB p=z:=⟨_,rfl⟩;have EP:Hid (hasB p=PB):=hPB
 have EB:Hid (p.bt 19=b19∧p.bt 17=b17∧p.bt 27=b27∧p.bt 18=b18):=⟨h19,h17,h27,h18⟩;clear hs hn hk r0 r1 bW zW b0 z0 r0' hp hkl h19 h17 h27 h18 hPB;cases PB
 ·have E:OO=some (l.set k (lrnP p)):=by
   rw[←EO.out];unfold actO;rw[HP.out];rw[if_pos EP.out]
  have E:Hid (OO=some (l.set k (lrnP p))):=E;have c19:=T0.out.pv.pbit (j:=19) rfl;rw[EB.out.1] at c19;have c17:=T0.out.pv.pbit (j:=17) rfl;rw[EB.out.2.1] at c17;have c27:=T0.out.pv.pbit (j:=27) rfl;rw[EB.out.2.2.1] at c27;have c18:=T0.out.pv.pbit (j:=18) rfl;rw[EB.out.2.2.2] at c18;have lp0:=T0.out.pv.pld;go_enter func171,ntmps171
  go_wp2_with fail
  refine (z_u p W0).mono ?_;rintro _ W1 ⟨rfl,b1_⟩;rw[EP.out];have T1:Hid (TP w W1 w.heap.size (w.heap.size+1) Z h g o n c l p):=T0.out.below b1_;clear c19 c17 c27 c18 lp0 b1_;have c19:=T1.out.pv.pbit (j:=19) rfl;rw[EB.out.1] at c19;have c17:=T1.out.pv.pbit (j:=17) rfl;rw[EB.out.2.1] at c17;have c27:=T1.out.pv.pbit (j:=27) rfl;rw[EB.out.2.2.1] at c27;have c18:=T1.out.pv.pbit (j:=18) rfl
  rw[EB.out.2.2.2] at c18;have lp1:=T1.out.pv.pld;have lt0:=T1.out.tre.var.tld
  go_wp2_with fail
  refine (y_D h (some ⟨g,o,none⟩) n c l k W1 T1.out.sl HL.out.2.1 HL.out.2.2).mono ?_;rintro _ X ⟨a2,c2,rfl,s2,b2,f2⟩;have FR:Hid (Nw w a2):=f2.up T1.out.tre.bel.size;clear f2;rw[HP.out] at s2;obtain⟨U,sU,h1,h2,gU⟩:=(T1.out.tre.below b2).tell (y:=.slice a2 n c2) rfl;have G:Hid (RvAt U (w.heap.size+1) 39 (trc h (.slice a2 n c2))∧SlAt U a2 n c2 (OO.getD l)∧Below w.heap.size w U∧OO.isSome=true):=by
   rw[E.out];exact⟨h1,s2.keptT (T1.out.tre.below b2).out gU,h2,rfl⟩
  clear h1 h2 gU s2 b2;go_wp2
  refine bodyPost_ret (z_i results171 _ _ _ _ _ rfl G.out.1) rfl ?_;exact⟨a2,c2,by rw[G.out.2.2.2];rfl,G.out.2.1,G.out.2.2.1,Or.inr FR.out⟩
 ·cases b19
  ·cases b17
   ·cases b27
    ·cases b18
     ·have E:OO=none:=by
       rw[←EO.out];unfold actO;rw[HP.out];rw[if_neg (by rw[EP.out];simp),if_neg (by rw[EB.out.1,EB.out.2.1];simp),if_neg (by rw[EB.out.2.2.1];simp),if_neg (by rw[EB.out.2.2.2];simp)]
      have E:Hid (OO=none):=E;have c19:=T0.out.pv.pbit (j:=19) rfl;rw[EB.out.1] at c19;have c17:=T0.out.pv.pbit (j:=17) rfl;rw[EB.out.2.1] at c17;have c27:=T0.out.pv.pbit (j:=27) rfl;rw[EB.out.2.2.1] at c27;have c18:=T0.out.pv.pbit (j:=18) rfl;rw[EB.out.2.2.2] at c18;have lp0:=T0.out.pv.pld;go_enter func171,ntmps171
      go_wp2_with fail
      refine (z_u p W0).mono ?_;rintro _ W1 ⟨rfl,b1_⟩;rw[EP.out];have T1:Hid (TP w W1 w.heap.size (w.heap.size+1) Z h g o n c l p):=T0.out.below b1_;clear c19 c17 c27 c18 lp0 b1_;have c19:=T1.out.pv.pbit (j:=19) rfl;rw[EB.out.1] at c19;have c17:=T1.out.pv.pbit (j:=17) rfl;rw[EB.out.2.1] at c17;have c27:=T1.out.pv.pbit (j:=27) rfl;rw[EB.out.2.2.1] at c27;have c18:=T1.out.pv.pbit (j:=18) rfl
      rw[EB.out.2.2.2] at c18;have lp1:=T1.out.pv.pld;have lt0:=T1.out.tre.var.tld;obtain⟨U,sU,h1,h2,gU⟩:=T1.out.tre.tell (y:=.slice (some ⟨g,o,none⟩) n c) rfl;have G:Hid (RvAt U (w.heap.size+1) 39 (trc h (.slice (some ⟨g,o,none⟩) n c))∧SlAt U (some ⟨g,o,none⟩) n c (OO.getD l)∧Below w.heap.size w U∧OO.isSome=false):=by
       rw[E.out];exact⟨h1,T1.out.sl.keptT T1.out.tre.out gU,h2,rfl⟩
      clear h1 h2 gU;go_wp2
      refine bodyPost_ret (z_i results171 _ _ _ _ _ rfl G.out.1) rfl ?_;exact⟨some ⟨g,o,none⟩,c,by rw[G.out.2.2.2];rfl,G.out.2.1,G.out.2.2.1,Or.inl rfl⟩
     ·have E:OO=some (l.set k (ackP p)):=by
       rw[←EO.out];unfold actO;rw[HP.out];rw[if_neg (by rw[EP.out];simp),if_neg (by rw[EB.out.1,EB.out.2.1];simp),if_neg (by rw[EB.out.2.2.1];simp),if_pos EB.out.2.2.2]
      have E:Hid (OO=some (l.set k (ackP p))):=E;have c19:=T0.out.pv.pbit (j:=19) rfl;rw[EB.out.1] at c19;have c17:=T0.out.pv.pbit (j:=17) rfl;rw[EB.out.2.1] at c17;have c27:=T0.out.pv.pbit (j:=27) rfl;rw[EB.out.2.2.1] at c27;have c18:=T0.out.pv.pbit (j:=18) rfl;rw[EB.out.2.2.2] at c18;have lp0:=T0.out.pv.pld;go_enter func171,ntmps171
      go_wp2_with fail
      refine (z_u p W0).mono ?_;rintro _ W1 ⟨rfl,b1_⟩;rw[EP.out];have T1:Hid (TP w W1 w.heap.size (w.heap.size+1) Z h g o n c l p):=T0.out.below b1_;clear c19 c17 c27 c18 lp0 b1_;have c19:=T1.out.pv.pbit (j:=19) rfl;rw[EB.out.1] at c19;have c17:=T1.out.pv.pbit (j:=17) rfl;rw[EB.out.2.1] at c17;have c27:=T1.out.pv.pbit (j:=27) rfl;rw[EB.out.2.2.1] at c27;have c18:=T1.out.pv.pbit (j:=18) rfl
      rw[EB.out.2.2.2] at c18;have lp1:=T1.out.pv.pld;have lt0:=T1.out.tre.var.tld
      go_wp2_with fail
      refine (v_H h (some ⟨g,o,none⟩) n c l k W1 T1.out.sl HL.out.2.1 HL.out.2.2).mono ?_;rintro _ X ⟨a2,c2,rfl,s2,b2,f2⟩;have FR:Hid (Nw w a2):=f2.up T1.out.tre.bel.size;clear f2;rw[HP.out] at s2;obtain⟨U,sU,h1,h2,gU⟩:=(T1.out.tre.below b2).tell (y:=.slice a2 n c2) rfl
      have G:Hid (RvAt U (w.heap.size+1) 39 (trc h (.slice a2 n c2))∧SlAt U a2 n c2 (OO.getD l)∧Below w.heap.size w U∧OO.isSome=true):=by
       rw[E.out];exact⟨h1,s2.keptT (T1.out.tre.below b2).out gU,h2,rfl⟩
      clear h1 h2 gU s2 b2;go_wp2
      refine bodyPost_ret (z_i results171 _ _ _ _ _ rfl G.out.1) rfl ?_;exact⟨a2,c2,by rw[G.out.2.2.2];rfl,G.out.2.1,G.out.2.2.1,Or.inr FR.out⟩
    ·have E:OO=some (l.set k (prgP h p)):=by
      rw[←EO.out];unfold actO;rw[HP.out];rw[if_neg (by rw[EP.out];simp),if_neg (by rw[EB.out.1,EB.out.2.1];simp),if_pos EB.out.2.2.1]
     have E:Hid (OO=some (l.set k (prgP h p))):=E;have c19:=T0.out.pv.pbit (j:=19) rfl;rw[EB.out.1] at c19;have c17:=T0.out.pv.pbit (j:=17) rfl;rw[EB.out.2.1] at c17;have c27:=T0.out.pv.pbit (j:=27) rfl;rw[EB.out.2.2.1] at c27;have c18:=T0.out.pv.pbit (j:=18) rfl;rw[EB.out.2.2.2] at c18;have lp0:=T0.out.pv.pld;go_enter func171,ntmps171
     go_wp2_with fail
     refine (z_u p W0).mono ?_;rintro _ W1 ⟨rfl,b1_⟩;rw[EP.out];have T1:Hid (TP w W1 w.heap.size (w.heap.size+1) Z h g o n c l p):=T0.out.below b1_;clear c19 c17 c27 c18 lp0 b1_;have c19:=T1.out.pv.pbit (j:=19) rfl;rw[EB.out.1] at c19;have c17:=T1.out.pv.pbit (j:=17) rfl;rw[EB.out.2.1] at c17;have c27:=T1.out.pv.pbit (j:=27) rfl;rw[EB.out.2.2.1] at c27;have c18:=T1.out.pv.pbit (j:=18) rfl
     rw[EB.out.2.2.2] at c18;have lp1:=T1.out.pv.pld;have lt0:=T1.out.tre.var.tld
     go_wp2_with fail
     refine (v_I h (some ⟨g,o,none⟩) n c l k W1 T1.out.sl HL.out.2.1 HL.out.2.2).mono ?_;rintro _ X ⟨a2,c2,rfl,s2,b2,f2⟩;have FR:Hid (Nw w a2):=f2.up T1.out.tre.bel.size;clear f2;rw[HP.out] at s2;obtain⟨U,sU,h1,h2,gU⟩:=(T1.out.tre.below b2).tell (y:=.slice a2 n c2) rfl
     have G:Hid (RvAt U (w.heap.size+1) 39 (trc h (.slice a2 n c2))∧SlAt U a2 n c2 (OO.getD l)∧Below w.heap.size w U∧OO.isSome=true):=by
      rw[E.out];exact⟨h1,s2.keptT (T1.out.tre.below b2).out gU,h2,rfl⟩
     clear h1 h2 gU s2 b2;go_wp2
     refine bodyPost_ret (z_i results171 _ _ _ _ _ rfl G.out.1) rfl ?_;exact⟨a2,c2,by rw[G.out.2.2.2];rfl,G.out.2.1,G.out.2.2.1,Or.inr FR.out⟩
   ·have E:OO=some (sprL l k (ntfP h p)):=by
     rw[←EO.out];unfold actO;rw[HP.out];rw[if_neg (by rw[EP.out];simp),if_pos (by rw[EB.out.1,EB.out.2.1];simp)]
    have E:Hid (OO=some (sprL l k (ntfP h p))):=E;have c19:=T0.out.pv.pbit (j:=19) rfl;rw[EB.out.1] at c19;have c17:=T0.out.pv.pbit (j:=17) rfl;rw[EB.out.2.1] at c17;have c27:=T0.out.pv.pbit (j:=27) rfl;rw[EB.out.2.2.1] at c27;have c18:=T0.out.pv.pbit (j:=18) rfl;rw[EB.out.2.2.2] at c18;have lp0:=T0.out.pv.pld;go_enter func171,ntmps171
    go_wp2_with fail
    refine (z_u p W0).mono ?_;rintro _ W1 ⟨rfl,b1_⟩;rw[EP.out];have T1:Hid (TP w W1 w.heap.size (w.heap.size+1) Z h g o n c l p):=T0.out.below b1_;clear c19 c17 c27 c18 lp0 b1_;have c19:=T1.out.pv.pbit (j:=19) rfl;rw[EB.out.1] at c19;have c17:=T1.out.pv.pbit (j:=17) rfl;rw[EB.out.2.1] at c17;have c27:=T1.out.pv.pbit (j:=27) rfl;rw[EB.out.2.2.1] at c27;have c18:=T1.out.pv.pbit (j:=18) rfl
    rw[EB.out.2.2.2] at c18;have lp1:=T1.out.pv.pld;have lt0:=T1.out.tre.var.tld
    go_wp2_with fail
    refine (v_n h (some ⟨g,o,none⟩) n c l k W1 T1.out.sl HL.out.2.1 HL.out.2.2).mono ?_;rintro _ X ⟨a2,c2,rfl,s2,b2,f2⟩;have FR:Hid (Nw w a2):=f2.up T1.out.tre.bel.size;clear f2;rw[HP.out] at s2;obtain⟨U,sU,h1,h2,gU⟩:=(T1.out.tre.below b2).tell (y:=.slice a2 n c2) rfl;have G:Hid (RvAt U (w.heap.size+1) 39 (trc h (.slice a2 n c2))∧SlAt U a2 n c2 (OO.getD l)∧Below w.heap.size w U∧OO.isSome=true):=by
     rw[E.out];exact⟨h1,s2.keptT (T1.out.tre.below b2).out gU,h2,rfl⟩
    clear h1 h2 gU s2 b2;go_wp2
    refine bodyPost_ret (z_i results171 _ _ _ _ _ rfl G.out.1) rfl ?_;exact⟨a2,c2,by rw[G.out.2.2.2];rfl,G.out.2.1,G.out.2.2.1,Or.inr FR.out⟩
  ·have E:OO=some (sprL l k (ntfP h p)):=by
    rw[←EO.out];unfold actO;rw[HP.out];rw[if_neg (by rw[EP.out];simp),if_pos (by rw[EB.out.1];simp)]
   have E:Hid (OO=some (sprL l k (ntfP h p))):=E;have c19:=T0.out.pv.pbit (j:=19) rfl;rw[EB.out.1] at c19;have c17:=T0.out.pv.pbit (j:=17) rfl;rw[EB.out.2.1] at c17;have c27:=T0.out.pv.pbit (j:=27) rfl;rw[EB.out.2.2.1] at c27;have c18:=T0.out.pv.pbit (j:=18) rfl;rw[EB.out.2.2.2] at c18;have lp0:=T0.out.pv.pld;go_enter func171,ntmps171
   go_wp2_with fail
   refine (z_u p W0).mono ?_;rintro _ W1 ⟨rfl,b1_⟩;rw[EP.out];have T1:Hid (TP w W1 w.heap.size (w.heap.size+1) Z h g o n c l p):=T0.out.below b1_;clear c19 c17 c27 c18 lp0 b1_;have c19:=T1.out.pv.pbit (j:=19) rfl;rw[EB.out.1] at c19;have c17:=T1.out.pv.pbit (j:=17) rfl;rw[EB.out.2.1] at c17;have c27:=T1.out.pv.pbit (j:=27) rfl;rw[EB.out.2.2.1] at c27;have c18:=T1.out.pv.pbit (j:=18) rfl
   rw[EB.out.2.2.2] at c18;have lp1:=T1.out.pv.pld;have lt0:=T1.out.tre.var.tld
   go_wp2_with fail
   refine (v_n h (some ⟨g,o,none⟩) n c l k W1 T1.out.sl HL.out.2.1 HL.out.2.2).mono ?_;rintro _ X ⟨a2,c2,rfl,s2,b2,f2⟩;have FR:Hid (Nw w a2):=f2.up T1.out.tre.bel.size;clear f2;rw[HP.out] at s2;obtain⟨U,sU,h1,h2,gU⟩:=(T1.out.tre.below b2).tell (y:=.slice a2 n c2) rfl;have G:Hid (RvAt U (w.heap.size+1) 39 (trc h (.slice a2 n c2))∧SlAt U a2 n c2 (OO.getD l)∧Below w.heap.size w U∧OO.isSome=true):=by
    rw[E.out];exact⟨h1,s2.keptT (T1.out.tre.below b2).out gU,h2,rfl⟩
   clear h1 h2 gU s2 b2;go_wp2
   refine bodyPost_ret (z_i results171 _ _ _ _ _ rfl G.out.1) rfl ?_;exact⟨a2,c2,by rw[G.out.2.2.2];rfl,G.out.2.1,G.out.2.2.1,Or.inr FR.out⟩
end S14
end
section
namespace S14
open Go.RowKit
attribute [local go_sem ↓] ldP stP stB stU stW ldT stT st32 alP
attribute [local go_sem] z_l
theorem z_kK (h:Hd) (a:Option Addr) (n c:Nat) (l:List Pt) (k:Nat) (w:World) (hs:SlAt w a n c l) (hn:n≤1000) (hk:k<n) :
  Calls prog 134 #[.agg (trc h (.slice a n c)),.int .i64 (k:Int)] w fun r w'=>TBf w h a n l (tcmO h l k) r w':=by
 obtain⟨OO,hOO⟩:∃z,tcmO h l k=z:=⟨_,rfl⟩;rw[hOO];have EO:Hid (tcmO h l k=OO):=hOO;clear hOO;obtain⟨g,o,rfl⟩:=hs.some' (by omega);have HK:Hid (k<l.length):=by rw[hs.len];exact hk
 have hin0:(0:Int)≤(k:Int):=by omega
 have hin1:(k:Int)<(n:Int):=by omega
 obtain⟨W,hW,r0,r1,bW,zW⟩:=z_w w h (.slice (some ⟨g,o,none⟩) n c);have l0:=r0.tld;have H:Hid (TS w W w.heap.size (w.heap.size+1) h (.slice (some ⟨g,o,none⟩) n c)∧SlAt W (some ⟨g,o,none⟩) n c l∧n≤1000∧k<n):=⟨⟨r0,r1,bW,by omega⟩,hs.below bW,hn,hk⟩;have T:Hid _:=x_n (h:=h) (a:=some ⟨g,o,none⟩) (c:=c) (w:=W) hk;obtain⟨N,hN⟩:∃z,(gtP l k).nm 74=z:=⟨_,rfl⟩;have HN:Hid ((gtP l k).nm 74=N):=hN
 clear hs hn hk r0 r1 bW zW hN;by_cases h1:N=1
 ·subst h1;have E:Hid (inaO l k=OO):=by rw[←EO.out];unfold tcmO;rw[if_pos HN.out];exact rfl
  go_enter func134,ntmps134
  go_wp2_with fail
  refine Calls.mono T.out ?_;rintro _ V ⟨rfl,bV⟩;have S:=(H.out.2.1.below bV);have K:Hid (TS w V w.heap.size (w.heap.size+1) h (.slice (some ⟨g,o,none⟩) n c)∧SlAt V (some ⟨g,o,none⟩) n c l):=⟨H.out.1.below bV,S⟩;have lV:=K.out.1.var.tld;have c16:=K.out.1.var.t16;have c74:=S.cell (z_k HK.out) ((gtP l k).num (j:=74) (k:=.i64) rfl) (by omega);rw[HN.out] at c74;clear bV l0 S hW
  go_wp2_with fail
  refine (z_ln h (some ⟨g,o,none⟩) n c l k V K.out.2 H.out.2.2.1 H.out.2.2.2).mono ?_;rintro _ X ⟨a2,c2,rfl,s2,b2,f2⟩;have FR:Hid (Fro w (some ⟨g,o,none⟩) a2):=f2.up K.out.1.bel.size;clear f2;rw[E.out] at s2;rw[E.out];obtain⟨U,sU,h1,h2,gU⟩:=(K.out.1.below b2).tell (y:=.slice a2 n c2) rfl
  have G:Hid (RvAt U (w.heap.size+1) 39 (trc h (.slice a2 n c2))∧SlAt U a2 n c2 (OO.getD l)∧Below w.heap.size w U):=⟨h1,s2.keptT (K.out.1.below b2).out gU,h2⟩;clear h1 h2 gU s2 b2;go_wp2
  refine bodyPost_ret (z_i results134 _ _ _ _ _ rfl G.out.1) rfl ?_;exact⟨a2,c2,rfl,G.out.2.1,G.out.2.2,FR.out⟩
 have x1:(N==1)=false:=beq_eq_false_iff_ne.2 h1;by_cases h2:N=2
 ·subst h2;have E:Hid (leaO h l k=OO):=by rw[←EO.out];unfold tcmO;rw[if_neg (by rw[HN.out];decide),if_pos HN.out];exact rfl
  clear h1 x1;go_enter func134,ntmps134
  go_wp2_with fail
  refine Calls.mono T.out ?_;rintro _ V ⟨rfl,bV⟩;have S:=(H.out.2.1.below bV);have K:Hid (TS w V w.heap.size (w.heap.size+1) h (.slice (some ⟨g,o,none⟩) n c)∧SlAt V (some ⟨g,o,none⟩) n c l):=⟨H.out.1.below bV,S⟩;have lV:=K.out.1.var.tld;have c16:=K.out.1.var.t16;have c74:=S.cell (z_k HK.out) ((gtP l k).num (j:=74) (k:=.i64) rfl) (by omega);rw[HN.out] at c74;clear bV l0 S hW
  go_wp2_with fail
  refine (z_lg h (some ⟨g,o,none⟩) n c l k V K.out.2 H.out.2.2.1 H.out.2.2.2).mono ?_;rintro _ X ⟨a2,c2,rfl,s2,b2,f2⟩;have FR:Hid (Fro w (some ⟨g,o,none⟩) a2):=f2.up K.out.1.bel.size;clear f2;rw[E.out] at s2;rw[E.out];obtain⟨U,sU,h1,h2,gU⟩:=(K.out.1.below b2).tell (y:=.slice a2 n c2) rfl
  have G:Hid (RvAt U (w.heap.size+1) 39 (trc h (.slice a2 n c2))∧SlAt U a2 n c2 (OO.getD l)∧Below w.heap.size w U):=⟨h1,s2.keptT (K.out.1.below b2).out gU,h2⟩;clear h1 h2 gU s2 b2;go_wp2
  refine bodyPost_ret (z_i results134 _ _ _ _ _ rfl G.out.1) rfl ?_;exact⟨a2,c2,rfl,G.out.2.1,G.out.2.2,FR.out⟩
 have x2:(N==2)=false:=beq_eq_false_iff_ne.2 h2;by_cases h3:N=3
 ·subst h3;have E:Hid (actO h l k=OO):=by rw[←EO.out];unfold tcmO;rw[if_neg (by rw[HN.out];decide),if_neg (by rw[HN.out];decide),if_pos HN.out];exact rfl
  clear h1 h2 x1 x2;go_enter func134,ntmps134
  go_wp2_with fail
  refine Calls.mono T.out ?_;rintro _ V ⟨rfl,bV⟩;have S:=(H.out.2.1.below bV);have K:Hid (TS w V w.heap.size (w.heap.size+1) h (.slice (some ⟨g,o,none⟩) n c)∧SlAt V (some ⟨g,o,none⟩) n c l):=⟨H.out.1.below bV,S⟩;have lV:=K.out.1.var.tld;have c16:=K.out.1.var.t16;have c74:=S.cell (z_k HK.out) ((gtP l k).num (j:=74) (k:=.i64) rfl) (by omega);rw[HN.out] at c74;clear bV l0 S hW
  go_wp2_with fail
  refine (z_lJ h (some ⟨g,o,none⟩) n c l k V K.out.2 H.out.2.2.1 H.out.2.2.2).mono ?_;rintro _ X ⟨a2,c2,rfl,s2,b2,f2⟩;have FR:Hid (Fro w (some ⟨g,o,none⟩) a2):=f2.up K.out.1.bel.size;clear f2;rw[E.out] at s2;rw[E.out];obtain⟨U,sU,h1,h2,gU⟩:=(K.out.1.below b2).tell (y:=.slice a2 n c2) rfl
  have G:Hid (RvAt U (w.heap.size+1) 39 (trc h (.slice a2 n c2))∧SlAt U a2 n c2 (OO.getD l)∧Below w.heap.size w U):=⟨h1,s2.keptT (K.out.1.below b2).out gU,h2⟩;clear h1 h2 gU s2 b2;go_wp2
  refine bodyPost_ret (z_i results134 _ _ _ _ _ rfl G.out.1) rfl ?_;exact⟨a2,c2,rfl,G.out.2.1,G.out.2.2,FR.out⟩
 have x3:(N==3)=false:=beq_eq_false_iff_ne.2 h3;have E:Hid (some (l.set k (quiP (gtP l k)))=OO):=by rw[←EO.out];unfold tcmO;rw[if_neg (by rw[HN.out];exact h1),if_neg (by rw[HN.out];exact h2),if_neg (by rw[HN.out];exact h3)];exact rfl
 clear h1 h2 h3;go_enter func134,ntmps134
 go_wp2_with fail
 refine Calls.mono T.out ?_;rintro _ V ⟨rfl,bV⟩;have S:=(H.out.2.1.below bV);have K:Hid (TS w V w.heap.size (w.heap.size+1) h (.slice (some ⟨g,o,none⟩) n c)∧SlAt V (some ⟨g,o,none⟩) n c l):=⟨H.out.1.below bV,S⟩;have lV:=K.out.1.var.tld;have c16:=K.out.1.var.t16;have c74:=S.cell (z_k HK.out) ((gtP l k).num (j:=74) (k:=.i64) rfl) (by omega);rw[HN.out] at c74;clear bV l0 S hW
 go_wp2_with fail
 refine (z_br h (some ⟨g,o,none⟩) n c l k V K.out.2 H.out.2.2.1 H.out.2.2.2).mono ?_;rintro _ X ⟨a2,c2,rfl,s2,b2,f2⟩;have FR:Hid (Fro w (some ⟨g,o,none⟩) a2):=Or.inr (f2.up K.out.1.bel.size);clear f2;obtain⟨U,sU,h1,h2,gU⟩:=(K.out.1.below b2).tell (y:=.slice a2 n c2) rfl
 have G:Hid (RvAt U (w.heap.size+1) 39 (trc h (.slice a2 n c2))∧SlAt U a2 n c2 (OO.getD l)∧Below w.heap.size w U∧OO.isSome=true):=by
  rw[←E.out];exact⟨h1,s2.keptT (K.out.1.below b2).out gU,h2,rfl⟩
 clear h1 h2 gU s2 b2;go_wp2
 refine bodyPost_ret (z_i results134 _ _ _ _ _ rfl G.out.1) rfl ?_;exact⟨a2,c2,by rw[G.out.2.2.2];rfl,G.out.2.1,G.out.2.2.1,FR.out⟩
end S14
end
end Go.Proofs.YtlchejbggnbccaaGreat
