/-
  The definition: the walk of learning, for every tree. And what follows from it here.
-/
import Derived.Test.YtlchejbggnbccaaGreatPbb
import Derived.Test.YtlchejbggnbccaaGreatP14b
namespace Go.Proofs.YtlchejbggnbccaaGreat
set_option linter.unusedVariables false
set_option linter.unusedSimpArgs false
set_option maxRecDepth 4000
set_option maxHeartbeats 40000000
open _root_.Go.Proofs.Tryz
section
namespace S14
open Go.RowKit
attribute [local go_sem ↓] ldP stP stB stU stW ldT stT st32 alP
attribute [local go_sem] z_l
theorem _root_.Go.Proofs.YtlchejbggnbccaaGreat.RvAt.rdE14 {W:World} {z:Nat} {p:Pt} (h:RvAt W z 74 p.cs):Prd (fun w'=>w'=W) z 0 p:=⟨fun j v hv w hw=>by
 subst hw;rw[Nat.zero_add];exact h.cell j v (by rw[Row.cget];exact hv)⟩
theorem fp17:FAt 74 17 17:=fun b q w=>by go_simp
theorem fp18:FAt 74 18 18:=fun b q w=>by go_simp
theorem fp19:FAt 74 19 19:=fun b q w=>by go_simp
theorem fp27:FAt 74 27 27:=fun b q w=>by go_simp
theorem z_df (l:List Pt) (k:Nat) (q r:Pt):(prpL (l.set k q) k).set k r=sprL l k r:=by
 rw[w_f,z_av]
theorem z_kW {l:List Pt} {k:Nat} {q:Pt} (hk:k<l.length):gtP (prpL (l.set k q) k) k=q:=by
 rw[w_f,z_da q hk,if_pos rfl]
theorem z_iV (h:Hd) (a:Option Addr) (n c:Nat) (l:List Pt) (k:Nat) (w:World) (hs:SlAt w a n c l) (hn:n≤1000) (hk:k<n) :
  Calls prog 124 #[.agg (trc h (.slice a n c)),.int .i64 (k:Int),.bool (hasB (gtP l k))] w fun r w'=>TBf w h a n l (leaO h l k) r w':=by
 obtain⟨OO,hOO⟩:∃z,leaO h l k=z:=⟨_,rfl⟩;rw[hOO];have EO:Hid (leaO h l k=OO):=hOO;clear hOO;obtain⟨g,o,rfl⟩:=hs.some' (by omega);have HL:Hid (l.length=n∧n≤1000∧k<n∧k<l.length):=⟨hs.len,hn,hk,by rw[hs.len];exact hk⟩;have hin0:(0:Int)≤(k:Int):=by omega
 have hin1:(k:Int)<(n:Int):=by omega
 obtain⟨W,hW,r0,r1,bW,zW⟩:=z_w w h (.slice (some ⟨g,o,none⟩) n c);have GL:g<w.heap.size:=hs.low (by omega);have c16:=r0.t16;have lp:=(hs.below bW).ld (z_k HL.out.2.2.2);obtain⟨p,hp⟩:∃p,gtP l k=p:=⟨_,rfl⟩;rw[hp] at lp;have HP:Hid (gtP l k=p):=hp;obtain⟨W0,s0,r0',b0,z0⟩:=y_b W p;obtain⟨Z,hZ⟩:∃Z,W.heap.size=Z:=⟨_,rfl⟩;rw[hZ] at s0 r0'
 have T0:Hid (TV w W0 w.heap.size (w.heap.size+1) Z h (some ⟨g,o,none⟩) n c l p):=⟨⟨r0.below b0,r1.below b0,z_a bW b0,by omega⟩,(hs.below bW).below b0,r0',by omega,Nat.le_refl _,by omega,fun x e=>by cases e;show g≠Z;omega⟩;clear hs hn hk r0 r1 bW zW b0 z0 r0' hp GL;obtain⟨b7,h7⟩:∃z,p.bt 7=z:=⟨_,rfl⟩;have H7:Hid (p.bt 7=b7):=h7;clear h7;obtain⟨b9,h9⟩:∃z,p.bt 9=z:=⟨_,rfl⟩;have H9:Hid (p.bt 9=b9):=h9
 clear h9;obtain⟨b10,h10⟩:∃z,p.bt 10=z:=⟨_,rfl⟩;have H10:Hid (p.bt 10=b10):=h10;clear h10;obtain⟨PB,hPB⟩:∃z,hasB p=z:=⟨_,rfl⟩;have EP:Hid (hasB p=PB):=hPB;rw[HP.out,hPB];obtain⟨TB,hTB⟩:∃z,tldB p=z:=⟨_,rfl⟩;have ET:Hid (tldB p=TB):=hTB;have ET2:Hid ((((p.bt 17 || p.bt 19) || p.bt 18) || p.bt 27)=TB):=hTB;clear hPB hTB;have R:=T0.out.pv.rdE14;go_enter func124,ntmps124;go_upto_region 2 with fail
 refine wp_plain (C:=fun w'=>w'=W0) rfl ?_;refine z_b (v:=.pointer (some ⟨Z,0+17,none⟩)) (yq rfl (Rn.qt (qfield rfl rfl fp17))) ?_
 try simp only[Act.put,zA,zB,zC]
 refine z_b (v:=.bool (p.bt 17)) (yq rfl (Rn.qt (qload rfl rfl (R.bit rfl)))) ?_
 try simp only[Act.put,zA,zB,zC]
 refine z_b (v:=.bool (p.bt 17)) (yq rfl (Rn.qt (qmove rfl rfl))) ?_
 try simp only[Act.put,zA,zB,zC]
 refine z_b (v:=gd (p.bt 17) false (.pointer (some ⟨Z,0+19,none⟩))) (yq1 rfl rfl (fun e=>Rn.qt (qfield rfl rfl fp19))) ?_
 try simp only[Act.put,zA,zB,zC]
 refine z_b (v:=gd (p.bt 17) false (.bool (p.bt 19))) (yq1 rfl rfl (fun e=>Rn.qt (qload rfl (on e rfl) (R.bit rfl)))) ?_
 try simp only[Act.put,zA,zB,zC]
 refine z_b (v:=.bool ((p.bt 17) || (p.bt 19))) (yq rfl (Rn.qt (qpick rfl rfl (pkO rfl rfl)))) ?_
 try simp only[Act.put,zA,zB,zC]
 refine z_b (v:=.bool ((p.bt 17) || (p.bt 19))) (yq rfl (Rn.qt (qmove rfl rfl))) ?_
 try simp only[Act.put,zA,zB,zC]
 refine z_b (v:=gd ((p.bt 17) || (p.bt 19)) false (.pointer (some ⟨Z,0+18,none⟩))) (yq1 rfl rfl (fun e=>Rn.qt (qfield rfl rfl fp18))) ?_
 try simp only[Act.put,zA,zB,zC]
 refine z_b (v:=gd ((p.bt 17) || (p.bt 19)) false (.bool (p.bt 18))) (yq1 rfl rfl (fun e=>Rn.qt (qload rfl (on e rfl) (R.bit rfl)))) ?_
 try simp only[Act.put,zA,zB,zC]
 refine z_b (v:=.bool (((p.bt 17) || (p.bt 19)) || (p.bt 18))) (yq rfl (Rn.qt (qpick rfl rfl (pkO rfl rfl)))) ?_
 try simp only[Act.put,zA,zB,zC]
 refine z_b (v:=.bool (((p.bt 17) || (p.bt 19)) || (p.bt 18))) (yq rfl (Rn.qt (qmove rfl rfl))) ?_
 try simp only[Act.put,zA,zB,zC]
 refine z_b (v:=gd (((p.bt 17) || (p.bt 19)) || (p.bt 18)) false (.pointer (some ⟨Z,0+27,none⟩))) (yq1 rfl rfl (fun e=>Rn.qt (qfield rfl rfl fp27))) ?_
 try simp only[Act.put,zA,zB,zC]
 refine z_b (v:=gd (((p.bt 17) || (p.bt 19)) || (p.bt 18)) false (.bool (p.bt 27))) (yq1 rfl rfl (fun e=>Rn.qt (qload rfl (on e rfl) (R.bit rfl)))) ?_
 try simp only[Act.put,zA,zB,zC]
 refine z_b (v:=.bool ((((p.bt 17) || (p.bt 19)) || (p.bt 18)) || (p.bt 27))) (yq rfl (Rn.qt (qpick rfl rfl (pkO rfl rfl)))) ?_
 try simp only[Act.put,zA,zB,zC]
 refine z_b (v:=.bool ((((p.bt 17) || (p.bt 19)) || (p.bt 18)) || (p.bt 27))) (yq rfl (Rn.qt (qassign rfl rfl))) ?_
 try simp only[Act.put,zA,zB,zC]
 refine wpQuiet_nil ?_;rintro y hy;rw[hy];clear hy y R;rw[ET2.out];clear ET2;cases PB
 ·cases b9
  ·cases b10
   ·cases TB
    ·have E:OO=some (l.set k (quiP p)):=by
      rw[←EO.out];unfold leaO;rw[HP.out];rw[if_neg (by rw[EP.out];simp),if_pos (by rw[EP.out,H9.out,H10.out,ET.out];simp)]
     have E:Hid (OO=some (l.set k (quiP p))):=E;have c7:=T0.out.pv.pbit (j:=7) rfl;rw[H7.out] at c7;have c9:=T0.out.pv.pbit (j:=9) rfl;rw[H9.out] at c9;have c10:=T0.out.pv.pbit (j:=10) rfl;rw[H10.out] at c10;have lt9:=T0.out.tre.var.tld
     go_wp2_with fail
     refine (u_T h (some ⟨g,o,none⟩) n c l k W0 T0.out.sl HL.out.2.1 HL.out.2.2.1).mono ?_;rintro _ Y ⟨a8,c8,rfl,s8,b8,f8⟩;have FR8:Hid (Fro w (some ⟨g,o,none⟩) a8):=f8.up T0.out.tre.bel.size;clear f8;rw[HP.out] at s8;obtain⟨U,sU,h1,h2,gU⟩:=(T0.out.tre.below b8).tell (y:=.slice a8 n c8) rfl
     have G:Hid (RvAt U (w.heap.size+1) 39 (trc h (.slice a8 n c8))∧SlAt U a8 n c8 (OO.getD l)∧Below w.heap.size w U∧OO.isSome=true):=by
      rw[E.out];exact⟨h1,s8.keptT (T0.out.tre.below b8).out gU,h2,rfl⟩
     clear h1 h2 gU;go_wp2
     refine bodyPost_ret (z_i results124 _ _ _ _ _ rfl G.out.1) rfl ?_;exact⟨a8,c8,by rw[G.out.2.2.2];rfl,G.out.2.1,G.out.2.2.1,FR8.out⟩
    ·have E:OO=some (l.set k (lrnP p)):=by
      rw[←EO.out];unfold leaO;rw[HP.out];rw[if_neg (by rw[EP.out];simp),if_neg (by rw[EP.out,H9.out,H10.out,ET.out];simp),if_pos ET.out]
     have E:Hid (OO=some (l.set k (lrnP p))):=E;have c7:=T0.out.pv.pbit (j:=7) rfl;rw[H7.out] at c7;have c9:=T0.out.pv.pbit (j:=9) rfl;rw[H9.out] at c9;have c10:=T0.out.pv.pbit (j:=10) rfl;rw[H10.out] at c10;have lt9:=T0.out.tre.var.tld
     go_wp2_with fail
     refine (y_e h (some ⟨g,o,none⟩) n c l k W0 T0.out.sl HL.out.2.1 HL.out.2.2.1).mono ?_;rintro _ Y ⟨a8,c8,rfl,s8,b8,f8⟩;have FR8:Hid (Fro w (some ⟨g,o,none⟩) a8):=f8.up T0.out.tre.bel.size;clear f8;rw[HP.out] at s8;obtain⟨U,sU,h1,h2,gU⟩:=(T0.out.tre.below b8).tell (y:=.slice a8 n c8) rfl
     have G:Hid (RvAt U (w.heap.size+1) 39 (trc h (.slice a8 n c8))∧SlAt U a8 n c8 (OO.getD l)∧Below w.heap.size w U∧OO.isSome=true):=by
      rw[E.out];exact⟨h1,s8.keptT (T0.out.tre.below b8).out gU,h2,rfl⟩
     clear h1 h2 gU;go_wp2
     refine bodyPost_ret (z_i results124 _ _ _ _ _ rfl G.out.1) rfl ?_;exact⟨a8,c8,by rw[G.out.2.2.2];rfl,G.out.2.1,G.out.2.2.1,FR8.out⟩
   ·cases TB
    ·have E:OO=none:=by
      rw[←EO.out];unfold leaO;rw[HP.out];rw[if_neg (by rw[EP.out];simp),if_neg (by rw[EP.out,H9.out,H10.out];simp),if_neg (by rw[ET.out];simp)]
     have E:Hid (OO=none):=E;have c7:=T0.out.pv.pbit (j:=7) rfl;rw[H7.out] at c7;have c9:=T0.out.pv.pbit (j:=9) rfl;rw[H9.out] at c9;have c10:=T0.out.pv.pbit (j:=10) rfl;rw[H10.out] at c10;have lt9:=T0.out.tre.var.tld;obtain⟨U,sU,h1,h2,gU⟩:=(T0.out.tre).tell (y:=.slice (some ⟨g,o,none⟩) n c) rfl
     have G:Hid (RvAt U (w.heap.size+1) 39 (trc h (.slice (some ⟨g,o,none⟩) n c))∧SlAt U (some ⟨g,o,none⟩) n c (OO.getD l)∧Below w.heap.size w U∧OO.isSome=false):=by
      rw[E.out];exact⟨h1,T0.out.sl.keptT (T0.out.tre).out gU,h2,rfl⟩
     clear h1 h2 gU;go_wp2
     refine bodyPost_ret (z_i results124 _ _ _ _ _ rfl G.out.1) rfl ?_;exact⟨some ⟨g,o,none⟩,c,by rw[G.out.2.2.2];rfl,G.out.2.1,G.out.2.2.1,Or.inl rfl⟩
    ·have E:OO=some (l.set k (lrnP p)):=by
      rw[←EO.out];unfold leaO;rw[HP.out];rw[if_neg (by rw[EP.out];simp),if_neg (by rw[EP.out,H9.out,H10.out];simp),if_pos ET.out]
     have E:Hid (OO=some (l.set k (lrnP p))):=E;have c7:=T0.out.pv.pbit (j:=7) rfl;rw[H7.out] at c7;have c9:=T0.out.pv.pbit (j:=9) rfl;rw[H9.out] at c9;have c10:=T0.out.pv.pbit (j:=10) rfl;rw[H10.out] at c10;have lt9:=T0.out.tre.var.tld
     go_wp2_with fail
     refine (y_e h (some ⟨g,o,none⟩) n c l k W0 T0.out.sl HL.out.2.1 HL.out.2.2.1).mono ?_;rintro _ Y ⟨a8,c8,rfl,s8,b8,f8⟩;have FR8:Hid (Fro w (some ⟨g,o,none⟩) a8):=f8.up T0.out.tre.bel.size;clear f8;rw[HP.out] at s8;obtain⟨U,sU,h1,h2,gU⟩:=(T0.out.tre.below b8).tell (y:=.slice a8 n c8) rfl
     have G:Hid (RvAt U (w.heap.size+1) 39 (trc h (.slice a8 n c8))∧SlAt U a8 n c8 (OO.getD l)∧Below w.heap.size w U∧OO.isSome=true):=by
      rw[E.out];exact⟨h1,s8.keptT (T0.out.tre.below b8).out gU,h2,rfl⟩
     clear h1 h2 gU;go_wp2
     refine bodyPost_ret (z_i results124 _ _ _ _ _ rfl G.out.1) rfl ?_;exact⟨a8,c8,by rw[G.out.2.2.2];rfl,G.out.2.1,G.out.2.2.1,FR8.out⟩
  ·cases TB
   ·have E:OO=none:=by
     rw[←EO.out];unfold leaO;rw[HP.out];rw[if_neg (by rw[EP.out];simp),if_neg (by rw[EP.out,H9.out];simp),if_neg (by rw[ET.out];simp)]
    have E:Hid (OO=none):=E;have c7:=T0.out.pv.pbit (j:=7) rfl;rw[H7.out] at c7;have c9:=T0.out.pv.pbit (j:=9) rfl;rw[H9.out] at c9;have c10:=T0.out.pv.pbit (j:=10) rfl;rw[H10.out] at c10;have lt9:=T0.out.tre.var.tld;obtain⟨U,sU,h1,h2,gU⟩:=(T0.out.tre).tell (y:=.slice (some ⟨g,o,none⟩) n c) rfl
    have G:Hid (RvAt U (w.heap.size+1) 39 (trc h (.slice (some ⟨g,o,none⟩) n c))∧SlAt U (some ⟨g,o,none⟩) n c (OO.getD l)∧Below w.heap.size w U∧OO.isSome=false):=by
     rw[E.out];exact⟨h1,T0.out.sl.keptT (T0.out.tre).out gU,h2,rfl⟩
    clear h1 h2 gU;go_wp2
    refine bodyPost_ret (z_i results124 _ _ _ _ _ rfl G.out.1) rfl ?_;exact⟨some ⟨g,o,none⟩,c,by rw[G.out.2.2.2];rfl,G.out.2.1,G.out.2.2.1,Or.inl rfl⟩
   ·have E:OO=some (l.set k (lrnP p)):=by
     rw[←EO.out];unfold leaO;rw[HP.out];rw[if_neg (by rw[EP.out];simp),if_neg (by rw[EP.out,H9.out];simp),if_pos ET.out]
    have E:Hid (OO=some (l.set k (lrnP p))):=E;have c7:=T0.out.pv.pbit (j:=7) rfl;rw[H7.out] at c7;have c9:=T0.out.pv.pbit (j:=9) rfl;rw[H9.out] at c9;have c10:=T0.out.pv.pbit (j:=10) rfl;rw[H10.out] at c10;have lt9:=T0.out.tre.var.tld
    go_wp2_with fail
    refine (y_e h (some ⟨g,o,none⟩) n c l k W0 T0.out.sl HL.out.2.1 HL.out.2.2.1).mono ?_;rintro _ Y ⟨a8,c8,rfl,s8,b8,f8⟩;have FR8:Hid (Fro w (some ⟨g,o,none⟩) a8):=f8.up T0.out.tre.bel.size;clear f8;rw[HP.out] at s8;obtain⟨U,sU,h1,h2,gU⟩:=(T0.out.tre.below b8).tell (y:=.slice a8 n c8) rfl
    have G:Hid (RvAt U (w.heap.size+1) 39 (trc h (.slice a8 n c8))∧SlAt U a8 n c8 (OO.getD l)∧Below w.heap.size w U∧OO.isSome=true):=by
     rw[E.out];exact⟨h1,s8.keptT (T0.out.tre.below b8).out gU,h2,rfl⟩
    clear h1 h2 gU;go_wp2
    refine bodyPost_ret (z_i results124 _ _ _ _ _ rfl G.out.1) rfl ?_;exact⟨a8,c8,by rw[G.out.2.2.2];rfl,G.out.2.1,G.out.2.2.1,FR8.out⟩
 ·cases b7
  ·cases TB
   ·have E:OO=none:=by
     rw[←EO.out];unfold leaO;rw[HP.out];rw[if_neg (by rw[EP.out,H7.out];simp),if_neg (by rw[EP.out];simp),if_neg (by rw[ET.out];simp)]
    have E:Hid (OO=none):=E;have c7:=T0.out.pv.pbit (j:=7) rfl;rw[H7.out] at c7;have c9:=T0.out.pv.pbit (j:=9) rfl;rw[H9.out] at c9;have c10:=T0.out.pv.pbit (j:=10) rfl;rw[H10.out] at c10;have lt9:=T0.out.tre.var.tld;obtain⟨U,sU,h1,h2,gU⟩:=(T0.out.tre).tell (y:=.slice (some ⟨g,o,none⟩) n c) rfl
    have G:Hid (RvAt U (w.heap.size+1) 39 (trc h (.slice (some ⟨g,o,none⟩) n c))∧SlAt U (some ⟨g,o,none⟩) n c (OO.getD l)∧Below w.heap.size w U∧OO.isSome=false):=by
     rw[E.out];exact⟨h1,T0.out.sl.keptT (T0.out.tre).out gU,h2,rfl⟩
    clear h1 h2 gU;go_wp2
    refine bodyPost_ret (z_i results124 _ _ _ _ _ rfl G.out.1) rfl ?_;exact⟨some ⟨g,o,none⟩,c,by rw[G.out.2.2.2];rfl,G.out.2.1,G.out.2.2.1,Or.inl rfl⟩
   ·have E:OO=some (l.set k (lrnP p)):=by
     rw[←EO.out];unfold leaO;rw[HP.out];rw[if_neg (by rw[EP.out,H7.out];simp),if_neg (by rw[EP.out];simp),if_pos ET.out]
    have E:Hid (OO=some (l.set k (lrnP p))):=E;have c7:=T0.out.pv.pbit (j:=7) rfl;rw[H7.out] at c7;have c9:=T0.out.pv.pbit (j:=9) rfl;rw[H9.out] at c9;have c10:=T0.out.pv.pbit (j:=10) rfl;rw[H10.out] at c10;have lt9:=T0.out.tre.var.tld
    go_wp2_with fail
    refine (y_e h (some ⟨g,o,none⟩) n c l k W0 T0.out.sl HL.out.2.1 HL.out.2.2.1).mono ?_;rintro _ Y ⟨a8,c8,rfl,s8,b8,f8⟩;have FR8:Hid (Fro w (some ⟨g,o,none⟩) a8):=f8.up T0.out.tre.bel.size;clear f8;rw[HP.out] at s8;obtain⟨U,sU,h1,h2,gU⟩:=(T0.out.tre.below b8).tell (y:=.slice a8 n c8) rfl
    have G:Hid (RvAt U (w.heap.size+1) 39 (trc h (.slice a8 n c8))∧SlAt U a8 n c8 (OO.getD l)∧Below w.heap.size w U∧OO.isSome=true):=by
     rw[E.out];exact⟨h1,s8.keptT (T0.out.tre.below b8).out gU,h2,rfl⟩
    clear h1 h2 gU;go_wp2
    refine bodyPost_ret (z_i results124 _ _ _ _ _ rfl G.out.1) rfl ?_;exact⟨a8,c8,by rw[G.out.2.2.2];rfl,G.out.2.1,G.out.2.2.1,FR8.out⟩
  ·have E:OO=some (sprL l k (detP h p)):=by
    rw[←EO.out];unfold leaO;rw[HP.out];rw[if_pos (by rw[EP.out,H7.out];simp)]
   have E:Hid (OO=some (sprL l k (detP h p))):=E;have c7:=T0.out.pv.pbit (j:=7) rfl;rw[H7.out] at c7;have c9:=T0.out.pv.pbit (j:=9) rfl;rw[H9.out] at c9;have c10:=T0.out.pv.pbit (j:=10) rfl;rw[H10.out] at c10;have EL:Hid ((prpL (l.set k (nwP h p)) k).set k (actP (nwP h p))=sprL l k (detP h p)):=by rw[z_df];exact rfl
   have lt1_:=T0.out.tre.var.tld
   go_wp2_with fail
   refine (z_aD h (some ⟨g,o,none⟩) n c l k W0 T0.out.sl HL.out.2.1 HL.out.2.2.1).mono ?_;rintro _ X1 ⟨a1,c1,rfl,s1,f1,b1⟩;have FR1:Hid (Fro w (some ⟨g,o,none⟩) a1):=z_J (Or.inl rfl) f1 T0.out.tre.bel.size;rw[HP.out] at s1;have K1:Hid (TV w X1 w.heap.size (w.heap.size+1) Z h (some ⟨g,o,none⟩) n c l p∧SlAt X1 a1 n c1 (l.set k (nwP h p))):=⟨T0.out.below b1,s1⟩;clear s1 f1 b1 lt1_ c7 c9 c10
   go_wp2_with fail
   refine (x_M h a1 n c1 _ k X1 K1.out.2 HL.out.2.1 HL.out.2.2.1).mono ?_;rintro _ X2 ⟨a2,c2,rfl,s2,f2,b2⟩;have FR2:Hid (Fro w (some ⟨g,o,none⟩) a2):=Or.inr (fun x hx=>Nat.le_trans K1.out.1.tre.bel.size (f2 x hx));obtain⟨g2,o2,rfl⟩:=s2.some' (by have:=HL.out.2.2.1;omega);obtain⟨Y2,y2,N2⟩:=K1.out.1.tree b2 s2 (Or.inr f2);have d16:=N2.tre.var.t16
   have lq:=N2.sl.ld (z_k (l:=prpL (l.set k (nwP h p)) k) (i:=k) (by rw[z_bx,List.length_set];exact HL.out.2.2.2));rw[z_kW HL.out.2.2.2] at lq;obtain⟨R2,z2,M2⟩:=N2.st (nwP h p);obtain⟨V1,e1,S1⟩:=M2.setB kb11 true;obtain⟨V2,e2,S2⟩:=S1.setN kn74 wi3;have T9:Hid (TV w V2 w.heap.size (w.heap.size+1) Z h (some ⟨g2,o2,none⟩) n c2 (prpL (l.set k (nwP h p)) k) (actP (nwP h p))):=S2
   clear s2 f2 b2 N2 M2 S1 S2 K1;have lt9:=T9.out.tre.var.tld;have lp9:=T9.out.pv.pld
   go_wp2_with fail
   refine (z_o h (some ⟨g2,o2,none⟩) n c2 (prpL (l.set k (nwP h p)) k) k _ V2 T9.out.sl HL.out.2.1 HL.out.2.2.1).mono ?_;rintro _ Y ⟨a8,c8,rfl,s8,f8,b8⟩;have FR8:Hid (Fro w (some ⟨g,o,none⟩) a8):=z_J FR2.out f8 T9.out.tre.bel.size;rw[EL.out] at s8;clear f8;obtain⟨U,sU,h1,h2,gU⟩:=(T9.out.tre.below b8).tell (y:=.slice a8 n c8) rfl
   have G:Hid (RvAt U (w.heap.size+1) 39 (trc h (.slice a8 n c8))∧SlAt U a8 n c8 (OO.getD l)∧Below w.heap.size w U∧OO.isSome=true):=by
    rw[E.out];exact⟨h1,s8.keptT (T9.out.tre.below b8).out gU,h2,rfl⟩
   clear h1 h2 gU;go_wp2
   refine bodyPost_ret (z_i results124 _ _ _ _ _ rfl G.out.1) rfl ?_;exact⟨a8,c8,by rw[G.out.2.2.2];rfl,G.out.2.1,G.out.2.2.1,FR8.out⟩
end S14
end
section
namespace S14
open Go.RowKit
attribute [local go_sem ↓] ldP stP stB stU stW ldT stT st32 alP
attribute [local go_sem] z_l
theorem z_jw (l:List Pt) (k:Nat) (q r:Pt):prpL ((l.set k q).set k r) k=sprL l k r:=by
 rw[List.set_set,w_f]
theorem z_jd (h:Hd) (a:Option Addr) (n c:Nat) (l:List Pt) (k:Nat) (w:World) (hs:SlAt w a n c l) (hn:n≤1000) (hk:k<n) :
  Calls prog 125 #[.agg (trc h (.slice a n c)),.int .i64 (k:Int),.bool (hasB (gtP l k))] w fun r w'=>TBf w h a n l (actO h l k) r w':=by
 obtain⟨OO,hOO⟩:∃z,actO h l k=z:=⟨_,rfl⟩;rw[hOO];have EO:Hid (actO h l k=OO):=hOO;clear hOO;obtain⟨g,o,rfl⟩:=hs.some' (by omega);have HL:Hid (l.length=n∧n≤1000∧k<n∧k<l.length):=⟨hs.len,hn,hk,by rw[hs.len];exact hk⟩;have hin0:(0:Int)≤(k:Int):=by omega
 have hin1:(k:Int)<(n:Int):=by omega
 obtain⟨W,hW,r0,r1,bW,zW⟩:=z_w w h (.slice (some ⟨g,o,none⟩) n c);have GL:g<w.heap.size:=hs.low (by omega);have c16:=r0.t16;have lp:=(hs.below bW).ld (z_k HL.out.2.2.2);obtain⟨p,hp⟩:∃p,gtP l k=p:=⟨_,rfl⟩;rw[hp] at lp;have HP:Hid (gtP l k=p):=hp;obtain⟨W0,s0,r0',b0,z0⟩:=y_b W p;obtain⟨Z,hZ⟩:∃Z,W.heap.size=Z:=⟨_,rfl⟩;rw[hZ] at s0 r0'
 have T0:Hid (TV w W0 w.heap.size (w.heap.size+1) Z h (some ⟨g,o,none⟩) n c l p):=⟨⟨r0.below b0,r1.below b0,z_a bW b0,by omega⟩,(hs.below bW).below b0,r0',by omega,Nat.le_refl _,by omega,fun x e=>by cases e;show g≠Z;omega⟩;clear hs hn hk r0 r1 bW zW b0 z0 r0' hp GL;obtain⟨b19,h19⟩:∃z,p.bt 19=z:=⟨_,rfl⟩;have H19:Hid (p.bt 19=b19):=h19;clear h19;obtain⟨b17,h17⟩:∃z,p.bt 17=z:=⟨_,rfl⟩
 have H17:Hid (p.bt 17=b17):=h17;clear h17;obtain⟨b27,h27⟩:∃z,p.bt 27=z:=⟨_,rfl⟩;have H27:Hid (p.bt 27=b27):=h27;clear h27;obtain⟨b18,h18⟩:∃z,p.bt 18=z:=⟨_,rfl⟩;have H18:Hid (p.bt 18=b18):=h18;clear h18;obtain⟨PB,hPB⟩:∃z,hasB p=z:=⟨_,rfl⟩;have EP:Hid (hasB p=PB):=hPB;rw[HP.out,hPB];clear hPB;cases PB
 ·have E:OO=some (l.set k (lrnP p)):=by
   rw[←EO.out];unfold actO;rw[HP.out];rw[if_pos EP.out]
  have E:Hid (OO=some (l.set k (lrnP p))):=E;have c19:=T0.out.pv.pbit (j:=19) rfl;rw[H19.out] at c19;have c17:=T0.out.pv.pbit (j:=17) rfl;rw[H17.out] at c17;have c27:=T0.out.pv.pbit (j:=27) rfl;rw[H27.out] at c27;have c18:=T0.out.pv.pbit (j:=18) rfl;rw[H18.out] at c18;go_enter func125,ntmps125;have lt9:=T0.out.tre.var.tld
  go_wp2_with fail
  refine (y_e h (some ⟨g,o,none⟩) n c l k W0 T0.out.sl HL.out.2.1 HL.out.2.2.1).mono ?_;rintro _ Y ⟨a8,c8,rfl,s8,b8,f8⟩;have FR8:Hid (Fro w (some ⟨g,o,none⟩) a8):=f8.up T0.out.tre.bel.size;clear f8;rw[HP.out] at s8;obtain⟨U,sU,h1,h2,gU⟩:=(T0.out.tre.below b8).tell (y:=.slice a8 n c8) rfl
  have G:Hid (RvAt U (w.heap.size+1) 39 (trc h (.slice a8 n c8))∧SlAt U a8 n c8 (OO.getD l)∧Below w.heap.size w U∧OO.isSome=true):=by
   rw[E.out];exact⟨h1,s8.keptT (T0.out.tre.below b8).out gU,h2,rfl⟩
  clear h1 h2 gU;go_wp2
  refine bodyPost_ret (z_i results125 _ _ _ _ _ rfl G.out.1) rfl ?_;exact⟨a8,c8,by rw[G.out.2.2.2];rfl,G.out.2.1,G.out.2.2.1,FR8.out⟩
 ·cases b19
  ·cases b17
   ·cases b27
    ·cases b18
     ·have E:OO=none:=by
       rw[←EO.out];unfold actO;rw[HP.out];rw[if_neg (by rw[EP.out];simp),if_neg (by rw[H19.out,H17.out];simp),if_neg (by rw[H27.out];simp),if_neg (by rw[H18.out];simp)]
      have E:Hid (OO=none):=E;have c19:=T0.out.pv.pbit (j:=19) rfl;rw[H19.out] at c19;have c17:=T0.out.pv.pbit (j:=17) rfl;rw[H17.out] at c17;have c27:=T0.out.pv.pbit (j:=27) rfl;rw[H27.out] at c27;have c18:=T0.out.pv.pbit (j:=18) rfl;rw[H18.out] at c18;go_enter func125,ntmps125;have lt9:=T0.out.tre.var.tld;obtain⟨U,sU,h1,h2,gU⟩:=(T0.out.tre).tell (y:=.slice (some ⟨g,o,none⟩) n c) rfl
      have G:Hid (RvAt U (w.heap.size+1) 39 (trc h (.slice (some ⟨g,o,none⟩) n c))∧SlAt U (some ⟨g,o,none⟩) n c (OO.getD l)∧Below w.heap.size w U∧OO.isSome=false):=by
       rw[E.out];exact⟨h1,T0.out.sl.keptT (T0.out.tre).out gU,h2,rfl⟩
      clear h1 h2 gU;go_wp2
      refine bodyPost_ret (z_i results125 _ _ _ _ _ rfl G.out.1) rfl ?_;exact⟨some ⟨g,o,none⟩,c,by rw[G.out.2.2.2];rfl,G.out.2.1,G.out.2.2.1,Or.inl rfl⟩
     ·have E:OO=some (l.set k (ackP p)):=by
       rw[←EO.out];unfold actO;rw[HP.out];rw[if_neg (by rw[EP.out];simp),if_neg (by rw[H19.out,H17.out];simp),if_neg (by rw[H27.out];simp),if_pos H18.out]
      have E:Hid (OO=some (l.set k (ackP p))):=E;have c19:=T0.out.pv.pbit (j:=19) rfl;rw[H19.out] at c19;have c17:=T0.out.pv.pbit (j:=17) rfl;rw[H17.out] at c17;have c27:=T0.out.pv.pbit (j:=27) rfl;rw[H27.out] at c27;have c18:=T0.out.pv.pbit (j:=18) rfl;rw[H18.out] at c18;go_enter func125,ntmps125;obtain⟨V1,e1,S1⟩:=T0.out.setU ku71 u0;obtain⟨V2,e2,S2⟩:=S1.setB kb18 false
      have T9:Hid (TV w V2 w.heap.size (w.heap.size+1) Z h (some ⟨g,o,none⟩) n c l (ackP p)):=S2;clear S1 S2;have lt9:=T9.out.tre.var.tld;have lp9:=T9.out.pv.pld
      go_wp2_with fail
      refine (z_o h (some ⟨g,o,none⟩) n c (l) k _ V2 T9.out.sl HL.out.2.1 HL.out.2.2.1).mono ?_;rintro _ Y ⟨a8,c8,rfl,s8,f8,b8⟩;have FR8:Hid (Fro w (some ⟨g,o,none⟩) a8):=z_J (Or.inl rfl) f8 T9.out.tre.bel.size;clear f8;obtain⟨U,sU,h1,h2,gU⟩:=(T9.out.tre.below b8).tell (y:=.slice a8 n c8) rfl
      have G:Hid (RvAt U (w.heap.size+1) 39 (trc h (.slice a8 n c8))∧SlAt U a8 n c8 (OO.getD l)∧Below w.heap.size w U∧OO.isSome=true):=by
       rw[E.out];exact⟨h1,s8.keptT (T9.out.tre.below b8).out gU,h2,rfl⟩
      clear h1 h2 gU;go_wp2
      refine bodyPost_ret (z_i results125 _ _ _ _ _ rfl G.out.1) rfl ?_;exact⟨a8,c8,by rw[G.out.2.2.2];rfl,G.out.2.1,G.out.2.2.1,FR8.out⟩
    ·have E:OO=some (l.set k (prgP h p)):=by
      rw[←EO.out];unfold actO;rw[HP.out];rw[if_neg (by rw[EP.out];simp),if_neg (by rw[H19.out,H17.out];simp),if_pos H27.out]
     have E:Hid (OO=some (l.set k (prgP h p))):=E;have c19:=T0.out.pv.pbit (j:=19) rfl;rw[H19.out] at c19;have c17:=T0.out.pv.pbit (j:=17) rfl;rw[H17.out] at c17;have c27:=T0.out.pv.pbit (j:=27) rfl;rw[H27.out] at c27;have c18:=T0.out.pv.pbit (j:=18) rfl;rw[H18.out] at c18;go_enter func125,ntmps125;have lt1_:=T0.out.tre.var.tld
     go_wp2_with fail
     refine (z_aD h (some ⟨g,o,none⟩) n c l k W0 T0.out.sl HL.out.2.1 HL.out.2.2.1).mono ?_;rintro _ X1 ⟨a1,c1,rfl,s1,f1,b1⟩;have FR1:Hid (Fro w (some ⟨g,o,none⟩) a1):=z_J (Or.inl rfl) f1 T0.out.tre.bel.size;rw[HP.out] at s1;obtain⟨Y1,y1,N1⟩:=T0.out.tree b1 s1 f1;obtain⟨g1,o1,rfl⟩:=s1.some' (by have:=HL.out.2.2.1;omega);have d16:=N1.tre.var.t16
     have lq:=N1.sl.ld (z_k (l:=l.set k (nwP h p)) (i:=k) (by rw[List.length_set];exact HL.out.2.2.2));rw[u_C HL.out.2.2.2] at lq;obtain⟨R1,z1,M1⟩:=N1.st (nwP h p);have T1:Hid (TV w R1 w.heap.size (w.heap.size+1) Z h (some ⟨g1,o1,none⟩) n c1 (l.set k (nwP h p)) (nwP h p)):=M1;clear s1 f1 b1 N1 M1 lt1_;clear c19 c17 c27 c18
     have EL:Hid ((l.set k (nwP h p)).set k (flsP (nwP h p))=l.set k (prgP h p)):=by rw[List.set_set];exact rfl
     obtain⟨V1,e1,S1⟩:=T1.out.setB kb6 true;obtain⟨V2,e2,S2⟩:=S1.setB kb27 false;have T9:Hid (TV w V2 w.heap.size (w.heap.size+1) Z h (some ⟨g1,o1,none⟩) n c1 (l.set k (nwP h p)) (flsP (nwP h p))):=S2;clear S1 S2;have lt9:=T9.out.tre.var.tld;have lp9:=T9.out.pv.pld
     go_wp2_with fail
     refine (z_o h (some ⟨g1,o1,none⟩) n c1 (l.set k (nwP h p)) k _ V2 T9.out.sl HL.out.2.1 HL.out.2.2.1).mono ?_;rintro _ Y ⟨a8,c8,rfl,s8,f8,b8⟩;have FR8:Hid (Fro w (some ⟨g,o,none⟩) a8):=z_J FR1.out f8 T9.out.tre.bel.size;rw[EL.out] at s8;clear f8;obtain⟨U,sU,h1,h2,gU⟩:=(T9.out.tre.below b8).tell (y:=.slice a8 n c8) rfl
     have G:Hid (RvAt U (w.heap.size+1) 39 (trc h (.slice a8 n c8))∧SlAt U a8 n c8 (OO.getD l)∧Below w.heap.size w U∧OO.isSome=true):=by
      rw[E.out];exact⟨h1,s8.keptT (T9.out.tre.below b8).out gU,h2,rfl⟩
     clear h1 h2 gU;go_wp2
     refine bodyPost_ret (z_i results125 _ _ _ _ _ rfl G.out.1) rfl ?_;exact⟨a8,c8,by rw[G.out.2.2.2];rfl,G.out.2.1,G.out.2.2.1,FR8.out⟩
   ·have E:OO=some (sprL l k (ntfP h p)):=by
     rw[←EO.out];unfold actO;rw[HP.out];rw[if_neg (by rw[EP.out];simp),if_pos (by rw[H19.out,H17.out];simp)]
    have E:Hid (OO=some (sprL l k (ntfP h p))):=E;have c19:=T0.out.pv.pbit (j:=19) rfl;rw[H19.out] at c19;have c17:=T0.out.pv.pbit (j:=17) rfl;rw[H17.out] at c17;have c27:=T0.out.pv.pbit (j:=27) rfl;rw[H27.out] at c27;have c18:=T0.out.pv.pbit (j:=18) rfl;rw[H18.out] at c18;go_enter func125,ntmps125;have d16:=T0.out.tre.var.t16;have lq:=T0.out.sl.ld (z_k HL.out.2.2.2);rw[HP.out] at lq
    obtain⟨R1,z1,M1⟩:=T0.out.st p;have T1:Hid (TV w R1 w.heap.size (w.heap.size+1) Z h (some ⟨g,o,none⟩) n c l p):=M1;clear M1;have EL:Hid (prpL ((l).set k (heaR (p))) k=sprL l k (ntfP h p)):=by
     rw[w_f,z_eB];unfold ntfP heaQ;rw[if_neg (by rw[H19.out];decide)];exact rfl
    obtain⟨V1,e1,S1⟩:=T1.out.setB kb19 false;obtain⟨V2,e2,S2⟩:=S1.setB kb17 false;have c30:=S2.pv.pnum (j:=30) (k:=.i64) rfl;rw[z_G _ _ _ (by decide),z_G _ _ _ (by decide)] at c30;obtain⟨N,hN⟩:∃z,(p).nm 30=z:=⟨_,rfl⟩;rw[hN] at c30;by_cases h4:N=4
    ·obtain⟨V3,e3,S3⟩:=S2.setB kb26 true;have S3:TV w V3 w.heap.size (w.heap.size+1) Z h (some ⟨g,o,none⟩) n c (l) ((((p).setB 19 kb19 false).setB 17 kb17 false).setB 26 kb26 true):=S3;rw[show ((((p).setB 19 kb19 false).setB 17 kb17 false).setB 26 kb26 true)=heaR (p) by unfold heaR;rw[if_pos (by rw[hN];exact h4)]] at S3
     have T9:Hid (TV w V3 w.heap.size (w.heap.size+1) Z h (some ⟨g,o,none⟩) n c (l) (heaR (p))):=S3;subst h4;clear S1 S2 S3 hN;have lt9:=T9.out.tre.var.tld;have lp9:=T9.out.pv.pld
     go_wp2_with fail
     refine (z_o h (some ⟨g,o,none⟩) n c (l) k _ V3 T9.out.sl HL.out.2.1 HL.out.2.2.1).mono ?_;rintro _ Y ⟨a8,c8,rfl,s8,f8,b8⟩;have FR8:Hid (Fro w (some ⟨g,o,none⟩) a8):=z_J (Or.inl rfl) f8 T9.out.tre.bel.size;have T8:Hid (TS w Y w.heap.size (w.heap.size+1) h (.slice (some ⟨g,o,none⟩) n c)∧SlAt Y a8 n c8 _):=⟨T9.out.tre.below b8,s8⟩;clear f8 b8 s8
     go_wp2_with fail
     refine (x_M h a8 n c8 _ k Y T8.out.2 HL.out.2.1 HL.out.2.2.1).mono ?_;rintro _ Y2 ⟨a9,c9,rfl,s9,f9,b9⟩;have FR9:Hid (Fro w (some ⟨g,o,none⟩) a9):=Or.inr (fun x hx=>Nat.le_trans T8.out.1.bel.size (f9 x hx));rw[EL.out] at s9;clear f9;obtain⟨U,sU,h1,h2,gU⟩:=(T8.out.1.below b9).tell (y:=.slice a9 n c9) rfl
     have G:Hid (RvAt U (w.heap.size+1) 39 (trc h (.slice a9 n c9))∧SlAt U a9 n c9 (OO.getD l)∧Below w.heap.size w U∧OO.isSome=true):=by
      rw[E.out];exact⟨h1,s9.keptT (T8.out.1.below b9).out gU,h2,rfl⟩
     clear h1 h2 gU;go_wp2
     refine bodyPost_ret (z_i results125 _ _ _ _ _ rfl G.out.1) rfl ?_;exact⟨a9,c9,by rw[G.out.2.2.2];rfl,G.out.2.1,G.out.2.2.1,FR9.out⟩
    ·have S3:TV w V2 w.heap.size (w.heap.size+1) Z h (some ⟨g,o,none⟩) n c (l) (((p).setB 19 kb19 false).setB 17 kb17 false):=S2;rw[show (((p).setB 19 kb19 false).setB 17 kb17 false)=heaR (p) by unfold heaR;rw[if_neg (by rw[hN];exact h4)]] at S3;have T9:Hid (TV w V2 w.heap.size (w.heap.size+1) Z h (some ⟨g,o,none⟩) n c (l) (heaR (p))):=S3;have x4:(N==4)=false:=beq_eq_false_iff_ne.2 h4
     clear S1 S2 S3 hN h4;have lt9:=T9.out.tre.var.tld;have lp9:=T9.out.pv.pld
     go_wp2_with fail
     refine (z_o h (some ⟨g,o,none⟩) n c (l) k _ V2 T9.out.sl HL.out.2.1 HL.out.2.2.1).mono ?_;rintro _ Y ⟨a8,c8,rfl,s8,f8,b8⟩;have FR8:Hid (Fro w (some ⟨g,o,none⟩) a8):=z_J (Or.inl rfl) f8 T9.out.tre.bel.size;have T8:Hid (TS w Y w.heap.size (w.heap.size+1) h (.slice (some ⟨g,o,none⟩) n c)∧SlAt Y a8 n c8 _):=⟨T9.out.tre.below b8,s8⟩;clear f8 b8 s8
     go_wp2_with fail
     refine (x_M h a8 n c8 _ k Y T8.out.2 HL.out.2.1 HL.out.2.2.1).mono ?_;rintro _ Y2 ⟨a9,c9,rfl,s9,f9,b9⟩;have FR9:Hid (Fro w (some ⟨g,o,none⟩) a9):=Or.inr (fun x hx=>Nat.le_trans T8.out.1.bel.size (f9 x hx));rw[EL.out] at s9;clear f9;obtain⟨U,sU,h1,h2,gU⟩:=(T8.out.1.below b9).tell (y:=.slice a9 n c9) rfl
     have G:Hid (RvAt U (w.heap.size+1) 39 (trc h (.slice a9 n c9))∧SlAt U a9 n c9 (OO.getD l)∧Below w.heap.size w U∧OO.isSome=true):=by
      rw[E.out];exact⟨h1,s9.keptT (T8.out.1.below b9).out gU,h2,rfl⟩
     clear h1 h2 gU;go_wp2
     refine bodyPost_ret (z_i results125 _ _ _ _ _ rfl G.out.1) rfl ?_;exact⟨a9,c9,by rw[G.out.2.2.2];rfl,G.out.2.1,G.out.2.2.1,FR9.out⟩
  ·have E:OO=some (sprL l k (ntfP h p)):=by
    rw[←EO.out];unfold actO;rw[HP.out];rw[if_neg (by rw[EP.out];simp),if_pos (by rw[H19.out];simp)]
   have E:Hid (OO=some (sprL l k (ntfP h p))):=E;have c19:=T0.out.pv.pbit (j:=19) rfl;rw[H19.out] at c19;have c17:=T0.out.pv.pbit (j:=17) rfl;rw[H17.out] at c17;have c27:=T0.out.pv.pbit (j:=27) rfl;rw[H27.out] at c27;have c18:=T0.out.pv.pbit (j:=18) rfl;rw[H18.out] at c18;go_enter func125,ntmps125;have lt1_:=T0.out.tre.var.tld
   go_wp2_with fail
   refine (z_aD h (some ⟨g,o,none⟩) n c l k W0 T0.out.sl HL.out.2.1 HL.out.2.2.1).mono ?_;rintro _ X1 ⟨a1,c1,rfl,s1,f1,b1⟩;have FR1:Hid (Fro w (some ⟨g,o,none⟩) a1):=z_J (Or.inl rfl) f1 T0.out.tre.bel.size;rw[HP.out] at s1;obtain⟨Y1,y1,N1⟩:=T0.out.tree b1 s1 f1;obtain⟨g1,o1,rfl⟩:=s1.some' (by have:=HL.out.2.2.1;omega);have d16:=N1.tre.var.t16
   have lq:=N1.sl.ld (z_k (l:=l.set k (nwP h p)) (i:=k) (by rw[List.length_set];exact HL.out.2.2.2));rw[u_C HL.out.2.2.2] at lq;obtain⟨R1,z1,M1⟩:=N1.st (nwP h p);have T1:Hid (TV w R1 w.heap.size (w.heap.size+1) Z h (some ⟨g1,o1,none⟩) n c1 (l.set k (nwP h p)) (nwP h p)):=M1;clear s1 f1 b1 N1 M1 lt1_;clear c19 c17 c27 c18
   have EL:Hid (prpL ((l.set k (nwP h p)).set k (heaR (nwP h p))) k=sprL l k (ntfP h p)):=by
    rw[z_jw,z_eB];unfold ntfP heaQ;rw[if_pos H19.out];exact rfl
   obtain⟨V1,e1,S1⟩:=T1.out.setB kb19 false;obtain⟨V2,e2,S2⟩:=S1.setB kb17 false;have c30:=S2.pv.pnum (j:=30) (k:=.i64) rfl;rw[z_G _ _ _ (by decide),z_G _ _ _ (by decide)] at c30;obtain⟨N,hN⟩:∃z,(nwP h p).nm 30=z:=⟨_,rfl⟩;rw[hN] at c30;by_cases h4:N=4
   ·obtain⟨V3,e3,S3⟩:=S2.setB kb26 true;have S3:TV w V3 w.heap.size (w.heap.size+1) Z h (some ⟨g1,o1,none⟩) n c1 (l.set k (nwP h p)) ((((nwP h p).setB 19 kb19 false).setB 17 kb17 false).setB 26 kb26 true):=S3;rw[show ((((nwP h p).setB 19 kb19 false).setB 17 kb17 false).setB 26 kb26 true)=heaR (nwP h p) by unfold heaR;rw[if_pos (by rw[hN];exact h4)]] at S3
    have T9:Hid (TV w V3 w.heap.size (w.heap.size+1) Z h (some ⟨g1,o1,none⟩) n c1 (l.set k (nwP h p)) (heaR (nwP h p))):=S3;subst h4;clear S1 S2 S3 hN;have lt9:=T9.out.tre.var.tld;have lp9:=T9.out.pv.pld
    go_wp2_with fail
    refine (z_o h (some ⟨g1,o1,none⟩) n c1 (l.set k (nwP h p)) k _ V3 T9.out.sl HL.out.2.1 HL.out.2.2.1).mono ?_;rintro _ Y ⟨a8,c8,rfl,s8,f8,b8⟩;have FR8:Hid (Fro w (some ⟨g,o,none⟩) a8):=z_J FR1.out f8 T9.out.tre.bel.size;have T8:Hid (TS w Y w.heap.size (w.heap.size+1) h (.slice (some ⟨g1,o1,none⟩) n c1)∧SlAt Y a8 n c8 _):=⟨T9.out.tre.below b8,s8⟩;clear f8 b8 s8
    go_wp2_with fail
    refine (x_M h a8 n c8 _ k Y T8.out.2 HL.out.2.1 HL.out.2.2.1).mono ?_;rintro _ Y2 ⟨a9,c9,rfl,s9,f9,b9⟩;have FR9:Hid (Fro w (some ⟨g,o,none⟩) a9):=Or.inr (fun x hx=>Nat.le_trans T8.out.1.bel.size (f9 x hx));rw[EL.out] at s9;clear f9;obtain⟨U,sU,h1,h2,gU⟩:=(T8.out.1.below b9).tell (y:=.slice a9 n c9) rfl
    have G:Hid (RvAt U (w.heap.size+1) 39 (trc h (.slice a9 n c9))∧SlAt U a9 n c9 (OO.getD l)∧Below w.heap.size w U∧OO.isSome=true):=by
     rw[E.out];exact⟨h1,s9.keptT (T8.out.1.below b9).out gU,h2,rfl⟩
    clear h1 h2 gU;go_wp2
    refine bodyPost_ret (z_i results125 _ _ _ _ _ rfl G.out.1) rfl ?_;exact⟨a9,c9,by rw[G.out.2.2.2];rfl,G.out.2.1,G.out.2.2.1,FR9.out⟩
   ·have S3:TV w V2 w.heap.size (w.heap.size+1) Z h (some ⟨g1,o1,none⟩) n c1 (l.set k (nwP h p)) (((nwP h p).setB 19 kb19 false).setB 17 kb17 false):=S2;rw[show (((nwP h p).setB 19 kb19 false).setB 17 kb17 false)=heaR (nwP h p) by unfold heaR;rw[if_neg (by rw[hN];exact h4)]] at S3
    have T9:Hid (TV w V2 w.heap.size (w.heap.size+1) Z h (some ⟨g1,o1,none⟩) n c1 (l.set k (nwP h p)) (heaR (nwP h p))):=S3;have x4:(N==4)=false:=beq_eq_false_iff_ne.2 h4;clear S1 S2 S3 hN h4;have lt9:=T9.out.tre.var.tld;have lp9:=T9.out.pv.pld
    go_wp2_with fail
    refine (z_o h (some ⟨g1,o1,none⟩) n c1 (l.set k (nwP h p)) k _ V2 T9.out.sl HL.out.2.1 HL.out.2.2.1).mono ?_;rintro _ Y ⟨a8,c8,rfl,s8,f8,b8⟩;have FR8:Hid (Fro w (some ⟨g,o,none⟩) a8):=z_J FR1.out f8 T9.out.tre.bel.size;have T8:Hid (TS w Y w.heap.size (w.heap.size+1) h (.slice (some ⟨g1,o1,none⟩) n c1)∧SlAt Y a8 n c8 _):=⟨T9.out.tre.below b8,s8⟩;clear f8 b8 s8
    go_wp2_with fail
    refine (x_M h a8 n c8 _ k Y T8.out.2 HL.out.2.1 HL.out.2.2.1).mono ?_;rintro _ Y2 ⟨a9,c9,rfl,s9,f9,b9⟩;have FR9:Hid (Fro w (some ⟨g,o,none⟩) a9):=Or.inr (fun x hx=>Nat.le_trans T8.out.1.bel.size (f9 x hx));rw[EL.out] at s9;clear f9;obtain⟨U,sU,h1,h2,gU⟩:=(T8.out.1.below b9).tell (y:=.slice a9 n c9) rfl
    have G:Hid (RvAt U (w.heap.size+1) 39 (trc h (.slice a9 n c9))∧SlAt U a9 n c9 (OO.getD l)∧Below w.heap.size w U∧OO.isSome=true):=by
     rw[E.out];exact⟨h1,s9.keptT (T8.out.1.below b9).out gU,h2,rfl⟩
    clear h1 h2 gU;go_wp2
    refine bodyPost_ret (z_i results125 _ _ _ _ _ rfl G.out.1) rfl ?_;exact⟨a9,c9,by rw[G.out.2.2.2];rfl,G.out.2.1,G.out.2.2.1,FR9.out⟩
end S14
end
section
namespace S14
open Go.RowKit
attribute [local go_sem ↓] ldP stP stB stU stW ldT stT st32 alP
attribute [local go_sem] z_l
theorem z_iP (h:Hd) (a:Option Addr) (n c:Nat) (l:List Pt) (k:Nat) (w:World) (hs:SlAt w a n c l) (hn:n≤1000) (hk:k<n) :
  Calls prog 81 #[.agg (trc h (.slice a n c)),.int .i64 (k:Int)] w fun r w'=>TBf w h a n l (tcmO h l k) r w':=by
 obtain⟨OO,hOO⟩:∃z,tcmO h l k=z:=⟨_,rfl⟩;rw[hOO];have EO:Hid (tcmO h l k=OO):=hOO;clear hOO;obtain⟨g,o,rfl⟩:=hs.some' (by omega);have HL:Hid (l.length=n∧n≤1000∧k<n∧k<l.length):=⟨hs.len,hn,hk,by rw[hs.len];exact hk⟩;have hin0:(0:Int)≤(k:Int):=by omega
 have hin1:(k:Int)<(n:Int):=by omega
 obtain⟨W,hW,r0,r1,bW,zW⟩:=z_w w h (.slice (some ⟨g,o,none⟩) n c);have GL:g<w.heap.size:=hs.low (by omega);have l0:=r0.tld;have GLH:Hid (g<w.heap.size):=GL;have H:Hid (TS w W w.heap.size (w.heap.size+1) h (.slice (some ⟨g,o,none⟩) n c)∧SlAt W (some ⟨g,o,none⟩) n c l):=⟨⟨r0,r1,bW,by omega⟩,hs.below bW⟩;have T:Hid _:=v_x (h:=h) (a:=some ⟨g,o,none⟩) (c:=c) (w:=W) hk;obtain⟨p,hp⟩:∃p,gtP l k=p:=⟨_,rfl⟩
 have HP:Hid (gtP l k=p):=hp;obtain⟨N,hN⟩:∃z,p.nm 74=z:=⟨_,rfl⟩;have HN:Hid (p.nm 74=N):=hN;obtain⟨PB,hPB⟩:∃z,hasB p=z:=⟨_,rfl⟩;have EP:Hid (hasB p=PB):=hPB;have EP2:Hid (((p.nm 30==3) || (p.nm 30==4))=PB):=hPB;obtain⟨b9,h9⟩:∃z,p.bt 9=z:=⟨_,rfl⟩;have H9:Hid (p.bt 9=b9):=h9;clear h9;obtain⟨b6,h6⟩:∃z,p.bt 6=z:=⟨_,rfl⟩;have H6:Hid (p.bt 6=b6):=h6;clear h6;clear hs hn hk r0 r1 bW zW hp hN hPB GL
 go_enter func81,ntmps81
 go_wp2_with fail
 refine Calls.mono T.out ?_;rintro _ V ⟨rfl,bV⟩;have K:Hid (TS w V w.heap.size (w.heap.size+1) h (.slice (some ⟨g,o,none⟩) n c)∧SlAt V (some ⟨g,o,none⟩) n c l):=⟨H.out.1.below bV,H.out.2.below bV⟩;have c16:=K.out.1.var.t16;have lp:=K.out.2.ld (z_k HL.out.2.2.2);rw[HP.out] at lp;obtain⟨W0,s0,r0',b0,z0⟩:=y_b V p;have ltz:w.heap.size≤V.heap.size:=K.out.1.bel.size
 obtain⟨Z,hZ⟩:∃Z,V.heap.size=Z:=⟨_,rfl⟩;rw[hZ] at s0 r0' ltz;have T0:Hid (TV w W0 w.heap.size (w.heap.size+1) Z h (some ⟨g,o,none⟩) n c l p):=⟨K.out.1.below b0,K.out.2.below b0,r0',ltz,Nat.le_refl _,by omega,fun x e=>by cases e;have:=GLH.out;show g≠Z;omega⟩;have R:=r0'.rdE14;clear b0 z0 r0' ltz bV l0 hW H T;go_upto_region 4 with fail
 refine wp_plain (C:=fun w'=>w'=W0) rfl ?_;refine z_b (v:=.pointer (some ⟨Z,0+30,none⟩)) (yq rfl (Rn.qt (qfield rfl rfl fp30))) ?_
 try simp only[Act.put,zA,zB,zC]
 refine z_b (v:=.int .i64 (p.nm 30)) (yq rfl (Rn.qt (qload rfl rfl (R.role rfl)))) ?_
 try simp only[Act.put,zA,zB,zC]
 refine z_b (v:=.bool ((p.nm 30)==3)) (yq rfl (Rn.qt (qbin rfl rfl rfl (w_n _ _ _ _ _) (u_G _ _)))) ?_
 try simp only[Act.put,zA,zB,zC]
 refine z_b (v:=.bool ((p.nm 30)==3)) (yq rfl (Rn.qt (qmove rfl rfl))) ?_
 try simp only[Act.put,zA,zB,zC]
 refine z_b (v:=gd ((p.nm 30)==3) false (.pointer (some ⟨Z,0+30,none⟩))) (yq1 rfl rfl (fun e=>Rn.qt (qfield rfl rfl fp30))) ?_
 try simp only[Act.put,zA,zB,zC]
 refine z_b (v:=gd ((p.nm 30)==3) false (.int .i64 (p.nm 30))) (yq1 rfl rfl (fun e=>Rn.qt (qload rfl (on e rfl) (R.role rfl)))) ?_
 try simp only[Act.put,zA,zB,zC]
 refine z_b (v:=gd ((p.nm 30)==3) false (.bool ((p.nm 30)==4))) (yq1 rfl rfl (fun e=>Rn.qt (qbin rfl (on e rfl) rfl (w_n _ _ _ _ _) (u_G _ _)))) ?_
 try simp only[Act.put,zA,zB,zC]
 refine z_b (v:=.bool (((p.nm 30)==3) || ((p.nm 30)==4))) (yq rfl (Rn.qt (qpick rfl rfl (pkO rfl rfl)))) ?_
 try simp only[Act.put,zA,zB,zC]
 refine z_b (v:=.bool (((p.nm 30)==3) || ((p.nm 30)==4))) (yq rfl (Rn.qt (qassign rfl rfl))) ?_
 try simp only[Act.put,zA,zB,zC]
 refine wpQuiet_nil ?_;rintro y hy;rw[hy];clear hy y R lp s0 c16 K;rw[EP2.out];clear EP2;by_cases h1:N=1
 ·subst h1;have E0:Hid (inaO l k=OO):=by rw[←EO.out];unfold tcmO;rw[HP.out,if_pos HN.out];exact rfl
  cases b9
  ·have E:OO=none:=by
    rw[←E0.out];unfold inaO;rw[HP.out];rw[if_neg (by rw[H9.out];simp)]
   have E:Hid (OO=none):=E;have c9:=T0.out.pv.pbit (j:=9) rfl;rw[H9.out] at c9;have c6:=T0.out.pv.pbit (j:=6) rfl;rw[H6.out] at c6;have c74:=T0.out.pv.pnum (j:=74) (k:=.i64) rfl;rw[HN.out] at c74;have lt9:=T0.out.tre.var.tld;obtain⟨U,sU,h1,h2,gU⟩:=(T0.out.tre).tell (y:=.slice (some ⟨g,o,none⟩) n c) rfl
   have G:Hid (RvAt U (w.heap.size+1) 39 (trc h (.slice (some ⟨g,o,none⟩) n c))∧SlAt U (some ⟨g,o,none⟩) n c (OO.getD l)∧Below w.heap.size w U∧OO.isSome=false):=by
    rw[E.out];exact⟨h1,T0.out.sl.keptT (T0.out.tre).out gU,h2,rfl⟩
   clear h1 h2 gU;go_wp2
   refine bodyPost_ret (z_i results81 _ _ _ _ _ rfl G.out.1) rfl ?_;exact⟨some ⟨g,o,none⟩,c,by rw[G.out.2.2.2];rfl,G.out.2.1,G.out.2.2.1,Or.inl rfl⟩
  ·cases b6
   ·have E:OO=some (l.set k (lrnP p)):=by
     rw[←E0.out];unfold inaO;rw[HP.out];rw[if_pos (by rw[H9.out,H6.out];simp)]
    have E:Hid (OO=some (l.set k (lrnP p))):=E;have c9:=T0.out.pv.pbit (j:=9) rfl;rw[H9.out] at c9;have c6:=T0.out.pv.pbit (j:=6) rfl;rw[H6.out] at c6;have c74:=T0.out.pv.pnum (j:=74) (k:=.i64) rfl;rw[HN.out] at c74;have lt9:=T0.out.tre.var.tld
    go_wp2_with fail
    refine (y_e h (some ⟨g,o,none⟩) n c l k W0 T0.out.sl HL.out.2.1 HL.out.2.2.1).mono ?_;rintro _ Y ⟨a8,c8,rfl,s8,b8,f8⟩;have FR8:Hid (Fro w (some ⟨g,o,none⟩) a8):=f8.up T0.out.tre.bel.size;clear f8;rw[HP.out] at s8;obtain⟨U,sU,h1,h2,gU⟩:=(T0.out.tre.below b8).tell (y:=.slice a8 n c8) rfl
    have G:Hid (RvAt U (w.heap.size+1) 39 (trc h (.slice a8 n c8))∧SlAt U a8 n c8 (OO.getD l)∧Below w.heap.size w U∧OO.isSome=true):=by
     rw[E.out];exact⟨h1,s8.keptT (T0.out.tre.below b8).out gU,h2,rfl⟩
    clear h1 h2 gU;go_wp2
    refine bodyPost_ret (z_i results81 _ _ _ _ _ rfl G.out.1) rfl ?_;exact⟨a8,c8,by rw[G.out.2.2.2];rfl,G.out.2.1,G.out.2.2.1,FR8.out⟩
   ·have E:OO=none:=by
     rw[←E0.out];unfold inaO;rw[HP.out];rw[if_neg (by rw[H9.out,H6.out];simp)]
    have E:Hid (OO=none):=E;have c9:=T0.out.pv.pbit (j:=9) rfl;rw[H9.out] at c9;have c6:=T0.out.pv.pbit (j:=6) rfl;rw[H6.out] at c6;have c74:=T0.out.pv.pnum (j:=74) (k:=.i64) rfl;rw[HN.out] at c74;have lt9:=T0.out.tre.var.tld;obtain⟨U,sU,h1,h2,gU⟩:=(T0.out.tre).tell (y:=.slice (some ⟨g,o,none⟩) n c) rfl
    have G:Hid (RvAt U (w.heap.size+1) 39 (trc h (.slice (some ⟨g,o,none⟩) n c))∧SlAt U (some ⟨g,o,none⟩) n c (OO.getD l)∧Below w.heap.size w U∧OO.isSome=false):=by
     rw[E.out];exact⟨h1,T0.out.sl.keptT (T0.out.tre).out gU,h2,rfl⟩
    clear h1 h2 gU;go_wp2
    refine bodyPost_ret (z_i results81 _ _ _ _ _ rfl G.out.1) rfl ?_;exact⟨some ⟨g,o,none⟩,c,by rw[G.out.2.2.2];rfl,G.out.2.1,G.out.2.2.1,Or.inl rfl⟩
 have x1:(N==1)=false:=beq_eq_false_iff_ne.2 h1;by_cases h2:N=2
 ·subst h2;have E:Hid (leaO h l k=OO):=by rw[←EO.out];unfold tcmO;rw[HP.out,if_neg (by rw[HN.out];decide),if_pos HN.out];exact rfl
  clear h1 x1;have C:=z_iV h (some ⟨g,o,none⟩) n c l k W0 T0.out.sl HL.out.2.1 HL.out.2.2.1;rw[HP.out,EP.out] at C;have C:Hid _:=C;have lt9:=T0.out.tre.var.tld;have c74:=T0.out.pv.pnum (j:=74) (k:=.i64) rfl;rw[HN.out] at c74
  go_wp2_with fail
  refine Calls.mono C.out ?_;rintro _ Y ⟨a8,c8,rfl,s8,b8,f8⟩;have FR8:Hid (Fro w (some ⟨g,o,none⟩) a8):=f8.up T0.out.tre.bel.size;clear f8;rw[E.out] at s8;rw[E.out];obtain⟨U,sU,h1,h2,gU⟩:=(T0.out.tre.below b8).tell (y:=.slice a8 n c8) rfl;have G:Hid (RvAt U (w.heap.size+1) 39 (trc h (.slice a8 n c8))∧SlAt U a8 n c8 (OO.getD l)∧Below w.heap.size w U):=⟨h1,s8.keptT (T0.out.tre.below b8).out gU,h2⟩
  clear h1 h2 gU C s8 b8;go_wp2
  refine bodyPost_ret (z_i results81 _ _ _ _ _ rfl G.out.1) rfl ?_;exact⟨a8,c8,rfl,G.out.2.1,G.out.2.2,FR8.out⟩
 have x2:(N==2)=false:=beq_eq_false_iff_ne.2 h2;by_cases h3:N=3
 ·subst h3;have E:Hid (actO h l k=OO):=by rw[←EO.out];unfold tcmO;rw[HP.out,if_neg (by rw[HN.out];decide),if_neg (by rw[HN.out];decide),if_pos HN.out];exact rfl
  clear h1 h2 x1 x2;have C:=z_jd h (some ⟨g,o,none⟩) n c l k W0 T0.out.sl HL.out.2.1 HL.out.2.2.1;rw[HP.out,EP.out] at C;have C:Hid _:=C;have lt9:=T0.out.tre.var.tld;have c74:=T0.out.pv.pnum (j:=74) (k:=.i64) rfl;rw[HN.out] at c74
  go_wp2_with fail
  refine Calls.mono C.out ?_;rintro _ Y ⟨a8,c8,rfl,s8,b8,f8⟩;have FR8:Hid (Fro w (some ⟨g,o,none⟩) a8):=f8.up T0.out.tre.bel.size;clear f8;rw[E.out] at s8;rw[E.out];obtain⟨U,sU,h1,h2,gU⟩:=(T0.out.tre.below b8).tell (y:=.slice a8 n c8) rfl;have G:Hid (RvAt U (w.heap.size+1) 39 (trc h (.slice a8 n c8))∧SlAt U a8 n c8 (OO.getD l)∧Below w.heap.size w U):=⟨h1,s8.keptT (T0.out.tre.below b8).out gU,h2⟩
  clear h1 h2 gU C s8 b8;go_wp2
  refine bodyPost_ret (z_i results81 _ _ _ _ _ rfl G.out.1) rfl ?_;exact⟨a8,c8,rfl,G.out.2.1,G.out.2.2,FR8.out⟩
 have x3:(N==3)=false:=beq_eq_false_iff_ne.2 h3;have E:Hid (OO=some (l.set k (quiP p))):=by rw[←EO.out];unfold tcmO;rw[HP.out,if_neg (by rw[HN.out];exact h1),if_neg (by rw[HN.out];exact h2),if_neg (by rw[HN.out];exact h3)];exact rfl
 clear h1 h2 h3;have c74:=T0.out.pv.pnum (j:=74) (k:=.i64) rfl;rw[HN.out] at c74;have lt9:=T0.out.tre.var.tld
 go_wp2_with fail
 refine (u_T h (some ⟨g,o,none⟩) n c l k W0 T0.out.sl HL.out.2.1 HL.out.2.2.1).mono ?_;rintro _ Y ⟨a8,c8,rfl,s8,b8,f8⟩;have FR8:Hid (Fro w (some ⟨g,o,none⟩) a8):=f8.up T0.out.tre.bel.size;clear f8;rw[HP.out] at s8;obtain⟨U,sU,h1,h2,gU⟩:=(T0.out.tre.below b8).tell (y:=.slice a8 n c8) rfl
 have G:Hid (RvAt U (w.heap.size+1) 39 (trc h (.slice a8 n c8))∧SlAt U a8 n c8 (OO.getD l)∧Below w.heap.size w U∧OO.isSome=true):=by
  rw[E.out];exact⟨h1,s8.keptT (T0.out.tre.below b8).out gU,h2,rfl⟩
 clear h1 h2 gU;go_wp2
 refine bodyPost_ret (z_i results81 _ _ _ _ _ rfl G.out.1) rfl ?_;exact⟨a8,c8,by rw[G.out.2.2.2];rfl,G.out.2.1,G.out.2.2.1,FR8.out⟩
end S14
end
section
namespace S14
open Go.RowKit
attribute [local go_sem ↓] ldP stP stB stU stW ldT stT st32 alP
attribute [local go_sem] z_l
theorem z_u (p:Pt) (w:World):Calls prog 209 #[.agg p.cs] w fun r w'=>r=.returned (.bool (hasB p))∧Below w.heap.size w w':=by
 obtain⟨W,hW,r0,bW,zW⟩:=y_T w p;have c30:=r0.num (j:=30) (k:=.i64) rfl;have H:Hid (Below w.heap.size w W):=bW;obtain⟨B,hB⟩:∃z,hasB p=z:=⟨_,rfl⟩;rw[hB];have E:Hid (((p.nm 30==3) || (p.nm 30==4))=B):=hB;obtain⟨N,hN⟩:∃z,p.nm 30=z:=⟨_,rfl⟩;rw[hN] at c30 E;clear r0 bW zW hB hN;by_cases h3:N=3
 ·subst h3;go_enter func209,ntmps209;go_wp2
  go_ret;exact⟨by rw[←E.out];rfl,H.out⟩
 ·have x3:(N==3)=false:=beq_eq_false_iff_ne.2 h3;clear h3;go_enter func209,ntmps209;go_wp2
  go_ret;exact⟨by rw[←E.out,x3];rfl,H.out⟩
theorem y_c (p:Pt) (w:World):Calls prog 211 #[.agg p.cs] w fun r w'=>r=.returned (.bool (tldB p))∧Below w.heap.size w w':=by
 obtain⟨W,hW,r0,bW,zW⟩:=y_T w p;have c17:=r0.bit (j:=17) rfl;have c19:=r0.bit (j:=19) rfl;have c18:=r0.bit (j:=18) rfl;have c27:=r0.bit (j:=27) rfl;have H:Hid (Below w.heap.size w W):=bW;obtain⟨B,hB⟩:∃z,tldB p=z:=⟨_,rfl⟩;rw[hB];have E:Hid ((((p.bt 17 || p.bt 19) || p.bt 18) || p.bt 27)=B):=hB;clear r0 bW zW hB;obtain⟨b17,h17⟩:∃z,p.bt 17=z:=⟨_,rfl⟩;obtain⟨b19,h19⟩:∃z,p.bt 19=z:=⟨_,rfl⟩
 obtain⟨b18,h18⟩:∃z,p.bt 18=z:=⟨_,rfl⟩;obtain⟨b27,h27⟩:∃z,p.bt 27=z:=⟨_,rfl⟩;rw[h17] at c17 E;rw[h19] at c19 E;rw[h18] at c18 E;rw[h27] at c27 E;clear h17 h19 h18 h27;cases b17
 ·cases b19
  ·cases b18
   ·go_enter func211,ntmps211;go_wp2
    go_ret;exact⟨by rw[←E.out];rfl,H.out⟩
   ·go_enter func211,ntmps211;go_wp2
    go_ret;exact⟨by rw[←E.out];rfl,H.out⟩
  ·go_enter func211,ntmps211;go_wp2
   go_ret;exact⟨by rw[←E.out];rfl,H.out⟩
 ·go_enter func211,ntmps211;go_wp2
  go_ret;exact⟨by rw[←E.out];rfl,H.out⟩
theorem z_ln (h:Hd) (a:Option Addr) (n c:Nat) (l:List Pt) (k:Nat) (w:World) (hs:SlAt w a n c l) (hn:n≤1000) (hk:k<n) :
  Calls prog 169 #[.agg (trc h (.slice a n c)),.int .i64 (k:Int)] w fun r w'=>TBf w h a n l (inaO l k) r w':=by
 obtain⟨OO,hOO⟩:∃z,inaO l k=z:=⟨_,rfl⟩;rw[hOO];have EO:Hid (inaO l k=OO):=hOO;clear hOO;obtain⟨g,o,rfl⟩:=hs.some' (by omega);have HL:Hid (l.length=n∧n≤1000∧k<n):=⟨hs.len,hn,hk⟩;have hkl:k<l.length:=by rw[HL.out.1];exact hk
 have hin0:(0:Int)≤(k:Int):=by omega
 have hin1:(k:Int)<(n:Int):=by omega
 obtain⟨W,hW,r0,r1,bW,zW⟩:=z_w w h (.slice (some ⟨g,o,none⟩) n c);have c16:=r0.t16;have lp:=(hs.below bW).ld (z_k hkl);obtain⟨p,hp⟩:∃p,gtP l k=p:=⟨_,rfl⟩;rw[hp] at lp;have HP:Hid (gtP l k=p):=hp;obtain⟨W0,s0,r0',b0,z0⟩:=y_b W p;obtain⟨Z,hZ⟩:∃Z,W.heap.size=Z:=⟨_,rfl⟩;rw[hZ] at s0 r0'
 have T0:Hid (TP w W0 w.heap.size (w.heap.size+1) Z h g o n c l p):=⟨⟨r0.below b0,r1.below b0,z_a bW b0,by omega⟩,(hs.below bW).below b0,r0',by omega,hs.low (by omega)⟩;obtain⟨b9,h9⟩:∃z,p.bt 9=z:=⟨_,rfl⟩;obtain⟨b6,h6⟩:∃z,p.bt 6=z:=⟨_,rfl⟩;have EB:Hid (p.bt 9=b9∧p.bt 6=b6):=⟨h9,h6⟩;clear hs hn hk r0 r1 bW zW b0 z0 r0' hp hkl h9 h6;cases b9
 ·have E:OO=none:=by
   rw[←EO.out];unfold inaO;rw[HP.out];rw[if_neg (by rw[EB.out.1];simp)]
  have E:Hid (OO=none):=E;have c9:=T0.out.pv.pbit (j:=9) rfl;rw[EB.out.1] at c9;have c6:=T0.out.pv.pbit (j:=6) rfl;rw[EB.out.2] at c6;have lt0:=T0.out.tre.var.tld;go_enter func169,ntmps169;obtain⟨U,sU,h1,h2,gU⟩:=T0.out.tre.tell (y:=.slice (some ⟨g,o,none⟩) n c) rfl
  have G:Hid (RvAt U (w.heap.size+1) 39 (trc h (.slice (some ⟨g,o,none⟩) n c))∧SlAt U (some ⟨g,o,none⟩) n c (OO.getD l)∧Below w.heap.size w U∧OO.isSome=false):=by
   rw[E.out];exact⟨h1,T0.out.sl.keptT T0.out.tre.out gU,h2,rfl⟩
  clear h1 h2 gU;go_wp2
  refine bodyPost_ret (z_i results169 _ _ _ _ _ rfl G.out.1) rfl ?_;exact⟨some ⟨g,o,none⟩,c,by rw[G.out.2.2.2];rfl,G.out.2.1,G.out.2.2.1,Or.inl rfl⟩
 ·cases b6
  ·have E:OO=some (l.set k (lrnP p)):=by
    rw[←EO.out];unfold inaO;rw[HP.out];rw[if_pos (by rw[EB.out.1,EB.out.2];simp)]
   have E:Hid (OO=some (l.set k (lrnP p))):=E;have c9:=T0.out.pv.pbit (j:=9) rfl;rw[EB.out.1] at c9;have c6:=T0.out.pv.pbit (j:=6) rfl;rw[EB.out.2] at c6;have lt0:=T0.out.tre.var.tld;go_enter func169,ntmps169
   go_wp2_with fail
   refine (y_D h (some ⟨g,o,none⟩) n c l k W0 T0.out.sl HL.out.2.1 HL.out.2.2).mono ?_;rintro _ X ⟨a2,c2,rfl,s2,b2,f2⟩;have FR:Hid (Nw w a2):=f2.up T0.out.tre.bel.size;clear f2;rw[HP.out] at s2;obtain⟨U,sU,h1,h2,gU⟩:=(T0.out.tre.below b2).tell (y:=.slice a2 n c2) rfl;have G:Hid (RvAt U (w.heap.size+1) 39 (trc h (.slice a2 n c2))∧SlAt U a2 n c2 (OO.getD l)∧Below w.heap.size w U∧OO.isSome=true):=by
    rw[E.out];exact⟨h1,s2.keptT (T0.out.tre.below b2).out gU,h2,rfl⟩
   clear h1 h2 gU s2 b2;go_wp2
   refine bodyPost_ret (z_i results169 _ _ _ _ _ rfl G.out.1) rfl ?_;exact⟨a2,c2,by rw[G.out.2.2.2];rfl,G.out.2.1,G.out.2.2.1,Or.inr FR.out⟩
  ·have E:OO=none:=by
    rw[←EO.out];unfold inaO;rw[HP.out];rw[if_neg (by rw[EB.out.1,EB.out.2];simp)]
   have E:Hid (OO=none):=E;have c9:=T0.out.pv.pbit (j:=9) rfl;rw[EB.out.1] at c9;have c6:=T0.out.pv.pbit (j:=6) rfl;rw[EB.out.2] at c6;have lt0:=T0.out.tre.var.tld;go_enter func169,ntmps169;obtain⟨U,sU,h1,h2,gU⟩:=T0.out.tre.tell (y:=.slice (some ⟨g,o,none⟩) n c) rfl
   have G:Hid (RvAt U (w.heap.size+1) 39 (trc h (.slice (some ⟨g,o,none⟩) n c))∧SlAt U (some ⟨g,o,none⟩) n c (OO.getD l)∧Below w.heap.size w U∧OO.isSome=false):=by
    rw[E.out];exact⟨h1,T0.out.sl.keptT T0.out.tre.out gU,h2,rfl⟩
   clear h1 h2 gU;go_wp2
   refine bodyPost_ret (z_i results169 _ _ _ _ _ rfl G.out.1) rfl ?_;exact⟨some ⟨g,o,none⟩,c,by rw[G.out.2.2.2];rfl,G.out.2.1,G.out.2.2.1,Or.inl rfl⟩
end S14
end
end Go.Proofs.YtlchejbggnbccaaGreat
