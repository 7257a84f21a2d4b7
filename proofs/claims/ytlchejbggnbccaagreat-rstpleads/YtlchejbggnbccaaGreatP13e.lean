/-
  A step as a plain function: the first rule that is so, and its deed. And what follows from it here.
-/
import Derived.Test.YtlchejbggnbccaaGreatPbb
import Derived.Test.YtlchejbggnbccaaGreatP13d
namespace Go.Proofs.YtlchejbggnbccaaGreat
set_option linter.unusedVariables false
set_option linter.unusedSimpArgs false
set_option maxRecDepth 4000
set_option maxHeartbeats 40000000
open _root_.Go.Proofs.Tryz
section
namespace S13
open Go.RowKit
def fnOf (F:Nat) (k:Nat) (l:List Pt):List Pt:=
 if F=205 then l.set k (begP (gtP l k)) else
 if F=206 then l.set k (rolP (gtP l k)) else
 if F=241 then l.set k (disP (gtP l k)) else
 if F=245 then l.set k (blkP (gtP l k)) else
 if F=265 then l.set k (agrRP (gtP l k)) else
 if F=276 then l.set k (agrP (gtP l k)) else
 if F=267 then l.set k (rrdP (gtP l k)) else
 if F=268 then l.set k (lrnP (gtP l k)) else
 if F=269 then l.set k (fwdP (gtP l k)) else
 if F=270 then l.set k (rcnP (gtP l k)) else
 if F=272 then l.set k (prsP (gtP l k)) else
 if F=273 then l.set k (synP (gtP l k)) else
 if F=274 then l.set k (stpP (gtP l k)) else
 if F=275 then l.set k (fwdDP (gtP l k)) else
 if F=278 then l.set k (bkuP (gtP l k)) else
 if F=293 then (l.set k (prdP (gtP l k))).map syncP else if F=266 then l.map rerP else l
structure Deed (F:Nat):Prop where
 does:DeedN F (fnOf F)
 enter:∀(x:Value) (V:World),(callFunc F #[x]).run prog V=.ok (.enter F #[x]) V
theorem z_kj:Deed 205:=⟨z_fw.n,fun x V=>by go_simp⟩
theorem z_cs:Deed 206:=⟨z_dx.n,fun x V=>by go_simp⟩
theorem v_U:Deed 241:=⟨z_fc.n,fun x V=>by go_simp⟩
theorem z_aj:Deed 245:=⟨z_fu.n,fun x V=>by go_simp⟩
theorem u_K:Deed 265:=⟨z_cw.n,fun x V=>by go_simp⟩
theorem z_kk:Deed 276:=⟨z_ap.n,fun x V=>by go_simp⟩
theorem v_T:Deed 267:=⟨z_dv.n,fun x V=>by go_simp⟩
theorem z_fi:Deed 268:=⟨z_ev.n,fun x V=>by go_simp⟩
theorem z_fj:Deed 269:=⟨z_ae.n,fun x V=>by go_simp⟩
theorem z_ht:Deed 270:=⟨z_dA.n,fun x V=>by go_simp⟩
theorem z_fh:Deed 272:=⟨z_ee.n,fun x V=>by go_simp⟩
theorem z_hs:Deed 273:=⟨z_cQ.n,fun x V=>by go_simp⟩
theorem z_lu:Deed 274:=⟨z_cT.n,fun x V=>by go_simp⟩
theorem x_k:Deed 275:=⟨z_cp.n,fun x V=>by go_simp⟩
theorem z_hu:Deed 278:=⟨z_fv.n,fun x V=>by go_simp⟩
theorem x_V:Deed 293:=⟨z_hJ,fun x V=>by go_simp⟩
theorem z_aT:Deed 266:=⟨z_hN,fun x V=>by go_simp⟩
theorem z_eY (p:Pt):∀x∈dsgR p,Deed x.2:=by
 intro x hx;simp only[dsgR,List.cons_append,List.nil_append,List.mem_cons,List.not_mem_nil,or_false] at hx;rcases hx with rfl | rfl | rfl | rfl | rfl | rfl
 ·exact z_fh
 ·exact z_hs
 ·exact v_T
 ·exact z_lu
 ·exact z_fi
 ·exact x_k
theorem z_ce (l:List Pt) (k:Nat):∀x∈rootR l k,Deed x.2:=by
 intro x hx;simp only[rootR,List.cons_append,List.nil_append,List.mem_cons,List.not_mem_nil,or_false] at hx;rcases hx with rfl | rfl | rfl | rfl | rfl | rfl | rfl
 ·exact x_V
 ·exact u_K
 ·exact z_aT
 ·exact v_T
 ·exact z_fi
 ·exact z_fj
 ·exact z_ht
theorem z_fF (l:List Pt) (k:Nat):∀x∈altR l k,Deed x.2:=by
 intro x hx;simp only[altR,List.cons_append,List.nil_append,List.mem_cons,List.not_mem_nil,or_false] at hx;rcases hx with rfl | rfl | rfl | rfl
 ·exact x_V
 ·exact z_kk
 ·exact z_aj
 ·exact z_hu
theorem z_fN (l:List Pt) (k:Nat):∀x∈stR l k,Deed x.2:=by
 unfold stR;intro x hx
 split at hx
 ·rw[List.mem_singleton] at hx;subst hx;exact v_U
 ·split at hx
  ·rw[List.mem_singleton] at hx;subst hx;exact v_U
  ·split at hx
   ·exact z_ce l k x hx
   ·split at hx
    ·exact z_eY _ x hx
    ·split at hx
     ·rw[List.mem_singleton] at hx;subst hx;exact z_aj
     ·split at hx
      ·exact z_fF l k x hx
      ·cases hx
theorem z_dm (l:List Pt) (k:Nat):∀x∈rulL l k,Deed x.2:=by
 unfold rulL;intro x hx
 split at hx
 ·cases hx
 ·rw[List.mem_append] at hx;rcases hx with hx | hx
  ·simp only[List.mem_cons,List.not_mem_nil,or_false] at hx;rcases hx with rfl | rfl
   ·exact z_kj
   ·exact z_cs
  ·exact z_fN l k x hx
theorem z_iO (l:List Pt) (k:Nat):(rulL l k).length≤9:=by
 unfold rulL;have:=z_cY l k
 split
 ·simp
 ·simp only[List.length_append,List.length_cons,List.length_nil];omega
def firstF:List (Bool×Nat)→Option Nat
 | []=>none
 | (true,F)::_=>some F
 | (false,_)::r=>firstF r
theorem v_S:∀(rs:List (Bool×Nat)),(∀(j:Nat) (x:Bool×Nat),rs[j]?=some x→x.1=false)→firstF rs=none
 | [],_=>rfl
 | (true,F)::r,h=>by have:=h 0 (true,F) rfl;cases this
 | (false,F)::r,h=>by
  unfold firstF;exact v_S r (fun j x hx=>h (j+1) x (by simpa using hx))
theorem z_bO:∀(rs:List (Bool×Nat)) (i:Nat) (F:Nat),rs[i]?=some (true,F)→(∀(j:Nat) (x:Bool×Nat),j<i→rs[j]?=some x→x.1=false)→firstF rs=some F
 | [],i,F,h,_=>by simp at h
 | (true,G)::r,i,F,h,hb=>by
  cases i with
  | zero=>simp at h;subst h;rfl
  | succ i=>have:=hb 0 (true,G) (by omega) rfl;cases this
 | (false,G)::r,i,F,h,hb=>by
  cases i with
  | zero=>simp at h
  | succ i=>
   unfold firstF;exact z_bO r i F (by simpa using h) (fun j x hj hx=>hb (j+1) x (by omega) (by simpa using hx))
def stepO (l:List Pt) (k:Nat):Option (List Pt):=(firstF (rulL l k)).map fun F=>fnOf F k l
def stepL (l:List Pt) (i:Int):List Pt:=if 0≤i∧i<l.length then (stepO l i.toNat).getD l else l
def stepB (l:List Pt) (i:Int):Bool:=if 0≤i∧i<l.length then (stepO l i.toNat).isSome else false
theorem z_lp (F k:Nat) (l:List Pt):(fnOf F k l).length=l.length:=by
 unfold fnOf;by_cases h0:F=205
 ·rw[if_pos h0];simp only[List.length_set,List.length_map]
 rw[if_neg h0];by_cases h1:F=206
 ·rw[if_pos h1];simp only[List.length_set,List.length_map]
 rw[if_neg h1];by_cases h2:F=241
 ·rw[if_pos h2];simp only[List.length_set,List.length_map]
 rw[if_neg h2];by_cases h3:F=245
 ·rw[if_pos h3];simp only[List.length_set,List.length_map]
 rw[if_neg h3];by_cases h4:F=265
 ·rw[if_pos h4];simp only[List.length_set,List.length_map]
 rw[if_neg h4];by_cases h5:F=276
 ·rw[if_pos h5];simp only[List.length_set,List.length_map]
 rw[if_neg h5];by_cases h6:F=267
 ·rw[if_pos h6];simp only[List.length_set,List.length_map]
 rw[if_neg h6];by_cases h7:F=268
 ·rw[if_pos h7];simp only[List.length_set,List.length_map]
 rw[if_neg h7];by_cases h8:F=269
 ·rw[if_pos h8];simp only[List.length_set,List.length_map]
 rw[if_neg h8];by_cases h9:F=270
 ·rw[if_pos h9];simp only[List.length_set,List.length_map]
 rw[if_neg h9];by_cases h10:F=272
 ·rw[if_pos h10];simp only[List.length_set,List.length_map]
 rw[if_neg h10];by_cases h11:F=273
 ·rw[if_pos h11];simp only[List.length_set,List.length_map]
 rw[if_neg h11];by_cases h12:F=274
 ·rw[if_pos h12];simp only[List.length_set,List.length_map]
 rw[if_neg h12];by_cases h13:F=275
 ·rw[if_pos h13];simp only[List.length_set,List.length_map]
 rw[if_neg h13];by_cases h14:F=278
 ·rw[if_pos h14];simp only[List.length_set,List.length_map]
 rw[if_neg h14];by_cases h15:F=293
 ·rw[if_pos h15];simp only[List.length_set,List.length_map]
 rw[if_neg h15];by_cases h16:F=266
 ·rw[if_pos h16];simp only[List.length_set,List.length_map]
 rw[if_neg h16]
theorem z_cX {l:List Pt} {k:Nat} (h:k<l.length):stepL l (k:Int)=(stepO l k).getD l∧stepB l (k:Int)=(stepO l k).isSome:=by
 unfold stepL stepB;rw[if_pos ⟨by omega,by omega⟩,if_pos ⟨by omega,by omega⟩];exact⟨rfl,rfl⟩
theorem z_bk {l:List Pt} {i:Int} (h:¬ (0≤i∧i<l.length)):stepL l i=l∧stepB l i=false:=by
 unfold stepL stepB;rw[if_neg h,if_neg h];exact⟨rfl,rfl⟩
end S13
end
section
namespace S13
open Go.RowKit
theorem _root_.Go.Proofs.YtlchejbggnbccaaGreat.RvAt.rdE {W:World} {b:Nat} {p:Pt} (r:RvAt W b 74 p.cs):Prd (fun w'=>w'=W) b 0 p:=⟨fun j v hv w hw=>by
 subst hw;rw[Nat.zero_add];exact r.cell j v (by rw[Row.cget];exact hv)⟩
theorem _root_.Go.Proofs.YtlchejbggnbccaaGreat.RvAt.rdL {W:World} {b:Nat} {p:Pt} (r:RvAt W b 74 p.cs):Prd (fun w'=>∃x:Later W,w'=x.val) b 0 p:=⟨fun j v hv w hw=>by
 obtain⟨x,rfl⟩:=hw;rw[Nat.zero_add];exact (r.below x.below).cell j v (by rw[Row.cget];exact hv)⟩
def rbegP (p:Pt):Pt:=(((((((((p.setN 30 kn30 0 wi0).setB 9 kb9 false).setB 7 kb7 false).setB 25 kb25 false).setB 24 kb24 true).setB 20 kb20 true).setU 70 (p.nm 43)).setU 65 (p.nm 41)).setU 68 0).setN 73 kn73 1 wi1
def rstP (p:Pt) (x:Int) (s:Int) (hs:(Lit.int .i64 s).wf=true):Pt:=(((((p.setU 65 x).setU 70 0).setB 25 kb25 true).setB 24 kb24 false).setB 20 kb20 false).setN 73 kn73 s hs
attribute [local go_sem ↓] ldP stP stB stU st49 stW
attribute [local go_sem ↓] alP
attribute [local go_sem] z_l
theorem z_gf (p:Pt) (w:World) :
  Calls prog 115 #[.agg p.cs] w fun r w'=>r=.returned (.agg (rbegP p).cs)∧Below w.heap.size w w':=by
 obtain⟨W0,hW,S0⟩:=PS.start w p;obtain⟨W1,s1,S1⟩:=S0.setN (t:=44) x_S.2.2.2.1 kn30 (n:=0) wi0;obtain⟨W2,s2,S2⟩:=S1.setB kb9 false;obtain⟨W3,s3,S3⟩:=S2.setB kb7 false;obtain⟨W4,s4,S4⟩:=S3.setB kb25 false;obtain⟨W5,s5,S5⟩:=S4.setB kb24 true;obtain⟨W6,s6,S6⟩:=S5.setB kb20 true;have l43:=S6.var.pnum (j:=43) (k:=.u8) rfl;have l41:=S6.var.pnum (j:=41) (k:=.u8) rfl
 have e43:(((((((p.setN 30 kn30 (0) wi0).setB 9 kb9 false).setB 7 kb7 false).setB 25 kb25 false).setB 24 kb24 true).setB 20 kb20 true)).nm 43=p.nm 43:=by
  refine y_C ?_;simp only[Row.setB_get,Row.setN_get];rfl
 have e41:(((((((p.setN 30 kn30 (0) wi0).setB 9 kb9 false).setB 7 kb7 false).setB 25 kb25 false).setB 24 kb24 true).setB 20 kb20 true)).nm 41=p.nm 41:=by
  refine y_C ?_;simp only[Row.setB_get,Row.setN_get];rfl
 rw[e43] at l43;rw[e41] at l41;obtain⟨W7,s7,S7⟩:=S6.setU ku70 (n:=p.nm 43) (p.u8 rfl);obtain⟨W8,s8,S8⟩:=S7.setU ku65 (n:=p.nm 41) (p.u8 rfl);obtain⟨W9,s9,S9⟩:=S8.setU ku68 (n:=0) (by omega);obtain⟨W10,s10,S10⟩:=S9.setN infoS kn73 (n:=1) wi1;have lX:=S10.ld;obtain⟨U,sU,G0⟩:=S10.tell (rbegP p);have G:=hd1 G0;clear G0 S0 S1 S2 S3 S4 S5 S6 S7 S8 S9 S10 e43 e41
 change (ldS 74 (.pointer (some ⟨w.heap.size,0,none⟩))).run prog W10=.ok (.agg (rbegP p).cs) W10 at lX
 go_enter func115,ntmps115
 go_wp2_with (with_reducible exact z_g results115 rfl rfl G.out.1 ⟨rfl,G.out.2⟩)
theorem z_aX (p:Pt):rbegP p=begP p:=by
 have h43:(begA p).nm 43=p.nm 43:=by
  refine y_C ?_;simp only[begA,Row.setB_get,Row.setN_get];rfl
 have h41:(begA p).nm 41=p.nm 41:=by
  refine y_C ?_;simp only[begA,Row.setB_get,Row.setN_get];rfl
 refine Row.same fun k _=>?_;unfold begP;rw[h43,h41];simp only[rbegP,begA,Row.setB_get,Row.setN_get,Row.setU_get _ ku70 (wf8 (p.u8 (j:=43) rfl)),Row.setU_get _ ku65 (wf8 (p.u8 (j:=41) rfl)),Row.setU_get _ ku68 (wf8 (n:=0) (by omega))];by_cases h1:k=73
 ·subst h1;simp
 ·simp only[if_neg h1]
theorem w_w (p:Pt) (x s:Int) (w:World) (hx:0≤x∧x≤255) (hs:(Lit.int .i64 s).wf=true) :
  Calls prog 117 #[.agg p.cs,.int .u8 x,.int .i64 s] w fun r w'=>r=.returned (.agg (rstP p x s hs).cs)∧Below w.heap.size w w':=by
 obtain⟨W0,hW,S0⟩:=PS.start w p;obtain⟨W1,s1,S1⟩:=S0.setU ku65 (n:=x) hx;obtain⟨W2,s2,S2⟩:=S1.setU ku70 (n:=0) (by omega);obtain⟨W3,s3,S3⟩:=S2.setB kb25 true;obtain⟨W4,s4,S4⟩:=S3.setB kb24 false;obtain⟨W5,s5,S5⟩:=S4.setB kb20 false;obtain⟨W6,s6,S6⟩:=S5.setN infoS kn73 (n:=s) hs;have lX:=S6.ld;obtain⟨U,sU,G0⟩:=S6.tell (rstP p x s hs);have G:=hd1 G0;clear G0 S0 S1 S2 S3 S4 S5 S6
 change (ldS 74 (.pointer (some ⟨w.heap.size,0,none⟩))).run prog W6=.ok (.agg (rstP p x s hs).cs) W6 at lX
 go_enter func117,ntmps117
 go_wp2_with (with_reducible exact z_g results117 rfl rfl G.out.1 ⟨rfl,G.out.2⟩)
theorem z_ds (p:Pt):(restP p).nm 41=p.nm 41∧(restP p).nm 43=p.nm 43:=by
 refine⟨y_C ?_,y_C ?_⟩<;>(simp only[restP,Row.setU_get _ ku70 (wf8 (n:=0) (by omega)),Row.setB_get];rfl)
theorem z_dr {p:Pt} {x s:Int} (hx:0≤x∧x≤255) (hs:(Lit.int .i64 s).wf=true):rstP p x s hs=((restP p).setU 65 x).setN 73 kn73 s hs:=by
 refine Row.same fun k _=>?_;simp only[rstP,restP,Row.setB_get,Row.setN_get,Row.setU_get _ ku70 (wf8 (n:=0) (by omega)),Row.setU_get _ ku65 (wf8 hx)];by_cases h1:k=65
 ·subst h1;simp
 ·simp only[if_neg h1];by_cases h2:k=70
  ·subst h2;simp
  ·simp only[if_neg h2]
theorem u_H (p:Pt):rstP p (p.nm 41) 2 wi2=disP p:=by
 rw[z_dr (p.u8 rfl)];unfold disP;rw[(z_ds p).1]
theorem z_ft (p:Pt):rstP p (p.nm 43) 6 wi6=blkP p:=by
 rw[z_dr (p.u8 rfl)];unfold blkP;rw[(z_ds p).2]
theorem z_au (p:Pt):(takP p).nm 30=p.nm 31∧(takP p).nm 43=p.nm 43:=⟨p.nset (z_z kn30 (p.nwf kn31)) (by decide),y_C (by simp only[takP,Row.setN_get];rfl)⟩
theorem z_fW (p:Pt) (w:World) :
  Calls prog 116 #[.agg p.cs] w fun r w'=>r=.returned (.agg (rolP p).cs)∧Below w.heap.size w w':=by
 obtain⟨W0,hW,S0⟩:=PS.start w p;have l31:=S0.var.pnum (j:=31) (k:=.i64) rfl;obtain⟨W1,s1,S1⟩:=S0.setN (t:=44) x_S.2.2.2.1 kn30 (n:=p.nm 31) (p.nwf kn31);have S1:PS w W1 w.heap.size (w.heap.size+1) (takP p):=S1;have l30:=S1.var.pnum (j:=30) (k:=.i64) rfl;rw[(z_au p).1] at l30;obtain⟨N,hN⟩:∃N,p.nm 31=N:=⟨_,rfl⟩;have EN:=hd1 hN;rw[hN] at l31 s1 l30;have H1:=hd1 S1;clear S0 S1 hN;by_cases h3:N=3
 ·subst h3;have l43:=H1.out.var.pnum (j:=43) (k:=.u8) rfl;have E:rolP p=becRoot (takP p):=by
   unfold rolP;rw[EN.out];rfl
  rw[E];have S1:=H1.out;obtain⟨W2,s2,S2⟩:=S1.setU ku70 (n:=(takP p).nm 43) ((takP p).u8 rfl);obtain⟨W3,s3,S3⟩:=S2.setN infoS kn73 (n:=3) wi3;have lX:=S3.ld;obtain⟨U,sU,G0⟩:=S3.tell (becRoot (takP p));have G:=hd1 G0;clear G0 S1 S2 S3 E
  change (ldS 74 (.pointer (some ⟨w.heap.size,0,none⟩))).run prog W3=.ok (.agg (becRoot (takP p)).cs) W3 at lX
  go_enter func116,ntmps116
  go_wp2_with (with_reducible exact z_g results116 rfl rfl G.out.1 ⟨rfl,G.out.2⟩)
 by_cases h4:N=4
 ·subst h4;have E:rolP p=becDsg (takP p):=by
   unfold rolP;rw[EN.out];rfl
  rw[E];have S1:=H1.out;obtain⟨W2,s2,S2⟩:=S1.setN infoS kn73 (n:=4) wi4;have lX:=S2.ld;obtain⟨U,sU,G0⟩:=S2.tell (becDsg (takP p));have G:=hd1 G0;clear G0 S1 S2 E
  change (ldS 74 (.pointer (some ⟨w.heap.size,0,none⟩))).run prog W2=.ok (.agg (becDsg (takP p)).cs) W2 at lX
  go_enter func116,ntmps116
  go_wp2_with (with_reducible exact z_g results116 rfl rfl G.out.1 ⟨rfl,G.out.2⟩)
 by_cases h0:N=0
 ·subst h0;have E:rolP p=becDis (takP p):=by
   unfold rolP;rw[EN.out];rfl
  rw[E];have S1:=H1.out;obtain⟨W2,s2,S2⟩:=S1.setB kb9 false;obtain⟨W3,s3,S3⟩:=S2.setB kb7 false;obtain⟨W4,s4,S4⟩:=S3.setN infoS kn73 (n:=5) wi5;obtain⟨W5,s5,S5⟩:=S4.setN infoS kn73 (n:=1) wi1;have e5:(((((takP p).setB 9 kb9 false).setB 7 kb7 false).setN 73 kn73 (5) wi5).setN 73 kn73 (1) wi1)=becDis (takP p):=by
   refine Row.same fun k _=>?_;simp only[becDis,Row.setB_get,Row.setN_get];by_cases h1:k=73
   ·subst h1;simp
   ·simp only[if_neg h1]
  have l30:=S4.var.pnum (j:=30) (k:=.i64) rfl;have e30:((((takP p).setB 9 kb9 false).setB 7 kb7 false).setN 73 kn73 5 wi5).nm 30=0:=by
   have q:=(z_au p).1;rw[EN.out] at q;rw[←q];refine y_C ?_;simp only[Row.setB_get,Row.setN_get];rfl
  rw[e30] at l30;rw[e5] at S5;have lX:=S5.ld;obtain⟨U,sU,G0⟩:=S5.tell (becDis (takP p));have G:=hd1 G0;clear G0 S1 S2 S3 S4 S5 E e5 e30;go_enter func116,ntmps116
  go_wp2_with (with_reducible exact z_g results116 rfl rfl G.out.1 ⟨rfl,G.out.2⟩)
 ·have x3:(N==3)=false:=by simpa using h3
  have x4:(N==4)=false:=by simpa using h4
  have x0:(N==0)=false:=by simpa using h0
  have E:rolP p=becBlk (takP p):=by
   unfold rolP;rw[EN.out,if_neg h0,if_neg h3,if_neg h4]
  rw[E];have S1:=H1.out;obtain⟨W2,s2,S2⟩:=S1.setB kb9 false;obtain⟨W3,s3,S3⟩:=S2.setB kb7 false;obtain⟨W4,s4,S4⟩:=S3.setN infoS kn73 (n:=5) wi5;have lX:=S4.ld;obtain⟨U,sU,G0⟩:=S4.tell (becBlk (takP p));have G:=hd1 G0;have l30':=S4.var.pnum (j:=30) (k:=.i64) rfl;have e30:((((takP p).setB 9 kb9 false).setB 7 kb7 false).setN 73 kn73 5 wi5).nm 30=N:=by
   have q:=(z_au p).1;rw[EN.out] at q;rw[←q];refine y_C ?_;simp only[Row.setB_get,Row.setN_get];rfl
  rw[e30] at l30';clear G0 S1 S2 S3 S4 E e30
  change (ldS 74 (.pointer (some ⟨w.heap.size,0,none⟩))).run prog W4=.ok (.agg (becBlk (takP p)).cs) W4 at lX
  go_enter func116,ntmps116
  go_wp2_with (with_reducible exact z_g results116 rfl rfl G.out.1 ⟨rfl,G.out.2⟩)
theorem z_bp (p:Pt) (x:Int) (w:World) :
  Calls prog 118 #[.agg p.cs,.int .u8 x] w fun r w'=>r=.returned (.bool ((p.nm 65 != x) || askP p))∧Below w.heap.size w w':=by
 obtain⟨W,hW,r0,bW⟩:=z_aK w p;have R:=r0.rdE;have E:Hid (((p.nm 65 != x) || askP p)=((((p.nm 65 != x) || p.bt 24) || p.bt 20) || !p.bt 25)):=by
  unfold askP;cases (p.nm 65 != x)<;>cases p.bt 24<;>rfl
 rw[E.out];have H:Hid (Below w.heap.size w W):=bW;obtain⟨z,hz⟩:∃z,w.heap.size=z:=⟨_,rfl⟩;rw[hz] at R H ⊢;clear r0 bW E;go_enter func118,ntmps118;go_upto_region 1 with fail
 refine wp_plain (C:=fun w'=>w'=W) rfl ?_;refine z_b (v:=.pointer (some ⟨z,0+65,none⟩)) (yq rfl (Rn.qt (qfield rfl rfl fp38))) ?_
 try simp only[Act.put,zA,zB,zC]
 refine z_b (v:=.int .u8 (p.nm 65)) (yq rfl (Rn.qt (qload rfl rfl (R.u8 rfl)))) ?_
 try simp only[Act.put,zA,zB,zC]
 refine z_b (v:=.int .u8 x) (yq rfl (Rn.qt (qmove rfl rfl))) ?_
 try simp only[Act.put,zA,zB,zC]
 refine z_b (v:=.bool ((p.nm 65) != x)) (yq rfl (Rn.qt (qbin rfl rfl rfl (x_a _ _ _ _ _) (u_t _ _)))) ?_
 try simp only[Act.put,zA,zB,zC]
 refine z_b (v:=.bool ((p.nm 65) != x)) (yq rfl (Rn.qt (qmove rfl rfl))) ?_
 try simp only[Act.put,zA,zB,zC]
 refine z_b (v:=gd ((p.nm 65) != x) false (.pointer (some ⟨z,0+24,none⟩))) (yq1 rfl rfl (fun e=>Rn.qt (qfield rfl rfl fp24))) ?_
 try simp only[Act.put,zA,zB,zC]
 refine z_b (v:=gd ((p.nm 65) != x) false (.bool (p.bt 24))) (yq1 rfl rfl (fun e=>Rn.qt (qload rfl (on e rfl) (R.bit rfl)))) ?_
 try simp only[Act.put,zA,zB,zC]
 refine z_b (v:=.bool (((p.nm 65) != x) || (p.bt 24))) (yq rfl (Rn.qt (qpick rfl rfl (pkO rfl rfl)))) ?_
 try simp only[Act.put,zA,zB,zC]
 refine z_b (v:=.bool (((p.nm 65) != x) || (p.bt 24))) (yq rfl (Rn.qt (qmove rfl rfl))) ?_
 try simp only[Act.put,zA,zB,zC]
 refine z_b (v:=gd (((p.nm 65) != x) || (p.bt 24)) false (.pointer (some ⟨z,0+20,none⟩))) (yq1 rfl rfl (fun e=>Rn.qt (qfield rfl rfl fp20))) ?_
 try simp only[Act.put,zA,zB,zC]
 refine z_b (v:=gd (((p.nm 65) != x) || (p.bt 24)) false (.bool (p.bt 20))) (yq1 rfl rfl (fun e=>Rn.qt (qload rfl (on e rfl) (R.bit rfl)))) ?_
 try simp only[Act.put,zA,zB,zC]
 refine z_b (v:=.bool ((((p.nm 65) != x) || (p.bt 24)) || (p.bt 20))) (yq rfl (Rn.qt (qpick rfl rfl (pkO rfl rfl)))) ?_
 try simp only[Act.put,zA,zB,zC]
 refine z_b (v:=.bool ((((p.nm 65) != x) || (p.bt 24)) || (p.bt 20))) (yq rfl (Rn.qt (qmove rfl rfl))) ?_
 try simp only[Act.put,zA,zB,zC]
 refine z_b (v:=gd ((((p.nm 65) != x) || (p.bt 24)) || (p.bt 20)) false (.pointer (some ⟨z,0+25,none⟩))) (yq1 rfl rfl (fun e=>Rn.qt (qfield rfl rfl fp25))) ?_
 try simp only[Act.put,zA,zB,zC]
 refine z_b (v:=gd ((((p.nm 65) != x) || (p.bt 24)) || (p.bt 20)) false (.bool (p.bt 25))) (yq1 rfl rfl (fun e=>Rn.qt (qload rfl (on e rfl) (R.bit rfl)))) ?_
 try simp only[Act.put,zA,zB,zC]
 refine z_b (v:=gd ((((p.nm 65) != x) || (p.bt 24)) || (p.bt 20)) false (.bool (!(p.bt 25)))) (yq1 rfl rfl (fun e=>Rn.qt (qnot rfl (on e rfl)))) ?_
 try simp only[Act.put,zA,zB,zC]
 refine z_b (v:=.bool (((((p.nm 65) != x) || (p.bt 24)) || (p.bt 20)) || (!(p.bt 25)))) (yq rfl (Rn.qt (qpick rfl rfl (pkO rfl rfl)))) ?_
 try simp only[Act.put,zA,zB,zC]
 refine z_b (v:=.bool (((((p.nm 65) != x) || (p.bt 24)) || (p.bt 20)) || (!(p.bt 25)))) (yq rfl (Rn.qt (qassign rfl rfl))) ?_
 try simp only[Act.put,zA,zB,zC]
 refine wpQuiet_nil ?_;rintro _ rfl;go_wp2
 go_ret;exact⟨rfl,H.out⟩
theorem z_dn (n:Int) (w:World) (hn:0≤n∧n≤255):Calls prog 158 #[.int .u8 n] w fun r w'=>r=.returned (.int .u8 (twN n))∧Below w.heap.size w w':=by
 have h1:IntKind.i64.wrap n=n:=IntWalk.i64_in _ (by omega);have h2:IntKind.i64.wrap (2*n)=2*n:=IntWalk.i64_in _ (by omega);have hw:∀m:Int,0≤m∧m≤255→IntKind.u8.wrap m=m:=fun m hm=>by
  show m%256=m
  omega
 go_enter func158,ntmps158;go_wp2
 all_goals
  go_ret;refine⟨z_y ?_,Below.refl _ _⟩;unfold twN
  first|(split<;>omega)|(rw[hw _ (by omega)];split<;>omega)
end S13
end
section
namespace S13
open Go.RowKit
def dsgO (p:Pt):Option Pt:=
 if ((!p.bt 7 && !p.bt 4) && !p.bt 13)=true then some (prsP p) else
 if ((stopB p && !p.bt 25) || (p.bt 4 && !p.bt 25) || (p.bt 24 && p.bt 25))=true then some (synP p) else
 if ((p.nm 70==0) && p.bt 20)=true then some (rrdP p) else
 if (mustB p && (p.bt 9 || p.bt 7))=true then some (stpP p) else
 if (mayP p && !p.bt 9)=true then some (lrnP p) else
 if ((mayP p && p.bt 9) && !p.bt 7)=true then some (fwdDP p) else
 none
theorem z_ho {p q:Pt} (h1:q.bt 23=p.bt 23) (h2:q.nm 42=p.nm 42) (h3:q.nm 43=p.nm 43):delayP q=delayP p:=by
 unfold delayP;rw[h1,h2,h3]
theorem z_iF (p:Pt):(stpA p).setU 65 (delayP p)=stpP p:=by
 unfold stpP;rw[z_ho (p:=p) (q:=stpA p)]
 ·exact u_O (by simp only[stpA,Row.setB_get];rfl)
 ·exact y_C (by simp only[stpA,Row.setB_get];rfl)
 ·exact y_C (by simp only[stpA,Row.setB_get];rfl)
theorem z_jS (p:Pt):(fwdP p).setB 4 kb4 (p.bt 23)=fwdDP p:=by
 unfold fwdDP;have:(fwdP p).bt 23=p.bt 23:=u_O (by simp only[fwdP,Row.setB_get,Row.setU_get _ ku65 (wf8 (n:=0) (by omega))];rfl);rw[this]
attribute [local go_sem ↓] ldP stP stB stU stW
attribute [local go_sem ↓] alP
attribute [local go_sem] z_l
theorem z_ge (p:Pt) (w:World) :
  Calls prog 120 #[.agg p.cs] w fun r w'=>r=.returned (.tuple #[.agg ((dsgO p).getD p).cs,.bool (dsgO p).isSome])∧Below w.heap.size w w':=by
 obtain⟨OO,hOO⟩:∃z,dsgO p=z:=⟨_,rfl⟩;rw[hOO];have EO:=hd1 hOO;clear hOO;obtain⟨W0,hW,S0⟩:=PS.start w p;have R:=S0.var.rdE;have lp:=S0.ld;have l23:=S0.var.pbit (j:=23) rfl;have H:=hd1 S0;clear S0;obtain⟨C0,hC0⟩:∃z,((!p.bt 7 && !p.bt 4) && !p.bt 13)=z:=⟨_,rfl⟩;have EC0:=hd1 hC0;clear hC0;obtain⟨C1,hC1⟩:∃z,((stopB p && !p.bt 25) || (p.bt 4 && !p.bt 25) || (p.bt 24 && p.bt 25))=z:=⟨_,rfl⟩
 have EC1:=hd1 hC1;clear hC1;obtain⟨C2,hC2⟩:∃z,((p.nm 70==0) && p.bt 20)=z:=⟨_,rfl⟩;have EC2:=hd1 hC2;clear hC2;obtain⟨C3,hC3⟩:∃z,(mustB p && (p.bt 9 || p.bt 7))=z:=⟨_,rfl⟩;have EC3:=hd1 hC3;clear hC3;obtain⟨C4,hC4⟩:∃z,(mayP p && !p.bt 9)=z:=⟨_,rfl⟩;have EC4:=hd1 hC4;clear hC4;obtain⟨C5,hC5⟩:∃z,((mayP p && p.bt 9) && !p.bt 7)=z:=⟨_,rfl⟩;have EC5:=hd1 hC5;clear hC5;go_enter func120,ntmps120
 go_upto_region 1 with fail
 refine wp_plain (C:=fun w'=>w'=W0) rfl ?_;refine z_b (v:=.pointer (some ⟨w.heap.size,0+65,none⟩)) (yq rfl (Rn.qt (qfield rfl rfl fp38))) ?_
 try simp only[Act.put,zA,zB,zC]
 refine z_b (v:=.int .u8 (p.nm 65)) (yq rfl (Rn.qt (qload rfl rfl (R.u8 rfl)))) ?_
 try simp only[Act.put,zA,zB,zC]
 refine z_b (v:=.bool ((p.nm 65)==0)) (yq rfl (Rn.qt (qbin rfl rfl rfl (x_a _ _ _ _ _) (u_F _ _)))) ?_
 try simp only[Act.put,zA,zB,zC]
 refine z_b (v:=.bool ((p.nm 65)==0)) (yq rfl (Rn.qt (qmove rfl rfl))) ?_
 try simp only[Act.put,zA,zB,zC]
 refine z_b (v:=gd ((p.nm 65)==0) false (.pointer (some ⟨w.heap.size,0+4,none⟩))) (yq1 rfl rfl (fun e=>Rn.qt (qfield rfl rfl fp4))) ?_
 try simp only[Act.put,zA,zB,zC]
 refine z_b (v:=gd ((p.nm 65)==0) false (.bool (p.bt 4))) (yq1 rfl rfl (fun e=>Rn.qt (qload rfl (on e rfl) (R.bit rfl)))) ?_
 try simp only[Act.put,zA,zB,zC]
 refine z_b (v:=.bool (((p.nm 65)==0) || (p.bt 4))) (yq rfl (Rn.qt (qpick rfl rfl (pkO rfl rfl)))) ?_
 try simp only[Act.put,zA,zB,zC]
 refine z_b (v:=.bool (((p.nm 65)==0) || (p.bt 4))) (yq rfl (Rn.qt (qmove rfl rfl))) ?_
 try simp only[Act.put,zA,zB,zC]
 refine z_b (v:=gd (((p.nm 65)==0) || (p.bt 4)) true (.pointer (some ⟨w.heap.size,0+70,none⟩))) (yq1 rfl rfl (fun e=>Rn.qt (qfield rfl rfl fp43))) ?_
 try simp only[Act.put,zA,zB,zC]
 refine z_b (v:=gd (((p.nm 65)==0) || (p.bt 4)) true (.int .u8 (p.nm 70))) (yq1 rfl rfl (fun e=>Rn.qt (qload rfl (on e rfl) (R.u8 rfl)))) ?_
 try simp only[Act.put,zA,zB,zC]
 refine z_b (v:=gd (((p.nm 65)==0) || (p.bt 4)) true (.bool ((p.nm 70)==0))) (yq1 rfl rfl (fun e=>Rn.qt (qbin rfl (on e rfl) rfl (x_a _ _ _ _ _) (u_F _ _)))) ?_
 try simp only[Act.put,zA,zB,zC]
 refine z_b (v:=gd (((p.nm 65)==0) || (p.bt 4)) true (.bool ((p.nm 70)==0))) (yq1 rfl rfl (fun e=>Rn.qt (qmove rfl (on e rfl)))) ?_
 try simp only[Act.put,zA,zB,zC]
 refine z_b (v:=gd (((p.nm 65)==0) || (p.bt 4)) true (gd ((p.nm 70)==0) false (.pointer (some ⟨w.heap.size,0+20,none⟩)))) (yq2 rfl rfl (fun e1 e2=>Rn.qt (qfield rfl rfl fp20))) ?_
 try simp only[Act.put,zA,zB,zC]
 refine z_b (v:=gd (((p.nm 65)==0) || (p.bt 4)) true (gd ((p.nm 70)==0) false (.bool (p.bt 20)))) (yq2 rfl rfl (fun e1 e2=>Rn.qt (qload rfl (on e2 (on e1 rfl)) (R.bit rfl)))) ?_
 try simp only[Act.put,zA,zB,zC]
 refine z_b (v:=gd (((p.nm 65)==0) || (p.bt 4)) true (gd ((p.nm 70)==0) false (.bool (!(p.bt 20))))) (yq2 rfl rfl (fun e1 e2=>Rn.qt (qnot rfl (on e2 (on e1 rfl))))) ?_
 try simp only[Act.put,zA,zB,zC]
 refine z_b (v:=gd (((p.nm 65)==0) || (p.bt 4)) true (.bool (((p.nm 70)==0) || (!(p.bt 20))))) (yq1 rfl rfl (fun e=>Rn.qt (qpick rfl (on e rfl) (pkO rfl (on e rfl))))) ?_
 try simp only[Act.put,zA,zB,zC]
 refine z_b (v:=.bool ((((p.nm 65)==0) || (p.bt 4)) && (((p.nm 70)==0) || (!(p.bt 20))))) (yq rfl (Rn.qt (qpick rfl rfl (pkA rfl rfl)))) ?_
 try simp only[Act.put,zA,zB,zC]
 refine z_b (v:=.bool ((((p.nm 65)==0) || (p.bt 4)) && (((p.nm 70)==0) || (!(p.bt 20))))) (yq rfl (Rn.qt (qmove rfl rfl))) ?_
 try simp only[Act.put,zA,zB,zC]
 refine z_b (v:=gd ((((p.nm 65)==0) || (p.bt 4)) && (((p.nm 70)==0) || (!(p.bt 20)))) true (.pointer (some ⟨w.heap.size,0+24,none⟩))) (yq1 rfl rfl (fun e=>Rn.qt (qfield rfl rfl fp24))) ?_
 try simp only[Act.put,zA,zB,zC]
 refine z_b (v:=gd ((((p.nm 65)==0) || (p.bt 4)) && (((p.nm 70)==0) || (!(p.bt 20)))) true (.bool (p.bt 24))) (yq1 rfl rfl (fun e=>Rn.qt (qload rfl (on e rfl) (R.bit rfl)))) ?_
 try simp only[Act.put,zA,zB,zC]
 refine z_b (v:=gd ((((p.nm 65)==0) || (p.bt 4)) && (((p.nm 70)==0) || (!(p.bt 20)))) true (.bool (!(p.bt 24)))) (yq1 rfl rfl (fun e=>Rn.qt (qnot rfl (on e rfl)))) ?_
 try simp only[Act.put,zA,zB,zC]
 refine z_b (v:=.bool (((((p.nm 65)==0) || (p.bt 4)) && (((p.nm 70)==0) || (!(p.bt 20)))) && (!(p.bt 24)))) (yq rfl (Rn.qt (qpick rfl rfl (pkA rfl rfl)))) ?_
 try simp only[Act.put,zA,zB,zC]
 refine z_b (v:=.bool (((((p.nm 65)==0) || (p.bt 4)) && (((p.nm 70)==0) || (!(p.bt 20)))) && (!(p.bt 24)))) (yq rfl (Rn.qt (qassign rfl rfl))) ?_
 try simp only[Act.put,zA,zB,zC]
 refine wpQuiet_nil ?_;rintro y_ hy_;rw[hy_];clear hy_ y_;obtain⟨MY,hMY⟩:∃z,mayP p=z:=⟨_,rfl⟩;have EMY:=hd1 hMY;unfold mayP at hMY;rw[hMY];clear hMY;go_upto_region 3 with fail
 refine wp_plain (C:=fun w'=>w'=W0) rfl ?_;refine z_b (v:=.pointer (some ⟨w.heap.size,0+7,none⟩)) (yq rfl (Rn.qt (qfield rfl rfl fp7))) ?_
 try simp only[Act.put,zA,zB,zC]
 refine z_b (v:=.bool (p.bt 7)) (yq rfl (Rn.qt (qload rfl rfl (R.bit rfl)))) ?_
 try simp only[Act.put,zA,zB,zC]
 refine z_b (v:=.bool (!(p.bt 7))) (yq rfl (Rn.qt (qnot rfl rfl))) ?_
 try simp only[Act.put,zA,zB,zC]
 refine z_b (v:=.bool (!(p.bt 7))) (yq rfl (Rn.qt (qmove rfl rfl))) ?_
 try simp only[Act.put,zA,zB,zC]
 refine z_b (v:=gd (!(p.bt 7)) true (.pointer (some ⟨w.heap.size,0+4,none⟩))) (yq1 rfl rfl (fun e=>Rn.qt (qfield rfl rfl fp4))) ?_
 try simp only[Act.put,zA,zB,zC]
 refine z_b (v:=gd (!(p.bt 7)) true (.bool (p.bt 4))) (yq1 rfl rfl (fun e=>Rn.qt (qload rfl (on e rfl) (R.bit rfl)))) ?_
 try simp only[Act.put,zA,zB,zC]
 refine z_b (v:=gd (!(p.bt 7)) true (.bool (!(p.bt 4)))) (yq1 rfl rfl (fun e=>Rn.qt (qnot rfl (on e rfl)))) ?_
 try simp only[Act.put,zA,zB,zC]
 refine z_b (v:=.bool ((!(p.bt 7)) && (!(p.bt 4)))) (yq rfl (Rn.qt (qpick rfl rfl (pkA rfl rfl)))) ?_
 try simp only[Act.put,zA,zB,zC]
 refine z_b (v:=.bool ((!(p.bt 7)) && (!(p.bt 4)))) (yq rfl (Rn.qt (qmove rfl rfl))) ?_
 try simp only[Act.put,zA,zB,zC]
 refine z_b (v:=gd ((!(p.bt 7)) && (!(p.bt 4))) true (.pointer (some ⟨w.heap.size,0+13,none⟩))) (yq1 rfl rfl (fun e=>Rn.qt (qfield rfl rfl fp13))) ?_
 try simp only[Act.put,zA,zB,zC]
 refine z_b (v:=gd ((!(p.bt 7)) && (!(p.bt 4))) true (.bool (p.bt 13))) (yq1 rfl rfl (fun e=>Rn.qt (qload rfl (on e rfl) (R.bit rfl)))) ?_
 try simp only[Act.put,zA,zB,zC]
 refine z_b (v:=gd ((!(p.bt 7)) && (!(p.bt 4))) true (.bool (!(p.bt 13)))) (yq1 rfl rfl (fun e=>Rn.qt (qnot rfl (on e rfl)))) ?_
 try simp only[Act.put,zA,zB,zC]
 refine z_b (v:=.bool (((!(p.bt 7)) && (!(p.bt 4))) && (!(p.bt 13)))) (yq rfl (Rn.qt (qpick rfl rfl (pkA rfl rfl)))) ?_
 try simp only[Act.put,zA,zB,zC]
 refine z_b (v:=.bool (((!(p.bt 7)) && (!(p.bt 4))) && (!(p.bt 13)))) (yq rfl (Rn.qt (qassign rfl rfl))) ?_
 try simp only[Act.put,zA,zB,zC]
 refine wpQuiet_nil ?_;rintro y_ hy_;rw[hy_];clear hy_ y_;have hc:=EC0.out;rw[hc];clear hc;cases C0;rotate_left
 ·have E:OO=some (prsP p):=by
   rw[←EO.out];unfold dsgO;rw[if_pos EC0.out]
  have S0:=H.out;obtain⟨W1,s1,S1⟩:=S0.setB kb13 true;obtain⟨W2,s2,S2⟩:=S1.setB kb11 true;have S2:PS w W2 w.heap.size (w.heap.size+1) (prsP p):=by exact S2
  have lX:=S2.ld;obtain⟨U,sU,G0⟩:=S2.tell (prsP p);have G:Hid (RvAt U (w.heap.size+1) 74 (prsP p).cs∧(Ending.returned (.tuple #[.agg (prsP p).cs,.bool true])=.returned (.tuple #[.agg (OO.getD p).cs,.bool OO.isSome])∧Below w.heap.size w U)):=⟨G0.1,by rw[E];rfl,G0.2⟩;clear G0 E S0 S1 S2 lp
  go_wp2_with (with_reducible exact z_j results120 rfl rfl rfl G.out.1 G.out.2)
 go_upto_region 5 with fail
 refine wp_plain (C:=fun w'=>w'=W0) rfl ?_;refine z_b (v:=.pointer (some ⟨w.heap.size,0+10,none⟩)) (yq rfl (Rn.qt (qfield rfl rfl fp10))) ?_
 try simp only[Act.put,zA,zB,zC]
 refine z_b (v:=.bool (p.bt 10)) (yq rfl (Rn.qt (qload rfl rfl (R.bit rfl)))) ?_
 try simp only[Act.put,zA,zB,zC]
 refine z_b (v:=.bool (!(p.bt 10))) (yq rfl (Rn.qt (qnot rfl rfl))) ?_
 try simp only[Act.put,zA,zB,zC]
 refine z_b (v:=.bool (!(p.bt 10))) (yq rfl (Rn.qt (qmove rfl rfl))) ?_
 try simp only[Act.put,zA,zB,zC]
 refine z_b (v:=gd (!(p.bt 10)) true (.pointer (some ⟨w.heap.size,0+8,none⟩))) (yq1 rfl rfl (fun e=>Rn.qt (qfield rfl rfl fp8))) ?_
 try simp only[Act.put,zA,zB,zC]
 refine z_b (v:=gd (!(p.bt 10)) true (.bool (p.bt 8))) (yq1 rfl rfl (fun e=>Rn.qt (qload rfl (on e rfl) (R.bit rfl)))) ?_
 try simp only[Act.put,zA,zB,zC]
 refine z_b (v:=gd (!(p.bt 10)) true (.bool (!(p.bt 8)))) (yq1 rfl rfl (fun e=>Rn.qt (qnot rfl (on e rfl)))) ?_
 try simp only[Act.put,zA,zB,zC]
 refine z_b (v:=.bool ((!(p.bt 10)) && (!(p.bt 8)))) (yq rfl (Rn.qt (qpick rfl rfl (pkA rfl rfl)))) ?_
 try simp only[Act.put,zA,zB,zC]
 refine z_b (v:=.bool ((!(p.bt 10)) && (!(p.bt 8)))) (yq rfl (Rn.qt (qmove rfl rfl))) ?_
 try simp only[Act.put,zA,zB,zC]
 refine z_b (v:=gd ((!(p.bt 10)) && (!(p.bt 8))) true (.pointer (some ⟨w.heap.size,0+25,none⟩))) (yq1 rfl rfl (fun e=>Rn.qt (qfield rfl rfl fp25))) ?_
 try simp only[Act.put,zA,zB,zC]
 refine z_b (v:=gd ((!(p.bt 10)) && (!(p.bt 8))) true (.bool (p.bt 25))) (yq1 rfl rfl (fun e=>Rn.qt (qload rfl (on e rfl) (R.bit rfl)))) ?_
 try simp only[Act.put,zA,zB,zC]
 refine z_b (v:=gd ((!(p.bt 10)) && (!(p.bt 8))) true (.bool (!(p.bt 25)))) (yq1 rfl rfl (fun e=>Rn.qt (qnot rfl (on e rfl)))) ?_
 try simp only[Act.put,zA,zB,zC]
 refine z_b (v:=.bool (((!(p.bt 10)) && (!(p.bt 8))) && (!(p.bt 25)))) (yq rfl (Rn.qt (qpick rfl rfl (pkA rfl rfl)))) ?_
 try simp only[Act.put,zA,zB,zC]
 refine z_b (v:=.bool (((!(p.bt 10)) && (!(p.bt 8))) && (!(p.bt 25)))) (yq rfl (Rn.qt (qmove rfl rfl))) ?_
 try simp only[Act.put,zA,zB,zC]
 refine z_b (v:=gd (((!(p.bt 10)) && (!(p.bt 8))) && (!(p.bt 25))) false (.pointer (some ⟨w.heap.size,0+4,none⟩))) (yq1 rfl rfl (fun e=>Rn.qt (qfield rfl rfl fp4))) ?_
 try simp only[Act.put,zA,zB,zC]
 refine z_b (v:=gd (((!(p.bt 10)) && (!(p.bt 8))) && (!(p.bt 25))) false (.bool (p.bt 4))) (yq1 rfl rfl (fun e=>Rn.qt (qload rfl (on e rfl) (R.bit rfl)))) ?_
 try simp only[Act.put,zA,zB,zC]
 refine z_b (v:=gd (((!(p.bt 10)) && (!(p.bt 8))) && (!(p.bt 25))) false (.bool (p.bt 4))) (yq1 rfl rfl (fun e=>Rn.qt (qmove rfl (on e rfl)))) ?_
 try simp only[Act.put,zA,zB,zC]
 refine z_b (v:=gd (((!(p.bt 10)) && (!(p.bt 8))) && (!(p.bt 25))) false (gd (p.bt 4) true (.pointer (some ⟨w.heap.size,0+25,none⟩)))) (yq2 rfl rfl (fun e1 e2=>Rn.qt (qfield rfl rfl fp25))) ?_
 try simp only[Act.put,zA,zB,zC]
 refine z_b (v:=gd (((!(p.bt 10)) && (!(p.bt 8))) && (!(p.bt 25))) false (gd (p.bt 4) true (.bool (p.bt 25)))) (yq2 rfl rfl (fun e1 e2=>Rn.qt (qload rfl (on e2 (on e1 rfl)) (R.bit rfl)))) ?_
 try simp only[Act.put,zA,zB,zC]
 refine z_b (v:=gd (((!(p.bt 10)) && (!(p.bt 8))) && (!(p.bt 25))) false (gd (p.bt 4) true (.bool (!(p.bt 25))))) (yq2 rfl rfl (fun e1 e2=>Rn.qt (qnot rfl (on e2 (on e1 rfl))))) ?_
 try simp only[Act.put,zA,zB,zC]
 refine z_b (v:=gd (((!(p.bt 10)) && (!(p.bt 8))) && (!(p.bt 25))) false (.bool ((p.bt 4) && (!(p.bt 25))))) (yq1 rfl rfl (fun e=>Rn.qt (qpick rfl (on e rfl) (pkA (on e rfl) rfl)))) ?_
 try simp only[Act.put,zA,zB,zC]
 refine z_b (v:=.bool ((((!(p.bt 10)) && (!(p.bt 8))) && (!(p.bt 25))) || ((p.bt 4) && (!(p.bt 25))))) (yq rfl (Rn.qt (qpick rfl rfl (pkO rfl rfl)))) ?_
 try simp only[Act.put,zA,zB,zC]
 refine z_b (v:=.bool ((((!(p.bt 10)) && (!(p.bt 8))) && (!(p.bt 25))) || ((p.bt 4) && (!(p.bt 25))))) (yq rfl (Rn.qt (qmove rfl rfl))) ?_
 try simp only[Act.put,zA,zB,zC]
 refine z_b (v:=gd ((((!(p.bt 10)) && (!(p.bt 8))) && (!(p.bt 25))) || ((p.bt 4) && (!(p.bt 25)))) false (.pointer (some ⟨w.heap.size,0+24,none⟩))) (yq1 rfl rfl (fun e=>Rn.qt (qfield rfl rfl fp24))) ?_
 try simp only[Act.put,zA,zB,zC]
 refine z_b (v:=gd ((((!(p.bt 10)) && (!(p.bt 8))) && (!(p.bt 25))) || ((p.bt 4) && (!(p.bt 25)))) false (.bool (p.bt 24))) (yq1 rfl rfl (fun e=>Rn.qt (qload rfl (on e rfl) (R.bit rfl)))) ?_
 try simp only[Act.put,zA,zB,zC]
 refine z_b (v:=gd ((((!(p.bt 10)) && (!(p.bt 8))) && (!(p.bt 25))) || ((p.bt 4) && (!(p.bt 25)))) false (.bool (p.bt 24))) (yq1 rfl rfl (fun e=>Rn.qt (qmove rfl (on e rfl)))) ?_
 try simp only[Act.put,zA,zB,zC]
 refine z_b (v:=gd ((((!(p.bt 10)) && (!(p.bt 8))) && (!(p.bt 25))) || ((p.bt 4) && (!(p.bt 25)))) false (gd (p.bt 24) true (.pointer (some ⟨w.heap.size,0+25,none⟩)))) (yq2 rfl rfl (fun e1 e2=>Rn.qt (qfield rfl rfl fp25))) ?_
 try simp only[Act.put,zA,zB,zC]
 refine z_b (v:=gd ((((!(p.bt 10)) && (!(p.bt 8))) && (!(p.bt 25))) || ((p.bt 4) && (!(p.bt 25)))) false (gd (p.bt 24) true (.bool (p.bt 25)))) (yq2 rfl rfl (fun e1 e2=>Rn.qt (qload rfl (on e2 (on e1 rfl)) (R.bit rfl)))) ?_
 try simp only[Act.put,zA,zB,zC]
 refine z_b (v:=gd ((((!(p.bt 10)) && (!(p.bt 8))) && (!(p.bt 25))) || ((p.bt 4) && (!(p.bt 25)))) false (.bool ((p.bt 24) && (p.bt 25)))) (yq1 rfl rfl (fun e=>Rn.qt (qpick rfl (on e rfl) (pkA (on e rfl) rfl)))) ?_
 try simp only[Act.put,zA,zB,zC]
 refine z_b (v:=.bool (((((!(p.bt 10)) && (!(p.bt 8))) && (!(p.bt 25))) || ((p.bt 4) && (!(p.bt 25)))) || ((p.bt 24) && (p.bt 25)))) (yq rfl (Rn.qt (qpick rfl rfl (pkO rfl rfl)))) ?_
 try simp only[Act.put,zA,zB,zC]
 refine z_b (v:=.bool (((((!(p.bt 10)) && (!(p.bt 8))) && (!(p.bt 25))) || ((p.bt 4) && (!(p.bt 25)))) || ((p.bt 24) && (p.bt 25)))) (yq rfl (Rn.qt (qassign rfl rfl))) ?_
 try simp only[Act.put,zA,zB,zC]
 refine wpQuiet_nil ?_;rintro y_ hy_;rw[hy_];clear hy_ y_;have hc:=EC1.out;unfold stopB at hc;rw[hc];clear hc;cases C1;rotate_left
 ·have E:OO=some (synP p):=by
   rw[←EO.out];unfold dsgO;rw[if_neg (by rw[EC0.out];decide),if_pos EC1.out]
  have S0:=H.out;obtain⟨W1,s1,S1⟩:=S0.setU ku70 (n:=0) (by omega);obtain⟨W2,s2,S2⟩:=S1.setB kb25 true;obtain⟨W3,s3,S3⟩:=S2.setB kb24 false;have S3:PS w W3 w.heap.size (w.heap.size+1) (synP p):=by exact S3
  have lX:=S3.ld;obtain⟨U,sU,G0⟩:=S3.tell (synP p);have G:Hid (RvAt U (w.heap.size+1) 74 (synP p).cs∧(Ending.returned (.tuple #[.agg (synP p).cs,.bool true])=.returned (.tuple #[.agg (OO.getD p).cs,.bool OO.isSome])∧Below w.heap.size w U)):=⟨G0.1,by rw[E];rfl,G0.2⟩;clear G0 E S0 S1 S2 S3 lp
  go_wp2_with (with_reducible exact z_j results120 rfl rfl rfl G.out.1 G.out.2)
 go_upto_region 7 with fail
 refine wp_plain (C:=fun w'=>w'=W0) rfl ?_;refine z_b (v:=.pointer (some ⟨w.heap.size,0+70,none⟩)) (yq rfl (Rn.qt (qfield rfl rfl fp43))) ?_
 try simp only[Act.put,zA,zB,zC]
 refine z_b (v:=.int .u8 (p.nm 70)) (yq rfl (Rn.qt (qload rfl rfl (R.u8 rfl)))) ?_
 try simp only[Act.put,zA,zB,zC]
 refine z_b (v:=.bool ((p.nm 70)==0)) (yq rfl (Rn.qt (qbin rfl rfl rfl (x_a _ _ _ _ _) (u_F _ _)))) ?_
 try simp only[Act.put,zA,zB,zC]
 refine z_b (v:=.bool ((p.nm 70)==0)) (yq rfl (Rn.qt (qmove rfl rfl))) ?_
 try simp only[Act.put,zA,zB,zC]
 refine z_b (v:=gd ((p.nm 70)==0) true (.pointer (some ⟨w.heap.size,0+20,none⟩))) (yq1 rfl rfl (fun e=>Rn.qt (qfield rfl rfl fp20))) ?_
 try simp only[Act.put,zA,zB,zC]
 refine z_b (v:=gd ((p.nm 70)==0) true (.bool (p.bt 20))) (yq1 rfl rfl (fun e=>Rn.qt (qload rfl (on e rfl) (R.bit rfl)))) ?_
 try simp only[Act.put,zA,zB,zC]
 refine z_b (v:=.bool (((p.nm 70)==0) && (p.bt 20))) (yq rfl (Rn.qt (qpick rfl rfl (pkA rfl rfl)))) ?_
 try simp only[Act.put,zA,zB,zC]
 refine z_b (v:=.bool (((p.nm 70)==0) && (p.bt 20))) (yq rfl (Rn.qt (qassign rfl rfl))) ?_
 try simp only[Act.put,zA,zB,zC]
 refine wpQuiet_nil ?_;rintro y_ hy_;rw[hy_];clear hy_ y_;have hc:=EC2.out;rw[hc];clear hc;cases C2;rotate_left
 ·have E:OO=some (rrdP p):=by
   rw[←EO.out];unfold dsgO;rw[if_neg (by rw[EC0.out];decide),if_neg (by rw[EC1.out];decide),if_pos EC2.out]
  have S0:=H.out;obtain⟨W1,s1,S1⟩:=S0.setB kb20 false;have S1:PS w W1 w.heap.size (w.heap.size+1) (rrdP p):=by exact S1
  have lX:=S1.ld;obtain⟨U,sU,G0⟩:=S1.tell (rrdP p);have G:Hid (RvAt U (w.heap.size+1) 74 (rrdP p).cs∧(Ending.returned (.tuple #[.agg (rrdP p).cs,.bool true])=.returned (.tuple #[.agg (OO.getD p).cs,.bool OO.isSome])∧Below w.heap.size w U)):=⟨G0.1,by rw[E];rfl,G0.2⟩;clear G0 E S0 S1 lp
  go_wp2_with (with_reducible exact z_j results120 rfl rfl rfl G.out.1 G.out.2)
 go_upto_region 9 with fail
 refine wp_plain (C:=fun w'=>w'=W0) rfl ?_;refine z_b (v:=.pointer (some ⟨w.heap.size,0+24,none⟩)) (yq rfl (Rn.qt (qfield rfl rfl fp24))) ?_
 try simp only[Act.put,zA,zB,zC]
 refine z_b (v:=.bool (p.bt 24)) (yq rfl (Rn.qt (qload rfl rfl (R.bit rfl)))) ?_
 try simp only[Act.put,zA,zB,zC]
 refine z_b (v:=.bool (p.bt 24)) (yq rfl (Rn.qt (qmove rfl rfl))) ?_
 try simp only[Act.put,zA,zB,zC]
 refine z_b (v:=gd (p.bt 24) true (.pointer (some ⟨w.heap.size,0+25,none⟩))) (yq1 rfl rfl (fun e=>Rn.qt (qfield rfl rfl fp25))) ?_
 try simp only[Act.put,zA,zB,zC]
 refine z_b (v:=gd (p.bt 24) true (.bool (p.bt 25))) (yq1 rfl rfl (fun e=>Rn.qt (qload rfl (on e rfl) (R.bit rfl)))) ?_
 try simp only[Act.put,zA,zB,zC]
 refine z_b (v:=gd (p.bt 24) true (.bool (!(p.bt 25)))) (yq1 rfl rfl (fun e=>Rn.qt (qnot rfl (on e rfl)))) ?_
 try simp only[Act.put,zA,zB,zC]
 refine z_b (v:=.bool ((p.bt 24) && (!(p.bt 25)))) (yq rfl (Rn.qt (qpick rfl rfl (pkA rfl rfl)))) ?_
 try simp only[Act.put,zA,zB,zC]
 refine z_b (v:=.bool ((p.bt 24) && (!(p.bt 25)))) (yq rfl (Rn.qt (qmove rfl rfl))) ?_
 try simp only[Act.put,zA,zB,zC]
 refine z_b (v:=gd ((p.bt 24) && (!(p.bt 25))) false (.pointer (some ⟨w.heap.size,0+20,none⟩))) (yq1 rfl rfl (fun e=>Rn.qt (qfield rfl rfl fp20))) ?_
 try simp only[Act.put,zA,zB,zC]
 refine z_b (v:=gd ((p.bt 24) && (!(p.bt 25))) false (.bool (p.bt 20))) (yq1 rfl rfl (fun e=>Rn.qt (qload rfl (on e rfl) (R.bit rfl)))) ?_
 try simp only[Act.put,zA,zB,zC]
 refine z_b (v:=gd ((p.bt 24) && (!(p.bt 25))) false (.bool (p.bt 20))) (yq1 rfl rfl (fun e=>Rn.qt (qmove rfl (on e rfl)))) ?_
 try simp only[Act.put,zA,zB,zC]
 refine z_b (v:=gd ((p.bt 24) && (!(p.bt 25))) false (gd (p.bt 20) true (.pointer (some ⟨w.heap.size,0+70,none⟩)))) (yq2 rfl rfl (fun e1 e2=>Rn.qt (qfield rfl rfl fp43))) ?_
 try simp only[Act.put,zA,zB,zC]
 refine z_b (v:=gd ((p.bt 24) && (!(p.bt 25))) false (gd (p.bt 20) true (.int .u8 (p.nm 70)))) (yq2 rfl rfl (fun e1 e2=>Rn.qt (qload rfl (on e2 (on e1 rfl)) (R.u8 rfl)))) ?_
 try simp only[Act.put,zA,zB,zC]
 refine z_b (v:=gd ((p.bt 24) && (!(p.bt 25))) false (gd (p.bt 20) true (.bool ((p.nm 70) != 0)))) (yq2 rfl rfl (fun e1 e2=>Rn.qt (qbin rfl (on e2 (on e1 rfl)) rfl (x_a _ _ _ _ _) (u_t _ _)))) ?_
 try simp only[Act.put,zA,zB,zC]
 refine z_b (v:=gd ((p.bt 24) && (!(p.bt 25))) false (.bool ((p.bt 20) && ((p.nm 70) != 0)))) (yq1 rfl rfl (fun e=>Rn.qt (qpick rfl (on e rfl) (pkA (on e rfl) rfl)))) ?_
 try simp only[Act.put,zA,zB,zC]
 refine z_b (v:=.bool (((p.bt 24) && (!(p.bt 25))) || ((p.bt 20) && ((p.nm 70) != 0)))) (yq rfl (Rn.qt (qpick rfl rfl (pkO rfl rfl)))) ?_
 try simp only[Act.put,zA,zB,zC]
 refine z_b (v:=.bool (((p.bt 24) && (!(p.bt 25))) || ((p.bt 20) && ((p.nm 70) != 0)))) (yq rfl (Rn.qt (qmove rfl rfl))) ?_
 try simp only[Act.put,zA,zB,zC]
 refine z_b (v:=gd (((p.bt 24) && (!(p.bt 25))) || ((p.bt 20) && ((p.nm 70) != 0))) false (.pointer (some ⟨w.heap.size,0+5,none⟩))) (yq1 rfl rfl (fun e=>Rn.qt (qfield rfl rfl fp5))) ?_
 try simp only[Act.put,zA,zB,zC]
 refine z_b (v:=gd (((p.bt 24) && (!(p.bt 25))) || ((p.bt 20) && ((p.nm 70) != 0))) false (.bool (p.bt 5))) (yq1 rfl rfl (fun e=>Rn.qt (qload rfl (on e rfl) (R.bit rfl)))) ?_
 try simp only[Act.put,zA,zB,zC]
 refine z_b (v:=.bool ((((p.bt 24) && (!(p.bt 25))) || ((p.bt 20) && ((p.nm 70) != 0))) || (p.bt 5))) (yq rfl (Rn.qt (qpick rfl rfl (pkO rfl rfl)))) ?_
 try simp only[Act.put,zA,zB,zC]
 refine z_b (v:=.bool ((((p.bt 24) && (!(p.bt 25))) || ((p.bt 20) && ((p.nm 70) != 0))) || (p.bt 5))) (yq rfl (Rn.qt (qmove rfl rfl))) ?_
 try simp only[Act.put,zA,zB,zC]
 refine z_b (v:=gd ((((p.bt 24) && (!(p.bt 25))) || ((p.bt 20) && ((p.nm 70) != 0))) || (p.bt 5)) true (.pointer (some ⟨w.heap.size,0+9,none⟩))) (yq1 rfl rfl (fun e=>Rn.qt (qfield rfl rfl fp9))) ?_
 try simp only[Act.put,zA,zB,zC]
 refine z_b (v:=gd ((((p.bt 24) && (!(p.bt 25))) || ((p.bt 20) && ((p.nm 70) != 0))) || (p.bt 5)) true (.bool (p.bt 9))) (yq1 rfl rfl (fun e=>Rn.qt (qload rfl (on e rfl) (R.bit rfl)))) ?_
 try simp only[Act.put,zA,zB,zC]
 refine z_b (v:=gd ((((p.bt 24) && (!(p.bt 25))) || ((p.bt 20) && ((p.nm 70) != 0))) || (p.bt 5)) true (.bool (p.bt 9))) (yq1 rfl rfl (fun e=>Rn.qt (qmove rfl (on e rfl)))) ?_
 try simp only[Act.put,zA,zB,zC]
 refine z_b (v:=gd ((((p.bt 24) && (!(p.bt 25))) || ((p.bt 20) && ((p.nm 70) != 0))) || (p.bt 5)) true (gd (p.bt 9) false (.pointer (some ⟨w.heap.size,0+7,none⟩)))) (yq2 rfl rfl (fun e1 e2=>Rn.qt (qfield rfl rfl fp7))) ?_
 try simp only[Act.put,zA,zB,zC]
 refine z_b (v:=gd ((((p.bt 24) && (!(p.bt 25))) || ((p.bt 20) && ((p.nm 70) != 0))) || (p.bt 5)) true (gd (p.bt 9) false (.bool (p.bt 7)))) (yq2 rfl rfl (fun e1 e2=>Rn.qt (qload rfl (on e2 (on e1 rfl)) (R.bit rfl)))) ?_
 try simp only[Act.put,zA,zB,zC]
 refine z_b (v:=gd ((((p.bt 24) && (!(p.bt 25))) || ((p.bt 20) && ((p.nm 70) != 0))) || (p.bt 5)) true (.bool ((p.bt 9) || (p.bt 7)))) (yq1 rfl rfl (fun e=>Rn.qt (qpick rfl (on e rfl) (pkO rfl (on e rfl))))) ?_
 try simp only[Act.put,zA,zB,zC]
 refine z_b (v:=.bool (((((p.bt 24) && (!(p.bt 25))) || ((p.bt 20) && ((p.nm 70) != 0))) || (p.bt 5)) && ((p.bt 9) || (p.bt 7)))) (yq rfl (Rn.qt (qpick rfl rfl (pkA rfl rfl)))) ?_
 try simp only[Act.put,zA,zB,zC]
 refine z_b (v:=.bool (((((p.bt 24) && (!(p.bt 25))) || ((p.bt 20) && ((p.nm 70) != 0))) || (p.bt 5)) && ((p.bt 9) || (p.bt 7)))) (yq rfl (Rn.qt (qassign rfl rfl))) ?_
 try simp only[Act.put,zA,zB,zC]
 refine wpQuiet_nil ?_;rintro y_ hy_;rw[hy_];clear hy_ y_;have hc:=EC3.out;unfold mustB at hc;rw[hc];clear hc;cases C3;rotate_left
 ·have E:OO=some (stpP p):=by
   rw[←EO.out];unfold dsgO;rw[if_neg (by rw[EC0.out];decide),if_neg (by rw[EC1.out];decide),if_neg (by rw[EC2.out];decide),if_pos EC3.out]
  go_wp2_with fail
  refine (w_b p _).mono ?_;rintro _ W1 ⟨rfl,b1⟩;have S1:=H.out.below b1;clear b1;obtain⟨W2,s2,S2⟩:=S1.setB kb9 false;obtain⟨W3,s3,S3⟩:=S2.setB kb7 false;obtain⟨W4,s4,S4⟩:=S3.setB kb5 false;obtain⟨W5,s5,S5⟩:=S4.setU ku65 (n:=delayP p) (x_U p);have S5:PS w W5 w.heap.size (w.heap.size+1) (stpP p):=by rw[←z_iF p];exact S5
  have lX:=S5.ld;obtain⟨U,sU,G0⟩:=S5.tell (stpP p);have G:Hid (RvAt U (w.heap.size+1) 74 (stpP p).cs∧(Ending.returned (.tuple #[.agg (stpP p).cs,.bool true])=.returned (.tuple #[.agg (OO.getD p).cs,.bool OO.isSome])∧Below w.heap.size w U)):=⟨G0.1,by rw[E];rfl,G0.2⟩;clear G0 E S1 S2 S3 S4 S5 lp
  go_wp2_with (with_reducible exact z_j results120 rfl rfl rfl G.out.1 G.out.2)
 go_upto_region 11 with fail
 refine wp_plain (C:=fun w'=>w'=W0) rfl ?_;refine z_b (v:=.bool MY) (yq rfl (Rn.qt (qmove rfl rfl))) ?_
 try simp only[Act.put,zA,zB,zC]
 refine z_b (v:=.bool MY) (yq rfl (Rn.qt (qmove rfl rfl))) ?_
 try simp only[Act.put,zA,zB,zC]
 refine z_b (v:=gd MY true (.pointer (some ⟨w.heap.size,0+9,none⟩))) (yq1 rfl rfl (fun e=>Rn.qt (qfield rfl rfl fp9))) ?_
 try simp only[Act.put,zA,zB,zC]
 refine z_b (v:=gd MY true (.bool (p.bt 9))) (yq1 rfl rfl (fun e=>Rn.qt (qload rfl (on e rfl) (R.bit rfl)))) ?_
 try simp only[Act.put,zA,zB,zC]
 refine z_b (v:=gd MY true (.bool (!(p.bt 9)))) (yq1 rfl rfl (fun e=>Rn.qt (qnot rfl (on e rfl)))) ?_
 try simp only[Act.put,zA,zB,zC]
 refine z_b (v:=.bool (MY && (!(p.bt 9)))) (yq rfl (Rn.qt (qpick rfl rfl (pkA rfl rfl)))) ?_
 try simp only[Act.put,zA,zB,zC]
 refine z_b (v:=.bool (MY && (!(p.bt 9)))) (yq rfl (Rn.qt (qassign rfl rfl))) ?_
 try simp only[Act.put,zA,zB,zC]
 refine wpQuiet_nil ?_;rintro y_ hy_;rw[hy_];clear hy_ y_;have hc:=EC4.out;rw[EMY.out] at hc;rw[hc];clear hc;cases C4;rotate_left
 ·have E:OO=some (lrnP p):=by
   rw[←EO.out];unfold dsgO;rw[if_neg (by rw[EC0.out];decide),if_neg (by rw[EC1.out];decide),if_neg (by rw[EC2.out];decide),if_neg (by rw[EC3.out];decide),if_pos EC4.out]
  go_wp2_with fail
  refine (w_b p _).mono ?_;rintro _ W1 ⟨rfl,b1⟩;have S1:=H.out.below b1;clear b1;obtain⟨W2,s2,S2⟩:=S1.setB kb9 true;obtain⟨W3,s3,S3⟩:=S2.setU ku65 (n:=delayP p) (x_U p);have S3:PS w W3 w.heap.size (w.heap.size+1) (lrnP p):=by exact S3
  have lX:=S3.ld;obtain⟨U,sU,G0⟩:=S3.tell (lrnP p);have G:Hid (RvAt U (w.heap.size+1) 74 (lrnP p).cs∧(Ending.returned (.tuple #[.agg (lrnP p).cs,.bool true])=.returned (.tuple #[.agg (OO.getD p).cs,.bool OO.isSome])∧Below w.heap.size w U)):=⟨G0.1,by rw[E];rfl,G0.2⟩;clear G0 E S1 S2 S3 lp
  go_wp2_with (with_reducible exact z_j results120 rfl rfl rfl G.out.1 G.out.2)
 go_upto_region 13 with fail
 refine wp_plain (C:=fun w'=>w'=W0) rfl ?_;refine z_b (v:=.bool MY) (yq rfl (Rn.qt (qmove rfl rfl))) ?_
 try simp only[Act.put,zA,zB,zC]
 refine z_b (v:=.bool MY) (yq rfl (Rn.qt (qmove rfl rfl))) ?_
 try simp only[Act.put,zA,zB,zC]
 refine z_b (v:=gd MY true (.pointer (some ⟨w.heap.size,0+9,none⟩))) (yq1 rfl rfl (fun e=>Rn.qt (qfield rfl rfl fp9))) ?_
 try simp only[Act.put,zA,zB,zC]
 refine z_b (v:=gd MY true (.bool (p.bt 9))) (yq1 rfl rfl (fun e=>Rn.qt (qload rfl (on e rfl) (R.bit rfl)))) ?_
 try simp only[Act.put,zA,zB,zC]
 refine z_b (v:=.bool (MY && (p.bt 9))) (yq rfl (Rn.qt (qpick rfl rfl (pkA rfl rfl)))) ?_
 try simp only[Act.put,zA,zB,zC]
 refine z_b (v:=.bool (MY && (p.bt 9))) (yq rfl (Rn.qt (qmove rfl rfl))) ?_
 try simp only[Act.put,zA,zB,zC]
 refine z_b (v:=gd (MY && (p.bt 9)) true (.pointer (some ⟨w.heap.size,0+7,none⟩))) (yq1 rfl rfl (fun e=>Rn.qt (qfield rfl rfl fp7))) ?_
 try simp only[Act.put,zA,zB,zC]
 refine z_b (v:=gd (MY && (p.bt 9)) true (.bool (p.bt 7))) (yq1 rfl rfl (fun e=>Rn.qt (qload rfl (on e rfl) (R.bit rfl)))) ?_
 try simp only[Act.put,zA,zB,zC]
 refine z_b (v:=gd (MY && (p.bt 9)) true (.bool (!(p.bt 7)))) (yq1 rfl rfl (fun e=>Rn.qt (qnot rfl (on e rfl)))) ?_
 try simp only[Act.put,zA,zB,zC]
 refine z_b (v:=.bool ((MY && (p.bt 9)) && (!(p.bt 7)))) (yq rfl (Rn.qt (qpick rfl rfl (pkA rfl rfl)))) ?_
 try simp only[Act.put,zA,zB,zC]
 refine z_b (v:=.bool ((MY && (p.bt 9)) && (!(p.bt 7)))) (yq rfl (Rn.qt (qassign rfl rfl))) ?_
 try simp only[Act.put,zA,zB,zC]
 refine wpQuiet_nil ?_;rintro y_ hy_;rw[hy_];clear hy_ y_;have hc:=EC5.out;rw[EMY.out] at hc;rw[hc];clear hc;cases C5;rotate_left
 ·have E:OO=some (fwdDP p):=by
   rw[←EO.out];unfold dsgO;rw[if_neg (by rw[EC0.out];decide),if_neg (by rw[EC1.out];decide),if_neg (by rw[EC2.out];decide),if_neg (by rw[EC3.out];decide),if_neg (by rw[EC4.out];decide),if_pos EC5.out]
  have S0:=H.out;obtain⟨W1,s1,S1⟩:=S0.setB kb7 true;obtain⟨W2,s2,S2⟩:=S1.setU ku65 (n:=0) (by omega);obtain⟨W3,s3,S3⟩:=S2.setB kb4 (p.bt 23);have S3:PS w W3 w.heap.size (w.heap.size+1) (fwdDP p):=by rw[←z_jS p];exact S3
  have lX:=S3.ld;obtain⟨U,sU,G0⟩:=S3.tell (fwdDP p);have G:Hid (RvAt U (w.heap.size+1) 74 (fwdDP p).cs∧(Ending.returned (.tuple #[.agg (fwdDP p).cs,.bool true])=.returned (.tuple #[.agg (OO.getD p).cs,.bool OO.isSome])∧Below w.heap.size w U)):=⟨G0.1,by rw[E];rfl,G0.2⟩;clear G0 E S0 S1 S2 S3 lp
  go_wp2_with (with_reducible exact z_j results120 rfl rfl rfl G.out.1 G.out.2)
 have E:OO=none:=by
  rw[←EO.out];unfold dsgO;rw[if_neg (by rw[EC0.out];decide),if_neg (by rw[EC1.out];decide),if_neg (by rw[EC2.out];decide),if_neg (by rw[EC3.out];decide),if_neg (by rw[EC4.out];decide),if_neg (by rw[EC5.out];decide)]
 obtain⟨U,sU,G0⟩:=H.out.tell p;have G:Hid (RvAt U (w.heap.size+1) 74 p.cs∧(Ending.returned (.tuple #[.agg p.cs,.bool false])=.returned (.tuple #[.agg (OO.getD p).cs,.bool OO.isSome])∧Below w.heap.size w U)):=⟨G0.1,by rw[E];rfl,G0.2⟩;clear G0 E
 go_wp2_with (with_reducible exact z_j results120 rfl rfl rfl G.out.1 G.out.2)
end S13
end
end Go.Proofs.YtlchejbggnbccaaGreat
