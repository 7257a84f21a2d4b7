/-
  assign: its walk, for every tree whose ports lie in a block of one's own. And what follows from it here.
-/
import Derived.Test.YtlchejbggnbccaaGreatPbb
import Derived.Test.YtlchejbggnbccaaGreatP12a
namespace Go.Proofs.YtlchejbggnbccaaGreat
set_option linter.unusedVariables false
set_option linter.unusedSimpArgs false
set_option maxRecDepth 4000
set_option maxHeartbeats 40000000
open _root_.Go.Proofs.Tryz
section
namespace S12
open Go.RowKit
theorem TS.pt {w W:World} {b n c g i:Nat} {h:Hd} {L:List Pt} {q:Pt} (s:TS w W b h (some ⟨g,0,none⟩) n c (L.set i q)) (hi:i<n):(L.set i q)[i]?=some q∧PAt W g c (L.set i q):=by
 have hl:=s.ps.len;rw[List.length_set] at hl;obtain⟨g',e,hp⟩:=s.ps.pat _ rfl;cases e;exact⟨by rw[List.getElem?_set,if_pos rfl,if_pos (by omega)],hp⟩
theorem TS.setB {w W:World} {b n c g i j o:Nat} {h:Hd} {L:List Pt} {q:Pt} (s:TS w W b h (some ⟨g,0,none⟩) n c (L.set i q)) (hi:i<n) (hj:kdP[j]?=some none) (x:Bool) (ho:o=i*77+j) :
  ∃V,(stS 4 (.pointer (some ⟨g,o,none⟩)) (.bool x)).run prog W=.ok () V∧TS w V b h (some ⟨g,0,none⟩) n c (L.set i (q.setB j hj x)):=by
 obtain⟨hat,hp⟩:=s.pt hi;obtain⟨V,e,hP,hg⟩:=hp.st1 hat (tv:=4) u_z.1 (by rw[←lenP];exact (List.getElem?_eq_some_iff.1 hj).1) (v:=.bool x) rfl (y_x hj) ho;rw[List.set_set] at hP;exact⟨V,e,s.go rfl hP (by rw[List.length_set,List.length_set]) hg⟩
theorem TS.setN {w W:World} {b n c g i j o:Nat} {h:Hd} {L:List Pt} {q:Pt} {tv:TypeId} (s:TS w W b h (some ⟨g,0,none⟩) n c (L.set i q)) (hi:i<n) (ht:(prog.info? tv).map (·.size)=some 1) (hj:kdP[j]?=some (some .i64)) {x:Int} (hx:(Lit.int .i64 x).wf=true) (ho:o=i*77+j) :
  ∃V,(stS tv (.pointer (some ⟨g,o,none⟩)) (.int .i64 x)).run prog W=.ok () V∧TS w V b h (some ⟨g,0,none⟩) n c (L.set i (q.setN j hj x hx)):=by
 obtain⟨hat,hp⟩:=s.pt hi;obtain⟨V,e,hP,hg⟩:=hp.st1 hat (tv:=tv) ht (by rw[←lenP];exact (List.getElem?_eq_some_iff.1 hj).1) (v:=.int .i64 x) rfl (z_z hj hx) ho;rw[List.set_set] at hP;exact⟨V,e,s.go rfl hP (by rw[List.length_set,List.length_set]) hg⟩
theorem y_d {L:List Pt} {i:Nat} {q:Pt} (h:L[i]?=some q):L.set i q=L:=by
 refine List.ext_getElem? fun j=>?_;rw[List.getElem?_set]
 split
 ·rename_i e
  subst e;rw[if_pos (List.getElem?_eq_some_iff.1 h).1,h]
 ·rfl
theorem v_d {ks:List (Option IntKind)} (r:Row ks) {j:Nat} (h:ks[j]?=some (some .i64)) {x y:Int} (hx:(Lit.int .i64 x).wf=true) (hy:(Lit.int .i64 y).wf=true) (e:x=y):r.setN j h x hx=r.setN j h y hy:=by
 subst e;rfl
theorem z_R {ks:List (Option IntKind)} (r:Row ks) {j:Nat} (h:ks[j]?=some none) {x:Bool} (e:r.bt j=x):r.setB j h x=r:=by
 refine Row.same fun i _=>?_;rw[r.setB_get]
 split
 ·rename_i e2
  subst e2;rw[r.bit h,e]
 ·rfl
def slcP (p:Pt):Pt:=(p.setB 21 kb21 false).setB 22 kb22 true
theorem z_iI (p:Pt) (i:Nat):(slcP p).cl[i]?=if i=22 then some (.bool true) else if i=21 then some (.bool false) else p.cl[i]?:=by
 unfold slcP;rw[Row.setB_get,Row.setB_get]
theorem x_K (p:Pt) {i:Nat} (hi:i≠22∧i≠21):(slcP p).cl[i]?=p.cl[i]?:=by rw[z_iI,if_neg hi.1,if_neg hi.2]
theorem z_hP {h:Hd} {r:Bool} {p:Pt} (e:p.nm 29=1):((slcP p).setN 31 kn31 4 wi4).setB 28 kb28 true=asgP h r p:=by
 unfold asgP slcP;rw[v_d _ kn31 (x_z h r p) wi4 (by simp[wanN,e]),show updB h r p=true by simp[updB,e]]
theorem z_bV {h:Hd} {r:Bool} {p:Pt} {x:Bool} (e:p.nm 29=2) (hx:(p.bt 28 || outB p)=x):((slcP p).setN 31 kn31 4 wi4).setB 28 kb28 x=asgP h r p:=by
 unfold asgP slcP;rw[v_d _ kn31 (x_z h r p) wi4 (by simp[wanN,e]),show updB h r p=x by simp[updB,e,hx]]
theorem z_fC {h:Hd} {r:Bool} {p:Pt} {x:Int} (hw:(Lit.int .i64 x).wf=true) (e:p.nm 29=3) (hx:heaN h r p=x):((slcP p).setN 31 kn31 x hw).setB 28 kb28 (decide (x=4))=asgP h r p:=by
 unfold asgP slcP;rw[v_d _ kn31 (x_z h r p) hw (by simp[wanN,e,hx]),show updB h r p=decide (x=4) by simp[updB,e,hx]]
theorem z_hO {h:Hd} {r:Bool} {p:Pt} (e1:p.nm 29≠1) (e2:p.nm 29≠2) (e3:p.nm 29≠3):(slcP p).setN 31 kn31 0 wi0=asgP h r p:=by
 unfold asgP slcP;rw[v_d _ kn31 (x_z h r p) wi0 (by simp[wanN,e1,e2,e3]),show updB h r p=p.bt 28 by simp[updB,e1,e2,e3]];refine (z_R _ kb28 (u_O ?_)).symm;rw[Row.setN_get,if_neg (by omega),Row.setB_get,if_neg (by omega),Row.setB_get,if_neg (by omega)]
attribute [local go_sem ↓] ldP stP ldT stT stB st49
theorem v_Y (h:Hd) (a:Option Addr) (n c:Nat) (k:Int) (l:List Pt) (w:World) (hs:PA w a n c l) (hn:n≤1000) :
  Calls prog 186 #[.agg (trc h (.slice a n c)),.int .i64 k] w fun r w'=>r=.returned (.tuple #[])∧PA w' a n c (l.mapIdx fun i p=>asgP h (isK k i) p)∧w.grownBy w' (blk a):=by
 obtain⟨W,hW,r0,bW,zW⟩:=y_S w h (.slice a n c);have S0:Hid (TS w W w.heap.size h a n c l∧l.length=n):=⟨⟨r0,hs.below bW,z_q bW _,Nat.le_refl _,hs.lt⟩,hs.len⟩;have c16:=S0.out.1.var.t16;obtain⟨f,hf⟩:∃f:Nat→Pt→Pt,(fun i p=>asgP h (isK k i) p)=f:=⟨_,rfl⟩;have HF:Hid (∀i p,asgP h (isK k i) p=f i p):=by rw[←hf];exact fun i p=>rfl
 rw[hf];clear hs r0 bW zW hf;go_enter func186,ntmps186
 go_wp2_with fail
 go_step3
 go_wp2_with fail
 go_step3
 go_wp2_with fail
 go_loopw [9] (fun v9 wr=>∃i:Nat,i≤n∧v9=.int .i64 i∧TS w wr w.heap.size h a n c (mapI f l i)) (fun v9 _=>n-(intOf v9).toNat)
 case atStart=>exact⟨0,by omega,rfl,by rw[v_u];exact S0.out.1⟩
 case round=>
  obtain⟨i,hi,rfl,hS⟩:=hrel;have hin0:(0:Int)≤(i:Int):=by omega
  by_cases hit:i<n
  ·have hin1:(i:Int)<(n:Int):=by omega
   have hil:i<l.length:=by rw[S0.out.2];exact hit
   cases a with
   | none=>have:=(hS.ps.nil rfl).1;omega
   | some x=>
   obtain⟨g,rfl,_⟩:=hS.ps.pat x rfl;have hat:=u_v (f:=f) hil;have hnx:=x_f (f:=f) hil;have hS':=hS;rw[←y_d hat] at hS';have f16:=hS.var.t16;obtain⟨L,hL⟩:∃L,mapI f l i=L:=⟨_,rfl⟩;obtain⟨p,hp⟩:∃p,gtP l i=p:=⟨_,rfl⟩;rw[hL,hp] at hS';rw[hL,hp,← HF.out i p] at hnx;obtain⟨V1,e1,S1⟩:=hS'.setB hit kb21 false rfl;obtain⟨V2,e2,S2⟩:=S1.setB hit kb22 true rfl
   change TS w V2 w.heap.size h (some ⟨g,0,none⟩) n c (L.set i (slcP p)) at S2
   obtain⟨hat2,hP2⟩:=S2.pt hit;have c29:=hP2.num hat2 (j:=29) (k:=.i64) rfl rfl;rw[show (slcP p).nm 29=p.nm 29 from y_C (x_K p (by omega))] at c29;have ST:=hd2 S2 hnx;clear hS hS' S1 S2 hat hat2 hP2 hnx hL hp c16;by_cases h1:p.nm 29=1
   ·rw[h1] at c29;obtain⟨V3,e3,S3⟩:=ST.out.1.setN hit (tv:=44) infoR kn31 wi4 rfl;obtain⟨V4,e4,S4⟩:=S3.setB hit kb28 true rfl;rw[z_hP (h:=h) (r:=isK k i) h1,ST.out.2] at S4;have S4':=hd1 S4;clear S3 S4 h1;go_wp2
    go_roundw
    case rel=>exact⟨i+1,by omega,by go_num,S4'.out⟩
    case measure=>simp[intOf];omega
   ·by_cases h2:p.nm 29=2
    ·rw[h2] at c29;obtain⟨hat2,hP2⟩:=ST.out.1.pt hit;have c28:=hP2.bit hat2 (j:=28) rfl rfl;rw[show (slcP p).bt 28=p.bt 28 from u_O (x_K p (by omega))] at c28;have lp:=hP2.ld hat2 rfl;have eo:outB (slcP p)=outB p:=z_en fun j _ _=>x_K p (by omega);cases h28:p.bt 28
     ·rw[h28] at c28;have P1:Hid (∀V:World,_):=fun V=>z_gO (slcP p) V;rw[eo] at P1;have H28:=hd1 h28;have H2:=hd1 h2;clear hat2 hP2 eo h1 h2 h28
      go_wp2_with fail
      refine (P1.out V2).mono ?_;rintro _ V3 ⟨rfl,b3⟩;obtain⟨o,ho⟩:∃o,outB p=o:=⟨_,rfl⟩;rw[ho];have S3:=ST.out.1.below b3;obtain⟨V4,e4,S4⟩:=S3.setN hit (tv:=44) infoR kn31 wi4 rfl;obtain⟨V5,e5,S5⟩:=S4.setB hit kb28 o rfl;rw[z_bV (h:=h) (r:=isK k i) H2.out (by rw[H28.out,ho];rfl),ST.out.2] at S5;have S5':=hd1 S5;clear S3 S4 S5 b3 ho c28 c29 lp e1 e2 f16;go_wp2
      go_roundw
      case rel=>exact⟨i+1,by omega,by go_num,S5'.out⟩
      case measure=>simp[intOf];omega
     ·rw[h28] at c28;obtain⟨V4,e4,S4⟩:=ST.out.1.setN hit (tv:=44) infoR kn31 wi4 rfl;obtain⟨V5,e5,S5⟩:=S4.setB hit kb28 true rfl;rw[z_bV (h:=h) (r:=isK k i) h2 (by rw[h28];rfl),ST.out.2] at S5;have S5':=hd1 S5;clear S4 S5 hat2 hP2 eo h1 h2 h28;go_wp2
      go_roundw
      case rel=>exact⟨i+1,by omega,by go_num,S5'.out⟩
      case measure=>simp[intOf];omega
    ·by_cases h3:p.nm 29=3
     ·rw[h3] at c29;have lt:=ST.out.1.var.tld;have C:Hid _:=z_ez h (some ⟨g,0,none⟩) n c i k (L.set i (slcP p)) V2 ST.out.1.ps.sl hn hit;have eg:gtP (L.set i (slcP p)) i=slcP p:=by
       have h5:=(ST.out.1.pt hit).1;have hle:i<(L.set i (slcP p)).length:=(List.getElem?_eq_some_iff.1 h5).1;have:=z_k hle;rw[h5] at this;exact (Option.some.inj this).symm
      rw[eg,z_eD (h:=h) (r:=isK k i) (p:=slcP p) (q:=p) (fun j _ _=>x_K p (by omega))] at C;have HX:=z_eC h (isK k i) p;obtain⟨N,hN⟩:∃N,heaN h (isK k i) p=N:=⟨_,rfl⟩;rw[hN] at C HX;have EN:=hd3 hN HX h3;clear hN HX h1 h2 h3 eg
      go_wp2_with fail
      refine Calls.mono C.out ?_;rintro _ V3 ⟨rfl,b3⟩;have S3:=ST.out.1.below b3;obtain⟨V4,e4,S4⟩:=S3.setN hit (tv:=44) infoR kn31 EN.out.2.1 rfl;have c31:=(S4.pt hit).2.num (S4.pt hit).1 (j:=31) (k:=.i64) rfl rfl;rw[show ((slcP p).setN 31 kn31 N EN.out.2.1).nm 31=N from Row.nset _ _ (by rw[lenP];omega)] at c31;obtain⟨V5,e5,S5⟩:=S4.setB hit kb28 (decide (N=4)) rfl
      rw[z_fC (h:=h) (r:=isK k i) EN.out.2.1 EN.out.2.2 EN.out.1,ST.out.2] at S5;have S5':=hd1 S5;clear S3 S4 S5 b3 lt C e1 e2 f16 c29;by_cases h4:N=4
      ·have e5':(stS 4 (.pointer (some ⟨g,i*77+28,none⟩)) (.bool true)).run prog V4=.ok () V5:=by rw[show decide (N=4)=true by simp[h4]] at e5;exact e5
       clear e5;subst h4;go_wp2
       go_roundw
       case rel=>exact⟨i+1,by omega,by go_num,S5'.out⟩
       case measure=>simp[intOf];omega
      ·have e5':(stS 4 (.pointer (some ⟨g,i*77+28,none⟩)) (.bool false)).run prog V4=.ok () V5:=by rw[show decide (N=4)=false by simp[h4]] at e5;exact e5
       have hb4:(N==4)=false:=by simpa using h4
       clear e5;go_wp2
       go_roundw
       case rel=>exact⟨i+1,by omega,by go_num,S5'.out⟩
       case measure=>simp[intOf];omega
     ·have hb1:(p.nm 29==1)=false:=by simpa using h1
      have hb2:(p.nm 29==2)=false:=by simpa using h2
      have hb3:(p.nm 29==3)=false:=by simpa using h3
      obtain⟨V3,e3,S3⟩:=ST.out.1.setN hit (tv:=44) infoR kn31 wi0 rfl;rw[z_hO (h:=h) (r:=isK k i) h1 h2 h3,ST.out.2] at S3;have S3':=hd1 S3;clear S3;go_wp2
      go_roundw
      case rel=>exact⟨i+1,by omega,by go_num,S3'.out⟩
      case measure=>simp[intOf];omega
  ·have hin:i=n:=by omega
   subst hin;have hin1:¬ (i:Int)<(i:Int):=by omega
   have e:=u_w f l;rw[S0.out.2] at e;rw[e] at hS;have F:=hd2 hS.ps hS.gr;clear hS e c16;go_wp2
   go_returns
   exact⟨rfl,F.out.1,F.out.2⟩
end S12
end
section
namespace S12
open Go.RowKit
theorem z_fI (w:World) (h:Hd) (x:Value) (p:Pt):∃W,((w.alloc (.cells (trc h x) 39)).alloc (.cells p.cs 74)).alloc (.cells zeroP.cs 74)=W∧PS w W (w.heap.size+1) (w.heap.size+1+1) p∧RvAt W w.heap.size 39 (trc h x):=by
 obtain⟨D,hD,rA,rD,bD,zD⟩:=z_cH w h x p;obtain⟨C,hC,rC,bC,zC⟩:=y_T D zeroP;rw[zD] at rC;exact⟨C,by rw[hD,hC],⟨rD.below bC,rC,z_a bD bC,by omega,by omega,by omega⟩,rA.below bC⟩
end S12
end
section
namespace S12
open Go.RowKit
def wanP (h:Hd) (r:Bool) (p:Pt):Pt:=(p.setB 28 kb28 (updB h r p)).setN 31 kn31 (wanN h r p) (x_z h r p)
theorem w_X {h:Hd} {r:Bool} {p:Pt} {x:Bool} {y:Int} (hy:(Lit.int .i64 y).wf=true) (ex:updB h r p=x) (ey:wanN h r p=y):(p.setB 28 kb28 x).setN 31 kn31 y hy=wanP h r p:=by
 unfold wanP;rw[ex,v_d _ kn31 (x_z h r p) hy ey]
theorem z_bc {h:Hd} {r:Bool} {p:Pt} {x:Bool} {y:Int} (hy:(Lit.int .i64 y).wf=true) (ex:updB h r p=x) (ey:wanN h r p=y):(p.setN 31 kn31 y hy).setB 28 kb28 x=wanP h r p:=by
 rw[←w_X hy ex ey];refine Row.same fun i _=>?_;rw[Row.setB_get,Row.setN_get,Row.setN_get,Row.setB_get];by_cases h1:i=28
 ·subst h1;rfl
 ·simp only[if_neg h1]
theorem z_bd {h:Hd} {r:Bool} {p:Pt} {y:Int} (hy:(Lit.int .i64 y).wf=true) (ex:updB h r p=p.bt 28) (ey:wanN h r p=y):p.setN 31 kn31 y hy=wanP h r p:=by
 rw[←w_X hy ex ey,z_R _ _ rfl]
theorem grownOf {W V:World} {b:Nat} {x:Bool} {p:Pt} (e:(stS 4 (.pointer (some ⟨b,28,none⟩)) (.bool x)).run prog W=.ok () V) (r:RvAt W b 74 p.cs):W.grownBy V (some b):=by
 obtain⟨V',e',_,g⟩:=r.setB kb28 x;rw[e] at e';cases e';exact g
attribute [local go_sem ↓] ldP stP ldT stT ldV stV ldTm stTm stB st49 eqgV neqV eqgTm neqTm alP
attribute [local go_sem] z_l
theorem x_D (h:Hd) (x:Value) (p:Pt) (r:Bool) (w:World) :
  Calls prog 113 #[.agg (trc h x),.agg p.cs,.bool r] w fun e w'=>e=.returned (.agg (wanP h r p).cs)∧Below w.heap.size w w':=by
 obtain⟨W,hW,S0,r0⟩:=z_fI w h x p;have c29:=S0.var.num (j:=29) (k:=.i64) rfl;have S:=hd2 S0 r0;clear S0 r0;obtain⟨R,hR⟩:∃R,wanP h r p=R:=⟨_,rfl⟩;rw[hR];by_cases h1:p.nm 29=1
 ·rw[h1] at c29;obtain⟨V1,e1,S1⟩:=S.out.1.setB kb28 true;obtain⟨V2,e2,S2⟩:=S1.setN (t:=44) infoR kn31 wi4;rw[w_X (h:=h) (r:=r) wi4 (by simp[updB,h1]) (by simp[wanN,h1]),hR] at S2;clear S1 S hR h1;have lf:=S2.ld;obtain⟨U,sU,G0⟩:=S2.tell R;have G:=hd1 G0;clear G0 S2;go_enter func113,ntmps113
  go_wp2_with (with_reducible exact z_g results113 rfl rfl G.out.1 ⟨rfl,G.out.2⟩)
 by_cases h2:p.nm 29=2
 ·rw[h2] at c29;obtain⟨V1,e1,S1⟩:=S.out.1.setN (t:=44) infoR kn31 wi4;have d36:=S1.var.ppri;have d32:=S1.var.pdsg;have d44:=S1.var.ppriT;have d40:=S1.var.pdsT12;rw[show pri (p.setN 31 kn31 4 wi4)=pri p from z_aa fun j hj=>by rw[Row.setN_get,if_neg (by omega)]] at d36;rw[show dsg (p.setN 31 kn31 4 wi4)=dsg p from z_eX fun j hj=>by rw[Row.setN_get,if_neg (by omega)]] at d32
  rw[show priT (p.setN 31 kn31 4 wi4)=priT p from v_m fun j hj=>by rw[Row.setN_get,if_neg (by omega)]] at d44;rw[show dsgT (p.setN 31 kn31 4 wi4)=dsgT p from z_eZ fun j hj=>by rw[Row.setN_get,if_neg (by omega)]] at d40;cases q1:(pri p).eq (dsg p)
  ·obtain⟨V2,e2,S2⟩:=S1.setB kb28 true;rw[z_bc (h:=h) (r:=r) wi4 (by simp[updB,h2,outB,q1]) (by simp[wanN,h2]),hR] at S2;clear S1 S hR h1 h2;have lf:=S2.ld;obtain⟨U,sU,G0⟩:=S2.tell R;have G:=hd1 G0;clear G0 S2;go_enter func113,ntmps113
   go_wp2_with (with_reducible exact z_g results113 rfl rfl G.out.1 ⟨rfl,G.out.2⟩)
  ·cases q2:(priT p).eq (dsgT p)
   ·obtain⟨V2,e2,S2⟩:=S1.setB kb28 true;rw[z_bc (h:=h) (r:=r) wi4 (by simp[updB,h2,outB,q1,q2]) (by simp[wanN,h2]),hR] at S2;clear S1 S hR h1 h2;have lf:=S2.ld;obtain⟨U,sU,G0⟩:=S2.tell R;have G:=hd1 G0;clear G0 S2;go_enter func113,ntmps113
    go_wp2_with (with_reducible exact z_g results113 rfl rfl G.out.1 ⟨rfl,G.out.2⟩)
   ·rw[z_bd (h:=h) (r:=r) wi4 (by simp[updB,h2,outB,q1,q2]) (by simp[wanN,h2]),hR] at S1;clear S hR h1 h2;have lf:=S1.ld;obtain⟨U,sU,G0⟩:=S1.tell R;have G:=hd1 G0;clear G0 S1;go_enter func113,ntmps113
    go_wp2_with (with_reducible exact z_g results113 rfl rfl G.out.1 ⟨rfl,G.out.2⟩)
 by_cases h3:p.nm 29=3
 ·rw[h3] at c29;cases r with
  | true=>
   obtain⟨V1,e1,S1⟩:=S.out.1.setB kb28 false;obtain⟨V2,e2,S2⟩:=S1.setN (t:=44) infoR kn31 wi3;rw[w_X (h:=h) (r:=true) wi3 (by simp[updB,h3,heaN]) (by simp[wanN,h3,heaN]),hR] at S2;clear S1 S hR h1 h2 h3;have lf:=S2.ld;obtain⟨U,sU,G0⟩:=S2.tell R;have G:=hd1 G0;clear G0 S2;go_enter func113,ntmps113
   go_wp2_with (with_reducible exact z_g results113 rfl rfl G.out.1 ⟨rfl,G.out.2⟩)
  | false=>
   have c32:=S.out.1.var.pdsg;have c36:=S.out.1.var.ppri;have P1:Hid (∀V:World,_):=fun V=>v_X (dsg p) (pri p) V;cases q1:bet (dsg p) (pri p)
   ·rw[q1] at P1;have P2:Hid (∀V:World,_):=fun V=>w_a (p.nm 38) (h.nm 0) V (p.u64 rfl) (h.u64 rfl);cases q2:sameA (p.nm 38) (h.nm 0)
    ·rw[q2] at P2;have RR:Hid (∀hy,(p.setB 28 kb28 false).setN 31 kn31 1 hy=R):=fun hy=>by rw[←hR];exact w_X (h:=h) (r:=false) hy (by simp[updB,h3,heaN,q1,owB,q2]) (by simp[wanN,h3,heaN,q1,owB,q2])
     clear hR h1 h2 h3;go_enter func113,ntmps113
     go_wp2_with fail
     refine (P1.out _).mono ?_;rintro _ V0 ⟨rfl,b0⟩;obtain⟨V1,e1,S1⟩:=(S.out.1.below b0).setB kb28 false;have d28:=S1.var.bit (j:=28) rfl;rw[y_h] at d28;have d38:=S1.var.num (j:=38) (k:=.u64) rfl;rw[z_G _ _ _ (by omega)] at d38;have d0:V1.cell? ⟨w.heap.size,0,none⟩=some (.int .u64 (h.nm 0)):=(S.out.2.below b0 |>.keptBut (grownOf e1 (S.out.1.below b0).var) (by simp)).tnum rfl;have K1:=hd1 S1
     clear S1 S c32 c36 b0 c29 hW
     go_wp2_with fail
     refine (P2.out _).mono ?_;rintro _ V2 ⟨rfl,b2⟩;obtain⟨V3,e3,S3⟩:=(K1.out.below b2).setN (t:=44) infoR kn31 wi1;rw[RR.out] at S3;clear K1 d28 d38 d0 b2;have lf:=S3.ld;obtain⟨U,sU,G0⟩:=S3.tell R;have G:=hd1 G0;clear G0 S3
     go_wp2_with (with_reducible exact z_g results113 rfl rfl G.out.1 ⟨rfl,G.out.2⟩)
    ·rw[q2] at P2;have RR:Hid (∀hy,(p.setB 28 kb28 false).setN 31 kn31 2 hy=R):=fun hy=>by rw[←hR];exact w_X (h:=h) (r:=false) hy (by simp[updB,h3,heaN,q1,owB,q2]) (by simp[wanN,h3,heaN,q1,owB,q2])
     clear hR h1 h2 h3;go_enter func113,ntmps113
     go_wp2_with fail
     refine (P1.out _).mono ?_;rintro _ V0 ⟨rfl,b0⟩;obtain⟨V1,e1,S1⟩:=(S.out.1.below b0).setB kb28 false;have d28:=S1.var.bit (j:=28) rfl;rw[y_h] at d28;have d38:=S1.var.num (j:=38) (k:=.u64) rfl;rw[z_G _ _ _ (by omega)] at d38;have d0:V1.cell? ⟨w.heap.size,0,none⟩=some (.int .u64 (h.nm 0)):=(S.out.2.below b0 |>.keptBut (grownOf e1 (S.out.1.below b0).var) (by simp)).tnum rfl;have K1:=hd1 S1
     clear S1 S c32 c36 b0 c29 hW
     go_wp2_with fail
     refine (P2.out _).mono ?_;rintro _ V2 ⟨rfl,b2⟩;obtain⟨V3,e3,S3⟩:=(K1.out.below b2).setN (t:=44) infoR kn31 wi2;rw[RR.out] at S3;clear K1 d28 d38 d0 b2;have lf:=S3.ld;obtain⟨U,sU,G0⟩:=S3.tell R;have G:=hd1 G0;clear G0 S3
     go_wp2_with (with_reducible exact z_g results113 rfl rfl G.out.1 ⟨rfl,G.out.2⟩)
   ·rw[q1] at P1;have RR:Hid (∀hy,(p.setB 28 kb28 true).setN 31 kn31 4 hy=R):=fun hy=>by rw[←hR];exact w_X (h:=h) (r:=false) hy (by simp[updB,h3,heaN,q1]) (by simp[wanN,h3,heaN,q1])
    clear hR h1 h2 h3;go_enter func113,ntmps113
    go_wp2_with fail
    refine (P1.out _).mono ?_;rintro _ V0 ⟨rfl,b0⟩;obtain⟨V1,e1,S1⟩:=(S.out.1.below b0).setB kb28 true;have d28:=S1.var.bit (j:=28) rfl;rw[y_h] at d28;obtain⟨V2,e2,S2⟩:=S1.setN (t:=44) infoR kn31 wi4;rw[RR.out] at S2;clear S1 S c32 c36 b0 c29 hW;have lf:=S2.ld;obtain⟨U,sU,G0⟩:=S2.tell R;have G:=hd1 G0;clear G0 S2
    go_wp2_with (with_reducible exact z_g results113 rfl rfl G.out.1 ⟨rfl,G.out.2⟩)
 have hb1:(p.nm 29==1)=false:=by simpa using h1
 have hb2:(p.nm 29==2)=false:=by simpa using h2
 have hb3:(p.nm 29==3)=false:=by simpa using h3
 obtain⟨V1,e1,S1⟩:=S.out.1.setN (t:=44) infoR kn31 wi0;rw[z_bd (h:=h) (r:=r) wi0 (by simp[updB,h1,h2,h3]) (by simp[wanN,h1,h2,h3]),hR] at S1;clear S hR;have lf:=S1.ld;obtain⟨U,sU,G0⟩:=S1.tell R;have G:=hd1 G0;clear G0 S1;go_enter func113,ntmps113
 go_wp2_with (with_reducible exact z_g results113 rfl rfl G.out.1 ⟨rfl,G.out.2⟩)
end S12
end
section
namespace S12
open Go.RowKit
attribute [local go_sem ↓] ldP stP ldT stT ldV stV eqgV eqlV
theorem v_g (h:Hd) (a:Option Addr) (n c:Nat) (l:List Pt) (w:World) (hs:SlAt w a n c l) (hn:n≤1000) :
  Calls prog 111 #[.agg (trc h (.slice a n c))] w fun r w'=>r=.returned (.tuple #[.agg (rooV h l).cs,.int .i64 (rooK h l)])∧Below w.heap.size w w':=by
 obtain⟨W,hW,r0,r1,bW,zW⟩:=z_cG w h (.slice a n c);have c0:=r0.tnum (j:=0) (k:=.u64) rfl;have H:Hid (RvAt W w.heap.size 39 (trc h (.slice a n c))∧RvAt W (w.heap.size+1) 36 zeroVc.cs∧SlAt W a n c l∧Below w.heap.size w W∧W.heap.size=w.heap.size+2∧l.length=n):=⟨r0,r1,hs.below bW,bW,zW,hs.len⟩;clear hs r0 r1 bW zW
 have NN:Hid (rtF h l n=(rooV h l,rooK h l)):=by unfold rooV rooK;rw[H.out.2.2.2.2.2];exact rfl
 obtain⟨RV,hRV⟩:∃z,rooV h l=z:=⟨_,rfl⟩;obtain⟨RK,hRK⟩:∃z,rooK h l=z:=⟨_,rfl⟩;rw[hRV,hRK] at NN ⊢;clear hRV hRK;go_enter func111,ntmps111
 go_wp2_with fail
 refine (z_fZ h W).mono ?_;rintro _ W1 ⟨rfl,b1⟩;obtain⟨W2,s2,r2,b2,z2⟩:=z_cn W1 (ownV h)
 have S2:Hid (RS w W2 w.heap.size (w.heap.size+1) W1.heap.size h a n c l (ownV h)):=⟨(H.out.1.below b1).below b2,(H.out.2.1.below b1).below b2,r2,(H.out.2.2.1.below b1).below b2,z_a (z_a H.out.2.2.2.1 b1) b2,Nat.le_refl _,by omega,by have:=H.out.2.2.2.2.1;have:=b1.size;omega,by have:=H.out.2.2.2.2.1;have:=b1.size;omega,by have:=H.out.2.2.2.2.1;have:=b1.size;omega⟩
 obtain⟨e,he⟩:∃e,W1.heap.size=e:=⟨_,rfl⟩;rw[he] at s2 S2;have HL:Hid (l.length=n):=H.out.2.2.2.2.2;clear r2 b2 z2 b1 H c0 hW
 go_wp2_with fail
 go_loopw [5,6] (fun v5 v6 wr=>∃(i:Nat) (v:Vc) (k:Int),i≤n∧v6=.int .i64 i∧v5=.int .i64 k∧rtF h l i=(v,k)∧RS w wr w.heap.size (w.heap.size+1) e h a n c l v) (fun _ v6 _=>n-(intOf v6).toNat)
 case atStart=>exact⟨0,ownV h,-1,by omega,rfl,rfl,rfl,S2.out⟩
 case round=>
  obtain⟨i,v,k,hi,rfl,rfl,hF,hS⟩:=hrel;have hin0:(0:Int)≤(i:Int):=by omega
  have d16:=hS.var.t16;by_cases hit:i<n
  ·have hin1:(i:Int)<(n:Int):=by omega
   obtain⟨b,o,rfl⟩:=hS.sl.some' (by omega);have hno:=z_ic hF;have hyes:=z_do hF;have hkr:=x_d h l i;rw[hF] at hkr;simp only at hkr;obtain⟨p,hp⟩:∃p,gtP l i=p:=⟨_,rfl⟩;have T:Hid (RS w wr w.heap.size (w.heap.size+1) e h (some ⟨b,o,none⟩) n c l v∧gtP l i=p∧(-1≤k∧k<i)):=⟨hS,hp,hkr⟩;rw[hp] at hno hyes;have lt:=hS.var.tld;have NO:Hid (_→_):=hno;have YES:Hid (_→_):=hyes;clear hS hp hno hyes hF hkr
   go_wp2_with fail
   refine (z_hI h _ n c i l wr T.out.1.sl hn hit).mono ?_;rintro _ V1 ⟨rfl,b1⟩;rw[T.out.2.1];obtain⟨V3,s3,r3,b3,z3⟩:=z_cn V1 (canV h p);obtain⟨cb,hcb⟩:∃z,V1.heap.size=z:=⟨_,rfl⟩;rw[hcb] at s3 r3;have T1:Hid (RS w V3 w.heap.size (w.heap.size+1) e h (some ⟨b,o,none⟩) n c l v∧gtP l i=p∧(-1≤k∧k<i)∧RvAt V3 cb 36 (canV h p).cs):=⟨(T.out.1.below b1).below b3,T.out.2.1,T.out.2.2,r3⟩
   clear T b1 lt r3 b3 z3 d16;cases hB:ldB h p
   ·rw[hB] at NO YES;have NO1:Hid (rtF h l (i+1)=(v,k)):=NO.out rfl;clear NO YES hB;go_wp2
    go_roundw
    case rel=>exact⟨i+1,v,k,by omega,by go_num,rfl,NO1.out,T1.out.1⟩
    case measure=>simp[intOf];omega
   have hcan:canV h p=addV p:=by unfold canV;rw[if_pos hB]
   rw[hB] at NO YES;rw[hcan] at T1 s3 ⊢;clear hB hcan;obtain⟨u,hu⟩:∃u,addV p=u:=⟨_,rfl⟩;rw[hu] at NO YES T1 s3 ⊢;clear hu;obtain⟨N,hN⟩:∃N,cmp u v=N:=⟨_,rfl⟩;have IN:Hid (N=-1∨N=0∨N=1):=by rw[←hN];exact z_ir u v
   have EN:Hid (cmp u v=N):=hN;have P1:Hid (∀q:Later V3,_):=fun q:Later V3=>v_X u v q.val;rw[z_kv,hN] at P1;have EV:Hid (u.eq v=decide (N=0)):=by
    have:u.eq v=decide (N=0):=by
     rw[Bool.eq_iff_iff,Row.eq_iff,← z_hx,hN];simp
    exact this
   clear hN;have lu:=fun q:Later V3=>(T1.out.2.2.2.below q.below).vld;have lv:=fun q:Later V3=>(T1.out.1.root.below q.below).vld;have f16:=fun q:Later V3=>(T1.out.1.var.below q.below).t16;rcases IN.out with rfl | rfl | rfl
   ·have Y:Hid (rtF h l (i+1)=(u,(i:Int))):=YES.out (z_cK EN.out);have ev:=EV.out;rw[show decide ((-1:Int)=0)=false from rfl] at ev;rw[show decide ((-1:Int)=-1)=true from rfl] at P1;clear YES NO EV
    go_wp2_with fail
    refine wp_region_later (by kernel_rfl) (by kernel_rfl) ?_
    repeat (go_big_quiet_step (first|exact rfl | (go_at_call 148;with_reducible exact Calls.later_of (P1.out _))))
    refine wpQuiet_nil ?_;intro _ hw';obtain⟨z,rfl⟩:=hw';clear lu lv f16;have lu:=(T1.out.2.2.2.below z.below).vld;obtain⟨V5,s5,S5⟩:=(T1.out.1.below z.below).st u;have HS5:Hid (RS w V5 w.heap.size (w.heap.size+1) e h (some ⟨b,o,none⟩) n c l u):=S5;clear S5;go_wp2
    go_roundw
    case rel=>exact⟨i+1,u,i,by omega,by go_num,rfl,Y.out,HS5.out⟩
    case measure=>simp[intOf];omega
   ·have ev:=EV.out;rw[show decide ((0:Int)=0)=true from rfl] at ev;rw[show decide ((0:Int)=-1)=false from rfl] at P1;by_cases hk:k=-1
    ·have N1:Hid (rtF h l (i+1)=(v,k)):=NO.out (by rw[hk];exact z_hY EN.out);clear YES NO EV;subst hk
     go_wp2_with fail
     refine wp_region_later (by kernel_rfl) (by kernel_rfl) ?_
     repeat (go_big_quiet_step (first|exact rfl | (go_at_call 148;with_reducible exact Calls.later_of (P1.out _))))
     refine wpQuiet_nil ?_;intro _ hw';obtain⟨z,rfl⟩:=hw';clear lu lv f16;go_wp2
     go_roundw
     case rel=>exact⟨i+1,v,-1,by omega,by go_num,rfl,N1.out,T1.out.1.below z.below⟩
     case measure=>simp[intOf];omega
    ·have hk0:0≤k:=by have:=T1.out.2.2.1;omega
     obtain⟨kn,rfl⟩:=Int.eq_ofNat_of_zero_le hk0;have hkn:kn<n:=by have:=T1.out.2.2.1;omega
     have hk1:(kn:Int)<(n:Int):=by omega
     have hlk:=z_k (l:=l) (i:=kn) (by rw[HL.out];exact hkn);have hli:=z_k (l:=l) (i:=i) (by rw[HL.out];exact hit);rw[T1.out.2.1] at hli;have fk:=fun q:Later V3=>(T1.out.1.sl.below q.below).cell hlk ((gtP l kn).num (j:=0) (k:=.u16) rfl) (by omega);have f0:=fun q:Later V3=>(T1.out.1.sl.below q.below).cell hli (p.num (j:=0) (k:=.u16) rfl) (by omega);simp only[Nat.add_zero] at fk f0
     have YY:Hid (p.nm 0<(gtP l kn).nm 0→rtF h l (i+1)=(u,(i:Int))):=fun hx=>YES.out (z_hX EN.out hx);have NY:Hid (¬ p.nm 0<(gtP l kn).nm 0→rtF h l (i+1)=(v,(kn:Int))):=fun hx=>NO.out (z_kJ EN.out hx);clear NO YES EV;obtain⟨kid,hkid⟩:∃z,(gtP l kn).nm 0=z:=⟨_,rfl⟩;obtain⟨pid,hpid⟩:∃z,p.nm 0=z:=⟨_,rfl⟩;rw[hkid] at fk YY NY;rw[hpid] at f0 YY NY;clear hkid hpid hlk hli;by_cases hlt:pid<kid
     ·have Y:Hid (rtF h l (i+1)=(u,(i:Int))):=YY.out hlt;clear YY NY
      go_wp2_with fail
      refine wp_region_later (by kernel_rfl) (by kernel_rfl) ?_
      repeat (go_big_quiet_step (first|exact rfl | (go_at_call 148;with_reducible exact Calls.later_of (P1.out _))))
      refine wpQuiet_nil ?_;intro _ hw';obtain⟨z,rfl⟩:=hw';clear f0 fk f16 lu lv;have lu:=(T1.out.2.2.2.below z.below).vld;obtain⟨V5,s5,S5⟩:=(T1.out.1.below z.below).st u;have HS5:Hid (RS w V5 w.heap.size (w.heap.size+1) e h (some ⟨b,o,none⟩) n c l u):=S5;clear S5;go_wp2
      go_roundw
      case rel=>exact⟨i+1,u,i,by omega,by go_num,rfl,Y.out,HS5.out⟩
      case measure=>simp[intOf];omega
     ·have N1:Hid (rtF h l (i+1)=(v,(kn:Int))):=NY.out hlt;clear YY NY
      go_wp2_with fail
      refine wp_region_later (by kernel_rfl) (by kernel_rfl) ?_
      repeat (go_big_quiet_step (first|exact rfl | (go_at_call 148;with_reducible exact Calls.later_of (P1.out _))))
      refine wpQuiet_nil ?_;intro _ hw';obtain⟨z,rfl⟩:=hw';clear f0 fk f16 lu lv;go_wp2
      go_roundw
      case rel=>exact⟨i+1,v,kn,by omega,by go_num,rfl,N1.out,T1.out.1.below z.below⟩
      case measure=>simp[intOf];omega
   ·have N1:Hid (rtF h l (i+1)=(v,k)):=NO.out (z_cJ EN.out);have ev:=EV.out;rw[show decide ((1:Int)=0)=false from rfl] at ev;rw[show decide ((1:Int)=-1)=false from rfl] at P1;clear YES NO EV
    go_wp2_with fail
    refine wp_region_later (by kernel_rfl) (by kernel_rfl) ?_
    repeat (go_big_quiet_step (first|exact rfl | (go_at_call 148;with_reducible exact Calls.later_of (P1.out _))))
    refine wpQuiet_nil ?_;intro _ hw';obtain⟨z,rfl⟩:=hw';clear lu lv f16;go_wp2
    go_roundw
    case rel=>exact⟨i+1,v,k,by omega,by go_num,rfl,N1.out,T1.out.1.below z.below⟩
    case measure=>simp[intOf];omega
  ·have hin:i=n:=by omega
   subst hin;have hin1:¬ (i:Int)<(i:Int):=by omega
   rw[NN.out] at hF;obtain⟨rfl,rfl⟩:RV=v∧RK=k:=by simpa using hF
   have lv:=hS.root.vld;obtain⟨U,sU,rU,bU⟩:=hS.tell;have F:Hid (RvAt U (w.heap.size+1) 36 RV.cs∧Below w.heap.size w U):=⟨rU,bU⟩;clear hS rU bU hF
   go_wp2_with (with_reducible exact u_W results111 (by with_unfolding_all rfl) (by with_unfolding_all rfl) (by with_unfolding_all rfl) F.out.1 ⟨rfl,F.out.2⟩)
end S12
end
section
namespace S12
open Go.RowKit
attribute [local go_sem ↓] ldP stP ldT stT ldV stV alP
attribute [local go_sem] z_l
theorem z_cd (h:Hd) (a:Option Addr) (n c:Nat) (l:List Pt) (w:World) (hs:SlAt w a n c l) (hn:n≤1000) :
  Calls prog 183 #[.agg (trc h (.slice a n c))] w fun r w'=>r=.returned (.tuple #[.agg (rooV h l).cs,.int .i64 (rooK h l)])∧Below w.heap.size w w':=by
 obtain⟨W,hW,r0,r1,bW,zW⟩:=z_cG w h (.slice a n c);have c0:=r0.tnum (j:=0) (k:=.u64) rfl;have H:=hd6 r0 r1 (hs.below bW) bW zW hs.len;clear hs r0 r1 bW zW;have NN:Hid (rtF h l n=(rooV h l,rooK h l)):=by unfold rooV rooK;rw[H.out.2.2.2.2.2];exact rfl
 obtain⟨RV,hRV⟩:∃z,rooV h l=z:=⟨_,rfl⟩;obtain⟨RK,hRK⟩:∃z,rooK h l=z:=⟨_,rfl⟩;rw[hRV,hRK] at NN ⊢;clear hRV hRK;go_enter func183,ntmps183
 go_wp2_with fail
 go_step3
 go_wp2_with fail
 refine (z_jD h W).mono ?_;rintro _ W1 ⟨rfl,b1⟩;obtain⟨W2,s2,r2,b2,z2⟩:=z_cn W1 (ownV h)
 have S2:Hid (RS w W2 w.heap.size (w.heap.size+1) W1.heap.size h a n c l (ownV h)):=⟨(H.out.1.below b1).below b2,(H.out.2.1.below b1).below b2,r2,(H.out.2.2.1.below b1).below b2,z_a (z_a H.out.2.2.2.1 b1) b2,Nat.le_refl _,by omega,by have:=H.out.2.2.2.2.1;have:=b1.size;omega,by have:=H.out.2.2.2.2.1;have:=b1.size;omega,by have:=H.out.2.2.2.2.1;have:=b1.size;omega⟩
 obtain⟨e,he⟩:∃e,W1.heap.size=e:=⟨_,rfl⟩;rw[he] at s2 S2;have HL:=hd1 H.out.2.2.2.2.2;have d16:=S2.out.var.t16;clear r2 b2 z2 b1 H c0 hW
 go_wp2_with fail
 go_step3
 go_wp2_with fail
 go_loopw [5,15] (fun v5 v15 wr=>∃(i:Nat) (v:Vc) (k:Int),i≤n∧v15=.int .i64 i∧v5=.int .i64 k∧rtF h l i=(v,k)∧RS w wr w.heap.size (w.heap.size+1) e h a n c l v) (fun _ v15 _=>n-(intOf v15).toNat)
 case atStart=>exact⟨0,ownV h,-1,by omega,rfl,rfl,rfl,S2.out⟩
 case round=>
  obtain⟨i,v,k,hi,rfl,rfl,hF,hS⟩:=hrel;have hin0:(0:Int)≤(i:Int):=by omega
  by_cases hit:i<n
  ·have hin1:(i:Int)<(n:Int):=by omega
   obtain⟨b,o,rfl⟩:=hS.sl.some' (by omega);have hl:=z_k (l:=l) (i:=i) (by rw[HL.out];exact hit);have lp:=hS.sl.ld hl;have hno:=z_ic hF;have hyes:=z_do hF;have hkr:=x_d h l i;rw[hF] at hkr;simp only at hkr;obtain⟨p,hp⟩:∃p,gtP l i=p:=⟨_,rfl⟩;rw[hp] at lp hno hyes;obtain⟨V,sV,rV,bV,zV⟩:=z_bC wr p;have T:=hd3 (hS.below bV) rV hkr;have lt:=T.out.1.var.tld;have lpv:=T.out.2.1.pld;have NO:=hd1 hno
   have YES:=hd1 hyes;clear hS hl hp hno hyes rV bV zV hF hkr d16;obtain⟨pb,hpb⟩:∃z,wr.heap.size=z:=⟨_,rfl⟩;rw[hpb] at T lpv sV
   go_wp2_with fail
   refine (z_ew h _ p V).mono ?_;rintro _ V1 ⟨rfl,b1⟩;have T1:=hd3 (T.out.1.below b1) (T.out.2.1.below b1) T.out.2.2;have c36:=T1.out.2.1.ppri;have c1:=T1.out.2.1.num (j:=1) (k:=.u32) rfl;clear T b1 lt lpv sV lp hpb;cases hB:ldB h p
   ·rw[hB] at NO YES;have NO1:Hid (rtF h l (i+1)=(v,k)):=NO.out rfl;clear NO YES hB;go_wp2
    go_roundw
    case rel=>exact⟨i+1,v,k,by omega,by go_num,rfl,NO1.out,T1.out.1⟩
    case measure=>simp[intOf];omega
   rw[hB] at NO YES;clear hB
   go_wp2_with fail
   refine (z_kD p V1).mono ?_;rintro _ V2 ⟨rfl,b2⟩;obtain⟨u,hu⟩:∃u,addV p=u:=⟨_,rfl⟩;rw[hu] at NO YES ⊢;clear hu;obtain⟨V3,s3,r3,b3,z3⟩:=z_cn V2 u;have T3:Hid (RS w V3 w.heap.size (w.heap.size+1) e h (some ⟨b,o,none⟩) n c l v∧RvAt V3 pb 74 p.cs∧(-1≤k∧k<i)∧RvAt V3 V2.heap.size 36 u.cs):=⟨(T1.out.1.below b2).below b3,(T1.out.2.1.below b2).below b3,T1.out.2.2,r3⟩
   obtain⟨cb,hcb⟩:∃z,V2.heap.size=z:=⟨_,rfl⟩;rw[hcb] at T3 s3;have lu:=T3.out.2.2.2.vld;have lv:=T3.out.1.root.vld;clear T1 c36 c1 r3 b3 z3 b2
   go_wp2_with fail
   refine (z_aU u v V3).mono ?_;rintro _ V4 ⟨rfl,b4⟩;have T4:=hd4 (T3.out.1.below b4) (T3.out.2.1.below b4) T3.out.2.2.1 (T3.out.2.2.2.below b4);clear T3 lu lv s3 b4 hcb;obtain⟨N,hN⟩:∃N,cmp u v=N:=⟨_,rfl⟩;rw[show cmpV (v4 u) (v4 v)=N from hN];have IN:Hid (N=-1∨N=0∨N=1):=by rw[←hN];exact z_ir u v
   have EN:=hd1 hN;clear hN;have lu:=T4.out.2.2.2.vld;obtain⟨V5,s5,S5⟩:=T4.out.1.st u;have HS5:=hd1 S5;clear S5;rcases IN.out with rfl | rfl | rfl
   ·have Y:=hd1 (YES.out (z_cK EN.out));clear YES NO;go_wp2
    go_roundw
    case rel=>exact⟨i+1,u,i,by omega,by go_num,rfl,Y.out,HS5.out⟩
    case measure=>simp[intOf];omega
   ·by_cases hk:k=-1
    ·have N1:Hid (rtF h l (i+1)=(v,k)):=NO.out (by rw[hk];exact z_hY EN.out);clear YES NO;subst hk;clear s5 HS5 lu;have f0:=fun q:Later V4=>(T4.out.2.1.below q.below).num (j:=0) (k:=.u16) rfl
     go_wp2_with fail
     refine wp_region_later (by kernel_rfl) (by kernel_rfl) ?_
     repeat (go_big_quiet_step (first|exact rfl))
     refine wpQuiet_nil ?_;intro _ hw';obtain⟨z,rfl⟩:=hw';clear f0;go_wp2
     go_roundw
     case rel=>exact⟨i+1,v,-1,by omega,by go_num,rfl,N1.out,T4.out.1.below z.below⟩
     case measure=>simp[intOf];omega
    ·have hk0:0≤k:=by have:=T4.out.2.2.1;omega
     obtain⟨kn,rfl⟩:=Int.eq_ofNat_of_zero_le hk0;have hkn:kn<n:=by have:=T4.out.2.2.1;omega
     have hk1:(kn:Int)<(n:Int):=by omega
     have hkb:((kn:Int)==-1)=false:=by simp
     have f0:=fun q:Later V4=>(T4.out.2.1.below q.below).num (j:=0) (k:=.u16) rfl;have f16:=fun q:Later V4=>(T4.out.1.var.below q.below).t16;have hlk:=z_k (l:=l) (i:=kn) (by rw[HL.out];exact hkn);have fk:=fun q:Later V4=>(T4.out.1.sl.below q.below).cell hlk ((gtP l kn).num (j:=0) (k:=.u16) rfl) (by omega);simp only[Nat.add_zero] at fk
     have YY:Hid (p.nm 0<(gtP l kn).nm 0→rtF h l (i+1)=(u,(i:Int))):=fun hx=>YES.out (z_hX EN.out hx);have NY:Hid (¬ p.nm 0<(gtP l kn).nm 0→rtF h l (i+1)=(v,(kn:Int))):=fun hx=>NO.out (z_kJ EN.out hx);clear NO YES;obtain⟨kid,hkid⟩:∃z,(gtP l kn).nm 0=z:=⟨_,rfl⟩;obtain⟨pid,hpid⟩:∃z,p.nm 0=z:=⟨_,rfl⟩;rw[hkid] at fk YY NY;rw[hpid] at f0 YY NY;clear hkid hpid hlk;by_cases hlt:pid<kid
     ·have Y:=hd1 (YY.out hlt);have hge:¬ kid≤pid:=by omega
      clear YY NY;have HLU:=hd1 T4.out.2.2.2;clear lu s5 HS5
      go_wp2_with fail
      refine wp_region_later (by kernel_rfl) (by kernel_rfl) ?_
      repeat (go_big_quiet_step (first|exact rfl))
      refine wpQuiet_nil ?_;intro _ hw';obtain⟨z,rfl⟩:=hw';clear f0 f16 fk;have lu:=(HLU.out.below z.below).vld;obtain⟨V5,s5,S5⟩:=(T4.out.1.below z.below).st u;have HS5:=hd1 S5;clear S5;go_wp2
      go_roundw
      case rel=>exact⟨i+1,u,i,by omega,by go_num,rfl,Y.out,HS5.out⟩
      case measure=>simp[intOf];omega
     ·have N1:=hd1 (NY.out hlt);have hge:kid≤pid:=by omega
      clear YY NY lu s5 HS5
      go_wp2_with fail
      refine wp_region_later (by kernel_rfl) (by kernel_rfl) ?_
      repeat (go_big_quiet_step (first|exact rfl))
      refine wpQuiet_nil ?_;intro _ hw';obtain⟨z,rfl⟩:=hw';clear f0 f16 fk;go_wp2
      go_roundw
      case rel=>exact⟨i+1,v,kn,by omega,by go_num,rfl,N1.out,T4.out.1.below z.below⟩
      case measure=>simp[intOf];omega
   ·have N1:=hd1 (NO.out (z_cJ EN.out));clear YES NO s5 HS5;go_wp2
    go_roundw
    case rel=>exact⟨i+1,v,k,by omega,by go_num,rfl,N1.out,T4.out.1⟩
    case measure=>simp[intOf];omega
  ·have hin:i=n:=by omega
   subst hin;have hin1:¬ (i:Int)<(i:Int):=by omega
   rw[NN.out] at hF;obtain⟨rfl,rfl⟩:RV=v∧RK=k:=by simpa using hF
   have lv:=hS.root.vld;obtain⟨U,sU,rU,bU⟩:=hS.tell;have F:=hd2 rU bU;clear hS rU bU hF
   go_wp2_with (with_reducible exact u_W results183 rfl rfl rfl F.out.1 ⟨rfl,F.out.2⟩)
end S12
end
section
namespace S12
open Go.RowKit
attribute [local go_sem ↓] ldP stP ldT stT apE st32
attribute [local go_sem] v_o z_ad
end S12
end
section
namespace S12
open Go.RowKit
theorem w16:(Lit.int .u16 0).wf=true:=by decide
def hdA (h:Hd) (v:Vc):Hd:=((h.put 8 v hq8 hl8).setH 7 0).put 12 (tOfH h) hq12 hl12
theorem z_eE {h:Hd} {l:List Pt} (e:rooK h l=-1):hdA h (rooV h l)=hdS h l:=by
 unfold hdA hdS;rw[show ridN h l=0 by simp[ridN,e],show rtmT h l=tOfH h by simp[rtmT,e]]
theorem z_bJ {h:Hd} {l:List Pt} {k:Nat} (e:rooK h l=(k:Int)):((hdA h (rooV h l)).setH 7 ((gtP l k).nm 0)).put 12 (oldT (priT (gtP l k))) hq12 hl12=hdS h l:=by
 have hw:(Lit.int .u16 ((gtP l k).nm 0)).wf=true:=(gtP l k).nwf (j:=0) rfl;have hk:¬ ((k:Int)=-1):=by omega
 unfold hdA hdS;rw[show ridN h l=(gtP l k).nm 0 by simp[ridN,e],show rtmT h l=oldT (priT (gtP l k)) by simp[rtmT,e]];refine Row.same fun i _=>?_;rw[Row.put_get,Row.setH_get _ kh7 hw,Row.put_get,Row.setH_get _ kh7 w16,Row.put_get,Row.put_get,Row.setH_get _ kh7 hw,Row.put_get,lenT,lenV];by_cases h1:12≤i∧i<12+4
 ·simp only[if_pos h1]
 ·by_cases h2:i=7
  ·simp only[if_neg h1,if_pos h2]
  ·simp only[if_neg h1,if_neg h2]
theorem z_iM (H:Hd) (k:Int) (l:List Pt):((l.map (telP H)).mapIdx fun i p=>asgP H (isK k i) p)=l.mapIdx fun i p=>selP H (isK k i) p:=by
 refine List.ext_getElem? fun j=>?_;rw[List.getElem?_mapIdx,List.getElem?_mapIdx,List.getElem?_map,Option.map_map];rfl
structure QS (w W:World) (h:Hd) (x:Value):Prop where
 var:RvAt W w.heap.size 39 (trc h x)
 out:RvAt W (w.heap.size+1) 39 (trc zeroH (.slice none 0 0))
 bel:Below w.heap.size w W
theorem QS.below {w W V:World} {h:Hd} {x:Value} (s:QS w W h x) (k:Below W.heap.size W V):QS w V h x:=⟨s.var.below k,s.out.below k,z_a s.bel k⟩
theorem QS.go {w W V:World} {h h':Hd} {x x':Value} (s:QS w W h x) (r:RvAt V w.heap.size 39 (trc h' x')) (g:W.grownBy V (some w.heap.size)):QS w V h' x':=
 ⟨r,s.out.keptBut g (by simp),gro s.bel g (Nat.le_refl _) s.bel.size⟩
theorem QS.put {w W:World} {h:Hd} {x:Value} {o:Nat} {tv:TypeId} {ks':List (Option IntKind)} (s:QS w W h x) (r:Row ks') (hk:(kdH.drop o).take ks'.length=ks') (hl:o+ks'.length≤kdH.length) (hi:(prog.info? tv).map (·.size)=some ks'.length) :
  ∃V,(stS tv (.pointer (some ⟨w.heap.size,o,none⟩)) (.agg r.cs)).run prog W=.ok () V∧QS w V (h.put o r hk hl) x∧W.grownBy V (some w.heap.size):=by
 obtain⟨V,e,rV,g⟩:=s.var.tput r hk hl hi;exact⟨V,e,s.go rV g,g⟩
theorem QS.setH {w W:World} {h:Hd} {x:Value} (s:QS w W h x) {n:Int} (hw:(Lit.int .u16 n).wf=true) :
  ∃V,(stS 33 (.pointer (some ⟨w.heap.size,7,none⟩)) (.int .u16 n)).run prog W=.ok () V∧QS w V (h.setH 7 n) x∧W.grownBy V (some w.heap.size):=by
 obtain⟨V,e,rV,g⟩:=s.var.tsetH hw;exact⟨V,e,s.go rV g,g⟩
structure QA (w W:World) (h:Hd) (a:Option Addr) (n c:Nat) (l:List Pt):Prop where
 q:QS w W h (.slice a n c)
 sl:SlAt W a n c l
theorem QA.put {w W:World} {h:Hd} {a:Option Addr} {n c:Nat} {l:List Pt} {o:Nat} {tv:TypeId} {ks':List (Option IntKind)} (s:QA w W h a n c l) (r:Row ks') (hk:(kdH.drop o).take ks'.length=ks') (hl:o+ks'.length≤kdH.length) (hi:(prog.info? tv).map (·.size)=some ks'.length) :
  ∃V,(stS tv (.pointer (some ⟨w.heap.size,o,none⟩)) (.agg r.cs)).run prog W=.ok () V∧QA w V (h.put o r hk hl) a n c l∧W.grownBy V (some w.heap.size):=by
 obtain⟨V,e,rV,g⟩:=s.q.put r hk hl hi;exact⟨V,e,⟨rV,s.sl.keptT s.q.var g⟩,g⟩
theorem QA.setH {w W:World} {h:Hd} {a:Option Addr} {n c:Nat} {l:List Pt} (s:QA w W h a n c l) {m:Int} (hw:(Lit.int .u16 m).wf=true) :
  ∃V,(stS 33 (.pointer (some ⟨w.heap.size,7,none⟩)) (.int .u16 m)).run prog W=.ok () V∧QA w V (h.setH 7 m) a n c l∧W.grownBy V (some w.heap.size):=by
 obtain⟨V,e,rV,g⟩:=s.q.setH hw;exact⟨V,e,⟨rV,s.sl.keptT s.q.var g⟩,g⟩
theorem QA.below {w W V:World} {h:Hd} {a:Option Addr} {n c:Nat} {l:List Pt} (s:QA w W h a n c l) (k:Below W.heap.size W V):QA w V h a n c l:=⟨s.q.below k,s.sl.below k⟩
theorem QS.ports {w W V:World} {h:Hd} {x:Value} (s:QS w W h x) {a:Option Addr} (g:W.grownBy V (blk a)) (hg:∀b,blk a=some b→w.heap.size+2≤b):QS w V h x:=by
 refine⟨s.var.keptBut g (fun e=>?_),s.out.keptBut g (fun e=>?_),s.bel.trans (z_h g s.bel.size (fun j e=>by have:=hg j e;omega))⟩
 ·have:=hg _ e.symm;omega
 ·have:=hg _ e.symm;omega
attribute [local go_sem ↓] ldP stP ldT stT ldV stV ldTm stTm st16 st32
theorem v_L (h:Hd) (a:Option Addr) (n c:Nat) (l:List Pt) (w:World) (hs:SlAt w a n c l) (hn:n≤1000) :
  Calls prog 139 #[.agg (trc h (.slice a n c))] w fun r w'=>∃a' c',r=.returned (.agg (trc (hdS h l) (.slice a' n c')))∧SlAt w' a' n c' (selL h l)∧Below w.heap.size w w'∧Nw w a':=by
 obtain⟨W,hW,r0,r1,bW,zW⟩:=z_w w h (.slice a n c);have l0:=r0.tld;have H:Hid (QA w W h a n c l∧W.heap.size=w.heap.size+2∧l.length=n):=⟨⟨⟨r0,r1,bW⟩,hs.below bW⟩,zW,hs.len⟩;clear hs r0 r1 bW zW;have E1:Hid (rooK h l=-1→hdA h (rooV h l)=hdS h l):=z_eE;have E2:Hid (∀k:Nat,rooK h l=(k:Int)→((hdA h (rooV h l)).setH 7 ((gtP l k).nm 0)).put 12 (oldT (priT (gtP l k))) hq12 hl12=hdS h l):=fun k=>z_bJ
 have E3:Hid (((l.map (telP (hdS h l))).mapIdx fun i p=>asgP (hdS h l) (isK (rooK h l) i) p)=selL h l):=z_iM _ _ _;have KR:Hid (-1≤rooK h l∧rooK h l<n):=by have:=x_d h l l.length;rw[←H.out.2.2];exact this
 have C:Hid _:=z_cd h a n c l W H.out.1.sl hn;obtain⟨K,hK⟩:∃z,rooK h l=z:=⟨_,rfl⟩;obtain⟨v,hv⟩:∃z,rooV h l=z:=⟨_,rfl⟩;obtain⟨hS,hhS⟩:∃z,hdS h l=z:=⟨_,rfl⟩;obtain⟨lS,hlS⟩:∃z,selL h l=z:=⟨_,rfl⟩;rw[hK,hv,hhS] at E1 E2;rw[hK,hhS,hlS] at E3;rw[hK] at KR;rw[hK,hv] at C;rw[hhS,hlS];clear hK hv hhS hlS;go_enter func139,ntmps139
 go_wp2_with fail
 refine Calls.mono C.out ?_;rintro _ W1 ⟨rfl,b1⟩;obtain⟨W2,s2,r2,b2,z2⟩:=z_cn W1 v;have lv:=r2.vld;have Q2:=(H.out.1.below b1).below b2;have tT:=Q2.q.var.tT;obtain⟨V1,e1,Q3,g3⟩:=Q2.put (tv:=36) v hq8 hl8 infoV;obtain⟨V2,e2,Q4,g4⟩:=Q3.setH w16;obtain⟨V3,e3,Q5,g5⟩:=Q4.put (tv:=24) (tOfH h) hq12 hl12 infoTm
 change QA w V3 (hdA h v) a n c l at Q5
 have Q:Hid (QA w V3 (hdA h v) a n c l∧w.heap.size+2≤V3.heap.size∧l.length=n):=⟨Q5,by have:=b1.size;have:=b2.size;have:=g3.size;have:=g4.size;have:=g5.size;have:=H.out.2.1;omega,H.out.2.2⟩;clear r2 b2 z2 b1 Q2 Q3 g3 Q4 g4 Q5 g5 H C l0 hW;by_cases hk:K=-1
 ·have EH:=E1.out hk;rw[EH] at Q;subst hk;have d16:=Q.out.1.q.var.t16;clear EH
  go_wp2_with fail
  refine (y_F a n c l V3 Q.out.1.sl hn).mono ?_;rintro _ X1 ⟨x,rfl,o1,b1⟩;obtain⟨a',c',hx,PAx,hga⟩:=PA.of o1;rw[Q.out.2.2] at hx PAx;subst hx;obtain⟨X2,t2,rX2,gX2⟩:=(Q.out.1.q.below b1).var.tset (y:=.slice a' n c') rfl;have G2:Hid (QS w X2 hS (.slice a' n c')∧PA X2 a' n c' l∧∀b,blk a'=some b→w.heap.size+2≤b):=by
   refine⟨(Q.out.1.q.below b1).go rX2 gX2,PAx.kept gX2 (fun b hb=>?_),fun b hb=>?_⟩
   ·have:=hga b hb;have:=Q.out.2.1;simp;omega
   ·have:=hga b hb;have:=Q.out.2.1;omega
  have lX:=G2.out.1.var.tld;clear o1 b1 PAx hga rX2 gX2 Q d16
  go_wp2_with fail
  refine (z_bf hS a' n c' l X2 G2.out.2.1 hn).mono ?_;rintro _ X3 ⟨rfl,pa3,g3⟩;have G3:Hid (QS w X3 hS (.slice a' n c')∧PA X3 a' n c' (l.map (telP hS))∧∀b,blk a'=some b→w.heap.size+2≤b):=⟨G2.out.1.ports g3 G2.out.2.2,pa3,G2.out.2.2⟩;have lX3:=G3.out.1.var.tld;clear pa3 g3 G2 lX t2
  go_wp2_with fail
  refine (v_Y hS a' n c' _ (l.map (telP hS)) X3 G3.out.2.1 hn).mono ?_;rintro _ X4 ⟨rfl,pa4,g4⟩;rw[E3.out] at pa4;have S4:=G3.out.1.ports g4 G3.out.2.2;have lX4:=S4.var.tld;obtain⟨U,sU,rU,gU⟩:=S4.out.tst (g:=hS) (y:=.slice a' n c') rfl
  have F:Hid (RvAt U (w.heap.size+1) 39 (trc hS (.slice a' n c'))∧SlAt U a' n c' lS∧Below w.heap.size w U):=⟨rU,pa4.sl.keptT S4.out gU,gro S4.bel gU (by omega) S4.bel.size⟩;have FR:Hid (Nw w a'):=fun x hx=>by
   have h1:=G3.out.2.2;subst hx;have:=h1 x.block rfl;omega
  clear pa4 g4 S4 rU gU G3 lX3;go_wp2
  refine bodyPost_ret (z_e rtT results139 _ _ _ _ rfl F.out.1 (z_c _ _)) rfl ?_;exact⟨a',c',rfl,F.out.2.1,F.out.2.2,FR.out⟩
 ·have hk0:0≤K:=by have:=KR.out;omega
  have hkb:(K==-1)=false:=by simpa using hk
  obtain⟨k,rfl⟩:=Int.eq_ofNat_of_zero_le hk0;have hkn:k<n:=by have:=KR.out;omega
  have hk1:(k:Int)<(n:Int):=by omega
  have EH:Hid _:=E2.out k rfl;obtain⟨b,o,rfl⟩:=Q.out.1.sl.some' (by omega);have hlk:=z_k (l:=l) (i:=k) (by rw[Q.out.2.2];exact hkn);obtain⟨p,hp⟩:∃p,gtP l k=p:=⟨_,rfl⟩;rw[hp] at hlk EH;have f16:=fun z:Later V3=>(Q.out.1.q.var.below z.below).t16;have f0:=fun z:Later V3=>(Q.out.1.sl.below z.below).cell hlk (p.num (j:=0) (k:=.u16) rfl) (by omega);simp only[Nat.add_zero] at f0
  have f44:=fun z:Later V3=>(Q.out.1.sl.below z.below).part (q:=priT p) (j:=44) hlk rfl rfl (by omega) underlying24 rfl infoTm;have P1:Hid (∀z:Later V3,_):=fun z:Later V3=>z_ep (priT p) z.val;clear hp hlk
  go_wp2_with fail
  clear lv tT e1 e2 e3 s2;refine wp_region_later_tail 14 (by kernel_rfl) (by kernel_rfl) ?_;simp only[List.take_succ_cons,List.take_zero]
  repeat (go_big_quiet_step (first|exact rfl | (go_at_call 184;with_reducible exact Calls.later_of (P1.out _))))
  refine wpQuiet_nil ?_;intro z;simp only[List.drop_succ_cons,List.drop_zero];clear f16 f0 f44 P1;have R0:=Q.out.1.below z.below;obtain⟨V4,e4,R4,g4⟩:=R0.setH (m:=p.nm 0) (p.nwf (j:=0) rfl);obtain⟨V5,e5,R5,g5⟩:=R4.put (tv:=24) (oldT (priT p)) hq12 hl12 infoTm;rw[EH.out] at R5;have d16:=R5.q.var.t16
  have Q':Hid (QA w V5 hS (some ⟨b,o,none⟩) n c l∧w.heap.size+2≤V5.heap.size∧l.length=n):=⟨R5,by have:=z.below.size;have:=g4.size;have:=g5.size;have:=Q.out.2.1;omega,Q.out.2.2⟩;clear R0 R4 g4 R5 g5 Q EH
  go_wp2_with fail
  refine (y_F (some ⟨b,o,none⟩) n c l V5 Q'.out.1.sl hn).mono ?_;rintro _ X1 ⟨x,rfl,o1,b1⟩;have Q:=Q';clear Q';obtain⟨a',c',hx,PAx,hga⟩:=PA.of o1;rw[Q.out.2.2] at hx PAx;subst hx;obtain⟨X2,t2,rX2,gX2⟩:=(Q.out.1.q.below b1).var.tset (y:=.slice a' n c') rfl;have G2:Hid (QS w X2 hS (.slice a' n c')∧PA X2 a' n c' l∧∀b,blk a'=some b→w.heap.size+2≤b):=by
   refine⟨(Q.out.1.q.below b1).go rX2 gX2,PAx.kept gX2 (fun b hb=>?_),fun b hb=>?_⟩
   ·have:=hga b hb;have:=Q.out.2.1;simp;omega
   ·have:=hga b hb;have:=Q.out.2.1;omega
  have lX:=G2.out.1.var.tld;clear o1 b1 PAx hga rX2 gX2 Q d16
  go_wp2_with fail
  refine (z_bf hS a' n c' l X2 G2.out.2.1 hn).mono ?_;rintro _ X3 ⟨rfl,pa3,g3⟩;have G3:Hid (QS w X3 hS (.slice a' n c')∧PA X3 a' n c' (l.map (telP hS))∧∀b,blk a'=some b→w.heap.size+2≤b):=⟨G2.out.1.ports g3 G2.out.2.2,pa3,G2.out.2.2⟩;have lX3:=G3.out.1.var.tld;clear pa3 g3 G2 lX t2
  go_wp2_with fail
  refine (v_Y hS a' n c' _ (l.map (telP hS)) X3 G3.out.2.1 hn).mono ?_;rintro _ X4 ⟨rfl,pa4,g4⟩;rw[E3.out] at pa4;have S4:=G3.out.1.ports g4 G3.out.2.2;have lX4:=S4.var.tld;obtain⟨U,sU,rU,gU⟩:=S4.out.tst (g:=hS) (y:=.slice a' n c') rfl
  have F:Hid (RvAt U (w.heap.size+1) 39 (trc hS (.slice a' n c'))∧SlAt U a' n c' lS∧Below w.heap.size w U):=⟨rU,pa4.sl.keptT S4.out gU,gro S4.bel gU (by omega) S4.bel.size⟩;have FR:Hid (Nw w a'):=fun x hx=>by
   have h1:=G3.out.2.2;subst hx;have:=h1 x.block rfl;omega
  clear pa4 g4 S4 rU gU G3 lX3;go_wp2
  refine bodyPost_ret (z_e rtT results139 _ _ _ _ rfl F.out.1 (z_c _ _)) rfl ?_;exact⟨a',c',rfl,F.out.2.1,F.out.2.2,FR.out⟩
end S12
end
section
namespace S12
open Go.RowKit
structure PN (w W:World) (b:Nat) (q:Pt):Prop where
 var:RvAt W b 74 q.cs
 bel:Below w.heap.size w W
 hb:w.heap.size≤b
theorem PN.go {w W V:World} {b:Nat} {q r:Pt} (s:PN w W b q) (h:RvAt V b 74 r.cs) (g:W.grownBy V (some b)):PN w V b r:=⟨h,gro s.bel g s.hb s.bel.size,s.hb⟩
theorem PN.below {w W V:World} {b:Nat} {q:Pt} (s:PN w W b q) (k:Below W.heap.size W V):PN w V b q:=⟨s.var.below k,z_a s.bel k,s.hb⟩
theorem PN.setB {w W:World} {b j:Nat} {q:Pt} (s:PN w W b q) (h:kdP[j]?=some none) (x:Bool):∃V,(stS 4 (.pointer (some ⟨b,j,none⟩)) (.bool x)).run prog W=.ok () V∧PN w V b (q.setB j h x):=by
 obtain⟨V,e,h1,g⟩:=s.var.setB h x;exact⟨V,e,s.go h1 g⟩
theorem PN.setU {w W:World} {b j:Nat} {q:Pt} (s:PN w W b q) (h:kdP[j]?=some (some .u8)) {n:Int} (hn:0≤n∧n≤255):∃V,(stS 5 (.pointer (some ⟨b,j,none⟩)) (.int .u8 n)).run prog W=.ok () V∧PN w V b (q.setU j n):=by
 obtain⟨V,e,h1,g⟩:=s.var.setU h hn;exact⟨V,e,s.go h1 g⟩
theorem PN.setN {w W:World} {b j:Nat} {q:Pt} (s:PN w W b q) {t:TypeId} (ht:(prog.info? t).map (·.size)=some 1) (h:kdP[j]?=some (some .i64)) {n:Int} (hn:(Lit.int .i64 n).wf=true):∃V,(stS t (.pointer (some ⟨b,j,none⟩)) (.int .i64 n)).run prog W=.ok () V∧PN w V b (q.setN j h n hn):=by
 obtain⟨V,e,h1,g⟩:=s.var.rset (v:=.int .i64 n) ht (List.getElem?_eq_some_iff.1 h).1 rfl (z_z h hn);exact⟨V,e,s.go h1 g⟩
theorem PN.put {w W:World} {b o:Nat} {q:Pt} {tv:TypeId} {ks':List (Option IntKind)} (s:PN w W b q) (r:Row ks') (h:(kdP.drop o).take ks'.length=ks') (hl:o+ks'.length≤kdP.length) (hi:(prog.info? tv).map (·.size)=some ks'.length):∃V,(stS tv (.pointer (some ⟨b,o,none⟩)) (.agg r.cs)).run prog W=.ok () V∧PN w V b (q.put o r h hl):=by
 obtain⟨V,e,h1,g⟩:=s.var.rput r h hl hi;exact⟨V,e,s.go h1 g⟩
theorem PN.st {w W:World} {b:Nat} {q:Pt} (s:PN w W b q) (r:Pt):∃V,(stS 74 (.pointer (some ⟨b,0,none⟩)) (.agg r.cs)).run prog W=.ok () V∧PN w V b r:=by
 obtain⟨V,e,h1,g⟩:=s.var.pst (q:=r);exact⟨V,e,s.go h1 g⟩
theorem PN.new (W:World) (p:Pt):∃V,(stS 74 (.pointer (some ⟨W.heap.size,0,none⟩)) (.agg p.cs)).run prog (W.alloc (.cells zeroP.cs 74))=.ok () V∧PN W V W.heap.size p:=by
 obtain⟨V,e,r,b,z⟩:=z_bC W p;exact⟨V,e,r,b,Nat.le_refl _⟩
end S12
end
end Go.Proofs.YtlchejbggnbccaaGreat
