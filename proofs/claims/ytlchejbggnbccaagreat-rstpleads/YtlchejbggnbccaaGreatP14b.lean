/-
  Trees one of whose ports is changed: the walks of there, NewWhile, Prop and of the six deeds, each for every tree. And what follows from it here.
-/
import Derived.Test.YtlchejbggnbccaaGreatPbb
import Derived.Test.YtlchejbggnbccaaGreatP14a
import Derived.Deep.Cut
import Derived.Deep.CutRange
namespace Go.Proofs.YtlchejbggnbccaaGreat
set_option linter.unusedVariables false
set_option linter.unusedSimpArgs false
set_option maxRecDepth 4000
set_option maxHeartbeats 40000000
open _root_.Go.Proofs.Tryz
section
namespace S14
open Go.RowKit
attribute [local go_sem ↓] ldP stP stB ldT stT st32
theorem z_M (h:Hd) (a:Option Addr) (n c:Nat) (i:Int) (w:World) :
  Calls prog 168 #[.agg (trc h (.slice a n c)),.int .i64 i] w fun r w'=>r=.returned (.bool (decide (0≤i) && decide (i<n)))∧Below w.heap.size w w':=by
 obtain⟨W,hW,r0,bW,zW⟩:=y_S w h (.slice a n c);have c16:=r0.t16;have F:=hd1 bW;clear r0 bW zW;go_enter func168,ntmps168;by_cases h1:0≤i
 ·by_cases h2:i<(n:Int)
  ·go_wp2
   go_ret;exact⟨by simp[h1,h2],F.out⟩
  ·go_wp2
   go_ret;exact⟨by simp[h1,h2],F.out⟩
 ·go_wp2
  go_ret;exact⟨by simp;omega,F.out⟩
theorem x_n {h:Hd} {a:Option Addr} {n c k:Nat} {w:World} (hk:k<n) :
  Calls prog 168 #[.agg (trc h (.slice a n c)),.int .i64 (k:Int)] w fun r w'=>r=.returned (.bool true)∧Below w.heap.size w w':=
 (z_M h a n c k w).mono fun r w' ⟨hr,hb⟩=>⟨by rw[hr];simp;omega,hb⟩
theorem z_eU (x:Value) (V:World):(callFunc 216 #[x]).run prog V=.ok (.enter 216 #[x]) V:=by go_simp
theorem z_cr (x:Value) (V:World):(callFunc 247 #[x]).run prog V=.ok (.enter 247 #[x]) V:=by go_simp
theorem z_ag (x:Value) (V:World):(callFunc 250 #[x]).run prog V=.ok (.enter 250 #[x]) V:=by go_simp
theorem w_q (x:Value) (V:World):(callFunc 251 #[x]).run prog V=.ok (.enter 251 #[x]) V:=by go_simp
theorem v_B (x:Value) (V:World):(callFunc 252 #[x]).run prog V=.ok (.enter 252 #[x]) V:=by go_simp
theorem w_s (x:Value) (V:World):(callFunc 253 #[x]).run prog V=.ok (.enter 253 #[x]) V:=by go_simp
theorem z_kd (x y:Value) (V:World):(callFunc 279 #[x,y]).run prog V=.ok (.enter 279 #[x,y]) V:=by go_simp
theorem z_es (h:Hd) (a:Option Addr) (n c:Nat) (l:List Pt) (k:Nat) (w:World) (hs:SlAt w a n c l) (hn:n≤1000) (hk:k<n) :
  Calls prog 249 #[.agg (trc h (.slice a n c)),.int .i64 (k:Int)] w fun r w'=>TRes w h n (l.set k (nwP h (gtP l k))) r w':=by
 obtain⟨W,hW,r0,r1,bW,zW⟩:=z_w w h (.slice a n c);have l0:=r0.tld;have H:Hid (TS w W w.heap.size (w.heap.size+1) h (.slice a n c)∧SlAt W a n c l∧n≤1000∧k<n∧l.length=n):=⟨⟨r0,r1,bW,by omega⟩,hs.below bW,hn,hk,hs.len⟩;clear hs hn hk r0 r1 bW zW;have T:Hid _:=x_n (h:=h) (a:=a) (c:=c) (w:=W) H.out.2.2.2.1;go_enter func249,ntmps249
 go_wp2_with fail
 refine Calls.mono T.out ?_;rintro _ V ⟨rfl,bV⟩;have lV:=(H.out.1.below bV).var.tld;have K:=hd1 (H.out.1.below bV);have C:Hid _:=z_aW w.heap.size z_kd h a n c l k V (H.out.2.1.below bV) H.out.2.2.1 H.out.2.2.2.1 _ K.out.var;clear bV T l0
 go_wp2_with fail
 refine Calls.mono C.out ?_;rintro _ X ⟨a2,c2,rfl,s2,b2,f2⟩;have FR2:=hd1 (f2.up K.out.bel.size);clear f2;obtain⟨U,sU,h1,h2,gU⟩:=(K.out.below b2).tell (y:=.slice a2 n c2) rfl;have G:Hid (RvAt U (w.heap.size+1) 39 (trc h (.slice a2 n c2))∧SlAt U a2 n c2 (l.set k (nwP h (gtP l k)))∧Below w.heap.size w U):=⟨h1,s2.keptT (K.out.below b2).out gU,h2⟩;clear h1 h2 gU s2 b2 lV K C;go_wp2
 refine bodyPost_ret (z_e rtT results249 _ _ _ _ rfl G.out.1 (z_c _ _)) rfl ?_;exact⟨a2,c2,rfl,G.out.2.1,G.out.2.2,FR2.out⟩
theorem z_br (h:Hd) (a:Option Addr) (n c:Nat) (l:List Pt) (k:Nat) (w:World) (hs:SlAt w a n c l) (hn:n≤1000) (hk:k<n) :
  Calls prog 172 #[.agg (trc h (.slice a n c)),.int .i64 (k:Int)] w fun r w'=>TRes w h n (l.set k (quiP (gtP l k))) r w':=by
 obtain⟨W,hW,r0,r1,bW,zW⟩:=z_w w h (.slice a n c);have l0:=r0.tld;have H:Hid (TS w W w.heap.size (w.heap.size+1) h (.slice a n c)∧SlAt W a n c l∧n≤1000∧k<n∧l.length=n):=⟨⟨r0,r1,bW,by omega⟩,hs.below bW,hn,hk,hs.len⟩;clear hs hn hk r0 r1 bW zW;go_enter func172,ntmps172
 go_wp2_with fail
 refine (z_t _ _ z_fo z_eU h a n c (l) k W H.out.2.1 H.out.2.2.1 H.out.2.2.2.1).mono ?_;rintro _ X0 ⟨a0,c0,rfl,s0,b0,f0⟩;have FR0:=hd1 (f0.up H.out.1.bel.size);clear f0;have T0:Hid (TS w X0 w.heap.size (w.heap.size+1) h (.slice a n c)∧SlAt X0 a0 n c0 (l.set k (quiP (gtP l k)))):=⟨(H.out.1).below b0,s0⟩;clear s0 b0;obtain⟨U,sU,h1,h2,gU⟩:=(T0.out.1).tell (y:=.slice a0 n c0) rfl
 have G:Hid (RvAt U (w.heap.size+1) 39 (trc h (.slice a0 n c0))∧SlAt U a0 n c0 (l.set k (quiP (gtP l k)))∧Below w.heap.size w U):=⟨h1,T0.out.2.keptT (T0.out.1).out gU,h2⟩;clear h1 h2 gU;go_wp2
 refine bodyPost_ret (z_e rtT results172 _ _ _ _ rfl G.out.1 (z_c _ _)) rfl ?_;exact⟨a0,c0,rfl,G.out.2.1,G.out.2.2,FR0.out⟩
theorem y_D (h:Hd) (a:Option Addr) (n c:Nat) (l:List Pt) (k:Nat) (w:World) (hs:SlAt w a n c l) (hn:n≤1000) (hk:k<n) :
  Calls prog 208 #[.agg (trc h (.slice a n c)),.int .i64 (k:Int)] w fun r w'=>TRes w h n (l.set k (lrnP (gtP l k))) r w':=by
 obtain⟨W,hW,r0,r1,bW,zW⟩:=z_w w h (.slice a n c);have l0:=r0.tld;have H:Hid (TS w W w.heap.size (w.heap.size+1) h (.slice a n c)∧SlAt W a n c l∧n≤1000∧k<n∧l.length=n):=⟨⟨r0,r1,bW,by omega⟩,hs.below bW,hn,hk,hs.len⟩;clear hs hn hk r0 r1 bW zW;go_enter func208,ntmps208
 go_wp2_with fail
 refine (z_t _ _ z_cu z_cr h a n c (l) k W H.out.2.1 H.out.2.2.1 H.out.2.2.2.1).mono ?_;rintro _ X0 ⟨a0,c0,rfl,s0,b0,f0⟩;have FR0:=hd1 (f0.up H.out.1.bel.size);clear f0;have T0:Hid (TS w X0 w.heap.size (w.heap.size+1) h (.slice a n c)∧SlAt X0 a0 n c0 (l.set k (lrnP (gtP l k)))):=⟨(H.out.1).below b0,s0⟩;clear s0 b0;obtain⟨U,sU,h1,h2,gU⟩:=(T0.out.1).tell (y:=.slice a0 n c0) rfl
 have G:Hid (RvAt U (w.heap.size+1) 39 (trc h (.slice a0 n c0))∧SlAt U a0 n c0 (l.set k (lrnP (gtP l k)))∧Below w.heap.size w U):=⟨h1,T0.out.2.keptT (T0.out.1).out gU,h2⟩;clear h1 h2 gU;go_wp2
 refine bodyPost_ret (z_e rtT results208 _ _ _ _ rfl G.out.1 (z_c _ _)) rfl ?_;exact⟨a0,c0,rfl,G.out.2.1,G.out.2.2,FR0.out⟩
theorem v_H (h:Hd) (a:Option Addr) (n c:Nat) (l:List Pt) (k:Nat) (w:World) (hs:SlAt w a n c l) (hn:n≤1000) (hk:k<n) :
  Calls prog 214 #[.agg (trc h (.slice a n c)),.int .i64 (k:Int)] w fun r w'=>TRes w h n (l.set k (ackP (gtP l k))) r w':=by
 obtain⟨W,hW,r0,r1,bW,zW⟩:=z_w w h (.slice a n c);have l0:=r0.tld;have H:Hid (TS w W w.heap.size (w.heap.size+1) h (.slice a n c)∧SlAt W a n c l∧n≤1000∧k<n∧l.length=n):=⟨⟨r0,r1,bW,by omega⟩,hs.below bW,hn,hk,hs.len⟩;clear hs hn hk r0 r1 bW zW;go_enter func214,ntmps214
 go_wp2_with fail
 refine (z_t _ _ w_t w_s h a n c (l) k W H.out.2.1 H.out.2.2.1 H.out.2.2.2.1).mono ?_;rintro _ X0 ⟨a0,c0,rfl,s0,b0,f0⟩;have FR0:=hd1 (f0.up H.out.1.bel.size);clear f0;have T0:Hid (TS w X0 w.heap.size (w.heap.size+1) h (.slice a n c)∧SlAt X0 a0 n c0 (l.set k (ackP (gtP l k)))):=⟨(H.out.1).below b0,s0⟩;clear s0 b0;obtain⟨U,sU,h1,h2,gU⟩:=(T0.out.1).tell (y:=.slice a0 n c0) rfl
 have G:Hid (RvAt U (w.heap.size+1) 39 (trc h (.slice a0 n c0))∧SlAt U a0 n c0 (l.set k (ackP (gtP l k)))∧Below w.heap.size w U):=⟨h1,T0.out.2.keptT (T0.out.1).out gU,h2⟩;clear h1 h2 gU;go_wp2
 refine bodyPost_ret (z_e rtT results214 _ _ _ _ rfl G.out.1 (z_c _ _)) rfl ?_;exact⟨a0,c0,rfl,G.out.2.1,G.out.2.2,FR0.out⟩
theorem z_iJ (l:List Pt) (k:Nat) (q:Pt) (f:Pt→Pt) (hk:k<l.length):(l.set k q).set k (f (gtP (l.set k q) k))=l.set k (f q):=by
 rw[List.set_set,u_C hk]
theorem z_cZ (l:List Pt) (k:Nat) (q:Pt) (f:Pt→Pt) (hk:k<l.length):(prpL (l.set k q) k).set k (f (gtP (prpL (l.set k q) k) k))=sprL l k (f q):=by
 rw[w_f,z_av,z_da q hk,if_pos rfl]
theorem v_I (h:Hd) (a:Option Addr) (n c:Nat) (l:List Pt) (k:Nat) (w:World) (hs:SlAt w a n c l) (hn:n≤1000) (hk:k<n) :
  Calls prog 213 #[.agg (trc h (.slice a n c)),.int .i64 (k:Int)] w fun r w'=>TRes w h n (l.set k (prgP h (gtP l k))) r w':=by
 obtain⟨W,hW,r0,r1,bW,zW⟩:=z_w w h (.slice a n c);have l0:=r0.tld;have H:Hid (TS w W w.heap.size (w.heap.size+1) h (.slice a n c)∧SlAt W a n c l∧n≤1000∧k<n∧l.length=n):=⟨⟨r0,r1,bW,by omega⟩,hs.below bW,hn,hk,hs.len⟩;clear hs hn hk r0 r1 bW zW;go_enter func213,ntmps213
 go_wp2_with fail
 refine (z_es h a n c (l) k W H.out.2.1 H.out.2.2.1 H.out.2.2.2.1).mono ?_;rintro _ X0 ⟨a0,c0,rfl,s0,b0,f0⟩;have FR0:Hid (Nw w a0):=f0.up H.out.1.bel.size;clear f0;have T0:Hid (TS w X0 w.heap.size (w.heap.size+1) h (.slice a n c)∧SlAt X0 a0 n c0 (l.set k (nwP h (gtP l k)))):=⟨(H.out.1).below b0,s0⟩;clear s0 b0
 go_wp2_with fail
 refine (z_t _ _ v_E v_B h a0 n c0 (l.set k (nwP h (gtP l k))) k X0 T0.out.2 H.out.2.2.1 H.out.2.2.2.1).mono ?_;rintro _ X1 ⟨a1,c1,rfl,s1,b1,f1⟩;have FR1:Hid (Nw w a1):=f1.up T0.out.1.bel.size;clear f1;have T1:Hid (TS w X1 w.heap.size (w.heap.size+1) h (.slice a n c)∧SlAt X1 a1 n c1 ((l.set k (nwP h (gtP l k))).set k (flsP (gtP (l.set k (nwP h (gtP l k))) k)))):=⟨(T0.out.1).below b1,s1⟩
 clear s1 b1;obtain⟨U,sU,h1,h2,gU⟩:=(T1.out.1).tell (y:=.slice a1 n c1) rfl;have G:Hid (RvAt U (w.heap.size+1) 39 (trc h (.slice a1 n c1))∧SlAt U a1 n c1 (l.set k (prgP h (gtP l k)))∧Below w.heap.size w U):=by
  rw[←(show _=l.set k (prgP h (gtP l k)) from z_iJ l k (nwP h (gtP l k)) flsP (by rw[H.out.2.2.2.2];exact H.out.2.2.2.1))];exact⟨h1,T1.out.2.keptT (T1.out.1).out gU,h2⟩
 clear h1 h2 gU;go_wp2
 refine bodyPost_ret (z_e rtT results213 _ _ _ _ rfl G.out.1 (z_c _ _)) rfl ?_;exact⟨a1,c1,rfl,G.out.2.1,G.out.2.2,FR1.out⟩
theorem z_aH (h:Hd) (a:Option Addr) (n c:Nat) (l:List Pt) (k:Nat) (w:World) (hs:SlAt w a n c l) (hn:n≤1000) (hk:k<n) :
  Calls prog 248 #[.agg (trc h (.slice a n c)),.int .i64 (k:Int)] w fun r w'=>TRes w h n (prpL l k) r w':=by
 obtain⟨W,hW,r0,r1,bW,zW⟩:=z_w w h (.slice a n c);have l0:=r0.tld;have H:Hid (TS w W w.heap.size (w.heap.size+1) h (.slice a n c)∧SlAt W a n c l∧n≤1000∧k<n∧l.length=n):=⟨⟨r0,r1,bW,by omega⟩,hs.below bW,hn,hk,hs.len⟩;clear hs hn hk r0 r1 bW zW;have T:Hid _:=x_n (h:=h) (a:=a) (c:=c) (w:=W) H.out.2.2.2.1;have c16:=H.out.1.var.t16;go_enter func248,ntmps248
 go_wp2_with fail
 try go_step3
 go_wp2_with fail
 refine Calls.mono T.out ?_;rintro _ V ⟨rfl,bV⟩;have c16V:=(H.out.1.below bV).var.t16;have K:Hid (TS w V w.heap.size (w.heap.size+1) h (.slice a n c)∧SlAt V a n c l):=⟨H.out.1.below bV,H.out.2.1.below bV⟩;clear bV T l0 c16 hW
 go_wp2_with fail
 refine (y_F a n c l V K.out.2 H.out.2.2.1).mono ?_;rintro _ W2 ⟨v,rfl,o2,b2⟩;have hl:=H.out.2.2.2.2;have hk:=H.out.2.2.2.1;have lt1:w.heap.size+1<V.heap.size:=K.out.1.out.lt;obtain⟨W3,s3,r3,g3⟩:=(K.out.1.var.below b2).tset o2.one;have o3:=o2.keptBut g3 (o2.apart (by omega));have q3:=(K.out.1.out.below b2).keptBut g3 (by simp only[ne_eq,Option.some.injEq];omega)
 have b3:Below w.heap.size w W3:=gro (z_a K.out.1.bel b2) g3 (Nat.le_refl _) (by have:=b2.size;omega);clear b2 g3 o2 c16V K;rcases o3.pat with ⟨hv,hle⟩ | ⟨g,cc,hv,hg,hp⟩
 ·rw[hle] at hl;simp at hl;omega
 ·rw[hl] at hv;subst hv;have c16:=r3.t16;have hn1:n≤1000:=H.out.2.2.1;have K:Hid (RvAt W3 w.heap.size 39 (trc h (.slice (some ⟨g,0,none⟩) n cc))∧RvAt W3 (w.heap.size+1) 39 (trc zeroH (.slice none 0 0))∧Below w.heap.size w W3∧w.heap.size+2≤g∧l.length=n∧PAt W3 g cc l∧k<n):=⟨r3,q3,b3,by omega,hl,hp,hk⟩;clear hp hg r3 q3 b3 o3 hl hk lt1 H
  go_wp2_with fail
  go_step3
  go_wp2_with fail
  go_loopw [5,18] (fun v5 v18 wr=>∃i:Nat,i≤n∧v18=.int .i64 i∧PAt wr g cc (mapI (tcP k) l i)∧W3.grownBy wr (some g)) (fun _ v18 _=>n-(intOf v18).toNat)
  case atStart=>exact⟨0,by omega,rfl,by rw[v_u];exact K.out.2.2.2.2.2.1,World.grownBy.refl _ _⟩
  case round=>
   obtain⟨i,hi,rfl,hpi,hgi⟩:=hrel;have hg:=K.out.2.2.2.1;have hr:=K.out.1.keptBut hgi (by simp;omega);have hin0:(0:Int)≤(i:Int):=by omega
   by_cases hit:i<n
   ·have hin1:(i:Int)<(n:Int):=by omega
    have hil:i<l.length:=by rw[K.out.2.2.2.2.1];exact hit
    by_cases hik:i=k
    ·have J:Hid (PAt wr g cc (mapI (tcP k) l (i+1))∧W3.grownBy wr (some g)):=by
      have e:=x_f (f:=tcP k) hil;have e2:tcP k i (gtP l i)=gtP l i:=by unfold tcP;rw[if_pos hik]
      rw[e2] at e;have e3:(mapI (tcP k) l i).set i (gtP l i)=mapI (tcP k) l i:=by
       have:=y_d (l:=mapI (tcP k) l i) (k:=i) (by rw[w_Q];exact hil);have e4:gtP (mapI (tcP k) l i) i=gtP l i:=by
        have h1:=z_k (l:=mapI (tcP k) l i) (i:=i) (by rw[w_Q];exact hil);rw[u_v hil] at h1;exact (Option.some.inj h1).symm
       rw[e4] at this;exact this
      rw[←e,e3];exact⟨hpi,hgi⟩
     subst hik;clear hpi hgi hr c16;go_wp2
     go_roundw
     case rel=>exact⟨i+1,by omega,by go_num,J.out.1,J.out.2⟩
     case measure=>simp[intOf];omega
    ·have hne:((i:Int)==(k:Int))=false:=by simp;omega
     obtain⟨V1,e1,p1,g1⟩:=hpi.st1 (q:=i*77+27) (j:=27) (v:=.bool true) (u_v hil) u_z.1 (by omega) rfl (y_x kb27) rfl;have J:Hid (PAt V1 g cc (mapI (tcP k) l (i+1))∧W3.grownBy V1 (some g)):=by
      have e:=x_f (f:=tcP k) hil;have e2:tcP k i (gtP l i)=(gtP l i).setB 27 kb27 true:=by unfold tcP;rw[if_neg hik]
      rw[e2] at e;rw[←e];exact⟨p1,z_n hgi g1⟩
     have c16:=hr.t16;clear hpi hgi hr p1 g1 hik;go_wp2
     go_roundw
     case rel=>exact⟨i+1,by omega,by go_num,J.out.1,J.out.2⟩
     case measure=>simp[intOf];omega
   ·have hin:i=n:=by omega
    subst hin;have hin1:¬ (i:Int)<(i:Int):=by omega
    have l3:=hr.tld;have q3:=K.out.2.1.keptBut hgi (by simp;omega);obtain⟨W4,s4,r4,g4⟩:=q3.tst (g:=h) (y:=.slice (some ⟨g,0,none⟩) i cc) rfl;have pe:=hpi.keptBut g4 (by simp;omega);have e:mapI (tcP k) l i=prpL l k:=by
     have:=u_w (tcP k) l;rw[K.out.2.2.2.2.1] at this;exact this
    rw[e] at pe;have se:=pe.sl;rw[z_bx,K.out.2.2.2.2.1] at se;have be:Below w.heap.size w W4:=gro (gro K.out.2.2.1 hgi (by omega) K.out.2.2.1.size) g4 (by omega) (by have:=K.out.2.2.1.size;have:=hgi.size;omega);have G:Hid (RvAt W4 (w.heap.size+1) 39 (trc h (.slice (some ⟨g,0,none⟩) i cc))∧SlAt W4 (some ⟨g,0,none⟩) i cc (prpL l k)∧Below w.heap.size w W4):=⟨r4,se,be⟩
    clear hpi hgi hr q3 r4 g4 pe be se e c16;go_wp2
    try rw[Exit.noGoto_ret]
    refine bodyPost_ret (z_e rtT results248 _ _ _ _ rfl G.out.1 (z_c _ _)) rfl ?_;exact⟨some ⟨g,0,none⟩,cc,rfl,G.out.2.1,G.out.2.2,Nw.of (by have:=K.out.2.2.2.1;omega)⟩
theorem z_aS (h:Hd) (a:Option Addr) (n c:Nat) (l:List Pt) (k:Nat) (w:World) (hs:SlAt w a n c l) (hn:n≤1000) (hk:k<n) :
  Calls prog 210 #[.agg (trc h (.slice a n c)),.int .i64 (k:Int)] w fun r w'=>TRes w h n (sprL l k (detP h (gtP l k))) r w':=by
 obtain⟨W,hW,r0,r1,bW,zW⟩:=z_w w h (.slice a n c);have l0:=r0.tld;have H:Hid (TS w W w.heap.size (w.heap.size+1) h (.slice a n c)∧SlAt W a n c l∧n≤1000∧k<n∧l.length=n):=⟨⟨r0,r1,bW,by omega⟩,hs.below bW,hn,hk,hs.len⟩;clear hs hn hk r0 r1 bW zW;go_enter func210,ntmps210
 go_wp2_with fail
 refine (z_es h a n c (l) k W H.out.2.1 H.out.2.2.1 H.out.2.2.2.1).mono ?_;rintro _ X0 ⟨a0,c0,rfl,s0,b0,f0⟩;have FR0:Hid (Nw w a0):=f0.up H.out.1.bel.size;clear f0;have T0:Hid (TS w X0 w.heap.size (w.heap.size+1) h (.slice a n c)∧SlAt X0 a0 n c0 (l.set k (nwP h (gtP l k)))):=⟨(H.out.1).below b0,s0⟩;clear s0 b0
 go_wp2_with fail
 refine (z_aH h a0 n c0 (l.set k (nwP h (gtP l k))) k X0 T0.out.2 H.out.2.2.1 H.out.2.2.2.1).mono ?_;rintro _ X1 ⟨a1,c1,rfl,s1,b1,f1⟩;have FR1:Hid (Nw w a1):=f1.up T0.out.1.bel.size;clear f1;have T1:Hid (TS w X1 w.heap.size (w.heap.size+1) h (.slice a n c)∧SlAt X1 a1 n c1 (prpL (l.set k (nwP h (gtP l k))) k)):=⟨(T0.out.1).below b1,s1⟩;clear s1 b1
 go_wp2_with fail
 refine (z_t _ _ z_am z_ag h a1 n c1 (prpL (l.set k (nwP h (gtP l k))) k) k X1 T1.out.2 H.out.2.2.1 H.out.2.2.2.1).mono ?_;rintro _ X2 ⟨a2,c2,rfl,s2,b2,f2⟩;have FR2:Hid (Nw w a2):=f2.up T1.out.1.bel.size;clear f2
 have T2:Hid (TS w X2 w.heap.size (w.heap.size+1) h (.slice a n c)∧SlAt X2 a2 n c2 ((prpL (l.set k (nwP h (gtP l k))) k).set k (actP (gtP (prpL (l.set k (nwP h (gtP l k))) k) k)))):=⟨(T1.out.1).below b2,s2⟩;clear s2 b2;obtain⟨U,sU,h1,h2,gU⟩:=(T2.out.1).tell (y:=.slice a2 n c2) rfl
 have G:Hid (RvAt U (w.heap.size+1) 39 (trc h (.slice a2 n c2))∧SlAt U a2 n c2 (sprL l k (detP h (gtP l k)))∧Below w.heap.size w U):=by
  rw[←(show _=sprL l k (detP h (gtP l k)) from z_cZ l k (nwP h (gtP l k)) actP (by rw[H.out.2.2.2.2];exact H.out.2.2.2.1))];exact⟨h1,T2.out.2.keptT (T2.out.1).out gU,h2⟩
 clear h1 h2 gU;go_wp2
 refine bodyPost_ret (z_e rtT results210 _ _ _ _ rfl G.out.1 (z_c _ _)) rfl ?_;exact⟨a2,c2,rfl,G.out.2.1,G.out.2.2,FR2.out⟩
theorem z_iK (l:List Pt) (k:Nat) (f:Pt→Pt) (hk:k<l.length):(prpL l k).set k (f (gtP (prpL l k) k))=sprL l k (f (gtP l k)):=by
 rw[z_jv hk,z_av,z_da _ hk,if_pos rfl]
theorem v_n (h:Hd) (a:Option Addr) (n c:Nat) (l:List Pt) (k:Nat) (w:World) (hs:SlAt w a n c l) (hn:n≤1000) (hk:k<n) :
  Calls prog 212 #[.agg (trc h (.slice a n c)),.int .i64 (k:Int)] w fun r w'=>TRes w h n (sprL l k (ntfP h (gtP l k))) r w':=by
 obtain⟨g,o,rfl⟩:=hs.some' (by omega);obtain⟨LL,hLL⟩:∃z,sprL l k (ntfP h (gtP l k))=z:=⟨_,rfl⟩;rw[hLL];have EL:Hid (sprL l k (ntfP h (gtP l k))=LL):=hLL;clear hLL;obtain⟨W,hW,r0,r1,bW,zW⟩:=z_w w h (.slice (some ⟨g,o,none⟩) n c);have l0:=r0.tld
 have H:Hid (TS w W w.heap.size (w.heap.size+1) h (.slice (some ⟨g,o,none⟩) n c)∧SlAt W (some ⟨g,o,none⟩) n c l∧n≤1000∧k<n∧l.length=n):=⟨⟨r0,r1,bW,by omega⟩,hs.below bW,hn,hk,hs.len⟩;clear hs hn hk r0 r1 bW zW;have hkl:k<l.length:=(by rw[H.out.2.2.2.2];exact H.out.2.2.2.1);have hin0:(0:Int)≤(k:Int):=by omega
 have hin1:(k:Int)<(n:Int):=by have:=H.out.2.2.2.1;omega
 have c16:=H.out.1.var.t16;have c19:=H.out.2.1.cell (z_k hkl) ((gtP l k).bit (j:=19) rfl) (by omega);cases h19:(gtP l k).bt 19
 ·rw[h19] at c19;have E:Hid ((prpL l k).set k (heaP (gtP (prpL l k) k))=LL):=by
   rw[←EL.out,z_iK l k heaP hkl];unfold ntfP heaQ;rw[if_neg (by rw[h19];decide)];exact rfl
  clear h19 EL hkl;go_enter func212,ntmps212
  go_wp2_with fail
  refine (z_aH h (some ⟨g,o,none⟩) n c l k W H.out.2.1 H.out.2.2.1 H.out.2.2.2.1).mono ?_;rintro _ X0 ⟨a0,c0,rfl,s0,b0,f0⟩;have FR0:Hid (Nw w a0):=f0.up H.out.1.bel.size;clear f0;have T0:Hid (TS w X0 w.heap.size (w.heap.size+1) h (.slice (some ⟨g,o,none⟩) n c)∧SlAt X0 a0 n c0 (prpL l k)):=⟨H.out.1.below b0,s0⟩;clear s0 b0
  go_wp2_with fail
  refine (z_t _ _ w_r w_q h a0 n c0 (prpL l k) k X0 T0.out.2 H.out.2.2.1 H.out.2.2.2.1).mono ?_;rintro _ X1 ⟨a1,c1,rfl,s1,b1,f1⟩;have FR1:Hid (Nw w a1):=f1.up T0.out.1.bel.size;clear f1;rw[E.out] at s1;have T1:Hid (TS w X1 w.heap.size (w.heap.size+1) h (.slice (some ⟨g,o,none⟩) n c)∧SlAt X1 a1 n c1 LL):=⟨T0.out.1.below b1,s1⟩;clear s1 b1
  obtain⟨U,sU,h1,h2,gU⟩:=(T1.out.1).tell (y:=.slice a1 n c1) rfl;have G:Hid (RvAt U (w.heap.size+1) 39 (trc h (.slice a1 n c1))∧SlAt U a1 n c1 (LL)∧Below w.heap.size w U):=⟨h1,T1.out.2.keptT (T1.out.1).out gU,h2⟩;clear h1 h2 gU;go_wp2
  refine bodyPost_ret (z_e rtT results212 _ _ _ _ rfl G.out.1 (z_c _ _)) rfl ?_;exact⟨a1,c1,rfl,G.out.2.1,G.out.2.2,FR1.out⟩
 ·rw[h19] at c19;have E:Hid ((prpL (l.set k (nwP h (gtP l k))) k).set k (heaP (gtP (prpL (l.set k (nwP h (gtP l k))) k) k))=LL):=by
   rw[←EL.out,z_cZ l k (nwP h (gtP l k)) heaP hkl];unfold ntfP heaQ;rw[if_pos h19];exact rfl
  clear h19 EL hkl;go_enter func212,ntmps212
  go_wp2_with fail
  refine (z_es h (some ⟨g,o,none⟩) n c l k W H.out.2.1 H.out.2.2.1 H.out.2.2.2.1).mono ?_;rintro _ X ⟨aa,ca,rfl,sa,ba,_⟩;obtain⟨Y,sY,rY,gY⟩:=(H.out.1.below ba).var.tst (g:=h) (y:=.slice aa n ca) rfl
  have TY:Hid (TS w Y w.heap.size (w.heap.size+1) h (.slice aa n ca)∧SlAt Y aa n ca (l.set k (nwP h (gtP l k)))):=⟨⟨rY,(H.out.1.below ba).out.keptBut gY (by simp),gro (H.out.1.below ba).bel gY (Nat.le_refl _) (H.out.1.below ba).bel.size,by omega⟩,sa.keptT (H.out.1.below ba).var gY⟩;have lY:=rY.tld;clear sa ba rY gY
  go_wp2_with fail
  refine (z_aH h aa n ca (l.set k (nwP h (gtP l k))) k Y TY.out.2 H.out.2.2.1 H.out.2.2.2.1).mono ?_;rintro _ X0 ⟨a0,c0,rfl,s0,b0,f0⟩;have FR0:Hid (Nw w a0):=f0.up TY.out.1.bel.size;clear f0;have T0:Hid (TS w X0 w.heap.size (w.heap.size+1) h (.slice aa n ca)∧SlAt X0 a0 n c0 (prpL (l.set k (nwP h (gtP l k))) k)):=⟨TY.out.1.below b0,s0⟩;clear s0 b0
  go_wp2_with fail
  refine (z_t _ _ w_r w_q h a0 n c0 (prpL (l.set k (nwP h (gtP l k))) k) k X0 T0.out.2 H.out.2.2.1 H.out.2.2.2.1).mono ?_;rintro _ X1 ⟨a1,c1,rfl,s1,b1,f1⟩;have FR1:Hid (Nw w a1):=f1.up T0.out.1.bel.size;clear f1;rw[E.out] at s1;have T1:Hid (TS w X1 w.heap.size (w.heap.size+1) h (.slice aa n ca)∧SlAt X1 a1 n c1 LL):=⟨T0.out.1.below b1,s1⟩;clear s1 b1
  obtain⟨U,sU,h1,h2,gU⟩:=(T1.out.1).tell (y:=.slice a1 n c1) rfl;have G:Hid (RvAt U (w.heap.size+1) 39 (trc h (.slice a1 n c1))∧SlAt U a1 n c1 (LL)∧Below w.heap.size w U):=⟨h1,T1.out.2.keptT (T1.out.1).out gU,h2⟩;clear h1 h2 gU;go_wp2
  refine bodyPost_ret (z_e rtT results212 _ _ _ _ rfl G.out.1 (z_c _ _)) rfl ?_;exact⟨a1,c1,rfl,G.out.2.1,G.out.2.2,FR1.out⟩
end S14
end
section
namespace S14
open Go.RowKit
attribute [local go_sem ↓] ldP stP stB stU stW ldT stT st32 alP apE bs32
attribute [local go_sem] z_l
structure TV (w W:World) (t d z:Nat) (h:Hd) (a:Option Addr) (n c:Nat) (l:List Pt) (p:Pt):Prop where
 tre:TS w W t d h (.slice a n c)
 sl:SlAt W a n c l
 pv:RvAt W z 74 p.cs
 hz:w.heap.size≤z
 ht:w.heap.size≤t
 hd:t≠d
 ne:∀x,a=some x→x.block≠z
theorem TV.below {w W V:World} {t d z n c:Nat} {a:Option Addr} {h:Hd} {l:List Pt} {p:Pt} (s:TV w W t d z h a n c l p) (e:Below W.heap.size W V):TV w V t d z h a n c l p:=⟨s.tre.below e,s.sl.below e,s.pv.below e,s.hz,s.ht,s.hd,s.ne⟩
theorem TV.go {w W V:World} {t d z n c:Nat} {a:Option Addr} {h:Hd} {l:List Pt} {p q:Pt} (s:TV w W t d z h a n c l p) (r:RvAt V z 74 q.cs) (e:W.grownBy V (some z)):TV w V t d z h a n c l q:=
 have n1:t≠z:=s.tre.var.apart s.pv (by decide);have n2:d≠z:=s.tre.out.apart s.pv (by decide)
 ⟨⟨s.tre.var.keptBut e (by simpa using n1),s.tre.out.keptBut e (by simpa using n2),gro s.tre.bel e s.hz s.tre.bel.size,s.tre.hd⟩,s.sl.keptBut e (fun x hx e'=>s.ne x hx (by simpa using e')),r,s.hz,s.ht,s.hd,s.ne⟩
theorem TV.setB {w W:World} {t d z n c j:Nat} {a:Option Addr} {h:Hd} {l:List Pt} {p:Pt} (s:TV w W t d z h a n c l p) (hk:kdP[j]?=some none) (x:Bool):∃V,(stS 4 (.pointer (some ⟨z,j,none⟩)) (.bool x)).run prog W=.ok () V∧TV w V t d z h a n c l (p.setB j hk x):=by
 obtain⟨V,e,h1,g⟩:=s.pv.setB hk x;exact⟨V,e,s.go h1 g⟩
theorem TV.setU {w W:World} {t d z n c j:Nat} {a:Option Addr} {h:Hd} {l:List Pt} {p:Pt} (s:TV w W t d z h a n c l p) (hk:kdP[j]?=some (some .u8)) {x:Int} (hx:0≤x∧x≤255):∃V,(stS 5 (.pointer (some ⟨z,j,none⟩)) (.int .u8 x)).run prog W=.ok () V∧TV w V t d z h a n c l (p.setU j x):=by
 obtain⟨V,e,h1,g⟩:=s.pv.setU hk hx;exact⟨V,e,s.go h1 g⟩
theorem TV.setN {w W:World} {t d z n c j:Nat} {a:Option Addr} {h:Hd} {l:List Pt} {p:Pt} (s:TV w W t d z h a n c l p) (hk:kdP[j]?=some (some .i64)) {x:Int} (hx:(Lit.int .i64 x).wf=true):∃V,(stS 72 (.pointer (some ⟨z,j,none⟩)) (.int .i64 x)).run prog W=.ok () V∧TV w V t d z h a n c l (p.setN j hk x hx):=by
 obtain⟨V,e,h1,g⟩:=s.pv.rset (v:=.int .i64 x) infoS (List.getElem?_eq_some_iff.1 hk).1 rfl (z_z hk hx);exact⟨V,e,s.go h1 g⟩
theorem TV.st {w W:World} {t d z n c:Nat} {a:Option Addr} {h:Hd} {l:List Pt} {p:Pt} (s:TV w W t d z h a n c l p) (q:Pt):∃V,(stS 74 (.pointer (some ⟨z,0,none⟩)) (.agg q.cs)).run prog W=.ok () V∧TV w V t d z h a n c l q:=by
 obtain⟨V,e,h1,g⟩:=s.pv.pst (q:=q);exact⟨V,e,s.go h1 g⟩
theorem TV.tree {w W X:World} {t d z n c c':Nat} {a a':Option Addr} {h:Hd} {l L:List Pt} {p:Pt} (s:TV w W t d z h a n c l p) (b:Below W.heap.size W X) (hs:SlAt X a' n c' L) (f:Fr W a a'):∃V,(stS 39 (.pointer (some ⟨t,0,none⟩)) (.agg (trc h (.slice a' n c')))).run prog X=.ok () V∧TV w V t d z h a' n c' L p:=by
 have k:=s.below b;have n1:t≠z:=s.tre.var.apart s.pv (by decide);obtain⟨V,e,rV,gV⟩:=k.tre.var.tst (g:=h) (y:=.slice a' n c') rfl;refine⟨V,e,⟨rV,k.tre.out.keptBut gV (by have:=s.hd;simp;exact fun e=>this e.symm),gro k.tre.bel gV s.ht k.tre.bel.size,s.tre.hd⟩,hs.keptT k.tre.var gV,k.pv.keptBut gV (by simp;exact fun e=>n1 e.symm),s.hz,s.ht,s.hd,fun x hx e'=>?_⟩;rcases f with f | f
 ·rw[f] at hx;exact s.ne x hx e'
 ·have h1:=f x hx;have h2:=s.pv.lt;omega
abbrev TRsF (w:World) (h:Hd) (a:Option Addr) (n:Nat) (L:List Pt) (r:Ending) (w':World):Prop:=∃a' c',r=.returned (.agg (trc h (.slice a' n c')))∧SlAt w' a' n c' L∧Fr w a a'∧Below w.heap.size w w'
theorem w_k (h:Hd) (a:Option Addr) (n c:Nat) (i:Int) (w:World) :
  Calls prog 122 #[.agg (trc h (.slice a n c)),.int .i64 i] w fun r w'=>r=.returned (.bool (decide (0≤i) && decide (i<n)))∧Below w.heap.size w w':=by
 obtain⟨W,hW,r0,bW,zW⟩:=y_S w h (.slice a n c);have c16:=r0.t16;have F:=hd1 bW;clear r0 bW zW;go_enter func122,ntmps122;by_cases h1:0≤i
 ·by_cases h2:i<(n:Int)
  ·go_wp2
   go_ret;exact⟨by simp[h1,h2],F.out⟩
  ·go_wp2
   go_ret;exact⟨by simp[h1,h2],F.out⟩
 ·go_wp2
  go_ret;exact⟨by simp;omega,F.out⟩
theorem v_x {h:Hd} {a:Option Addr} {n c k:Nat} {w:World} (hk:k<n) :
  Calls prog 122 #[.agg (trc h (.slice a n c)),.int .i64 (k:Int)] w fun r w'=>r=.returned (.bool true)∧Below w.heap.size w w':=
 (w_k h a n c k w).mono fun r w' ⟨hr,hb⟩=>⟨by rw[hr];simp;omega,hb⟩
theorem z_bD (a b:Int) (ha:0≤a∧a≤255) (hb:0≤b∧b≤255) (w:World):Calls prog 199 #[.int .i64 (a+b)] w fun r w'=>r=.returned (.int .u8 (sumN a b))∧Below w.heap.size w w':=by
 by_cases h:255<a+b
 ·have e:sumN a b=255:=by unfold sumN;rw[if_pos h]
  rw[e];have h':¬ a+b≤255:=by omega
  clear e;go_enter func199,ntmps199;go_wp2
  go_ret;exact⟨rfl,Below.refl _ _⟩
 ·have e:sumN a b=a+b:=by unfold sumN;rw[if_neg h]
  rw[e];have h':a+b≤255:=by omega
  clear e;go_enter func199,ntmps199;go_wp2
  go_ret;exact⟨rfl,Below.refl _ _⟩
theorem z_o (h:Hd) (a:Option Addr) (n c:Nat) (l:List Pt) (k:Nat) (p:Pt) (w:World) (hs:SlAt w a n c l) (hn:n≤1000) (hk:k<n) :
  Calls prog 159 #[.agg (trc h (.slice a n c)),.int .i64 (k:Int),.agg p.cs] w fun r w'=>TRsF w h a n (l.set k p) r w':=by
 obtain⟨W,hW,r0,rp,r1,bW,zW⟩:=z_at w h (.slice a n c) p;have hl:=hs.len;obtain⟨v,W2,ap,o2,g2⟩:=(Own.nil W (w.heap.size+3)).app (hs.below bW) (by have:=hs.len;simp;omega) (by omega) 37;have b2:Below W.heap.size W W2:=z_h g2 (Nat.le_refl _) (fun j e=>by cases e);rw[List.nil_append] at o2;have c16:=r0.t16;have lp:=(rp.below b2).pld;have hin0:(0:Int)≤(k:Int):=by omega
 have hin1:(k:Int)<(n:Int):=by omega
 rcases o2.pat with ⟨hv,hle⟩ | ⟨g,cc,hv,hg,hp⟩
 ·rw[hle] at hl;simp at hl;omega
 ·rw[hl] at hv;subst hv;obtain⟨V,sV,pV,gV⟩:=hp.stp (i:=k) (p:=p) (by omega) rfl;have q0:=(r0.below b2).keptBut gV (by simp;omega);have q1:=(r1.below b2).keptBut gV (by simp;omega);obtain⟨W3,s3,r3,g3⟩:=q0.tset (y:=.slice (some ⟨g,0,none⟩) n cc) rfl;have q3:=q1.keptBut g3 (by simp only[ne_eq,Option.some.injEq];omega);have p3:=pV.keptBut g3 (by simp;omega);have l3:=r3.tld
  obtain⟨W4,s4,r4,g4⟩:=q3.tst (g:=h) (y:=.slice (some ⟨g,0,none⟩) n cc) rfl;have p4:=p3.keptBut g4 (by simp;omega);have b0:Below w.heap.size w V:=gro (z_a bW b2) gV (by omega) (z_a bW b2).size;have b3:Below w.heap.size w W3:=gro b0 g3 (Nat.le_refl _) b0.size;have b4:Below w.heap.size w W4:=gro b3 g4 (by omega) b3.size;have s6':=p4.sl;rw[List.length_set,hl] at s6'
  have F:Hid (RvAt W4 (w.heap.size+1+1) 39 (trc h (.slice (some ⟨g,0,none⟩) n cc))∧SlAt W4 (some ⟨g,0,none⟩) n cc (l.set k p)∧Fr w a (some ⟨g,0,none⟩)∧Below w.heap.size w W4):=⟨r4,s6',Or.inr (fun x e=>by cases e;show w.heap.size≤g;omega),b4⟩;clear hs hn hk r0 rp r1 bW zW o2 g2 b2 hp pV gV q0 q1 r3 g3 q3 p3 r4 g4 p4 b0 b3 b4 s6' hg hl;go_enter func159,ntmps159;go_wp2
  refine bodyPost_ret (z_e rtT results159 _ _ _ _ rfl F.out.1 (z_c _ _)) rfl ?_;exact⟨some ⟨g,0,none⟩,cc,rfl,F.out.2⟩
theorem z_aD (h:Hd) (a:Option Addr) (n c:Nat) (l:List Pt) (k:Nat) (w:World) (hs:SlAt w a n c l) (hn:n≤1000) (hk:k<n) :
  Calls prog 161 #[.agg (trc h (.slice a n c)),.int .i64 (k:Int)] w fun r w'=>TRsF w h a n (l.set k (nwP h (gtP l k))) r w':=by
 obtain⟨g,o,rfl⟩:=hs.some' (by omega);have HL:Hid (l.length=n∧n≤1000∧k<n∧k<l.length):=⟨hs.len,hn,hk,by rw[hs.len];exact hk⟩;have hin0:(0:Int)≤(k:Int):=by omega
 have hin1:(k:Int)<(n:Int):=by omega
 obtain⟨W,hW,r0,r1,bW,zW⟩:=z_w w h (.slice (some ⟨g,o,none⟩) n c);have l0:=r0.tld;have GL:Hid (g<w.heap.size):=hs.low (by omega);have H:Hid (TS w W w.heap.size (w.heap.size+1) h (.slice (some ⟨g,o,none⟩) n c)∧SlAt W (some ⟨g,o,none⟩) n c l):=⟨⟨r0,r1,bW,by omega⟩,hs.below bW⟩;have T:Hid _:=v_x (h:=h) (a:=some ⟨g,o,none⟩) (c:=c) (w:=W) hk;obtain⟨LL,hLL⟩:∃z,l.set k (nwP h (gtP l k))=z:=⟨_,rfl⟩
 rw[hLL];have EL:Hid (l.set k (nwP h (gtP l k))=LL):=hLL;obtain⟨p,hp⟩:∃p,gtP l k=p:=⟨_,rfl⟩;have HP:Hid (gtP l k=p):=hp;clear hs hn hk r0 r1 bW zW hLL hp;by_cases h0:p.nm 71=0
 ·have H0:Hid (p.nm 71=0):=h0;clear h0;cases h23:p.bt 23
  ·have E:Hid (l.set k (p.setU 71 (sumN (h.nm 13) (h.nm 15)))=LL):=by
    rw[←EL.out,HP.out];unfold nwP;rw[if_pos H0.out,if_neg (by rw[h23];decide)];exact rfl
   have H23:Hid (p.bt 23=false):=h23;clear h23 EL;go_enter func161,ntmps161
   go_wp2_with fail
   refine Calls.mono T.out ?_;rintro _ V ⟨rfl,bV⟩;have K:Hid (TS w V w.heap.size (w.heap.size+1) h (.slice (some ⟨g,o,none⟩) n c)∧SlAt V (some ⟨g,o,none⟩) n c l):=⟨H.out.1.below bV,H.out.2.below bV⟩;have c16:=K.out.1.var.t16;have c71:=K.out.2.cell (z_k HL.out.2.2.2) ((gtP l k).num (j:=71) (k:=.u8) rfl) (by omega);rw[HP.out,H0.out] at c71;clear bV l0 hW H T;have lp:=K.out.2.ld (z_k HL.out.2.2.2)
   rw[HP.out] at lp;obtain⟨W0,s0,r0',b0,z0⟩:=y_b V p;have ltz:w.heap.size≤V.heap.size:=K.out.1.bel.size;obtain⟨Z,hZ⟩:∃Z,V.heap.size=Z:=⟨_,rfl⟩;rw[hZ] at s0 r0' ltz;have T0:Hid (TV w W0 w.heap.size (w.heap.size+1) Z h (some ⟨g,o,none⟩) n c l p):=⟨K.out.1.below b0,K.out.2.below b0,r0',ltz,Nat.le_refl _,by omega,fun x e=>by cases e;have:=GL.out;show g≠Z;omega⟩;clear b0 z0 r0' ltz
   have c23:=T0.out.pv.pbit (j:=23) rfl;rw[H23.out] at c23;have c13:=T0.out.tre.var.tnum (j:=13) (k:=.u8) rfl;have c15:=T0.out.tre.var.tnum (j:=15) (k:=.u8) rfl;have u13:=h.u8 hu13;have u15:=h.u8 hu15
   go_wp2_with fail
   refine (z_bD _ _ u13 u15 W0).mono ?_;rintro _ X ⟨rfl,bX⟩;obtain⟨V1,e1,T1⟩:=(T0.out.below bX).setU ku71 (sumB h);have S1:Hid _:=T1;have lt1:=T1.tre.var.tld;have lp1:=T1.pv.pld;clear T1 bX c13 c15 u13 u15 c23 T0
   go_wp2_with fail
   refine (z_o h (some ⟨g,o,none⟩) n c l k _ V1 S1.out.sl HL.out.2.1 HL.out.2.2.1).mono ?_;rintro _ Y ⟨a2,c2,rfl,s2,f2,b2⟩;rw[E.out] at s2;have F2:Fr w (some ⟨g,o,none⟩) a2:=f2.imp id (fun q x hx=>Nat.le_trans S1.out.tre.bel.size (q x hx));obtain⟨U,sU,h1,h2,gU⟩:=(S1.out.tre.below b2).tell (y:=.slice a2 n c2) rfl
   have G:Hid (RvAt U (w.heap.size+1) 39 (trc h (.slice a2 n c2))∧SlAt U a2 n c2 (LL)∧Fr w (some ⟨g,o,none⟩) a2∧Below w.heap.size w U):=⟨h1,s2.keptT (S1.out.tre.below b2).out gU,F2,h2⟩;clear h1 h2 gU;go_wp2
   refine bodyPost_ret (z_e rtT results161 _ _ _ _ rfl G.out.1 (z_c _ _)) rfl ?_;exact⟨a2,c2,rfl,G.out.2⟩
  ·have E:Hid (l.set k ((p.setU 71 (sumN (h.nm 14) 1)).setB 11 kb11 true)=LL):=by
    rw[←EL.out,HP.out];unfold nwP;rw[if_pos H0.out,if_pos h23];exact rfl
   have H23:Hid (p.bt 23=true):=h23;clear h23 EL;go_enter func161,ntmps161
   go_wp2_with fail
   refine Calls.mono T.out ?_;rintro _ V ⟨rfl,bV⟩;have K:Hid (TS w V w.heap.size (w.heap.size+1) h (.slice (some ⟨g,o,none⟩) n c)∧SlAt V (some ⟨g,o,none⟩) n c l):=⟨H.out.1.below bV,H.out.2.below bV⟩;have c16:=K.out.1.var.t16;have c71:=K.out.2.cell (z_k HL.out.2.2.2) ((gtP l k).num (j:=71) (k:=.u8) rfl) (by omega);rw[HP.out,H0.out] at c71;clear bV l0 hW H T;have lp:=K.out.2.ld (z_k HL.out.2.2.2)
   rw[HP.out] at lp;obtain⟨W0,s0,r0',b0,z0⟩:=y_b V p;have ltz:w.heap.size≤V.heap.size:=K.out.1.bel.size;obtain⟨Z,hZ⟩:∃Z,V.heap.size=Z:=⟨_,rfl⟩;rw[hZ] at s0 r0' ltz;have T0:Hid (TV w W0 w.heap.size (w.heap.size+1) Z h (some ⟨g,o,none⟩) n c l p):=⟨K.out.1.below b0,K.out.2.below b0,r0',ltz,Nat.le_refl _,by omega,fun x e=>by cases e;have:=GL.out;show g≠Z;omega⟩;clear b0 z0 r0' ltz
   have c23:=T0.out.pv.pbit (j:=23) rfl;rw[H23.out] at c23;have c14:=T0.out.tre.var.tnum (j:=14) (k:=.u8) rfl;have u14:=h.u8 hu14
   go_wp2_with fail
   refine (z_bD _ 1 u14 (by decide) W0).mono ?_;rintro _ X ⟨rfl,bX⟩;obtain⟨V1,e1,T1⟩:=(T0.out.below bX).setU ku71 (sumA h);obtain⟨V2,e2,T2⟩:=T1.setB kb11 true;have S1:Hid _:=T2;have lt1:=T2.tre.var.tld;have lp1:=T2.pv.pld;clear T1 T2 bX c14 u14 c23 T0
   go_wp2_with fail
   refine (z_o h (some ⟨g,o,none⟩) n c l k _ V2 S1.out.sl HL.out.2.1 HL.out.2.2.1).mono ?_;rintro _ Y ⟨a2,c2,rfl,s2,f2,b2⟩;rw[E.out] at s2;have F2:Fr w (some ⟨g,o,none⟩) a2:=f2.imp id (fun q x hx=>Nat.le_trans S1.out.tre.bel.size (q x hx));obtain⟨U,sU,h1,h2,gU⟩:=(S1.out.tre.below b2).tell (y:=.slice a2 n c2) rfl
   have G:Hid (RvAt U (w.heap.size+1) 39 (trc h (.slice a2 n c2))∧SlAt U a2 n c2 (LL)∧Fr w (some ⟨g,o,none⟩) a2∧Below w.heap.size w U):=⟨h1,s2.keptT (S1.out.tre.below b2).out gU,F2,h2⟩;clear h1 h2 gU;go_wp2
   refine bodyPost_ret (z_e rtT results161 _ _ _ _ rfl G.out.1 (z_c _ _)) rfl ?_;exact⟨a2,c2,rfl,G.out.2⟩
 ·have E:Hid (l=LL):=by
   rw[←EL.out];unfold nwP;rw[HP.out,if_neg h0,← HP.out,y_d HL.out.2.2.2];exact rfl
  have x0:(p.nm 71==0)=false:=beq_eq_false_iff_ne.2 h0;clear h0 EL;go_enter func161,ntmps161
  go_wp2_with fail
  refine Calls.mono T.out ?_;rintro _ V ⟨rfl,bV⟩;have K:Hid (TS w V w.heap.size (w.heap.size+1) h (.slice (some ⟨g,o,none⟩) n c)∧SlAt V (some ⟨g,o,none⟩) n c l):=⟨H.out.1.below bV,H.out.2.below bV⟩;have c16:=K.out.1.var.t16;have lV:=K.out.1.var.tld;have c71:=K.out.2.cell (z_k HL.out.2.2.2) ((gtP l k).num (j:=71) (k:=.u8) rfl) (by omega);rw[HP.out] at c71;have s2:=K.out.2;rw[E.out] at s2
  clear bV l0 hW H T;obtain⟨U,sU,h1,h2,gU⟩:=(K.out.1).tell (y:=.slice (some ⟨g,o,none⟩) n c) rfl;have G:Hid (RvAt U (w.heap.size+1) 39 (trc h (.slice (some ⟨g,o,none⟩) n c))∧SlAt U (some ⟨g,o,none⟩) n c (LL)∧Fr w (some ⟨g,o,none⟩) (some ⟨g,o,none⟩)∧Below w.heap.size w U):=⟨h1,s2.keptT (K.out.1).out gU,Or.inl rfl,h2⟩;clear h1 h2 gU;go_wp2
  refine bodyPost_ret (z_e rtT results161 _ _ _ _ rfl G.out.1 (z_c _ _)) rfl ?_;exact⟨some ⟨g,o,none⟩,c,rfl,G.out.2⟩
end S14
end
section
namespace S14
open Go.RowKit
attribute [local go_sem ↓] ldP stP stB stU stW ldT stT st32 alP
attribute [local go_sem] z_l
theorem z_J {w W:World} {a b d:Option Addr} (h:Fro w a b) (k:Fr W b d) (s:w.heap.size≤W.heap.size):Fro w a d:=k.elim (fun e=>by rw[e];exact h) (fun q=>Or.inr (fun x hx=>Nat.le_trans s (q x hx)))
theorem u_T (h:Hd) (a:Option Addr) (n c:Nat) (l:List Pt) (k:Nat) (w:World) (hs:SlAt w a n c l) (hn:n≤1000) (hk:k<n) :
  Calls prog 126 #[.agg (trc h (.slice a n c)),.int .i64 (k:Int)] w fun r w'=>TBf w h a n l (some (l.set k (quiP (gtP l k)))) r w':=by
 obtain⟨OO,hOO⟩:∃z,some (l.set k (quiP (gtP l k)))=z:=⟨_,rfl⟩;rw[hOO];have EO:Hid (some (l.set k (quiP (gtP l k)))=OO):=hOO;clear hOO;obtain⟨g,o,rfl⟩:=hs.some' (by omega);have HL:Hid (l.length=n∧n≤1000∧k<n∧k<l.length):=⟨hs.len,hn,hk,by rw[hs.len];exact hk⟩;have hin0:(0:Int)≤(k:Int):=by omega
 have hin1:(k:Int)<(n:Int):=by omega
 obtain⟨W,hW,r0,r1,bW,zW⟩:=z_w w h (.slice (some ⟨g,o,none⟩) n c);have GL:g<w.heap.size:=hs.low (by omega);have c16:=r0.t16;have lp:=(hs.below bW).ld (z_k HL.out.2.2.2);obtain⟨p,hp⟩:∃p,gtP l k=p:=⟨_,rfl⟩;rw[hp] at lp;have HP:Hid (gtP l k=p):=hp;obtain⟨W0,s0,r0',b0,z0⟩:=y_b W p;obtain⟨Z,hZ⟩:∃Z,W.heap.size=Z:=⟨_,rfl⟩;rw[hZ] at s0 r0'
 have T0:Hid (TV w W0 w.heap.size (w.heap.size+1) Z h (some ⟨g,o,none⟩) n c l p):=⟨⟨r0.below b0,r1.below b0,z_a bW b0,by omega⟩,(hs.below bW).below b0,r0',by omega,Nat.le_refl _,by omega,fun x e=>by cases e;show g≠Z;omega⟩;clear hs hn hk r0 r1 bW zW b0 z0 r0' hp GL;have E:Hid (OO=some (l.set k (quiP p))):=by rw[←EO.out,HP.out];exact rfl
 obtain⟨V1,e1,S1⟩:=T0.out.setB kb6 true;obtain⟨V2,e2,S2⟩:=S1.setU ku71 u0;obtain⟨V3,e3,S3⟩:=S2.setB kb26 false;obtain⟨V4,e4,S4⟩:=S3.setN kn74 wi1;have S9:TV w V4 w.heap.size (w.heap.size+1) Z h (some ⟨g,o,none⟩) n c l (quiR p):=S4;rw[z_je] at S9;have T9:Hid (TV w V4 w.heap.size (w.heap.size+1) Z h (some ⟨g,o,none⟩) n c l (quiP p)):=S9;clear S9 S1 S2 S3 S4;go_enter func126,ntmps126
 have lt9:=T9.out.tre.var.tld;have lp9:=T9.out.pv.pld
 go_wp2_with fail
 refine (z_o h (some ⟨g,o,none⟩) n c (l) k _ V4 T9.out.sl HL.out.2.1 HL.out.2.2.1).mono ?_;rintro _ Y ⟨a8,c8,rfl,s8,f8,b8⟩;have FR8:Hid (Fro w (some ⟨g,o,none⟩) a8):=z_J (Or.inl rfl) f8 T9.out.tre.bel.size;clear f8;obtain⟨U,sU,h1,h2,gU⟩:=(T9.out.tre.below b8).tell (y:=.slice a8 n c8) rfl
 have G:Hid (RvAt U (w.heap.size+1) 39 (trc h (.slice a8 n c8))∧SlAt U a8 n c8 (OO.getD l)∧Below w.heap.size w U∧OO.isSome=true):=by
  rw[E.out];exact⟨h1,s8.keptT (T9.out.tre.below b8).out gU,h2,rfl⟩
 clear h1 h2 gU;go_wp2
 refine bodyPost_ret (z_i results126 _ _ _ _ _ rfl G.out.1) rfl ?_;exact⟨a8,c8,by rw[G.out.2.2.2];rfl,G.out.2.1,G.out.2.2.1,FR8.out⟩
theorem y_e (h:Hd) (a:Option Addr) (n c:Nat) (l:List Pt) (k:Nat) (w:World) (hs:SlAt w a n c l) (hn:n≤1000) (hk:k<n) :
  Calls prog 123 #[.agg (trc h (.slice a n c)),.int .i64 (k:Int)] w fun r w'=>TBf w h a n l (some (l.set k (lrnP (gtP l k)))) r w':=by
 obtain⟨OO,hOO⟩:∃z,some (l.set k (lrnP (gtP l k)))=z:=⟨_,rfl⟩;rw[hOO];have EO:Hid (some (l.set k (lrnP (gtP l k)))=OO):=hOO;clear hOO;obtain⟨g,o,rfl⟩:=hs.some' (by omega);have HL:Hid (l.length=n∧n≤1000∧k<n∧k<l.length):=⟨hs.len,hn,hk,by rw[hs.len];exact hk⟩;have hin0:(0:Int)≤(k:Int):=by omega
 have hin1:(k:Int)<(n:Int):=by omega
 obtain⟨W,hW,r0,r1,bW,zW⟩:=z_w w h (.slice (some ⟨g,o,none⟩) n c);have GL:g<w.heap.size:=hs.low (by omega);have c16:=r0.t16;have lp:=(hs.below bW).ld (z_k HL.out.2.2.2);obtain⟨p,hp⟩:∃p,gtP l k=p:=⟨_,rfl⟩;rw[hp] at lp;have HP:Hid (gtP l k=p):=hp;obtain⟨W0,s0,r0',b0,z0⟩:=y_b W p;obtain⟨Z,hZ⟩:∃Z,W.heap.size=Z:=⟨_,rfl⟩;rw[hZ] at s0 r0'
 have T0:Hid (TV w W0 w.heap.size (w.heap.size+1) Z h (some ⟨g,o,none⟩) n c l p):=⟨⟨r0.below b0,r1.below b0,z_a bW b0,by omega⟩,(hs.below bW).below b0,r0',by omega,Nat.le_refl _,by omega,fun x e=>by cases e;show g≠Z;omega⟩;clear hs hn hk r0 r1 bW zW b0 z0 r0' hp GL;have E:Hid (OO=some (l.set k (lrnP p))):=by rw[←EO.out,HP.out];exact rfl
 obtain⟨V1,e1,S1⟩:=T0.out.setB kb17 false;obtain⟨V2,e2,S2⟩:=S1.setB kb19 false;obtain⟨V3,e3,S3⟩:=S2.setB kb18 false;obtain⟨V4,e4,S4⟩:=S3.setB kb27 false;obtain⟨V5,e5,S5⟩:=S4.setN kn74 wi2;have S9:TV w V5 w.heap.size (w.heap.size+1) Z h (some ⟨g,o,none⟩) n c l (lrnP p):=S5;have T9:Hid (TV w V5 w.heap.size (w.heap.size+1) Z h (some ⟨g,o,none⟩) n c l (lrnP p)):=S9;clear S9 S1 S2 S3 S4 S5
 go_enter func123,ntmps123;have lt9:=T9.out.tre.var.tld;have lp9:=T9.out.pv.pld
 go_wp2_with fail
 refine (z_o h (some ⟨g,o,none⟩) n c (l) k _ V5 T9.out.sl HL.out.2.1 HL.out.2.2.1).mono ?_;rintro _ Y ⟨a8,c8,rfl,s8,f8,b8⟩;have FR8:Hid (Fro w (some ⟨g,o,none⟩) a8):=z_J (Or.inl rfl) f8 T9.out.tre.bel.size;clear f8;obtain⟨U,sU,h1,h2,gU⟩:=(T9.out.tre.below b8).tell (y:=.slice a8 n c8) rfl
 have G:Hid (RvAt U (w.heap.size+1) 39 (trc h (.slice a8 n c8))∧SlAt U a8 n c8 (OO.getD l)∧Below w.heap.size w U∧OO.isSome=true):=by
  rw[E.out];exact⟨h1,s8.keptT (T9.out.tre.below b8).out gU,h2,rfl⟩
 clear h1 h2 gU;go_wp2
 refine bodyPost_ret (z_i results123 _ _ _ _ _ rfl G.out.1) rfl ?_;exact⟨a8,c8,by rw[G.out.2.2.2];rfl,G.out.2.1,G.out.2.2.1,FR8.out⟩
end S14
end
section
namespace S14
open Go.RowKit
attribute [local go_sem ↓] ldP stP stB stU stW ldT stT st32 alP apE bs32
attribute [local go_sem] z_l
abbrev TRsN (w:World) (h:Hd) (n:Nat) (L:List Pt) (r:Ending) (w':World):Prop:=∃a' c',r=.returned (.agg (trc h (.slice a' n c')))∧SlAt w' a' n c' L∧(∀x,a'=some x→w.heap.size≤x.block)∧Below w.heap.size w w'
theorem x_M (h:Hd) (a:Option Addr) (n c:Nat) (l:List Pt) (k:Nat) (w:World) (hs:SlAt w a n c l) (hn:n≤1000) (hk:k<n) :
  Calls prog 160 #[.agg (trc h (.slice a n c)),.int .i64 (k:Int)] w fun r w'=>TRsN w h n (prpL l k) r w':=by
 obtain⟨g,o,rfl⟩:=hs.some' (by omega);have HL:Hid (l.length=n∧n≤1000∧k<n∧SlAt w (some ⟨g,o,none⟩) n c l):=⟨hs.len,hn,hk,hs⟩;obtain⟨W,hW,r0,r1,bW,zW⟩:=z_w w h (.slice (some ⟨g,o,none⟩) n c);have l0:=r0.tld;have H:Hid (TS w W w.heap.size (w.heap.size+1) h (.slice (some ⟨g,o,none⟩) n c)):=⟨r0,r1,bW,by omega⟩;have T:Hid _:=v_x (h:=h) (a:=some ⟨g,o,none⟩) (c:=c) (w:=W) hk;have hn1:n≤1000:=hn
 clear hs hn hk r0 r1 bW zW;go_enter func160,ntmps160
 go_wp2_with fail
 refine Calls.mono T.out ?_;rintro _ V ⟨rfl,bV⟩;have K:Hid (TS w V w.heap.size (w.heap.size+1) h (.slice (some ⟨g,o,none⟩) n c)):=H.out.below bV;obtain⟨B,hB⟩:∃B,V.heap.size=B:=⟨_,rfl⟩;have BB:Hid (w.heap.size+2≤B):=by have:=K.out.out.lt;rw[←hB];exact this
 have BV:Hid (B≤V.heap.size):=by rw[hB];exact Nat.le_refl _
 clear bV l0 hW H T hB
 go_wp2_with fail
 go_loopw [5,6] (fun v5 v6 wr=>∃i:Nat,i≤n∧v6=.int .i64 i∧Own wr B v5 ((l.take i).mapIdx (tcP k))∧TS w wr w.heap.size (w.heap.size+1) h (.slice (some ⟨g,o,none⟩) n c)∧B≤wr.heap.size) (fun _ v6 _=>n-(intOf v6).toNat)
 case atStart=>exact⟨0,by omega,rfl,Own.nil _ _,K.out,BV.out⟩
 case round=>
  obtain⟨i,hi,rfl,hO,hQ,hBw⟩:=hrel;have hin0:(0:Int)≤(i:Int):=by omega
  have d16:=hQ.var.t16;by_cases hit:i<n
  ·have hin1:(i:Int)<(n:Int):=by omega
   have hil:i<l.length:=by rw[HL.out.1];exact hit
   have lp:=(HL.out.2.2.2.below hQ.bel).ld (z_k hil);have hnx:=u_A (f:=tcP k) hil;obtain⟨p,hp⟩:∃p,gtP l i=p:=⟨_,rfl⟩;rw[hp] at lp hnx;by_cases hik:i=k
   ·skip
    obtain⟨Y0,y0,N0⟩:=PN.new wr p;obtain⟨pb,hpb⟩:∃z,wr.heap.size=z:=⟨_,rfl⟩;rw[hpb] at y0 N0;have hnb:((i:Int) != (k:Int))=false:=by subst hik;simp
    have N7:=N0;rw[show tcP k i p=p by unfold tcP;rw[if_pos hik]] at hnx;have l7:=N7.var.pld;have hB7:B≤Y0.heap.size:=Nat.le_trans hBw N7.bel.size;obtain⟨v',Y8,ap,o8,b8⟩:=(hO.below N7.bel).next hB7 (by simp;have:=HL.out.1;omega) (p);have bs7:=v_F (p) Y0;have S8:=hQ.below N7.bel
    have Z:Hid (Own Y8 B v' ((l.take (i+1)).mapIdx (tcP k))∧TS w Y8 w.heap.size (w.heap.size+1) h (.slice (some ⟨g,o,none⟩) n c)∧B≤Y8.heap.size):=by
     have hb2:=BB.out;exact⟨by rw[hnx];exact o8,⟨S8.var.belowB b8 (by omega),S8.out.belowB b8 (by omega),S8.bel.trans (b8.mono (by omega)),S8.hd⟩,Nat.le_trans hB7 b8.size⟩
    clear N0 N7 o8 b8 S8 hB7 hO hQ hBw hnx hik hp hil;go_wp2
    go_roundw
    case rel=>exact⟨i+1,by omega,by go_num,Z.out.1,Z.out.2.1,Z.out.2.2⟩
    case measure=>simp[intOf];omega
   ·skip
    obtain⟨Y0,y0,N0⟩:=PN.new wr p;obtain⟨pb,hpb⟩:∃z,wr.heap.size=z:=⟨_,rfl⟩;rw[hpb] at y0 N0;have hnb:((i:Int) != (k:Int))=true:=by simp;omega
    have hne:((i:Int)==(k:Int))=false:=by simp;omega
    obtain⟨Y1,y1,N7⟩:=N0.setB kb27 true;rw[show tcP k i p=p.setB 27 kb27 true by unfold tcP;rw[if_neg hik]] at hnx;have l7:=N7.var.pld;have hB7:B≤Y1.heap.size:=Nat.le_trans hBw N7.bel.size;obtain⟨v',Y8,ap,o8,b8⟩:=(hO.below N7.bel).next hB7 (by simp;have:=HL.out.1;omega) (p.setB 27 kb27 true);have bs7:=v_F (p.setB 27 kb27 true) Y1;have S8:=hQ.below N7.bel
    have Z:Hid (Own Y8 B v' ((l.take (i+1)).mapIdx (tcP k))∧TS w Y8 w.heap.size (w.heap.size+1) h (.slice (some ⟨g,o,none⟩) n c)∧B≤Y8.heap.size):=by
     have hb2:=BB.out;exact⟨by rw[hnx];exact o8,⟨S8.var.belowB b8 (by omega),S8.out.belowB b8 (by omega),S8.bel.trans (b8.mono (by omega)),S8.hd⟩,Nat.le_trans hB7 b8.size⟩
    clear N0 N7 o8 b8 S8 hB7 hO hQ hBw hnx hik hp hil;go_wp2
    go_roundw
    case rel=>exact⟨i+1,by omega,by go_num,Z.out.1,Z.out.2.1,Z.out.2.2⟩
    case measure=>simp[intOf];omega
  ·have hin:i=n:=by omega
   subst hin;have hin1:¬ (i:Int)<(i:Int):=by omega
   rw[List.take_of_length_le (by rw[HL.out.1];omega)] at hO;obtain⟨LL,hLL⟩:∃z,l.mapIdx (tcP k)=z:=⟨_,rfl⟩;rw[hLL] at hO;have hlS:LL.length=i:=by rw[←hLL,List.length_mapIdx,HL.out.1]
   obtain⟨a',c',hx,pa,hga⟩:=PA.of hO;rw[hlS] at hx pa;subst hx;obtain⟨X2,t2,rX2,gX2⟩:=hQ.var.tset (y:=.slice a' i c') rfl;have S2:TS w X2 w.heap.size (w.heap.size+1) h (.slice a' i c'):=⟨rX2,hQ.out.keptBut gX2 (by simp),gro hQ.bel gX2 (Nat.le_refl _) hQ.bel.size,hQ.hd⟩;have sl2:=pa.sl.keptT hQ.var gX2;have lX:=S2.var.tld;obtain⟨U,sU,h1,h2,gU⟩:=S2.tell (y:=.slice a' i c') rfl
   have G:Hid (RvAt U (w.heap.size+1) 39 (trc h (.slice a' i c'))∧SlAt U a' i c' (prpL l k)∧(∀x,a'=some x→w.heap.size≤x.block)∧Below w.heap.size w U):=by
    refine⟨h1,?_,fun x hx=>?_,h2⟩
    ·show SlAt U a' i c' (l.mapIdx (tcP k))
     rw[hLL];exact sl2.keptT S2.out gU
    ·have:=hga x.block (by rw[hx];rfl);have:=BB.out;omega
   clear hO hLL hlS pa hga rX2 gX2 S2 sl2 h1 h2 gU hQ;go_wp2
   refine bodyPost_ret (z_e rtT results160 _ _ _ _ rfl G.out.1 (z_c _ _)) rfl ?_;exact⟨a',c',rfl,G.out.2⟩
end S14
end
section
namespace S14
open Go.RowKit
section
variable {ops:Array Oper} {C:World→Prop} {a:Act} {o:Oper} {v:Value}
end
end S14
end
end Go.Proofs.YtlchejbggnbccaaGreat
