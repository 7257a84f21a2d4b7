/-
  Trees whose ports are changed: each with its three changes; Up; the definition's Has and Up. Their walks. And what follows from it here.
-/
import Derived.Test.YtlchejbggnbccaaGreatPbb
import Derived.Deep.RegionHeld3
import Derived.Test.YtlchejbggnbccaaGreatPba
namespace Go.Proofs.YtlchejbggnbccaaGreat
set_option linter.unusedVariables false
set_option linter.unusedSimpArgs false
set_option maxRecDepth 4000
set_option maxHeartbeats 40000000
open _root_.Go.Proofs.Tryz
section
namespace S9
open Go.RowKit
def upP (b:Bool) (p:Pt):Pt:=p.setB 2 rfl b
attribute [local go_sem ↓] ldP stP ldT stT apE st32 st4
end S9
end
section
namespace S9
open Go.RowKit
attribute [local go_sem ↓] ldP stP ldT stT apE st32 st4
theorem x_W (n lo hi:Int) (w:World):Calls prog 66 #[.int .i64 n,.int .i64 lo,.int .i64 hi] w fun r w'=>r=.returned (.bool (decide (lo≤n) && decide (n≤hi)))∧Below w.heap.size w w':=by
 go_enter func66,ntmps66;by_cases h1:lo≤n
 ·by_cases h2:n≤hi
  ·go_wp2
   go_ret;exact⟨by simp[h1,h2],Below.refl _ _⟩
  ·go_wp2
   go_ret;exact⟨by simp[h1,h2],Below.refl _ _⟩
 ·go_wp2
  go_ret;exact⟨by simp;omega,Below.refl _ _⟩
def upL (l:List Pt) (i:Int) (b:Bool):List Pt:=if 0≤i∧i<l.length then l.set i.toNat (upP b (gtP l i.toNat)) else l
theorem z_be (h:Hd) (a:Option Addr) (n c:Nat) (l:List Pt) (i:Int) (b:Bool) (w:World) (hs:SlAt w a n c l) (hn:n≤1000) :
  Calls prog 43 #[.agg (trc h (.slice a n c)),.int .i64 i,.bool b] w fun r w'=>∃v,r=.returned (.agg (trc h v))∧Own w' w.heap.size v (upL l i b)∧Below w.heap.size w w':=by
 obtain⟨W,hW,r0,r1,bW,zW⟩:=z_w w h (.slice a n c);have l0:=r0.tld;have H:Hid (SlAt W a n c l∧n≤1000∧l.length=n∧RvAt W w.heap.size 39 (trc h (.slice a n c))∧RvAt W (w.heap.size+1) 39 (trc zeroH (.slice none 0 0))∧Below w.heap.size w W∧W.heap.size=w.heap.size+2):=⟨hs.below bW,hn,hs.len,r0,r1,bW,zW⟩;clear hs hn r0 r1 bW zW;go_enter func43,ntmps43
 go_wp2_with fail
 refine (y_Y h a n c l W H.out.1 H.out.2.1).mono ?_;rintro _ W2 ⟨v,rfl,o2,b2⟩;obtain⟨W3,s3,r3,g3⟩:=(H.out.2.2.2.1.below b2).tst (g:=h) (y:=v) o2.one;have z2:=H.out.2.2.2.2.2.2;have o3:=o2.keptBut g3 (o2.apart (by omega));have q3:=(H.out.2.2.2.2.1.below b2).keptBut g3 (by simp);have b3:Below w.heap.size w W3:=gro (z_a H.out.2.2.2.2.2.1 b2) g3 (Nat.le_refl _) (by have:=b2.size;omega);clear b2 g3 l0
 have q3':=q3;obtain⟨av,cv,hv,sv,_⟩:=o3.form;obtain⟨X,hX⟩:∃X,X=l.length:=⟨_,rfl⟩;rw[←hX] at hv;have hx0:X≤1000:=by have:=H.out.2.1;have:=H.out.2.2.1;omega
 have c16:=r3.t16;rw[hv] at c16;have l3:=r3.tld;rw[hv] at l3;have G:Hid (RvAt W3 w.heap.size 39 (trc h v)∧RvAt W3 (w.heap.size+1) 39 (trc zeroH (.slice none 0 0))∧Below w.heap.size w W3∧Own W3 (w.heap.size+2) v l∧X=l.length∧v=.slice av X cv):=⟨r3,q3,b3,o3.base (by omega),hX,hv⟩;have hw1:IntKind.i64.wrap ((X:Int)-1)=(X:Int)-1:=IntWalk.i64_in _ (by omega);clear r3 q3 q3' b3 o2 o3 z2 sv hX hv
 go_wp2_with fail
 refine (x_W i 0 ((X:Int)-1) W3).mono ?_;rintro _ W4 ⟨rfl,b4⟩;by_cases hi:0≤i∧i<(X:Int)
 ·have eb:(decide (0≤i) && decide (i≤(X:Int)-1))=true:=by simp;omega
  rw[eb];clear l3 c16;have o4:=G.out.2.2.2.1.below b4;have r4:=G.out.1.below b4;have q4:=G.out.2.1.below b4;have b4':=z_a G.out.2.2.1 b4;obtain⟨k,hk⟩:∃k:Nat,i=(k:Int):=⟨i.toNat,by omega⟩;subst hk;have hkX:k<X:=by omega
  have hin0:(0:Int)≤(k:Int):=by omega
  have hin1:(k:Int)<(X:Int):=by omega
  have hXl:=G.out.2.2.2.2.1;rcases o4.pat with ⟨hv,hl⟩ | ⟨g,cc,hv,hg,hp⟩
  ·rw[hl] at hXl;simp at hXl;omega
  ·have c16:=r4.t16;rw[hv,← hXl] at c16;obtain⟨V,sV,pV,gV⟩:=hp.st1 (q:=k*77+2) (j:=2) (v:=.bool b) (z_k (i:=k) (by omega)) x_S.1 (by omega) rfl (y_x rfl) rfl;have r5:=r4.keptBut gV (by simp;omega);have q5:=q4.keptBut gV (by simp;omega);have l5:=r5.tld;obtain⟨W6,s6,r6,g6⟩:=q5.tst (g:=h) (y:=v) (by rw[hv];rfl);have p6:=pV.keptBut g6 (by simp;omega)
   have b6:Below w.heap.size w W6:=gro (gro b4' gV (by omega) b4'.size) g6 (by omega) (by have:=b4'.size;have:=gV.size;omega);have eu:l.set k ((gtP l k).set 2 (.bool b) (y_x rfl))=upL l (k:Int) b:=by
    unfold upL;rw[if_pos ⟨hin0,by omega⟩];rfl
   have ov:Own W6 w.heap.size v (upL l (k:Int) b):=by
    have:=p6.own (B:=w.heap.size) (by omega);rw[eu,← eu,List.length_set,eu,← hv] at this;exact this
   have F:Hid (RvAt W6 (w.heap.size+1) 39 (trc h v)∧Own W6 w.heap.size v (upL l (k:Int) b)∧Below w.heap.size w W6):=⟨r6,ov,b6⟩;clear hp pV gV r5 q5 r6 g6 p6 b6 eu ov r4 q4 o4 b4' hg b4 eb hv hXl;go_wp2
   refine bodyPost_ret (z_e rtT results43 _ _ _ _ rfl F.out.1 (z_c _ _)) rfl ?_;exact⟨v,rfl,F.out.2.1,F.out.2.2⟩
 ·have eb:(decide (0≤i) && decide (i≤(X:Int)-1))=false:=by simp;omega
  rw[eb];clear l3 c16;have o4:=G.out.2.2.2.1.below b4;have r4:=G.out.1.below b4;have q4:=G.out.2.1.below b4;have b4':=z_a G.out.2.2.1 b4;have l5:=r4.tld;obtain⟨W6,s6,r6,g6⟩:=q4.tst (g:=h) (y:=v) o4.one;have o6:=o4.keptBut g6 (o4.apart (by omega));have eu:upL l i b=l:=by
   unfold upL;rw[if_neg (by have:=G.out.2.2.2.2.1;omega)]
  have F:Hid (RvAt W6 (w.heap.size+1) 39 (trc h v)∧Own W6 w.heap.size v (upL l i b)∧Below w.heap.size w W6):=⟨r6,by rw[eu];exact o6.base (by omega),gro b4' g6 (by omega) b4'.size⟩;clear o4 r4 q4 b4' r6 g6 o6 eu b4 eb hi;go_wp2
  refine bodyPost_ret (z_e rtT results43 _ _ _ _ rfl F.out.1 (z_c _ _)) rfl ?_;exact⟨v,rfl,F.out.2.1,F.out.2.2⟩
end S9
end
section
namespace S9
open Go.RowKit
theorem z_aq (n l m:Int) (w:World) :
  Calls prog 129 #[.int .i64 n,.int .i64 l,.int .i64 m] w fun r w'=>r=.returned (.bool (decide (l≤n∧n≤m)))∧Below w.heap.size w w':=by
 by_cases h:l≤n
 all_goals
  go_enter func129,ntmps129;go_wp2
  go_ret;refine⟨z_r ?_,by go_grown⟩
  first|(simp[h];done)|(simp[h];omega)
def chkT (x h d:Int):Int:=if 6≤x∧x≤40∧1≤h∧h≤2∧4≤d∧d≤30∧x≤2*(d-1)∧2*(h+1)≤x then 0 else 60
theorem w_W {n l m:Int} {b:Bool} (h:decide (l≤n∧n≤m)=b) (w:World) :
  Calls prog 129 #[.int .i64 n,.int .i64 l,.int .i64 m] w fun r w'=>r=.returned (.bool b)∧Below w.heap.size w w':=by
 have:=z_aq n l m w
 rwa [h] at this
theorem z_fr (a x h d:Int) (w:World) (hx:0≤x∧x≤255) (hh:0≤h∧h≤255) (hd:0≤d∧d≤255) :
  Calls prog 85 #[.agg #[.int .u8 a,.int .u8 x,.int .u8 h,.int .u8 d]] w fun r w'=>r=.returned (.int .i64 (chkT x h d))∧Below w.heap.size w w':=by
 have q:=@Later.cell;cases p1:decide (6≤x∧x≤40)<;>cases p2:decide (1≤h∧h≤2)<;>cases p3:decide (4≤d∧d≤30)
 all_goals
  have P1:=hd1 (w_W p1);have P2:=hd1 (w_W p2);have P3:=hd1 (w_W p3);simp only[decide_eq_true_eq,decide_eq_false_iff_not] at p1 p2 p3;go_enter func85,ntmps85
  go_wp2_with fail
  refine wp_region_later (by kernel_rfl) (by kernel_rfl) ?_
  repeat (go_big_quiet_step (first|exact rfl))
  refine wpQuiet_nil ?_;intro _ hw';obtain⟨y,rfl⟩:=hw'
  go_wp2_with (first
   | (go_at_call 129;with_reducible refine Calls.on_later2 (P1.out _) ?_;intro y1)
   | (go_at_call 129;with_reducible refine Calls.on_later2 (P2.out _) ?_;intro y1)
   | (go_at_call 129;with_reducible refine Calls.on_later2 (P3.out _) ?_;intro y1))
  all_goals
   go_ret;refine⟨z_y ?_,y_Z (by go_grown) _⟩;unfold chkT
   split<;>omega
/-! ### costs -/
def badC (x:Int):Bool:=decide (x<1) || decide (200000000<x)
theorem z_cy (x:Int) (w:World):Calls prog 87 #[.int .u32 x] w fun r w'=>r=.returned (.bool (badC x))∧Below w.heap.size w w':=by
 go_enter func87,ntmps87;by_cases h1:x<1
 ·go_wp2
  go_ret;exact⟨by unfold badC;simp[h1],Below.refl _ _⟩
 ·by_cases h2:200000000<x
  ·go_wp2
   go_ret;exact⟨by unfold badC;simp[h2],Below.refl _ _⟩
  ·go_wp2
   go_ret;refine⟨?_,Below.refl _ _⟩;have:badC x=false:=by unfold badC;simp;omega
   rw[this];simp
   try omega
structure CsAt (W:World) (a:Option Addr) (n c:Nat) (l:List Int):Prop where
 len:l.length=n
 cap:n≤c
 max:c≤maxLen
 some':0<n→∃b o,a=some ⟨b,o,none⟩
 bnd:∀x∈l,(Lit.int .u32 x).wf=true
 cells:∀b o,a=some ⟨b,o,none⟩→∀j v,l[j]?=some v→W.cell? ⟨b,o+j,none⟩=some (.int .u32 v)
theorem CsAt.below {W W':World} {a:Option Addr} {n c:Nat} {l:List Int} (h:CsAt W a n c l) (hb:Below W.heap.size W W'):CsAt W' a n c l:=
 ⟨h.len,h.cap,h.max,h.some',h.bnd,fun b o e j v hv=>by
  have:=h.cells b o e j v hv;exact (hb.cell (World.block_lt_of_cell? W _ this)).trans this⟩
theorem z_hg {l:List Int} {i:Nat} (hi:i<l.length) (h:∀j x,j<i→l[j]?=some x→badC x=false) (e:badC l[i]=true):l.any badC=true:=by
 rw[List.any_eq_true];exact⟨l[i],List.getElem_mem _,e⟩
theorem z_jY {l:List Int} (h:∀j x,j<l.length→l[j]?=some x→badC x=false):l.any badC=false:=by
 rw[List.any_eq_false];intro x hx;obtain⟨j,hj,e⟩:=List.mem_iff_getElem.1 hx;have:=h j x hj (by rw[List.getElem?_eq_getElem hj,e]);simp[this]
theorem v_v (a:Option Addr) (n c:Nat) (l:List Int) (w:World) (hs:CsAt w a n c l) (hn:n≤1000) :
  Calls prog 130 #[.slice a n c,.func (.func 87) #[] #[]] w fun r w'=>(∃j:Int,r=.returned (.int .i64 j)∧(decide (0≤j)=l.any badC))∧Below w.heap.size w w':=by
 have H:=hd3 hs hn hs.len;have hnn:(n:Int)≤1000:=by omega
 clear hs hn;go_enter func130,ntmps130
 go_wp2_with fail
 go_loopw [8] (fun v8 wr=>∃i:Nat,i≤n∧v8=.int .i64 i∧(∀j x,j<i→l[j]?=some x→badC x=false)∧Below w.heap.size w wr) (fun v8 _=>n-(intOf v8).toNat)
 case atStart=>exact⟨0,by omega,rfl,fun j x hj=>by omega,Below.refl _ _⟩
 case round=>
  obtain⟨i,hi,rfl,ht,hB⟩:=hrel;have J:=hd2 ht hB;have hin0:(0:Int)≤(i:Int):=by omega
  by_cases hit:i<n
  ·have hin1:(i:Int)<(n:Int):=by omega
   have hl:i<l.length:=by rw[H.out.2.2];exact hit
   obtain⟨b,o,rfl⟩:=H.out.1.some' (by omega);have cx:=(H.out.1.below hB).cells b o rfl i l[i] (List.getElem?_eq_getElem hl);have E:Hid (i<l.length∧l[i]?=some l[i]):=⟨hl,List.getElem?_eq_getElem hl⟩;obtain⟨x,hx⟩:∃x,l[i]=x:=⟨_,rfl⟩;rw[hx] at cx E;have HX:Hid (∀h:i<l.length,l[i]=x):=fun _=>hx;clear ht hB hl hx
   go_wp2_with fail
   refine (z_cy x wr).mono ?_;rintro _ V ⟨rfl,bV⟩;cases hb:badC x
   ·have N:Hid (∀j x,j<i+1→l[j]?=some x→badC x=false):=fun j y hj hy=>by
     by_cases hji:j=i
     ·subst hji;rw[E.out.2] at hy;cases hy;exact hb
     ·exact J.out.1 j y (by omega) hy
    clear cx hb;go_wp2
    go_roundw
    case rel=>exact⟨i+1,by omega,by go_num,N.out,z_a J.out.2 bV⟩
    case measure=>simp[intOf];omega
   ·have N:Hid (l.any badC=true):=z_hg E.out.1 J.out.1 (by rw[HX.out E.out.1];exact hb);clear cx hb;go_wp2
    go_ret;exact⟨⟨(i:Int),rfl,by rw[N.out];simp⟩,z_a J.out.2 bV⟩
  ·have hin:i=n:=by omega
   subst hin;have hin1:¬ (i:Int)<(i:Int):=by omega
   clear ht hB;go_wp2
   go_ret;exact⟨⟨-1,rfl,by rw[z_jY (fun j x hj=>J.out.1 j x (by rw[←H.out.2.2];exact hj))];rfl⟩,J.out.2⟩
theorem x_l (a:Option Addr) (n c:Nat) (l:List Int) (w:World) (hs:CsAt w a n c l) (hn:n≤1000) :
  Calls prog 86 #[.slice a n c,.func (.func 87) #[] #[]] w fun r w'=>r=.returned (.bool (l.any badC))∧Below w.heap.size w w':=by
 go_enter func86,ntmps86
 go_wp2_with fail
 refine (v_v a n c l w hs hn).mono ?_;rintro _ V ⟨⟨j,rfl,hj⟩,bV⟩;have F:=hd1 hj;clear hj hs hn;go_wp2
 go_ret;exact⟨by rw[←F.out];rfl,bV⟩
end S9
end
section
namespace S9
open Go.RowKit
def cfc (c:Cf) (x:Value):Array Value:=(c.cl++[x]).toArray
theorem u_M (c:Cf) (x:Value):(cfc c x).size=7:=by simp[cfc,c.len,lenC]
theorem z_ku {c:Cf} {x v:Value} {j:Nat} (hv:c.cl[j]?=some v):(cfc c x)[j]?=some v:=by
 have:=(List.getElem?_eq_some_iff.1 hv).1;simp only[cfc,List.getElem?_toArray];rw[List.getElem?_append_left this];exact hv
theorem z_md (c:Cf) (x:Value):(cfc c x)[6]?=some x:=by
 have:=c.len;rw[lenC] at this;simp only[cfc,List.getElem?_toArray];rw[List.getElem?_append_right (by omega),this];rfl
theorem z_kt {c:Cf} {x:Value} (hx:x.oneCell'=true):∀v∈(cfc c x).toList,v.oneCell'=true:=by
 intro v hv;simp only[cfc,List.mem_append,List.mem_singleton] at hv;rcases hv with hv | rfl
 ·exact c.one v hv
 ·exact hx
theorem _root_.Go.Proofs.YtlchejbggnbccaaGreat.RvAt.cld {W:World} {b:Nat} {c:Cf} {x:Value} (hb:RvAt W b 27 (cfc c x)):(ldS 27 (.pointer (some ⟨b,0,none⟩))).run prog W=.ok (.agg (cfc c x)) W:=hb.ld rtC (u_M c x)
theorem _root_.Go.Proofs.YtlchejbggnbccaaGreat.RvAt.c6 {W:World} {b:Nat} {c:Cf} {x:Value} (hb:RvAt W b 27 (cfc c x)):W.cell? ⟨b,6,none⟩=some x:=hb.cell 6 _ (z_md c x)
theorem _root_.Go.Proofs.YtlchejbggnbccaaGreat.RvAt.cnum {W:World} {b j:Nat} {k:IntKind} {c:Cf} {x:Value} (hb:RvAt W b 27 (cfc c x)) (hk:kdC[j]?=some (some k)):W.cell? ⟨b,j,none⟩=some (.int k (c.nm j)):=hb.cell j _ (z_ku (c.num hk))
theorem _root_.Go.Proofs.YtlchejbggnbccaaGreat.RvAt.cT {W:World} {b:Nat} {c:Cf} {x:Value} (hb:RvAt W b 27 (cfc c x)):(ldS 24 (.pointer (some ⟨b,1,none⟩))).run prog W=.ok (.agg #[.int .u8 (c.nm 1),.int .u8 (c.nm 2),.int .u8 (c.nm 3),.int .u8 (c.nm 4)]) W:=
 run_loadAt_mid W b 1 24 [.int .u8 (c.nm 1),.int .u8 (c.nm 2),.int .u8 (c.nm 3),.int .u8 (c.nm 4)] _ (fun j v hv=>by
  match j,hv with
  | 0,hx=>cases hx;exact hb.cnum rfl
  | 1,hx=>cases hx;exact hb.cnum rfl
  | 2,hx=>cases hx;exact hb.cnum rfl
  | 3,hx=>cases hx;exact hb.cnum rfl
  | j+4,hx=>simp at hx) underlying24 rfl infoTm
theorem z_lQ (w:World) (c:Cf) (x:Value):∃W,w.alloc (.cells (cfc c x) 27)=W∧RvAt W w.heap.size 27 (cfc c x)∧Below w.heap.size w W∧W.heap.size=w.heap.size+1:=
 ⟨_,rfl,RvAt.new w _ _,(Below.refl _ _).alloc (Nat.le_refl _) _,by simp⟩
theorem _root_.Go.Proofs.YtlchejbggnbccaaGreat.Row.u8' {ks:List (Option IntKind)} (r:Row ks) {j:Nat} (h:ks[j]?=some (some .u8)):0≤r.nm j∧r.nm j≤255:=by
 have:=r.nwf h;simp[Lit.wf,IntKind.min,IntKind.max,IntKind.signed,IntKind.bits] at this;omega
abbrev Okc (i t0 t1 t2 t3 u:Int) (l:List Int):Prop:=i%281474976710656≠0∧chkT t1 t2 t3=0∧t0=0∧1≤u∧u≤10∧1≤l.length∧l.length≤8∧l.any badC=false
def okC (c:Cf) (l:List Int):Bool:=decide (Okc (c.nm 0) (c.nm 1) (c.nm 2) (c.nm 3) (c.nm 4) (c.nm 5) l)
def erC (b:Bool):Int:=match b with | true=>0 | false=>90
theorem z_mc (x h d:Int):chkT x h d=0∨chkT x h d=60:=by
 unfold chkT
 split
 ·exact Or.inl rfl
 ·exact Or.inr rfl
theorem ad0 (n:Int) (hn:0≤n∧n≤18446744073709551615):eq6 (n / 1099511627776%256) (n / 4294967296%256) (n / 16777216%256) (n / 65536%256) (n / 256%256) (n%256) 0 0 0 0 0 0=decide (n%281474976710656=0):=by
 unfold eq6;rw[decide_eq_decide]
 constructor
 ·rintro⟨h1,h2,h3,h4,h5,h6⟩;omega
 ·intro h;refine⟨?_,?_,?_,?_,?_,?_⟩<;>omega
attribute [local go_sem ↓] ldT stT ldC stC ldTm
theorem z_cv (c:Cf) (a:Option Addr) (n k:Nat) (l:List Int) (w:World) (hs:CsAt w a n k l) (hn:n≤1000) :
  Calls prog 64 #[.agg (cfc c (.slice a n k))] w fun r w'=>r=.returned (.int .i64 (erC (okC c l)))∧Below w.heap.size w w':=by
 obtain⟨W,hW,r0,bW,zW⟩:=z_lQ w c (.slice a n k);have H:=hd5 (hs.below bW) hn hs.len r0 bW;have B:Hid ((0≤c.nm 0∧c.nm 0≤18446744073709551615)∧(0≤c.nm 2∧c.nm 2≤255)∧(0≤c.nm 3∧c.nm 3≤255)∧(0≤c.nm 4∧c.nm 4≤255)∧(0≤c.nm 5∧c.nm 5≤255)):=⟨c.u64 rfl,c.u8' rfl,c.u8' rfl,c.u8' rfl,c.u8' rfl⟩;have c0:=r0.cnum (j:=0) rfl;have hnn:(n:Int)≤1000:=by omega
 have E:Hid (okC c l=decide (Okc (c.nm 0) (c.nm 1) (c.nm 2) (c.nm 3) (c.nm 4) (c.nm 5) l)):=rfl;clear hs hn r0 bW zW;go_enter func64,ntmps64
 go_wp2_with fail
 refine (y_y (c.nm 0) W B.out.1).mono ?_;rintro _ W1 ⟨rfl,b1⟩;have e0:=ad0 (c.nm 0) B.out.1;clear c0;have ct:=(H.out.2.2.2.1.below b1).cT;have B1:=hd1 b1;clear b1;by_cases k0:c.nm 0%281474976710656=0
 ·have e1:decide (c.nm 0%281474976710656=0)=true:=by simp[k0]
  rw[e1] at e0;have N:Hid (okC c l=false):=by rw[E.out,decide_eq_false_iff_not];exact fun h=>h.1 k0
  clear ct;go_wp2
  go_ret;exact⟨by rw[N.out];rfl,z_a H.out.2.2.2.2 B1.out⟩
 have e1:decide (c.nm 0%281474976710656=0)=false:=by simp[k0]
 rw[e1] at e0
 go_wp2_with fail
 refine (z_fr (c.nm 1) (c.nm 2) (c.nm 3) (c.nm 4) W1 B.out.2.1 B.out.2.2.1 B.out.2.2.2.1).mono ?_;rintro _ W2 ⟨rfl,b2⟩;have B2:=hd1 (z_a B1.out b2);have cA:=(H.out.2.2.2.1.below B2.out).cnum (j:=1) rfl;have cH:=(H.out.2.2.2.1.below B2.out).cnum (j:=5) rfl;clear b2 ct e0 e1;rcases z_mc (c.nm 2) (c.nm 3) (c.nm 4) with k1 | k1
 rotate_left
 ·rw[k1];have N:Hid (okC c l=false):=by rw[E.out,decide_eq_false_iff_not];exact fun h=>by have:=h.2.1;omega
  clear cA cH;go_wp2
  go_ret;exact⟨by rw[N.out];rfl,z_a H.out.2.2.2.2 B2.out⟩
 rw[k1];have K1:=hd1 k1;clear k1;by_cases k2:c.nm 1=0
 rotate_left
 ·have N:Hid (okC c l=false):=by rw[E.out,decide_eq_false_iff_not];exact fun h=>k2 h.2.2.1
  have k2b:(c.nm 1==0)=false:=by simpa using k2
  have k2n:(c.nm 1 != 0)=true:=by simpa using k2
  clear cH;go_wp2
  go_ret;exact⟨by rw[N.out];rfl,z_a H.out.2.2.2.2 B2.out⟩
 rw[k2] at cA;have hb5:=B.out.2.2.2.2;have hw5:IntKind.i64.wrap (c.nm 5)=c.nm 5:=IntWalk.i64_in _ (by omega)
 go_wp2_with fail
 refine (x_W (c.nm 5) 1 10 W2).mono ?_;rintro _ W3 ⟨rfl,b3⟩;have B3:=hd1 (z_a B2.out b3);have c6:=(H.out.2.2.2.1.below B3.out).c6;clear b3 cA cH;by_cases k3:1≤c.nm 5∧c.nm 5≤10
 rotate_left
 ·have eb:(decide (1≤c.nm 5) && decide (c.nm 5≤10))=false:=by simp;omega
  rw[eb];have N:Hid (okC c l=false):=by rw[E.out,decide_eq_false_iff_not];exact fun h=>k3 ⟨h.2.2.2.1,h.2.2.2.2.1⟩
  clear eb c6;go_wp2
  go_ret;exact⟨by rw[N.out];rfl,z_a H.out.2.2.2.2 B3.out⟩
 have eb:(decide (1≤c.nm 5) && decide (c.nm 5≤10))=true:=by simp;omega
 rw[eb];clear eb
 go_wp2_with fail
 refine (x_W n 1 8 W3).mono ?_;rintro _ W4 ⟨rfl,b4⟩;have B4:=hd1 (z_a B3.out b4);clear b4 c6;have c6:=(H.out.2.2.2.1.below B4.out).c6;by_cases k4:1≤n∧n≤8
 rotate_left
 ·have eb:(decide ((1:Int)≤n) && decide ((n:Int)≤8))=false:=by simp;omega
  rw[eb];have N:Hid (okC c l=false):=by rw[E.out,decide_eq_false_iff_not];exact fun h=>k4 (by have:=h.2.2.2.2.2.1;have:=h.2.2.2.2.2.2.1;have:=H.out.2.2.1;omega)
  clear eb c6;go_wp2
  go_ret;exact⟨by rw[N.out];rfl,z_a H.out.2.2.2.2 B4.out⟩
 have eb:(decide ((1:Int)≤n) && decide ((n:Int)≤8))=true:=by simp;omega
 rw[eb];clear eb
 go_wp2_with fail
 refine (x_l a n k l W4 (H.out.1.below B4.out) H.out.2.1).mono ?_;rintro _ W5 ⟨rfl,b5⟩;have B5:=hd1 (z_a B4.out b5);clear b5 c6;cases k5:l.any badC
 ·have N:Hid (okC c l=true):=by rw[E.out,decide_eq_true_iff];exact⟨k0,K1.out,k2,k3.1,k3.2,by have:=H.out.2.2.1;omega,by have:=H.out.2.2.1;omega,k5⟩
  go_wp2
  go_ret;exact⟨by rw[N.out];rfl,z_a H.out.2.2.2.2 B5.out⟩
 ·have N:Hid (okC c l=false):=by rw[E.out,decide_eq_false_iff_not];exact fun h=>by have:=h.2.2.2.2.2.2.2;rw[k5] at this;cases this
  go_wp2
  go_ret;exact⟨by rw[N.out];rfl,z_a H.out.2.2.2.2 B5.out⟩
end S9
end
section
namespace S9
open Go.RowKit
def newP (a b:Int):Pt:=
 if h:(Lit.int .u16 a).wf=true∧(Lit.int .u32 b).wf=true then (zeroP.set 0 (.int .u16 a) (z_z rfl h.1)).set 1 (.int .u32 b) (z_z rfl h.2) else zeroP
theorem z_jL {a b:Int} (ha:(Lit.int .u16 a).wf=true) (hb:(Lit.int .u32 b).wf=true):newP a b=(zeroP.set 0 (.int .u16 a) (z_z rfl ha)).set 1 (.int .u32 b) (z_z rfl hb):=dif_pos ⟨ha,hb⟩
def newPs (l:List Int):List Pt:=l.mapIdx fun i x=>newP (32769+(i:Int)) x
theorem z_et (l:List Int):(newPs l).length=l.length:=by simp[newPs]
theorem z_co {l:List Int} {i:Nat} (h:i<l.length):newPs (l.take (i+1))=newPs (l.take i)++[newP (32769+(i:Int)) l[i]]:=by
 have e:l.take (i+1)=l.take i++[l[i]]:=by rw[List.take_add_one,List.getElem?_eq_getElem h];rfl
 unfold newPs;rw[e,List.mapIdx_append];simp only[List.mapIdx_cons,List.mapIdx_nil,List.length_take];rw[Nat.min_eq_left (by omega),Nat.zero_add]
def newHl (c:Cf):List Value:=[.int .u64 (c.nm 0),.int .u8 (c.nm 1),.int .u8 (c.nm 2),.int .u8 (c.nm 3),.int .u8 (c.nm 4),.int .u8 (c.nm 5),.bool false,.int .u16 0,.int .u64 0,.int .u32 0,.int .u64 0,.int .u16 0,.int .u8 0,.int .u8 0,.int .u8 0,.int .u8 0]
def newH (c:Cf):Hd:=⟨newHl c,by
 refine⟨rfl,fun j k v hk hv=>?_⟩
 match j,hk,hv with
 | 0,hk,hv=>cases hk;cases hv;exact⟨_,rfl,c.nwf rfl⟩
 | 1,hk,hv=>cases hk;cases hv;exact⟨_,rfl,c.nwf rfl⟩
 | 2,hk,hv=>cases hk;cases hv;exact⟨_,rfl,c.nwf rfl⟩
 | 3,hk,hv=>cases hk;cases hv;exact⟨_,rfl,c.nwf rfl⟩
 | 4,hk,hv=>cases hk;cases hv;exact⟨_,rfl,c.nwf rfl⟩
 | 5,hk,hv=>cases hk;cases hv;exact⟨_,rfl,c.nwf rfl⟩
 | 6,hk,hv=>cases hk;cases hv;exact⟨_,rfl⟩
 | 7,hk,hv=>cases hk;cases hv;exact⟨_,rfl,by decide⟩
 | 8,hk,hv=>cases hk;cases hv;exact⟨_,rfl,by decide⟩
 | 9,hk,hv=>cases hk;cases hv;exact⟨_,rfl,by decide⟩
 | 10,hk,hv=>cases hk;cases hv;exact⟨_,rfl,by decide⟩
 | 11,hk,hv=>cases hk;cases hv;exact⟨_,rfl,by decide⟩
 | 12,hk,hv=>cases hk;cases hv;exact⟨_,rfl,by decide⟩
 | 13,hk,hv=>cases hk;cases hv;exact⟨_,rfl,by decide⟩
 | 14,hk,hv=>cases hk;cases hv;exact⟨_,rfl,by decide⟩
 | 15,hk,hv=>cases hk;cases hv;exact⟨_,rfl,by decide⟩
 | j+16,hk,hv=>simp[newHl] at hv⟩
def bdP (ps:Array (Nat×Value)):Sem Value:=Instr.build 74 ps
theorem bd55 (ps:Array (Nat×Value)):Instr.build 74 ps=bdP ps:=rfl
def bdT (ps:Array (Nat×Value)):Sem Value:=Instr.build 39 ps
theorem bd34 (ps:Array (Nat×Value)):Instr.build 39 ps=bdT ps:=rfl
def newC (a b:Int):List Value:=(zeroP.cl.set 0 (.int .u16 a)).set 1 (.int .u32 b)
theorem z_kx (a b:Int) (w:World):(bdP #[(0,.int .u16 a),(1,.int .u32 b)]).run prog w=.ok (.agg (newC a b).toArray) w:=by kernel_rfl
theorem z_lG {a b:Int} (ha:(Lit.int .u16 a).wf=true) (hb:(Lit.int .u32 b).wf=true) (w:World):(bdP #[(0,.int .u16 a),(1,.int .u32 b)]).run prog w=.ok (.agg (newP a b).cs) w:=by
 rw[z_kx,z_jL ha hb];rfl
theorem z_kw (i t0 t1 t2 t3 u:Int) (w:World):(bdT #[(0,.int .u64 i),(1,.agg #[.int .u8 t0,.int .u8 t1,.int .u8 t2,.int .u8 t3]),(2,.int .u8 u)]).run prog w=.ok (.agg #[.int .u64 i,.int .u8 t0,.int .u8 t1,.int .u8 t2,.int .u8 t3,.int .u8 u,.bool false,.int .u16 0,.int .u64 0,.int .u32 0,.int .u64 0,.int .u16 0,.int .u8 0,.int .u8 0,.int .u8 0,.int .u8 0,.slice none 0 0]) w:=by kernel_rfl
theorem z_lE (c:Cf) (w:World):(bdT #[(0,.int .u64 (c.nm 0)),(1,.agg #[.int .u8 (c.nm 1),.int .u8 (c.nm 2),.int .u8 (c.nm 3),.int .u8 (c.nm 4)]),(2,.int .u8 (c.nm 5))]).run prog w=.ok (.agg (trc (newH c) (.slice none 0 0))) w:=by
 rw[z_kw];rfl
theorem z_lD (w:World):(bdT #[]).run prog w=.ok (.agg (trc zeroH (.slice none 0 0))) w:=by
 have:(bdT #[]).run prog w=.ok (.agg zeroT) w:=by kernel_rfl
 rw[this,y_a]
end S9
end
section
namespace S9
open Go.RowKit
def hdN (b:Bool) (c:Cf):Hd:=match b with | true=>newH c | false=>zeroH
def psN (b:Bool) (l:List Int):List Pt:=match b with | true=>newPs l | false=>[]
theorem z_kI (w:World) (c:Cf) (x:Value):∃W,(w.alloc (.cells (cfc c x) 27)).alloc (.cells #[.int .u64 0,.int .u8 0,.int .u8 0,.int .u8 0,.int .u8 0,.int .u8 0,.bool false,.int .u16 0,.int .u64 0,.int .u32 0,.int .u64 0,.int .u16 0,.int .u8 0,.int .u8 0,.int .u8 0,.int .u8 0,.slice none 0 0] 39)=W∧RvAt W w.heap.size 27 (cfc c x)∧RvAt W (w.heap.size+1) 39 (trc zeroH (.slice none 0 0))∧Below w.heap.size w W∧W.heap.size=w.heap.size+2:=by
 obtain⟨A,hA⟩:∃A,w.alloc (.cells (cfc c x) 27)=A:=⟨_,rfl⟩;have bA:Below w.heap.size w A:=by rw[←hA];exact (Below.refl _ _).alloc (Nat.le_refl _) _
 have rA:RvAt A w.heap.size 27 (cfc c x):=by rw[←hA];exact RvAt.new w _ _
 have zA:A.heap.size=w.heap.size+1:=by rw[←hA];simp
 rw[hA];have bB:Below A.heap.size A (A.alloc (.cells zeroT 39)):=(Below.refl _ _).alloc (Nat.le_refl _) _;refine⟨_,rfl,rA.below bB,?_,z_a bA bB,by simp[zA]⟩;rw[←zA,← y_a];exact RvAt.new A _ _
theorem z_lR (W:World) (h:Hd):∃W',(stS 39 (.pointer (some ⟨W.heap.size,0,none⟩)) (.agg (trc h (.slice none 0 0)))).run prog (W.alloc (.cells #[.int .u64 0,.int .u8 0,.int .u8 0,.int .u8 0,.int .u8 0,.int .u8 0,.bool false,.int .u16 0,.int .u64 0,.int .u32 0,.int .u64 0,.int .u16 0,.int .u8 0,.int .u8 0,.int .u8 0,.int .u8 0,.slice none 0 0] 39))=.ok () W'∧RvAt W' W.heap.size 39 (trc h (.slice none 0 0))∧Below W.heap.size W W'∧W'.heap.size=W.heap.size+1:=
 z_E rtT W zeroT _ rfl (z_c _ _) (x_A rfl)
attribute [local go_sem ↓] ldP stP ldT stT apE st32 ldC stC ldTm bd55 bd34 bs32
theorem wf16 {n:Int} (h:0≤n∧n≤65535):(Lit.int .u16 n).wf=true:=by simp[Lit.wf,IntKind.min,IntKind.max,IntKind.signed,IntKind.bits];omega
structure NSt (w U:World) (q b:Nat) (h:Hd) (v:Value) (ls:List Pt):Prop where
 var:RvAt U q 39 (trc h v)
 own:Own U b v ls
 bel:Below w.heap.size w U
 lt:q<b
theorem NSt.app {w U:World} {q b:Nat} {h:Hd} {v:Value} {ls:List Pt} (s:NSt w U q b h v ls) (hw:w.heap.size≤q) (hb:b≤U.heap.size) (hl:ls.length≤1000) (p:Pt) :
  ∃v' X Y,(apS 37 #[v,.slice (some ⟨U.heap.size,0,none⟩) 1 1]).run prog (U.alloc (.cells p.cs 74))=.ok v' X∧(stS 37 (.pointer (some ⟨q,16,none⟩)) v').run prog X=.ok () Y∧NSt w Y q b h v' (ls++[p])∧b≤Y.heap.size∧U.grownBy X v.ownBlock∧(∀z,z<q→Y.heap[z]?=U.heap[z]?):=by
 obtain⟨A,hA⟩:∃A,U.alloc (.cells p.cs 74)=A:=⟨_,rfl⟩;have bA:Below U.heap.size U A:=by rw[←hA];exact (Below.refl _ _).alloc (Nat.le_refl _) _
 have sA:SlAt A (some ⟨U.heap.size,0,none⟩) 1 1 [p]:=by rw[←hA];exact one_new U p
 have zA:b≤A.heap.size:=Nat.le_trans hb bA.size;obtain⟨v',X,ap,o2,g2⟩:=(s.own.below bA).app sA (by simp;omega) zA 37;have ob:∀j,v.ownBlock=some j→b≤j:=fun j e=>by
  rcases s.own.pat with ⟨rfl,_⟩ | ⟨g,cc,rfl,hg,_⟩
  ·cases e
  ·cases e;exact hg
 have rX:=(s.var.below bA).keptBut g2 (fun e=>by have:=ob _ e.symm;have:=s.lt;omega);obtain⟨Y,sY,rY,gY⟩:=rX.tset o2.one;have oY:=o2.keptBut gY (o2.apart s.lt);have b1:Below w.heap.size w X:=(z_a s.bel bA).trans (z_h g2 (by have:=(z_a s.bel bA).size;omega) (fun j e=>by have:=ob j e;have:=s.lt;omega))
 refine⟨v',X,Y,by rw[hA];exact ap,sY,⟨rY,oY,gro b1 gY hw b1.size,s.lt⟩,by have:=g2.size;have:=gY.size;omega,?_,fun z hz=>?_⟩;rotate_left
 ·have hq:=(s.var).lt;rw[gY.block z (by have:=g2.size;have:=bA.size;omega) (by simp;omega),g2.block z (by have:=bA.size;omega) (fun e=>by have:=ob z e.symm;have:=s.lt;omega),bA.block z (by omega)]
 exact⟨g2.os.trans bA.os,g2.tape.trans bA.tape,g2.output.trans bA.output,Nat.le_trans bA.size g2.size,fun i hi hne=>(g2.block i (Nat.lt_of_lt_of_le hi bA.size) hne).trans (bA.block i hi)⟩
theorem z_jK (c:Cf) (a:Option Addr) (n k:Nat) (l:List Int) (w:World) (hs:CsAt w a n k l) (hn:n≤1000) :
  Calls prog 39 #[.agg (cfc c (.slice a n k))] w fun r w'=>∃v,r=.returned (.tuple #[.agg (trc (hdN (okC c l) c) v),.int .i64 (erC (okC c l))])∧Own w' w.heap.size v (psN (okC c l) l)∧Below w.heap.size w w':=by
 obtain⟨W,hW,r0,r1,bW,zW⟩:=z_kI w c (.slice a n k);have H:=hd7 (hs.below bW) hn hs.len r0 r1 bW zW;have hnn:(n:Int)≤1000:=by omega
 have l0:=r0.cld;clear hs hn r0 r1 bW zW;go_enter func39,ntmps39
 go_wp2_with fail
 refine (z_cv c a n k l W H.out.1 H.out.2.1).mono ?_;rintro _ W1 ⟨rfl,b1⟩;have B1:=hd1 b1;clear b1 l0;obtain⟨ok,hok⟩:∃z,okC c l=z:=⟨_,rfl⟩;rw[hok];have OK:=hd1 hok;clear hok;cases ok
 ·have q1:=H.out.2.2.2.2.1.below B1.out;obtain⟨W2,s2,r2,g2⟩:=q1.tst (g:=zeroH) (y:=.slice none 0 0) rfl;have bn:=z_lD;have F:Hid (RvAt W2 (w.heap.size+1) 39 (trc zeroH (.slice none 0 0))∧Below w.heap.size w W2):=⟨r2,gro (z_a H.out.2.2.2.2.2.1 B1.out) g2 (by omega) (z_a H.out.2.2.2.2.2.1 B1.out).size⟩;clear q1 r2 g2;go_wp2
  refine bodyPost_ret (z_d rtT results39 _ _ _ _ rfl F.out.1 (z_c _ _)) rfl ?_;exact⟨.slice none 0 0,by rw[OK.out];rfl,by rw[OK.out];exact Own.nil _ _,F.out.2⟩
 ·have q0:=H.out.2.2.2.1.below B1.out;have ci:=q0.cnum (j:=0) rfl;have ct:=q0.cT;have ch:=q0.cnum (j:=5) rfl;have bt:=z_lE c;obtain⟨T,sT,rT,bT,zT⟩:=z_lR W1 (newH c);obtain⟨q,hq⟩:∃q,W1.heap.size=q:=⟨_,rfl⟩;rw[hq] at sT rT zT;have z1:=H.out.2.2.2.2.2.2;have z2:=B1.out.size;have c6:=(q0.below bT).c6
  have G:Hid (NSt w T q (q+1) (newH c) (.slice none 0 0) []∧RvAt T w.heap.size 27 (cfc c (.slice a n k))∧RvAt T (w.heap.size+1) 39 (trc zeroH (.slice none 0 0))∧CsAt T a n k l∧w.heap.size+2≤q∧T.heap.size=q+1∧Below w.heap.size w T):=
   ⟨⟨rT,Own.nil _ _,z_a (z_a H.out.2.2.2.2.2.1 B1.out) bT,by omega⟩,q0.below bT,(H.out.2.2.2.2.1.below B1.out).below bT,(H.out.1.below B1.out).below bT,by omega,by omega,z_a (z_a H.out.2.2.2.2.2.1 B1.out) bT⟩
  clear q0 rT bT zT z1 z2
  go_wp2_with fail
  clear ci ct ch bt sT
  go_loopw [24] (fun v24 wr=>∃i:Nat,i≤n∧v24=.int .i64 i∧∃v,NSt w wr q (q+1) (newH c) v (newPs (l.take i))∧q+1≤wr.heap.size∧(∀z,z<q→wr.heap[z]?=T.heap[z]?)) (fun v24 _=>n-(intOf v24).toNat)
  case atStart=>exact⟨0,by omega,rfl,_,G.out.1,by have:=G.out.2.2.2.2.2.1;omega,fun _ _=>rfl⟩
  case round=>
   obtain⟨i,hi,rfl,v,hS,hz,hk⟩:=hrel;have hin0:(0:Int)≤(i:Int):=by omega
   have kc:RvAt wr w.heap.size 27 (cfc c (.slice a n k)):=(hk _ (by have:=G.out.2.2.2.2.1;omega)).trans G.out.2.1;have kr:RvAt wr (w.heap.size+1) 39 (trc zeroH (.slice none 0 0)):=(hk _ (by have:=G.out.2.2.2.2.1;omega)).trans G.out.2.2.1;have J:=hd5 hS hz kr kc hk;by_cases hit:i<n
   ·have hin1:(i:Int)<(n:Int):=by omega
    have hl:i<l.length:=by rw[H.out.2.2.1];exact hit
    obtain⟨b,o,rfl⟩:=H.out.1.some' (by omega);obtain⟨x,hx⟩:∃x,l[i]=x:=⟨_,rfl⟩;have hxw:(Lit.int .u32 x).wf=true:=by rw[←hx];exact H.out.1.bnd _ (List.getElem_mem _)
    have cx:=G.out.2.2.2.1.cells b o rfl i x (by rw[List.getElem?_eq_getElem hl,hx]);have cx2:=H.out.1.cells b o rfl i x (by rw[List.getElem?_eq_getElem hl,hx]);have hbq:b<W.heap.size:=World.block_lt_of_cell? W _ cx2;have cw:wr.cell? ⟨b,o+i,none⟩=some (.int .u32 x):=(World.cell?_of_block (hk b (by have:=G.out.2.2.2.2.1;have:=H.out.2.2.2.2.2.2;omega))).trans cx
    have hw1:IntKind.u16.wrap (i:Int)=(i:Int):=IntWalk.u16_in _ (by omega);have hw2:IntKind.u16.wrap (32769+(i:Int))=32769+(i:Int):=IntWalk.u16_in _ (by omega);have hw3:IntKind.i64.wrap (32769+(i:Int))=32769+(i:Int):=IntWalk.i64_in _ (by omega);have bp:=z_lG (wf16 (n:=32769+(i:Int)) (by omega)) hxw;have bs:=v_F (newP (32769+(i:Int)) x);have t16:=hS.var.t16
    obtain⟨v',X,Y,ap,sY,nY,zY,gX,kY⟩:=hS.app (by have:=G.out.2.2.2.2.1;omega) hz (by rw[z_et,List.length_take];have:=H.out.2.1;have:=H.out.2.2.1;omega) (newP (32769+(i:Int)) x);have bY:∀z,z<q→Y.heap[z]?=T.heap[z]?:=fun z hz=>(kY z hz).trans (hk z hz);have N:Hid (NSt w Y q (q+1) (newH c) v' (newPs (l.take (i+1)))∧q+1≤Y.heap.size∧(∀z,z<q→Y.heap[z]?=T.heap[z]?)):=⟨by rw[z_co hl,hx];exact nY,zY,bY⟩
    clear hS hz hk kc kr hl hx cx cx2 hbq nY zY gX kY bY hxw;go_wp2
    go_roundw
    case rel=>exact⟨i+1,by omega,by go_num,v',N.out.1,N.out.2.1,N.out.2.2⟩
    case measure=>simp[intOf];omega
   ·have hin:i=n:=by omega
    subst hin;have hin1:¬ (i:Int)<(i:Int):=by omega
    have lt:=hS.var.tld;obtain⟨Y,sY,rY,gY⟩:=kr.tst (g:=newH c) (y:=v) hS.own.one;have oY:=hS.own.keptBut gY (hS.own.apart (by have:=G.out.2.2.2.2.1;omega));have bY:=gro hS.bel gY (by omega) hS.bel.size;rw[List.take_of_length_le (by rw[H.out.2.2.1];omega)] at oY
    have F:Hid (RvAt Y (w.heap.size+1) 39 (trc (newH c) v)∧Own Y w.heap.size v (newPs l)∧Below w.heap.size w Y):=⟨rY,oY.base (by have:=G.out.2.2.2.2.1;omega),bY⟩;clear hS hz hk kc kr rY gY oY bY;go_wp2
    refine bodyPost_ret (z_d rtT results39 _ _ _ _ rfl F.out.1 (z_c _ _)) rfl ?_;exact⟨v,by rw[OK.out];rfl,by rw[OK.out];exact F.out.2.1,F.out.2.2⟩
end S9
end
end Go.Proofs.YtlchejbggnbccaaGreat
