/-
  Trees whose ports are changed: each with its three changes; Up; the definition's Has and Up. Their walks. And what follows from it here.
-/
import Derived.Test.YtlchejbggnbccaaGreatPbb
import Derived.Deep.Cut
import Derived.Deep.CutRange
namespace Go.Proofs.YtlchejbggnbccaaGreat
set_option linter.unusedVariables false
set_option linter.unusedSimpArgs false
set_option maxRecDepth 4000
set_option maxHeartbeats 40000000
open _root_.Go.Proofs.Tryz
section
namespace S13
open Go.RowKit
def mapTo (f:Pt→Pt) (l:List Pt) (i:Nat):List Pt:=(l.take i).map f++l.drop i
theorem u_u {f:Pt→Pt} {l:List Pt} {i:Nat} (h:i<l.length):(mapTo f l i)[i]?=some (gtP l i):=by
 rw[←z_k h];unfold mapTo;rw[List.getElem?_append_right (by simp;omega),List.length_map,List.length_take,Nat.min_eq_left (by omega),Nat.sub_self,List.getElem?_drop];rfl
theorem w_i {f:Pt→Pt} {l:List Pt} {i:Nat} (h:i<l.length):(mapTo f l i).set i (f (gtP l i))=mapTo f l (i+1):=by
 unfold mapTo;have e:((l.take i).map f).length=i:=by simp;omega
 have hg:gtP l i=l[i]:=by
  have:=z_k h;rw[List.getElem?_eq_getElem h] at this;exact (Option.some.inj this).symm
 rw[List.set_append_right _ _ (by omega),e,Nat.sub_self,List.drop_eq_getElem_cons h,zB,List.take_add_one,List.getElem?_eq_getElem h,hg,List.map_append,List.append_assoc];rfl
theorem v_t (f:Pt→Pt) (l:List Pt):mapTo f l l.length=l.map f:=by simp[mapTo]
theorem w_h (f:Pt→Pt) (l:List Pt):mapTo f l 0=l:=by simp[mapTo]
attribute [local go_sem ↓] ldP stP ldT stT apE st32 st4
def syncP (p:Pt):Pt:=p.setB 24 kb24 true
def rerP (p:Pt):Pt:=p.setB 20 kb20 true
theorem z_hy:Chg 314 syncP:=by
 intro W g c i q l p hp hi hq;obtain⟨V,s,hV,gV⟩:=hp.st1 (q:=q+24) (j:=24) (v:=.bool true) hi x_S.1 (by omega) rfl (y_x rfl) (by rw[hq]);have F:=hd2 hV gV;clear hV gV hp hi hq;go_enter func314,ntmps314;go_wp2
 go_end0
 exact⟨rfl,F.out.1,F.out.2⟩
theorem z_kp:Chg 310 rerP:=by
 intro W g c i q l p hp hi hq;obtain⟨V,s,hV,gV⟩:=hp.st1 (q:=q+20) (j:=20) (v:=.bool true) hi x_S.1 (by omega) rfl (y_x rfl) (by rw[hq]);have F:=hd2 hV gV;clear hV gV hp hi hq;go_enter func310,ntmps310;go_wp2
 go_end0
 exact⟨rfl,F.out.1,F.out.2⟩
theorem z_bR (F:Nat) (f:Pt→Pt) (hF:Chg F f) (hc:∀(x:Value) (V:World),(callFunc F #[x]).run prog V=.ok (.enter F #[x]) V) (h:Hd) (a:Option Addr) (n c:Nat) (l:List Pt) (w:World) (hs:SlAt w a n c l) (hn:n≤1000) :
  Calls prog 70 #[.agg (trc h (.slice a n c)),.func (.func F) #[] #[]] w fun r w'=>∃v,r=.returned (.agg (trc h v))∧Own w' w.heap.size v (l.map f)∧Below w.heap.size w w':=by
 obtain⟨W,hW,r0,r1,bW,zW⟩:=z_w w h (.slice a n c);have l0:=r0.tld;have H:=hd7 (hs.below bW) hn hs.len r0 r1 bW zW;clear hs hn r0 r1 bW zW;go_enter func70,ntmps70
 go_wp2_with fail
 refine (y_Y h a n c l W H.out.1 H.out.2.1).mono ?_;rintro _ W2 ⟨v,rfl,o2,b2⟩;obtain⟨W3,s3,r3,g3⟩:=(H.out.2.2.2.1.below b2).tst (g:=h) (y:=v) o2.one;have z2:=H.out.2.2.2.2.2.2;have o3:=o2.keptBut g3 (o2.apart (by omega));have q3:=(H.out.2.2.2.2.1.below b2).keptBut g3 (by simp);have b3:Below w.heap.size w W3:=gro (z_a H.out.2.2.2.2.2.1 b2) g3 (Nat.le_refl _) (by have:=b2.size;omega);clear b2 g3 l0
 rcases o3.pat with ⟨rfl,rfl⟩ | ⟨g,cc,rfl,hg,hp⟩
 ·have c16:=r3.t16;obtain⟨W4,s4,r4,g4⟩:=q3.tst (g:=h) (y:=.slice none 0 0) rfl;have l3:=r3.tld;have G:=hd2 r4 (gro b3 g4 (by omega) b3.size);clear r3 q3 b3 r4 g4 o2 o3 z2
  go_wp2_with fail
  go_rounds 1
  refine bodyPost_ret (z_e rtT results70 _ _ _ _ rfl G.out.1 (z_c _ _)) rfl ?_;exact⟨_,rfl,Own.nil _ _,G.out.2⟩
 ·have hl:=H.out.2.2.1;have hn1:=H.out.2.1;have G:Hid (RvAt W3 w.heap.size 39 (trc h (.slice (some ⟨g,0,none⟩) l.length cc))∧RvAt W3 (w.heap.size+1) 39 (trc zeroH (.slice none 0 0))∧Below w.heap.size w W3∧PAt W3 g cc l∧w.heap.size+2≤g):=⟨r3,q3,b3,hp,by omega⟩;have c16:=r3.t16;obtain⟨X,hX⟩:∃X,X=l.length:=⟨_,rfl⟩;rw[←hX] at c16;have hx0:X≤1000:=by omega
  have GX:=hd1 hX;clear r3 q3 b3 hp hg hl hn1 o2 o3 z2 hX
  go_wp2_with fail
  go_loopw [5,11] (fun v5 v11 wr=>∃i:Nat,i≤X∧v11=.int .i64 i∧PAt wr g cc (mapTo f l i)∧W3.grownBy wr (some g)) (fun _ v11 _=>X-(intOf v11).toNat)
  case atStart=>exact⟨0,by omega,rfl,by rw[w_h];exact G.out.2.2.2.1,World.grownBy.refl _ _⟩
  case round=>
   obtain⟨i,hi,rfl,hpi,hgi⟩:=hrel;have J:=hd2 hpi hgi;have hr:=G.out.1.keptBut hgi (by have:=G.out.2.2.2.2;simp;omega);by_cases hit:i<X
   ·have hin0:(0:Int)≤(i:Int):=by omega
    have hin1:(i:Int)<(X:Int):=by omega
    have c16:=hr.t16;rw[←GX.out] at c16;clear hpi hgi hr
    go_wp2_with fail
    refine (hF wr g cc i (i*77) (mapTo f l i) (gtP l i) J.out.1 (u_u (by rw[←GX.out];exact hit)) rfl).mono ?_;rintro _ V ⟨rfl,pV,gV⟩;rw[w_i (by rw[←GX.out];exact hit)] at pV;go_wp2
    go_roundw
    case rel=>exact⟨i+1,by omega,by go_num,pV,z_n J.out.2 gV⟩
    case measure=>simp[intOf];omega
   ·have hin:i=X:=by omega
    subst hin;have hin1:¬ (i:Int)<(i:Int):=by omega
    have l3:=hr.tld;have q3:=G.out.2.1.keptBut hgi (by have:=G.out.2.2.2.2;simp;omega);obtain⟨W4,s4,r4,g4⟩:=q3.tst (g:=h) (y:=.slice (some ⟨g,0,none⟩) l.length cc) rfl;have pe:=hpi.keptBut g4 (by have:=G.out.2.2.2.2;simp;omega);rw[GX.out,v_t] at pe
    have be:Below w.heap.size w W4:=gro (gro G.out.2.2.1 hgi (by have:=G.out.2.2.2.2;omega) G.out.2.2.1.size) g4 (by omega) (by have:=G.out.2.2.1.size;have:=hgi.size;omega);have K:=hd3 r4 pe be;clear hpi hgi hr q3 r4 g4 pe be;go_wp2
    refine bodyPost_ret (z_e rtT results70 _ _ _ _ rfl K.out.1 (z_c _ _)) rfl ?_;refine⟨_,rfl,?_,K.out.2.2⟩;have:=K.out.2.1.own (B:=w.heap.size) (by have:=G.out.2.2.2.2;omega);rw[List.length_map] at this;exact this
theorem z_lZ (x:Value) (V:World):(callFunc 314 #[x]).run prog V=.ok (.enter 314 #[x]) V:=by go_simp
theorem z_lY (x:Value) (V:World):(callFunc 310 #[x]).run prog V=.ok (.enter 310 #[x]) V:=by go_simp
end S13
end
section
namespace S13
open Go.RowKit
attribute [local go_sem ↓] ldP stP ldT stT apE st32 st4
theorem z_fK (h:Hd) (a:Option Addr) (n c:Nat) (l:List Pt) (w:World) (hs:SlAt w a n c l) (hn:n≤1000) :
  Calls prog 309 #[.agg (trc h (.slice a n c))] w fun r w'=>∃v,r=.returned (.agg (trc h v))∧Own w' w.heap.size v (l.map syncP)∧Below w.heap.size w w':=by
 obtain⟨W,hW,r0,r1,bW,zW⟩:=z_w w h (.slice a n c);have l0:=r0.tld;have H:Hid (SlAt W a n c l∧n≤1000∧RvAt W (w.heap.size+1) 39 (trc zeroH (.slice none 0 0))∧Below w.heap.size w W∧W.heap.size=w.heap.size+2):=⟨hs.below bW,hn,r1,bW,zW⟩;clear hs hn r0 r1 bW zW;go_enter func309,ntmps309
 go_wp2_with fail
 refine (z_bR 314 syncP z_hy z_lZ h a n c l W H.out.1 H.out.2.1).mono ?_;rintro _ W2 ⟨v,rfl,o2,b2⟩;obtain⟨W3,s3,r3,g3⟩:=(H.out.2.2.1.below b2).tst (g:=h) (y:=v) o2.one;have z2:=H.out.2.2.2.2;have o3:=o2.keptBut g3 (o2.apart (by omega));have b3:Below w.heap.size w W3:=gro (z_a H.out.2.2.2.1 b2) g3 (by omega) (by have:=b2.size;omega)
 have F:Hid (RvAt W3 (w.heap.size+1) 39 (trc h v)∧Own W3 w.heap.size v (l.map syncP)∧Below w.heap.size w W3):=⟨r3,o3.base (by omega),b3⟩;clear b2 g3 l0 o2 o3 z2 b3 r3;go_wp2
 refine bodyPost_ret (z_e rtT results309 _ _ _ _ rfl F.out.1 (z_c _ _)) rfl ?_;exact⟨v,rfl,F.out.2.1,F.out.2.2⟩
theorem z_iW (h:Hd) (a:Option Addr) (n c:Nat) (l:List Pt) (w:World) (hs:SlAt w a n c l) (hn:n≤1000) :
  Calls prog 294 #[.agg (trc h (.slice a n c))] w fun r w'=>∃v,r=.returned (.agg (trc h v))∧Own w' w.heap.size v (l.map rerP)∧Below w.heap.size w w':=by
 obtain⟨W,hW,r0,r1,bW,zW⟩:=z_w w h (.slice a n c);have l0:=r0.tld;have H:Hid (SlAt W a n c l∧n≤1000∧RvAt W (w.heap.size+1) 39 (trc zeroH (.slice none 0 0))∧Below w.heap.size w W∧W.heap.size=w.heap.size+2):=⟨hs.below bW,hn,r1,bW,zW⟩;clear hs hn r0 r1 bW zW;go_enter func294,ntmps294
 go_wp2_with fail
 refine (z_bR 310 rerP z_kp z_lY h a n c l W H.out.1 H.out.2.1).mono ?_;rintro _ W2 ⟨v,rfl,o2,b2⟩;obtain⟨W3,s3,r3,g3⟩:=(H.out.2.2.1.below b2).tst (g:=h) (y:=v) o2.one;have z2:=H.out.2.2.2.2;have o3:=o2.keptBut g3 (o2.apart (by omega));have b3:Below w.heap.size w W3:=gro (z_a H.out.2.2.2.1 b2) g3 (by omega) (by have:=b2.size;omega)
 have F:Hid (RvAt W3 (w.heap.size+1) 39 (trc h v)∧Own W3 w.heap.size v (l.map rerP)∧Below w.heap.size w W3):=⟨r3,o3.base (by omega),b3⟩;clear b2 g3 l0 o2 o3 z2 b3 r3;go_wp2
 refine bodyPost_ret (z_e rtT results294 _ _ _ _ rfl F.out.1 (z_c _ _)) rfl ?_;exact⟨v,rfl,F.out.2.1,F.out.2.2⟩
theorem z_dq (h:Hd) (a:Option Addr) (n c:Nat) (l:List Pt) (w:World) (hs:SlAt w a n c l) (hn:n≤1000) :
  Calls prog 197 #[.agg (trc h (.slice a n c))] w fun r w'=>∃v,r=.returned (.agg (trc h v))∧Own w' w.heap.size v (l.map syncP)∧Below w.heap.size w w':=by
 obtain⟨W,hW,r0,r1,bW,zW⟩:=z_w w h (.slice a n c);have l0:=r0.tld;have H:=hd7 (hs.below bW) hn hs.len r0 r1 bW zW;clear hs hn r0 r1 bW zW;go_enter func197,ntmps197
 go_wp2_with fail
 refine (v_h h a n c l W H.out.1 H.out.2.1).mono ?_;rintro _ W2 ⟨v,rfl,o2,b2⟩;obtain⟨W3,s3,r3,g3⟩:=(H.out.2.2.2.1.below b2).tst (g:=h) (y:=v) o2.one;have z2:=H.out.2.2.2.2.2.2;have o3:=o2.keptBut g3 (o2.apart (by omega));have q3:=(H.out.2.2.2.2.1.below b2).keptBut g3 (by simp);have b3:Below w.heap.size w W3:=gro (z_a H.out.2.2.2.2.2.1 b2) g3 (Nat.le_refl _) (by have:=b2.size;omega);clear b2 g3 l0
 rcases o3.pat with ⟨rfl,rfl⟩ | ⟨g,cc,rfl,hg,hp⟩
 ·have c16:=r3.t16;obtain⟨W4,s4,r4,g4⟩:=q3.tst (g:=h) (y:=.slice none 0 0) rfl;have l3:=r3.tld;have G:=hd2 r4 (gro b3 g4 (by omega) b3.size);clear r3 q3 b3 r4 g4 o2 o3 z2
  go_wp2_with fail
  go_rounds 1
  refine bodyPost_ret (z_e rtT results197 _ _ _ _ rfl G.out.1 (z_c _ _)) rfl ?_;exact⟨_,rfl,Own.nil _ _,G.out.2⟩
 ·have hl:=H.out.2.2.1;have hn1:=H.out.2.1;have G:Hid (RvAt W3 w.heap.size 39 (trc h (.slice (some ⟨g,0,none⟩) l.length cc))∧RvAt W3 (w.heap.size+1) 39 (trc zeroH (.slice none 0 0))∧Below w.heap.size w W3∧PAt W3 g cc l∧w.heap.size+2≤g):=⟨r3,q3,b3,hp,by omega⟩;obtain⟨X,hX⟩:∃X,X=l.length:=⟨_,rfl⟩;have hx0:X≤1000:=by omega
  have GX:=hd1 hX;clear r3 q3 b3 hp hg hl hn1 o2 o3 z2 hX
  go_wp2_with fail
  go_loopw [3] (fun v3 wr=>∃i:Nat,i≤X∧v3=.int .i64 i∧PAt wr g cc (mapTo syncP l i)∧W3.grownBy wr (some g)) (fun v3 _=>X-(intOf v3).toNat)
  case atStart=>exact⟨0,by omega,rfl,by rw[w_h];exact G.out.2.2.2.1,World.grownBy.refl _ _⟩
  case round=>
   obtain⟨i,hi,rfl,hpi,hgi⟩:=hrel;have hr:=G.out.1.keptBut hgi (by have:=G.out.2.2.2.2;simp;omega);have c16:=hr.t16;rw[←GX.out] at c16;have hin0:(0:Int)≤(i:Int):=by omega
   by_cases hit:i<X
   ·have hin1:(i:Int)<(X:Int):=by omega
    obtain⟨V,sV,pV,gV⟩:=hpi.st1 (q:=i*77+24) (j:=24) (v:=.bool true) (u_u (by rw[←GX.out];exact hit)) x_S.1 (by omega) rfl (y_x rfl) rfl;have pV':PAt V g cc ((mapTo syncP l i).set i (syncP (gtP l i))):=pV;rw[w_i (by rw[←GX.out];exact hit)] at pV';have J:=hd2 pV' (z_n hgi gV);clear hpi hgi hr pV pV' gV;go_wp2
    go_roundw
    case rel=>exact⟨i+1,by omega,by go_num,J.out.1,J.out.2⟩
    case measure=>simp[intOf];omega
   ·have hin:i=X:=by omega
    subst hin;have hin1:¬ (i:Int)<(i:Int):=by omega
    have l3:=hr.tld;have q3:=G.out.2.1.keptBut hgi (by have:=G.out.2.2.2.2;simp;omega);obtain⟨W4,s4,r4,g4⟩:=q3.tst (g:=h) (y:=.slice (some ⟨g,0,none⟩) l.length cc) rfl;have pe:=hpi.keptBut g4 (by have:=G.out.2.2.2.2;simp;omega);rw[GX.out,v_t] at pe
    have be:Below w.heap.size w W4:=gro (gro G.out.2.2.1 hgi (by have:=G.out.2.2.2.2;omega) G.out.2.2.1.size) g4 (by omega) (by have:=G.out.2.2.1.size;have:=hgi.size;omega);have K:=hd3 r4 pe be;clear hpi hgi hr q3 r4 g4 pe be;go_wp2
    refine bodyPost_ret (z_e rtT results197 _ _ _ _ rfl K.out.1 (z_c _ _)) rfl ?_;refine⟨_,rfl,?_,K.out.2.2⟩;have:=K.out.2.1.own (B:=w.heap.size) (by have:=G.out.2.2.2.2;omega);rw[List.length_map] at this;exact this
theorem z_fX (h:Hd) (a:Option Addr) (n c:Nat) (l:List Pt) (w:World) (hs:SlAt w a n c l) (hn:n≤1000) :
  Calls prog 156 #[.agg (trc h (.slice a n c))] w fun r w'=>∃v,r=.returned (.agg (trc h v))∧Own w' w.heap.size v (l.map rerP)∧Below w.heap.size w w':=by
 obtain⟨W,hW,r0,r1,bW,zW⟩:=z_w w h (.slice a n c);have l0:=r0.tld;have H:=hd7 (hs.below bW) hn hs.len r0 r1 bW zW;clear hs hn r0 r1 bW zW;go_enter func156,ntmps156
 go_wp2_with fail
 refine (v_h h a n c l W H.out.1 H.out.2.1).mono ?_;rintro _ W2 ⟨v,rfl,o2,b2⟩;obtain⟨W3,s3,r3,g3⟩:=(H.out.2.2.2.1.below b2).tst (g:=h) (y:=v) o2.one;have z2:=H.out.2.2.2.2.2.2;have o3:=o2.keptBut g3 (o2.apart (by omega));have q3:=(H.out.2.2.2.2.1.below b2).keptBut g3 (by simp);have b3:Below w.heap.size w W3:=gro (z_a H.out.2.2.2.2.2.1 b2) g3 (Nat.le_refl _) (by have:=b2.size;omega);clear b2 g3 l0
 rcases o3.pat with ⟨rfl,rfl⟩ | ⟨g,cc,rfl,hg,hp⟩
 ·have c16:=r3.t16;obtain⟨W4,s4,r4,g4⟩:=q3.tst (g:=h) (y:=.slice none 0 0) rfl;have l3:=r3.tld;have G:=hd2 r4 (gro b3 g4 (by omega) b3.size);clear r3 q3 b3 r4 g4 o2 o3 z2
  go_wp2_with fail
  go_rounds 1
  refine bodyPost_ret (z_e rtT results156 _ _ _ _ rfl G.out.1 (z_c _ _)) rfl ?_;exact⟨_,rfl,Own.nil _ _,G.out.2⟩
 ·have hl:=H.out.2.2.1;have hn1:=H.out.2.1;have G:Hid (RvAt W3 w.heap.size 39 (trc h (.slice (some ⟨g,0,none⟩) l.length cc))∧RvAt W3 (w.heap.size+1) 39 (trc zeroH (.slice none 0 0))∧Below w.heap.size w W3∧PAt W3 g cc l∧w.heap.size+2≤g):=⟨r3,q3,b3,hp,by omega⟩;obtain⟨X,hX⟩:∃X,X=l.length:=⟨_,rfl⟩;have hx0:X≤1000:=by omega
  have GX:=hd1 hX;clear r3 q3 b3 hp hg hl hn1 o2 o3 z2 hX
  go_wp2_with fail
  go_loopw [3] (fun v3 wr=>∃i:Nat,i≤X∧v3=.int .i64 i∧PAt wr g cc (mapTo rerP l i)∧W3.grownBy wr (some g)) (fun v3 _=>X-(intOf v3).toNat)
  case atStart=>exact⟨0,by omega,rfl,by rw[w_h];exact G.out.2.2.2.1,World.grownBy.refl _ _⟩
  case round=>
   obtain⟨i,hi,rfl,hpi,hgi⟩:=hrel;have hr:=G.out.1.keptBut hgi (by have:=G.out.2.2.2.2;simp;omega);have c16:=hr.t16;rw[←GX.out] at c16;have hin0:(0:Int)≤(i:Int):=by omega
   by_cases hit:i<X
   ·have hin1:(i:Int)<(X:Int):=by omega
    obtain⟨V,sV,pV,gV⟩:=hpi.st1 (q:=i*77+20) (j:=20) (v:=.bool true) (u_u (by rw[←GX.out];exact hit)) x_S.1 (by omega) rfl (y_x rfl) rfl;have pV':PAt V g cc ((mapTo rerP l i).set i (rerP (gtP l i))):=pV;rw[w_i (by rw[←GX.out];exact hit)] at pV';have J:=hd2 pV' (z_n hgi gV);clear hpi hgi hr pV pV' gV;go_wp2
    go_roundw
    case rel=>exact⟨i+1,by omega,by go_num,J.out.1,J.out.2⟩
    case measure=>simp[intOf];omega
   ·have hin:i=X:=by omega
    subst hin;have hin1:¬ (i:Int)<(i:Int):=by omega
    have l3:=hr.tld;have q3:=G.out.2.1.keptBut hgi (by have:=G.out.2.2.2.2;simp;omega);obtain⟨W4,s4,r4,g4⟩:=q3.tst (g:=h) (y:=.slice (some ⟨g,0,none⟩) l.length cc) rfl;have pe:=hpi.keptBut g4 (by have:=G.out.2.2.2.2;simp;omega);rw[GX.out,v_t] at pe
    have be:Below w.heap.size w W4:=gro (gro G.out.2.2.1 hgi (by have:=G.out.2.2.2.2;omega) G.out.2.2.1.size) g4 (by omega) (by have:=G.out.2.2.1.size;have:=hgi.size;omega);have K:=hd3 r4 pe be;clear hpi hgi hr q3 r4 g4 pe be;go_wp2
    refine bodyPost_ret (z_e rtT results156 _ _ _ _ rfl K.out.1 (z_c _ _)) rfl ?_;refine⟨_,rfl,?_,K.out.2.2⟩;have:=K.out.2.1.own (B:=w.heap.size) (by have:=G.out.2.2.2.2;omega);rw[List.length_map] at this;exact this
end S13
end
section
namespace S13
open Go.RowKit
attribute [local go_sem ↓] ldP stP ldT stT apE st32
end S13
end
section
namespace S13
open Go.RowKit
theorem z_kY (X Y:Bool):(if X=true then gd X true (.bool Y) else .bool false)=Value.bool (X && Y):=by
 cases X
 ·rfl
 ·rw[if_pos rfl,z_eI rfl];rfl
theorem pkA {a:Act} {x y:Operand} {X Y:Bool} (hx:a.eval x=gd X true (.bool Y)) (hy:a.eval y=.bool false):(if X=true then a.eval x else a.eval y)=Value.bool (X && Y):=by
 rw[hx,hy];exact z_kY X Y
theorem Act.eval_func (a:Act) (F:Nat):a.eval (.func F)=.func (.func F) #[] #[]:=rfl
section
variable {ops:Array Oper} {C:World→Prop} {a:Act} {o:Oper} {v:Value}
theorem yq2 {j:Nat} {want G1 w1 G2:Bool} (hg:o.guard=some (j,want)) (hj:((ops[j]?).bind (·.dst)).bind (a.tmps[·]?)=some (gd G1 w1 (.bool G2))) (h:G1=w1→G2=want→Qt C o v a):YieldsIn prog ops C o (gd G1 w1 (gd G2 want v)) a:=by
 by_cases e1:G1=w1
 ·rw[z_eI e1] at hj ⊢;exact yq1 hg hj (h e1)
 ·rw[z_im e1] at hj ⊢;have hy:yielded ops a.tmps j=none:=by unfold yielded;rw[hj];rfl
  exact Or.inr ⟨by unfold Region.wanted;rw[hg];simp[hy],rfl⟩
theorem qnil {x:Operand} {A:Addr} (h:o.op=.nilCheck x) (hx:a.eval x=.pointer (some A)):Rn C o (.pointer (some A)) a:=fun w _=>by
 unfold execOp;simp only[h,hx];rfl
theorem qnot {t:TypeId} {x:Operand} {B:Bool} (h:o.op=.unOp .not t x) (hx:a.eval x=.bool B):Rn C o (.bool (!B)) a:=fun w _=>by
 unfold execOp;simp only[h,hx];rfl
theorem qfn {F:Nat} {x:Operand} {X:Value} (h:o.op=.makeFunc (.func F) #[x] #[]) (hx:a.eval x=X):Rn C o (.func (.func F) #[X] #[]) a:=fun w _=>by
 unfold execOp;simp only[h];simp[hx,Instr.makeFunc]
theorem bdR (B:Bool) (f:Fn) (x:Value) (w:World):(Instr.build 186 #[(0,.bool B),(1,.func f #[x] #[])]).run prog w=.ok (.agg #[.bool B,.func f #[x] #[]]) w:=by kernel_rfl
theorem qrule {x y:Operand} {B:Bool} {f:Fn} {z:Value} (h:o.op=.build 186 #[(0,x),(1,y)]) (hx:a.eval x=.bool B) (hy:a.eval y=.func f #[z] #[]):Rn C o (.agg #[.bool B,.func f #[z] #[]]) a:=fun w _=>by
 have:=bdR B f z w;unfold execOp;simp only[h];simp only[List.map_toArray,List.map_cons,List.map_nil,hx,hy];rw[Sem.run_bind,this];rfl
theorem qcall {c:Call} {F:Nat} {args:Array Value} (h:o.op=.call c) (hr:∀w,(do let d ← resolve a.eval c o.type;invoke d.target d.args).run prog w=.ok (.enter F args) w) (hc:∀w,C w→Calls prog F args w fun e w'=>e=.returned v∧C w'):Qt C o v a:=fun w hw=>by
 unfold Oper.quietAt execOp;simp only[h];rw[hr w];exact⟨rfl,hc w hw⟩
theorem u_Y {F:Nat} {x:Operand} {X:Value} {ts:Array TypeId} (h:o.op=.call { callee:=.value (.func F),args:=#[x],argTypes:=ts }) (hx:a.eval x=X) (he:∀V,(callFunc F #[X]).run prog V=.ok (.enter F #[X]) V) (hc:∀w,C w→Calls prog F #[X] w fun e w'=>e=.returned v∧C w'):Qt C o v a:=
 qcall h (fun w=>by simp[resolve,Deferred.ofValue,invoke,hx,Act.eval_func];exact he w) hc
theorem z_id {F:Nat} {x y:Operand} {X Y:Value} {ts:Array TypeId} (h:o.op=.call { callee:=.value (.func F),args:=#[x,y],argTypes:=ts }) (hx:a.eval x=X) (hy:a.eval y=Y) (he:∀V,(callFunc F #[X,Y]).run prog V=.ok (.enter F #[X,Y]) V) (hc:∀w,C w→Calls prog F #[X,Y] w fun e w'=>e=.returned v∧C w'):Qt C o v a:=
 qcall h (fun w=>by simp[resolve,Deferred.ofValue,invoke,hx,hy,Act.eval_func];exact he w) hc
theorem wp_plain_tail {id:Nat} {Q:Exit→Act→World→Prop} {w:World} {l:List Oper} (n:Nat) (hn:n≤l.length) (hC:C w) (h:wpQuiet prog l.toArray C (fun a'=>∀w',C w'→wpList prog l.toArray Q (l.drop n) a' w') (l.take n) a):(Code.region id l.toArray false).wp prog Q a w:=by
 refine wp_region ?_;have key:∀(m:List Oper) (k:Nat) (a:Act) (w:World),(∀j,j<m.length→m[j]?=l[k+j]?)→k+m.length=n→C w→wpQuiet prog l.toArray C (fun a'=>∀w',C w'→wpList prog l.toArray Q (l.drop n) a' w') m a→wpOps prog l.toArray Q (List.range' k (l.length-k)) a w:=by
  intro m
  induction m with
  | nil=>
   intro k a w _ hk hw h;have:k=n:=by simpa using hk
   subst this;have e:=wpOps_eq_wpList (P:=prog) (ops:=l.toArray) (Q:=Q) (l.drop k) k (fun j=>by simp);rw[List.length_drop] at e;rw[e];exact h w hw
  | cons o m ih=>
   intro k a w hm hk hw h;simp only[List.length_cons] at hk;have h0:l.toArray[k]?=some o:=by simpa using (hm 0 (by simp)).symm
   rw[show l.length-k=(l.length-(k+1))+1 by omega,List.range'_succ];unfold wpOps;simp only[h0];have hm':∀j,j<m.length→m[j]?=l[k+1+j]?:=fun j hj=>by have:=hm (j+1) (by simp;omega);simpa [Nat.add_assoc,Nat.add_comm 1 j] using this
   unfold wpQuiet at h
   split
   ·rename_i hq
    rw[if_pos hq] at h;exact Or.inl (Oper.wp_of_quiet hw (fun a' w' hw' h'=>ih (k+1) a' w' hm' (by omega) hw' h') h)
   ·rename_i hq
    rw[if_neg hq] at h;exact ih (k+1) _ w hm' (by omega) hw h
 have htl:(l.take n).length=n:=by simp;omega
 have:=key (l.take n) 0 a w (fun j hj=>by rw[htl] at hj;simp[hj]) (by omega) hC h;rw[List.range_eq_range'];simpa using this
end
theorem ldu (A:Addr) (x:Int) (w:World) (h:w.cell? A=some (.int .u8 x)):(Instr.loadAt 5 (.pointer (some A))).run prog w=.ok (.int .u8 x) w:=by go_simp
theorem lds (A:Addr) (x:Int) (w:World) (h:w.cell? A=some (.int .i64 x)):(Instr.loadAt 72 (.pointer (some A))).run prog w=.ok (.int .i64 x) w:=by go_simp
theorem _root_.Go.Proofs.YtlchejbggnbccaaGreat.Prd.u8 {C:World→Prop} {g q j:Nat} {p:Pt} (r:Prd C g q p) (h:kdP[j]?=some (some .u8)):∀w,C w→(Instr.loadAt 5 (.pointer (some ⟨g,q+j,none⟩))).run prog w=.ok (.int .u8 (p.nm j)) w:=fun w hw=>ldu _ _ w (r.cell j _ (p.num h) w hw)
theorem _root_.Go.Proofs.YtlchejbggnbccaaGreat.Prd.state {C:World→Prop} {g q j:Nat} {p:Pt} (r:Prd C g q p) (h:kdP[j]?=some (some .i64)):∀w,C w→(Instr.loadAt 72 (.pointer (some ⟨g,q+j,none⟩))).run prog w=.ok (.int .i64 (p.nm j)) w:=fun w hw=>lds _ _ w (r.cell j _ (p.num h) w hw)
theorem _root_.Go.Proofs.YtlchejbggnbccaaGreat.Prd.dt {C:World→Prop} {g q d j:Nat} {p:Pt} (r:Prd C g q p) (e:40+d=j) (h:kdP[j]?=some (some .u8)):∀w,C w→(Instr.loadAt 5 (.pointer (some ⟨g,q+40+d,none⟩))).run prog w=.ok (.int .u8 (p.nm j)) w:=fun w hw=>by
 rw[Nat.add_assoc,e];exact r.u8 h w hw
theorem x_a (op:BinOp) (x y:Operand) (a b:Int) (w:World):(eqGuard op 5 x y (.int .u8 a) (.int .u8 b)).run prog w=.ok () w:=by go_simp
theorem w_U (op:BinOp) (x y:Operand) (a b:Int) (w:World):(eqGuard op 72 x y (.int .i64 a) (.int .i64 b)).run prog w=.ok () w:=by go_simp
theorem u_F (a b:Int) (w:World):(binOp .eql 5 (.int .u8 a) (.int .u8 b)).run prog w=.ok (.bool (a==b)) w:=by go_simp
theorem u_t (a b:Int) (w:World):(binOp .neq 5 (.int .u8 a) (.int .u8 b)).run prog w=.ok (.bool (a != b)) w:=by go_simp
theorem z_eu (a b:Int) (w:World):(binOp .neq 44 (.int .i64 a) (.int .i64 b)).run prog w=.ok (.bool (a != b)) w:=by go_simp
theorem z_bF (a b:Int) (w:World):(binOp .leq 72 (.int .i64 a) (.int .i64 b)).run prog w=.ok (.bool (decide (a≤b))) w:=by go_simp
theorem z_gV (a b:Int) (w:World):(binOp .lss 72 (.int .i64 a) (.int .i64 b)).run prog w=.ok (.bool (decide (a<b))) w:=by go_simp
theorem z_gY (a b:Int) (w:World):(binOp .gtr 72 (.int .i64 a) (.int .i64 b)).run prog w=.ok (.bool (decide (b<a))) w:=by go_simp
theorem fp3:FAt 74 3 3:=fun b q w=>by go_simp
theorem fp4:FAt 74 4 4:=fun b q w=>by go_simp
theorem fp5:FAt 74 5 5:=fun b q w=>by go_simp
theorem fp7:FAt 74 7 7:=fun b q w=>by go_simp
theorem fp8:FAt 74 8 8:=fun b q w=>by go_simp
theorem fp9:FAt 74 9 9:=fun b q w=>by go_simp
theorem fp10:FAt 74 10 10:=fun b q w=>by go_simp
theorem fp12:FAt 74 12 12:=fun b q w=>by go_simp
theorem fp13:FAt 74 13 13:=fun b q w=>by go_simp
theorem fp20:FAt 74 20 20:=fun b q w=>by go_simp
theorem fp22:FAt 74 22 22:=fun b q w=>by go_simp
theorem fp24:FAt 74 24 24:=fun b q w=>by go_simp
theorem fp25:FAt 74 25 25:=fun b q w=>by go_simp
theorem fp28:FAt 74 28 28:=fun b q w=>by go_simp
theorem fp31:FAt 74 31 31:=fun b q w=>by go_simp
theorem fp34:FAt 74 34 40:=fun b q w=>by go_simp
theorem fp38:FAt 74 38 65:=fun b q w=>by go_simp
theorem fp41:FAt 74 41 68:=fun b q w=>by go_simp
theorem fp43:FAt 74 43 70:=fun b q w=>by go_simp
theorem fp46:FAt 74 46 73:=fun b q w=>by go_simp
theorem ft1:FAt 24 1 1:=fun b q w=>by go_simp
theorem ft2:FAt 24 2 2:=fun b q w=>by go_simp
theorem ft3:FAt 24 3 3:=fun b q w=>by go_simp
end S13
end
section
namespace S13
open Go.RowKit
def setlP (p:Pt):Bool:=p.bt 22 && !p.bt 28 && decide (p.nm 30=p.nm 31)
def okS (i:Int) (k:Nat) (p:Pt):Bool:=setlP p && (decide ((k:Int)=i) || p.bt 25 || decide (p.nm 30=3))
def okR (i:Int) (k:Nat) (p:Pt):Bool:=decide ((k:Int)=i) || decide (p.nm 70=0)
def allK (f:Nat→Pt→Bool) (l:List Pt):Bool:=(List.range l.length).all fun k=>f k (gtP l k)
theorem w_V {f:Nat→Pt→Bool} {l:List Pt} (h:∀k,k<l.length→f k (gtP l k)=true):allK f l=true:=by
 unfold allK;rw[List.all_eq_true];intro k hk;exact h k (by simpa using hk)
theorem x_m {f:Nat→Pt→Bool} {l:List Pt} {k:Nat} (hk:k<l.length) (h:f k (gtP l k)=false):allK f l=false:=by
 cases e:allK f l with
 | false=>rfl
 | true=>
  unfold allK at e;rw[List.all_eq_true] at e;have:=e k (by simpa using hk);rw[h] at this;cases this
def delayP (p:Pt):Int:=if p.bt 23=true then p.nm 42 else p.nm 43
attribute [local go_sem ↓] ldP stP ldT stT
theorem zeroPortA (w:World):(zeroValue 74).run prog w=.ok (.agg zeroP.cs) w:=by kernel_rfl
attribute [local go_sem] zeroPortA
attribute [local go_sem ↓] alP
attribute [local go_sem] z_l
theorem z_aK (w:World) (p:Pt):∃W,w.alloc (.cells p.cs 74)=W∧RvAt W w.heap.size 74 p.cs∧Below w.heap.size w W:=
 ⟨_,rfl,RvAt.new w _ _,(Below.refl _ _).alloc (Nat.le_refl _) _⟩
theorem z_aw (p:Pt) (w:World):Calls prog 308 #[.agg p.cs] w fun r w'=>r=.returned (.bool (setlP p))∧Below w.heap.size w w':=by
 obtain⟨W,hW,r0,bW⟩:=z_aK w p;have c22:=r0.pbit (j:=22) rfl;have c28:=r0.pbit (j:=28) rfl;have c30:=r0.pnum (j:=30) rfl;have c31:=r0.pnum (j:=31) rfl;have H:=hd1 bW;have E:Hid (setlP p=(p.bt 22 && !p.bt 28 && decide (p.nm 30=p.nm 31))):=rfl;generalize p.nm 30=x at c30 E
 generalize p.nm 31=y at c31 E
 clear r0 bW;go_enter func308,ntmps308;cases h22:p.bt 22<;>rw[h22] at c22 E
 ·go_wp2
  go_ret;exact⟨by rw[E.out];rfl,H.out⟩
 ·cases h28:p.bt 28<;>rw[h28] at c28 E
  ·by_cases hx:x=y
   ·subst hx;go_wp2
    go_ret;exact⟨by rw[E.out];simp,H.out⟩
   ·have hxb:(x==y)=false:=by simpa using hx
    have hxn:(x != y)=true:=by simpa using hx
    go_wp2
    go_ret;exact⟨by rw[E.out];simp[hx],H.out⟩
  ·go_wp2
   go_ret;exact⟨by rw[E.out];rfl,H.out⟩
theorem z_ah (p:Pt) (w:World):Calls prog 295 #[.agg p.cs] w fun r w'=>r=.returned (.int .u8 (delayP p))∧Below w.heap.size w w':=by
 obtain⟨W,hW,r0,bW⟩:=z_aK w p;have c23:=r0.pbit (j:=23) rfl;have c42:=r0.pnum (j:=42) rfl;have c43:=r0.pnum (j:=43) rfl;have H:=hd1 bW;clear r0 bW;go_enter func295,ntmps295;cases h23:p.bt 23<;>rw[h23] at c23
 ·go_wp2
  go_ret;exact⟨by unfold delayP;rw[h23];rfl,H.out⟩
 ·go_wp2
  go_ret;exact⟨by unfold delayP;rw[h23];rfl,H.out⟩
theorem w_b (p:Pt) (w:World):Calls prog 157 #[.agg p.cs] w fun r w'=>r=.returned (.int .u8 (delayP p))∧Below w.heap.size w w':=by
 obtain⟨W,hW,r0,bW⟩:=z_aK w p;have c23:=r0.pbit (j:=23) rfl;have c42:=r0.pnum (j:=42) rfl;have c43:=r0.pnum (j:=43) rfl;have H:=hd1 bW;clear r0 bW;go_enter func157,ntmps157;cases h23:p.bt 23<;>rw[h23] at c23
 ·go_wp2
  go_ret;exact⟨by unfold delayP;rw[h23];rfl,H.out⟩
 ·go_wp2
  go_ret;exact⟨by unfold delayP;rw[h23];rfl,H.out⟩
@[go_sem] theorem ixB0 (a b c:Bool) (w:World):(Instr.index 221 (.agg #[.bool a,.bool b,.bool c]) (.int .i64 0)).run prog w=.ok (.bool a) w:=by kernel_rfl
@[go_sem] theorem ixB1 (a b c:Bool) (w:World):(Instr.index 221 (.agg #[.bool a,.bool b,.bool c]) (.int .i64 1)).run prog w=.ok (.bool b) w:=by kernel_rfl
@[go_sem] theorem ixB2 (a b c:Bool) (w:World):(Instr.index 221 (.agg #[.bool a,.bool b,.bool c]) (.int .i64 2)).run prog w=.ok (.bool c) w:=by kernel_rfl
theorem z_hQ (h:Hd) (a:Option Addr) (n c:Nat) (l:List Pt) (i:Int) (w:World) (hs:SlAt w a n c l) (hn:n≤1000) :
  Calls prog 292 #[.agg (trc h (.slice a n c)),.int .i64 i] w fun r w'=>r=.returned (.bool (allK (okS i) l))∧Below w.heap.size w w':=by
 obtain⟨W,hW,r0,bW,zW⟩:=y_S w h (.slice a n c);have H:=hd4 (hs.below bW) hn hs.len bW;have c16:=r0.t16;have hnn:(n:Int)≤1000:=by omega
 clear hs hn r0 bW zW;go_enter func292,ntmps292
 go_wp2_with fail
 go_step3
 go_wp2_with fail
 go_step3
 go_wp2_with fail
 go_loopw [12] (fun v12 wr=>∃k:Nat,k≤n∧v12=.int .i64 k∧(∀j,j<k→okS i j (gtP l j)=true)∧Below W.heap.size W wr) (fun v12 _=>n-(intOf v12).toNat)
 case atStart=>exact⟨0,by omega,rfl,fun j hj=>by omega,by first|exact Below.refl _ _ | (rw[←hW];exact Below.refl _ _)⟩
 case round=>
  obtain⟨k,hk,rfl,ht,hB⟩:=hrel;have J:=hd2 ht hB;have hin0:(0:Int)≤(k:Int):=by omega
  by_cases hit:k<n
  ·have hin1:(k:Int)<(n:Int):=by omega
   have hkl:k<l.length:=by rw[H.out.2.2.1];exact hit
   obtain⟨b,o,rfl⟩:=H.out.1.some' (by omega);obtain⟨x,hx⟩:∃x,gtP l k=x:=⟨_,rfl⟩;have lp:=(H.out.1.below hB).ld (z_k hkl);rw[hx] at lp;obtain⟨V,sV,rV,bV,zV⟩:=z_E rtP wr zeroP.cs x.cs (by rw[Row.csize,lenP]) (by rw[Row.csize,lenP]) (Row.one' _);have lv:=rV.pld;have HK:=hd2 hkl hx;have R:=hd2 rV (z_a hB bV);clear ht hB rV bV zV hkl hx
   go_wp2_with fail
   refine (z_aw x V).mono ?_;rintro _ V2 ⟨rfl,b2⟩;have J4:=hd1 (z_a R.out.2 b2);have r2:=R.out.1.below b2;have c25:=r2.pbit (j:=25) rfl;have c30:=r2.pnum (j:=30) rfl;have E:Hid (okS i k (gtP l k)=(setlP x && (decide ((k:Int)=i) || x.bt 25 || decide (x.nm 30=3)))):=by rw[HK.out.2];exact rfl
   generalize x.nm 30=y at c30 E
   clear sV lv lp b2 r2;have NX0:okS i k (gtP l k)=true→∀j,j<k+1→okS i j (gtP l j)=true:=fun e j hj=>by
    by_cases hjk:j=k
    ·rw[hjk];exact e
    ·exact J.out.1 j (by omega)
   cases h1:setlP x<;>rw[h1] at E
   ·have NO:Hid (allK (okS i) l=false):=x_m HK.out.1 (by rw[E.out];rfl);clear NX0;go_wp2
    rw[Exit.noGoto_ret];go_ret;exact⟨by rw[NO.out];rfl,z_a H.out.2.2.2 J4.out⟩
   ·by_cases h2:(k:Int)=i
    ·have NX:Hid (∀j,j<k+1→okS i j (gtP l j)=true):=NX0 (by rw[E.out];simp[h2]);clear NX0;subst h2
     go_wp2_with fail
     go_rounds 4
     go_roundw
     case rel=>exact⟨k+1,by omega,by go_num,NX.out,J4.out⟩
     case measure=>simp[intOf];omega
    ·have h2b:((k:Int)==i)=false:=by simpa using h2
     have h2n:((k:Int) != i)=true:=by simpa using h2
     cases h3:x.bt 25<;>rw[h3] at c25 E
     ·by_cases h4:y=3
      ·have NX:Hid (∀j,j<k+1→okS i j (gtP l j)=true):=NX0 (by rw[E.out];simp[h4]);clear NX0;subst h4
       go_wp2_with fail
       go_rounds 4
       go_roundw
       case rel=>exact⟨k+1,by omega,by go_num,NX.out,J4.out⟩
       case measure=>simp[intOf];omega
      ·have h4b:(y==3)=false:=by simpa using h4
       have h4n:(y != 3)=true:=by simpa using h4
       have NO:Hid (allK (okS i) l=false):=x_m HK.out.1 (by rw[E.out];simp[h2,h4]);clear NX0
       go_wp2_with fail
       go_rounds 4
       rw[Exit.noGoto_ret];go_ret;exact⟨by rw[NO.out];rfl,z_a H.out.2.2.2 J4.out⟩
     ·have NX:Hid (∀j,j<k+1→okS i j (gtP l j)=true):=NX0 (by rw[E.out];simp);clear NX0
      go_wp2_with fail
      go_rounds 4
      go_roundw
      case rel=>exact⟨k+1,by omega,by go_num,NX.out,J4.out⟩
      case measure=>simp[intOf];omega
  ·have hin:k=n:=by omega
   subst hin;have hin1:¬ (k:Int)<(k:Int):=by omega
   clear ht hB;go_wp2
   try rw[Exit.noGoto_ret]
   go_ret;exact⟨by rw[w_V (fun j hj=>J.out.1 j (by rw[H.out.2.2.1] at hj;exact hj))];rfl,z_a H.out.2.2.2 J.out.2⟩
theorem z_dB (h:Hd) (a:Option Addr) (n c:Nat) (l:List Pt) (i:Int) (w:World) (hs:SlAt w a n c l) (hn:n≤1000) :
  Calls prog 198 #[.agg (trc h (.slice a n c)),.int .i64 i] w fun r w'=>r=.returned (.bool (allK (okS i) l))∧Below w.heap.size w w':=by
 obtain⟨W,hW,r0,bW,zW⟩:=y_S w h (.slice a n c);have H:=hd5 (hs.below bW) hn hs.len bW r0;have c16:=r0.t16;have hnn:(n:Int)≤1000:=by omega
 clear hs hn r0 bW zW;go_enter func198,ntmps198
 go_wp2_with fail
 clear c16
 go_loopw [5] (fun v5 wr=>∃k:Nat,k≤n∧v5=.int .i64 k∧(∀j,j<k→okS i j (gtP l j)=true)∧Below W.heap.size W wr) (fun v5 _=>n-(intOf v5).toNat)
 case atStart=>exact⟨0,by omega,rfl,fun j hj=>by omega,by first|exact Below.refl _ _ | (rw[←hW];exact Below.refl _ _)⟩
 case round=>
  obtain⟨k,hk,rfl,ht,hB⟩:=hrel;have J:=hd2 ht hB;have hin0:(0:Int)≤(k:Int):=by omega
  have c16:=(H.out.2.2.2.2.below hB).t16;have NX0:okS i k (gtP l k)=true→∀j,j<k+1→okS i j (gtP l j)=true:=fun e j hj=>by
   by_cases hjk:j=k
   ·rw[hjk];exact e
   ·exact J.out.1 j (by omega)
  by_cases hit:k<n
  ·have hin1:(k:Int)<(n:Int):=by omega
   have hkl:k<l.length:=by rw[H.out.2.2.1];exact hit
   obtain⟨b,o,rfl⟩:=H.out.1.some' (by omega);obtain⟨x,hx⟩:∃x,gtP l k=x:=⟨_,rfl⟩;have HK:=hd2 hkl hx;have lp:=(H.out.1.below hB).ld (z_k hkl);rw[hx] at lp;obtain⟨V,sV,rV,bV,zV⟩:=z_E rtP wr zeroP.cs x.cs (by rw[Row.csize,lenP]) (by rw[Row.csize,lenP]) (Row.one' _);have R:=hd1 (z_a hB bV);have c22:=rV.pbit (j:=22) rfl;have c28:=rV.pbit (j:=28) rfl;have c25:=rV.pbit (j:=25) rfl
   have c30:=rV.pnum (j:=30) rfl;have c31:=rV.pnum (j:=31) rfl;have E:Hid (okS i k (gtP l k)=((x.bt 22 && !x.bt 28 && decide (x.nm 30=x.nm 31)) && (decide ((k:Int)=i) || x.bt 25 || decide (x.nm 30=3)))):=by rw[HK.out.2];exact rfl
   generalize x.nm 30=y at c30 E
   generalize x.nm 31=z at c31 E
   clear ht hB rV bV zV hkl hx;cases h1:x.bt 22<;>rw[h1] at c22 E
   ·skip
    have NO:Hid (allK (okS i) l=false):=x_m HK.out.1 (by rw[E.out];rfl);clear NX0;go_wp2
    try rw[Exit.noGoto_ret]
    go_ret;exact⟨by rw[NO.out];rfl,z_a H.out.2.2.2.1 R.out⟩
   ·cases h2:x.bt 28<;>rw[h2] at c28 E
    ·by_cases h3:y=z
     ·subst h3;by_cases h4:(k:Int)=i
      ·subst h4;have h4b:((k:Int)==(k:Int))=true:=by simp
       have NX:Hid (∀j,j<k+1→okS (k:Int) j (gtP l j)=true):=NX0 (by rw[E.out];simp);clear NX0;go_wp2
       go_roundw
       case rel=>exact⟨k+1,by omega,by go_num,NX.out,R.out⟩
       case measure=>simp[intOf];omega
      ·have h4b:((k:Int)==i)=false:=by simpa using h4
       have h4n:((k:Int) != i)=true:=by simpa using h4
       cases h5:x.bt 25<;>rw[h5] at c25 E
       ·by_cases h6:y=3
        ·subst h6;have NX:Hid (∀j,j<k+1→okS i j (gtP l j)=true):=NX0 (by rw[E.out];simp);clear NX0;go_wp2
         go_roundw
         case rel=>exact⟨k+1,by omega,by go_num,NX.out,R.out⟩
         case measure=>simp[intOf];omega
        ·have h6b:(y==3)=false:=by simpa using h6
         have h6n:(y != 3)=true:=by simpa using h6
         have NO:Hid (allK (okS i) l=false):=x_m HK.out.1 (by rw[E.out];simp[h4,h6]);clear NX0;go_wp2
         try rw[Exit.noGoto_ret]
         go_ret;exact⟨by rw[NO.out];rfl,z_a H.out.2.2.2.1 R.out⟩
       ·skip
        have NX:Hid (∀j,j<k+1→okS i j (gtP l j)=true):=NX0 (by rw[E.out];simp);clear NX0;go_wp2
        go_roundw
        case rel=>exact⟨k+1,by omega,by go_num,NX.out,R.out⟩
        case measure=>simp[intOf];omega
     ·have h3b:(y==z)=false:=by simpa using h3
      have h3n:(y != z)=true:=by simpa using h3
      have NO:Hid (allK (okS i) l=false):=x_m HK.out.1 (by rw[E.out];simp[h3]);clear NX0;go_wp2
      try rw[Exit.noGoto_ret]
      go_ret;exact⟨by rw[NO.out];rfl,z_a H.out.2.2.2.1 R.out⟩
    ·skip
     have NO:Hid (allK (okS i) l=false):=x_m HK.out.1 (by rw[E.out];rfl);clear NX0;go_wp2
     try rw[Exit.noGoto_ret]
     go_ret;exact⟨by rw[NO.out];rfl,z_a H.out.2.2.2.1 R.out⟩
  ·have hin:k=n:=by omega
   subst hin;have hin1:¬ (k:Int)<(k:Int):=by omega
   clear ht hB;go_wp2
   try rw[Exit.noGoto_ret]
   go_ret;exact⟨by rw[w_V (fun j hj=>J.out.1 j (by rw[H.out.2.2.1] at hj;exact hj))];rfl,z_a H.out.2.2.2.1 J.out.2⟩
theorem z_hR (h:Hd) (a:Option Addr) (n c:Nat) (l:List Pt) (i:Int) (w:World) (hs:SlAt w a n c l) (hn:n≤1000) :
  Calls prog 291 #[.agg (trc h (.slice a n c)),.int .i64 i] w fun r w'=>r=.returned (.bool (allK (okR i) l))∧Below w.heap.size w w':=by
 obtain⟨W,hW,r0,bW,zW⟩:=y_S w h (.slice a n c);have H:=hd5 (hs.below bW) hn hs.len bW r0;have c16:=r0.t16;have hnn:(n:Int)≤1000:=by omega
 clear hs hn r0 bW zW;go_enter func291,ntmps291
 go_wp2_with fail
 go_step3
 go_wp2_with fail
 go_step3
 go_wp2_with fail
 clear c16
 go_loopw [10] (fun v5 wr=>∃k:Nat,k≤n∧v5=.int .i64 k∧(∀j,j<k→okR i j (gtP l j)=true)∧Below W.heap.size W wr) (fun v5 _=>n-(intOf v5).toNat)
 case atStart=>exact⟨0,by omega,rfl,fun j hj=>by omega,by first|exact Below.refl _ _ | (rw[←hW];exact Below.refl _ _)⟩
 case round=>
  obtain⟨k,hk,rfl,ht,hB⟩:=hrel;have J:=hd2 ht hB;have hin0:(0:Int)≤(k:Int):=by omega
  have c16:=(H.out.2.2.2.2.below hB).t16;have NX0:okR i k (gtP l k)=true→∀j,j<k+1→okR i j (gtP l j)=true:=fun e j hj=>by
   by_cases hjk:j=k
   ·rw[hjk];exact e
   ·exact J.out.1 j (by omega)
  by_cases hit:k<n
  ·have hin1:(k:Int)<(n:Int):=by omega
   have hkl:k<l.length:=by rw[H.out.2.2.1];exact hit
   obtain⟨b,o,rfl⟩:=H.out.1.some' (by omega);obtain⟨x,hx⟩:∃x,gtP l k=x:=⟨_,rfl⟩;have HK:=hd2 hkl hx;have lp:=(H.out.1.below hB).ld (z_k hkl);rw[hx] at lp;obtain⟨V,sV,rV,bV,zV⟩:=z_E rtP wr zeroP.cs x.cs (by rw[Row.csize,lenP]) (by rw[Row.csize,lenP]) (Row.one' _);have R:=hd1 (z_a hB bV);have c70:=rV.pnum (j:=70) rfl
   have E:Hid (okR i k (gtP l k)=(decide ((k:Int)=i) || decide (x.nm 70=0))):=by rw[HK.out.2];exact rfl
   generalize x.nm 70=y at c70 E
   clear ht hB rV bV zV hkl hx;by_cases h4:(k:Int)=i
   ·subst h4;have NX:Hid (∀j,j<k+1→okR (k:Int) j (gtP l j)=true):=NX0 (by rw[E.out];simp);clear NX0;go_wp2
    go_roundw
    case rel=>exact⟨k+1,by omega,by go_num,NX.out,R.out⟩
    case measure=>simp[intOf];omega
   ·have h4b:((k:Int)==i)=false:=by simpa using h4
    have h4n:((k:Int) != i)=true:=by simpa using h4
    by_cases h6:y=0
    ·subst h6;have NX:Hid (∀j,j<k+1→okR i j (gtP l j)=true):=NX0 (by rw[E.out];simp);clear NX0;go_wp2
     go_roundw
     case rel=>exact⟨k+1,by omega,by go_num,NX.out,R.out⟩
     case measure=>simp[intOf];omega
    ·have h6b:(y==0)=false:=by simpa using h6
     have h6n:(y != 0)=true:=by simpa using h6
     have NO:Hid (allK (okR i) l=false):=x_m HK.out.1 (by rw[E.out];simp[h4,h6]);clear NX0;go_wp2
     try rw[Exit.noGoto_ret]
     go_ret;exact⟨by rw[NO.out];rfl,z_a H.out.2.2.2.1 R.out⟩
  ·have hin:k=n:=by omega
   subst hin;have hin1:¬ (k:Int)<(k:Int):=by omega
   clear ht hB;go_wp2
   try rw[Exit.noGoto_ret]
   go_ret;exact⟨by rw[w_V (fun j hj=>J.out.1 j (by rw[H.out.2.2.1] at hj;exact hj))];rfl,z_a H.out.2.2.2.1 J.out.2⟩
theorem z_dC (h:Hd) (a:Option Addr) (n c:Nat) (l:List Pt) (i:Int) (w:World) (hs:SlAt w a n c l) (hn:n≤1000) :
  Calls prog 155 #[.agg (trc h (.slice a n c)),.int .i64 i] w fun r w'=>r=.returned (.bool (allK (okR i) l))∧Below w.heap.size w w':=by
 obtain⟨W,hW,r0,bW,zW⟩:=y_S w h (.slice a n c);have H:=hd5 (hs.below bW) hn hs.len bW r0;have c16:=r0.t16;have hnn:(n:Int)≤1000:=by omega
 clear hs hn r0 bW zW;go_enter func155,ntmps155
 go_wp2_with fail
 clear c16
 go_loopw [5] (fun v5 wr=>∃k:Nat,k≤n∧v5=.int .i64 k∧(∀j,j<k→okR i j (gtP l j)=true)∧Below W.heap.size W wr) (fun v5 _=>n-(intOf v5).toNat)
 case atStart=>exact⟨0,by omega,rfl,fun j hj=>by omega,by first|exact Below.refl _ _ | (rw[←hW];exact Below.refl _ _)⟩
 case round=>
  obtain⟨k,hk,rfl,ht,hB⟩:=hrel;have J:=hd2 ht hB;have hin0:(0:Int)≤(k:Int):=by omega
  have c16:=(H.out.2.2.2.2.below hB).t16;have NX0:okR i k (gtP l k)=true→∀j,j<k+1→okR i j (gtP l j)=true:=fun e j hj=>by
   by_cases hjk:j=k
   ·rw[hjk];exact e
   ·exact J.out.1 j (by omega)
  by_cases hit:k<n
  ·have hin1:(k:Int)<(n:Int):=by omega
   have hkl:k<l.length:=by rw[H.out.2.2.1];exact hit
   obtain⟨b,o,rfl⟩:=H.out.1.some' (by omega);obtain⟨x,hx⟩:∃x,gtP l k=x:=⟨_,rfl⟩;have HK:=hd2 hkl hx;have c70:wr.cell? ⟨b,o+k*77+70,none⟩=some (.int .u8 (x.nm 70)):=by
    have:=(H.out.1.below hB).cell (z_k hkl) ((gtP l k).num (j:=70) rfl) (by omega);rw[hx] at this;exact this
   have E:Hid (okR i k (gtP l k)=(decide ((k:Int)=i) || decide (x.nm 70=0))):=by rw[HK.out.2];exact rfl
   generalize x.nm 70=y at c70 E
   clear ht hB hkl hx;by_cases h4:(k:Int)=i
   ·subst h4;have NX:Hid (∀j,j<k+1→okR (k:Int) j (gtP l j)=true):=NX0 (by rw[E.out];simp);clear NX0;go_wp2
    go_roundw
    case rel=>exact⟨k+1,by omega,by go_num,NX.out,J.out.2⟩
    case measure=>simp[intOf];omega
   ·have h4b:((k:Int)==i)=false:=by simpa using h4
    have h4n:((k:Int) != i)=true:=by simpa using h4
    by_cases h6:y=0
    ·subst h6;have NX:Hid (∀j,j<k+1→okR i j (gtP l j)=true):=NX0 (by rw[E.out];simp);clear NX0;go_wp2
     go_roundw
     case rel=>exact⟨k+1,by omega,by go_num,NX.out,J.out.2⟩
     case measure=>simp[intOf];omega
    ·have h6b:(y==0)=false:=by simpa using h6
     have h6n:(y != 0)=true:=by simpa using h6
     have NO:Hid (allK (okR i) l=false):=x_m HK.out.1 (by rw[E.out];simp[h4,h6]);clear NX0;go_wp2
     try rw[Exit.noGoto_ret]
     go_ret;exact⟨by rw[NO.out];rfl,z_a H.out.2.2.2.1 J.out.2⟩
  ·have hin:k=n:=by omega
   subst hin;have hin1:¬ (k:Int)<(k:Int):=by omega
   clear ht hB;go_wp2
   try rw[Exit.noGoto_ret]
   go_ret;exact⟨by rw[w_V (fun j hj=>J.out.1 j (by rw[H.out.2.2.1] at hj;exact hj))];rfl,z_a H.out.2.2.2.1 J.out.2⟩
end S13
end
section
namespace S13
open Go.RowKit
def chc (h:Hd) (x:Value) (k:Int):Array Value:=(h.cl++[x,.int .i64 k]).toArray
theorem z_hG (h:Hd) (x:Value) (k:Int):(chc h x k).size=18:=by simp[chc,h.len,lenH]
theorem z_lA (h:Hd) (x:Value) (k:Int):(chc h x k)[16]?=some x:=by
 have:=h.len;rw[lenH] at this;simp only[chc,List.getElem?_toArray];rw[List.getElem?_append_right (by omega),this];rfl
theorem z_lz (h:Hd) (x:Value) (k:Int):(chc h x k)[17]?=some (.int .i64 k):=by
 have:=h.len;rw[lenH] at this;simp only[chc,List.getElem?_toArray];rw[List.getElem?_append_right (by omega),this];rfl
theorem z_ks {h:Hd} {x v:Value} {k:Int} {j:Nat} (hv:(trc h x)[j]?=some v):(chc h x k)[j]?=some v:=by
 have hl:=h.len;rw[lenH] at hl;have hj:=(Array.getElem?_eq_some_iff.1 hv).1;rw[z_c] at hj;simp only[trc,List.getElem?_toArray] at hv;simp only[chc,List.getElem?_toArray];rw[show h.cl++[x,.int .i64 k]=(h.cl++[x])++[.int .i64 k] by simp,List.getElem?_append_left (by simp;omega)];exact hv
theorem _root_.Go.Proofs.YtlchejbggnbccaaGreat.RvAt.h16 {W:World} {b:Nat} {h:Hd} {x:Value} {k:Int} (hb:RvAt W b 182 (chc h x k)):W.cell? ⟨b,16,none⟩=some x:=hb.cell 16 _ (z_lA h x k)
theorem _root_.Go.Proofs.YtlchejbggnbccaaGreat.RvAt.h17 {W:World} {b:Nat} {h:Hd} {x:Value} {k:Int} (hb:RvAt W b 182 (chc h x k)):W.cell? ⟨b,17,none⟩=some (.int .i64 k):=hb.cell 17 _ (z_lz h x k)
theorem _root_.Go.Proofs.YtlchejbggnbccaaGreat.RvAt.htree {W:World} {b:Nat} {h:Hd} {x:Value} {k:Int} (hb:RvAt W b 182 (chc h x k)):(ldS 39 (.pointer (some ⟨b,0,none⟩))).run prog W=.ok (.agg (trc h x)) W:=
 run_loadAt_mid W b 0 39 (trc h x).toList _ (fun j v hv=>by
  rw[Nat.zero_add];exact hb.cell j v (z_ks (by simpa using hv))) underlying39 rfl (by rw[Array.length_toList,z_c];exact infoT)
theorem z_hF (h g:Hd) (x y:Value) (k:Int):((chc h x k).toList.take 0++(trc g y).toList++(chc h x k).toList.drop (0+(trc g y).size)).toArray=chc g y k:=by
 have hl:=h.len;rw[lenH] at hl;rw[z_c];simp only[chc,trc,List.take_zero,List.nil_append,Nat.zero_add];rw[show h.cl++[x,.int .i64 k]=(h.cl++[x])++[.int .i64 k] by simp,List.drop_append_of_le_length (by simp;omega),List.drop_eq_nil_of_le (by simp;omega)];simp
theorem _root_.Go.Proofs.YtlchejbggnbccaaGreat.RvAt.hst {W:World} {b:Nat} {h g:Hd} {x y:Value} {k:Int} (hb:RvAt W b 182 (chc h x k)) (hy:y.oneCell'=true) :
  ∃W',(stS 39 (.pointer (some ⟨b,0,none⟩)) (.agg (trc g y))).run prog W=.ok () W'∧RvAt W' b 182 (chc g y k)∧W.grownBy W' (some b):=by
 have hs:=z_A (ty:=39) (o:=0) (cs:=trc g y) hb (by rw[z_c];exact infoT) (by rw[z_c,z_hG];omega) (x_A hy);rw[z_hF] at hs;exact⟨_,hs,hb.set,z_m _ _ _⟩
structure CS (W:World) (b:Nat) (h:Hd) (g o n c k:Nat) (l:List Pt):Prop where
 var:RvAt W b 182 (chc h (.slice (some ⟨g,o,none⟩) n c) k)
 sl:SlAt W (some ⟨g,o,none⟩) n c l
 hk:k<n
 hn:n≤1000
theorem CS.below {W V:World} {b g o n c k:Nat} {h:Hd} {l:List Pt} (s:CS W b h g o n c k l) (e:Below W.heap.size W V):CS V b h g o n c k l:=⟨s.var.below e,s.sl.below e,s.hk,s.hn⟩
theorem CS.lt {W:World} {b g o n c k:Nat} {h:Hd} {l:List Pt} (s:CS W b h g o n c k l):k<l.length:=by rw[s.sl.len];exact s.hk
theorem CS.cell {W:World} {b g o n c k:Nat} {h:Hd} {l:List Pt} (s:CS W b h g o n c k l) {j:Nat} {v:Value} (hv:(gtP l k).cl[j]?=some v):W.cell? ⟨g,o+k*77+j,none⟩=some v:=
 s.sl.cell (z_k s.lt) hv (by rw[←Pt.len (gtP l k)];exact (List.getElem?_eq_some_iff.1 hv).1)
theorem CS.rd {W:World} {b g o n c k:Nat} {h:Hd} {l:List Pt} (s:CS W b h g o n c k l):Prd (fun w'=>∃x:Later W,w'=x.val) g (o+k*77) (gtP l k):=⟨fun j v hv w hw=>by
 obtain⟨x,rfl⟩:=hw;exact (s.below x.below).cell hv⟩
attribute [local go_sem ↓] ldP stP ldT stT
theorem z_v {W:World} {b g o n c k:Nat} {h:Hd} {l:List Pt} (s:CS W b h g o n c k l) :
  Calls prog 204 #[.pointer (some ⟨b,0,none⟩)] W fun r W'=>r=.returned (.pointer (some ⟨g,o+k*77,none⟩))∧Below W.heap.size W W':=by
 have f16:=fun x:Later W=>(s.below x.below).var.h16;have f17:=fun x:Later W=>(s.below x.below).var.h17;have hk:=s.hk;have hin0:(0:Int)≤(k:Int):=by omega
 have hin1:(k:Int)<(n:Int):=by omega
 clear s hk;go_enter func204,ntmps204
 go_wp2_with fail
 refine wp_region_later (by kernel_rfl) (by kernel_rfl) ?_
 repeat (go_big_quiet_step (first|exact rfl))
 refine wpQuiet_nil ?_;intro _ hw';obtain⟨y,rfl⟩:=hw';go_wp2
 go_ret;exact⟨rfl,y.below⟩
end S13
end
section
namespace S13
open Go.RowKit
def mayP (p:Pt):Bool:=((p.nm 65==0) || p.bt 4) && ((p.nm 70==0) || !p.bt 20) && !p.bt 24
def askP (p:Pt):Bool:=p.bt 24 || p.bt 20 || !p.bt 25
theorem z_jN {W:World} {b g o n c k:Nat} {h:Hd} {l:List Pt} (s:CS W b h g o n c k l) :
  Calls prog 271 #[.pointer (some ⟨b,0,none⟩)] W fun r W'=>r=.returned (.bool (mayP (gtP l k)))∧Below W.heap.size W W':=by
 have H:=hd1 s;obtain⟨p,hp⟩:∃p,gtP l k=p:=⟨_,rfl⟩;rw[hp];have R0:∀V,Below W.heap.size W V→Prd (fun w'=>∃x:Later V,w'=x.val) g (o+k*77) p:=fun V hV=>by rw[←hp];exact (H.out.below hV).rd
 obtain⟨q,hq⟩:∃q,o+k*77=q:=⟨_,rfl⟩;rw[hq] at R0;clear s hp;go_enter func271,ntmps271
 go_wp2_with fail
 refine (z_v H.out).mono ?_;rintro _ V ⟨rfl,b1⟩;rw[hq];have R:=R0 V b1;have B:=hd1 b1;clear R0 b1 hq;go_upto_region 2 with fail
 refine wp_plain (C:=fun w'=>∃x:Later V,w'=x.val) ⟨⟨_,Below.refl _ _⟩,rfl⟩ ?_;refine z_b (v:=.pointer (some ⟨g,q,none⟩)) (yq rfl (Rn.qt (qmove rfl rfl))) ?_
 try simp only[Act.put,zA,zB,zC]
 refine z_b (v:=.pointer (some ⟨g,q,none⟩)) (yq rfl (Rn.qt (qnil rfl rfl))) ?_
 try simp only[Act.put,zA,zB,zC]
 refine z_b (v:=.pointer (some ⟨g,q+65,none⟩)) (yq rfl (Rn.qt (qfield rfl rfl fp38))) ?_
 try simp only[Act.put,zA,zB,zC]
 refine z_b (v:=.int .u8 (p.nm 65)) (yq rfl (Rn.qt (qload rfl rfl (R.u8 rfl)))) ?_
 try simp only[Act.put,zA,zB,zC]
 refine z_b (v:=.bool ((p.nm 65)==0)) (yq rfl (Rn.qt (qbin rfl rfl rfl (x_a _ _ _ _ _) (u_F _ _)))) ?_
 try simp only[Act.put,zA,zB,zC]
 refine z_b (v:=.bool ((p.nm 65)==0)) (yq rfl (Rn.qt (qmove rfl rfl))) ?_
 try simp only[Act.put,zA,zB,zC]
 refine z_b (v:=gd ((p.nm 65)==0) false (.pointer (some ⟨g,q,none⟩))) (yq1 rfl rfl (fun e=>Rn.qt (qmove rfl rfl))) ?_
 try simp only[Act.put,zA,zB,zC]
 refine z_b (v:=gd ((p.nm 65)==0) false (.pointer (some ⟨g,q,none⟩))) (yq1 rfl rfl (fun e=>Rn.qt (qnil rfl (on e rfl)))) ?_
 try simp only[Act.put,zA,zB,zC]
 refine z_b (v:=gd ((p.nm 65)==0) false (.pointer (some ⟨g,q+4,none⟩))) (yq1 rfl rfl (fun e=>Rn.qt (qfield rfl (on e rfl) fp4))) ?_
 try simp only[Act.put,zA,zB,zC]
 refine z_b (v:=gd ((p.nm 65)==0) false (.bool (p.bt 4))) (yq1 rfl rfl (fun e=>Rn.qt (qload rfl (on e rfl) (R.bit rfl)))) ?_
 try simp only[Act.put,zA,zB,zC]
 refine z_b (v:=.bool (((p.nm 65)==0) || (p.bt 4))) (yq rfl (Rn.qt (qpick rfl rfl (pkO rfl rfl)))) ?_
 try simp only[Act.put,zA,zB,zC]
 refine z_b (v:=.bool (((p.nm 65)==0) || (p.bt 4))) (yq rfl (Rn.qt (qmove rfl rfl))) ?_
 try simp only[Act.put,zA,zB,zC]
 refine z_b (v:=gd (((p.nm 65)==0) || (p.bt 4)) true (.pointer (some ⟨g,q,none⟩))) (yq1 rfl rfl (fun e=>Rn.qt (qmove rfl rfl))) ?_
 try simp only[Act.put,zA,zB,zC]
 refine z_b (v:=gd (((p.nm 65)==0) || (p.bt 4)) true (.pointer (some ⟨g,q,none⟩))) (yq1 rfl rfl (fun e=>Rn.qt (qnil rfl (on e rfl)))) ?_
 try simp only[Act.put,zA,zB,zC]
 refine z_b (v:=gd (((p.nm 65)==0) || (p.bt 4)) true (.pointer (some ⟨g,q+70,none⟩))) (yq1 rfl rfl (fun e=>Rn.qt (qfield rfl (on e rfl) fp43))) ?_
 try simp only[Act.put,zA,zB,zC]
 refine z_b (v:=gd (((p.nm 65)==0) || (p.bt 4)) true (.int .u8 (p.nm 70))) (yq1 rfl rfl (fun e=>Rn.qt (qload rfl (on e rfl) (R.u8 rfl)))) ?_
 try simp only[Act.put,zA,zB,zC]
 refine z_b (v:=gd (((p.nm 65)==0) || (p.bt 4)) true (.bool ((p.nm 70)==0))) (yq1 rfl rfl (fun e=>Rn.qt (qbin rfl (on e rfl) rfl (x_a _ _ _ _ _) (u_F _ _)))) ?_
 try simp only[Act.put,zA,zB,zC]
 refine z_b (v:=gd (((p.nm 65)==0) || (p.bt 4)) true (.bool ((p.nm 70)==0))) (yq1 rfl rfl (fun e=>Rn.qt (qmove rfl (on e rfl)))) ?_
 try simp only[Act.put,zA,zB,zC]
 refine z_b (v:=gd (((p.nm 65)==0) || (p.bt 4)) true (gd ((p.nm 70)==0) false (.pointer (some ⟨g,q,none⟩)))) (yq2 rfl rfl (fun e1 e2=>Rn.qt (qmove rfl rfl))) ?_
 try simp only[Act.put,zA,zB,zC]
 refine z_b (v:=gd (((p.nm 65)==0) || (p.bt 4)) true (gd ((p.nm 70)==0) false (.pointer (some ⟨g,q,none⟩)))) (yq2 rfl rfl (fun e1 e2=>Rn.qt (qnil rfl (on e2 (on e1 rfl))))) ?_
 try simp only[Act.put,zA,zB,zC]
 refine z_b (v:=gd (((p.nm 65)==0) || (p.bt 4)) true (gd ((p.nm 70)==0) false (.pointer (some ⟨g,q+20,none⟩)))) (yq2 rfl rfl (fun e1 e2=>Rn.qt (qfield rfl (on e2 (on e1 rfl)) fp20))) ?_
 try simp only[Act.put,zA,zB,zC]
 refine z_b (v:=gd (((p.nm 65)==0) || (p.bt 4)) true (gd ((p.nm 70)==0) false (.bool (p.bt 20)))) (yq2 rfl rfl (fun e1 e2=>Rn.qt (qload rfl (on e2 (on e1 rfl)) (R.bit rfl)))) ?_
 try simp only[Act.put,zA,zB,zC]
 refine z_b (v:=gd (((p.nm 65)==0) || (p.bt 4)) true (gd ((p.nm 70)==0) false (.bool (!(p.bt 20))))) (yq2 rfl rfl (fun e1 e2=>Rn.qt (qnot rfl (on e2 (on e1 rfl))))) ?_
 try simp only[Act.put,zA,zB,zC]
 refine z_b (v:=gd (((p.nm 65)==0) || (p.bt 4)) true (.bool (((p.nm 70)==0) || (!(p.bt 20))))) (yq1 rfl rfl (fun e=>Rn.qt (qpick rfl (on e rfl) (pkO rfl (on e rfl))))) ?_
 try simp only[Act.put,zA,zB,zC]
 refine z_b (v:=.bool ((((p.nm 65)==0) || (p.bt 4)) && (((p.nm 70)==0) || (!(p.bt 20))))) (yq rfl (Rn.qt (qpick rfl rfl (pkA rfl rfl)))) ?_
 try simp only[Act.put,zA,zB,zC]
 refine z_b (v:=.bool ((((p.nm 65)==0) || (p.bt 4)) && (((p.nm 70)==0) || (!(p.bt 20))))) (yq rfl (Rn.qt (qmove rfl rfl))) ?_
 try simp only[Act.put,zA,zB,zC]
 refine z_b (v:=gd ((((p.nm 65)==0) || (p.bt 4)) && (((p.nm 70)==0) || (!(p.bt 20)))) true (.pointer (some ⟨g,q,none⟩))) (yq1 rfl rfl (fun e=>Rn.qt (qmove rfl rfl))) ?_
 try simp only[Act.put,zA,zB,zC]
 refine z_b (v:=gd ((((p.nm 65)==0) || (p.bt 4)) && (((p.nm 70)==0) || (!(p.bt 20)))) true (.pointer (some ⟨g,q,none⟩))) (yq1 rfl rfl (fun e=>Rn.qt (qnil rfl (on e rfl)))) ?_
 try simp only[Act.put,zA,zB,zC]
 refine z_b (v:=gd ((((p.nm 65)==0) || (p.bt 4)) && (((p.nm 70)==0) || (!(p.bt 20)))) true (.pointer (some ⟨g,q+24,none⟩))) (yq1 rfl rfl (fun e=>Rn.qt (qfield rfl (on e rfl) fp24))) ?_
 try simp only[Act.put,zA,zB,zC]
 refine z_b (v:=gd ((((p.nm 65)==0) || (p.bt 4)) && (((p.nm 70)==0) || (!(p.bt 20)))) true (.bool (p.bt 24))) (yq1 rfl rfl (fun e=>Rn.qt (qload rfl (on e rfl) (R.bit rfl)))) ?_
 try simp only[Act.put,zA,zB,zC]
 refine z_b (v:=gd ((((p.nm 65)==0) || (p.bt 4)) && (((p.nm 70)==0) || (!(p.bt 20)))) true (.bool (!(p.bt 24)))) (yq1 rfl rfl (fun e=>Rn.qt (qnot rfl (on e rfl)))) ?_
 try simp only[Act.put,zA,zB,zC]
 refine z_b (v:=.bool (((((p.nm 65)==0) || (p.bt 4)) && (((p.nm 70)==0) || (!(p.bt 20)))) && (!(p.bt 24)))) (yq rfl (Rn.qt (qpick rfl rfl (pkA rfl rfl)))) ?_
 try simp only[Act.put,zA,zB,zC]
 refine z_b (v:=.bool (((((p.nm 65)==0) || (p.bt 4)) && (((p.nm 70)==0) || (!(p.bt 20)))) && (!(p.bt 24)))) (yq rfl (Rn.qt (qassign rfl rfl))) ?_
 try simp only[Act.put,zA,zB,zC]
 refine wpQuiet_nil ?_;intro _ hw';obtain⟨y,rfl⟩:=hw';go_wp2
 go_ret;exact⟨rfl,z_a B.out y.below⟩
theorem z_ky {W:World} {b g o n c k:Nat} {h:Hd} {l:List Pt} (s:CS W b h g o n c k l) :
  Calls prog 262 #[.pointer (some ⟨b,0,none⟩)] W fun r W'=>r=.returned (.bool (askP (gtP l k)))∧Below W.heap.size W W':=by
 have H:=hd1 s;obtain⟨p,hp⟩:∃p,gtP l k=p:=⟨_,rfl⟩;rw[hp];have R0:∀V,Below W.heap.size W V→Prd (fun w'=>∃x:Later V,w'=x.val) g (o+k*77) p:=fun V hV=>by rw[←hp];exact (H.out.below hV).rd
 obtain⟨q,hq⟩:∃q,o+k*77=q:=⟨_,rfl⟩;rw[hq] at R0;clear s hp;go_enter func262,ntmps262
 go_wp2_with fail
 refine (z_v H.out).mono ?_;rintro _ V ⟨rfl,b1⟩;rw[hq];have R:=R0 V b1;have B:=hd1 b1;clear R0 b1 hq;go_upto_region 2 with fail
 refine wp_plain (C:=fun w'=>∃x:Later V,w'=x.val) ⟨⟨_,Below.refl _ _⟩,rfl⟩ ?_;refine z_b (v:=.pointer (some ⟨g,q,none⟩)) (yq rfl (Rn.qt (qmove rfl rfl))) ?_
 try simp only[Act.put,zA,zB,zC]
 refine z_b (v:=.pointer (some ⟨g,q,none⟩)) (yq rfl (Rn.qt (qnil rfl rfl))) ?_
 try simp only[Act.put,zA,zB,zC]
 refine z_b (v:=.pointer (some ⟨g,q+24,none⟩)) (yq rfl (Rn.qt (qfield rfl rfl fp24))) ?_
 try simp only[Act.put,zA,zB,zC]
 refine z_b (v:=.bool (p.bt 24)) (yq rfl (Rn.qt (qload rfl rfl (R.bit rfl)))) ?_
 try simp only[Act.put,zA,zB,zC]
 refine z_b (v:=.bool (p.bt 24)) (yq rfl (Rn.qt (qmove rfl rfl))) ?_
 try simp only[Act.put,zA,zB,zC]
 refine z_b (v:=gd (p.bt 24) false (.pointer (some ⟨g,q,none⟩))) (yq1 rfl rfl (fun e=>Rn.qt (qmove rfl rfl))) ?_
 try simp only[Act.put,zA,zB,zC]
 refine z_b (v:=gd (p.bt 24) false (.pointer (some ⟨g,q,none⟩))) (yq1 rfl rfl (fun e=>Rn.qt (qnil rfl (on e rfl)))) ?_
 try simp only[Act.put,zA,zB,zC]
 refine z_b (v:=gd (p.bt 24) false (.pointer (some ⟨g,q+20,none⟩))) (yq1 rfl rfl (fun e=>Rn.qt (qfield rfl (on e rfl) fp20))) ?_
 try simp only[Act.put,zA,zB,zC]
 refine z_b (v:=gd (p.bt 24) false (.bool (p.bt 20))) (yq1 rfl rfl (fun e=>Rn.qt (qload rfl (on e rfl) (R.bit rfl)))) ?_
 try simp only[Act.put,zA,zB,zC]
 refine z_b (v:=.bool ((p.bt 24) || (p.bt 20))) (yq rfl (Rn.qt (qpick rfl rfl (pkO rfl rfl)))) ?_
 try simp only[Act.put,zA,zB,zC]
 refine z_b (v:=.bool ((p.bt 24) || (p.bt 20))) (yq rfl (Rn.qt (qmove rfl rfl))) ?_
 try simp only[Act.put,zA,zB,zC]
 refine z_b (v:=gd ((p.bt 24) || (p.bt 20)) false (.pointer (some ⟨g,q,none⟩))) (yq1 rfl rfl (fun e=>Rn.qt (qmove rfl rfl))) ?_
 try simp only[Act.put,zA,zB,zC]
 refine z_b (v:=gd ((p.bt 24) || (p.bt 20)) false (.pointer (some ⟨g,q,none⟩))) (yq1 rfl rfl (fun e=>Rn.qt (qnil rfl (on e rfl)))) ?_
 try simp only[Act.put,zA,zB,zC]
 refine z_b (v:=gd ((p.bt 24) || (p.bt 20)) false (.pointer (some ⟨g,q+25,none⟩))) (yq1 rfl rfl (fun e=>Rn.qt (qfield rfl (on e rfl) fp25))) ?_
 try simp only[Act.put,zA,zB,zC]
 refine z_b (v:=gd ((p.bt 24) || (p.bt 20)) false (.bool (p.bt 25))) (yq1 rfl rfl (fun e=>Rn.qt (qload rfl (on e rfl) (R.bit rfl)))) ?_
 try simp only[Act.put,zA,zB,zC]
 refine z_b (v:=gd ((p.bt 24) || (p.bt 20)) false (.bool (!(p.bt 25)))) (yq1 rfl rfl (fun e=>Rn.qt (qnot rfl (on e rfl)))) ?_
 try simp only[Act.put,zA,zB,zC]
 refine z_b (v:=.bool (((p.bt 24) || (p.bt 20)) || (!(p.bt 25)))) (yq rfl (Rn.qt (qpick rfl rfl (pkO rfl rfl)))) ?_
 try simp only[Act.put,zA,zB,zC]
 refine z_b (v:=.bool (((p.bt 24) || (p.bt 20)) || (!(p.bt 25)))) (yq rfl (Rn.qt (qassign rfl rfl))) ?_
 try simp only[Act.put,zA,zB,zC]
 refine wpQuiet_nil ?_;intro _ hw';obtain⟨y,rfl⟩:=hw';go_wp2
 go_ret;exact⟨rfl,z_a B.out y.below⟩
end S13
end
end Go.Proofs.YtlchejbggnbccaaGreat
