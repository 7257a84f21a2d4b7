/-
  A bridge's questions of itself, its Up and its New: the walks, for every bridge. And what follows from it here.
-/
import Derived.Test.YtlchejbggnbccaaGreatP17e
import Derived.Test.YtlchejbggnbccaaGreatP9a
import Derived.Test.YtlchejbggnbccaaGreatPbb
import Derived.Test.YtlchejbggnbccaaGreatP15e
import Derived.Handy
import Derived.OpenShut
import Derived.ChangeSlices
import Derived.ShutString
import Derived.ChangeOld
import Derived.Deep.Slices
namespace Go.Proofs.YtlchejbggnbccaaGreat
set_option linter.unusedVariables false
set_option linter.unusedSimpArgs false
set_option maxRecDepth 4000
set_option maxHeartbeats 40000000
open _root_.Go.Proofs.Tryz
section
namespace S17
open Go.RowKit
abbrev BRes (W:World) (B n:Nat) (E:Ev) (r:Ending) (V:World):Prop:=∃v a' c',r=.returned (.tuple #[v,.int .i64 E.e])∧BrAt V B E.h a' n c' E.l∧DnAt V v E.o E.f∧W.grownBy V (some B)
attribute [local go_sem ↓] ldT stT ldDn stDn
theorem u_x {W:World} {B n c:Nat} {h:Hd} {a:Option Addr} {l:List Pt} (s:BrAt W B h a n c l) :
  Calls prog 45 #[.pointer (some ⟨B,0,none⟩)] W fun r V=>r=.returned (.bool (decide (0<n)))∧V=W:=by
 have c16:=b_16 s.var
 clear s
 by_cases h0:0<n
 ·have e:decide (0<n)=true:=by simp[h0]
  have h1:(0:Int)<(n:Int):=by omega
  rw[e]
  clear e
  go_enter func45,ntmps45
  go_wp2
  go_ret
  exact⟨by simp[h1,h0],rfl⟩
 ·have e:n=0:=by omega
  subst e
  go_enter func45,ntmps45
  go_wp2
  go_ret
  exact⟨by simp,rfl⟩
theorem z_M {W:World} {B n c:Nat} {h:Hd} {a:Option Addr} {l:List Pt} (s:BrAt W B h a n c l) (i:Int) (h0:0<n) (hn:n≤1000) :
  Calls prog 65 #[.pointer (some ⟨B,0,none⟩),.int .i64 i] W fun r V=>r=.returned (.bool (decide (0≤i) && decide (i<n)))∧V=W:=by
 have c16:=b_16 s.var
 have P:Hid _:=u_x s
 rw[show decide (0<n)=true by simp[h0]] at P
 clear s
 by_cases h1:0≤i
 ·by_cases h2:i<(n:Int)
  ·go_enter func65,ntmps65
   go_wp2_with fail
   refine Calls.mono P.out ?_
   rintro _ V ⟨rfl,rfl⟩
   go_wp2
   go_ret
   exact⟨by simp[h1,h2],rfl⟩
  ·go_enter func65,ntmps65
   go_wp2_with fail
   refine Calls.mono P.out ?_
   rintro _ V ⟨rfl,rfl⟩
   go_wp2
   go_ret
   exact⟨by simp[h1,h2],rfl⟩
 ·go_enter func65,ntmps65
  go_wp2_with fail
  refine Calls.mono P.out ?_
  rintro _ V ⟨rfl,rfl⟩
  go_wp2
  go_ret
  exact⟨by have h1:¬ 0≤i:=by omega
           simp[h1],rfl⟩
def lackN (n:Nat) (i:Int):Int:=if 0≤i∧i<(n:Int) then 0 else 5
theorem z_ex {W:World} {B n c:Nat} {h:Hd} {a:Option Addr} {l:List Pt} (s:BrAt W B h a n c l) (i:Int) (h0:0<n) (hn:n≤1000) :
  Calls prog 42 #[.pointer (some ⟨B,0,none⟩),.int .i64 i] W fun r V=>r=.returned (.int .i64 (lackN n i))∧V=W:=by
 have P:Hid _:=u_x s
 rw[show decide (0<n)=true by simp[h0]] at P
 have Q:Hid _:=z_M s i h0 hn
 clear s
 by_cases hi:0≤i∧i<(n:Int)
 ·have e:(decide (0≤i) && decide (i<(n:Int)))=true:=by simp[hi.1,hi.2]
  have e2:lackN n i=0:=if_pos hi
  rw[e] at Q
  rw[e2]
  clear e e2 hi
  go_enter func42,ntmps42
  go_wp2_with fail
  refine Calls.mono P.out ?_
  rintro _ V ⟨rfl,rfl⟩
  go_wp2_with fail
  refine Calls.mono Q.out ?_
  rintro _ V ⟨rfl,rfl⟩
  go_wp2
  go_ret
  exact⟨rfl,rfl⟩
 ·have e:(decide (0≤i) && decide (i<(n:Int)))=false:=by
   rcases Classical.em (0≤i) with q | q
   ·have:¬ i<(n:Int):=fun z=>hi ⟨q,z⟩
    simp[this]
   ·simp[q]
  have e2:lackN n i=5:=if_neg hi
  rw[e] at Q
  rw[e2]
  clear e e2 hi
  go_enter func42,ntmps42
  go_wp2_with fail
  refine Calls.mono P.out ?_
  rintro _ V ⟨rfl,rfl⟩
  go_wp2_with fail
  refine Calls.mono Q.out ?_
  rintro _ V ⟨rfl,rfl⟩
  go_wp2
  go_ret
  exact⟨rfl,rfl⟩
theorem z_lb (w:World):∃W,w.alloc (.cells #[.slice none 0 0,.slice none 0 0] 52)=W∧RvAt W w.heap.size 52 #[.slice none 0 0,.slice none 0 0]∧Below w.heap.size w W:=⟨_,rfl,RvAt.new _ _ _,(Below.refl _ _).alloc (Nat.le_refl _) _⟩
theorem z_iq (W:World):DnAt W (.agg #[.slice none 0 0,.slice none 0 0]) [] []:=⟨_,_,rfl,nilO W,nilI W⟩
theorem z_bA {w W:World} {B n c:Nat} {h:Hd} {a:Option Addr} {l:List Pt} (s:BrAt W B h a n c l) (b:Below w.heap.size w W) (r:RvAt W w.heap.size 52 #[.slice none 0 0,.slice none 0 0]) (hB:B≠w.heap.size) :
  ∃V,(stS 52 (.pointer (some ⟨w.heap.size,0,none⟩)) (.agg #[.slice none 0 0,.slice none 0 0])).run prog W=.ok () V∧RvAt V w.heap.size 52 #[.slice none 0 0,.slice none 0 0]∧BrAt V B h a n c l∧w.grownBy V (some B):=by
 have e:=r.st (ds:=#[.slice none 0 0,.slice none 0 0]) rtD rfl rfl (y_g rfl rfl)
 have g:=z_m W w.heap.size #[.slice none 0 0,.slice none 0 0]
 refine⟨_,e,r.set,s.kept r (by decide) (by simp) g,?_⟩
 have k:=gro b g (Nat.le_refl _) b.size
 exact z_q k _
theorem z_fP {w W X:World} {B n c:Nat} {h:Hd} {a:Option Addr} {l:List Pt} {v:Value} {os:List Ot} {fs:List Int} (s:BrAt X B h a n c l) (b:Below w.heap.size w W) (g:W.grownBy X (some B)) (r:RvAt X w.heap.size 52 #[.slice none 0 0,.slice none 0 0]) (hB:B<w.heap.size) (d:DnAt X v os fs) :
  ∃V vo vf,v=.agg #[vo,vf]∧(stS 52 (.pointer (some ⟨w.heap.size,0,none⟩)) v).run prog X=.ok () V∧RvAt V w.heap.size 52 #[vo,vf]∧BrAt V B h a n c l∧DnAt V v os fs∧w.grownBy V (some B):=by
 obtain⟨vo,vf,rfl,o1,f1⟩:=d.out
 have e:=r.st (ds:=#[vo,vf]) rtD rfl rfl (y_g o1.one f1.one)
 have k:=z_m X w.heap.size #[vo,vf]
 refine⟨_,vo,vf,rfl,e,r.set,s.kept r (by decide) (by simp) k,⟨vo,vf,rfl,o1.row r (by decide) k,f1.row r (by decide) k⟩,?_⟩
 have q:w.grownBy X (some B):=z_n (z_q b _) g
 refine⟨k.os.trans q.os,k.tape.trans q.tape,k.output.trans q.output,Nat.le_trans q.size k.size,fun i hi hne=>?_⟩
 rw[k.block i (Nat.lt_of_lt_of_le hi q.size) (by simp;omega),q.block i hi hne]
theorem z_jQ {n:Nat} {i:Int} (h:0≤i∧i<(n:Int)):lackN n i=0:=if_pos h
theorem z_gW {n:Nat} {i:Int} (h:¬ (0≤i∧i<(n:Int))):lackN n i=5:=if_neg h
theorem z_be {w:World} {B n c:Nat} {h:Hd} {a:Option Addr} {l:List Pt} (s:BrAt w B h a n c l) (i:Int) (on:Bool) (h0:0<n) (hn:n≤100) :
  Calls prog 12 #[.pointer (some ⟨B,0,none⟩),.int .i64 i,.bool on] w fun r V=>BRes w B n (evUp h l i on) r V:=by
 have hlen:=s.sl.len
 obtain⟨W,hW,rW,bW⟩:=z_lb w
 have S:Hid (BrAt W B h a n c l∧RvAt W w.heap.size 52 #[.slice none 0 0,.slice none 0 0]∧Below w.heap.size w W∧B<w.heap.size):=⟨s.below bW,rW,bW,s.var.lt⟩
 have P:Hid _:=z_ex (s.below bW) i h0 (by omega)
 clear s rW bW
 by_cases hi:0≤i∧i<(n:Int)
 rotate_left
 ·rw[z_gW hi] at P
  have E:Hid (evUp h l i on=Ev.no h l 5):=z_bQ (fun q=>hi ⟨q.1,by have:=q.2;omega⟩)
  rw[E.out]
  obtain⟨V,eV,rV,sV,gV⟩:=z_bA S.out.1 S.out.2.2.1 S.out.2.1 (by have:=S.out.2.2.2;omega)
  have F:Hid (RvAt V w.heap.size 52 #[.slice none 0 0,.slice none 0 0]∧BrAt V B h a n c l∧w.grownBy V (some B)):=⟨rV,sV,gV⟩
  clear rV sV gV hi E
  go_enter func12,ntmps12
  go_wp2_with fail
  refine Calls.mono P.out ?_
  rintro _ V' ⟨rfl,rfl⟩
  go_wp2
  refine bodyPost_ret (z_d rtD results12 _ _ _ _ rfl F.out.1 rfl) rfl ?_
  exact⟨_,a,c,rfl,F.out.2.1,z_iq _,F.out.2.2⟩
 rw[z_jQ hi] at P
 obtain⟨k,rfl⟩:∃k:Nat,i=(k:Int):=⟨i.toNat,by omega⟩
 have hkl:k<l.length:=by omega
 have hi0:=hi.1
 have hi1:=hi.2
 clear hi
 obtain⟨pb,po,rfl⟩:=S.out.1.sl.some' h0
 have c16:=b_16 S.out.1.var
 have c2:=S.out.1.sl.cell (z_k hkl) ((gtP l k).bit (j:=2) rfl) (by omega)
 obtain⟨bb,hbb⟩:∃z,(gtP l k).bt 2=z:=⟨_,rfl⟩
 rw[hbb] at c2
 by_cases he:bb=on
 ·have E:Hid (evUp h l (k:Int) on=Ev.no h l 0):=z_eR hkl (by rw[hbb];exact he)
  rw[E.out]
  obtain⟨V,eV,rV,sV,gV⟩:=z_bA S.out.1 S.out.2.2.1 S.out.2.1 (by have:=S.out.2.2.2;omega)
  have F:Hid (RvAt V w.heap.size 52 #[.slice none 0 0,.slice none 0 0]∧BrAt V B h (some ⟨pb,po,none⟩) n c l∧w.grownBy V (some B)):=⟨rV,sV,gV⟩
  clear rV sV gV E hbb
  subst he
  go_enter func12,ntmps12
  go_wp2_with fail
  refine Calls.mono P.out ?_
  rintro _ V' ⟨rfl,rfl⟩
  go_wp2
  refine bodyPost_ret (z_d rtD results12 _ _ _ _ rfl F.out.1 rfl) rfl ?_
  exact⟨_,_,c,rfl,F.out.2.1,z_iq _,F.out.2.2⟩
 ·have E:Hid (evUp h l (k:Int) on=Ev.of (runT h (S9.upL l (k:Int) on))):=z_ka hkl (by rw[hbb];exact he)
  rw[E.out]
  obtain⟨ll,hll⟩:∃z,S9.upL l (k:Int) on=z:=⟨_,rfl⟩
  have HLL:Hid (S9.upL l (k:Int) on=ll∧ll.length=n):=⟨hll,by rw[←hll,← hlen];exact z_iw l (k:Int) on⟩
  rw[hll]
  have hx:(bb==on)=false:=by simpa using he
  clear hll
  have lt:=b_ld S.out.1.var
  clear E hbb he
  go_enter func12,ntmps12
  go_wp2_with fail
  refine Calls.mono P.out ?_
  rintro _ V' ⟨rfl,rfl⟩
  go_wp2_with fail
  refine (S9.z_be h (some ⟨pb,po,none⟩) n c l (k:Int) on V' S.out.1.sl (by omega)).mono ?_
  rintro _ X ⟨v,rfl,oX,bX⟩
  rw[HLL.out.1] at oX
  obtain⟨a1,c1,hv,s1,_⟩:=oX.form
  rw[HLL.out.2] at hv s1
  subst hv
  have G:Hid (SlAt X a1 n c1 ll∧RvAt X B 94 (trc h (.slice (some ⟨pb,po,none⟩) n c))∧RvAt X w.heap.size 52 #[.slice none 0 0,.slice none 0 0]∧Below w.heap.size w X∧B<w.heap.size):=⟨s1,S.out.1.var.below bX,S.out.2.1.below bX,z_a S.out.2.2.1 bX,S.out.2.2.2⟩
  clear oX bX s1 S P c16 c2 lt
  go_wp2_with fail
  refine (z_bE h a1 ll G.out.2.1 G.out.1 hn).mono ?_
  rintro _ Y ⟨v,a2,c2,rfl,bY,dY,gY⟩
  obtain⟨V,vo,vf,rfl,eV,rV,sV,dV,gV⟩:=z_fP bY G.out.2.2.2.1 gY (G.out.2.2.1.keptBut gY (by have:=G.out.2.2.2.2;simp;omega)) G.out.2.2.2.2 dY
  have F:Hid (RvAt V w.heap.size 52 #[vo,vf]∧BrAt V B (runT h ll).h a2 n c2 (runT h ll).s.l∧DnAt V (.agg #[vo,vf]) (runT h ll).s.o (noted (runT h ll).s.f)∧w.grownBy V (some B)):=⟨rV,sV,dV,gV⟩
  clear bY dY gY rV sV dV gV G
  go_wp2
  refine bodyPost_ret (z_d rtD results12 _ _ _ _ rfl F.out.1 rfl) rfl ?_
  exact⟨_,a2,c2,rfl,F.out.2.1,F.out.2.2.1,F.out.2.2.2⟩
end S17
end
section
namespace S17
open Go.RowKit
def fdP (x:Value) (k:Nat):Sem Value:=Instr.field 74 x k
theorem fdPE (x:Value) (k:Nat):Instr.field 74 x k=fdP x k:=rfl
theorem z_lq (cs:Array Value) (v:Value) (h:cs[30]?=some v) (w:World):(fdP (.agg cs) 30).run prog w=.ok v w:=by
 unfold fdP Instr.field
 simp[run_underlying underlying74,part,asAgg,h,isAgg44]
theorem z_lX (cs:Array Value) (v:Value) (h:cs[8]?=some v) (w:World):(fdP (.agg cs) 8).run prog w=.ok v w:=by
 unfold fdP Instr.field
 simp[run_underlying underlying74,part,asAgg,h,isAgg4]
end S17
end
section
namespace S17
open Go.RowKit
def ptAt (l:List Pt) (i:Int):Pt:=@ite _ (inP l i) (inD l i) (gtP l i.toNat) zeroP
theorem z_ed {l:List Pt} {k:Nat} (h:k<l.length):ptAt l (k:Int)=gtP l k:=by
 have:ptAt l (k:Int)=_:=@if_pos _ (inD l k) ⟨by omega,by omega⟩ _ _ _
 rw[this,Int.toNat_natCast]
theorem z_bw {l:List Pt} {i:Int} (h:¬ inP l i):ptAt l i=zeroP:=@if_neg _ (inD l i) h _ _ _
def bdPs (x:Array (Nat×Value)):Sem Value:=Instr.build 74 x
theorem bdPE (x:Array (Nat×Value)):Instr.build 74 x=bdPs x:=rfl
theorem bdP0 (w:World):(bdPs #[(30,.int .i64 0)]).run prog w=.ok (.agg zeroP.cs) w:=by kernel_rfl
theorem z_ch {fn:Func} {k m:Nat} (hr:fn.results=#[.tmp k,.tmp m]) (tmps:Array Value) (w:World):(results fn tmps).run prog w=.ok (.tuple #[tmps.getD k undef,tmps.getD m undef]) w:=by
 simp[results,hr]
attribute [local go_sem ↓] ldT stT ldDn stDn ldP stP alP fdPE bdPE
attribute [local go_sem] z_l bdP0
theorem z_iD {W:World} {B c:Nat} {h:Hd} {a:Option Addr} {l:List Pt} (s:BrAt W B h a 0 c l) (i:Int) :
  Calls prog 65 #[.pointer (some ⟨B,0,none⟩),.int .i64 i] W fun r V=>r=.returned (.bool false)∧V=W:=by
 have P:Hid _:=u_x s
 clear s
 go_enter func65,ntmps65
 go_wp2_with fail
 refine Calls.mono P.out ?_
 rintro _ V ⟨rfl,rfl⟩
 go_wp2
 go_ret
 exact⟨rfl,rfl⟩
theorem st_p {w W:World} (b:Below w.heap.size w W) (r:RvAt W w.heap.size 74 zeroP.cs) (p:Pt):∃V,(stS 74 (.pointer (some ⟨w.heap.size,0,none⟩)) (.agg p.cs)).run prog W=.ok () V∧RvAt V w.heap.size 74 p.cs∧Below w.heap.size w V:=by
 obtain⟨V,e,r',g⟩:=r.pst (q:=p)
 exact⟨V,e,r',gro b g (Nat.le_refl _) b.size⟩
theorem z_aK (w:World):∃W,w.alloc (.cells zeroP.cs 74)=W∧RvAt W w.heap.size 74 zeroP.cs∧Below w.heap.size w W:=⟨_,rfl,RvAt.new _ _ _,(Below.refl _ _).alloc (Nat.le_refl _) _⟩
theorem z_eh (b:Value) (i:Int) (w:World) (P:∀W,Below w.heap.size w W→Calls prog 65 #[b,.int .i64 i] W fun r V=>r=.returned (.bool false)∧V=W) :
  Calls prog 53 #[b,.int .i64 i] w fun r V=>r=.returned (.agg zeroP.cs)∧Below w.heap.size w V:=by
 obtain⟨W,hW,rW,bW⟩:=z_aK w
 have Q:Hid _:=P W bW
 obtain⟨V,eV,rV,bV⟩:=st_p bW rW zeroP
 have F:Hid (RvAt V w.heap.size 74 zeroP.cs∧Below w.heap.size w V):=⟨rV,bV⟩
 clear P rW bW rV bV
 go_enter func53,ntmps53
 go_wp2_with fail
 refine Calls.mono Q.out ?_
 rintro _ V' ⟨rfl,rfl⟩
 go_wp2
 refine bodyPost_ret (z_e rtP results53 _ _ _ _ rfl F.out.1 (by rw[Row.csize,lenP])) rfl ?_
 exact⟨rfl,F.out.2⟩
theorem z_v {w:World} {B n c:Nat} {h:Hd} {a:Option Addr} {l:List Pt} (s:BrAt w B h a n c l) (i:Int) (hn:n≤1000) :
  Calls prog 53 #[.pointer (some ⟨B,0,none⟩),.int .i64 i] w fun r V=>r=.returned (.agg (ptAt l i).cs)∧Below w.heap.size w V:=by
 have hlen:=s.sl.len
 by_cases h0:0<n
 rotate_left
 ·have e:n=0:=by omega
  subst e
  rw[z_bw (fun q=>by have:=q.1;have:=q.2;omega)]
  exact z_eh _ i w (fun W b=>z_iD (s.below b) i)
 by_cases hi:0≤i∧i<(n:Int)
 rotate_left
 ·rw[z_bw (fun q=>hi ⟨q.1,by have:=q.2;omega⟩)]
  refine z_eh _ i w (fun W b=>?_)
  have:=z_M (s.below b) i h0 hn
  have e:(decide (0≤i) && decide (i<(n:Int)))=false:=by
   rcases Classical.em (0≤i) with q | q
   ·have:¬ i<(n:Int):=fun z=>hi ⟨q,z⟩
    simp[this]
   ·simp[q]
  rw[e] at this
  exact this
 obtain⟨k,rfl⟩:∃k:Nat,i=(k:Int):=⟨i.toNat,by omega⟩
 have hkl:k<l.length:=by omega
 rw[z_ed hkl]
 obtain⟨W,hW,rW,bW⟩:=z_aK w
 have sW:=s.below bW
 have Q:Hid _:=z_M sW (k:Int) h0 hn
 rw[show (decide (0≤(k:Int)) && decide ((k:Int)<(n:Int)))=true by simp;omega] at Q
 obtain⟨pb,po,rfl⟩:=sW.sl.some' h0
 have c16:=b_16 sW.var
 have lp:=sW.sl.ld (z_k hkl)
 obtain⟨p,hp⟩:∃z,gtP l k=z:=⟨_,rfl⟩
 rw[hp] at lp ⊢
 obtain⟨V,eV,rV,bV⟩:=st_p bW rW p
 have F:Hid (RvAt V w.heap.size 74 p.cs∧Below w.heap.size w V):=⟨rV,bV⟩
 have hi0:=hi.1
 have hi1:=hi.2
 clear s sW rW bW rV bV hp hi
 go_enter func53,ntmps53
 go_wp2_with fail
 refine Calls.mono Q.out ?_
 rintro _ V' ⟨rfl,rfl⟩
 go_wp2
 refine bodyPost_ret (z_e rtP results53 _ _ _ _ rfl F.out.1 (by rw[Row.csize,lenP])) rfl ?_
 exact⟨rfl,F.out.2⟩
theorem p_30 (p:Pt) (w:World):(fdP (.agg p.cs) 30).run prog w=.ok (.int .i64 (p.nm 30)) w:=z_lq p.cs _ (by rw[Row.cget];exact p.num (k:=.i64) rfl) w
theorem p_8 (p:Pt) (w:World):(fdP (.agg p.cs) 8).run prog w=.ok (.bool (p.bt 8)) w:=z_lX p.cs _ (by rw[Row.cget];exact p.bit rfl) w
attribute [local go_sem] p_30 p_8
theorem z_iT (b:Value) (p:Pt) (i:Int) (w:World) (P:Calls prog 53 #[b,.int .i64 i] w fun r V=>r=.returned (.agg p.cs)∧Below w.heap.size w V) :
  Calls prog 29 #[b,.int .i64 i] w fun r V=>r=.returned (.int .i64 (p.nm 30))∧Below w.heap.size w V:=by
 have Q:Hid _:=P
 clear P
 go_enter func29,ntmps29
 go_wp2_with fail
 refine Calls.mono Q.out ?_
 rintro _ V ⟨rfl,bV⟩
 have F:Hid (Below w.heap.size w V):=bV
 clear bV
 go_wp2
 go_ret
 exact⟨rfl,F.out⟩
theorem z_jU (b:Value) (p:Pt) (i:Int) (w:World) (P:Calls prog 53 #[b,.int .i64 i] w fun r V=>r=.returned (.agg p.cs)∧Below w.heap.size w V) :
  Calls prog 28 #[b,.int .i64 i] w fun r V=>r=.returned (.bool (p.bt 8))∧Below w.heap.size w V:=by
 have Q:Hid _:=P
 clear P
 go_enter func28,ntmps28
 go_wp2_with fail
 refine Calls.mono Q.out ?_
 rintro _ V ⟨rfl,bV⟩
 have F:Hid (Below w.heap.size w V):=bV
 clear bV
 go_wp2
 go_ret
 exact⟨rfl,F.out⟩
theorem z_jJ (X:World):∃Y,X.alloc (.cells #[.int .u64 0,.int .u8 0,.int .u8 0,.int .u8 0,.int .u8 0,.int .u8 0,.bool false,.int .u16 0,.int .u64 0,.int .u32 0,.int .u64 0,.int .u16 0,.int .u8 0,.int .u8 0,.int .u8 0,.int .u8 0,.slice none 0 0] 94)=Y∧RvAt Y X.heap.size 94 (trc zeroH (.slice none 0 0))∧Below X.heap.size X Y:=⟨_,rfl,by rw[←y_a];exact RvAt.new _ _ _,(Below.refl _ _).alloc (Nat.le_refl _) _⟩
theorem z_lc (w:World) (c:Cf) (x:Value):∃W,w.alloc (.cells (S9.cfc c x) 27)=W∧RvAt W w.heap.size 27 (S9.cfc c x)∧Below w.heap.size w W:=⟨_,rfl,RvAt.new _ _ _,(Below.refl _ _).alloc (Nat.le_refl _) _⟩
def newT (c:Cf) (l:List Int):Ts:=runT (S9.newH c) (S9.newPs l)
attribute [local go_sem ↓] ldC
theorem z_jH (c:Cf) (a:Option Addr) (n k:Nat) (l:List Int) (w:World) (hs:S9.CsAt w a n k l) (hn:n≤100) (ok:S9.okC c l=true) :
  Calls prog 9 #[.agg (S9.cfc c (.slice a n k))] w fun r V=>∃B a' c',r=.returned (.tuple #[.pointer (some ⟨B,0,none⟩),.int .i64 0])∧BrAt V B (newT c l).h a' n c' (newT c l).s.l∧w.heap.size≤B∧Below w.heap.size w V:=by
 obtain⟨W,hW,rW,bW⟩:=z_lc w c (.slice a n k)
 have lc:=rW.cld
 have P:Hid _:=S9.z_jK c a n k l W (hs.below bW) (by omega)
 rw[ok] at P
 have B0:Hid (Below w.heap.size w W∧l.length=n):=⟨bW,hs.len⟩
 clear hs rW bW ok
 go_enter func9,ntmps9
 go_wp2_with fail
 refine Calls.mono P.out ?_
 rintro _ X ⟨v,rfl,oX,bX⟩
 have oX:Own X W.heap.size v (S9.newPs l):=oX
 obtain⟨a1,c1,hv,s1,_⟩:=oX.form
 have hl:(S9.newPs l).length=n:=by rw[←B0.out.2];simp[S9.newPs]
 rw[hl] at hv s1
 subst hv
 obtain⟨Y,sY,rY,bY,zY⟩:=z_bB X (S9.newH c) (.slice a1 n c1) rfl
 obtain⟨z,hz⟩:∃z,X.heap.size=z:=⟨_,rfl⟩
 rw[hz] at sY rY
 have sY:(stS 39 (.pointer (some ⟨z,0,none⟩)) (.agg (trc (S9.hdN true c) (.slice a1 n c1)))).run prog (X.alloc (.cells #[.int .u64 0,.int .u8 0,.int .u8 0,.int .u8 0,.int .u8 0,.int .u8 0,.bool false,.int .u16 0,.int .u64 0,.int .u32 0,.int .u64 0,.int .u16 0,.int .u8 0,.int .u8 0,.int .u8 0,.int .u8 0,.slice none 0 0] 39))=.ok () Y:=sY
 obtain⟨U,hU,rU,bU⟩:=z_jJ Y
 have ltU:=(rY.below bU).tld
 have er:S9.erC true=0:=rfl
 have G:Hid (SlAt U a1 n c1 (S9.newPs l)∧RvAt U Y.heap.size 94 (trc zeroH (.slice none 0 0))∧Below w.heap.size w U∧w.heap.size≤Y.heap.size):=⟨(s1.below bY).below bU,rU,z_a (z_a (z_a B0.out.1 bX) bY) bU,(z_a (z_a B0.out.1 bX) bY).size⟩
 obtain⟨q,hq⟩:∃q,Y.heap.size=q:=⟨_,rfl⟩
 rw[hq] at G
 clear lc P oX bX s1 hl rY bY zY rU bU
 go_wp2_with fail
 refine (z_bE (S9.newH c) a1 (S9.newPs l) G.out.2.1 G.out.1 hn).mono ?_
 rintro _ V ⟨v,a2,c2,rfl,bV,dV,gV⟩
 have F:Hid (BrAt V q (newT c l).h a2 n c2 (newT c l).s.l∧w.heap.size≤q∧Below w.heap.size w V):=⟨bV,G.out.2.2.2,gro G.out.2.2.1 gV G.out.2.2.2 G.out.2.2.1.size⟩
 clear bV dV gV G
 go_wp2
 refine bodyPost_ret (z_ch results9 _ _) rfl ?_
 exact⟨q,a2,c2,rfl,F.out⟩
end S17
end
section
namespace S17
set_option maxRecDepth 100000
open Go.RowKit
def T0:Ts:=runT (S9.newH S15.cX) (S9.newPs [20000,20000])
def E1:Ev:=evUp T0.h T0.s.l 0 true
end S17
end
section
namespace S17
set_option maxRecDepth 100000
open Go.RowKit
theorem z_mb:S9.okC S15.cX [20000,20000]=true:=by kernel_rfl
theorem z_ma:(E1.o[1]?).map (fun r=>(r.nm 0,r.nm 1,r.nm 8,r.bt 4))=some (0,3,4,true):=by kernel_rfl
theorem z_ls:∃r:Ot,E1.o[1]?=some r∧r.cl[0]?=some (.int .i64 0)∧r.cl[1]?=some (.int .i64 3)∧r.cl[8]?=some (.int .i64 4)∧r.cl[4]?=some (.bool true):=by
 have h:=z_ma
 cases hx:E1.o[1]? with
 | none=>rw[hx] at h;cases h
 | some r=>
  rw[hx] at h
  simp only[Option.map_some,Option.some.injEq,Prod.mk.injEq] at h
  refine⟨r,rfl,?_,?_,?_,?_⟩
  ·rw[r.num (k:=.i64) rfl,h.1]
  ·rw[r.num (k:=.i64) rfl,h.2.1]
  ·rw[r.num (k:=.i64) rfl,h.2.2.1]
  ·rw[r.bit rfl,h.2.2.2]
theorem e1_e:E1.e=0:=by kernel_rfl
theorem e1_l:E1.l.length=2:=by kernel_rfl
theorem e1_n:E1.o.length=2:=by kernel_rfl
theorem e1_r:(gtP E1.l 0).nm 30=4:=by kernel_rfl
theorem e1_f:(gtP E1.l 0).bt 8=false:=by kernel_rfl
theorem z_hT (W:World) (vo vf:Value) (h1:vo.oneCell'=true) (h2:vf.oneCell'=true):∃W',(stS 52 (.pointer (some ⟨W.heap.size,0,none⟩)) (.agg #[vo,vf])).run prog (W.alloc (.cells #[.slice none 0 0,.slice none 0 0] 52))=.ok () W'∧RvAt W' W.heap.size 52 #[vo,vf]∧Below W.heap.size W W'∧W'.heap.size=W.heap.size+1:=z_E rtD W _ _ rfl rfl (y_g h1 h2)
attribute [local go_sem ↓] ldDn stDn
theorem z_fB (w:World):Calls prog 11 #[] w fun r V=>r=.returned (.bool true)∧Below w.heap.size w V:=by
 have K1:Hid (newT S15.cX [20000,20000]=T0):=rfl
 have K2:Hid (evUp T0.h T0.s.l 0 true=E1):=rfl
 have K3:Hid (E1.e=0∧E1.l.length=2∧E1.o.length=2∧(gtP E1.l 0).nm 30=4∧(gtP E1.l 0).bt 8=false):=⟨e1_e,e1_l,e1_n,e1_r,e1_f⟩
 have K4:Hid (∃r:Ot,E1.o[1]?=some r∧r.cl[0]?=some (.int .i64 0)∧r.cl[1]?=some (.int .i64 3)∧r.cl[8]?=some (.int .i64 4)∧r.cl[4]?=some (.bool true)):=z_ls
 obtain⟨t0,ht0⟩:∃z,T0=z:=⟨_,rfl⟩
 rw[ht0] at K1 K2
 obtain⟨e1,he1⟩:∃z,E1=z:=⟨_,rfl⟩
 rw[he1] at K2 K3 K4
 clear ht0 he1
 go_enter func11,ntmps11
 go_wp2_with fail
 refine (S15.z_hv w).mono ?_
 rintro _ W1 ⟨a0,k0,rfl,s0,b0⟩
 have N1:Hid _:=z_jH S15.cX a0 2 k0 [20000,20000] W1 s0 (by omega) z_mb
 rw[K1.out] at N1
 have B1:Hid (Below w.heap.size w W1):=b0
 clear s0 b0
 go_wp2_with fail
 refine Calls.mono N1.out ?_
 rintro _ W2 ⟨B,a1,c1,rfl,s1,hB,b1⟩
 have U1:Hid _:=z_be s1 0 true (by omega) (by omega)
 rw[K2.out] at U1
 have B2:Hid (Below w.heap.size w W2∧w.heap.size≤B):=⟨z_a B1.out b1,Nat.le_trans B1.out.size hB⟩
 clear s1 hB b1 N1
 go_wp2_with fail
 refine Calls.mono U1.out ?_
 rintro _ W3 ⟨v3,a2,c2,rfl,s2,d2,g2⟩
 rw[K3.out.1]
 obtain⟨vo,vf,rfl,o2,f2⟩:=d2.out
 obtain⟨ao,co,rfl,so⟩:=o2.len
 rw[K3.out.2.2.1] at so
 rw[K3.out.2.2.1]
 obtain⟨W4,e4,r4,b4,z4⟩:=z_hT W3 (.slice ao 2 co) vf rfl f2.one
 obtain⟨z,hz⟩:∃z,W3.heap.size=z:=⟨_,rfl⟩
 rw[hz] at e4 r4
 have E2:Hid (evUp e1.h e1.l 2 true=Ev.no e1.h e1.l 5):=z_bQ (fun q=>by have:=q.2;have:=K3.out.2.1;omega)
 have U2:Hid _:=z_be (s2.below b4) 2 true (by omega) (by omega)
 rw[E2.out] at U2
 obtain⟨xb,hxb⟩:∃x,(Value.slice a2 2 c2)=x:=⟨_,rfl⟩
 have G:Hid (RvAt W4 z 52 #[.slice ao 2 co,vf]∧S16.SlAt eO W4 ao 2 co e1.o∧Below w.heap.size w W4∧RvAt W4 B 94 (trc e1.h xb)):=by
  have hlt:=(s2.below b4).var
  rw[hxb] at hlt
  exact⟨r4,so.below b4,z_a (gro B2.out.1 g2 B2.out.2 B2.out.1.size) b4,hlt⟩
 clear s2 d2 g2 o2 f2 so r4 b4 z4 U1 E2 hxb
 go_wp2_with fail
 refine Calls.mono U2.out ?_
 rintro _ W5 ⟨v5,a3,c3,rfl,s3,d3,g3⟩
 obtain⟨wo,wf,rfl,o3,f3⟩:=d3.out
 obtain⟨W6,e6,r6,b6,z6⟩:=z_hT W5 wo wf o3.one f3.one
 have S6:Hid (BrAt W6 B e1.h a3 2 c3 e1.l):=s3.below b6
 have r6':=(G.out.1.keptBut g3 (by have:=z_L G.out.1 G.out.2.2.2 (by decide);simpa using this)).below b6
 have sG:=(G.out.2.1.keptV G.out.2.2.2 (by decide) g3).below b6
 have B6:Hid (Below w.heap.size w W6):=z_a (gro G.out.2.2.1 g3 B2.out.2 G.out.2.2.1.size) b6
 obtain⟨ob,oo,rfl⟩:=sG.some' (by omega)
 obtain⟨x,hx,x0,x1,x8,x4⟩:=K4.out
 have d0:=r6'.cell 0 _ rfl
 have m0:W6.cell? ⟨ob,oo+17,none⟩=some (.int .i64 0):=sG.cell kO (j:=0) hx (by show x.cs[0]?=_;rw[Row.cget];exact x0) (by simp[eO])
 have m1:W6.cell? ⟨ob,oo+17+1,none⟩=some (.int .i64 3):=sG.cell kO (j:=1) hx (by show x.cs[1]?=_;rw[Row.cget];exact x1) (by simp[eO])
 have m8:W6.cell? ⟨ob,oo+17+1+7,none⟩=some (.int .i64 4):=sG.cell kO (j:=8) hx (by show x.cs[8]?=_;rw[Row.cget];exact x8) (by simp[eO])
 have m4:W6.cell? ⟨ob,oo+17+1+3,none⟩=some (.bool true):=sG.cell kO (j:=4) hx (by show x.cs[4]?=_;rw[Row.cget];exact x4) (by simp[eO])
 have P30:Hid _:=z_iT _ _ 0 W6 (z_v S6.out 0 (by omega))
 have P8:Hid (∀V,Below W6.heap.size W6 V→_):=fun V b=>z_jU _ _ 0 V (z_v (S6.out.below b) 0 (by omega))
 have hpt:ptAt e1.l 0=gtP e1.l 0:=z_ed (k:=0) (by rw[K3.out.2.1];omega)
 rw[hpt,K3.out.2.2.2.1] at P30
 rw[hpt,K3.out.2.2.2.2] at P8
 clear hpt s3 d3 g3 o3 f3 r6 b6 z6 r6' sG hx x0 x1 x8 x4 G U2
 go_wp2_with fail
 refine Calls.mono P30.out ?_
 rintro _ V1 ⟨rfl,q1⟩
 have B7:Hid (Below w.heap.size w V1):=z_a B6.out q1
 have Q8:Hid _:=P8.out V1 q1
 clear q1 P8 P30
 go_wp2_with fail
 refine Calls.mono Q8.out ?_
 rintro _ V2 ⟨rfl,q2⟩
 have F:Hid (Below w.heap.size w V2):=z_a B7.out q2
 clear q2
 go_wp2
 go_ret
 exact⟨rfl,F.out⟩
end S17
end
section
namespace S17
open Go.RowKit
theorem z_bm (n:Nat):∀(m:Nat) (t:Ts),(runN n m t).s.o.length≤t.s.o.length+m*n
 | 0,t=>by simp[runN]
 | m+1,t=>by
  have h1:(pass n t).s.o.length≤t.s.o.length+n:=(z_aG (S12.stpH t.h t.s.l) ⟨S12.stpL t.h t.s.l,S12.stpB t.h t.s.l,t.s.o,t.s.f⟩ n).1
  unfold runN
  split
  ·have:=z_bm n m (pass n t)
   rw[Nat.succ_mul]
   omega
  ·rw[Nat.succ_mul]
   omega
theorem z_kP (h:Hd) (l:List Pt) (hn:l.length≤100):(runT h l).s.o.length≤100000∧(noted (runT h l).s.f).length≤100000:=by
 have h1:=z_bm l.length 100 (start h l)
 have h2:=z_az l.length 100 (start h l)
 have h3:=z_ac (runT h l).s.f
 have e1:(start h l).s.o.length=0:=rfl
 have e2:(start h l).s.f.length=0:=rfl
 have e3:runT h l=runN l.length 100 (start h l):=rfl
 rw[←e3] at h1 h2
 omega
theorem z_hS {td:TypeId} (X:World) (h:Hd) (x vo vf:Value) (ht:RowTy td 2) (hx:x.oneCell'=true) (h1:vo.oneCell'=true) (h2:vf.oneCell'=true) :
  ∃U V,(stS 39 (.pointer (some ⟨X.heap.size,0,none⟩)) (.agg (trc h x))).run prog ((X.alloc (.cells #[.int .u64 0,.int .u8 0,.int .u8 0,.int .u8 0,.int .u8 0,.int .u8 0,.bool false,.int .u16 0,.int .u64 0,.int .u32 0,.int .u64 0,.int .u16 0,.int .u8 0,.int .u8 0,.int .u8 0,.int .u8 0,.slice none 0 0] 39)).alloc (.cells #[.slice none 0 0,.slice none 0 0] td))=.ok () U∧(stS td (.pointer (some ⟨X.heap.size+1,0,none⟩)) (.agg #[vo,vf])).run prog U=.ok () V∧RvAt V X.heap.size 39 (trc h x)∧RvAt V (X.heap.size+1) td #[vo,vf]∧Below X.heap.size X V:=by
 obtain⟨A,hA⟩:∃A,X.alloc (.cells zeroT 39)=A:=⟨_,rfl⟩
 have rA:RvAt A X.heap.size 39 (trc zeroH (.slice none 0 0)):=by rw[←hA,← y_a];exact RvAt.new _ _ _
 have bA:Below X.heap.size X A:=by rw[←hA];exact (Below.refl _ _).alloc (Nat.le_refl _) _
 have zA:A.heap.size=X.heap.size+1:=by rw[←hA];simp
 rw[show X.alloc (.cells #[.int .u64 0,.int .u8 0,.int .u8 0,.int .u8 0,.int .u8 0,.int .u8 0,.bool false,.int .u16 0,.int .u64 0,.int .u32 0,.int .u64 0,.int .u16 0,.int .u8 0,.int .u8 0,.int .u8 0,.int .u8 0,.slice none 0 0] 39)=A from hA]
 obtain⟨C,hC⟩:∃C,A.alloc (.cells #[.slice none 0 0,.slice none 0 0] td)=C:=⟨_,rfl⟩
 have rC:RvAt C (X.heap.size+1) td #[.slice none 0 0,.slice none 0 0]:=by rw[←hC,← zA];exact RvAt.new _ _ _
 have bC:Below A.heap.size A C:=by rw[←hC];exact (Below.refl _ _).alloc (Nat.le_refl _) _
 rw[hC]
 obtain⟨U,eU,rU,gU⟩:=(rA.below bC).tst (g:=h) (y:=x) hx
 have dU:=rC.keptBut gU (by simp)
 have eV:=dU.st (ds:=#[vo,vf]) ht rfl rfl (y_g h1 h2)
 have gV:=z_m U (X.heap.size+1) #[vo,vf]
 refine⟨U,_,eU,eV,rU.keptBut gV (by simp),dU.set,?_⟩
 have q:=gro (z_a bA bC) gU (Nat.le_refl _) (z_a bA bC).size
 exact gro q gV (by omega) q.size
attribute [local go_sem ↓] ldT stT ldDn stDn ldEn stEn
theorem v_J (h:Hd) (a:Option Addr) (n c:Nat) (l:List Pt) (w:World) (hs:SlAw w a n c l) :
  Calls prog 4 #[.agg (trc h (.slice a n c))] w fun r V=>r=.returned (.bool true)∧Below w.heap.size w V:=by
 obtain⟨W,hW,r0,b0⟩:=y_S w h (.slice a n c)
 have l0:=r0.tld
 have P:Hid _:=z_jZ h a n c l W (hs.below b0)
 have H:Hid (RvAt W w.heap.size 39 (trc h (.slice a n c))∧Below w.heap.size w W):=⟨r0,b0⟩
 clear hs r0 b0
 go_enter func4,ntmps4
 go_wp2_with fail
 refine Calls.mono P.out ?_
 rintro _ X1 ⟨v,rfl,o1,b1⟩
 obtain⟨ll,hll⟩:∃z,l.take 10=z:=⟨_,rfl⟩
 rw[hll] at o1
 have hl10:ll.length≤10:=by rw[←hll,List.length_take];omega
 obtain⟨a1,c1,hv,s1,_⟩:=o1.form
 obtain⟨m,hm⟩:∃m,ll.length=m:=⟨_,rfl⟩
 rw[hm] at hv s1 hl10
 subst hv
 obtain⟨V1,e1,r1,g1⟩:=(H.out.1.below b1).tst (g:=h) (y:=.slice a1 m c1) rfl
 have k1:=r1.tld
 have S1:Hid (RvAt V1 w.heap.size 39 (trc h (.slice a1 m c1))∧SlAt V1 a1 m c1 ll∧Below w.heap.size w V1∧ll.length=m∧m≤10):=⟨r1,s1.keptT (H.out.1.below b1) g1,gro (z_a H.out.2 b1) g1 (Nat.le_refl _) (z_a H.out.2 b1).size,hm,hl10⟩
 have LB:Hid ((runT h ll).s.o.length≤100000∧(noted (runT h ll).s.f).length≤100000):=z_kP h ll (by omega)
 have R1:Hid _:=z_dk h a1 m c1 ll V1 S1.out.2.1 (by omega)
 obtain⟨T,hT⟩:∃z,runT h ll=z:=⟨_,rfl⟩
 have HT:Hid (runT h ll=T):=hT
 rw[hT] at R1 LB
 clear o1 b1 hll hl10 s1 hm r1 g1 H P l0 hW hT
 go_wp2_with fail
 refine Calls.mono R1.out ?_
 rintro _ X2 ⟨a2,c2,vo,vf,rfl,s2,n2,o2,f2,b2⟩
 obtain⟨U2,V2,eu2,ev2,rt2,rd2,bv2⟩:=z_hS X2 T.h (.slice a2 m c2) vo vf rtD rfl (w_g o2) (w_g f2)
 obtain⟨z2,hz2⟩:∃z,X2.heap.size=z:=⟨_,rfl⟩
 rw[hz2] at eu2 ev2 rt2 rd2
 have S2:Hid (RvAt V2 w.heap.size 39 (trc h (.slice a1 m c1))∧SlAt V2 a1 m c1 ll∧Below w.heap.size w V2∧RvAt V2 z2 39 (trc T.h (.slice a2 m c2))∧RvAt V2 (z2+1) 52 #[vo,vf]∧SlAt V2 a2 m c2 T.s.l∧isO V2 vo T.s.o∧isI V2 vf (noted T.s.f)):=⟨(S1.out.1.below b2).below bv2,(S1.out.2.1.below b2).below bv2,z_a (z_a S1.out.2.2.1 b2) bv2,rt2,rd2,s2.below bv2,(z_ej o2).below bv2,(z_ek f2).below bv2⟩
 have k2:=S2.out.1.tld
 have R2:Hid _:=z_fV h a1 m c1 ll V2 S2.out.2.1 (by have:=S1.out.2.2.2.2;omega)
 rw[HT.out] at R2
 clear s2 n2 o2 f2 b2 rt2 rd2 bv2 R1 k1 e1
 go_wp2_with fail
 refine Calls.mono R2.out ?_
 rintro _ X3 ⟨a3,c3,v3,rfl,s3,d3,b3⟩
 obtain⟨wo,wf,rfl,o3,f3⟩:=d3.out
 obtain⟨U3,V3,eu3,ev3,rt3,rd3,bv3⟩:=z_hS X3 T.h (.slice a3 m c3) wo wf rtE rfl o3.one f3.one
 obtain⟨z3,hz3⟩:∃z,X3.heap.size=z:=⟨_,rfl⟩
 rw[hz3] at eu3 ev3 rt3 rd3
 have S3:Hid (Below w.heap.size w V3∧RvAt V3 z2 39 (trc T.h (.slice a2 m c2))∧RvAt V3 (z2+1) 52 #[vo,vf]∧RvAt V3 z3 39 (trc T.h (.slice a3 m c3))∧RvAt V3 (z3+1) 53 #[wo,wf]∧SlAt V3 a2 m c2 T.s.l∧SlAt V3 a3 m c3 T.s.l∧DnAt V3 (.agg #[vo,vf]) T.s.o (noted T.s.f)∧DnAt V3 (.agg #[wo,wf]) T.s.o (noted T.s.f)):=
  ⟨z_a (z_a S2.out.2.2.1 b3) bv3,(S2.out.2.2.2.1.below b3).below bv3,(S2.out.2.2.2.2.1.below b3).below bv3,rt3,rd3,(S2.out.2.2.2.2.2.1.below b3).below bv3,s3.below bv3,⟨vo,vf,rfl,(S2.out.2.2.2.2.2.2.1.below b3).below bv3,(S2.out.2.2.2.2.2.2.2.below b3).below bv3⟩,⟨wo,wf,rfl,o3.below bv3,f3.below bv3⟩⟩
 have k3:=S3.out.2.1.tld
 have k4:=S3.out.2.2.2.1.tld
 have Q1:Hid _:=S15.z_dt T.h T.h a2 a3 m m c2 c3 T.s.l T.s.l V3 S3.out.2.2.2.2.2.1 S3.out.2.2.2.2.2.2.1 (by have:=S1.out.2.2.2.2;omega) (by have:=S1.out.2.2.2.2;omega)
 rw[S15.z_cb] at Q1
 clear s3 d3 o3 f3 b3 rt3 rd3 bv3 S2 R2 k2 eu2 ev2 hz2
 go_wp2_with fail
 refine Calls.mono Q1.out ?_
 rintro _ V4 ⟨rfl,b4⟩
 have k5:=(S3.out.2.2.1.below b4).ld rtD rfl
 have k6:=(S3.out.2.2.2.2.1.below b4).ld rtE rfl
 have Q2:Hid _:=z_fR (.agg #[vo,vf]) (.agg #[wo,wf]) T.s.o (noted T.s.f) V4 (S3.out.2.2.2.2.2.2.2.1.below b4) (S3.out.2.2.2.2.2.2.2.2.below b4) LB.out.1 LB.out.2
 have B4:Hid (Below w.heap.size w V4):=z_a S3.out.1 b4
 clear b4 Q1 k3 k4 eu3 ev3 hz3 S3
 go_wp2_with fail
 refine Calls.mono Q2.out ?_
 rintro _ V5 ⟨rfl,b5⟩
 have B5:Hid (Below w.heap.size w V5):=z_a B4.out b5
 clear b5 Q2 k5 k6
 go_wp2_with fail
 refine (z_fB V5).mono ?_
 rintro _ V6 ⟨rfl,b6⟩
 have F:Hid (Below w.heap.size w V6):=z_a B5.out b6
 clear b6
 go_wp2
 go_ret
 exact⟨rfl,F.out⟩
end S17
end
section
open Go.ChangeShapes Go.WideShapes Go.ChangeAt Go.RowKit
theorem laidOut:laidOutB prog=true:=by kernel_rfl
theorem own:ownKnob prog.godebug=none:=by kernel_rfl
theorem cellsP:prog.cellsOf 74=77:=by kernel_rfl
theorem cellsT:prog.cellsOf 39=17:=by kernel_rfl
theorem z_hH {W:World} {base:Nat} {a:Addr} {n:Nat} {cs:List Value} (h:W.cells? base a n=some cs) (j:Nat) (x:Value) (hj:cs[j]?=some x):W.cell? (a.add j)=some x:=by
 unfold World.cells? at h
 split at h
 ·have hl:=mapM_some_length h
  rw[List.length_range] at hl
  have hjn:j<n:=by rw[←hl];exact (List.getElem?_eq_some_iff.1 hj).1
  have:=mapM_some_get h j j (by rw[List.getElem?_range hjn])
  rw[this]
  exact hj
 ·cases h
theorem z_eA {H:Type} {enc:TypeId×Value→H} {W:World} {b fuel:Nat} {sp:Nat→Bool} {t:TypeId} {fs:Array Field} {ks:List (Option IntKind)} {cs:List Value} {c:Value} {r:DataW H×List MemPlace} (k:Nat) (hu:prog.underlying t=some (.struct fs))
  (hk:fieldKinds prog (kindsOf prog 5) 0 (fs.toList.take k)=some ks) (hs:cs.length=ks.length) (hall:∀f∈fs.toList.take k,f.offset+prog.cellsOf f.type≤ks.length)
  (hf:DataW.trod enc prog W b sp true fuel t (cs++[c])=some r):Fits ks cs:=by
 obtain⟨xs,m,_,_,_,hl,hg⟩:=DataW.trod_struct hu hf
 have:=trodFields enc prog W b sp m (kindsOf prog 5) (fun t ks cs r=>x_j enc prog W b sp 5 m t ks cs r) cs (fs.toList.take k) 0 ks hk (by rw[hs];omega) (fun f hf'=>by
  obtain⟨i,hi,e⟩:=List.mem_iff_getElem.1 (List.mem_of_mem_take hf')
  have hi':i<fs.size:=by simpa using hi
  have q:=hg i f (by rw[Array.getElem?_eq_getElem hi'];simpa using e)
  rw[List.getElem?_eq_getElem (by omega)] at q
  have hb:=hall f hf'
  have e1:((cs++[c]).drop f.offset).take (prog.cellsOf f.type)=(cs.drop f.offset).take (prog.cellsOf f.type):=by
   rw[List.drop_append_of_le_length (by omega),List.take_append_of_le_length (by rw[List.length_drop];omega)]
  rw[e1] at q
  exact⟨_,q⟩)
 rw[List.drop_zero] at this
 exact this
theorem z_ck {H:Type} {enc:TypeId×Value→H} {W:World} {fuel:Nat} {v:Value} {r:DataW H×List MemPlace} (hf:DataW.trod enc prog W 0 (fun _=>true) true fuel 37 [v]=some r) :
  ∃(a:Option Addr) (n c:Nat) (l:List Pt),v=.slice a n c∧SlAw W a n c l:=by
 rcases Go.Deep.open_slice underlying37 hf with ⟨hcs,_⟩ | ⟨a,len,cap,m,k,D,Pl,hcs,_,hl,hm,hmm,_,hel⟩
 ·simp at hcs
  exact⟨none,0,0,[],hcs,(SlAt.none' W).toSlAw⟩
 ·simp at hcs
  have hmm':m=cap:=by simpa using hmm
  have key:∀i,i<len→∃u:Pt,∀j x,u.cl[j]?=some x→W.cell? ((a.add (i*77)).add j)=some x:=by
   intro i hi
   obtain⟨cs',h1,h2⟩:=hel i (by omega)
   rw[cellsP] at h1
   exact⟨⟨cs',x_j enc prog W 0 _ 6 k _ kdP cs' _ plainP.kinds h2⟩,fun j x hj=>z_hH h1 j x hj⟩
  have:Inhabited Pt:=⟨zeroP⟩
  obtain⟨V,hV⟩:=Go.Deep.choose_lt key
  refine⟨some a,len,cap,(List.range len).map V,hcs,⟨by simp,hl,hm,(fun e=>by cases e),fun x e h0=>?_⟩⟩
  cases e
  have h0':∃x,(V 0).cl[0]?=some x:=⟨_,(V 0).num (k:=.u16) rfl⟩
  obtain⟨x0,hx0⟩:=h0'
  have hc:=hV 0 h0 0 x0 hx0
  obtain⟨b,o,sp⟩:=a
  have hsp:sp=none:=by simpa [Addr.add] using World.cell?_spot hc
  subst hsp
  refine⟨b,o,rfl,fun j u hj=>?_⟩
  rw[z_K] at hj
  obtain⟨p,hp,hu⟩:=Option.bind_eq_some_iff.1 hj
  have hjl:j / 77<len:=by
   have:=(List.getElem?_eq_some_iff.1 hp).1
   simpa using this
  have hpe:p=V (j / 77):=by
   rw[List.getElem?_map,List.getElem?_range hjl] at hp
   simpa using hp.symm
  subst hpe
  have:=hV (j / 77) hjl (j%77) u hu
  rw[Addr.add_lit,Addr.add_lit] at this
  rw[show o+j=o+j / 77*77+j%77 by omega]
  exact this
theorem z_eo {H:Type} {enc:TypeId×Value→H} {W:World} {base:Nat} {v:Value} {dd:DataW H} {pl:List MemPlace}
  (hv:Value.okWide prog W .any base 39 v) (h:DataW.Trod enc prog W 0 (fun _=>true) true 39 v dd pl) :
  ∃(g:Hd) (a:Option Addr) (n c:Nat) (l:List Pt),v=.agg (trc g (.slice a n c))∧SlAw W a n c l:=by
 obtain⟨cs,rfl,hsz,_⟩:∃cs,v=.agg cs∧cs.size=prog.cellsOf 39∧Row.okWide prog W .any base 39 cs:=by
  simpa [Value.okWide,underlying39] using hv
 rw[cellsT] at hsz
 obtain⟨l⟩:=cs
 obtain⟨fuel,hf⟩:=h
 match l,hsz with
 | [c0,c1,c2,c3,c4,c5,c6,c7,c8,c9,c10,c11,c12,c13,c14,c15,c16],_=>
  have hf':DataW.trod enc prog W 0 (fun _=>true) true fuel 39 ([c0,c1,c2,c3,c4,c5,c6,c7,c8,c9,c10,c11,c12,c13,c14,c15]++[c16])=some (dd,pl):=hf
  have hh:=z_eA (ks:=kdH) 7 underlying39 (by kernel_rfl) rfl (by decide +kernel) hf'
  obtain⟨xs,m,_,_,_,hl,hg⟩:=DataW.trod_struct underlying39 hf'
  have hl':xs.length=8:=hl
  have g7:DataW.trod enc prog W 0 (fun _=>true) true m 37 ((([c0,c1,c2,c3,c4,c5,c6,c7,c8,c9,c10,c11,c12,c13,c14,c15]++[c16]).drop 16).take (prog.cellsOf 37))=xs[7]?:=hg 7 _ rfl
  rw[List.getElem?_eq_getElem (by omega)] at g7
  have g7':DataW.trod enc prog W 0 (fun _=>true) true m 37 [c16]=some xs[7]:=by
   rw[show prog.cellsOf 37=1 by kernel_rfl] at g7
   exact g7
  obtain⟨a,n,c,ps,rfl,hs⟩:=z_ck g7'
  exact⟨⟨[c0,c1,c2,c3,c4,c5,c6,c7,c8,c9,c10,c11,c12,c13,c14,c15],hh⟩,a,n,c,ps,rfl,hs⟩
end
end Go.Proofs.YtlchejbggnbccaaGreat
