/-
  Ports of lists and trees' variables: what is stored, what stays. Plain laws over the program's types; the walks of the library's Clone and of Few. And what follows from it here.
-/
import Derived.Test.YtlchejbggnbccaaGreatPbb
import Derived.Deep.RegionHeld3
import Derived.Test.YtlchejbggnbccaaGreatPba
import Derived.Deep.Cut
import Derived.Deep.CutRange
namespace Go.Proofs.YtlchejbggnbccaaGreat
set_option linter.unusedVariables false
set_option linter.unusedSimpArgs false
set_option maxRecDepth 4000
set_option maxHeartbeats 40000000
open _root_.Go.Proofs.Tryz
section
namespace S15
open Go.RowKit
theorem z_eF {l:List Pt} {i:Nat} {p:Pt} (h:i<l.length):(l.set i p)[i]?=some p:=by
 rw[List.getElem?_set,if_pos rfl,if_pos h]
attribute [local go_sem ↓] ldP stP ldT stT apE st32
attribute [local go_sem ↓] slP
end S15
end
section
namespace S15
open Go.RowKit
theorem kb23:kdP[23]?=some none:=rfl
theorem ku64:kdP[64]?=some (some .u8):=rfl
theorem ku66:kdP[66]?=some (some .u8):=rfl
theorem ku67:kdP[67]?=some (some .u8):=rfl
theorem kn75:kdP[75]?=some (some .i64):=rfl
theorem kn76:kdP[76]?=some (some .i64):=rfl
theorem km0:kdM[0]?=some (some .i64):=rfl
theorem km1:kdM[1]?=some none:=rfl
theorem km2:kdM[2]?=some none:=rfl
theorem km3:kdM[3]?=some none:=rfl
theorem km4:kdM[4]?=some none:=rfl
theorem km5:kdM[5]?=some none:=rfl
theorem km6:kdM[6]?=some none:=rfl
theorem km7:kdM[7]?=some (some .i64):=rfl
theorem mq8:(kdM.drop 8).take kdV.length=kdV:=rfl
theorem ml8:8+kdV.length≤kdM.length:=by decide
theorem mq12:(kdM.drop 12).take kdT.length=kdT:=rfl
theorem ml12:12+kdT.length≤kdM.length:=by decide
theorem z_ar (v:Vc):v.cl=[.int .u64 (v.nm 0),.int .u32 (v.nm 1),.int .u64 (v.nm 2),.int .u16 (v.nm 3)]:=by
 have h0:=v.num (j:=0) (k:=.u64) rfl;have h1:=v.num (j:=1) (k:=.u32) rfl;have h2:=v.num (j:=2) (k:=.u64) rfl;have h3:=v.num (j:=3) (k:=.u16) rfl;have hl:=v.len;rw[lenV] at hl;generalize v.cl=x at *
 match x,hl with
 | [a,b,c,d],_=>
  simp only[List.getElem?_cons_zero,List.getElem?_cons_succ,Option.some.injEq] at h0 h1 h2 h3;rw[h0,h1,h2,h3]
theorem z_bY (v:Tm):v.cl=[.int .u8 (v.nm 0),.int .u8 (v.nm 1),.int .u8 (v.nm 2),.int .u8 (v.nm 3)]:=by
 have h0:=v.num (j:=0) (k:=.u8) rfl;have h1:=v.num (j:=1) (k:=.u8) rfl;have h2:=v.num (j:=2) (k:=.u8) rfl;have h3:=v.num (j:=3) (k:=.u8) rfl;have hl:=v.len;rw[lenT] at hl;generalize v.cl=x at *
 match x,hl with
 | [a,b,c,d],_=>
  simp only[List.getElem?_cons_zero,List.getElem?_cons_succ,Option.some.injEq] at h0 h1 h2 h3;rw[h0,h1,h2,h3]
def dsT (p:Pt):Tm:=⟨(p.cl.drop 40).take 4,(p.sub 40 4).ok⟩
theorem _root_.Go.Proofs.YtlchejbggnbccaaGreat.RvAt.pdsT15 {W:World} {b:Nat} {p:Pt} (hb:RvAt W b 74 p.cs):(ldS 24 (.pointer (some ⟨b,40,none⟩))).run prog W=.ok (.agg (dsT p).cs) W:=hb.part rfl rfl underlying24 rfl infoTm
def rolN (r:Int):Int:=if r=2 then 1 else if r=1∨r=3∨r=4 then r else 0
theorem z_kS (r:Int):rolN r=0∨rolN r=1∨rolN r=3∨rolN r=4:=by
 unfold rolN
 split
 ·exact Or.inr (Or.inl rfl)
 ·split
  ·omega
  ·exact Or.inl rfl
theorem x_N (r:Int):(Lit.int .i64 (rolN r)).wf=true:=by
 rcases z_kS r with h | h | h | h<;>rw[h]<;>decide
def tcB (p:Pt):Bool:=!(p.nm 71==0)
def rstM (p:Pt):Mg:=((((((((((zeroM.setN 0 km0 3 wi3).setN 7 km7 (rolN (p.nm 30)) (x_N _)).setB 3 km3 (p.bt 13)).setB 6 km6 (p.bt 3)).setB 4 km4 (p.bt 10)).setB 5 km5 (p.bt 8)).setB 1 km1 (tcB p)).setB 2 km2 false).put 8 (dsg p) mq8 ml8).put 12 (dsT p) mq12 ml12)
def cfgM (p:Pt):Mg:=((((zeroM.setN 0 km0 1 wi1).setB 1 km1 (tcB p)).setB 2 km2 (p.bt 26)).put 8 (dsg p) mq8 ml8).put 12 (dsT p) mq12 ml12
def tcnM:Mg:=zeroM.setN 0 km0 2 wi2
def kinN (p:Pt):Int:=if p.bt 23=true then 3 else if p.nm 30=4 then 1 else 2
def msgP (p:Pt):Mg:=if p.bt 23=true then rstM p else if p.nm 30=4 then cfgM p else tcnM
def voiB (p:Pt):Bool:=p.bt 23 || (p.nm 30==3) || (p.nm 30==4)
theorem z_eb (r:Mg) (v:Vc) (t:Tm):((r.put 8 v mq8 ml8).put 12 t mq12 ml12).cl=r.cl.take 8++v.cl++t.cl:=by
 have hr:=r.len;have hv:=v.len;have ht:=t.len;rw[lenM] at hr;rw[lenV] at hv;rw[lenT] at ht
 show ((r.cl.take 8++v.cl++r.cl.drop (8+kdV.length)).take 12)++t.cl++((r.cl.take 8++v.cl++r.cl.drop (8+kdV.length)).drop (12+kdT.length))=_
 rw[lenV,lenT];have h1:(r.cl.take 8++v.cl).length=12:=by simp[hr,hv]
 rw[List.take_append_of_le_length (by omega),List.take_of_length_le (by omega)];rw[List.drop_eq_nil_of_le (by rw[List.length_append,h1,List.length_drop,hr];omega),List.append_nil]
theorem z_kR (p:Pt):(rstM p).cl=[.int .i64 3,.bool (tcB p),.bool false,.bool (p.bt 13),.bool (p.bt 10),.bool (p.bt 8),.bool (p.bt 3),.int .i64 (rolN (p.nm 30))]++(dsg p).cl++(dsT p).cl:=by
 unfold rstM;rw[z_eb];rfl
theorem z_lB (p:Pt):(cfgM p).cl=[.int .i64 1,.bool (tcB p),.bool (p.bt 26),.bool false,.bool false,.bool false,.bool false,.int .i64 0]++(dsg p).cl++(dsT p).cl:=by
 unfold cfgM;rw[z_eb];rfl
def begP (p:Pt):Pt:=((p.setB 11 kb11 true).setU 64 0).setN 75 kn75 1 wi1
def remB (p:Pt):Bool:=p.bt 11 || (p.nm 30==4) || ((p.nm 30==3) && !(p.nm 71==0))
def remP (p:Pt):Pt:=p.setB 11 kb11 (remB p)
def waiN (p:Pt):Int:=if p.nm 42=0 then 1 else p.nm 42
def waiP (p:Pt):Pt:=p.setU 66 (waiN p)
def ackB (p:Pt):Bool:=p.bt 26 && (kinN p==2)
def sntP (p:Pt):Pt:=((p.setB 11 kb11 false).setU 64 (p.nm 64+1)).setB 26 kb26 (ackB p)
def ptxC (h:Hd) (p:Pt):Nat:=
 if p.nm 75=1 then
  if p.bt 22=true∧p.bt 28=false then
   if p.nm 66=0 then 2
   else if p.bt 2=true∧p.bt 11=true∧p.nm 64<h.nm 5∧voiB p=true then 3 else 0
  else 0
 else 1
def ptxQ (p:Pt):Nat→Pt
 | 0=>p
 | 1=>waiP (begP p)
 | 2=>waiP (remP p)
 | _=>waiP (sntP p)
def chkP (p:Pt):Pt:=((p.setB 23 kb23 true).setU 67 3).setN 76 kn76 1 wi1
def senP (p:Pt):Pt:=((p.setB 15 kb15 false).setB 16 kb16 false).setN 76 kn76 3 wi3
def falP (p:Pt):Pt:=((p.setB 23 kb23 false).setU 67 3).setN 76 kn76 2 wi2
def ppmC (p:Pt):Nat:=
 if p.nm 76=1 then (if p.bt 2=false∧p.nm 67≠3 then 1 else if p.nm 67=0 then 2 else 0)
 else if p.nm 76=3 then (if p.bt 2=false∨p.bt 23=false∧p.bt 15=true then 1 else if p.bt 23=true∧p.bt 16=true then 3 else 0)
 else if p.nm 76=2 then (if p.nm 67=0∨p.bt 2=false then 2 else 0)
 else 1
def ppmQ (p:Pt):Nat→Pt
 | 0=>p
 | 1=>chkP p
 | 2=>senP p
 | _=>falP p
theorem u3:(0:Int)≤3∧(3:Int)≤255:=by decide
theorem z_cE (p:Pt):0≤waiN p∧waiN p≤255:=by
 have:=p.u8 (j:=42) rfl;unfold waiN
 split<;>omega
theorem z_cD {p q:Pt} (h:p.nm 42=q.nm 42):waiN p=waiN q:=by unfold waiN;rw[h]
theorem z_iL {ks:List (Option IntKind)} (r:Row ks) {i j:Nat} (h:ks[j]?=some (some .i64)) {n:Int} (hw:(Lit.int .i64 n).wf=true) (hn:i≠j):(r.setN j h n hw).nm i=r.nm i:=y_C (by rw[r.setN_get,if_neg hn])
theorem z_ax {ks:List (Option IntKind)} (r:Row ks) {i j:Nat} {n:Int} (h:j≠i):(r.setU j n).bt i=r.bt i:=u_O (r.setU_ne h)
def kdO:List (Option IntKind):=some .i64::kdM
abbrev Ot:=Row kdO
theorem plainO:PlainTy 91 kdO:=⟨by kernel_rfl,by kernel_rfl,⟨_,underlying91⟩,by kernel_rfl⟩
theorem lenO:kdO.length=17:=rfl
theorem z_eM {k:Option IntKind} {ks:List (Option IntKind)} {v:Value} {l:List Value} (h:Fit k v) (g:Fits ks l):Fits (k::ks) (v::l):=by
 refine⟨by simp[g.len],fun j q x hq hx=>?_⟩;cases j with
 | zero=>cases hq;cases hx;exact h
 | succ j=>exact g.at' j q x (by simpa using hq) (by simpa using hx)
def outR (i:Int) (h:(Lit.int .i64 i).wf=true) (m:Mg):Ot:=⟨.int .i64 i::m.cl,z_eM ⟨i,rfl,h⟩ m.ok⟩
end S15
end
section
namespace S15
open Go.RowKit
abbrev TBs (w:World) (h:Hd) (n:Nat) (l:List Pt) (O:Option (List Pt)) (r:Ending) (w':World):Prop:=∃a' c',r=.returned (.tuple #[.agg (trc h (.slice a' n c')),.bool O.isSome])∧SlAt w' a' n c' (O.getD l)∧Below w.heap.size w w'
abbrev TBf (w:World) (h:Hd) (a:Option Addr) (n:Nat) (l:List Pt) (O:Option (List Pt)) (r:Ending) (w':World):Prop:=∃a' c',r=.returned (.tuple #[.agg (trc h (.slice a' n c')),.bool O.isSome])∧Fr w a a'∧SlAt w' a' n c' (O.getD l)∧Below w.heap.size w w'
def ppmO (l:List Pt) (k:Nat):Option (List Pt):=if ppmC (gtP l k)=0 then none else some (l.set k (ppmQ (gtP l k) (ppmC (gtP l k))))
theorem z_ef {l:List Pt} {k:Nat} (h:ppmC (gtP l k)=0):ppmO l k=none:=if_pos h
theorem w_O {l:List Pt} {k c:Nat} (h:ppmC (gtP l k)=c) (h0:c≠0):ppmO l k=some (l.set k (ppmQ (gtP l k) c)):=by
 unfold ppmO;rw[h,if_neg h0]
end S15
end
section
namespace S15
open Go.RowKit
def bdM (ps:Array (Nat×Value)):Sem Value:=Instr.build 46 ps
theorem bdMs (ps:Array (Nat×Value)):Instr.build 46 ps=bdM ps:=rfl
theorem z_Q {k:Int} (hk:(Lit.int .i64 k).wf=true) (w:World):(bdM #[(0,.int .i64 k)]).run prog w=.ok (.agg (zeroM.setN 0 km0 k hk).cs) w:=by
 have h:(bdM #[(0,.int .i64 k)]).run prog w=.ok (.agg (zeroM.cl.set 0 (.int .i64 k)).toArray) w:=by kernel_rfl
 rw[h];rfl
attribute [local go_sem ↓] ldP stP stB stU stW ldT stT st32 alP alM ldM stM ldV stV ldTm stTm bdMs
attribute [local go_sem] z_l z_D
theorem y_V (p:Pt) (w:World):Calls prog 220 #[.agg p.cs] w fun r w'=>r=.returned (.int .i64 (kinN p))∧Below w.heap.size w w':=by
 obtain⟨W,hW,r0,bW,zW⟩:=y_T w p;have c23:=r0.bit (j:=23) rfl;have c30:=r0.num (j:=30) (k:=.i64) rfl;have H:=hd1 bW;obtain⟨K,hK⟩:∃z,kinN p=z:=⟨_,rfl⟩;rw[hK];have E:=hd1 hK;clear r0 bW zW hK;cases h23:p.bt 23
 ·rw[h23] at c23;by_cases h4:p.nm 30=4
  ·have E2:Hid (K=1):=by rw[←E.out];unfold kinN;rw[if_neg (by rw[h23];decide),if_pos h4];exact rfl
   rw[h4] at c30;clear E h23 h4;go_enter func220,ntmps220;go_wp2
   go_ret;exact⟨by rw[E2.out];rfl,H.out⟩
  ·have E2:Hid (K=2):=by rw[←E.out];unfold kinN;rw[if_neg (by rw[h23];decide),if_neg h4];exact rfl
   have x4:(p.nm 30==4)=false:=beq_eq_false_iff_ne.2 h4;clear E h23 h4;go_enter func220,ntmps220;go_wp2
   go_ret;exact⟨by rw[E2.out];rfl,H.out⟩
 ·have E2:Hid (K=3):=by rw[←E.out];unfold kinN;rw[if_pos h23];exact rfl
  rw[h23] at c23;clear E h23;go_enter func220,ntmps220;go_wp2
  go_ret;exact⟨by rw[E2.out];rfl,H.out⟩
theorem u_a (r:Int) (w:World):Calls prog 221 #[.int .i64 r] w fun e w'=>e=.returned (.int .i64 (rolN r))∧Below w.heap.size w w':=by
 by_cases h2:r=2
 ·subst h2;rw[show rolN 2=1 from rfl];go_enter func221,ntmps221;go_wp2
  go_ret;exact⟨rfl,Below.refl _ _⟩
 have x2:(r==2)=false:=beq_eq_false_iff_ne.2 h2;by_cases h1:r=1
 ·subst h1;clear x2 h2;rw[show rolN 1=1 from rfl];go_enter func221,ntmps221;go_wp2
  go_ret;exact⟨rfl,Below.refl _ _⟩
 have x1:(r==1)=false:=beq_eq_false_iff_ne.2 h1;by_cases h3:r=3
 ·subst h3;clear x2 h2;clear x1 h1;rw[show rolN 3=3 from rfl];go_enter func221,ntmps221;go_wp2
  go_ret;exact⟨rfl,Below.refl _ _⟩
 have x3:(r==3)=false:=beq_eq_false_iff_ne.2 h3;by_cases h4:r=4
 ·subst h4;clear x2 h2;clear x1 h1;clear x3 h3;rw[show rolN 4=4 from rfl];go_enter func221,ntmps221;go_wp2
  go_ret;exact⟨rfl,Below.refl _ _⟩
 have x4:(r==4)=false:=beq_eq_false_iff_ne.2 h4;have e0:rolN r=0:=by unfold rolN;rw[if_neg h2,if_neg (by rintro (h | h | h)<;>contradiction)]
 rw[e0];clear h1 h2 h3 h4 e0;go_enter func221,ntmps221;go_wp2
 go_ret;exact⟨rfl,Below.refl _ _⟩
theorem z_du (r:Int) (w:World):Calls prog 164 #[.int .i64 r] w fun e w'=>e=.returned (.int .i64 (rolN r))∧Below w.heap.size w w':=by
 by_cases h1:r=1
 ·subst h1;rw[show rolN 1=1 from rfl];go_enter func164,ntmps164;go_wp2
  go_ret;exact⟨rfl,Below.refl _ _⟩
 have x1:(r==1)=false:=beq_eq_false_iff_ne.2 h1;by_cases h2:r=2
 ·subst h2;clear x1 h1;rw[show rolN 2=1 from rfl];go_enter func164,ntmps164;go_wp2
  go_ret;exact⟨rfl,Below.refl _ _⟩
 have x2:(r==2)=false:=beq_eq_false_iff_ne.2 h2;by_cases h3:r=3
 ·subst h3;clear x1 h1;clear x2 h2;rw[show rolN 3=3 from rfl];go_enter func164,ntmps164;go_wp2
  go_ret;exact⟨rfl,Below.refl _ _⟩
 have x3:(r==3)=false:=beq_eq_false_iff_ne.2 h3;by_cases h4:r=4
 ·subst h4;clear x1 h1;clear x2 h2;clear x3 h3;rw[show rolN 4=4 from rfl];go_enter func164,ntmps164;go_wp2
  go_ret;exact⟨rfl,Below.refl _ _⟩
 have x4:(r==4)=false:=beq_eq_false_iff_ne.2 h4;have e0:rolN r=0:=by unfold rolN;rw[if_neg h2,if_neg (by rintro (h | h | h)<;>contradiction)]
 rw[e0];clear h1 h2 h3 h4 e0;go_enter func164,ntmps164;go_wp2
 go_ret;exact⟨rfl,Below.refl _ _⟩
theorem z_cF (p:Pt) (w:World):Calls prog 179 #[.agg p.cs] w fun r w'=>r=.returned (.bool (voiB p))∧Below w.heap.size w w':=by
 obtain⟨W,hW,r0,bW,zW⟩:=y_T w p;have c23:=r0.bit (j:=23) rfl;have c30:=r0.num (j:=30) (k:=.i64) rfl;have H:=hd1 bW;obtain⟨K,hK⟩:∃z,voiB p=z:=⟨_,rfl⟩;rw[hK];obtain⟨b,hb⟩:∃z,p.bt 23=z:=⟨_,rfl⟩;obtain⟨N,hN⟩:∃z,p.nm 30=z:=⟨_,rfl⟩;have E:Hid ((b || (N==3) || (N==4))=K):=by rw[←hb,← hN];exact hK
 rw[hb] at c23;rw[hN] at c30;clear r0 bW zW hK hb hN;cases b
 ·by_cases h3:N=3
  ·subst h3;go_enter func179,ntmps179;go_wp2
   go_ret;exact⟨by rw[←E.out];rfl,H.out⟩
  ·have x3:(N==3)=false:=beq_eq_false_iff_ne.2 h3;clear h3;go_enter func179,ntmps179;go_wp2
   go_ret;exact⟨by rw[←E.out,x3];rfl,H.out⟩
 ·go_enter func179,ntmps179;go_wp2
  go_ret;exact⟨by rw[←E.out];rfl,H.out⟩
structure MS (w W:World) (b d z:Nat) (p:Pt) (m:Mg):Prop where
 pv:RvAt W b 74 p.cs
 out:RvAt W d 46 zeroM.cs
 mv:RvAt W z 46 m.cs
 bel:Below w.heap.size w W
 hd:w.heap.size≤d
 hz:w.heap.size≤z
 ne:d≠z
theorem MS.below {w W V:World} {b d z:Nat} {p:Pt} {m:Mg} (s:MS w W b d z p m) (k:Below W.heap.size W V):MS w V b d z p m:=⟨s.pv.below k,s.out.below k,s.mv.below k,z_a s.bel k,s.hd,s.hz,s.ne⟩
theorem MS.drew' {w W V:World} {b d z:Nat} {p:Pt} {m:Mg} (s:MS w W b d z p m) (h:World.drew W=V):MS w V b d z p m:=by rw[←h];exact s.below (Below.refl _ _).drew
theorem MS.go {w W V:World} {b d z:Nat} {p:Pt} {m m':Mg} (s:MS w W b d z p m) (r:RvAt V z 46 m'.cs) (g:W.grownBy V (some z)):MS w V b d z p m':=
 have n1:b≠z:=s.pv.apart s.mv (by decide)
 ⟨s.pv.keptBut g (by simpa using n1),s.out.keptBut g (by have:=s.ne;simpa using this),r,gro s.bel g s.hz s.bel.size,s.hd,s.hz,s.ne⟩
theorem MS.setB {w W:World} {b d z j:Nat} {p:Pt} {m:Mg} (s:MS w W b d z p m) (hk:kdM[j]?=some none) (x:Bool):∃V,(stS 4 (.pointer (some ⟨z,j,none⟩)) (.bool x)).run prog W=.ok () V∧MS w V b d z p (m.setB j hk x):=by
 obtain⟨V,e,h1,g⟩:=s.mv.setB hk x;exact⟨V,e,s.go h1 g⟩
theorem MS.setN {w W:World} {b d z j:Nat} {p:Pt} {m:Mg} (s:MS w W b d z p m) {t:TypeId} (ht:(prog.info? t).map (·.size)=some 1) (hk:kdM[j]?=some (some .i64)) {x:Int} (hx:(Lit.int .i64 x).wf=true):∃V,(stS t (.pointer (some ⟨z,j,none⟩)) (.int .i64 x)).run prog W=.ok () V∧MS w V b d z p (m.setN j hk x hx):=by
 obtain⟨V,e,h1,g⟩:=s.mv.rset (v:=.int .i64 x) ht (List.getElem?_eq_some_iff.1 hk).1 rfl (z_z hk hx);exact⟨V,e,s.go h1 g⟩
theorem MS.putV {w W:World} {b d z:Nat} {p:Pt} {m:Mg} (s:MS w W b d z p m) (v:Vc):∃V,(stS 36 (.pointer (some ⟨z,8,none⟩)) (.agg v.cs)).run prog W=.ok () V∧MS w V b d z p (m.put 8 v mq8 ml8):=by
 obtain⟨V,e,h1,g⟩:=s.mv.rput v mq8 ml8 infoV;exact⟨V,e,s.go h1 g⟩
theorem MS.putT {w W:World} {b d z:Nat} {p:Pt} {m:Mg} (s:MS w W b d z p m) (v:Tm):∃V,(stS 24 (.pointer (some ⟨z,12,none⟩)) (.agg v.cs)).run prog W=.ok () V∧MS w V b d z p (m.put 12 v mq12 ml12):=by
 obtain⟨V,e,h1,g⟩:=s.mv.rput v mq12 ml12 infoTm;exact⟨V,e,s.go h1 g⟩
theorem mst {W:World} {b:Nat} {m r:Mg} (hb:RvAt W b 46 m.cs):∃V,(stS 46 (.pointer (some ⟨b,0,none⟩)) (.agg r.cs)).run prog W=.ok () V∧RvAt V b 46 r.cs∧W.grownBy V (some b):=
 ⟨W.setRow b r.cs,hb.st rtM (by rw[Row.csize,lenM]) (by rw[Row.csize,lenM]) r.one',hb.set,z_m _ _ _⟩
theorem MS.tell {w W:World} {b d z:Nat} {p:Pt} {m:Mg} (s:MS w W b d z p m) (r:Mg):∃U,(stS 46 (.pointer (some ⟨d,0,none⟩)) (.agg r.cs)).run prog W=.ok () U∧RvAt U d 46 r.cs∧Below w.heap.size w U:=by
 obtain⟨U,e,h1,g⟩:=mst (r:=r) s.out;exact⟨U,e,h1,gro s.bel g s.hd s.bel.size⟩
theorem x_I (W:World) (m:Mg):∃W',(stS 46 (.pointer (some ⟨W.heap.size,0,none⟩)) (.agg m.cs)).run prog (W.alloc (.cells zeroM.cs 46))=.ok () W'∧RvAt W' W.heap.size 46 m.cs∧Below W.heap.size W W'∧W'.heap.size=W.heap.size+1:=
 z_E rtM W _ _ (by rw[Row.csize,lenM]) (by rw[Row.csize,lenM]) m.one'
theorem z_le (w:World) (p:Pt):∃W,(w.alloc (.cells p.cs 74)).alloc (.cells zeroM.cs 46)=W∧RvAt W w.heap.size 74 p.cs∧RvAt W (w.heap.size+1) 46 zeroM.cs∧Below w.heap.size w W∧W.heap.size=w.heap.size+2:=by
 obtain⟨A,hA,rA,bA,zA⟩:=y_T w p;have rC:=RvAt.new A 46 zeroM.cs;have bC:Below A.heap.size A (A.alloc (.cells zeroM.cs 46)):=(Below.refl _ _).alloc (Nat.le_refl _) _;rw[zA] at rC;refine⟨_,rfl,?_⟩;rw[hA];exact⟨rA.below bC,rC,z_a bA bC,by simp;omega⟩
end S15
end
section
namespace S15
open Go.RowKit
theorem z_lf (m:Mg):m.cl=[.int .i64 (m.nm 0),.bool (m.bt 1),.bool (m.bt 2),.bool (m.bt 3),.bool (m.bt 4),.bool (m.bt 5),.bool (m.bt 6),.int .i64 (m.nm 7),.int .u64 (m.nm 8),.int .u32 (m.nm 9),.int .u64 (m.nm 10),.int .u16 (m.nm 11),.int .u8 (m.nm 12),.int .u8 (m.nm 13),.int .u8 (m.nm 14),.int .u8 (m.nm 15)]:=by
 have h0:=m.num (j:=0) (k:=.i64) rfl;have h1:=m.bit (j:=1) rfl;have h2:=m.bit (j:=2) rfl;have h3:=m.bit (j:=3) rfl;have h4:=m.bit (j:=4) rfl;have h5:=m.bit (j:=5) rfl;have h6:=m.bit (j:=6) rfl;have h7:=m.num (j:=7) (k:=.i64) rfl;have h8:=m.num (j:=8) (k:=.u64) rfl;have h9:=m.num (j:=9) (k:=.u32) rfl;have h10:=m.num (j:=10) (k:=.u64) rfl;have h11:=m.num (j:=11) (k:=.u16) rfl
 have h12:=m.num (j:=12) (k:=.u8) rfl;have h13:=m.num (j:=13) (k:=.u8) rfl;have h14:=m.num (j:=14) (k:=.u8) rfl;have h15:=m.num (j:=15) (k:=.u8) rfl;have hl:=m.len;rw[lenM] at hl;generalize m.cl=x at *
 match x,hl with
 | [a0,a1,a2,a3,a4,a5,a6,a7,a8,a9,a10,a11,a12,a13,a14,a15],_=>
  simp only[List.getElem?_cons_zero,List.getElem?_cons_succ,Option.some.injEq] at h0 h1 h2 h3 h4 h5 h6 h7 h8 h9 h10 h11 h12 h13 h14 h15;rw[h0,h1,h2,h3,h4,h5,h6,h7,h8,h9,h10,h11,h12,h13,h14,h15]
theorem z_lU (m:Mg):m.cs=#[.int .i64 (m.nm 0),.bool (m.bt 1),.bool (m.bt 2),.bool (m.bt 3),.bool (m.bt 4),.bool (m.bt 5),.bool (m.bt 6),.int .i64 (m.nm 7),.int .u64 (m.nm 8),.int .u32 (m.nm 9),.int .u64 (m.nm 10),.int .u16 (m.nm 11),.int .u8 (m.nm 12),.int .u8 (m.nm 13),.int .u8 (m.nm 14),.int .u8 (m.nm 15)]:=by
 show m.cl.toArray=_
 rw[z_lf]
theorem z_la (i:Int) (h:(Lit.int .i64 i).wf=true) (m:Mg):(outR i h m).cs=#[.int .i64 i,.int .i64 (m.nm 0),.bool (m.bt 1),.bool (m.bt 2),.bool (m.bt 3),.bool (m.bt 4),.bool (m.bt 5),.bool (m.bt 6),.int .i64 (m.nm 7),.int .u64 (m.nm 8),.int .u32 (m.nm 9),.int .u64 (m.nm 10),.int .u16 (m.nm 11),.int .u8 (m.nm 12),.int .u8 (m.nm 13),.int .u8 (m.nm 14),.int .u8 (m.nm 15)]:=by
 show (.int .i64 i::m.cl).toArray=_
 rw[z_lf]
def bdO (ps:Array (Nat×Value)):Sem Value:=Instr.build 91 ps
theorem bdOs (ps:Array (Nat×Value)):Instr.build 91 ps=bdO ps:=rfl
def bsO (n:Nat) (ps:Array (Nat×Value)):Sem Value:=Instr.buildSlice 49 n ps
theorem bsOs (n:Nat) (ps:Array (Nat×Value)):Instr.buildSlice 49 n ps=bsO n ps:=rfl
theorem bdO0 (i x0:Int) (x1 x2 x3 x4 x5 x6:Bool) (x7 x8 x9 x10 x11 x12 x13 x14 x15:Int) (w:World):(bdO #[(0,.int .i64 i),(1,.agg #[.int .i64 x0,.bool x1,.bool x2,.bool x3,.bool x4,.bool x5,.bool x6,.int .i64 x7,.int .u64 x8,.int .u32 x9,.int .u64 x10,.int .u16 x11,.int .u8 x12,.int .u8 x13,.int .u8 x14,.int .u8 x15])]).run prog w=.ok (.agg #[.int .i64 i,.int .i64 x0,.bool x1,.bool x2,.bool x3,.bool x4,.bool x5,.bool x6,.int .i64 x7,.int .u64 x8,.int .u32 x9,.int .u64 x10,.int .u16 x11,.int .u8 x12,.int .u8 x13,.int .u8 x14,.int .u8 x15]) w:=by kernel_rfl
theorem bsO0 (i x0:Int) (x1 x2 x3 x4 x5 x6:Bool) (x7 x8 x9 x10 x11 x12 x13 x14 x15:Int) (w:World):(bsO 1 #[(0,.agg #[.int .i64 i,.int .i64 x0,.bool x1,.bool x2,.bool x3,.bool x4,.bool x5,.bool x6,.int .i64 x7,.int .u64 x8,.int .u32 x9,.int .u64 x10,.int .u16 x11,.int .u8 x12,.int .u8 x13,.int .u8 x14,.int .u8 x15])]).run prog w=.ok (.slice (some ⟨w.heap.size,0,none⟩) 1 1) (w.alloc (.cells #[.int .i64 i,.int .i64 x0,.bool x1,.bool x2,.bool x3,.bool x4,.bool x5,.bool x6,.int .i64 x7,.int .u64 x8,.int .u32 x9,.int .u64 x10,.int .u16 x11,.int .u8 x12,.int .u8 x13,.int .u8 x14,.int .u8 x15] 91)):=by kernel_rfl
theorem z_is (i:Int) (h:(Lit.int .i64 i).wf=true) (m:Mg) (w:World):(bdO #[(0,.int .i64 i),(1,.agg m.cs)]).run prog w=.ok (.agg (outR i h m).cs) w:=by
 rw[z_la,z_lU];exact bdO0 ..
theorem v_G (i:Int) (h:(Lit.int .i64 i).wf=true) (m:Mg) (w:World):(bsO 1 #[(0,.agg (outR i h m).cs)]).run prog w=.ok (.slice (some ⟨w.heap.size,0,none⟩) 1 1) (w.alloc (.cells (outR i h m).cs 91)):=by
 rw[z_la];exact bsO0 ..
theorem v_p (w:World) (cs:Array Value):∃W,w.alloc (.cells cs 91)=W∧RvAt W w.heap.size 91 cs∧Below w.heap.size w W:=
 ⟨_,rfl,RvAt.new w _ _,(Below.refl _ _).alloc (Nat.le_refl _) _⟩
def OutAt (w:World) (v:Value):Option Ot→Prop
 | none=>v=.slice none 0 0
 | some r=>∃b,v=.slice (some ⟨b,0,none⟩) 1 1∧RvAt w b 91 r.cs
abbrev TOs (w:World) (h:Hd) (n:Nat) (l:List Pt) (O:Option (List Pt)) (u:Option Ot) (r:Ending) (w':World):Prop:=∃a' c' v,r=.returned (.tuple #[.agg (trc h (.slice a' n c')),v,.bool O.isSome])∧SlAt w' a' n c' (O.getD l)∧OutAt w' v u∧Below w.heap.size w w'
abbrev TOf (w:World) (h:Hd) (a:Option Addr) (n:Nat) (l:List Pt) (O:Option (List Pt)) (u:Option Ot) (r:Ending) (w':World):Prop:=∃a' c' v,r=.returned (.tuple #[.agg (trc h (.slice a' n c')),v,.bool O.isSome])∧SlAt w' a' n c' (O.getD l)∧OutAt w' v u∧Below w.heap.size w w'∧Fro w a a'
def ptxO (h:Hd) (l:List Pt) (k:Nat):Option (List Pt):=if ptxC h (gtP l k)=0 then none else some (l.set k (ptxQ (gtP l k) (ptxC h (gtP l k))))
theorem y_R {h:Hd} {l:List Pt} {k:Nat} (e:ptxC h (gtP l k)=0):ptxO h l k=none:=if_pos e
theorem x_v {h:Hd} {l:List Pt} {k c:Nat} (e:ptxC h (gtP l k)=c) (h0:c≠0):ptxO h l k=some (l.set k (ptxQ (gtP l k) c)):=by
 unfold ptxO;rw[e,if_neg h0]
def outI (i:Int) (m:Mg):Ot:=if h:(Lit.int .i64 i).wf=true then outR i h m else outR 0 wi0 m
theorem z_em {i:Int} (h:(Lit.int .i64 i).wf=true) (m:Mg):outI i m=outR i h m:=dif_pos h
def ptxU (h:Hd) (l:List Pt) (k:Nat):Option Ot:=if ptxC h (gtP l k)=3 then some (outI (k:Int) (msgP (gtP l k))) else none
theorem z_P {h:Hd} {l:List Pt} {k c:Nat} (e:ptxC h (gtP l k)=c) (h0:c≠3):ptxU h l k=none:=if_neg (by rw[e];exact h0)
theorem z_bv {h:Hd} {l:List Pt} {k:Nat} (e:ptxC h (gtP l k)=3):ptxU h l k=some (outI (k:Int) (msgP (gtP l k))):=if_pos e
theorem wi_k {k:Nat} (h:k≤1000):(Lit.int .i64 (k:Int)).wf=true:=by
 simp[Lit.wf,IntKind.min,IntKind.max,IntKind.signed,IntKind.bits];omega
theorem z_p {fn:Func} {k t s:Nat} (hr:fn.results=#[.cell k 39,.tmp t,.tmp s]) (tmps:Array Value) (w:World) (b:Nat) (h:Hd) (x:Value) (h2:tmps.getD k undef=.pointer (some ⟨b,0,none⟩)) (r:RvAt w b 39 (trc h x)) :
  (results fn tmps).run prog w=.ok (.tuple #[.agg (trc h x),tmps.getD t undef,tmps.getD s undef]) w:=by
 have hl:=r.lv rtT (z_c h x);have h2':tmps[k]?.getD undef=.pointer (some ⟨b,0,none⟩):=by simpa using h2
 simp[results,hr,asAddr,hl,h2']
theorem w_P (p:Pt):(msgP p).nm 0=kinN p:=by
 unfold msgP kinN
 split
 ·rfl
 ·split<;>rfl
end S15
end
section
namespace S15
open Go.RowKit
attribute [local go_sem ↓] ldP stP stB stU stW ldT stT st32 alP
attribute [local go_sem] z_l
theorem w_x (p:Pt) (w:World):Calls prog 162 #[.agg p.cs] w fun r w'=>r=.returned (.agg (chkP p).cs)∧Below w.heap.size w w':=by
 obtain⟨W,hW,s0⟩:=PS.start w p;obtain⟨V1,e1,s1⟩:=s0.setB kb23 true;obtain⟨V2,e2,s2⟩:=s1.setU ku67 u3;obtain⟨V3,e3,s3⟩:=s2.setN infoS kn76 wi1;have s3:PS w V3 w.heap.size (w.heap.size+1) (chkP p):=s3;have lp:=s3.ld;obtain⟨U,sU,rU,bU⟩:=s3.tell (chkP p);have G:=hd2 rU bU;clear s0 s1 s2 s3 rU bU;go_enter func162,ntmps162
 go_wp2_with (with_reducible exact z_g results162 rfl rfl G.out.1 ⟨rfl,G.out.2⟩)
theorem u_g (p:Pt) (w:World):Calls prog 163 #[.agg p.cs] w fun r w'=>r=.returned (.agg (senP p).cs)∧Below w.heap.size w w':=by
 obtain⟨W,hW,s0⟩:=PS.start w p;obtain⟨V1,e1,s1⟩:=s0.setB kb15 false;obtain⟨V2,e2,s2⟩:=s1.setB kb16 false;obtain⟨V3,e3,s3⟩:=s2.setN infoS kn76 wi3;have s3:PS w V3 w.heap.size (w.heap.size+1) (senP p):=s3;have lp:=s3.ld;obtain⟨U,sU,rU,bU⟩:=s3.tell (senP p);have G:=hd2 rU bU;clear s0 s1 s2 s3 rU bU;go_enter func163,ntmps163
 go_wp2_with (with_reducible exact z_g results163 rfl rfl G.out.1 ⟨rfl,G.out.2⟩)
theorem z_aL (p:Pt) (w:World):Calls prog 127 #[.agg p.cs] w fun r w'=>r=.returned (.tuple #[.agg (ppmQ p (ppmC p)).cs,.bool (decide (ppmC p≠0))])∧Below w.heap.size w w':=by
 obtain⟨Q,hQ⟩:∃z,ppmQ p (ppmC p)=z:=⟨_,rfl⟩;obtain⟨B,hB⟩:∃z,decide (ppmC p≠0)=z:=⟨_,rfl⟩;rw[hQ,hB];have EQ:=hd1 hQ;have EB:=hd1 hB;obtain⟨W,hW,s0⟩:=PS.start w p;have c76:=s0.var.num (j:=76) (k:=.i64) rfl;have c67:=s0.var.num (j:=67) (k:=.u8) rfl;have c2:=s0.var.bit (j:=2) rfl;have c23:=s0.var.bit (j:=23) rfl;have c15:=s0.var.bit (j:=15) rfl;have c16:=s0.var.bit (j:=16) rfl;have l0:=s0.ld
 have H:=hd1 s0;clear s0 hQ hB;obtain⟨N,hN⟩:∃z,p.nm 76=z:=⟨_,rfl⟩;obtain⟨M,hM⟩:∃z,p.nm 67=z:=⟨_,rfl⟩;obtain⟨b2,h2⟩:∃z,p.bt 2=z:=⟨_,rfl⟩;obtain⟨b23,h23⟩:∃z,p.bt 23=z:=⟨_,rfl⟩;obtain⟨b15,h15⟩:∃z,p.bt 15=z:=⟨_,rfl⟩;obtain⟨b16,h16⟩:∃z,p.bt 16=z:=⟨_,rfl⟩;have HN:=hd1 hN;have HM:=hd1 hM;have H2:=hd1 h2;have H23:=hd1 h23;have H15:=hd1 h15;have H16:=hd1 h16;rw[hN] at c76;rw[hM] at c67;rw[h2] at c2
 rw[h23] at c23;rw[h15] at c15;rw[h16] at c16;clear hN hM h2 h23 h15 h16;by_cases hN1:N=1
 ·subst hN1;cases b2
  ·by_cases hM3:M=3
   ·subst hM3;have EC:ppmC p=0:=by unfold ppmC;simp[HN.out,HM.out,H2.out,H23.out,H15.out,H16.out]
    have EQ2:Hid (p=Q):=by rw[←EQ.out,EC];exact rfl
    have eb:B=false:=by rw[←EB.out,EC];rfl
    clear EB;subst eb;clear EC EQ HN HM H2 H23 H15 H16 ;obtain⟨U,sU,rU,bU⟩:=H.out.tell p;have G:Hid (RvAt U (w.heap.size+1) 74 Q.cs∧Below w.heap.size w U):=by rw[←EQ2.out];exact⟨rU,bU⟩
    clear rU bU;go_enter func127,ntmps127
    go_wp2_with (with_reducible exact z_j results127 rfl rfl rfl G.out.1 ⟨rfl,G.out.2⟩)
   ·have xM3:(M==3)=false:=beq_eq_false_iff_ne.2 hM3;have yM3:(M != 3)=true:=by simp[hM3]
    have EC:ppmC p=1:=by unfold ppmC;simp[HN.out,HM.out,H2.out,H23.out,H15.out,H16.out,hM3]
    have EQ2:Hid (chkP p=Q):=by rw[←EQ.out,EC];exact rfl
    have eb:B=true:=by rw[←EB.out,EC];rfl
    clear EB;subst eb;clear EC EQ HN HM H2 H23 H15 H16 hM3;go_enter func127,ntmps127
    go_wp2_with fail
    refine (w_x p W).mono ?_;rintro _ W1 ⟨rfl,b1⟩;obtain⟨U,sU,rU,bU⟩:=(H.out.below b1).tell (chkP p);have G:Hid (RvAt U (w.heap.size+1) 74 Q.cs∧Below w.heap.size w U):=by rw[←EQ2.out];exact⟨rU,bU⟩
    clear rU bU b1
    go_wp2_with (with_reducible exact z_j results127 rfl rfl rfl G.out.1 ⟨rfl,G.out.2⟩)
  ·by_cases hM0:M=0
   ·subst hM0;have EC:ppmC p=2:=by unfold ppmC;simp[HN.out,HM.out,H2.out,H23.out,H15.out,H16.out]
    have EQ2:Hid (senP p=Q):=by rw[←EQ.out,EC];exact rfl
    have eb:B=true:=by rw[←EB.out,EC];rfl
    clear EB;subst eb;clear EC EQ HN HM H2 H23 H15 H16 ;go_enter func127,ntmps127
    go_wp2_with fail
    refine (u_g p W).mono ?_;rintro _ W1 ⟨rfl,b1⟩;obtain⟨U,sU,rU,bU⟩:=(H.out.below b1).tell (senP p);have G:Hid (RvAt U (w.heap.size+1) 74 Q.cs∧Below w.heap.size w U):=by rw[←EQ2.out];exact⟨rU,bU⟩
    clear rU bU b1
    go_wp2_with (with_reducible exact z_j results127 rfl rfl rfl G.out.1 ⟨rfl,G.out.2⟩)
   ·have xM0:(M==0)=false:=beq_eq_false_iff_ne.2 hM0;have yM0:(M != 0)=true:=by simp[hM0]
    have EC:ppmC p=0:=by unfold ppmC;simp[HN.out,HM.out,H2.out,H23.out,H15.out,H16.out,hM0]
    have EQ2:Hid (p=Q):=by rw[←EQ.out,EC];exact rfl
    have eb:B=false:=by rw[←EB.out,EC];rfl
    clear EB;subst eb;clear EC EQ HN HM H2 H23 H15 H16 hM0;obtain⟨U,sU,rU,bU⟩:=H.out.tell p;have G:Hid (RvAt U (w.heap.size+1) 74 Q.cs∧Below w.heap.size w U):=by rw[←EQ2.out];exact⟨rU,bU⟩
    clear rU bU;go_enter func127,ntmps127
    go_wp2_with (with_reducible exact z_j results127 rfl rfl rfl G.out.1 ⟨rfl,G.out.2⟩)
 ·have xN1:(N==1)=false:=beq_eq_false_iff_ne.2 hN1;have yN1:(N != 1)=true:=by simp[hN1]
  by_cases hN3:N=3
  ·subst hN3;clear xN1 yN1;cases b2
   ·have EC:ppmC p=1:=by unfold ppmC;simp[HN.out,HM.out,H2.out,H23.out,H15.out,H16.out]
    have EQ2:Hid (chkP p=Q):=by rw[←EQ.out,EC];exact rfl
    have eb:B=true:=by rw[←EB.out,EC];rfl
    clear EB;subst eb;clear EC EQ HN HM H2 H23 H15 H16 ;go_enter func127,ntmps127
    go_wp2_with fail
    refine (w_x p W).mono ?_;rintro _ W1 ⟨rfl,b1⟩;obtain⟨U,sU,rU,bU⟩:=(H.out.below b1).tell (chkP p);have G:Hid (RvAt U (w.heap.size+1) 74 Q.cs∧Below w.heap.size w U):=by rw[←EQ2.out];exact⟨rU,bU⟩
    clear rU bU b1
    go_wp2_with (with_reducible exact z_j results127 rfl rfl rfl G.out.1 ⟨rfl,G.out.2⟩)
   ·cases b23
    ·cases b15
     ·have EC:ppmC p=0:=by unfold ppmC;simp[HN.out,HM.out,H2.out,H23.out,H15.out,H16.out]
      have EQ2:Hid (p=Q):=by rw[←EQ.out,EC];exact rfl
      have eb:B=false:=by rw[←EB.out,EC];rfl
      clear EB;subst eb;clear EC EQ HN HM H2 H23 H15 H16 ;obtain⟨U,sU,rU,bU⟩:=H.out.tell p;have G:Hid (RvAt U (w.heap.size+1) 74 Q.cs∧Below w.heap.size w U):=by rw[←EQ2.out];exact⟨rU,bU⟩
      clear rU bU;go_enter func127,ntmps127
      go_wp2_with (with_reducible exact z_j results127 rfl rfl rfl G.out.1 ⟨rfl,G.out.2⟩)
     ·have EC:ppmC p=1:=by unfold ppmC;simp[HN.out,HM.out,H2.out,H23.out,H15.out,H16.out]
      have EQ2:Hid (chkP p=Q):=by rw[←EQ.out,EC];exact rfl
      have eb:B=true:=by rw[←EB.out,EC];rfl
      clear EB;subst eb;clear EC EQ HN HM H2 H23 H15 H16 ;go_enter func127,ntmps127
      go_wp2_with fail
      refine (w_x p W).mono ?_;rintro _ W1 ⟨rfl,b1⟩;obtain⟨U,sU,rU,bU⟩:=(H.out.below b1).tell (chkP p);have G:Hid (RvAt U (w.heap.size+1) 74 Q.cs∧Below w.heap.size w U):=by rw[←EQ2.out];exact⟨rU,bU⟩
      clear rU bU b1
      go_wp2_with (with_reducible exact z_j results127 rfl rfl rfl G.out.1 ⟨rfl,G.out.2⟩)
    ·cases b16
     ·have EC:ppmC p=0:=by unfold ppmC;simp[HN.out,HM.out,H2.out,H23.out,H15.out,H16.out]
      have EQ2:Hid (p=Q):=by rw[←EQ.out,EC];exact rfl
      have eb:B=false:=by rw[←EB.out,EC];rfl
      clear EB;subst eb;clear EC EQ HN HM H2 H23 H15 H16 ;obtain⟨U,sU,rU,bU⟩:=H.out.tell p;have G:Hid (RvAt U (w.heap.size+1) 74 Q.cs∧Below w.heap.size w U):=by rw[←EQ2.out];exact⟨rU,bU⟩
      clear rU bU;go_enter func127,ntmps127
      go_wp2_with (with_reducible exact z_j results127 rfl rfl rfl G.out.1 ⟨rfl,G.out.2⟩)
     ·have EC:ppmC p=3:=by unfold ppmC;simp[HN.out,HM.out,H2.out,H23.out,H15.out,H16.out]
      have EQ2:Hid (falP p=Q):=by rw[←EQ.out,EC];exact rfl
      have eb:B=true:=by rw[←EB.out,EC];rfl
      clear EB;subst eb;clear EC EQ HN HM H2 H23 H15 H16 ;obtain⟨V1,e1,s1⟩:=H.out.setB kb23 false;obtain⟨V2,e2,s2⟩:=s1.setU ku67 u3;obtain⟨V3,e3,s3⟩:=s2.setN infoS kn76 wi2;have s3:PS w V3 w.heap.size (w.heap.size+1) (falP p):=s3;have lp:=s3.ld;obtain⟨U,sU,rU,bU⟩:=s3.tell (falP p);have G:Hid (RvAt U (w.heap.size+1) 74 Q.cs∧Below w.heap.size w U):=by rw[←EQ2.out];exact⟨rU,bU⟩
      clear rU bU s1 s2 s3;go_enter func127,ntmps127
      go_wp2_with (with_reducible exact z_j results127 rfl rfl rfl G.out.1 ⟨rfl,G.out.2⟩)
  ·have xN3:(N==3)=false:=beq_eq_false_iff_ne.2 hN3;have yN3:(N != 3)=true:=by simp[hN3]
   by_cases hN2:N=2
   ·subst hN2;clear xN1 yN1 xN3 yN3;by_cases hM0:M=0
    ·subst hM0;have EC:ppmC p=2:=by unfold ppmC;simp[HN.out,HM.out,H2.out,H23.out,H15.out,H16.out]
     have EQ2:Hid (senP p=Q):=by rw[←EQ.out,EC];exact rfl
     have eb:B=true:=by rw[←EB.out,EC];rfl
     clear EB;subst eb;clear EC EQ HN HM H2 H23 H15 H16 ;go_enter func127,ntmps127
     go_wp2_with fail
     refine (u_g p W).mono ?_;rintro _ W1 ⟨rfl,b1⟩;obtain⟨U,sU,rU,bU⟩:=(H.out.below b1).tell (senP p);have G:Hid (RvAt U (w.heap.size+1) 74 Q.cs∧Below w.heap.size w U):=by rw[←EQ2.out];exact⟨rU,bU⟩
     clear rU bU b1
     go_wp2_with (with_reducible exact z_j results127 rfl rfl rfl G.out.1 ⟨rfl,G.out.2⟩)
    ·have xM0:(M==0)=false:=beq_eq_false_iff_ne.2 hM0;have yM0:(M != 0)=true:=by simp[hM0]
     cases b2
     ·have EC:ppmC p=2:=by unfold ppmC;simp[HN.out,HM.out,H2.out,H23.out,H15.out,H16.out,hM0]
      have EQ2:Hid (senP p=Q):=by rw[←EQ.out,EC];exact rfl
      have eb:B=true:=by rw[←EB.out,EC];rfl
      clear EB;subst eb;clear EC EQ HN HM H2 H23 H15 H16 hM0;go_enter func127,ntmps127
      go_wp2_with fail
      refine (u_g p W).mono ?_;rintro _ W1 ⟨rfl,b1⟩;obtain⟨U,sU,rU,bU⟩:=(H.out.below b1).tell (senP p);have G:Hid (RvAt U (w.heap.size+1) 74 Q.cs∧Below w.heap.size w U):=by rw[←EQ2.out];exact⟨rU,bU⟩
      clear rU bU b1
      go_wp2_with (with_reducible exact z_j results127 rfl rfl rfl G.out.1 ⟨rfl,G.out.2⟩)
     ·have EC:ppmC p=0:=by unfold ppmC;simp[HN.out,HM.out,H2.out,H23.out,H15.out,H16.out,hM0]
      have EQ2:Hid (p=Q):=by rw[←EQ.out,EC];exact rfl
      have eb:B=false:=by rw[←EB.out,EC];rfl
      clear EB;subst eb;clear EC EQ HN HM H2 H23 H15 H16 hM0;obtain⟨U,sU,rU,bU⟩:=H.out.tell p;have G:Hid (RvAt U (w.heap.size+1) 74 Q.cs∧Below w.heap.size w U):=by rw[←EQ2.out];exact⟨rU,bU⟩
      clear rU bU;go_enter func127,ntmps127
      go_wp2_with (with_reducible exact z_j results127 rfl rfl rfl G.out.1 ⟨rfl,G.out.2⟩)
   ·have xN2:(N==2)=false:=beq_eq_false_iff_ne.2 hN2;have yN2:(N != 2)=true:=by simp[hN2]
    have EC:ppmC p=1:=by unfold ppmC;simp[HN.out,HM.out,H2.out,H23.out,H15.out,H16.out,hN1,hN2,hN3]
    have EQ2:Hid (chkP p=Q):=by rw[←EQ.out,EC];exact rfl
    have eb:B=true:=by rw[←EB.out,EC];rfl
    clear EB;subst eb;clear EC EQ HN HM H2 H23 H15 H16 hN1 hN2 hN3;go_enter func127,ntmps127
    go_wp2_with fail
    refine (w_x p W).mono ?_;rintro _ W1 ⟨rfl,b1⟩;obtain⟨U,sU,rU,bU⟩:=(H.out.below b1).tell (chkP p);have G:Hid (RvAt U (w.heap.size+1) 74 Q.cs∧Below w.heap.size w U):=by rw[←EQ2.out];exact⟨rU,bU⟩
    clear rU bU b1
    go_wp2_with (with_reducible exact z_j results127 rfl rfl rfl G.out.1 ⟨rfl,G.out.2⟩)
end S15
end
section
namespace S15
open Go.RowKit
attribute [local go_sem ↓] ldP stP stB stU stW ldT stT st32 alP
attribute [local go_sem] z_l
theorem v_x {h:Hd} {a:Option Addr} {n c k:Nat} {w:World} (hn:n≤1000) (hk:k<n) :
  Calls prog 26 #[.agg (trc h (.slice a n c)),.int .i64 (k:Int)] w fun r w'=>r=.returned (.bool true)∧Below w.heap.size w w':=
 (w_k h a n c k w hn).mono fun r w' ⟨hr,hb⟩=>⟨by rw[hr];simp;omega,hb⟩
theorem z_iR (h:Hd) (a:Option Addr) (n c:Nat) (l:List Pt) (k:Nat) (w:World) (hs:SlAt w a n c l) (hn:n≤1000) (hk:k<n) :
  Calls prog 83 #[.agg (trc h (.slice a n c)),.int .i64 (k:Int)] w fun r w'=>TBs w h n l (ppmO l k) r w':=by
 obtain⟨OO,hOO⟩:∃z,ppmO l k=z:=⟨_,rfl⟩;rw[hOO];have EO:=hd1 hOO;clear hOO;obtain⟨g,o,rfl⟩:=hs.some' (by omega);have HL:=hd3 hs.len hn hk;have hkl:k<l.length:=by rw[HL.out.1];exact hk
 have hin0:(0:Int)≤(k:Int):=by omega
 have hin1:(k:Int)<(n:Int):=by omega
 obtain⟨W,hW,r0,r1,bW,zW⟩:=z_w w h (.slice (some ⟨g,o,none⟩) n c);have l0:=r0.tld;have H:Hid (TS w W w.heap.size (w.heap.size+1) h (.slice (some ⟨g,o,none⟩) n c)∧SlAt W (some ⟨g,o,none⟩) n c l):=⟨⟨r0,r1,bW,by omega⟩,hs.below bW⟩;have T:Hid _:=v_x (h:=h) (a:=some ⟨g,o,none⟩) (c:=c) (w:=W) hn hk;obtain⟨p,hp⟩:∃p,gtP l k=p:=⟨_,rfl⟩;have HP:=hd1 hp;have HK:=hd1 hkl;clear hs hn hk r0 r1 bW zW hp hkl
 go_enter func83,ntmps83
 go_wp2_with fail
 refine Calls.mono T.out ?_;rintro _ V ⟨rfl,bV⟩;have K:=hd2 (H.out.1.below bV) (H.out.2.below bV);have c16:=K.out.1.var.t16;have lp:=K.out.2.ld (z_k HK.out);rw[HP.out] at lp;clear bV T l0 hW H
 go_wp2_with fail
 refine (z_aL p V).mono ?_;rintro _ X ⟨rfl,bX⟩;obtain⟨Q,hQ⟩:∃z,ppmQ p (ppmC p)=z:=⟨_,rfl⟩;rw[hQ];obtain⟨Y,sY,rY,bY,zY⟩:=y_b X Q;have L:Hid (TS w Y w.heap.size (w.heap.size+1) h (.slice (some ⟨g,o,none⟩) n c)∧SlAt Y (some ⟨g,o,none⟩) n c l∧RvAt Y X.heap.size 74 Q.cs):=⟨(K.out.1.below bX).below bY,(K.out.2.below bX).below bY,rY⟩;have lt:=L.out.1.var.tld;have lq:=L.out.2.2.pld;have HQ:=hd1 hQ
 clear bX bY rY zY K lp c16 hQ;by_cases h0:ppmC p=0
 ·have E:OO=none:=by rw[←EO.out];exact z_ef (by rw[HP.out];exact h0)
  subst E;clear EO;have e0:decide (ppmC p≠0)=false:=by rw[h0];rfl
  rw[e0];clear e0 h0 HQ;obtain⟨U,sU,h1,h2,gU⟩:=L.out.1.tell (y:=.slice (some ⟨g,o,none⟩) n c) rfl;have G:=hd3 h1 (L.out.2.1.keptT L.out.1.out gU) h2;clear h1 h2 gU lq;go_wp2
  refine bodyPost_ret (z_i results83 _ _ _ _ _ rfl G.out.1) rfl ?_;exact⟨some ⟨g,o,none⟩,c,rfl,G.out.2⟩
 ·have E:OO=some (l.set k Q):=by rw[←EO.out,w_O rfl (by rw[HP.out];exact h0),HP.out,HQ.out]
  subst E;clear EO;have e0:decide (ppmC p≠0)=true:=by simpa using h0
  rw[e0];clear e0 h0 HQ
  go_wp2_with fail
  refine (z_o h (some ⟨g,o,none⟩) n c l k Q Y L.out.2.1 HL.out.2.1 HL.out.2.2).mono ?_;rintro _ X2 ⟨g2,c2,rfl,f2,s2,b2⟩;obtain⟨U,sU,h1,h2,gU⟩:=(L.out.1.below b2).tell (y:=.slice (some ⟨g2,0,none⟩) n c2) rfl;have G:Hid (RvAt U (w.heap.size+1) 39 (trc h (.slice (some ⟨g2,0,none⟩) n c2))∧SlAt U (some ⟨g2,0,none⟩) n c2 (l.set k Q)∧Below w.heap.size w U):=⟨h1,s2.keptT (L.out.1.below b2).out gU,h2⟩
  clear h1 h2 gU s2 b2 f2;go_wp2
  refine bodyPost_ret (z_i results83 _ _ _ _ _ rfl G.out.1) rfl ?_;exact⟨some ⟨g2,0,none⟩,c2,rfl,G.out.2⟩
end S15
end
section
namespace S15
open Go.RowKit
theorem z_er (w:World) (h:Hd) (x:Value):∃W,(w.alloc (.cells (trc h x) 39)).alloc (.cells zeroM.cs 46)=W∧RvAt W w.heap.size 39 (trc h x)∧RvAt W (w.heap.size+1) 46 zeroM.cs∧Below w.heap.size w W∧W.heap.size=w.heap.size+2:=by
 obtain⟨A,hA,rA,bA,zA⟩:=y_S w h x;have rC:=RvAt.new A 46 zeroM.cs;have bC:Below A.heap.size A (A.alloc (.cells zeroM.cs 46)):=(Below.refl _ _).alloc (Nat.le_refl _) _;rw[zA] at rC;refine⟨_,rfl,?_⟩;rw[hA];exact⟨rA.below bC,rC,z_a bA bC,by simp;omega⟩
end S15
end
section
namespace S15
open Go.RowKit
attribute [local go_sem ↓] ldP stP stB stU stW ldT stT st32 alP alM ldM stM ldV stV ldTm stTm bdMs
attribute [local go_sem] z_l z_D
theorem z_kF (v:Vc):v.cs=#[.int .u64 (v.nm 0),.int .u32 (v.nm 1),.int .u64 (v.nm 2),.int .u16 (v.nm 3)]:=by
 show v.cl.toArray=_
 rw[z_ar]
theorem z_cI (v:Tm):v.cs=#[.int .u8 (v.nm 0),.int .u8 (v.nm 1),.int .u8 (v.nm 2),.int .u8 (v.nm 3)]:=by
 show v.cl.toArray=_
 rw[z_bY]
theorem z_hK (x0 x1 x2 x3 x4:Bool) (x5 y0 y1 y2 y3 z0 z1 z2 z3:Int) (w:World):(bdM #[(0,.int .i64 3),(1,.bool x0),(3,.bool x1),(4,.bool x2),(5,.bool x3),(6,.bool x4),(7,.int .i64 x5),(8,.agg #[.int .u64 y0,.int .u32 y1,.int .u64 y2,.int .u16 y3]),(9,.agg #[.int .u8 z0,.int .u8 z1,.int .u8 z2,.int .u8 z3])]).run prog w=.ok (.agg #[.int .i64 3,.bool x0,.bool false,.bool x1,.bool x2,.bool x3,.bool x4,.int .i64 x5,.int .u64 y0,.int .u32 y1,.int .u64 y2,.int .u16 y3,.int .u8 z0,.int .u8 z1,.int .u8 z2,.int .u8 z3]) w:=by kernel_rfl
theorem z_hL (x0 x1:Bool) (y0 y1 y2 y3 z0 z1 z2 z3:Int) (w:World):(bdM #[(0,.int .i64 1),(1,.bool x0),(2,.bool x1),(8,.agg #[.int .u64 y0,.int .u32 y1,.int .u64 y2,.int .u16 y3]),(9,.agg #[.int .u8 z0,.int .u8 z1,.int .u8 z2,.int .u8 z3])]).run prog w=.ok (.agg #[.int .i64 1,.bool x0,.bool x1,.bool false,.bool false,.bool false,.bool false,.int .i64 0,.int .u64 y0,.int .u32 y1,.int .u64 y2,.int .u16 y3,.int .u8 z0,.int .u8 z1,.int .u8 z2,.int .u8 z3]) w:=by kernel_rfl
theorem z_fy (p:Pt) (w:World):(bdM #[(0,.int .i64 3),(1,.bool (tcB p)),(3,.bool (p.bt 13)),(4,.bool (p.bt 10)),(5,.bool (p.bt 8)),(6,.bool (p.bt 3)),(7,.int .i64 (rolN (p.nm 30))),(8,.agg (dsg p).cs),(9,.agg (dsT p).cs)]).run prog w=.ok (.agg (rstM p).cs) w:=by
 have e:(rstM p).cs=(([.int .i64 3,.bool (tcB p),.bool false,.bool (p.bt 13),.bool (p.bt 10),.bool (p.bt 8),.bool (p.bt 3),.int .i64 (rolN (p.nm 30))]:List Value)++(dsg p).cl++(dsT p).cl).toArray:=by
  show (rstM p).cl.toArray=_
  rw[z_kR]
 rw[e,z_kF,z_cI,z_ar,z_bY];exact z_hK ..
theorem z_fz (p:Pt) (w:World):(bdM #[(0,.int .i64 1),(1,.bool (tcB p)),(2,.bool (p.bt 26)),(8,.agg (dsg p).cs),(9,.agg (dsT p).cs)]).run prog w=.ok (.agg (cfgM p).cs) w:=by
 have e:(cfgM p).cs=(([.int .i64 1,.bool (tcB p),.bool (p.bt 26),.bool false,.bool false,.bool false,.bool false,.int .i64 0]:List Value)++(dsg p).cl++(dsT p).cl).toArray:=by
  show (cfgM p).cl.toArray=_
  rw[z_lB]
 rw[e,z_kF,z_cI,z_ar,z_bY];exact z_hL ..
theorem z_iU (h:Hd) (a:Option Addr) (n c:Nat) (l:List Pt) (k:Nat) (w:World) (hs:SlAt w a n c l) (hn:n≤1000) (hk:k<n) :
  Calls prog 128 #[.agg (trc h (.slice a n c)),.int .i64 (k:Int)] w fun r w'=>r=.returned (.agg (msgP (gtP l k)).cs)∧Below w.heap.size w w':=by
 obtain⟨g,o,rfl⟩:=hs.some' (by omega);have hkl:k<l.length:=by rw[hs.len];exact hk
 have hin0:(0:Int)≤(k:Int):=by omega
 have hin1:(k:Int)<(n:Int):=by omega
 obtain⟨W,hW,r0,r1,bW,zW⟩:=z_er w h (.slice (some ⟨g,o,none⟩) n c);have l0:=r0.tld;have H:=hd4 r0 r1 bW (hs.below bW);have T:Hid _:=v_x (h:=h) (a:=some ⟨g,o,none⟩) (c:=c) (w:=W) hn hk;obtain⟨p,hp⟩:∃p,gtP l k=p:=⟨_,rfl⟩;rw[hp];have HP:=hd1 hp;have HK:=hd1 hkl;obtain⟨M,hM⟩:∃z,msgP p=z:=⟨_,rfl⟩;rw[hM];have EM:=hd1 hM;obtain⟨N,h71⟩:∃z,p.nm 71=z:=⟨_,rfl⟩;have H71:=hd1 h71;clear hM h71
 clear hs hn hk r0 r1 bW zW hp hkl;go_enter func128,ntmps128
 go_wp2_with fail
 refine Calls.mono T.out ?_;rintro _ V ⟨rfl,bV⟩;have K:=hd4 (H.out.1.below bV) (H.out.2.1.below bV) (z_a H.out.2.2.1 bV) (H.out.2.2.2.below bV);have c16:=K.out.1.t16;have lp:=K.out.2.2.2.ld (z_k HK.out);rw[HP.out] at lp;clear bV T l0 hW H;obtain⟨W0,s0,q0,b0,z0⟩:=y_b V p;have P0:=hd3 q0 (K.out.2.1.below b0) (z_a K.out.2.2.1 b0);obtain⟨Z,hZ⟩:∃Z,V.heap.size=Z:=⟨_,rfl⟩;rw[hZ] at s0 P0;clear q0 b0 z0 K
 cases h23:p.bt 23
 ·have c23:=P0.out.1.bit (j:=23) rfl;rw[h23] at c23;have c30:=P0.out.1.num (j:=30) (k:=.i64) rfl;by_cases h4:p.nm 30=4
  ·have E9:Hid (cfgM p=M):=by rw[←EM.out];unfold msgP;rw[if_neg (by rw[h23];decide),if_pos h4];exact rfl
   rw[h4] at c30;clear h4 h23;by_cases h0:N=0
   ·subst h0;have hT:tcB p=false:=by unfold tcB;rw[H71.out];rfl
    have qb:=z_fz p W0;rw[hT] at qb;have c71:=P0.out.1.num (j:=71) (k:=.u8) rfl;rw[H71.out] at c71;have c26:=P0.out.1.bit (j:=26) rfl;have xv:=P0.out.1.pdsg;have xt:=P0.out.1.pdsT15;obtain⟨U,sU,h1,gU⟩:=mst (r:=cfgM p) P0.out.2.1;have G:Hid (RvAt U (w.heap.size+1) 46 M.cs∧Below w.heap.size w U):=by rw[←E9.out];exact⟨h1,gro P0.out.2.2 gU (by omega) P0.out.2.2.size⟩
    clear h1 gU;clear hT H71 EM;go_wp2
    refine bodyPost_ret (z_e rtM results128 _ _ _ _ rfl G.out.1 (by rw[Row.csize,lenM])) rfl ?_;exact⟨rfl,G.out.2⟩
   ·have x0:(N==0)=false:=beq_eq_false_iff_ne.2 h0;have y0:(N != 0)=true:=by simp[h0]
    clear h0;have hT:tcB p=true:=by unfold tcB;rw[H71.out,x0];rfl
    have qb:=z_fz p W0;rw[hT] at qb;have c71:=P0.out.1.num (j:=71) (k:=.u8) rfl;rw[H71.out] at c71;have c26:=P0.out.1.bit (j:=26) rfl;have xv:=P0.out.1.pdsg;have xt:=P0.out.1.pdsT15;obtain⟨U,sU,h1,gU⟩:=mst (r:=cfgM p) P0.out.2.1;have G:Hid (RvAt U (w.heap.size+1) 46 M.cs∧Below w.heap.size w U):=by rw[←E9.out];exact⟨h1,gro P0.out.2.2 gU (by omega) P0.out.2.2.size⟩
    clear h1 gU;clear hT H71 EM;go_wp2
    refine bodyPost_ret (z_e rtM results128 _ _ _ _ rfl G.out.1 (by rw[Row.csize,lenM])) rfl ?_;exact⟨rfl,G.out.2⟩
  ·have E9:Hid (tcnM=M):=by rw[←EM.out];unfold msgP;rw[if_neg (by rw[h23];decide),if_neg h4];exact rfl
   have x4:(p.nm 30==4)=false:=beq_eq_false_iff_ne.2 h4;have qb:=z_Q wi2 W0;rw[show (zeroM.setN 0 km0 2 wi2).cs=tcnM.cs from rfl] at qb;clear h4 h23;obtain⟨U,sU,h1,gU⟩:=mst (r:=tcnM) P0.out.2.1;have G:Hid (RvAt U (w.heap.size+1) 46 M.cs∧Below w.heap.size w U):=by rw[←E9.out];exact⟨h1,gro P0.out.2.2 gU (by omega) P0.out.2.2.size⟩
   clear h1 gU;go_wp2
   refine bodyPost_ret (z_e rtM results128 _ _ _ _ rfl G.out.1 (by rw[Row.csize,lenM])) rfl ?_;exact⟨rfl,G.out.2⟩
 ·have c23:=P0.out.1.bit (j:=23) rfl;rw[h23] at c23;have E9:Hid (rstM p=M):=by rw[←EM.out];unfold msgP;rw[if_pos h23];exact rfl
  clear h23;by_cases h0:N=0
  ·subst h0;have hT:tcB p=false:=by unfold tcB;rw[H71.out];rfl
   have f71:=fun x:Later W0=>(P0.out.1.below x.below).num (j:=71) (k:=.u8) rfl;rw[H71.out] at f71;have f13:=fun x:Later W0=>(P0.out.1.below x.below).bit (j:=13) rfl;have f10:=fun x:Later W0=>(P0.out.1.below x.below).bit (j:=10) rfl;have f8:=fun x:Later W0=>(P0.out.1.below x.below).bit (j:=8) rfl;have f3:=fun x:Later W0=>(P0.out.1.below x.below).bit (j:=3) rfl
   have f30:=fun x:Later W0=>(P0.out.1.below x.below).num (j:=30) (k:=.i64) rfl;have fv:=fun x:Later W0=>(P0.out.1.below x.below).pdsg;have ft:=fun x:Later W0=>(P0.out.1.below x.below).pdsT15;have P1:Hid (∀x:Later W0,_):=fun x:Later W0=>z_du (p.nm 30) x.val;go_upto_region 5 with fail
   refine wp_region_later_tail 18 (by kernel_rfl) (by kernel_rfl) ?_;simp only[List.take_succ_cons,List.take_zero]
   repeat (go_big_quiet_step (first|exact rfl | (go_at_call 164;with_reducible exact Calls.later_of (P1.out _))))
   refine wpQuiet_nil ?_;intro z;simp only[List.drop_succ_cons,List.drop_zero];have PZ:=hd3 (P0.out.1.below z.below) (P0.out.2.1.below z.below) (z_a P0.out.2.2 z.below);have qb:=z_fy p z.val;rw[hT] at qb;clear f71 f13 f10 f8 f3 f30 fv ft P1;obtain⟨U,sU,h1,gU⟩:=mst (r:=rstM p) PZ.out.2.1
   have G:Hid (RvAt U (w.heap.size+1) 46 M.cs∧Below w.heap.size w U):=by rw[←E9.out];exact⟨h1,gro PZ.out.2.2 gU (by omega) PZ.out.2.2.size⟩
   clear h1 gU;clear hT H71 EM;go_wp2
   refine bodyPost_ret (z_e rtM results128 _ _ _ _ rfl G.out.1 (by rw[Row.csize,lenM])) rfl ?_;exact⟨rfl,G.out.2⟩
  ·have x0:(N==0)=false:=beq_eq_false_iff_ne.2 h0;have y0:(N != 0)=true:=by simp[h0]
   clear h0;have hT:tcB p=true:=by unfold tcB;rw[H71.out,x0];rfl
   have f71:=fun x:Later W0=>(P0.out.1.below x.below).num (j:=71) (k:=.u8) rfl;rw[H71.out] at f71;have f13:=fun x:Later W0=>(P0.out.1.below x.below).bit (j:=13) rfl;have f10:=fun x:Later W0=>(P0.out.1.below x.below).bit (j:=10) rfl;have f8:=fun x:Later W0=>(P0.out.1.below x.below).bit (j:=8) rfl;have f3:=fun x:Later W0=>(P0.out.1.below x.below).bit (j:=3) rfl
   have f30:=fun x:Later W0=>(P0.out.1.below x.below).num (j:=30) (k:=.i64) rfl;have fv:=fun x:Later W0=>(P0.out.1.below x.below).pdsg;have ft:=fun x:Later W0=>(P0.out.1.below x.below).pdsT15;have P1:Hid (∀x:Later W0,_):=fun x:Later W0=>z_du (p.nm 30) x.val;go_upto_region 5 with fail
   refine wp_region_later_tail 18 (by kernel_rfl) (by kernel_rfl) ?_;simp only[List.take_succ_cons,List.take_zero]
   repeat (go_big_quiet_step (first|exact rfl | (go_at_call 164;with_reducible exact Calls.later_of (P1.out _))))
   refine wpQuiet_nil ?_;intro z;simp only[List.drop_succ_cons,List.drop_zero];have PZ:=hd3 (P0.out.1.below z.below) (P0.out.2.1.below z.below) (z_a P0.out.2.2 z.below);have qb:=z_fy p z.val;rw[hT] at qb;clear f71 f13 f10 f8 f3 f30 fv ft P1;obtain⟨U,sU,h1,gU⟩:=mst (r:=rstM p) PZ.out.2.1
   have G:Hid (RvAt U (w.heap.size+1) 46 M.cs∧Below w.heap.size w U):=by rw[←E9.out];exact⟨h1,gro PZ.out.2.2 gU (by omega) PZ.out.2.2.size⟩
   clear h1 gU;clear hT H71 EM;go_wp2
   refine bodyPost_ret (z_e rtM results128 _ _ _ _ rfl G.out.1 (by rw[Row.csize,lenM])) rfl ?_;exact⟨rfl,G.out.2⟩
end S15
end
end Go.Proofs.YtlchejbggnbccaaGreat
