/-
  Vectors in memory, held against each other: the walks of parts, Compare, Better, each for every input. And what follows from it here.
-/
import Derived.Test.YtlchejbggnbccaaGreatPbb
import Derived.Test.YtlchejbggnbccaaGreatPba
import Derived.Laws.BitsAllLaws
namespace Go.Proofs.YtlchejbggnbccaaGreat
set_option linter.unusedVariables false
set_option linter.unusedSimpArgs false
set_option maxRecDepth 4000
set_option maxHeartbeats 40000000
open _root_.Go.Proofs.Tryz
section
namespace S12
open Go.RowKit
attribute [local go_sem ↓] ldV stV stQ
end S12
end
section
namespace S12
open Go.RowKit
end S12
end
section
namespace S12
open Go.RowKit
attribute [local go_sem ↓] ldV stV
end S12
end
section
namespace S12
open Go.RowKit
end S12
end
section
namespace S12
open Go.RowKit
theorem _root_.Go.Proofs.YtlchejbggnbccaaGreat.RvAt.pdsT12 {W:World} {b:Nat} {p:Pt} (hb:RvAt W b 74 p.cs):(ldS 24 (.pointer (some ⟨b,40,none⟩))).run prog W=.ok (.agg (dsgT p).cs) W:=hb.part rfl rfl underlying24 rfl infoTm
theorem kq32:(kdP.drop 32).take kdV.length=kdV:=rfl
theorem kl32:32+kdV.length≤kdP.length:=by decide
theorem kq40:(kdP.drop 40).take kdT.length=kdT:=rfl
theorem kl40:40+kdT.length≤kdP.length:=by decide
theorem z_ar (v:Vc):v.cl=[.int .u64 (v.nm 0),.int .u32 (v.nm 1),.int .u64 (v.nm 2),.int .u16 (v.nm 3)]:=by
 have h:=congrArg Array.toList (x_X v);simpa [V4.cs,v4,Row.cs] using h.symm
theorem z_bY (v:Tm):v.cl=[.int .u8 (v.nm 0),.int .u8 (v.nm 1),.int .u8 (v.nm 2),.int .u8 (v.nm 3)]:=by
 have h0:=v.num (j:=0) (k:=.u8) rfl;have h1:=v.num (j:=1) (k:=.u8) rfl;have h2:=v.num (j:=2) (k:=.u8) rfl;have h3:=v.num (j:=3) (k:=.u8) rfl;have hl:=v.len;rw[lenT] at hl;refine List.ext_getElem? fun j=>?_
 match j with
 | 0=>rw[h0];rfl
 | 1=>rw[h1];rfl
 | 2=>rw[h2];rfl
 | 3=>rw[h3];rfl
 | j+4=>rw[List.getElem?_eq_none (by omega)];rfl
theorem z_eN {k0 k1 k2 k3:Option IntKind} {x0 x1 x2 x3:Value} (h0:Fit k0 x0) (h1:Fit k1 x1) (h2:Fit k2 x2) (h3:Fit k3 x3):Fits [k0,k1,k2,k3] [x0,x1,x2,x3]:=by
 refine⟨rfl,fun j k v hk hv=>?_⟩
 match j,hk,hv with
 | 0,hk,hv=>cases hk;cases hv;exact h0
 | 1,hk,hv=>cases hk;cases hv;exact h1
 | 2,hk,hv=>cases hk;cases hv;exact h2
 | 3,hk,hv=>cases hk;cases hv;exact h3
 | j+4,hk,hv=>simp at hk
theorem _root_.Go.Proofs.YtlchejbggnbccaaGreat.Row.fit {ks:List (Option IntKind)} (r:Row ks) {j:Nat} {k:IntKind} (h:ks[j]?=some (some k)):Fit (some k) (.int k (r.nm j)):=⟨_,rfl,r.nwf h⟩
theorem z_lW (n:Int):Fit (some .u32) (.int .u32 (n%4294967296)):=⟨_,rfl,by simp[Lit.wf,IntKind.min,IntKind.max,IntKind.signed,IntKind.bits];omega⟩
def ownV (h:Hd):Vc:=⟨[.int .u64 (h.nm 0),.int .u32 0,.int .u64 (h.nm 0),.int .u16 0],z_eN (h.fit (j:=0) rfl) ⟨0,rfl,by decide⟩ (h.fit (j:=0) rfl) ⟨0,rfl,by decide⟩⟩
def addV (p:Pt):Vc:=⟨[.int .u64 (p.nm 36),.int .u32 ((p.nm 37+p.nm 1)%4294967296),.int .u64 (p.nm 38),.int .u16 (p.nm 39)],z_eN (p.fit (j:=36) rfl) (z_lW _) (p.fit (j:=38) rfl) (p.fit (j:=39) rfl)⟩
def desV (h:Hd) (v:Vc) (p:Pt):Vc:=⟨[.int .u64 (v.nm 0),.int .u32 (v.nm 1),.int .u64 (h.nm 0),.int .u16 (p.nm 0)],z_eN (v.fit (j:=0) rfl) (v.fit (j:=1) rfl) (h.fit (j:=0) rfl) (p.fit (j:=0) rfl)⟩
def oldN (a:Int):Int:=if a<255 then a+1 else 255
theorem z_gQ {a:Int} (h:0≤a∧a≤255):Fit (some .u8) (.int .u8 (oldN a)):=⟨_,rfl,wf8 (by unfold oldN;split<;>omega)⟩
def oldT (t:Tm):Tm:=⟨[.int .u8 (oldN (t.nm 0)),.int .u8 (t.nm 1),.int .u8 (t.nm 2),.int .u8 (t.nm 3)],z_eN (z_gQ (t.u8 rfl)) (t.fit (j:=1) rfl) (t.fit (j:=2) rfl) (t.fit (j:=3) rfl)⟩
def desT (h:Hd) (t:Tm):Tm:=⟨[.int .u8 (t.nm 0),.int .u8 (t.nm 1),.int .u8 (h.nm 3),.int .u8 (t.nm 3)],z_eN (t.fit (j:=0) rfl) (t.fit (j:=1) rfl) (h.fit (j:=3) rfl) (t.fit (j:=3) rfl)⟩
theorem z_by (p:Pt) (j:Nat) (hj:j<4):(pri p).nm j=p.nm (36+j):=p.nm_sub 36 4 j hj
theorem z_ie (p:Pt):(pri p).cs=#[.int .u64 (p.nm 36),.int .u32 (p.nm 37),.int .u64 (p.nm 38),.int .u16 (p.nm 39)]:=by
 show (pri p).cl.toArray=_
 rw[z_ar,z_by p 0 (by omega),z_by p 1 (by omega),z_by p 2 (by omega),z_by p 3 (by omega)]
end S12
end
section
namespace S12
open Go.RowKit
attribute [local go_sem ↓] ldV stV
end S12
end
section
namespace S12
open Go.RowKit
theorem z_aU (a b:Vc) (w:World):Calls prog 225 #[.agg a.cs,.agg b.cs] w fun e w'=>e=.returned (.int .i64 (cmpV (v4 a) (v4 b)))∧Below w.heap.size w w':=by
 rw[←x_X a,← x_X b];exact v_D _ _ w (u_P a) (u_P b)
theorem v_X (a b:Vc) (w:World):Calls prog 148 #[.agg a.cs,.agg b.cs] w fun e w'=>e=.returned (.bool (bet a b))∧Below w.heap.size w w':=by
 rw[←x_X a,← x_X b];exact w_o _ _ w
theorem z_jD (h:Hd) (w:World) :
  Calls prog 222 #[.int .u64 (h.nm 0)] w fun e w'=>e=.returned (.agg (ownV h).cs)∧Below w.heap.size w w':=by
 show Calls prog 222 _ w fun e w'=>e=.returned (.agg #[.int .u64 (h.nm 0),.int .u32 0,.int .u64 (h.nm 0),.int .u16 0])∧_
 generalize h.nm 0=n
 go_enter func222,ntmps222;go_wp2
 go_returns
 exact⟨rfl,by go_grown⟩
theorem z_fZ (h:Hd) (w:World) :
  Calls prog 146 #[.int .u64 (h.nm 0)] w fun e w'=>e=.returned (.agg (ownV h).cs)∧Below w.heap.size w w':=by
 show Calls prog 146 _ w fun e w'=>e=.returned (.agg #[.int .u64 (h.nm 0),.int .u32 0,.int .u64 (h.nm 0),.int .u16 0])∧_
 generalize h.nm 0=n
 go_enter func146,ntmps146;go_wp2
 go_returns
 exact⟨rfl,by go_grown⟩
theorem z_gh (p:Pt) (w:World) :
  Calls prog 188 #[.agg (pri p).cs,.int .u32 (p.nm 1)] w fun e w'=>e=.returned (.agg (addV p).cs)∧Below w.heap.size w w':=by
 have hc:=p.u32 (j:=37) rfl;have hk:=p.u32 (j:=1) rfl;have hr:=p.u64 (j:=36) rfl;have hb:=p.u64 (j:=38) rfl;have hp:=p.u16 (j:=39) rfl;rw[z_ie]
 show Calls prog 188 _ w fun e w'=>e=.returned (.agg #[.int .u64 (p.nm 36),.int .u32 ((p.nm 37+p.nm 1)%4294967296),.int .u64 (p.nm 38),.int .u16 (p.nm 39)])∧_
 generalize p.nm 36=r at *
 generalize p.nm 37=c at *
 generalize p.nm 38=b at *
 generalize p.nm 39=q at *
 generalize p.nm 1=k at *
 go_enter func188,ntmps188;go_wp2
 go_returns
 exact⟨rfl,by go_grown⟩
theorem z_kD (p:Pt) (w:World) :
  Calls prog 224 #[.agg (pri p).cs,.int .u32 (p.nm 1)] w fun e w'=>e=.returned (.agg (addV p).cs)∧Below w.heap.size w w':=by
 have hc:=p.u32 (j:=37) rfl;have hk:=p.u32 (j:=1) rfl;have hr:=p.u64 (j:=36) rfl;have hb:=p.u64 (j:=38) rfl;have hp:=p.u16 (j:=39) rfl;rw[z_ie]
 show Calls prog 224 _ w fun e w'=>e=.returned (.agg #[.int .u64 (p.nm 36),.int .u32 ((p.nm 37+p.nm 1)%4294967296),.int .u64 (p.nm 38),.int .u16 (p.nm 39)])∧_
 generalize p.nm 36=r at *
 generalize p.nm 37=c at *
 generalize p.nm 38=b at *
 generalize p.nm 39=q at *
 generalize p.nm 1=k at *
 go_enter func224,ntmps224;go_wp2
 go_returns
 exact⟨rfl,by go_grown⟩
theorem z_cI (t:Tm):t.cs=#[.int .u8 (t.nm 0),.int .u8 (t.nm 1),.int .u8 (t.nm 2),.int .u8 (t.nm 3)]:=by
 show t.cl.toArray=_
 rw[z_bY]
theorem z_ep (t:Tm) (w:World) :
  Calls prog 184 #[.agg t.cs] w fun r w'=>r=.returned (.agg (oldT t).cs)∧Below w.heap.size w w':=by
 have ha:=t.u8 (j:=0) rfl;rw[z_cI]
 show Calls prog 184 _ w fun e w'=>e=.returned (.agg #[.int .u8 (oldN (t.nm 0)),.int .u8 (t.nm 1),.int .u8 (t.nm 2),.int .u8 (t.nm 3)])∧_
 generalize t.nm 0=a at *
 generalize t.nm 1=x at *
 generalize t.nm 2=h at *
 generalize t.nm 3=d at *
 unfold oldN;by_cases hlt:a<255
 ·have hw:0≤a+1∧a+1≤255:=by omega
  rw[if_pos hlt];go_enter func184,ntmps184;go_wp2
  go_returns
  exact⟨rfl,by go_grown⟩
 ·obtain rfl:a=255:=by omega
  rw[if_neg hlt];go_enter func184,ntmps184;go_wp2
  go_returns
  exact⟨rfl,by go_grown⟩
theorem z_cf (t:Tm) (w:World) :
  Calls prog 112 #[.agg t.cs] w fun r w'=>r=.returned (.agg (oldT t).cs)∧Below w.heap.size w w':=by
 have ha:=t.u8 (j:=0) rfl;rw[z_cI]
 show Calls prog 112 _ w fun e w'=>e=.returned (.agg #[.int .u8 (oldN (t.nm 0)),.int .u8 (t.nm 1),.int .u8 (t.nm 2),.int .u8 (t.nm 3)])∧_
 generalize t.nm 0=a at *
 generalize t.nm 1=x at *
 generalize t.nm 2=h at *
 generalize t.nm 3=d at *
 unfold oldN;by_cases hlt:a<255
 ·have hw:0≤a+1∧a+1≤255:=by omega
  rw[if_pos hlt];go_enter func112,ntmps112;go_wp2
  go_returns
  exact⟨rfl,by go_grown⟩
 ·obtain rfl:a=255:=by omega
  rw[if_neg hlt];go_enter func112,ntmps112;go_wp2
  go_returns
  exact⟨rfl,by go_grown⟩
end S12
end
section
namespace S12
open Go.RowKit
theorem z_cH (w:World) (h:Hd) (x:Value) (p:Pt):∃W,(w.alloc (.cells (trc h x) 39)).alloc (.cells p.cs 74)=W∧RvAt W w.heap.size 39 (trc h x)∧RvAt W (w.heap.size+1) 74 p.cs∧Below w.heap.size w W∧W.heap.size=w.heap.size+2:=by
 obtain⟨A,hA,rA,bA,zA⟩:=y_S w h x;obtain⟨D,hD,rD,bD,zD⟩:=y_T A p;rw[zA] at rD;exact⟨D,by rw[hA,hD],rA.below bD,rD,z_a bA bD,by omega⟩
def owB (h:Hd) (p:Pt):Bool:=sameA (p.nm 38) (h.nm 0)
def ldB (h:Hd) (p:Pt):Bool:=decide (p.nm 29=3) && !(owB h p)
attribute [local go_sem ↓] ldP stP ldT stT
theorem u_r (h:Hd) (x:Value) (p:Pt) (w:World) :
  Calls prog 254 #[.agg (trc h x),.agg p.cs] w fun r w'=>r=.returned (.bool (owB h p))∧Below w.heap.size w w':=by
 obtain⟨W,hW,r0,r1,bW,zW⟩:=z_cH w h x p;have c0:=fun q:Later W=>(r0.below q.below).tnum (j:=0) (k:=.u64) rfl;have c38:=fun q:Later W=>(r1.below q.below).num (j:=38) (k:=.u64) rfl;have P1:Hid (∀q:Later W,_):=fun q:Later W=>y_y (p.nm 38) q.val (p.u64 rfl);have P2:Hid (∀q:Later W,_):=fun q:Later W=>y_y (h.nm 0) q.val (h.u64 rfl);have he:=z_ip (p.nm 38) (h.nm 0);have H:=hd1 bW;clear r0 r1 bW zW
 unfold owB;go_enter func254,ntmps254
 go_wp2_with fail
 refine wp_region_later (by kernel_rfl) (by kernel_rfl) ?_
 repeat (go_big_quiet_step (first
  | exact rfl
  | (go_at_call 47;with_reducible exact Calls.later_of (P1.out _))
  | (go_at_call 47;with_reducible exact Calls.later_of (P2.out _))))
 refine wpQuiet_nil ?_;intro _ hw';obtain⟨z,rfl⟩:=hw';go_wp2
 go_ret;exact⟨rfl,y_Z H.out z⟩
theorem z_ew (h:Hd) (x:Value) (p:Pt) (w:World) :
  Calls prog 223 #[.agg (trc h x),.agg p.cs] w fun r w'=>r=.returned (.bool (ldB h p))∧Below w.heap.size w w':=by
 obtain⟨W,hW,r0,r1,bW,zW⟩:=z_cH w h x p;have l0:=r0.tld;have l1:=r1.pld;have c29:=r1.num (j:=29) (k:=.i64) rfl;have H:=hd1 bW;clear r0 r1 bW zW;unfold ldB;by_cases h1:p.nm 29=3
 ·rw[h1] at c29 ⊢;go_enter func223,ntmps223
  go_wp2_with fail
  refine (u_r h x p W).mono ?_;rintro _ W1 ⟨rfl,b1⟩;have H1:=hd1 (z_a H.out b1);clear b1 H l0 l1 hW c29 h1;obtain⟨B,hB⟩:∃B,owB h p=B:=⟨_,rfl⟩;rw[hB];have HB:=hd1 hB;clear hB;go_wp2
  go_ret;exact⟨by simp[HB.out],H1.out⟩
 ·have hb:(p.nm 29==3)=false:=by simpa using h1
  go_enter func223,ntmps223;go_wp2
  go_ret;exact⟨by simp[h1],H.out⟩
def zvC:Array Value:=#[.int .u64 0,.int .u32 0,.int .u64 0,.int .u16 0]
def zeroVc:Vc:=zeroR kdV
theorem z_cx:zeroVc.cs=zvC:=by kernel_rfl
theorem _root_.Go.Proofs.YtlchejbggnbccaaGreat.RvAt.vst {W:World} {b:Nat} {u v:Vc} (hb:RvAt W b 36 u.cs):∃W',(stS 36 (.pointer (some ⟨b,0,none⟩)) (.agg v.cs)).run prog W=.ok () W'∧RvAt W' b 36 v.cs∧W.grownBy W' (some b):=
 ⟨_,hb.st rtV (by rw[Row.csize,lenV]) (by rw[Row.csize,lenV]) v.one',hb.set,z_m _ _ _⟩
theorem _root_.Go.Proofs.YtlchejbggnbccaaGreat.RvAt.vld {W:World} {b:Nat} {v:Vc} (hb:RvAt W b 36 v.cs):(ldS 36 (.pointer (some ⟨b,0,none⟩))).run prog W=.ok (.agg v.cs) W:=hb.ld rtV (by rw[Row.csize,lenV])
theorem z_cn (W:World) (v:Vc):∃W',(stS 36 (.pointer (some ⟨W.heap.size,0,none⟩)) (.agg v.cs)).run prog (W.alloc (.cells #[.int .u64 0,.int .u32 0,.int .u64 0,.int .u16 0] 36))=.ok () W'∧RvAt W' W.heap.size 36 v.cs∧Below W.heap.size W W'∧W'.heap.size=W.heap.size+1:=
 z_E rtV W _ v.cs rfl (by rw[Row.csize,lenV]) v.one'
theorem z_bC (W:World) (p:Pt):∃W',(stS 74 (.pointer (some ⟨W.heap.size,0,none⟩)) (.agg p.cs)).run prog (W.alloc (.cells zeroP.cs 74))=.ok () W'∧RvAt W' W.heap.size 74 p.cs∧Below W.heap.size W W'∧W'.heap.size=W.heap.size+1:=
 z_E rtP W _ p.cs (by rw[Row.csize,lenP]) (by rw[Row.csize,lenP]) p.one'
theorem z_cg {fn:Func} {k t:Nat} (hr:fn.results=#[.cell k 36,.tmp t]) (tmps:Array Value) (w:World) (b:Nat) (p:Vc) (h2:tmps.getD k undef=.pointer (some ⟨b,0,none⟩)) (h:RvAt w b 36 p.cs) :
  (results fn tmps).run prog w=.ok (.tuple #[.agg p.cs,tmps.getD t undef]) w:=by
 have hl:=h.lv rtV (by rw[Row.csize,lenV]);have h2':tmps[k]?.getD undef=.pointer (some ⟨b,0,none⟩):=by simpa using h2
 simp[results,hr,asAddr,hl,h2']
theorem u_W {fn:Func} {k t:Nat} (hr:fn.results=#[.cell k 36,.tmp t]) {R:Ending→World→Prop} {a:Act} {w:World} {b:Nat} {p:Vc} {x:Value} (hd:a.defers=[]) (h2:a.tmps.getD k undef=.pointer (some ⟨b,0,none⟩)) (h3:a.tmps.getD t undef=x) (h:RvAt w b 36 p.cs) (hR:R (.returned (.tuple #[.agg p.cs,x])) w):bodyPost prog fn R .ret a w:=
 bodyPost_ret (z_cg hr _ _ _ _ h2 h) hd (by rw[h3];exact hR)
theorem z_cG (w:World) (h:Hd) (x:Value):∃W,(w.alloc (.cells (trc h x) 39)).alloc (.cells #[.int .u64 0,.int .u32 0,.int .u64 0,.int .u16 0] 36)=W∧RvAt W w.heap.size 39 (trc h x)∧RvAt W (w.heap.size+1) 36 zeroVc.cs∧Below w.heap.size w W∧W.heap.size=w.heap.size+2:=by
 obtain⟨A,hA,rA,bA,zA⟩:=y_S w h x;rw[hA];have bB:Below A.heap.size A (A.alloc (.cells zeroVc.cs 36)):=(Below.refl _ _).alloc (Nat.le_refl _) _;have rB:RvAt (A.alloc (.cells zeroVc.cs 36)) A.heap.size 36 zeroVc.cs:=RvAt.new A _ _;rw[zA] at rB;refine⟨_,rfl,?_⟩;rw[show (#[.int .u64 0,.int .u32 0,.int .u64 0,.int .u16 0]:Array Value)=zeroVc.cs from z_cx.symm]
 exact⟨rA.below bB,rB,z_a bA bB,by simp[zA]⟩
def canV (h:Hd) (p:Pt):Vc:=if ldB h p=true then addV p else zeroVc
def bdS (t:TypeId) (ps:Array (Nat×Value)):Sem Value:=Instr.build t ps
theorem bdV (ps:Array (Nat×Value)):Instr.build 36 ps=bdS 36 ps:=rfl
theorem bdv (w:World):(bdS 36 #[]).run prog w=.ok (.agg zeroVc.cs) w:=by kernel_rfl
attribute [local go_sem ↓] ldV stV alP bdV
attribute [local go_sem] z_l bdv
theorem z_hI (h:Hd) (a:Option Addr) (n c i:Nat) (l:List Pt) (w:World) (hs:SlAt w a n c l) (hn:n≤1000) (hi:i<n) :
  Calls prog 147 #[.agg (trc h (.slice a n c)),.int .i64 (i:Int)] w fun r w'=>r=.returned (.tuple #[.agg (canV h (gtP l i)).cs,.bool (ldB h (gtP l i))])∧Below w.heap.size w w':=by
 obtain⟨W,hW,r0,r1,bW,zW⟩:=z_cG w h (.slice a n c);have hin0:(0:Int)≤(i:Int):=by omega
 have hin1:(i:Int)<(n:Int):=by omega
 obtain⟨b,o,rfl⟩:=hs.some' (by omega);have c16:=r0.t16;have hl:=z_k (l:=l) (i:=i) (by rw[hs.len];exact hi);have lp:=(hs.below bW).ld hl;obtain⟨p,hp⟩:∃p,gtP l i=p:=⟨_,rfl⟩;rw[hp] at lp ⊢;obtain⟨V,sV,rV,bV,zV⟩:=z_bC W p;have c29:=rV.num (j:=29) (k:=.i64) rfl;have c38:=rV.num (j:=38) (k:=.u64) rfl;have c1:=rV.num (j:=1) (k:=.u32) rfl;have c36:=rV.ppri;have c0:=(r0.below bV).tnum (j:=0) (k:=.u64) rfl
 have H:=hd3 (r1.below bV) (z_a bW bV) rV;clear hs r0 r1 bW zW rV bV zV hl hp;by_cases h1:p.nm 29=3
 ·rw[h1] at c29;have e1:ldB h p=!(owB h p):=by simp[ldB,h1]
  have SA:Hid (∀V:World,_):=fun V=>w_a (p.nm 38) (h.nm 0) V (p.u64 rfl) (h.u64 rfl);cases h2:sameA (p.nm 38) (h.nm 0)
  ·have e2:ldB h p=true:=by rw[e1];unfold owB;rw[h2];rfl
   have e3:canV h p=addV p:=by unfold canV;rw[if_pos e2]
   rw[e2,e3];rw[h2] at SA;clear e1 e2 e3 h1 h2;go_enter func147,ntmps147
   go_wp2_with fail
   refine (SA.out V).mono ?_;rintro _ V1 ⟨rfl,b1⟩;have H1:=hd2 (H.out.1.below b1) (z_a H.out.2.1 b1);have d1:=(H.out.2.2.below b1).num (j:=1) (k:=.u32) rfl;have d36:=(H.out.2.2.below b1).ppri;clear H c29 c38 c1 c36 c0 sV b1
   go_wp2_with fail
   refine (z_gh p V1).mono ?_;rintro _ V2 ⟨rfl,b2⟩;obtain⟨U,sU,rU,gU⟩:=(H1.out.1.below b2).vst (v:=addV p);have F:Hid (RvAt U (w.heap.size+1) 36 (addV p).cs∧Below w.heap.size w U):=⟨rU,gro (z_a H1.out.2 b2) gU (by omega) (z_a H1.out.2 b2).size⟩;clear rU gU b2 H1 d1 d36
   go_wp2_with (with_reducible exact u_W results147 rfl rfl rfl F.out.1 ⟨rfl,F.out.2⟩)
  ·have e2:ldB h p=false:=by rw[e1];unfold owB;rw[h2];rfl
   have e3:canV h p=zeroVc:=by unfold canV;rw[if_neg (by rw[e2];decide)]
   rw[e2,e3];rw[h2] at SA;clear e1 e2 e3 h1 h2;go_enter func147,ntmps147
   go_wp2_with fail
   refine (SA.out V).mono ?_;rintro _ V1 ⟨rfl,b1⟩;have H1:=hd2 (H.out.1.below b1) (z_a H.out.2.1 b1);obtain⟨U,sU,rU,gU⟩:=H1.out.1.vst (v:=zeroVc);have F:=hd2 rU (gro H1.out.2 gU (by omega) H1.out.2.size);clear rU gU H1 H c29 c38 c1 c36 c0 sV b1
   go_wp2_with (with_reducible exact u_W results147 rfl rfl rfl F.out.1 ⟨rfl,F.out.2⟩)
 ·have hb:(p.nm 29==3)=false:=by simpa using h1
  have hb':(p.nm 29 != 3)=true:=by simpa using h1
  have e2:ldB h p=false:=by simp[ldB,h1]
  have e3:canV h p=zeroVc:=by unfold canV;rw[if_neg (by rw[e2];decide)]
  rw[e2,e3];obtain⟨U,sU,rU,gU⟩:=H.out.1.vst (v:=zeroVc);have F:=hd2 rU (gro H.out.2.1 gU (by omega) H.out.2.1.size);clear rU gU H;go_enter func147,ntmps147
  go_wp2_with (with_reducible exact u_W results147 rfl rfl rfl F.out.1 ⟨rfl,F.out.2⟩)
end S12
end
section
namespace S12
open Go.RowKit
def cmp (a b:Vc):Int:=cmpV (v4 a) (v4 b)
theorem z_ir (a b:Vc):cmp a b=-1∨cmp a b=0∨cmp a b=1:=by
 unfold cmp cmpV
 (repeat' split)<;>omega
theorem z_kv (a b:Vc):bet a b=decide (cmp a b=-1):=by
 unfold bet betV cmp cmpV
 apply decide_eq_decide.mpr
 (repeat' split)<;>omega
theorem z_kE {a b:Vc} (h0:a.nm 0=b.nm 0) (h1:a.nm 1=b.nm 1) (h2:a.nm 2=b.nm 2) (h3:a.nm 3=b.nm 3):a=b:=by
 apply Row.ext'
 rw[z_ar a,z_ar b,h0,h1,h2,h3]
theorem z_hx {a b:Vc}:cmp a b=0↔a=b:=by
 constructor
 ·intro h;have:a.nm 0=b.nm 0∧a.nm 1=b.nm 1∧a.nm 2=b.nm 2∧a.nm 3=b.nm 3:=by
   unfold cmp cmpV v4 at h;simp only at h
   revert h
   (repeat' split)<;>intro h<;>omega
  exact z_kE this.1 this.2.1 this.2.2.1 this.2.2.2
 ·rintro rfl;unfold cmp cmpV;simp
def tkB (l:List Pt) (p:Pt) (u v:Vc) (k:Int):Bool:=decide (cmp u v=-1) || (decide (cmp u v=0) && (decide (0≤k) && decide (p.nm 0<(gtP l k.toNat).nm 0)))
theorem z_cK {l:List Pt} {p:Pt} {u v:Vc} {k:Int} (h:cmp u v=-1):(true && tkB l p u v k)=true:=by simp[tkB,h]
theorem z_cJ {l:List Pt} {p:Pt} {u v:Vc} {k:Int} (h:cmp u v=1):(true && tkB l p u v k)=false:=by simp[tkB,h]
theorem z_hY {l:List Pt} {p:Pt} {u v:Vc} (h:cmp u v=0):(true && tkB l p u v (-1))=false:=by simp[tkB,h]
theorem z_hX {l:List Pt} {p:Pt} {u v:Vc} {k:Nat} (h:cmp u v=0) (hl:p.nm 0<(gtP l k).nm 0):(true && tkB l p u v (k:Int))=true:=by simp[tkB,h,hl]
theorem z_kJ {l:List Pt} {p:Pt} {u v:Vc} {k:Nat} (h:cmp u v=0) (hl:¬ p.nm 0<(gtP l k).nm 0):(true && tkB l p u v (k:Int))=false:=by simp[tkB,h];omega
def rtS (h:Hd) (l:List Pt) (i:Nat) (s:Vc×Int):Vc×Int:=if (ldB h (gtP l i) && tkB l (gtP l i) (addV (gtP l i)) s.1 s.2)=true then (addV (gtP l i),(i:Int)) else s
def rtF (h:Hd) (l:List Pt):Nat→Vc×Int
 | 0=>(ownV h,-1)
 | i+1=>rtS h l i (rtF h l i)
def rooV (h:Hd) (l:List Pt):Vc:=(rtF h l l.length).1
def rooK (h:Hd) (l:List Pt):Int:=(rtF h l l.length).2
theorem x_d (h:Hd) (l:List Pt):∀i,-1≤(rtF h l i).2∧(rtF h l i).2<i
 | 0=>by simp[rtF]
 | i+1=>by
  have:=x_d h l i;unfold rtF rtS
  split
  ·simp only;omega
  ·omega
theorem z_ic {h:Hd} {l:List Pt} {i:Nat} {v:Vc} {k:Int} (e:rtF h l i=(v,k)) (hb:(ldB h (gtP l i) && tkB l (gtP l i) (addV (gtP l i)) v k)=false):rtF h l (i+1)=(v,k):=by
 show rtS h l i (rtF h l i)=_
 rw[e];unfold rtS;rw[if_neg (by rw[hb];decide)]
theorem z_do {h:Hd} {l:List Pt} {i:Nat} {v:Vc} {k:Int} (e:rtF h l i=(v,k)) (hb:(ldB h (gtP l i) && tkB l (gtP l i) (addV (gtP l i)) v k)=true):rtF h l (i+1)=(addV (gtP l i),(i:Int)):=by
 show rtS h l i (rtF h l i)=_
 rw[e];unfold rtS;rw[if_pos hb]
structure RS (w W:World) (b d e:Nat) (h:Hd) (a:Option Addr) (n c:Nat) (l:List Pt) (v:Vc):Prop where
 var:RvAt W b 39 (trc h (.slice a n c))
 out:RvAt W d 36 zeroVc.cs
 root:RvAt W e 36 v.cs
 sl:SlAt W a n c l
 bel:Below w.heap.size w W
 hb:w.heap.size≤b
 hd:w.heap.size≤d
 he:w.heap.size≤e
 be:b≠e
 de:d≠e
theorem RS.below {w W V:World} {b d e n c:Nat} {h:Hd} {a:Option Addr} {l:List Pt} {v:Vc} (s:RS w W b d e h a n c l v) (k:Below W.heap.size W V):RS w V b d e h a n c l v:=
 ⟨s.var.below k,s.out.below k,s.root.below k,s.sl.below k,z_a s.bel k,s.hb,s.hd,s.he,s.be,s.de⟩
theorem RS.st {w W:World} {b d e n c:Nat} {h:Hd} {a:Option Addr} {l:List Pt} {v:Vc} (s:RS w W b d e h a n c l v) (u:Vc):∃V,(stS 36 (.pointer (some ⟨e,0,none⟩)) (.agg u.cs)).run prog W=.ok () V∧RS w V b d e h a n c l u:=by
 obtain⟨V,sV,rV,gV⟩:=s.root.vst (v:=u);exact⟨V,sV,s.var.keptBut gV (by simpa using s.be),s.out.keptBut gV (by simpa using s.de),rV,s.sl.keptZ s.root (by rw[Row.csize,lenV];omega) gV,gro s.bel gV s.he s.bel.size,s.hb,s.hd,s.he,s.be,s.de⟩
theorem RS.tell {w W:World} {b d e n c:Nat} {h:Hd} {a:Option Addr} {l:List Pt} {v:Vc} (s:RS w W b d e h a n c l v):∃V,(stS 36 (.pointer (some ⟨d,0,none⟩)) (.agg v.cs)).run prog W=.ok () V∧RvAt V d 36 v.cs∧Below w.heap.size w V:=by
 obtain⟨V,sV,rV,gV⟩:=s.out.vst (v:=v);exact⟨V,sV,rV,gro s.bel gV s.hd s.bel.size⟩
end S12
end
section
namespace S12
open Go.RowKit
theorem _root_.Go.Proofs.YtlchejbggnbccaaGreat.PAt.rput {W:World} {g c i o q:Nat} {tv:TypeId} {ks':List (Option IntKind)} {l:List Pt} {p:Pt} (h:PAt W g c l) (hp:l[i]?=some p) (s:Row ks') (hk:(kdP.drop o).take ks'.length=ks') (hl:o+ks'.length≤kdP.length) (hi:(prog.info? tv).map (·.size)=some ks'.length) (hq:q=i*77+o) :
  ∃W',(stS tv (.pointer (some ⟨g,q,none⟩)) (.agg s.cs)).run prog W=.ok () W'∧PAt W' g c (l.set i (p.put o s hk hl))∧W.grownBy W' (some g):=by
 obtain⟨cur,hb,h1,h2,h3,h4⟩:=h;subst hq;have hil:i<l.length:=(List.getElem?_eq_some_iff.1 hp).1;have hss:s.cs.size=ks'.length:=s.csize;have hsl:s.cl.length=ks'.length:=s.len;have hl':=hl;rw[lenP] at hl';have hs:=z_A (ty:=tv) (o:=i*77+o) (cs:=s.cs) hb (by rw[hss];exact hi) (by omega) s.one'
 refine⟨_,hs,⟨_,hb.set,by rw[List.length_set];exact h1,h2,by simp[hss,h3];omega,?_⟩,⟨rfl,rfl,rfl,by simp,fun k hk hne=>setRow_other W g k _ (fun e=>hne (by rw[e]))⟩⟩;have e:(l.set i (p.put o s hk hl)).length=l.length:=List.length_set ..;refine z_aR (by simp[hss,h3];omega) fun t ht=>?_;rw[e] at ht
 show ((cur.toList.take (i*77+o)++s.cs.toList++cur.toList.drop (i*77+o+s.cs.size)))[t]?=_
 rw[hss,List.getElem?_set];have hcl:cur.toList.length=c*77:=by rw[Array.length_toList,h3]
 have e1:(cur.toList.take (i*77+o)).length=i*77+o:=by rw[List.length_take];omega
 have e2:s.cs.toList=s.cl:=by simp[Row.cs]
 rw[e2];by_cases hti:i=t / 77
 ·rw[if_pos hti,if_pos hil]
  show _=(p.put o s hk hl).cl[t%77]?
  rw[p.put_get];by_cases h0:t<i*77+o
  ·rw[List.append_assoc,List.getElem?_append_left (by rw[e1];exact h0),List.getElem?_take,if_pos h0,if_neg (by omega),v_a h4 ht,← hti,hp];rfl
  ·by_cases h5:t<i*77+o+ks'.length
   ·rw[List.getElem?_append_left (by rw[List.length_append,e1,hsl];omega),List.getElem?_append_right (by rw[e1];omega),e1,if_pos (by omega)];rw[show t-(i*77+o)=t%77-o by omega]
   ·rw[List.getElem?_append_right (by rw[List.length_append,e1,hsl];omega),List.length_append,e1,hsl,List.getElem?_drop,if_neg (by omega)];rw[show i*77+o+ks'.length+(t-(i*77+o+ks'.length))=t by omega,v_a h4 ht,← hti,hp];rfl
 ·rw[if_neg hti,← v_a h4 ht];by_cases h0:t<i*77+o
  ·rw[List.append_assoc,List.getElem?_append_left (by rw[e1];exact h0),List.getElem?_take,if_pos h0]
  ·rw[List.getElem?_append_right (by rw[List.length_append,e1,hsl];omega),List.length_append,e1,hsl,List.getElem?_drop];rw[show i*77+o+ks'.length+(t-(i*77+o+ks'.length))=t by omega]
theorem _root_.Go.Proofs.YtlchejbggnbccaaGreat.SlAt.part {W:World} {b o n c j m:Nat} {l:List Pt} {t:TypeId} {ks':List (Option IntKind)} {q:Row ks'} (h:SlAt W (some ⟨b,o,none⟩) n c l) {i:Nat} {x:Pt} (hx:l[i]?=some x) (e:q.cl=(x.cl.drop j).take m) (hn:ks'.length=m) (hj:j+m≤77) {d:TypeDesc} (hu:prog.underlying t=some d) (hr:d.isRow=true) (hi:(prog.info? t).map (·.size)=some m) :
  (ldS t (.pointer (some ⟨b,o+i*77+j,none⟩))).run prog W=.ok (.agg q.cs) W:=
 run_loadAt_mid W b (o+i*77+j) t q.cs.toList _ (fun k v hv=>by
  have hq:=Row.idx hv;have hk:k<m:=by rw[←hn,← q.len];exact (List.getElem?_eq_some_iff.1 hq).1
  have:=h.cell hx (v_b (r:=x) (q:=q) e hq) (by omega);rw[←Nat.add_assoc] at this;exact this) hu hr (by rw[Array.length_toList,Row.csize,hn];exact hi)
theorem _root_.Go.Proofs.YtlchejbggnbccaaGreat.PA.lt {W:World} {a:Option Addr} {n c:Nat} {l:List Pt} (h:PA W a n c l):∀g,blk a=some g→g<W.heap.size:=by
 intro g hg;cases a with
 | none=>cases hg
 | some x=>
  obtain⟨g',rfl,hp⟩:=h.pat x rfl;cases hg;exact hp.lt
theorem _root_.Go.Proofs.YtlchejbggnbccaaGreat.PA.kept {W V:World} {a:Option Addr} {n c:Nat} {l:List Pt} {row:Option Nat} (h:PA W a n c l) (g:W.grownBy V row) (hne:∀b,blk a=some b→some b≠row):PA V a n c l:=
 ⟨h.len,h.nil,fun x e=>by
  obtain⟨b,rfl,hp⟩:=h.pat x e;exact⟨b,rfl,hp.keptBut g (hne b (by rw[e];rfl))⟩⟩
theorem _root_.Go.Proofs.YtlchejbggnbccaaGreat.PA.below {W V:World} {a:Option Addr} {n c:Nat} {l:List Pt} (h:PA W a n c l) (k:Below W.heap.size W V):PA V a n c l:=
 h.kept (z_q k none) (fun b _=>by simp)
/-! ### lists changed one after another -/
/-! ### a tree's head -/
theorem z_iz {ks':List (Option IntKind)} (h:Hd) (x:Value) (o:Nat) (s:Row ks') (hk:(kdH.drop o).take ks'.length=ks') (hl:o+ks'.length≤kdH.length) :
  ((trc h x).toList.take o++s.cs.toList++(trc h x).toList.drop (o+s.cs.size)).toArray=trc (h.put o s hk hl) x:=by
 have h1:=h.len;have e2:s.cs.toList=s.cl:=by simp[Row.cs]
 rw[lenH] at h1 hl;unfold trc Row.put;rw[e2,s.csize];simp only;rw[List.take_append_of_le_length (by omega),List.drop_append_of_le_length (by omega)];simp
theorem _root_.Go.Proofs.YtlchejbggnbccaaGreat.RvAt.tput {W:World} {b o:Nat} {tv:TypeId} {ks':List (Option IntKind)} {h:Hd} {x:Value} (hb:RvAt W b 39 (trc h x)) (s:Row ks') (hk:(kdH.drop o).take ks'.length=ks') (hl:o+ks'.length≤kdH.length) (hi:(prog.info? tv).map (·.size)=some ks'.length) :
  ∃W',(stS tv (.pointer (some ⟨b,o,none⟩)) (.agg s.cs)).run prog W=.ok () W'∧RvAt W' b 39 (trc (h.put o s hk hl) x)∧W.grownBy W' (some b):=by
 have hl':=hl;rw[lenH] at hl';have hs:=z_A (ty:=tv) (o:=o) (cs:=s.cs) hb (by rw[Row.csize];exact hi) (by rw[Row.csize,z_c];omega) s.one';rw[z_iz h x o s hk hl] at hs;exact⟨_,hs,hb.set,z_m _ _ _⟩
theorem z_fH (h:Hd) (x:Value) {j:Nat} {v:Value} (hf:∀k,kdH[j]?=some k→Fit k v) (hj:j<16):((trc h x).toList.set j v).toArray=trc (h.set j v hf) x:=by
 have h1:=h.len;rw[lenH] at h1;unfold trc Row.set;simp only;rw[List.set_append_left _ _ (by omega)]
theorem _root_.Go.Proofs.YtlchejbggnbccaaGreat.RvAt.tset1 {W:World} {b j:Nat} {tv:TypeId} {v:Value} {h:Hd} {x:Value} (hb:RvAt W b 39 (trc h x)) (hi:(prog.info? tv).map (·.size)=some 1) (hj:j<16) (hv:v.oneCell'=true) (hf:∀k,kdH[j]?=some k→Fit k v) :
  ∃W',(stS tv (.pointer (some ⟨b,j,none⟩)) v).run prog W=.ok () W'∧RvAt W' b 39 (trc (h.set j v hf) x)∧W.grownBy W' (some b):=by
 have hs:=hb.st1 hi (k:=j) (by rw[z_c];omega) hv;rw[z_fH h x hf hj] at hs;exact⟨_,hs,hb.set,z_m _ _ _⟩
theorem hq8:(kdH.drop 8).take kdV.length=kdV:=rfl
theorem hl8:8+kdV.length≤kdH.length:=by decide
theorem hq12:(kdH.drop 12).take kdT.length=kdT:=rfl
theorem hl12:12+kdT.length≤kdH.length:=by decide
theorem kh7:kdH[7]?=some (some .u16):=rfl
theorem kh6:kdH[6]?=some none:=rfl
theorem z_lV:(prog.info? 33).map (·.size)=some 1:=by kernel_rfl
theorem st16 (x y:Value):Instr.storeAt 33 x y=stS 33 x y:=rfl
def _root_.Go.Proofs.YtlchejbggnbccaaGreat.Row.setH {ks:List (Option IntKind)} (r:Row ks) (j:Nat) (n:Int):Row ks:=
 if h:ks[j]?=some (some .u16)∧(Lit.int .u16 n).wf=true then r.set j (.int .u16 n) (z_z h.1 h.2) else r
theorem _root_.Go.Proofs.YtlchejbggnbccaaGreat.Row.setH_is {ks:List (Option IntKind)} (r:Row ks) {j:Nat} {n:Int} (h:ks[j]?=some (some .u16)) (hw:(Lit.int .u16 n).wf=true):r.setH j n=r.set j (.int .u16 n) (z_z h hw):=by
 unfold Row.setH;rw[dif_pos ⟨h,hw⟩]
theorem _root_.Go.Proofs.YtlchejbggnbccaaGreat.Row.setH_get {ks:List (Option IntKind)} (r:Row ks) {j:Nat} {n:Int} (h:ks[j]?=some (some .u16)) (hw:(Lit.int .u16 n).wf=true) (i:Nat):(r.setH j n).cl[i]?=if i=j then some (.int .u16 n) else r.cl[i]?:=by
 rw[r.setH_is h hw];exact r.set_get _ (List.getElem?_eq_some_iff.1 h).1 i
theorem _root_.Go.Proofs.YtlchejbggnbccaaGreat.RvAt.tsetH {W:World} {b:Nat} {h:Hd} {x:Value} (hb:RvAt W b 39 (trc h x)) {n:Int} (hw:(Lit.int .u16 n).wf=true) :
  ∃W',(stS 33 (.pointer (some ⟨b,7,none⟩)) (.int .u16 n)).run prog W=.ok () W'∧RvAt W' b 39 (trc (h.setH 7 n) x)∧W.grownBy W' (some b):=by
 rw[h.setH_is kh7 hw];exact hb.tset1 z_lV (by omega) rfl _
theorem _root_.Go.Proofs.YtlchejbggnbccaaGreat.RvAt.tsetB {W:World} {b:Nat} {h:Hd} {x:Value} (hb:RvAt W b 39 (trc h x)) (y:Bool) :
  ∃W',(stS 4 (.pointer (some ⟨b,6,none⟩)) (.bool y)).run prog W=.ok () W'∧RvAt W' b 39 (trc (h.setB 6 kh6 y) x)∧W.grownBy W' (some b):=hb.tset1 u_z.1 (by omega) rfl _
end S12
end
section
namespace S12
open Go.RowKit
def telP (h:Hd) (p:Pt):Pt:=(p.put 32 (desV h (rOf h) p) kq32 kl32).put 40 (desT h (uOf h)) kq40 kl40
def outB (p:Pt):Bool:=!((pri p).eq (dsg p)) || !((priT p).eq (dsgT p))
def heaN (h:Hd) (r:Bool) (p:Pt):Int:=if r=true then 3 else if bet (dsg p) (pri p)=true then 4 else if owB h p=true then 2 else 1
theorem z_eC (h:Hd) (r:Bool) (p:Pt):(Lit.int .i64 (heaN h r p)).wf=true:=by
 unfold heaN
 (repeat' split)<;>decide
def wanN (h:Hd) (r:Bool) (p:Pt):Int:=if p.nm 29=1 then 4 else if p.nm 29=2 then 4 else if p.nm 29=3 then heaN h r p else 0
theorem x_z (h:Hd) (r:Bool) (p:Pt):(Lit.int .i64 (wanN h r p)).wf=true:=by
 unfold wanN
 (repeat' split)<;>first|exact z_eC h r p | decide
def updB (h:Hd) (r:Bool) (p:Pt):Bool:=if p.nm 29=1 then true else if p.nm 29=2 then p.bt 28 || outB p else if p.nm 29=3 then decide (heaN h r p=4) else p.bt 28
def asgP (h:Hd) (r:Bool) (p:Pt):Pt:=(((p.setB 21 kb21 false).setB 22 kb22 true).setN 31 kn31 (wanN h r p) (x_z h r p)).setB 28 kb28 (updB h r p)
def selP (h:Hd) (r:Bool) (p:Pt):Pt:=asgP h r (telP h p)
def isK (k:Int) (i:Nat):Bool:=decide ((i:Int)=k)
def ridN (h:Hd) (l:List Pt):Int:=if rooK h l=-1 then 0 else (gtP l (rooK h l).toNat).nm 0
theorem z_aE (h:Hd) (l:List Pt):(Lit.int .u16 (ridN h l)).wf=true:=by
 unfold ridN
 split
 ·decide
 ·exact (gtP l (rooK h l).toNat).nwf (j:=0) rfl
def rtmT (h:Hd) (l:List Pt):Tm:=if rooK h l=-1 then tOfH h else oldT (priT (gtP l (rooK h l).toNat))
def hdS (h:Hd) (l:List Pt):Hd:=((h.put 8 (rooV h l) hq8 hl8).setH 7 (ridN h l)).put 12 (rtmT h l) hq12 hl12
def selL (h:Hd) (l:List Pt):List Pt:=l.mapIdx fun i p=>selP (hdS h l) (isK (rooK h l) i) p
/-! ### cells -/
theorem z_bI (h:Hd) (l:List Pt) {j:Nat} (hj:j<7):(hdS h l).cl[j]?=h.cl[j]?:=by
 unfold hdS;rw[Row.put_get,if_neg (by rw[lenT];omega),Row.setH_get _ kh7 (z_aE h l),if_neg (by omega),Row.put_get,if_neg (by rw[lenV];omega)]
theorem u_S {ks ks':List (Option IntKind)} {r:Row ks} {q:Row ks'} {o:Nat} (hl:o+ks'.length≤ks.length) (h:∀j,j<ks'.length→r.cl[o+j]?=q.cl[j]?):(r.cl.drop o).take ks'.length=q.cl:=by
 have h1:=r.len;have h2:=q.len;refine List.ext_getElem? fun j=>?_;rw[List.getElem?_take]
 split
 ·rename_i hj
  rw[List.getElem?_drop,h j hj]
 ·rw[List.getElem?_eq_none (by omega)]
theorem u_B (h:Hd) (l:List Pt):rOf (hdS h l)=rooV h l:=Row.ext' (u_S (ks':=kdV) (o:=8) hl8 (fun j hj=>by
 rw[lenV] at hj;unfold hdS;rw[Row.put_get,if_neg (by omega),Row.setH_get _ kh7 (z_aE h l),if_neg (by omega),Row.put_get,if_pos (by rw[lenV];omega),Nat.add_sub_cancel_left]))
theorem z_ik (h:Hd) (l:List Pt):uOf (hdS h l)=rtmT h l:=Row.ext' (u_S (ks':=kdT) (o:=12) hl12 (fun j hj=>by
 rw[lenT] at hj;unfold hdS;rw[Row.put_get,if_pos (by rw[lenT];omega),Nat.add_sub_cancel_left]))
theorem z_il (h:Hd) (l:List Pt):(hdS h l).nm 7=ridN h l:=by
 have:(hdS h l).cl[7]?=some (.int .u16 (ridN h l)):=by
  unfold hdS;rw[Row.put_get,if_neg (by omega),Row.setH_get _ kh7 (z_aE h l),if_pos rfl]
 unfold Row.nm;rw[this]
theorem x_o (h:Hd) (p:Pt) (i:Nat):(telP h p).cl[i]?=if 40≤i∧i<44 then (desT h (uOf h)).cl[i-40]? else if 32≤i∧i<36 then (desV h (rOf h) p).cl[i-32]? else p.cl[i]?:=by
 unfold telP;rw[Row.put_get,Row.put_get,lenV,lenT]
theorem z_bW (h:Hd) (r:Bool) (p:Pt) (i:Nat):(asgP h r p).cl[i]?=if i=28 then some (.bool (updB h r p)) else if i=31 then some (.int .i64 (wanN h r p)) else if i=22 then some (.bool true) else if i=21 then some (.bool false) else p.cl[i]?:=by
 unfold asgP;rw[Row.setB_get,Row.setN_get,Row.setB_get,Row.setB_get]
def still (i:Nat):Prop:=i≠21∧i≠22∧i≠28∧i≠31∧(i<32∨36≤i)∧(i<40∨44≤i)
theorem x_J (h:Hd) (p:Pt) {i:Nat} (hi:(i<32∨36≤i)∧(i<40∨44≤i)):(telP h p).cl[i]?=p.cl[i]?:=by
 rw[x_o,if_neg (by omega),if_neg (by omega)]
theorem u_q {p q:Pt} {o n:Nat} (hh:∀j,j<n→p.cl[o+j]?=q.cl[o+j]?):(p.cl.drop o).take n=(q.cl.drop o).take n:=by
 refine List.ext_getElem? fun j=>?_;rw[List.getElem?_take,List.getElem?_take]
 split
 ·rename_i hj
  rw[List.getElem?_drop,List.getElem?_drop,hh j hj]
 ·rfl
theorem z_aa {p q:Pt} (hh:∀j,j<4→p.cl[36+j]?=q.cl[36+j]?):pri p=pri q:=Row.ext' (u_q hh)
theorem z_eX {p q:Pt} (hh:∀j,j<4→p.cl[32+j]?=q.cl[32+j]?):dsg p=dsg q:=Row.ext' (u_q hh)
theorem v_m {p q:Pt} (hh:∀j,j<4→p.cl[44+j]?=q.cl[44+j]?):priT p=priT q:=Row.ext' (u_q hh)
theorem z_eZ {p q:Pt} (hh:∀j,j<4→p.cl[40+j]?=q.cl[40+j]?):dsgT p=dsgT q:=Row.ext' (u_q hh)
theorem z_cO (h:Hd) (p:Pt):dsg (telP h p)=desV h (rOf h) p:=Row.ext' (u_S (ks':=kdV) (o:=32) kl32 (fun j hj=>by
 rw[lenV] at hj;rw[x_o,if_neg (by omega),if_pos (by omega),Nat.add_sub_cancel_left]))
theorem z_bi (h:Hd) (p:Pt):dsgT (telP h p)=desT h (uOf h):=Row.ext' (u_S (ks':=kdT) (o:=40) kl40 (fun j hj=>by
 rw[lenT] at hj;rw[x_o,if_pos (by omega),Nat.add_sub_cancel_left]))
theorem z_cN (h:Hd) (p:Pt):pri (telP h p)=pri p:=z_aa fun j hj=>x_J h p (by omega)
theorem z_bg (h:Hd) (p:Pt):priT (telP h p)=priT p:=v_m fun j hj=>x_J h p (by omega)
theorem z_bh (h:Hd) (p:Pt) {i:Nat} (hi:(i<32∨36≤i)∧(i<40∨44≤i)):(telP h p).nm i=p.nm i:=y_C (x_J h p hi)
theorem z_hZ (h:Hd) (p:Pt) {i:Nat} (hi:(i<32∨36≤i)∧(i<40∨44≤i)):(telP h p).bt i=p.bt i:=u_O (x_J h p hi)
theorem z_en {p q:Pt} (hh:∀j,32≤j→j<48→p.cl[j]?=q.cl[j]?):outB p=outB q:=by
 unfold outB;rw[z_aa (p:=p) (q:=q) (fun j hj=>hh _ (by omega) (by omega)),z_eX (p:=p) (q:=q) (fun j hj=>hh _ (by omega) (by omega)),v_m (p:=p) (q:=q) (fun j hj=>hh _ (by omega) (by omega)),z_eZ (p:=p) (q:=q) (fun j hj=>hh _ (by omega) (by omega))]
theorem z_eD {h:Hd} {r:Bool} {p q:Pt} (hh:∀j,32≤j→j<48→p.cl[j]?=q.cl[j]?):heaN h r p=heaN h r q:=by
 unfold heaN owB;rw[z_aa (p:=p) (q:=q) (fun j hj=>hh _ (by omega) (by omega)),z_eX (p:=p) (q:=q) (fun j hj=>hh _ (by omega) (by omega)),y_C (hh 38 (by omega) (by omega))]
end S12
end
section
namespace S12
open Go.RowKit
def kin (p q:Pt):Prop:=∀j,still j→p.cl[j]?=q.cl[j]?
theorem kin.nm {p q:Pt} (h:kin p q) {j:Nat} (hj:still j):p.nm j=q.nm j:=y_C (h j hj)
theorem z_bj:still 0:=by unfold still;omega
theorem z_kL:still 1:=by unfold still;omega
theorem z_cV:still 29:=by unfold still;omega
theorem x_B {j:Nat} (h:j<4):still (36+j):=by unfold still;omega
theorem z_cU {j:Nat} (h:j<4):still (44+j):=by unfold still;omega
theorem kin.add {p q:Pt} (h:kin p q):addV p=addV q:=by
 unfold addV
 apply Row.ext'
 simp only;rw[h.nm z_kL,h.nm (x_B (j:=0) (by omega)),h.nm (x_B (j:=1) (by omega)),h.nm (x_B (j:=2) (by omega)),h.nm (x_B (j:=3) (by omega))]
theorem kin.ow {p q:Pt} {g h:Hd} (k:kin p q) (e:g.nm 0=h.nm 0):owB g p=owB h q:=by
 unfold owB;rw[k.nm (x_B (j:=2) (by omega)),e]
theorem kin.ld {p q:Pt} {g h:Hd} (k:kin p q) (e:g.nm 0=h.nm 0):ldB g p=ldB h q:=by
 unfold ldB;rw[k.nm z_cV,k.ow e]
theorem z_kZ {g h:Hd} (e:g.nm 0=h.nm 0):ownV g=ownV h:=by
 unfold ownV
 apply Row.ext'
 simp only;rw[e]
theorem z_dp {g h:Hd} {l m:List Pt} (e:g.nm 0=h.nm 0) (k:∀i,kin (gtP l i) (gtP m i)):∀i,rtF g l i=rtF h m i
 | 0=>by simp only[rtF];rw[z_kZ e]
 | i+1=>by
  show rtS g l i (rtF g l i)=rtS h m i (rtF h m i)
  rw[z_dp e k i];unfold rtS tkB;rw[(k i).ld e,(k i).add,(k i).nm z_bj,(k _).nm z_bj]
theorem z_aC {g h:Hd} {l m:List Pt} (e:g.nm 0=h.nm 0) (hl:l.length=m.length) (k:∀i,kin (gtP l i) (gtP m i)):rooV g l=rooV h m∧rooK g l=rooK h m:=by
 unfold rooV rooK;rw[z_dp e k,hl];exact⟨rfl,rfl⟩
theorem z_gb {g h:Hd} {l m:List Pt} (e:g.nm 0=h.nm 0) (hl:l.length=m.length) (k:∀i,kin (gtP l i) (gtP m i)):ridN g l=ridN h m:=by
 unfold ridN;rw[(z_aC e hl k).2,(k _).nm z_bj]
theorem z_fT {g h:Hd} {l m:List Pt} (e:g.nm 0=h.nm 0) (et:tOfH g=tOfH h) (hl:l.length=m.length) (k:∀i,kin (gtP l i) (gtP m i)):rtmT g l=rtmT h m:=by
 unfold rtmT;rw[(z_aC e hl k).2,et,v_m (p:=gtP l (rooK h m).toNat) (q:=gtP m (rooK h m).toNat) (fun j hj=>k _ _ (z_cU hj))]
theorem z_eG {l:List Pt} {i:Nat} (h:¬ i<l.length):gtP l i=zeroP:=by
 unfold gtP;rw[List.getD_eq_getElem?_getD,List.getElem?_eq_none (by omega)];rfl
theorem z_jR {f:Nat→Pt→Pt} {l:List Pt} (hf:∀i p,kin (f i p) p):∀i,kin (gtP (l.mapIdx f) i) (gtP l i):=by
 intro i;by_cases hi:i<l.length
 ·rw[z_eH hi];exact hf i _
 ·rw[z_eG hi,z_eG (by simpa using hi)];exact fun j _=>rfl
theorem z_bS (H:Hd) (v:Vc) {p q:Pt} (k:kin p q):desV H v p=desV H v q:=by
 unfold desV
 apply Row.ext'
 simp only;rw[k.nm z_bj]
theorem z_cC (H:Hd) (r:Bool) {p q:Pt} (k:kin p q):wanN H r (telP H p)=wanN H r (telP H q)∧heaN H r (telP H p)=heaN H r (telP H q)∧outB (telP H p)=outB (telP H q)∧(telP H p).nm 29=(telP H q).nm 29:=by
 have e29:(telP H p).nm 29=(telP H q).nm 29:=by rw[z_bh H p (by omega),z_bh H q (by omega),k.nm z_cV]
 have e38:(telP H p).nm 38=(telP H q).nm 38:=by rw[z_bh H p (by omega),z_bh H q (by omega),k.nm (x_B (j:=2) (by omega))]
 have ep:pri (telP H p)=pri (telP H q):=by rw[z_cN,z_cN];exact z_aa fun j hj=>k _ (x_B hj)
 have et:priT (telP H p)=priT (telP H q):=by rw[z_bg,z_bg];exact v_m fun j hj=>k _ (z_cU hj)
 have ed:dsg (telP H p)=dsg (telP H q):=by rw[z_cO,z_cO,z_bS H _ k]
 have eh:heaN H r (telP H p)=heaN H r (telP H q):=by unfold heaN owB;rw[ep,ed,e38]
 refine⟨by unfold wanN;rw[e29,eh],eh,?_,e29⟩;unfold outB;rw[ep,ed,et,z_bi,z_bi]
theorem z_bl (H:Hd) (r:Bool) (p:Pt) (i:Nat):(selP H r p).cl[i]?=if i=28 then some (.bool (updB H r (telP H p))) else if i=31 then some (.int .i64 (wanN H r (telP H p))) else if i=22 then some (.bool true) else if i=21 then some (.bool false) else (telP H p).cl[i]?:=by
 unfold selP;rw[z_bW]
theorem z_fQ (H:Hd) (r:Bool) {p q:Pt} (k:kin p q) (hu:updB H r (telP H p)=updB H r (telP H q)):selP H r p=selP H r q:=by
 refine Row.same fun i _=>?_;rw[z_bl,z_bl,(z_cC H r k).1,hu];by_cases h1:i=28
 ·simp only[if_pos h1]
 ·by_cases h2:i=31
  ·simp only[if_neg h1,if_pos h2]
  ·by_cases h3:i=22
   ·simp only[if_neg h1,if_neg h2,if_pos h3]
   ·by_cases h4:i=21
    ·simp only[if_neg h1,if_neg h2,if_neg h3,if_pos h4]
    ·simp only[if_neg h1,if_neg h2,if_neg h3,if_neg h4];rw[x_o,x_o];by_cases h5:40≤i∧i<44
     ·simp only[if_pos h5]
     ·by_cases h6:32≤i∧i<36
      ·simp only[if_neg h5,if_pos h6];rw[z_bS H _ k]
      ·simp only[if_neg h5,if_neg h6];exact k i (by unfold still;omega)
theorem z_lo {g h:Hd} (h1:∀j,j<7→g.cl[j]?=h.cl[j]?) (h2:g.nm 7=h.nm 7) (h3:rOf g=rOf h) (h4:uOf g=uOf h):g=h:=by
 have q3:=congrArg Row.cl h3;have q4:=congrArg Row.cl h4;simp only[rOf,uOf] at q3 q4;refine Row.same fun j hj=>?_;rw[lenH] at hj;by_cases a1:j<7
 ·exact h1 j a1
 ·by_cases a2:j=7
  ·subst a2;rw[g.num kh7,h.num kh7,h2]
  ·by_cases a3:j<12
   ·have:=congrArg (fun x=>x[j-8]?) q3;simp only[List.getElem?_take,if_pos (show j-8<4 by omega),List.getElem?_drop,show 8+(j-8)=j by omega] at this;exact this
   ·have:=congrArg (fun x=>x[j-12]?) q4;simp only[List.getElem?_take,if_pos (show j-12<4 by omega),List.getElem?_drop,show 12+(j-12)=j by omega] at this;exact this
/-! ### a step -/
def anyR (l:List Pt):Bool:=l.any fun p=>p.bt 21
def stpB (h:Hd) (l:List Pt):Bool:=!(h.bt 6) || anyR l
def stpH (h:Hd) (l:List Pt):Hd:=if stpB h l=true then hdS (h.setB 6 kh6 true) l else h
def stpL (h:Hd) (l:List Pt):List Pt:=if stpB h l=true then selL (h.setB 6 kh6 true) l else l
def noP (p:Pt):Pt:=p.setN 31 kn31 0 wi0
theorem z_ih (p:Pt):kin (noP p) p:=fun j hj=>by
 unfold noP;rw[Row.setN_get,if_neg hj.2.2.2.1]
theorem z_ld (H:Hd) (r:Bool) (p:Pt):selP H r (noP p)=selP H r p:=by
 have k:=z_ih p;obtain⟨e1,e2,e3,e4⟩:=z_cC H r k;refine z_fQ H r k ?_;have e28:(telP H (noP p)).bt 28=(telP H p).bt 28:=by
  rw[z_hZ H _ (by omega),z_hZ H _ (by omega)];exact u_O (by unfold noP;rw[Row.setN_get,if_neg (by omega)])
 unfold updB;rw[e2,e3,e4,e28]
theorem z_ii (h:Hd) (l:List Pt):hdS h (l.map noP)=hdS h l∧selL h (l.map noP)=selL h l:=by
 have k:∀i,kin (gtP (l.map noP) i) (gtP l i):=by
  have:=z_jR (f:=fun _ p=>noP p) (l:=l) (fun i p=>z_ih p);have e:l.mapIdx (fun _ p=>noP p)=l.map noP:=by
   refine List.ext_getElem? fun j=>?_;rw[List.getElem?_mapIdx,List.getElem?_map]
  rw[e] at this;exact this
 have hl:(l.map noP).length=l.length:=by simp
 obtain⟨e1,e2⟩:=z_aC (g:=h) (h:=h) rfl hl k;have eh:hdS h (l.map noP)=hdS h l:=by
  refine z_lo (fun j hj=>by rw[z_bI _ _ hj,z_bI _ _ hj]) ?_ ?_ ?_
  ·rw[z_il,z_il,z_gb rfl hl k]
  ·rw[u_B,u_B,e1]
  ·rw[z_ik,z_ik,z_fT rfl rfl hl k]
 refine⟨eh,?_⟩;unfold selL;rw[eh,e2];refine List.ext_getElem? fun j=>?_;rw[List.getElem?_mapIdx,List.getElem?_mapIdx,List.getElem?_map];cases l[j]? with
 | none=>rfl
 | some p=>
  simp only[Option.map_some];rw[z_ld]
/-! ### one root, the best -/
end S12
end
section
namespace S12
open Go.RowKit
attribute [local go_sem ↓] ldP stP ldT stT ldV stV ldTm stTm eqgV neqV eqgTm neqTm alP
attribute [local go_sem] z_l
theorem z_gO (p:Pt) (w:World) :
  Calls prog 226 #[.agg p.cs] w fun r w'=>r=.returned (.bool (outB p))∧Below w.heap.size w w':=by
 obtain⟨W,hW,r0,bW,zW⟩:=y_T w p;have c1:=r0.ppri;have c2:=r0.pdsg;have c3:=r0.ppriT;have c4:=r0.pdsT12;have H:=hd1 bW;clear r0 bW zW;unfold outB;cases h1:(pri p).eq (dsg p)
 ·go_enter func226,ntmps226;go_wp2
  go_ret;exact⟨rfl,H.out⟩
 ·go_enter func226,ntmps226;go_wp2
  go_ret;exact⟨rfl,H.out⟩
theorem z_ez (h:Hd) (a:Option Addr) (n c i:Nat) (k:Int) (l:List Pt) (w:World) (hs:SlAt w a n c l) (hn:n≤1000) (hi:i<n) :
  Calls prog 227 #[.agg (trc h (.slice a n c)),.int .i64 (i:Int),.int .i64 k] w fun r w'=>r=.returned (.int .i64 (heaN h (isK k i) (gtP l i)))∧Below w.heap.size w w':=by
 obtain⟨W,hW,r0,bW,zW⟩:=y_S w h (.slice a n c);have hin0:(0:Int)≤(i:Int):=by omega
 have hin1:(i:Int)<(n:Int):=by omega
 obtain⟨b,o,rfl⟩:=hs.some' (by omega);have c16:=r0.t16;have hl:=z_k (l:=l) (i:=i) (by rw[hs.len];exact hi);have lp:=(hs.below bW).ld hl;obtain⟨p,hp⟩:∃p,gtP l i=p:=⟨_,rfl⟩;rw[hp] at lp ⊢;obtain⟨V,sV,rV,bV,zV⟩:=z_bC W p;have c32:=rV.pdsg;have c36:=rV.ppri;have H:=hd3 (r0.below bV) (z_a bW bV) rV;clear hs r0 bW zW rV bV zV hl hp hi;by_cases h1:(i:Int)=k
 ·subst h1;have e:heaN h (isK (i:Int) i) p=3:=by simp[heaN,isK]
  rw[e];go_enter func227,ntmps227;go_wp2
  go_ret;exact⟨rfl,H.out.2.1⟩
 ·have hb:((i:Int)==k)=false:=by simpa using h1
  cases h2:bet (dsg p) (pri p)
  ·cases h3:owB h p
   ·have e:heaN h (isK k i) p=1:=by simp[heaN,isK,h1,h2,h3]
    rw[e];have P1:Hid (∀V:World,_):=fun V=>y_f (dsg p) (pri p) V;have P2:Hid (∀V:World,_):=fun V=>u_r h (.slice (some ⟨b,o,none⟩) n c) p V;rw[h2] at P1;rw[h3] at P2;clear h2 h3 e;go_enter func227,ntmps227
    go_wp2_with fail
    refine (P1.out V).mono ?_;rintro _ V1 ⟨rfl,b1⟩;have H1:=hd1 (z_a H.out.2.1 b1);have l0:=(H.out.1.below b1).tld;have l1:=(H.out.2.2.below b1).pld;clear b1 H c32 c36 sV lp
    go_wp2_with fail
    refine (P2.out V1).mono ?_;rintro _ V2 ⟨rfl,b2⟩;have H2:=hd1 (z_a H1.out b2);clear b2 H1 l0 l1;go_wp2
    go_ret;exact⟨rfl,H2.out⟩
   ·have e:heaN h (isK k i) p=2:=by simp[heaN,isK,h1,h2,h3]
    rw[e];have P1:Hid (∀V:World,_):=fun V=>y_f (dsg p) (pri p) V;have P2:Hid (∀V:World,_):=fun V=>u_r h (.slice (some ⟨b,o,none⟩) n c) p V;rw[h2] at P1;rw[h3] at P2;clear h2 h3 e;go_enter func227,ntmps227
    go_wp2_with fail
    refine (P1.out V).mono ?_;rintro _ V1 ⟨rfl,b1⟩;have H1:=hd1 (z_a H.out.2.1 b1);have l0:=(H.out.1.below b1).tld;have l1:=(H.out.2.2.below b1).pld;clear b1 H c32 c36 sV lp
    go_wp2_with fail
    refine (P2.out V1).mono ?_;rintro _ V2 ⟨rfl,b2⟩;have H2:=hd1 (z_a H1.out b2);clear b2 H1 l0 l1;go_wp2
    go_ret;exact⟨rfl,H2.out⟩
  ·have e:heaN h (isK k i) p=4:=by simp[heaN,isK,h1,h2]
   rw[e];have P1:Hid (∀V:World,_):=fun V=>y_f (dsg p) (pri p) V;rw[h2] at P1;clear h2 e;go_enter func227,ntmps227
   go_wp2_with fail
   refine (P1.out V).mono ?_;rintro _ V1 ⟨rfl,b1⟩;have H1:=hd1 (z_a H.out.2.1 b1);clear b1 H c32 c36 sV lp;go_wp2
   go_ret;exact⟨rfl,H1.out⟩
end S12
end
section
namespace S12
open Go.RowKit
structure TS (w W:World) (b:Nat) (h:Hd) (a:Option Addr) (n c:Nat) (l:List Pt):Prop where
 var:RvAt W b 39 (trc h (.slice a n c))
 ps:PA W a n c l
 gr:w.grownBy W (blk a)
 hb:w.heap.size≤b
 hg:∀g,blk a=some g→g<w.heap.size
theorem TS.below {w W V:World} {b n c:Nat} {h:Hd} {a:Option Addr} {l:List Pt} (s:TS w W b h a n c l) (k:Below W.heap.size W V):TS w V b h a n c l:=
 ⟨s.var.below k,s.ps.below k,z_n s.gr (z_q k _),s.hb,s.hg⟩
theorem TS.go {w W V:World} {b n c g:Nat} {h:Hd} {a:Option Addr} {l l':List Pt} (s:TS w W b h a n c l) (ha:a=some ⟨g,0,none⟩) (hp:PAt V g c l') (hl:l'.length=l.length) (k:W.grownBy V (some g)):TS w V b h a n c l':=by
 subst ha;have:=s.hg g rfl;exact⟨s.var.keptBut k (by have:=s.hb;simp;omega),⟨hl.trans s.ps.len,(fun e=>by cases e),fun x e=>by cases e;exact⟨g,rfl,hp⟩⟩,z_n s.gr k,s.hb,s.hg⟩
theorem TS.kept {w W V:World} {b n c t:Nat} {ty:TypeId} {cs:Array Value} {h:Hd} {a:Option Addr} {l:List Pt} (s:TS w W b h a n c l) (r:RvAt W t ty cs) (ht:w.heap.size≤t) {g:Nat} (ha:a=some ⟨g,0,none⟩) (k:W.grownBy V (some g)):RvAt V t ty cs:=by
 subst ha;have:=s.hg g rfl;exact r.keptBut k (by simp;omega)
theorem z_lC (h:Hd) (p:Pt) (w:World):(bdS 36 #[(0,.int .u64 (h.nm 8)),(1,.int .u32 (h.nm 9)),(2,.int .u64 (h.nm 0)),(3,.int .u16 (p.nm 0))]).run prog w=.ok (.agg (desV h (rOf h) p).cs) w:=by
 have e0:(rOf h).nm 0=h.nm 8:=h.nm_sub 8 4 0 (by omega);have e1:(rOf h).nm 1=h.nm 9:=h.nm_sub 8 4 1 (by omega)
 show _=Result.ok (Value.agg #[.int .u64 ((rOf h).nm 0),.int .u32 ((rOf h).nm 1),.int .u64 (h.nm 0),.int .u16 (p.nm 0)]) w
 rw[e0,e1]
 kernel_rfl
theorem z_er (W:World) (t:Tm):∃W',(stS 24 (.pointer (some ⟨W.heap.size,0,none⟩)) (.agg t.cs)).run prog (W.alloc (.cells #[.int .u8 0,.int .u8 0,.int .u8 0,.int .u8 0] 24))=.ok () W'∧RvAt W' W.heap.size 24 t.cs∧Below W.heap.size W W'∧W'.heap.size=W.heap.size+1:=
 z_E rtTm W _ t.cs rfl (by rw[Row.csize,lenT]) t.one'
theorem _root_.Go.Proofs.YtlchejbggnbccaaGreat.RvAt.tmld {W:World} {b:Nat} {v:Tm} (hb:RvAt W b 24 v.cs):(ldS 24 (.pointer (some ⟨b,0,none⟩))).run prog W=.ok (.agg v.cs) W:=hb.ld rtTm (by rw[Row.csize,lenT])
theorem kt2:kdT[2]?=some (some .u8):=rfl
theorem z_fe (h:Hd) (t:Tm):t.setU 2 (h.nm 3)=desT h t:=by
 have hw:=wf8 (h.u8 (j:=3) rfl)
 apply Row.ext'
 have e:(t.setU 2 (h.nm 3)).cl=t.cl.set 2 (.int .u8 (h.nm 3)):=by rw[t.setU_is kt2 hw];rfl
 rw[e,z_bY];rfl
attribute [local go_sem ↓] ldP stP ldT stT ldV stV ldTm stTm stU bdV
theorem z_bf (h:Hd) (a:Option Addr) (n c:Nat) (l:List Pt) (w:World) (hs:PA w a n c l) (hn:n≤1000) :
  Calls prog 185 #[.agg (trc h (.slice a n c))] w fun r w'=>r=.returned (.tuple #[])∧PA w' a n c (l.map (telP h))∧w.grownBy w' (blk a):=by
 obtain⟨W,hW,r0,bW,zW⟩:=y_S w h (.slice a n c);have S0:Hid (TS w W w.heap.size h a n c l):=⟨r0,hs.below bW,z_q bW _,Nat.le_refl _,hs.lt⟩;have cU:=r0.tU;obtain⟨W1,s1,r1,b1,z1⟩:=z_er W (uOf h);have S1:=S0.out.below b1;have c3:=S1.var.tnum (j:=3) (k:=.u8) rfl;obtain⟨W2,s2,r2,g2⟩:=r1.setU kt2 (h.u8 (j:=3) rfl);rw[z_fe] at r2;have hlt:∀g,blk a=some g→g<w.heap.size:=hs.lt
 have zz:W.heap.size=w.heap.size+1:=zW;have S2:Hid (TS w W2 w.heap.size h a n c l∧RvAt W2 W.heap.size 24 (desT h (uOf h)).cs∧l.length=n∧w.heap.size≤W.heap.size):=by
  have e:=hlt;have hbel:=z_h (B:=W.heap.size) g2 (by omega) (fun j e=>by cases e;exact Nat.le_refl _);have hbel2:Below W.heap.size W1 W2:=hbel;have kk:∀i,i<W.heap.size→W2.heap[i]?=W1.heap[i]?:=fun i hi=>hbel2.block i hi;refine⟨⟨S1.var.keptBut g2 (by simp;omega),S1.ps.kept g2 (fun b hb=>by have:=hlt b hb;simp;omega),?_,S1.hb,S1.hg⟩,r2,hs.len,by omega⟩
  exact⟨g2.os.trans S1.gr.os,g2.tape.trans S1.gr.tape,g2.output.trans S1.gr.output,Nat.le_trans S1.gr.size g2.size,fun i hi hne=>(g2.block i (Nat.lt_of_lt_of_le hi S1.gr.size) (by simp;omega)).trans (S1.gr.block i hi hne)⟩
 have c16:=S2.out.1.var.t16;obtain⟨tb,htb⟩:∃z,W.heap.size=z:=⟨_,rfl⟩;rw[htb] at s1 s2 S2;clear hs r0 bW zW r1 b1 z1 S1 r2 g2 hlt zz S0;go_enter func185,ntmps185
 go_wp2_with fail
 go_loopw [14] (fun v14 wr=>∃i:Nat,i≤n∧v14=.int .i64 i∧TS w wr w.heap.size h a n c (mapI (fun _=>telP h) l i)∧RvAt wr tb 24 (desT h (uOf h)).cs) (fun v14 _=>n-(intOf v14).toNat)
 case atStart=>exact⟨0,by omega,rfl,by rw[v_u];exact S2.out.1,S2.out.2.1⟩
 case round=>
  obtain⟨i,hi,rfl,hS,hT⟩:=hrel;have hin0:(0:Int)≤(i:Int):=by omega
  by_cases hit:i<n
  ·have hin1:(i:Int)<(n:Int):=by omega
   have hil:i<l.length:=by rw[S2.out.2.2.1];exact hit
   cases a with
   | none=>have:=(hS.ps.nil rfl).1;omega
   | some x=>
   obtain⟨g,rfl,hP⟩:=hS.ps.pat x rfl;have hat:=u_v (f:=fun _=>telP h) hil;obtain⟨V1,e1,P1,g1⟩:=hP.rput hat (desV h (rOf h) (gtP l i)) kq32 kl32 (tv:=36) infoV rfl;have S1:=hS.go rfl P1 (by rw[List.length_set]) g1;have T1:=hS.kept hT S2.out.2.2.2 rfl g1
   have hat2:((mapI (fun _=>telP h) l i).set i ((gtP l i).put 32 (desV h (rOf h) (gtP l i)) kq32 kl32))[i]?=some ((gtP l i).put 32 (desV h (rOf h) (gtP l i)) kq32 kl32):=by
    rw[List.getElem?_set,if_pos rfl,if_pos (by rw[w_Q];exact hil)]
   obtain⟨V2,e2,P2,g2⟩:=P1.rput hat2 (desT h (uOf h)) kq40 kl40 (tv:=24) infoTm rfl;have S2':=S1.go rfl P2 (by rw[List.length_set]) g2;have T2:=S1.kept T1 S2.out.2.2.2 rfl g2
   have hfin:((mapI (fun _=>telP h) l i).set i ((gtP l i).put 32 (desV h (rOf h) (gtP l i)) kq32 kl32)).set i (((gtP l i).put 32 (desV h (rOf h) (gtP l i)) kq32 kl32).put 40 (desT h (uOf h)) kq40 kl40)=mapI (fun _=>telP h) l (i+1):=by
    rw[List.set_set];exact x_f (f:=fun _=>telP h) hil
   rw[hfin] at S2';have J:Hid (TS w V2 w.heap.size h (some ⟨g,0,none⟩) n c (mapI (fun _=>telP h) l (i+1))∧RvAt V2 tb 24 (desT h (uOf h)).cs):=⟨S2',T2⟩;have f16:=hS.var.t16;have q16:=fun z:Later wr=>(hS.var.below z.below).t16;have q8:=fun z:Later wr=>(hS.var.below z.below).tnum (j:=8) (k:=.u64) rfl;have q9:=fun z:Later wr=>(hS.var.below z.below).tnum (j:=9) (k:=.u32) rfl
   have q0:=fun z:Later wr=>(hS.var.below z.below).tnum (j:=0) (k:=.u64) rfl;have p0:=fun z:Later wr=>(hP.below z.below).num hat (j:=0) (k:=.u16) (q:=i*77) rfl rfl;have P0:Hid (TS w wr w.heap.size h (some ⟨g,0,none⟩) n c (mapI (fun _=>telP h) l i)∧PAt wr g c (mapI (fun _=>telP h) l i)∧RvAt wr tb 24 (desT h (uOf h)).cs):=⟨hS,hP,hT⟩;have bb:=z_lC h (gtP l i)
   clear hS hT hP S1 P1 g1 P2 g2 S2' T2 hfin T1 c16 cU c3 e1 e2 hat2
   go_wp2_with fail
   refine wp_region_later_tail 16 (by kernel_rfl) (by kernel_rfl) ?_;simp only[List.take_succ_cons,List.take_zero]
   repeat (go_big_quiet_step (first|exact rfl))
   refine wpQuiet_nil ?_;intro z;simp only[List.drop_succ_cons,List.drop_zero];clear q16 q8 q9 q0 p0 bb J;have hS:=P0.out.1.below z.below;have hP:=P0.out.2.1.below z.below;have hT:=P0.out.2.2.below z.below;obtain⟨V1,e1,P1,g1⟩:=hP.rput hat (desV h (rOf h) (gtP l i)) kq32 kl32 (tv:=36) infoV rfl;have S1:=hS.go rfl P1 (by rw[List.length_set]) g1;have T1:=hS.kept hT S2.out.2.2.2 rfl g1
   have hat2:((mapI (fun _=>telP h) l i).set i ((gtP l i).put 32 (desV h (rOf h) (gtP l i)) kq32 kl32))[i]?=some ((gtP l i).put 32 (desV h (rOf h) (gtP l i)) kq32 kl32):=by
    rw[List.getElem?_set,if_pos rfl,if_pos (by rw[w_Q];exact hil)]
   obtain⟨V2,e2,P2,g2⟩:=P1.rput hat2 (desT h (uOf h)) kq40 kl40 (tv:=24) infoTm rfl;have S2':=S1.go rfl P2 (by rw[List.length_set]) g2;have T2:=S1.kept T1 S2.out.2.2.2 rfl g2
   have hfin:((mapI (fun _=>telP h) l i).set i ((gtP l i).put 32 (desV h (rOf h) (gtP l i)) kq32 kl32)).set i (((gtP l i).put 32 (desV h (rOf h) (gtP l i)) kq32 kl32).put 40 (desT h (uOf h)) kq40 kl40)=mapI (fun _=>telP h) l (i+1):=by
    rw[List.set_set];exact x_f (f:=fun _=>telP h) hil
   rw[hfin] at S2';have J:Hid (TS w V2 w.heap.size h (some ⟨g,0,none⟩) n c (mapI (fun _=>telP h) l (i+1))∧RvAt V2 tb 24 (desT h (uOf h)).cs):=⟨S2',T2⟩;have lt1:=T1.tmld;clear hS hP hT P1 g1 S1 T1 hat2 P2 g2 S2' T2 hfin P0 hat;go_wp2
   go_roundw
   case rel=>exact⟨i+1,by omega,by go_num,J.out.1,J.out.2⟩
   case measure=>simp[intOf];omega
  ·have hin:i=n:=by omega
   subst hin;have hin1:¬ (i:Int)<(i:Int):=by omega
   have e:mapI (fun _=>telP h) l i=l.map (telP h):=by
    have:=u_w (fun _=>telP h) l;rw[S2.out.2.2.1] at this;rw[this];refine List.ext_getElem? fun j=>?_;rw[List.getElem?_mapIdx,List.getElem?_map]
   rw[e] at hS;have F:Hid (PA wr a i c (l.map (telP h))∧w.grownBy wr (blk a)):=⟨hS.ps,hS.gr⟩;clear hS hT e c16 cU c3;go_wp2
   go_returns
   exact⟨rfl,F.out.1,F.out.2⟩
end S12
end
end Go.Proofs.YtlchejbggnbccaaGreat
