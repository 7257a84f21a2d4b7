/-
  Copies of trees: the walks of Copy, of the definition's and of Few. And what follows from it here.
-/
import Derived.Test.YtlchejbggnbccaaGreatPba
import Derived.Laws.BitsAllLaws
import Derived.Deep.RegionHeld3
import Derived.Deep.Cut
import Derived.Deep.CutRange
import Derived.StillTail
namespace Go.Proofs.YtlchejbggnbccaaGreat
set_option linter.unusedVariables false
set_option linter.unusedSimpArgs false
set_option maxRecDepth 4000
set_option maxHeartbeats 40000000
open _root_.Go.Proofs.Tryz
section
open Go.RowKit
theorem Own.base {W:World} {B B':Nat} {v:Value} {l:List Pt} (h:Own W B v l) (hb:B'≤B):Own W B' v l:=by
 rcases h.pat with ⟨rfl,rfl⟩ | ⟨g,c,rfl,hB,hp⟩
 ·exact Own.nil W B'
 ·exact hp.own (by omega)
theorem Own.one {W:World} {B:Nat} {v:Value} {l:List Pt} (h:Own W B v l):v.oneCell'=true:=by
 rcases h.pat with ⟨rfl,rfl⟩ | ⟨g,c,rfl,hB,hp⟩<;>rfl
theorem Own.apart {W:World} {B b:Nat} {v:Value} {l:List Pt} (h:Own W B v l) (hb:b<B):v.ownBlock=none∨v.ownBlock≠some b:=by
 rcases h.pat with ⟨rfl,rfl⟩ | ⟨g,c,rfl,hB,hp⟩
 ·exact Or.inl rfl
 ·refine Or.inr fun e=>?_;simp only[Value.ownBlock,Option.some.injEq] at e;omega
def zeroT:Array Value:=#[.int .u64 0,.int .u8 0,.int .u8 0,.int .u8 0,.int .u8 0,.int .u8 0,.bool false,.int .u16 0,.int .u64 0,.int .u32 0,.int .u64 0,.int .u16 0,.int .u8 0,.int .u8 0,.int .u8 0,.int .u8 0,.slice none 0 0]
theorem y_a:zeroT=trc zeroH (.slice none 0 0):=by kernel_rfl
theorem z_w (w:World) (h:Hd) (x:Value):∃W,(w.alloc (.cells (trc h x) 39)).alloc (.cells #[.int .u64 0,.int .u8 0,.int .u8 0,.int .u8 0,.int .u8 0,.int .u8 0,.bool false,.int .u16 0,.int .u64 0,.int .u32 0,.int .u64 0,.int .u16 0,.int .u8 0,.int .u8 0,.int .u8 0,.int .u8 0,.slice none 0 0] 39)=W∧RvAt W w.heap.size 39 (trc h x)∧RvAt W (w.heap.size+1) 39 (trc zeroH (.slice none 0 0))∧Below w.heap.size w W∧W.heap.size=w.heap.size+2:=by
 obtain⟨A,hA⟩:∃A,w.alloc (.cells (trc h x) 39)=A:=⟨_,rfl⟩;have bA:Below w.heap.size w A:=by rw[←hA];exact (Below.refl _ _).alloc (Nat.le_refl _) _
 have rA:RvAt A w.heap.size 39 (trc h x):=by rw[←hA];exact RvAt.new w _ _
 have zA:A.heap.size=w.heap.size+1:=by rw[←hA];simp
 rw[hA];have bB:Below A.heap.size A (A.alloc (.cells zeroT 39)):=(Below.refl _ _).alloc (Nat.le_refl _) _;refine⟨_,rfl,rA.below bB,?_,z_a bA bB,by simp[zA]⟩;rw[←zA,← y_a];exact RvAt.new A _ _
attribute [local go_sem ↓] ldP stP ldT stT apE st32
def slS (x:Value) (lo hi mx:Option Value):Sem Value:=Instr.sliceAt 37 x lo hi mx
theorem slP (x:Value) (lo hi mx:Option Value):Instr.sliceAt 37 x lo hi mx=slS x lo hi mx:=rfl
theorem SlAw.cut {W:World} {a:Option Addr} {n c:Nat} {l:List Pt} (h:SlAw W a n c l) {m:Nat} (hm:m≤n):SlAw W a m c (l.take m):=by
 refine⟨by rw[List.length_take,h.len];omega,by have:=h.cap;omega,h.max,fun e=>⟨by have:=(h.nil e).1;omega,(h.nil e).2⟩,fun x hx h0=>?_⟩;obtain⟨b,o,e,hc⟩:=h.cells x hx (by omega);refine⟨b,o,e,fun j u hj=>hc j u ?_⟩;rw[z_K] at hj ⊢;rw[List.getElem?_take] at hj
 split at hj
 ·exact hj
 ·cases hj
theorem z_kN (a:Option Addr) (n c m:Nat) (hm:m≤n) (hc:n≤c) (V:World):(slS (.slice a n c) none (some (.int .i64 m)) none).run prog V=.ok (.slice a m c) V:=by
 have hin:(m:Int)≤(c:Int):=by omega
 have hz:=sizeOf74;have hu:prog.underlying 37=some (.slice 74):=underlying37;unfold slS;simp only[Instr.sliceAt,Sem.run_bind,run_underlying hu,Result.andThen_ok];simp only[Instr.slice,Sem.run_bind,run_underlying hu,Result.andThen_ok,Instr.sliceBounds,Sem.run_pure];rw[run_sliceBound V .i64 (m:Int) c _ (by omega) hin];simp only[Result.andThen_ok,Sem.run_pure,hz V,Int.toNat_natCast]
 cases a<;>simp[Addr.add]
theorem v_Z (W:World) (B:Nat) (hB:B≤W.heap.size):Own (W.alloc (.cells #[] 74)) B (.slice (some ⟨W.heap.size,0,none⟩) 0 0) []:=
 ⟨rfl,Or.inr ⟨W.heap.size,0,#[],rfl,hB,x_x W _,Nat.le_refl _,by simp,rfl,rfl⟩⟩
theorem v_h (h:Hd) (a:Option Addr) (n c:Nat) (l:List Pt) (w:World) (hs:SlAt w a n c l) (hn:n≤1000) :
  Calls prog 59 #[.agg (trc h (.slice a n c))] w fun r w'=>∃v,r=.returned (.agg (trc h v))∧Own w' w.heap.size v l∧Below w.heap.size w w':=by
 obtain⟨W,hW,r0,r1,bW,zW⟩:=z_w w h (.slice a n c);obtain⟨W1,hW1⟩:∃W1,W.alloc (.cells #[] 74)=W1:=⟨_,rfl⟩;have b1:Below W.heap.size W W1:=by rw[←hW1];exact (Below.refl _ _).alloc (Nat.le_refl _) _
 have o1:Own W1 (w.heap.size+2) (.slice (some ⟨w.heap.size+2,0,none⟩) 0 0) []:=by rw[←hW1,← zW];exact v_Z W _ (Nat.le_refl _)
 have z1:W1.heap.size=w.heap.size+3:=by rw[←hW1];simp[zW]
 obtain⟨v,W2,ap,o2,g2⟩:=o1.app (hs.below (z_a bW b1)) (by have:=hs.len;simp;omega) (by omega) 37;rw[List.nil_append] at o2;have b2:Below (w.heap.size+2) W1 W2:=z_h g2 (by omega) (fun j e=>by cases e;exact Nat.le_refl _);have q0:=(r0.below b1).keptBut g2 (by simp[Value.ownBlock]);have q1:=(r1.below b1).keptBut g2 (by simp[Value.ownBlock]);obtain⟨W3,s3,r3,g3⟩:=q0.tset o2.one
 have o3:=o2.keptBut g3 (o2.apart (by omega));have q3:=q1.keptBut g3 (by simp);obtain⟨W4,s4,r4,g4⟩:=q3.tst (g:=h) (y:=v) o2.one;have o4:=o3.keptBut g4 (o3.apart (by omega));have b4:Below w.heap.size w W4:=gro (gro ((z_a bW b1).trans (b2.mono (by omega))) g3 (Nat.le_refl _) (by have:=b2.size;omega)) g4 (by omega) (by have:=b2.size;have:=g3.size;omega);have c16:=(r0.below b1).t16;have l3:=r3.tld
 have F:Hid (RvAt W4 (w.heap.size+1) 39 (trc h v)∧Own W4 w.heap.size v l∧Below w.heap.size w W4):=⟨r4,o4.base (by omega),b4⟩;clear hs hn r0 r1 bW b1 o1 z1 o2 g2 b2 q0 q1 r3 g3 o3 q3 r4 g4 o4 b4;go_enter func59,ntmps59;go_wp2
 refine bodyPost_ret (z_e rtT results59 _ _ _ _ rfl F.out.1 (z_c _ _)) rfl ?_;exact⟨v,rfl,F.out.2.1,F.out.2.2⟩
attribute [local go_sem ↓] slP
theorem z_jZ (h:Hd) (a:Option Addr) (n c:Nat) (l:List Pt) (w:World) (hs:SlAw w a n c l) :
  Calls prog 30 #[.agg (trc h (.slice a n c))] w fun r w'=>∃v,r=.returned (.agg (trc h v))∧Own w' w.heap.size v (l.take 10)∧Below w.heap.size w w':=by
 obtain⟨m,hm,e10,hml⟩:∃m:Nat,m≤n∧(if (10:Int)<(n:Int) then (10:Int) else (n:Int))=(m:Int)∧m=min n 10:=by
  refine⟨min n 10,by omega,?_,rfl⟩
  split<;>omega
 have hlm:l.take m=l.take 10:=by
  have:=hs.len;rw[hml,← this];rcases Nat.le_total l.length 10 with h | h
  ·rw[Nat.min_eq_left h,List.take_of_length_le (Nat.le_refl _),List.take_of_length_le h]
  ·rw[Nat.min_eq_right h]
 obtain⟨W,hW,r0,r1,bW,zW⟩:=z_w w h (.slice a n c);obtain⟨W1,hW1⟩:∃W1,W.alloc (.cells #[] 74)=W1:=⟨_,rfl⟩;have b1:Below W.heap.size W W1:=by rw[←hW1];exact (Below.refl _ _).alloc (Nat.le_refl _) _
 have o1:Own W1 (w.heap.size+2) (.slice (some ⟨w.heap.size+2,0,none⟩) 0 0) []:=by rw[←hW1,← zW];exact v_Z W _ (Nat.le_refl _)
 have z1:W1.heap.size=w.heap.size+3:=by rw[←hW1];simp[zW]
 have hs1:=(hs.cut hm).below (z_a bW b1);rw[hlm] at hs1;obtain⟨v,W2,ap,o2,g2⟩:=o1.appW hs1 (by have:=hs1.len;simp;omega) (by omega) 37;rw[List.nil_append] at o2;have b2:Below (w.heap.size+2) W1 W2:=z_h g2 (by omega) (fun j e=>by cases e;exact Nat.le_refl _);have q0:=(r0.below b1).keptBut g2 (by simp[Value.ownBlock]);have q1:=(r1.below b1).keptBut g2 (by simp[Value.ownBlock])
 obtain⟨W3,s3,r3,g3⟩:=q0.tset o2.one;have o3:=o2.keptBut g3 (o2.apart (by omega));have q3:=q1.keptBut g3 (by simp);obtain⟨W4,s4,r4,g4⟩:=q3.tst (g:=h) (y:=v) o2.one;have o4:=o3.keptBut g4 (o3.apart (by omega));have b4:Below w.heap.size w W4:=gro (gro ((z_a bW b1).trans (b2.mono (by omega))) g3 (Nat.le_refl _) (by have:=b2.size;omega)) g4 (by omega) (by have:=b2.size;have:=g3.size;omega)
 have c16:=(r0.below b1).t16;have sl:=z_kN a n c m hm hs.cap;have l3:=r3.tld;have F:Hid (RvAt W4 (w.heap.size+1) 39 (trc h v)∧Own W4 w.heap.size v (l.take 10)∧Below w.heap.size w W4):=⟨r4,o4.base (by omega),b4⟩;clear hs hs1 hm hml hlm r0 r1 bW b1 o1 z1 o2 g2 b2 q0 q1 r3 g3 o3 q3 r4 g4 o4 b4;go_enter func30,ntmps30;go_wp2
 refine bodyPost_ret (z_e rtT results30 _ _ _ _ rfl F.out.1 (z_c _ _)) rfl ?_;exact⟨v,rfl,F.out.2.1,F.out.2.2⟩
theorem y_Y (h:Hd) (a:Option Addr) (n c:Nat) (l:List Pt) (w:World) (hs:SlAt w a n c l) (hn:n≤1000) :
  Calls prog 52 #[.agg (trc h (.slice a n c))] w fun r w'=>∃v,r=.returned (.agg (trc h v))∧Own w' w.heap.size v l∧Below w.heap.size w w':=by
 obtain⟨W,hW,r0,r1,bW,zW⟩:=z_w w h (.slice a n c);obtain⟨v,W2,ap,o2,g2⟩:=(Own.nil W (w.heap.size+2)).app (hs.below bW) (by have:=hs.len;simp;omega) (by omega) 37;have b2:Below W.heap.size W W2:=z_h g2 (Nat.le_refl _) (fun j e=>by cases e);rw[List.nil_append] at o2;obtain⟨W3,s3,r3,g3⟩:=(r0.below b2).tset o2.one;have o3:=o2.keptBut g3 (o2.apart (by omega));have q3:=(r1.below b2).keptBut g3 (by simp)
 obtain⟨W4,s4,r4,g4⟩:=q3.tst (g:=h) (y:=v) o2.one;have o4:=o3.keptBut g4 (o3.apart (by omega));have b4:Below w.heap.size w W4:=gro (gro (bW.trans (b2.mono (by omega))) g3 (Nat.le_refl _) (by have:=b2.size;omega)) g4 (by omega) (by have:=b2.size;have:=g3.size;omega);have c16:=r0.t16;have l3:=r3.tld
 have F:Hid (RvAt W4 (w.heap.size+1) 39 (trc h v)∧Own W4 w.heap.size v l∧Below w.heap.size w W4):=⟨r4,o4.base (by omega),b4⟩;clear hs hn r0 r1 bW zW o2 g2 b2 r3 g3 o3 q3 r4 g4 o4 b4;go_enter func52,ntmps52;go_wp2
 refine bodyPost_ret (z_e rtT results52 _ _ _ _ rfl F.out.1 (z_c _ _)) rfl ?_;exact⟨v,rfl,F.out.2.1,F.out.2.2⟩
end
section
open Go.RowKit
theorem Row.setU_ne {ks:List (Option IntKind)} (r:Row ks) {j i:Nat} {n:Int} (h:j≠i):(r.setU j n).cl[i]?=r.cl[i]?:=by
 unfold Row.setU
 split
 ·show (r.cl.set j (.int .u8 n))[i]?=_
  rw[List.getElem?_set,if_neg h]
 ·rfl
theorem Row.setU_nm {ks:List (Option IntKind)} (r:Row ks) {j i:Nat} {n:Int} (h:j≠i):(r.setU j n).nm i=r.nm i:=by
 unfold Row.nm;rw[r.setU_ne h]
theorem RvAt.apart {W:World} {b d:Nat} {ty ty':TypeId} {cs ds:Array Value} (h:RvAt W b ty cs) (k:RvAt W d ty' ds) (hn:ty≠ty'):b≠d:=by
 rintro rfl;have:=h.symm.trans k;simp only[Option.some.injEq,Obj.cells.injEq] at this;exact hn this.2.1
def Row.setN {ks:List (Option IntKind)} (r:Row ks) (j:Nat) (h:ks[j]?=some (some .i64)) (n:Int) (hw:(Lit.int .i64 n).wf=true):Row ks:=r.set j (.int .i64 n) (z_z h hw)
theorem Row.setN_get {ks:List (Option IntKind)} (r:Row ks) {j:Nat} (h:ks[j]?=some (some .i64)) (n:Int) (hw:(Lit.int .i64 n).wf=true) (i:Nat):(r.setN j h n hw).cl[i]?=if i=j then some (.int .i64 n) else r.cl[i]?:=r.set_get _ (List.getElem?_eq_some_iff.1 h).1 i
theorem RvAt.belowB {W V:World} {b B:Nat} {ty:TypeId} {cs:Array Value} (h:RvAt W b ty cs) (hb:Below B W V) (hlt:b<B):RvAt V b ty cs:=(hb.block b hlt).trans h
theorem Own.next {W:World} {B:Nat} {v:Value} {l:List Pt} (o:Own W B v l) (hB:B≤W.heap.size) (hl:l.length≤1000) (p:Pt) :
  ∃v' W',(apS 37 #[v,.slice (some ⟨W.heap.size,0,none⟩) 1 1]).run prog (W.alloc (.cells p.cs 74))=.ok v' W'∧Own W' B v' (l++[p])∧Below B W W':=by
 have bA:Below W.heap.size W (W.alloc (.cells p.cs 74)):=(Below.refl _ _).alloc (Nat.le_refl _) _;obtain⟨v',W',ap,o2,g2⟩:=(o.below bA).app (one_new W p) (by simp;omega) (Nat.le_trans hB bA.size) 37;refine⟨v',W',ap,o2,(bA.mono hB).trans (z_h g2 (Nat.le_trans hB bA.size) (fun j e=>?_))⟩;rcases o.pat with ⟨rfl,rfl⟩ | ⟨g,c,rfl,hg,_⟩
 ·cases e
 ·cases e;exact hg
theorem SlAt.off {W:World} {b n c:Nat} {h:Hd} {x:Value} {a:Option Addr} {l:List Pt} (s:SlAt W a n c l) (r:RvAt W b 39 (trc h x)) (hn:0<n):∀y,a=some y→y.block≠b:=by
 intro y hy e;obtain⟨b',o,e',hc⟩:=s.cells y hy hn;subst e';simp only at e;subst e;have hl:=s.len;have hf:=hc 76 _ (List.getElem?_eq_getElem (by rw[z_O];omega));have hsz:=z_c h x;unfold World.cell? at hf;rw[show W.heap[b']?=some (.cells (trc h x) 39 (0,0)) from r] at hf;simp only at hf;rw[Array.getElem?_eq_none (by omega)] at hf;simp at hf
theorem SlAt.keptT {W V:World} {b n c:Nat} {h:Hd} {x:Value} {a:Option Addr} {l:List Pt} (s:SlAt W a n c l) (r:RvAt W b 39 (trc h x)) (g:W.grownBy V (some b)):SlAt V a n c l:=by
 by_cases hn:0<n
 ·exact s.keptBut g (fun y hy e=>s.off r hn y hy (by simpa using e))
 ·exact⟨⟨s.len,s.cap,s.max,s.nil,fun y _ h1=>absurd h1 hn⟩,fun y _ h1=>absurd h1 hn⟩
theorem SlAt.offZ {W:World} {b n c:Nat} {ty:TypeId} {cs:Array Value} {a:Option Addr} {l:List Pt} (s:SlAt W a n c l) (r:RvAt W b ty cs) (hz:cs.size≤76) (hn:0<n):∀y,a=some y→y.block≠b:=by
 intro y hy e;obtain⟨b',o,e',hc⟩:=s.cells y hy hn;subst e';simp only at e;subst e;have hl:=s.len;have hf:=hc 76 _ (List.getElem?_eq_getElem (by rw[z_O];omega));unfold World.cell? at hf;rw[show W.heap[b']?=some (.cells cs ty (0,0)) from r] at hf;simp only at hf;rw[Array.getElem?_eq_none (by omega)] at hf;simp at hf
theorem SlAt.keptZ {W V:World} {b n c:Nat} {ty:TypeId} {cs:Array Value} {a:Option Addr} {l:List Pt} (s:SlAt W a n c l) (r:RvAt W b ty cs) (hz:cs.size≤76) (g:W.grownBy V (some b)):SlAt V a n c l:=by
 by_cases hn:0<n
 ·exact s.keptBut g (fun y hy e=>s.offZ r hz hn y hy (by simpa using e))
 ·exact⟨⟨s.len,s.cap,s.max,s.nil,fun y _ h1=>absurd h1 hn⟩,fun y _ h1=>absurd h1 hn⟩
theorem SlAt.low {W:World} {g o n c:Nat} {l:List Pt} (hs:SlAt W (some ⟨g,o,none⟩) n c l) (hn:0<n):g<W.heap.size:=by
 obtain⟨b,o',e,hc⟩:=hs.cells _ rfl hn;cases e;have hl:=hs.len;exact World.block_lt_of_cell? W _ (hc 0 _ (List.getElem?_eq_getElem (by rw[z_O];omega)))
def Nw (w:World) (a:Option Addr):Prop:=∀x,a=some x→w.heap.size≤x.block
def Fro (w:World) (a a':Option Addr):Prop:=a'=a∨Nw w a'
theorem Nw.up {w W:World} {a:Option Addr} (h:Nw W a) (s:w.heap.size≤W.heap.size):Nw w a:=fun x hx=>Nat.le_trans s (h x hx)
theorem Nw.of {w:World} {g o:Nat} (h:w.heap.size≤g):Nw w (some ⟨g,o,none⟩):=fun x hx=>by cases hx;exact h
theorem Fro.up {w W:World} {a a':Option Addr} (h:Fro W a a') (s:w.heap.size≤W.heap.size):Fro w a a':=h.imp id fun q=>q.up s
end
section
open Go.RowKit
section
structure V4 where
 r:Int
 c:Int
 b:Int
 p:Int
def V4.cs (v:V4):Array Value:=#[.int .u64 v.r,.int .u32 v.c,.int .u64 v.b,.int .u16 v.p]
structure V4.wf (v:V4):Prop where
 r:0≤v.r∧v.r≤18446744073709551615
 c:0≤v.c∧v.c≤4294967295
 b:0≤v.b∧v.b≤18446744073709551615
 p:0≤v.p∧v.p≤65535
theorem V4.size (v:V4):v.cs.size=4:=rfl
theorem rtV:RowTy 36 4:=⟨infoV,_,underlying36,rfl⟩
theorem infoQ:(prog.info? 211).map (·.size)=some 4:=by kernel_rfl
theorem rtQ:RowTy 211 4:=⟨infoQ,_,underlying211,rfl⟩
theorem stQ (x y:Value):Instr.storeAt 211 x y=stS 211 x y:=rfl
def VvAt (W:World) (b:Nat) (v:V4):Prop:=RvAt W b 36 v.cs
theorem VvAt.below {W W':World} {b:Nat} {v:V4} (h:VvAt W b v) (hb:Below W.heap.size W W'):VvAt W' b v:=RvAt.below h hb
theorem VvAt.ld {W:World} {b:Nat} {v:V4} (h:VvAt W b v):(ldS 36 (.pointer (some ⟨b,0,none⟩))).run prog W=.ok (.agg v.cs) W:=RvAt.ld rtV h v.size
theorem VvAt.c0 {W:World} {b:Nat} {v:V4} (h:VvAt W b v):W.cell? ⟨b,0,none⟩=some (.int .u64 v.r):=RvAt.cell h 0 _ rfl
theorem VvAt.c1 {W:World} {b:Nat} {v:V4} (h:VvAt W b v):W.cell? ⟨b,1,none⟩=some (.int .u32 v.c):=RvAt.cell h 1 _ rfl
theorem VvAt.c2 {W:World} {b:Nat} {v:V4} (h:VvAt W b v):W.cell? ⟨b,2,none⟩=some (.int .u64 v.b):=RvAt.cell h 2 _ rfl
theorem VvAt.c3 {W:World} {b:Nat} {v:V4} (h:VvAt W b v):W.cell? ⟨b,3,none⟩=some (.int .u16 v.p):=RvAt.cell h 3 _ rfl
theorem VvAt.new (W:World) (v:V4):VvAt (W.alloc (.cells v.cs 36)) W.heap.size v:=x_x W _
theorem w_Y (w:World) (a b:V4):∃W,(w.alloc (.cells a.cs 36)).alloc (.cells b.cs 36)=W∧VvAt W w.heap.size a∧VvAt W (w.heap.size+1) b∧Below w.heap.size w W:=
 ⟨_,rfl,(VvAt.new w a).below ((Below.refl _ _).alloc (Nat.le_refl _) _),by have:=VvAt.new (w.alloc (.cells a.cs 36)) b;simpa using this,((Below.refl _ _).alloc (Nat.le_refl _) _).alloc (by simp) _⟩
def cmpV (a b:V4):Int:=
 if a.r<b.r then -1 else if b.r<a.r then 1 else if a.c<b.c then -1 else if b.c<a.c then 1 else if a.b<b.b then -1 else if b.b<a.b then 1 else if a.p<b.p then -1 else if b.p<a.p then 1 else 0
def betV (a b:V4):Bool:=decide (cmpV a b<0)
theorem z_ab (v:V4) (w:World) (h:v.wf) :
  Calls prog 255 #[.agg v.cs] w fun e w'=>e=.returned (.agg #[.int .u64 v.r,.int .u64 v.c,.int .u64 v.b,.int .u64 v.p])∧Below w.heap.size w w':=by
 obtain⟨r,c,b,p⟩:=v;obtain⟨hr,hc,hb,hp⟩:=h;simp only at hr hc hb hp
 show Calls prog 255 #[.agg #[.int .u64 r,.int .u32 c,.int .u64 b,.int .u16 p]] w _
 go_enter func255,ntmps255;go_wp2
 go_returns
 exact⟨rfl,by go_grown⟩
@[go_sem] theorem ix0 (x y z t:Int) (w:World):(Instr.index 211 (.agg #[.int .u64 x,.int .u64 y,.int .u64 z,.int .u64 t]) (.int .i64 0)).run prog w=.ok (.int .u64 x) w:=by kernel_rfl
@[go_sem] theorem ix1 (x y z t:Int) (w:World):(Instr.index 211 (.agg #[.int .u64 x,.int .u64 y,.int .u64 z,.int .u64 t]) (.int .i64 1)).run prog w=.ok (.int .u64 y) w:=by kernel_rfl
@[go_sem] theorem ix2 (x y z t:Int) (w:World):(Instr.index 211 (.agg #[.int .u64 x,.int .u64 y,.int .u64 z,.int .u64 t]) (.int .i64 2)).run prog w=.ok (.int .u64 z) w:=by kernel_rfl
@[go_sem] theorem ix3 (x y z t:Int) (w:World):(Instr.index 211 (.agg #[.int .u64 x,.int .u64 y,.int .u64 z,.int .u64 t]) (.int .i64 3)).run prog w=.ok (.int .u64 t) w:=by kernel_rfl
attribute [local go_sem ↓] ldV stV stQ
theorem v_D (a b:V4) (w:World) (ha:a.wf) (hb:b.wf) :
  Calls prog 225 #[.agg a.cs,.agg b.cs] w fun e w'=>e=.returned (.int .i64 (cmpV a b))∧Below w.heap.size w w':=by
 obtain⟨W,hW,va,vb,bW⟩:=w_Y w a b;have H:=hd5 va vb bW ha hb;have lb:=vb.ld;clear va vb bW ha hb;go_enter func225,ntmps225
 go_wp2_with fail
 go_step3
 go_wp2_with fail
 refine (z_ab b _ H.out.2.2.2.2).mono ?_;rintro _ W1 ⟨rfl,b1⟩;obtain⟨W2,st2,r2,b2,z2⟩:=z_E rtQ W1 #[.int .u64 0,.int .u64 0,.int .u64 0,.int .u64 0] #[.int .u64 b.r,.int .u64 b.c,.int .u64 b.b,.int .u64 b.p] rfl rfl (by simp[Value.oneCell']);have b12:=z_a b1 b2;have H2:=hd3 r2 (z_a H.out.2.2.1 b12) H.out.2.2.2.1;have la:=(H.out.1.below b12).ld;clear r2 b1 b2 z2 b12 H lb
 go_wp2_with fail
 go_step3
 go_wp2_with fail
 refine (z_ab a _ H2.out.2.2).mono ?_;rintro _ W3 ⟨rfl,b3⟩;have r3:=H2.out.1.below b3;have c0:=r3.cell 0 (.int .u64 b.r) rfl;have c1:=r3.cell 1 (.int .u64 b.c) rfl;have c2:=r3.cell 2 (.int .u64 b.b) rfl;have c3:=r3.cell 3 (.int .u64 b.p) rfl;have H3:=hd1 (z_a H2.out.2.1 b3);clear r3 b3 st2 la H2 hW
 go_wp2_with fail
 go_rounds 5
 all_goals
  try rw[Exit.noGoto_ret]
  go_ret;refine⟨z_y ?_,H3.out⟩;unfold cmpV
  (repeat' split)<;>omega
theorem v_W (a b:V4) (w:World) (ha:a.wf) (hb:b.wf) :
  Calls prog 256 #[.agg a.cs,.agg b.cs] w fun e w'=>e=.returned (.bool (betV a b))∧Below w.heap.size w w':=by
 obtain⟨W,hW,va,vb,bW⟩:=w_Y w a b;have H:=hd3 ha hb bW;have la:=va.ld;have lb:=vb.ld;clear va vb bW ha hb;go_enter func256,ntmps256
 go_wp2_with fail
 refine (v_D a b _ H.out.1 H.out.2.1).mono ?_;rintro _ W1 ⟨rfl,b1⟩;have H1:=hd1 (z_a H.out.2.2 b1);clear b1 H la lb hW;go_wp2
 go_ret;exact⟨rfl,H1.out⟩
end
section
def eq6 (a b c d e f a' b' c' d' e' f':Int):Bool:=decide (a=a'∧b=b'∧c=c'∧d=d'∧e=e'∧f=f')
@[go_sem] theorem eqMac (a b c d e f a' b' c' d' e' f':Int) (w:World) :
  (Op.equalIn 10000 102 (.agg #[.int .u8 a,.int .u8 b,.int .u8 c,.int .u8 d,.int .u8 e,.int .u8 f]) (.agg #[.int .u8 a',.int .u8 b',.int .u8 c',.int .u8 d',.int .u8 e',.int .u8 f'])).run prog w=.ok (eq6 a b c d e f a' b' c' d' e' f') w:=by
 have u5:=underlying5;have a5:=isAgg5;have z5:=sizeOf5;rw[show (10000:Nat)=9999+1 from rfl,Op.equalIn];simp only[Sem.run_bind,run_underlying underlying102,Result.andThen_ok];simp only[Std.Legacy.Range.forIn_eq_forIn_range',Std.Legacy.Range.size,Nat.sub_zero,Nat.add_sub_cancel,Nat.div_one,List.range'_succ,List.range'_zero,List.forIn_cons,List.forIn_nil]
 go_simp
 unfold eq6;by_cases h1:a=a'<;>simp[h1]
 by_cases h2:b=b'<;>simp[h2]
 by_cases h3:c=c'<;>simp[h3]
 by_cases h4:d=d'<;>simp[h4]
 by_cases h5:e=e'<;>simp[h5]
 by_cases h6:f=f'<;>simp[h6]
theorem y_y (n:Int) (w:World) (hn:0≤n∧n≤18446744073709551615) :
  Calls prog 47 #[.int .u64 n] w fun r w'=>r=.returned (.agg #[.int .u8 (n / 1099511627776%256),.int .u8 (n / 4294967296%256),.int .u8 (n / 16777216%256),.int .u8 (n / 65536%256),.int .u8 (n / 256%256),.int .u8 (n%256)])∧Below w.heap.size w w':=by
 go_enter func47,ntmps47;go_wp2
 go_rounds 7
 go_returns
 exact⟨rfl,by go_grown⟩
end
section
def sameA (n m:Int):Bool:=decide (n%281474976710656=m%281474976710656)
theorem z_ip (n m:Int):eq6 (n / 1099511627776%256) (n / 4294967296%256) (n / 16777216%256) (n / 65536%256) (n / 256%256) (n%256) (m / 1099511627776%256) (m / 4294967296%256) (m / 16777216%256) (m / 65536%256) (m / 256%256) (m%256)=sameA n m:=by
 unfold eq6 sameA
 apply decide_eq_decide.mpr
 constructor<;>intro h<;>omega
attribute [local go_sem ↓] ldV stV
end
section
def v4 (v:Vc):V4:=⟨v.nm 0,v.nm 1,v.nm 2,v.nm 3⟩
theorem x_X (v:Vc):(v4 v).cs=v.cs:=by
 have h0:=v.num (j:=0) (k:=.u64) rfl;have h1:=v.num (j:=1) (k:=.u32) rfl;have h2:=v.num (j:=2) (k:=.u64) rfl;have h3:=v.num (j:=3) (k:=.u16) rfl;have hl:=v.len;rw[lenV] at hl;have e:v.cl=[.int .u64 (v.nm 0),.int .u32 (v.nm 1),.int .u64 (v.nm 2),.int .u16 (v.nm 3)]:=by
  refine List.ext_getElem? fun j=>?_
  match j with
  | 0=>rw[h0];rfl
  | 1=>rw[h1];rfl
  | 2=>rw[h2];rfl
  | 3=>rw[h3];rfl
  | j+4=>rw[List.getElem?_eq_none (by omega)];rfl
 show _=v.cl.toArray
 rw[e];rfl
theorem u_P (v:Vc):(v4 v).wf:=⟨v.u64 rfl,v.u32 rfl,v.u64 rfl,v.u16 rfl⟩
def bet (a b:Vc):Bool:=betV (v4 a) (v4 b)
theorem y_f (a b:Vc) (w:World):Calls prog 256 #[.agg a.cs,.agg b.cs] w fun e w'=>e=.returned (.bool (bet a b))∧Below w.heap.size w w':=by
 rw[←x_X a,← x_X b];exact v_W _ _ w (u_P a) (u_P b)
end
section
theorem u_O {ks ks':List (Option IntKind)} {r:Row ks} {q:Row ks'} {i j:Nat} (h:r.cl[i]?=q.cl[j]?):r.bt i=q.bt j:=by unfold Row.bt;rw[h]
theorem y_C {ks ks':List (Option IntKind)} {r:Row ks} {q:Row ks'} {i j:Nat} (h:r.cl[i]?=q.cl[j]?):r.nm i=q.nm j:=by unfold Row.nm;rw[h]
theorem z_N {ks:List (Option IntKind)} (r:Row ks) {i j:Nat} (h:ks[j]?=some none) (b:Bool) (hn:i≠j):(r.setB j h b).bt i=r.bt i:=u_O (by rw[r.setB_get,if_neg hn])
theorem y_h {ks:List (Option IntKind)} (r:Row ks) {j:Nat} (h:ks[j]?=some none) (b:Bool):(r.setB j h b).bt j=b:=r.bset _ (List.getElem?_eq_some_iff.1 h).1
attribute [local go_sem ↓] ldP stP ldM stM ldTm stTm ldV stV stB stU
end
section
attribute [local go_sem ↓] ldV stV
theorem w_o (a b:V4) (w:World) :
  Calls prog 148 #[.agg a.cs,.agg b.cs] w fun e w'=>e=.returned (.bool (betV a b))∧Below w.heap.size w w':=by
 obtain⟨W,hW,va,vb,bW⟩:=w_Y w a b;have H:=hd1 bW;have a0:=va.c0;have a1:=va.c1;have a2:=va.c2;have a3:=va.c3;have b0:=vb.c0;have b1:=vb.c1;have b2:=vb.c2;have b3:=vb.c3;clear va vb bW;by_cases h1:a.r=b.r
 ·by_cases h2:a.c=b.c
  ·by_cases h3:a.b=b.b
   ·go_enter func148,ntmps148;go_wp2
    go_ret;refine⟨z_r ?_,H.out⟩;unfold betV cmpV
    apply decide_eq_decide.mpr
    (repeat' split)<;>omega
   ·go_enter func148,ntmps148;go_wp2
    go_ret;refine⟨z_r ?_,H.out⟩;unfold betV cmpV
    apply decide_eq_decide.mpr
    (repeat' split)<;>omega
  ·go_enter func148,ntmps148;go_wp2
   go_ret;refine⟨z_r ?_,H.out⟩;unfold betV cmpV
   apply decide_eq_decide.mpr
   (repeat' split)<;>omega
 ·go_enter func148,ntmps148;go_wp2
  go_ret;refine⟨z_r ?_,H.out⟩;unfold betV cmpV
  apply decide_eq_decide.mpr
  (repeat' split)<;>omega
theorem w_a (n m:Int) (w:World) (hn:0≤n∧n≤18446744073709551615) (hm:0≤m∧m≤18446744073709551615) :
  Calls prog 149 #[.int .u64 n,.int .u64 m] w fun e w'=>e=.returned (.bool (sameA n m))∧Below w.heap.size w w':=by
 go_enter func149,ntmps149;go_wp2
 go_ret;exact⟨z_r rfl,by go_grown⟩
end
section
theorem wi0:(Lit.int .i64 0).wf=true:=by decide
theorem wi1:(Lit.int .i64 1).wf=true:=by decide
theorem wi2:(Lit.int .i64 2).wf=true:=by decide
theorem wi3:(Lit.int .i64 3).wf=true:=by decide
def dsgT (p:Pt):Tm:=⟨(p.cl.drop 40).take 4,(p.sub 40 4).ok⟩
theorem stW (x y:Value):Instr.storeAt 72 x y=stS 72 x y:=rfl
theorem infoS:(prog.info? 72).map (·.size)=some 1:=by kernel_rfl
structure PS (w W:World) (b d:Nat) (q:Pt):Prop where
 var:RvAt W b 74 q.cs
 out:RvAt W d 74 zeroP.cs
 bel:Below w.heap.size w W
 hb:w.heap.size≤b
 hd:w.heap.size≤d
 ne:d≠b
theorem PS.start (w:World) (p:Pt):∃W,(w.alloc (.cells p.cs 74)).alloc (.cells zeroP.cs 74)=W∧PS w W w.heap.size (w.heap.size+1) p:=by
 obtain⟨W,hW,r0,r1,bW,zW⟩:=x_y w p;exact⟨W,hW,r0,r1,bW,Nat.le_refl _,by omega,by omega⟩
theorem PS.go {w W V:World} {b d:Nat} {q r:Pt} (s:PS w W b d q) (h:RvAt V b 74 r.cs) (g:W.grownBy V (some b)):PS w V b d r:=
 ⟨h,s.out.keptBut g (by have:=s.ne;simpa using this),gro s.bel g s.hb s.bel.size,s.hb,s.hd,s.ne⟩
theorem PS.below {w W V:World} {b d:Nat} {q:Pt} (s:PS w W b d q) (k:Below W.heap.size W V):PS w V b d q:=⟨s.var.below k,s.out.below k,z_a s.bel k,s.hb,s.hd,s.ne⟩
theorem PS.setB {w W:World} {b d j:Nat} {q:Pt} (s:PS w W b d q) (h:kdP[j]?=some none) (x:Bool):∃V,(stS 4 (.pointer (some ⟨b,j,none⟩)) (.bool x)).run prog W=.ok () V∧PS w V b d (q.setB j h x):=by
 obtain⟨V,e,h1,g⟩:=s.var.setB h x;exact⟨V,e,s.go h1 g⟩
theorem PS.setU {w W:World} {b d j:Nat} {q:Pt} (s:PS w W b d q) (h:kdP[j]?=some (some .u8)) {n:Int} (hn:0≤n∧n≤255):∃V,(stS 5 (.pointer (some ⟨b,j,none⟩)) (.int .u8 n)).run prog W=.ok () V∧PS w V b d (q.setU j n):=by
 obtain⟨V,e,h1,g⟩:=s.var.setU h hn;exact⟨V,e,s.go h1 g⟩
theorem PS.setN {w W:World} {b d j:Nat} {q:Pt} (s:PS w W b d q) {t:TypeId} (ht:(prog.info? t).map (·.size)=some 1) (h:kdP[j]?=some (some .i64)) {n:Int} (hn:(Lit.int .i64 n).wf=true):∃V,(stS t (.pointer (some ⟨b,j,none⟩)) (.int .i64 n)).run prog W=.ok () V∧PS w V b d (q.setN j h n hn):=by
 obtain⟨V,e,h1,g⟩:=s.var.rset (v:=.int .i64 n) ht (List.getElem?_eq_some_iff.1 h).1 rfl (z_z h hn);exact⟨V,e,s.go h1 g⟩
theorem PS.tell {w W:World} {b d:Nat} {q:Pt} (s:PS w W b d q) (r:Pt):∃U,(stS 74 (.pointer (some ⟨d,0,none⟩)) (.agg r.cs)).run prog W=.ok () U∧RvAt U d 74 r.cs∧Below w.heap.size w U:=by
 obtain⟨U,e,h1,g⟩:=s.out.pst (q:=r);exact⟨U,e,h1,gro s.bel g s.hd s.bel.size⟩
theorem PS.ld {w W:World} {b d:Nat} {q:Pt} (s:PS w W b d q):(ldS 74 (.pointer (some ⟨b,0,none⟩))).run prog W=.ok (.agg q.cs) W:=s.var.pld
theorem z_ci {fn:Func} {k t:Nat} (hr:fn.results=#[.cell k 74,.tmp t]) (tmps:Array Value) (w:World) (b:Nat) (p:Pt) (h2:tmps.getD k undef=.pointer (some ⟨b,0,none⟩)) (h:RvAt w b 74 p.cs) :
  (results fn tmps).run prog w=.ok (.tuple #[.agg p.cs,tmps.getD t undef]) w:=by
 have hl:=h.lv rtP (by rw[Row.csize,lenP]);have h2':tmps[k]?.getD undef=.pointer (some ⟨b,0,none⟩):=by simpa using h2
 simp[results,hr,asAddr,hl,h2']
theorem z_j {fn:Func} {k t:Nat} (hr:fn.results=#[.cell k 74,.tmp t]) {R:Ending→World→Prop} {a:Act} {w:World} {b:Nat} {p:Pt} {x:Bool} (hd:a.defers=[]) (h2:a.tmps.getD k undef=.pointer (some ⟨b,0,none⟩)) (h3:a.tmps.getD t undef=.bool x) (h:RvAt w b 74 p.cs) (hR:R (.returned (.tuple #[.agg p.cs,.bool x])) w):bodyPost prog fn R .ret a w:=
 bodyPost_ret (z_ci hr _ _ _ _ h2 h) hd (by rw[h3];exact hR)
end
section
def gtP (l:List Pt) (i:Nat):Pt:=l.getD i zeroP
theorem z_k {l:List Pt} {i:Nat} (h:i<l.length):l[i]?=some (gtP l i):=by
 simp[gtP,List.getD_eq_getElem?_getD,List.getElem?_eq_getElem h]
attribute [local go_sem ↓] ldP stP ldT stT apE st32 st4
end
section
attribute [local go_sem ↓] ldP stP ldT stT apE st32 st4
theorem y_S (w:World) (h:Hd) (x:Value):∃W,w.alloc (.cells (trc h x) 39)=W∧RvAt W w.heap.size 39 (trc h x)∧Below w.heap.size w W∧W.heap.size=w.heap.size+1:=
 ⟨_,rfl,RvAt.new w _ _,(Below.refl _ _).alloc (Nat.le_refl _) _,by simp⟩
theorem w_k (h:Hd) (a:Option Addr) (n c:Nat) (i:Int) (w:World) (hn:n≤1000) :
  Calls prog 26 #[.agg (trc h (.slice a n c)),.int .i64 i] w fun r w'=>r=.returned (.bool (decide (0≤i) && decide (i<n)))∧Below w.heap.size w w':=by
 obtain⟨W,hW,r0,bW,zW⟩:=y_S w h (.slice a n c);have c16:=r0.t16;have F:=hd1 bW;clear r0 bW zW;go_enter func26,ntmps26;by_cases h1:0≤i
 ·by_cases h2:i<(n:Int)
  ·go_wp2
   go_ret;exact⟨by simp[h1,h2],F.out⟩
  ·go_wp2
   go_ret;exact⟨by simp[h1,h2],F.out⟩
 ·go_wp2
  go_ret;exact⟨by simp;omega,F.out⟩
end
section
attribute [local go_sem ↓] ldP stP ldT stT apE st32
theorem v_o (w:World):(binOp .eql 37 (.slice none 0 0) (.slice none 0 0)).run prog w=.ok (.bool true) w:=by kernel_rfl
theorem z_ad (x:Addr) (n c:Nat) (w:World):(binOp .eql 37 (.slice (some x) n c) (.slice none 0 0)).run prog w=.ok (.bool false) w:=by kernel_rfl
attribute [local go_sem] v_o z_ad
theorem y_F (a:Option Addr) (n c:Nat) (l:List Pt) (w:World) (hs:SlAt w a n c l) (hn:n≤1000) :
  Calls prog 88 #[.slice a n c] w fun r w'=>∃v,r=.returned v∧Own w' w.heap.size v l∧Below w.heap.size w w':=by
 cases a with
 | none=>
  obtain⟨rfl,rfl⟩:=hs.nil rfl;have hl:l=[]:=List.eq_nil_of_length_eq_zero hs.len;subst hl;go_enter func88,ntmps88;go_wp2
  go_ret;exact⟨_,rfl,Own.nil _ _,Below.refl _ _⟩
 | some x=>
  obtain⟨W1,hW1⟩:∃W1,w.alloc (.cells #[] 74)=W1:=⟨_,rfl⟩;have b1:Below w.heap.size w W1:=by rw[←hW1];exact (Below.refl _ _).alloc (Nat.le_refl _) _
  have o1:Own W1 w.heap.size (.slice (some ⟨w.heap.size,0,none⟩) 0 0) []:=by rw[←hW1];exact v_Z w _ (Nat.le_refl _)
  obtain⟨v,W2,ap,o2,g2⟩:=o1.app (hs.below b1) (by have:=hs.len;simp;omega) b1.size 37;rw[List.nil_append] at o2;have b2:Below w.heap.size w W2:=b1.trans (z_h g2 b1.size (fun j e=>by cases e;exact Nat.le_refl _));have F:=hd2 o2 b2;clear hs b1 o1 o2 g2 b2 hn;go_enter func88,ntmps88;go_wp2
  go_ret;exact⟨v,rfl,F.out.1,F.out.2⟩
theorem z_at (w:World) (h:Hd) (x:Value) (p:Pt):∃W,((w.alloc (.cells (trc h x) 39)).alloc (.cells p.cs 74)).alloc (.cells #[.int .u64 0,.int .u8 0,.int .u8 0,.int .u8 0,.int .u8 0,.int .u8 0,.bool false,.int .u16 0,.int .u64 0,.int .u32 0,.int .u64 0,.int .u16 0,.int .u8 0,.int .u8 0,.int .u8 0,.int .u8 0,.slice none 0 0] 39)=W∧RvAt W w.heap.size 39 (trc h x)∧RvAt W (w.heap.size+1) 74 p.cs∧RvAt W (w.heap.size+1+1) 39 (trc zeroH (.slice none 0 0))∧Below w.heap.size w W∧W.heap.size=w.heap.size+3:=by
 obtain⟨A,hA,rA,bA,zA⟩:=y_S w h x;obtain⟨D,hD,rD,bD,zD⟩:=y_T A p;have hC:RvAt (D.alloc (.cells zeroT 39)) D.heap.size 39 zeroT:=RvAt.new D _ _;have bC:Below D.heap.size D (D.alloc (.cells zeroT 39)):=(Below.refl _ _).alloc (Nat.le_refl _) _;rw[y_a,zD,zA] at hC;rw[zA] at rD;rw[hA,hD];rw[y_a] at bC;refine⟨_,rfl,?_⟩
 change RvAt (D.alloc (.cells zeroT 39)) _ _ _∧RvAt (D.alloc (.cells zeroT 39)) _ _ _∧RvAt (D.alloc (.cells zeroT 39)) _ _ _∧Below _ _ (D.alloc (.cells zeroT 39))∧(D.alloc (.cells zeroT 39)).heap.size=_
 rw[y_a];exact⟨(rA.below bD).below bC,rD.below bC,hC,z_a (z_a bA bD) bC,by simp;omega⟩
theorem z_o (h:Hd) (a:Option Addr) (n c:Nat) (l:List Pt) (k:Nat) (p:Pt) (w:World) (hs:SlAt w a n c l) (hn:n≤1000) (hk:k<n) :
  Calls prog 60 #[.agg (trc h (.slice a n c)),.int .i64 (k:Int),.agg p.cs] w fun r w'=>∃g c',r=.returned (.agg (trc h (.slice (some ⟨g,0,none⟩) n c')))∧w.heap.size≤g∧SlAt w' (some ⟨g,0,none⟩) n c' (l.set k p)∧Below w.heap.size w w':=by
 obtain⟨W,hW,r0,rp,r1,bW,zW⟩:=z_at w h (.slice a n c) p;have l0:=r0.tld;have H:=hd8 (hs.below bW) hn hs.len r0 r1 bW zW rp;clear hs hn r0 r1 bW zW rp;go_enter func60,ntmps60
 go_wp2_with fail
 refine (v_h h a n c l W H.out.1 H.out.2.1).mono ?_;rintro _ W2 ⟨v,rfl,o2,b2⟩;have z2:=H.out.2.2.2.2.2.2.1;have hl:=H.out.2.2.1;obtain⟨W3,s3,r3,g3⟩:=(H.out.2.2.2.1.below b2).tst (g:=h) (y:=v) o2.one;have o3:=o2.keptBut g3 (o2.apart (by omega));have q3:=(H.out.2.2.2.2.1.below b2).keptBut g3 (by simp only[ne_eq,Option.some.injEq];omega)
 have p3:=(H.out.2.2.2.2.2.2.2.below b2).keptBut g3 (by simp only[ne_eq,Option.some.injEq];omega);have b3:Below w.heap.size w W3:=gro (z_a H.out.2.2.2.2.2.1 b2) g3 (Nat.le_refl _) (by have:=b2.size;omega);have lp:=p3.pld;have hin0:(0:Int)≤(k:Int):=by omega
 have hin1:(k:Int)<(n:Int):=by omega
 clear b2 g3 o2 l0 hW;rcases o3.pat with ⟨hv,hle⟩ | ⟨g,cc,hv,hg,hp⟩
 ·rw[hle] at hl;simp at hl;omega
 ·rw[hl] at hv;subst hv;have c16:=r3.t16;obtain⟨V,sV,pV,gV⟩:=hp.stp (i:=k) (p:=p) (by omega) rfl;have r5:=r3.keptBut gV (by simp;omega);have q5:=q3.keptBut gV (by simp;omega);have l5:=r5.tld;obtain⟨W6,s6,r6,g6⟩:=q5.tst (g:=h) (y:=.slice (some ⟨g,0,none⟩) n cc) rfl;have p6:=pV.keptBut g6 (by simp;omega)
  have b6:Below w.heap.size w W6:=gro (gro b3 gV (by omega) b3.size) g6 (by omega) (by have:=b3.size;have:=gV.size;omega);have s6':=p6.sl;rw[List.length_set,hl] at s6';have F:Hid (RvAt W6 (w.heap.size+1+1) 39 (trc h (.slice (some ⟨g,0,none⟩) n cc))∧w.heap.size≤g∧SlAt W6 (some ⟨g,0,none⟩) n cc (l.set k p)∧Below w.heap.size w W6):=⟨r6,by omega,s6',b6⟩
  clear hp pV gV r5 q5 r6 g6 p6 b6 s6' hg r3 q3 p3 b3 o3 hl z2 hk;go_wp2
  refine bodyPost_ret (z_e rtT results60 _ _ _ _ rfl F.out.1 (z_c _ _)) rfl ?_;exact⟨g,cc,rfl,F.out.2⟩
end
section
theorem y_d {l:List Pt} {k:Nat} (h:k<l.length):l.set k (gtP l k)=l:=by
 have:gtP l k=l[k]:=by
  have:=z_k h;rw[List.getElem?_eq_getElem h] at this;exact (Option.some.inj this).symm
 rw[this,List.set_getElem_self]
theorem y_b (W:World) (p:Pt):∃W',(stS 74 (.pointer (some ⟨W.heap.size,0,none⟩)) (.agg p.cs)).run prog (W.alloc (.cells zeroP.cs 74))=.ok () W'∧RvAt W' W.heap.size 74 p.cs∧Below W.heap.size W W'∧W'.heap.size=W.heap.size+1:=
 z_E rtP W zeroP.cs p.cs (by rw[Row.csize,lenP]) (by rw[Row.csize,lenP]) p.one'
structure TS (w W:World) (b d:Nat) (h:Hd) (x:Value):Prop where
 var:RvAt W b 39 (trc h x)
 out:RvAt W d 39 (trc zeroH (.slice none 0 0))
 bel:Below w.heap.size w W
 hd:w.heap.size≤d
theorem TS.below {w W V:World} {b d:Nat} {h:Hd} {x:Value} (s:TS w W b d h x) (k:Below W.heap.size W V):TS w V b d h x:=⟨s.var.below k,s.out.below k,z_a s.bel k,s.hd⟩
theorem TS.tell {w W:World} {b d:Nat} {h:Hd} {x:Value} (s:TS w W b d h x) {y:Value} (hy:y.oneCell'=true):∃U,(stS 39 (.pointer (some ⟨d,0,none⟩)) (.agg (trc h y))).run prog W=.ok () U∧RvAt U d 39 (trc h y)∧Below w.heap.size w U∧W.grownBy U (some d):=by
 obtain⟨U,e,h1,g⟩:=s.out.tst (g:=h) (y:=y) hy;exact⟨U,e,h1,gro s.bel g s.hd s.bel.size,g⟩
attribute [local go_sem ↓] ldP stP ldT stT ldM stM
attribute [local go_sem ↓] alP alM
attribute [local go_sem] z_l z_D
end
section
theorem z_G {ks:List (Option IntKind)} (r:Row ks) {i j:Nat} (h:ks[j]?=some none) (b:Bool) (hn:i≠j):(r.setB j h b).nm i=r.nm i:=y_C (by rw[r.setB_get,if_neg hn])
theorem wi4:(Lit.int .i64 4).wf=true:=by decide
theorem kn31:kdP[31]?=some (some .i64):=rfl
end
section
def blk (a:Option Addr):Option Nat:=a.map (·.block)
structure PA (W:World) (a:Option Addr) (n c:Nat) (l:List Pt):Prop where
 len:l.length=n
 nil:a=none→n=0∧c=0
 pat:∀x,a=some x→∃g,x=⟨g,0,none⟩∧PAt W g c l
theorem PA.sl {W:World} {a:Option Addr} {n c:Nat} {l:List Pt} (h:PA W a n c l):SlAt W a n c l:=by
 cases a with
 | none=>
  obtain⟨rfl,rfl⟩:=h.nil rfl;have:l=[]:=List.eq_nil_of_length_eq_zero h.len;subst this;exact SlAt.none' W
 | some x=>
  obtain⟨g,rfl,hp⟩:=h.pat x rfl;have:=hp.sl;rw[h.len] at this;exact this
theorem PA.of {W:World} {B:Nat} {v:Value} {l:List Pt} (h:Own W B v l):∃a c,v=.slice a l.length c∧PA W a l.length c l∧∀g,blk a=some g→B≤g:=by
 rcases h.pat with ⟨rfl,rfl⟩ | ⟨g,c,rfl,hB,hp⟩
 ·exact⟨none,0,rfl,⟨rfl,fun _=>⟨rfl,rfl⟩,fun x e=>by cases e⟩,fun g e=>by cases e⟩
 ·exact⟨some ⟨g,0,none⟩,c,rfl,⟨rfl,(fun e=>by cases e),fun x e=>by cases e;exact⟨g,rfl,hp⟩⟩,fun g e=>by cases e;exact hB⟩
def mapI (f:Nat→Pt→Pt) (l:List Pt) (i:Nat):List Pt:=(l.take i).mapIdx f++l.drop i
theorem w_Q (f:Nat→Pt→Pt) (l:List Pt) (i:Nat):(mapI f l i).length=l.length:=by
 simp[mapI];omega
theorem u_v {f:Nat→Pt→Pt} {l:List Pt} {i:Nat} (h:i<l.length):(mapI f l i)[i]?=some (gtP l i):=by
 rw[←z_k h];unfold mapI;rw[List.getElem?_append_right (by simp;omega),List.length_mapIdx,List.length_take,Nat.min_eq_left (by omega),Nat.sub_self,List.getElem?_drop];rfl
theorem x_f {f:Nat→Pt→Pt} {l:List Pt} {i:Nat} (h:i<l.length):(mapI f l i).set i (f i (gtP l i))=mapI f l (i+1):=by
 unfold mapI;have e:((l.take i).mapIdx f).length=i:=by simp;omega
 have hg:gtP l i=l[i]:=by
  have:=z_k h;rw[List.getElem?_eq_getElem h] at this;exact (Option.some.inj this).symm
 have e3:(l.take i).length=i:=by simp;omega
 rw[List.set_append_right _ _ (by omega),e,Nat.sub_self,List.drop_eq_getElem_cons h,zB,List.take_add_one,List.getElem?_eq_getElem h,hg];simp only[Option.toList_some,List.mapIdx_append,List.mapIdx_cons,List.mapIdx_nil,e3,Nat.zero_add,List.append_assoc];rfl
theorem u_w (f:Nat→Pt→Pt) (l:List Pt):mapI f l l.length=l.mapIdx f:=by simp[mapI]
theorem v_u (f:Nat→Pt→Pt) (l:List Pt):mapI f l 0=l:=by simp[mapI]
theorem z_eH {f:Nat→Pt→Pt} {l:List Pt} {i:Nat} (h:i<l.length):gtP (l.mapIdx f) i=f i (gtP l i):=by
 have h1:=z_k (l:=l.mapIdx f) (i:=i) (by simpa using h);have h2:=z_k h;rw[List.getElem?_mapIdx,h2] at h1;exact (Option.some.inj h1).symm
theorem u_A {f:Nat→Pt→Pt} {l:List Pt} {i:Nat} (h:i<l.length):(l.take (i+1)).mapIdx f=(l.take i).mapIdx f++[f i (gtP l i)]:=by
 have hg:=z_k h;have e3:(l.take i).length=i:=by simp;omega
 rw[List.take_add_one,hg];simp only[Option.toList_some,List.mapIdx_append,List.mapIdx_cons,List.mapIdx_nil,e3,Nat.zero_add]
end
section
attribute [local go_sem ↓] ldP stP ldT stT apE st32 st4
def Chg (F:Nat) (f:Pt→Pt):Prop:=∀(W:World) (g c i q:Nat) (l:List Pt) (p:Pt),PAt W g c l→l[i]?=some p→q=i*77 →
 Calls prog F #[.pointer (some ⟨g,q,none⟩)] W fun r W'=>r=.returned (.tuple #[])∧PAt W' g c (l.set i (f p))∧W.grownBy W' (some g)
end
section
theorem u_C {l:List Pt} {k:Nat} {q:Pt} (hk:k<l.length):gtP (l.set k q) k=q:=by
 have:=z_k (l:=l.set k q) (i:=k) (by rw[List.length_set];exact hk);rw[List.getElem?_set,if_pos rfl,if_pos hk] at this;exact (Option.some.inj this).symm
attribute [local go_sem ↓] ldP stP ldT stT apE st32
end
section
def gd (G want:Bool) (v:Value):Value:=bif G==want then v else undef
theorem z_eI {G want:Bool} {v:Value} (h:G=want):gd G want v=v:=by subst h;simp[gd]
theorem z_im {G want:Bool} {v:Value} (h:G≠want):gd G want v=undef:=by
 have:(G==want)=false:=by simpa using h
 simp[gd,this]
theorem on {a:Act} {x:Operand} {G want:Bool} {V:Value} (e:G=want) (h:a.eval x=gd G want V):a.eval x=V:=h.trans (z_eI e)
theorem z_lP (X Y:Bool):(if X=true then Value.bool true else gd X false (.bool Y))=Value.bool (X || Y):=by
 cases X
 ·rw[if_neg (by decide),z_eI rfl];rfl
 ·rfl
theorem pkO {a:Act} {x y:Operand} {X Y:Bool} (hx:a.eval x=.bool true) (hy:a.eval y=gd X false (.bool Y)):(if X=true then a.eval x else a.eval y)=Value.bool (X || Y):=by
 rw[hx,hy];exact z_lP X Y
variable {ops:Array Oper} {C:World→Prop} {a:Act} {o:Oper} {v:Value}
def Qt (C:World→Prop) (o:Oper) (v:Value) (a:Act):Prop:=∀w,C w→o.quietAt prog a C w v
theorem z_b (hy:YieldsIn prog ops C o v a) {Q:Act→Prop} {rest:List Oper} (h:wpQuiet prog ops C Q rest (a.put o.dst v)):wpQuiet prog ops C Q (o::rest) a:=by
 unfold wpQuiet;rcases hy with ⟨hw,hv⟩ | ⟨hw,rfl⟩
 ·rw[if_pos hw];exact⟨v,hv,h⟩
 ·rw[if_neg (by rw[hw];exact Bool.false_ne_true)];exact h
theorem yq (hg:o.guard=none) (h:Qt C o v a):YieldsIn prog ops C o v a:=Or.inl ⟨by unfold Region.wanted;rw[hg],h⟩
theorem yq1 {j:Nat} {want G:Bool} (hg:o.guard=some (j,want)) (hj:((ops[j]?).bind (·.dst)).bind (a.tmps[·]?)=some (.bool G)) (h:G=want→Qt C o v a):YieldsIn prog ops C o (gd G want v) a:=by
 have hy:yielded ops a.tmps j=some G:=by unfold yielded;rw[hj]
 by_cases e:G=want
 ·rw[z_eI e];exact Or.inl ⟨by unfold Region.wanted;rw[hg];simp[hy,e],h e⟩
 ·rw[z_im e];exact Or.inr ⟨by unfold Region.wanted;rw[hg];simp[hy,e],rfl⟩
def Rn (C:World→Prop) (o:Oper) (v:Value) (a:Act):Prop:=∀w,C w→(execOp a.eval o).run prog w=.ok (.value v) w
theorem Rn.qt (h:Rn C o v a):Qt C o v a:=fun w hw=>by
 unfold Oper.quietAt;rw[h w hw];exact⟨rfl,rfl⟩
theorem qmove {x:Operand} (h:o.op=.move x) (hx:a.eval x=v):Rn C o v a:=fun w _=>by unfold execOp;rw[h,← hx];rfl
theorem qassign {x:Operand} (h:o.op=.assign x) (hx:a.eval x=v):Rn C o v a:=fun w _=>by unfold execOp;rw[h,← hx];rfl
def FAt (t:TypeId) (k d:Nat):Prop:=∀(b q:Nat) (w:World),(Instr.fieldAt t (.pointer (some ⟨b,q,none⟩)) k).run prog w=.ok (.pointer (some ⟨b,q+d,none⟩)) w
theorem qfield {t:TypeId} {x:Operand} {k b q d:Nat} (h:o.op=.fieldAddr t x k) (hx:a.eval x=.pointer (some ⟨b,q,none⟩)) (hf:FAt t k d):Rn C o (.pointer (some ⟨b,q+d,none⟩)) a:=fun w _=>by
 unfold execOp;simp only[h,hx];rw[Sem.run_bind,hf];rfl
theorem qload {t:TypeId} {x:Operand} {A:Addr} (h:o.op=.load t x) (hx:a.eval x=.pointer (some A)) (hl:∀w,C w→(Instr.loadAt t (.pointer (some A))).run prog w=.ok v w):Rn C o v a:=fun w hw=>by
 unfold execOp;simp only[h,hx];rw[Sem.run_bind,hl w hw];rfl
theorem qbin {op:BinOp} {t t':TypeId} {x y:Operand} {X Y:Value} (h:o.op=.binOp op t x y t') (hx:a.eval x=X) (hy:a.eval y=Y) (he:∀w,(eqGuard op t x y X Y).run prog w=.ok () w) (hv:∀w,(binOp op t X Y).run prog w=.ok v w):Rn C o v a:=fun w _=>by
 unfold execOp;simp only[h,hx,hy];simp only[Sem.run_bind,he,hv,Result.andThen_ok];rfl
theorem qpick {c x y:Operand} {B:Bool} (h:o.op=.pick c x y) (hc:a.eval c=.bool B) (hv:(if B=true then a.eval x else a.eval y)=v):Rn C o v a:=fun w _=>by
 unfold execOp;simp only[h,hc];rw[←hv];rfl
theorem wp_plain {id:Nat} {Q:Exit→Act→World→Prop} {w:World} {l:List Oper} (hC:C w) (h:wpQuiet prog l.toArray C (fun a'=>∀w',C w'→Q .normal a' w') l a):(Code.region id l.toArray false).wp prog Q a w:=by
 refine wp_region ?_;have key:∀(m:List Oper) (k:Nat) (a:Act) (w:World),(∀j,m[j]?=l[k+j]?)→C w→wpQuiet prog l.toArray C (fun a'=>∀w',C w'→Q .normal a' w') m a→wpOps prog l.toArray Q (List.range' k m.length) a w:=by
  intro m
  induction m with
  | nil=>intro k a w _ hw h;exact h w hw
  | cons o m ih=>
   intro k a w hm hw h;have h0:l.toArray[k]?=some o:=by simpa using (hm 0).symm
   rw[List.length_cons,List.range'_succ];unfold wpOps;simp only[h0];unfold wpQuiet at h
   split
   ·rename_i hq
    rw[if_pos hq] at h;exact Or.inl (Oper.wp_of_quiet hw (fun a' w' hw' h'=>ih (k+1) a' w' (fun j=>by have:=hm (j+1);simpa [Nat.add_assoc,Nat.add_comm 1 j] using this) hw' h') h)
   ·rename_i hq
    rw[if_neg hq] at h;exact ih (k+1) _ w (fun j=>by have:=hm (j+1);simpa [Nat.add_assoc,Nat.add_comm 1 j] using this) hw h
 have:=key l 0 a w (fun j=>by simp) hC h;rw[List.range_eq_range'];simpa using this
structure Prd (C:World→Prop) (g q:Nat) (p:Pt):Prop where
 cell:∀(j:Nat) (v:Value),p.cl[j]?=some v→∀w,C w→w.cell? ⟨g,q+j,none⟩=some v
theorem ldb (A:Addr) (x:Bool) (w:World) (h:w.cell? A=some (.bool x)):(Instr.loadAt 4 (.pointer (some A))).run prog w=.ok (.bool x) w:=by go_simp
theorem ldr (A:Addr) (x:Int) (w:World) (h:w.cell? A=some (.int .i64 x)):(Instr.loadAt 44 (.pointer (some A))).run prog w=.ok (.int .i64 x) w:=by go_simp
theorem Prd.bit {C:World→Prop} {g q j:Nat} {p:Pt} (r:Prd C g q p) (h:kdP[j]?=some none):∀w,C w→(Instr.loadAt 4 (.pointer (some ⟨g,q+j,none⟩))).run prog w=.ok (.bool (p.bt j)) w:=fun w hw=>ldb _ _ w (r.cell j _ (p.bit h) w hw)
theorem Prd.role {C:World→Prop} {g q j:Nat} {p:Pt} (r:Prd C g q p) (h:kdP[j]?=some (some .i64)):∀w,C w→(Instr.loadAt 44 (.pointer (some ⟨g,q+j,none⟩))).run prog w=.ok (.int .i64 (p.nm j)) w:=fun w hw=>ldr _ _ w (r.cell j _ (p.num h) w hw)
theorem w_n (op:BinOp) (x y:Operand) (a b:Int) (w:World):(eqGuard op 44 x y (.int .i64 a) (.int .i64 b)).run prog w=.ok () w:=by go_simp
theorem u_G (a b:Int) (w:World):(binOp .eql 44 (.int .i64 a) (.int .i64 b)).run prog w=.ok (.bool (a==b)) w:=by go_simp
theorem fp30:FAt 74 30 30:=fun b q w=>by go_simp
end
section
def bsP (n:Nat) (ps:Array (Nat×Value)):Sem Value:=Instr.buildSlice 37 n ps
theorem bs32 (n:Nat) (ps:Array (Nat×Value)):Instr.buildSlice 37 n ps=bsP n ps:=rfl
theorem z_bP:∀(l m:List Value) (k:Nat) (pre:List Value),l.length=m.length→pre.length=k→((l.zipIdx k).foldl (fun (cs:Array Value) (x:Value×Nat)=>cs.setIfInBounds (0+x.2) x.1) (pre++m).toArray)=(pre++l).toArray
 | [],[],k,pre,_,_=>by simp
 | x::l,y::m,k,pre,h,hp=>by
  rw[List.zipIdx_cons,List.foldl_cons];have e:((pre++y::m).toArray.setIfInBounds (0+k) x)=((pre++[x])++m).toArray:=by
   rw[Nat.zero_add,zA,List.set_append_right _ _ (by omega),hp,Nat.sub_self,zB];simp
  simp only;rw[e,z_bP l m (k+1) (pre++[x]) (by simpa using h) (by simp[hp])];simp
theorem v_F (p:Pt) (w:World):(bsP 1 #[(0,.agg p.cs)]).run prog w=.ok (.slice (some ⟨w.heap.size,0,none⟩) 1 1) (w.alloc (.cells p.cs 74)):=by
 have hz:∀V:World,(sizeOf 74).run prog V=.ok 77 V:=sizeOf74;have hv:(zeroValue 74).run prog w=.ok (.agg zeroP.cs) w:=by kernel_rfl
 have hu:prog.underlying 37=some (.slice 74):=underlying37;have hf:Instr.fill (fun i=>some (i*77,77)) ((Array.range (1*77)).map (zeroP.cs[·%zeroP.cs.size]!)) [(0,.agg p.cs)]=some p.cs:=by
  have hps:p.cs.size=77:=by rw[Row.csize,lenP]
  have e:((Array.range (1*77)).map (zeroP.cs[·%zeroP.cs.size]!)).size=77:=by simp
  unfold Instr.fill;simp only[Value.cells,hps,e];rw[if_neg (by simp)];unfold Instr.fill;have q:=z_bP p.cl ((Array.range (1*77)).map (zeroP.cs[·%zeroP.cs.size]!)).toList 0 [] (by rw[Array.length_toList,e,Pt.len]) rfl;simp only[List.nil_append,Array.toArray_toList] at q;have e2:p.cs=p.cl.toArray:=rfl;have e3:p.cs.zipIdx.toList=p.cl.zipIdx:=by rw[e2];simp
  rw[←Array.foldl_toList,e3,e2,Nat.zero_mul];exact congrArg some q
 unfold bsP Instr.buildSlice;simp only[Sem.run_bind,run_underlying hu,Result.andThen_ok,hz];simp[hv,hf,Value.cells];rfl
theorem z_i {fn:Func} {k t:Nat} (hr:fn.results=#[.cell k 39,.tmp t]) (tmps:Array Value) (w:World) (b:Nat) (h:Hd) (x:Value) (h2:tmps.getD k undef=.pointer (some ⟨b,0,none⟩)) (r:RvAt w b 39 (trc h x)) :
  (results fn tmps).run prog w=.ok (.tuple #[.agg (trc h x),tmps.getD t undef]) w:=by
 have hl:=r.lv rtT (z_c h x);have h2':tmps[k]?.getD undef=.pointer (some ⟨b,0,none⟩):=by simpa using h2
 simp[results,hr,asAddr,hl,h2']
structure TP (w W:World) (t d z:Nat) (h:Hd) (g o n c:Nat) (l:List Pt) (p:Pt):Prop where
 tre:TS w W t d h (.slice (some ⟨g,o,none⟩) n c)
 sl:SlAt W (some ⟨g,o,none⟩) n c l
 pv:RvAt W z 74 p.cs
 hz:w.heap.size≤z
 lt:g<w.heap.size
theorem TP.below {w W V:World} {t d z g o n c:Nat} {h:Hd} {l:List Pt} {p:Pt} (s:TP w W t d z h g o n c l p) (e:Below W.heap.size W V):TP w V t d z h g o n c l p:=⟨s.tre.below e,s.sl.below e,s.pv.below e,s.hz,s.lt⟩
attribute [local go_sem ↓] ldP stP ldT stT apE st32
attribute [local go_sem] v_o z_ad
attribute [local go_sem ↓] slP
end
section
theorem kb26:kdP[26]?=some none:=rfl
theorem u0:(0:Int)≤0∧(0:Int)≤255:=by decide
end
section
theorem TP.go {w W V:World} {t d z g o n c:Nat} {h:Hd} {l:List Pt} {p q:Pt} (s:TP w W t d z h g o n c l p) (r:RvAt V z 74 q.cs) (e:W.grownBy V (some z)):TP w V t d z h g o n c l q:=
 have n1:t≠z:=s.tre.var.apart s.pv (by decide);have n2:d≠z:=s.tre.out.apart s.pv (by decide)
 ⟨⟨s.tre.var.keptBut e (by simpa using n1),s.tre.out.keptBut e (by simpa using n2),gro s.tre.bel e s.hz s.tre.bel.size,s.tre.hd⟩,s.sl.keptBut e (fun x hx e'=>by cases hx;have:=s.lt;have:=s.hz;simp only[Option.some.injEq] at e';omega),r,s.hz,s.lt⟩
theorem TP.setB {w W:World} {t d z g o n c j:Nat} {h:Hd} {l:List Pt} {p:Pt} (s:TP w W t d z h g o n c l p) (hk:kdP[j]?=some none) (x:Bool):∃V,(stS 4 (.pointer (some ⟨z,j,none⟩)) (.bool x)).run prog W=.ok () V∧TP w V t d z h g o n c l (p.setB j hk x):=by
 obtain⟨V,e,h1,g⟩:=s.pv.setB hk x;exact⟨V,e,s.go h1 g⟩
theorem TP.setU {w W:World} {t d z g o n c j:Nat} {h:Hd} {l:List Pt} {p:Pt} (s:TP w W t d z h g o n c l p) (hk:kdP[j]?=some (some .u8)) {x:Int} (hx:0≤x∧x≤255):∃V,(stS 5 (.pointer (some ⟨z,j,none⟩)) (.int .u8 x)).run prog W=.ok () V∧TP w V t d z h g o n c l (p.setU j x):=by
 obtain⟨V,e,h1,g⟩:=s.pv.setU hk hx;exact⟨V,e,s.go h1 g⟩
attribute [local go_sem ↓] ldP stP ldT stT apE st32
attribute [local go_sem ↓] slP
end
section
def Fr (w:World) (a a':Option Addr):Prop:=a'=a∨∀x,a'=some x→w.heap.size≤x.block
end
section
structure PQ (w W:World) (g c i q:Nat) (l:List Pt) (p:Pt):Prop where
 pat:PAt W g c (l.set i p)
 gr:w.grownBy W (some g)
 hi:i<l.length
 hq:q=i*77
theorem PQ.start {W:World} {g c i q:Nat} {l:List Pt} {p:Pt} (h:PAt W g c l) (hp:l[i]?=some p) (hq:q=i*77):PQ W W g c i q l p:=by
 have hi:i<l.length:=(List.getElem?_eq_some_iff.1 hp).1;refine⟨?_,World.grownBy.refl _ _,hi,hq⟩;have e:gtP l i=p:=by
  have:=z_k hi;rw[hp] at this;exact (Option.some.inj this).symm
 rw[←e,y_d hi];exact h
theorem PQ.at' {w W:World} {g c i q:Nat} {l:List Pt} {p:Pt} (s:PQ w W g c i q l p):(l.set i p)[i]?=some p:=by
 rw[List.getElem?_set,if_pos rfl,if_pos s.hi]
theorem PQ.go {w W V:World} {g c i q:Nat} {l:List Pt} {p r:Pt} (s:PQ w W g c i q l p) (hp:PAt V g c ((l.set i p).set i r)) (e:W.grownBy V (some g)):PQ w V g c i q l r:=
 ⟨by rw[List.set_set] at hp;exact hp,z_n s.gr e,s.hi,s.hq⟩
theorem PQ.setB {w W:World} {g c i q j:Nat} {l:List Pt} {p:Pt} (s:PQ w W g c i q l p) (hk:kdP[j]?=some none) (x:Bool):∃V,(stS 4 (.pointer (some ⟨g,q+j,none⟩)) (.bool x)).run prog W=.ok () V∧PQ w V g c i q l (p.setB j hk x):=by
 obtain⟨V,e,h1,g1⟩:=s.pat.st1 (q:=q+j) (v:=.bool x) s.at' u_z.1 (by rw[←lenP];exact (List.getElem?_eq_some_iff.1 hk).1) rfl (y_x hk) (by rw[s.hq]);exact⟨V,e,s.go h1 g1⟩
theorem PQ.setU {w W:World} {g c i q j:Nat} {l:List Pt} {p:Pt} (s:PQ w W g c i q l p) (hk:kdP[j]?=some (some .u8)) {x:Int} (hx:0≤x∧x≤255):∃V,(stS 5 (.pointer (some ⟨g,q+j,none⟩)) (.int .u8 x)).run prog W=.ok () V∧PQ w V g c i q l (p.setU j x):=by
 obtain⟨V,e,h1,g1⟩:=s.pat.st1 (q:=q+j) (v:=.int .u8 x) s.at' u_z.2 (by rw[←lenP];exact (List.getElem?_eq_some_iff.1 hk).1) rfl (z_z hk (wf8 hx)) (by rw[s.hq]);rw[p.setU_is hk (wf8 hx)];exact⟨V,e,s.go h1 g1⟩
theorem PQ.setN {w W:World} {g c i q j:Nat} {l:List Pt} {p:Pt} (s:PQ w W g c i q l p) {t:TypeId} (ht:(prog.info? t).map (·.size)=some 1) (hk:kdP[j]?=some (some .i64)) {x:Int} (hx:(Lit.int .i64 x).wf=true):∃V,(stS t (.pointer (some ⟨g,q+j,none⟩)) (.int .i64 x)).run prog W=.ok () V∧PQ w V g c i q l (p.setN j hk x hx):=by
 obtain⟨V,e,h1,g1⟩:=s.pat.st1 (q:=q+j) (v:=.int .i64 x) s.at' ht (by rw[←lenP];exact (List.getElem?_eq_some_iff.1 hk).1) rfl (z_z hk hx) (by rw[s.hq]);exact⟨V,e,s.go h1 g1⟩
theorem PQ.num {w W:World} {g c i q j:Nat} {l:List Pt} {p:Pt} {k:IntKind} (s:PQ w W g c i q l p) (hk:kdP[j]?=some (some k)):W.cell? ⟨g,q+j,none⟩=some (.int k (p.nm j)):=s.pat.num s.at' hk (by rw[s.hq])
theorem PQ.bit {w W:World} {g c i q j:Nat} {l:List Pt} {p:Pt} (s:PQ w W g c i q l p) (hk:kdP[j]?=some none):W.cell? ⟨g,q+j,none⟩=some (.bool (p.bt j)):=s.pat.bit s.at' hk (by rw[s.hq])
attribute [local go_sem ↓] ldP stP stB stU stW ldT stT st32
abbrev TRes (w:World) (h:Hd) (n:Nat) (L:List Pt) (r:Ending) (w':World):Prop:=∃a' c',r=.returned (.agg (trc h (.slice a' n c')))∧SlAt w' a' n c' L∧Below w.heap.size w w'∧Nw w a'
end
end
section
open Go.RowKit
theorem z_d {fn:Func} {k n t:Nat} {ty:TypeId} (T:RowTy ty n) (hr:fn.results=#[.cell k ty,.tmp t]) (tmps:Array Value) (w:World) (b:Nat) (cs:Array Value) (h2:tmps.getD k undef=.pointer (some ⟨b,0,none⟩)) (h:RvAt w b ty cs) (hn:cs.size=n) :
  (results fn tmps).run prog w=.ok (.tuple #[.agg cs,tmps.getD t undef]) w:=by
 have hl:=h.lv T hn;have h2':tmps[k]?.getD undef=.pointer (some ⟨b,0,none⟩):=by simpa using h2
 simp[results,hr,asAddr,hl,h2']
theorem z_bB (W:World) (h:Hd) (v:Value) (hv:v.oneCell'=true):∃W',(stS 39 (.pointer (some ⟨W.heap.size,0,none⟩)) (.agg (trc h v))).run prog (W.alloc (.cells #[.int .u64 0,.int .u8 0,.int .u8 0,.int .u8 0,.int .u8 0,.int .u8 0,.bool false,.int .u16 0,.int .u64 0,.int .u32 0,.int .u64 0,.int .u16 0,.int .u8 0,.int .u8 0,.int .u8 0,.int .u8 0,.slice none 0 0] 39))=.ok () W'∧RvAt W' W.heap.size 39 (trc h v)∧Below W.heap.size W W'∧W'.heap.size=W.heap.size+1:=
 z_E rtT W zeroT _ rfl (z_c _ _) (x_A hv)
end
section
open Go.RowKit
def HeadAny (P:Program) (md:Region.Mode) (ops:Array Oper) (C:World→Prop) (n:Nat) (L:Array Bool→Act→Prop):Nat→Array Bool→Act→Prop
 | 0,listed,a=>L listed a
 | f+1,listed,a=>Region.ready md ops listed≠[]∧∀i∈Region.ready md ops listed,i<n∧qOp P ops C i (HeadAny P md ops C n L f (listed.setIfInBounds i true)) a
theorem HeadAny.any {P:Program} {ops:Array Oper} {md:Region.Mode} {C:World→Prop} {n g:Nat} {L:Array Bool→Act→Prop} {Q:Exit→Act→World→Prop} (hL:∀listed a w,C w→L listed a→wpAny P md ops Q g listed a w) :
  ∀(f:Nat) (listed:Array Bool) (a:Act) (w:World),C w→HeadAny P md ops C n L f listed a→wpAny P md ops Q (f+g) listed a w:=by
 intro f
 induction f with
 | zero=>intro listed a w hw h;rw[Nat.zero_add];exact hL _ _ _ hw h
 | succ f ih=>
  intro listed a w hw h;rw[show f+1+g=(f+g)+1 by omega];exact⟨fun h0=>absurd h0 h.1,fun i hi=>wpOp_of_qOp hw (fun a' w' hw' h'=>ih _ a' w' hw' h') (h.2 i hi).2⟩
theorem HeadAny.take {P:Program} {ops:Array Oper} {md:Region.Mode} {C:World→Prop} {n i:Nat} {oi:Oper} {v:Value} {L:Array Bool→Act→Prop} (hi:ops[i]?=some oi) (hsel:Region.noSelect ops=true)
  (hs:Region.sinkB md ops n=true) (hc:Region.chainB md ops n=true) (hn:n<ops.size) (hin:i<n) (hdone:∀listed a,L listed a→∀j∈Region.ready md ops listed,n≤j) :
  ∀(f:Nat) (listed:Array Bool) (a:Act),HeadInv md ops n listed →
   (∀j oj,ops[j]?=some oj→j≠i→listed.getD j true=false→(∀e∈oj.after,Region.binds md e=true→e.on≠i)→oi.apart ops oj=true) →
   i∈Region.ready md ops listed→YieldsIn P ops C oi v a →
   HeadAny P md ops C n L f (listed.setIfInBounds i true) (a.put oi.dst v)→HeadAny P md ops C n L (f+1) listed a:=by
 have sel:=Region.noSelect_spec hsel;have low:∀(listed:Array Bool),HeadInv md ops n listed→listed.getD i true=false→∀j∈Region.ready md ops listed,j<n:=fun listed inv hun j hj=>by
  rcases Nat.lt_or_ge j n with h | h
  ·exact h
  ·exact absurd hj (tail_waits hs hc hn inv _ i rfl hin hun j h)
 intro f
 induction f with
 | zero=>
  intro listed a inv _ hr hy H;refine⟨fun h=>(by rw[h] at hr;cases hr),fun j hj=>⟨low listed inv (mem_ready.1 hr).1 j hj,?_⟩⟩;by_cases hji:j=i
  ·subst hji;exact hy.qOp hi H
  ·have h1:=hdone _ _ H j (ready_mono hj hji);have h2:=low listed inv (mem_ready.1 hr).1 j hj;omega
 | succ f ih=>
  intro listed a inv hfree hr hy H;have hun:=(mem_ready.1 hr).1;refine⟨fun h=>(by rw[h] at hr;cases hr),fun j hj=>?_⟩;have hjn:=low listed inv hun j hj;refine⟨hjn,?_⟩;by_cases hji:j=i
  ·subst hji;exact hy.qOp hi H
  ·obtain⟨hjun,oj,hoj,hall⟩:=mem_ready.1 hj;have hnot:∀e∈oj.after,Region.binds md e=true→e.on≠i:=fun e he hb heq=>by
    have h1:=hall e he hb;rw[heq,getD_both hun] at h1;cases h1
   have h2:=qOp_put hoj (hfree j oj hoj hji hjun hnot) (fun cs b=>sel i oi cs b hi) (fun cs b=>sel j oj cs b hoj) hy (H.2 j (ready_mono hj hji)).2;refine qOp_mono (fun a' h3=>ih (listed.setIfInBounds j true) a' (inv.set hj hjn) (fun k ok hk hki hun' hno=>hfree k ok hk hki ?_ hno) (ready_mono hr (Ne.symm hji)) h3.1 ?_) h2
   ·by_cases hjk:j=k
    ·subst hjk;exact hjun
    ·rw[getD_set_ne true hjk] at hun';exact hun'
   ·rw[Array.setIfInBounds_comm _ _ hji];exact h3.2
theorem HeadAny.lex {P:Program} {ops:Array Oper} {md:Region.Mode} {C:World→Prop} {n g:Nat} {K:Act→Prop} (hsel:Region.noSelect ops=true) (hs:Region.sinkB md ops n=true) (hc:Region.chainB md ops n=true) (hn:n<ops.size) :
  ∀(l:List Oper) (k:Nat) (listed:Array Bool) (a:Act),(∀j,j<l.length→l[j]?=ops[k+j]?)→k+l.length=n→HeadInv md ops n listed →
  Region.lexHead md ops g l.length k listed=true→wpQuiet P ops C K l a →
  HeadAny P md ops C n (fun listed' a'=>Region.seqB md ops g n listed'=true∧K a') l.length listed a:=by
 intro l
 induction l with
 | nil=>
  intro k listed a _ hk _ hB h;have:k=n:=by simpa using hk
  subst this;exact⟨by simpa [Region.lexHead] using hB,h⟩
 | cons o l ih=>
  intro k listed a hl hk inv hB h;have h0:ops[k]?=some o:=by simpa using (hl 0 (by simp)).symm
  simp only[List.length_cons,Region.lexHead,Bool.and_eq_true] at hB;obtain⟨⟨hr,hf⟩,hB'⟩:=hB;have hkn:k<n:=by simp only[List.length_cons] at hk;omega
  have hr':k∈Region.ready md ops listed:=by simpa using hr
  have hst:qOp P ops C k (wpQuiet P ops C K l) a:=by unfold qOp;simp only[h0];exact h
  obtain⟨v,hy,hK⟩:=yieldsIn_of_qOp h0 hst;exact HeadAny.take h0 hsel hs hc hn hkn (fun listed' a' hL=>seqB_ready hL.1) l.length listed a inv (Region.free_spec h0 hf) hr' hy
   (ih (k+1) _ _ (fun j hj=>by have:=hl (j+1) (by simp;omega);simpa [Nat.add_assoc,Nat.add_comm 1 j] using this) (by simp only[List.length_cons] at hk;omega) (inv.set hr' hkn) hB' hK)
theorem wp_region_later_tail {P:Program} {id:Nat} {Q:Exit→Act→World→Prop} {a:Act} {w:World} {l:List Oper} (n:Nat) (hm:P.follows .mixedOrders=true) (hB:Region.lexTailB .any l.toArray n=true)
  (h:wpQuiet P l.toArray (fun w'=>∃x:Later w,w'=x.val) (fun a'=>∀x:Later w,wpList P l.toArray Q (l.drop n) a' x.val) (l.take n) a):(Code.region id l.toArray true).wp P Q a w:=by
 simp only[Region.lexTailB,Bool.and_eq_true,decide_eq_true_eq] at hB;obtain⟨⟨⟨⟨hsel,hn⟩,hs⟩,hc⟩,hlex⟩:=hB
 have htl:(l.take n).length=n:=by have:n<l.length:=by simpa using hn
                                  simp;omega
 have hdl:(l.drop n).length=l.toArray.size-n:=by simp
 have inv0:HeadInv .any l.toArray n (Array.replicate l.toArray.size false):=
  ⟨by simp,fun j oj _ hl=>(by rw[getD_replicate_false] at hl;cases hl),fun t _ ht=>getD_in (by simpa using ht) (getD_replicate_false _ _)⟩
 have H:=HeadAny.lex (md:=.any) (g:=l.toArray.size-n) hsel hs hc hn (l.take n) 0 _ a (fun j hj=>by
  have hj':j<n:=by rw[htl] at hj;exact hj
  simp[hj']) (by simpa using htl) inv0 (by rw[htl];exact hlex) h
 refine wp_region_any hm ?_;have:=HeadAny.any (Q:=Q) (g:=l.toArray.size-n) (fun listed a' w' hw' hL=>by
  obtain⟨x,rfl⟩:=hw';have:=wpAny_of_seq (md:=.any) (Q':=Q) (l.drop n) n listed a' x.val (fun j=>by simp[List.getElem?_drop]) (by rw[hdl];exact hL.1) (hL.2 x)
  rwa [hdl] at this) _ _ _ _ ⟨Later.mk _ (Below.refl _ w).drew,rfl⟩ H
 rw[htl,show n+(l.toArray.size-n)=l.toArray.size by omega] at this;exact this
end
end Go.Proofs.YtlchejbggnbccaaGreat
