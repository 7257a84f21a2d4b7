/-
  Slices of rows of any kind: what they lead to, what is loaded from them, appended to them, stored into them. Plain laws over the program's types. And what follows from it here.
-/
import Derived.Test.YtlchejbggnbccaaGreatPbb
import Derived.Test.YtlchejbggnbccaaGreatP11d
import Derived.Test.YtlchejbggnbccaaGreatP12a
import Derived.Test.YtlchejbggnbccaaGreatP13e
import Derived.Test.YtlchejbggnbccaaGreatP14a
import Derived.Test.YtlchejbggnbccaaGreatP15a
namespace Go.Proofs.YtlchejbggnbccaaGreat
set_option linter.unusedVariables false
set_option linter.unusedSimpArgs false
set_option maxRecDepth 4000
set_option maxHeartbeats 40000000
open _root_.Go.Proofs.Tryz
section
namespace S16
open Go.RowKit
structure El (α:Type) where
 f:α→Array Value
 ty:TypeId
 st:TypeId
 K:Nat
 B:Nat
structure El.Ok {α:Type} (e:El α):Prop where
 size:∀x,(e.f x).size=e.K
 pos:0<e.K
 one:∀x,∀v∈(e.f x).toList,v.oneCell'=true
 slc:prog.underlying e.st=some (.slice e.ty)
 info:∃z,(prog.info? e.ty).map (fun i=>(i.zero,i.size,i.bytes))=some (some z,e.K,e.B)∧z.cells.size=e.K
 byt:e.B≤1000
def El.fl {α:Type} (e:El α) (l:List α):List Value:=l.flatMap fun x=>(e.f x).toList
section
variable {α:Type} {e:El α}
theorem El.Ok.len (k:e.Ok) (x:α):(e.f x).toList.length=e.K:=by rw[Array.length_toList,k.size]
theorem El.fl_get (k:e.Ok):∀(l:List α) (t:Nat),(e.fl l)[t]?=(l[t / e.K]?).bind (fun x=>(e.f x).toList[t%e.K]?)
 | [],t=>by simp[El.fl]
 | x::r,t=>by
  have hp:=k.pos;unfold El.fl;rw[List.flatMap_cons];by_cases h:t<e.K
  ·rw[List.getElem?_append_left (by rw[k.len];exact h),Nat.div_eq_of_lt h,Nat.mod_eq_of_lt h];rfl
  ·have ih:=El.fl_get k r (t-e.K);unfold El.fl at ih;rw[List.getElem?_append_right (by rw[k.len];omega),k.len,ih];have h1:t / e.K=(t-e.K) / e.K+1:=by
    rw[←Nat.add_div_right _ hp,Nat.sub_add_cancel (by omega)]
   have h2:(t-e.K)%e.K=t%e.K:=by
    rw[←Nat.add_mod_right,Nat.sub_add_cancel (by omega)]
   rw[h1,h2,List.getElem?_cons_succ]
theorem El.fl_len (k:e.Ok) (l:List α):(e.fl l).length=l.length*e.K:=by
 induction l with
 | nil=>simp[El.fl]
 | cons x r ih=>
  unfold El.fl at ih ⊢;rw[List.flatMap_cons,List.length_append,ih,k.len,List.length_cons,Nat.add_mul,Nat.one_mul,Nat.add_comm]
theorem El.fl_one (k:e.Ok) (l:List α):∀v∈e.fl l,v.oneCell'=true:=by
 intro v hv;obtain⟨x,_,hx⟩:=List.mem_flatMap.1 hv;exact k.one x v hx
theorem El.fl_app (l m:List α):e.fl (l++m)=e.fl l++e.fl m:=by simp[El.fl]
theorem El.fl_at (k:e.Ok) {l:List α} {i j:Nat} {x:α} {v:Value} (hx:l[i]?=some x) (hv:(e.f x)[j]?=some v):(e.fl l)[i*e.K+j]?=some v:=by
 have hp:=k.pos;have hj:j<e.K:=by rw[←k.size x];exact (Array.getElem?_eq_some_iff.1 hv).1
 have d1:(i*e.K+j) / e.K=i:=by rw[Nat.mul_comm,Nat.mul_add_div hp,Nat.div_eq_of_lt hj,Nat.add_zero]
 have d2:(i*e.K+j)%e.K=j:=by rw[Nat.mul_comm,Nat.mul_add_mod,Nat.mod_eq_of_lt hj]
 rw[El.fl_get k,d1,d2,hx];simpa using hv
structure SlAt (e:El α) (W:World) (a:Option Addr) (n c:Nat) (l:List α):Prop where
 len:l.length=n
 cap:n≤c
 max:c≤maxLen
 nil:a=none→n=0∧c=0
 cells:∀x,a=some x→0<n→∃b o,x=⟨b,o,none⟩∧∀j u,(e.fl l)[j]?=some u→W.cell? ⟨b,o+j,none⟩=some u
 soft:∀x,a=some x→0<n→∃cs,RvAt W x.block e.ty cs
variable {W W':World} {a:Option Addr} {n c:Nat} {l:List α}
theorem SlAt.below (h:SlAt e W a n c l) (hb:Below W.heap.size W W'):SlAt e W' a n c l:=by
 refine⟨h.len,h.cap,h.max,h.nil,fun x hx h0=>?_,fun x hx h0=>(h.soft x hx h0).imp fun cs r=>r.below hb⟩;obtain⟨b,o,e,hc⟩:=h.cells x hx h0;exact⟨b,o,e,fun j u hj=>(hb.cell (World.block_lt_of_cell? W _ (hc j u hj))).trans (hc j u hj)⟩
theorem SlAt.keptBut {row:Option Nat} (h:SlAt e W a n c l) (hg:W.grownBy W' row) (hn:∀x,a=some x→0<n→some x.block≠row):SlAt e W' a n c l:=by
 refine⟨h.len,h.cap,h.max,h.nil,fun x hx h0=>?_,fun x hx h0=>(h.soft x hx h0).imp fun cs r=>r.keptBut hg (hn x hx h0)⟩;obtain⟨b,o,e,hc⟩:=h.cells x hx h0;refine⟨b,o,e,fun j u hj=>?_⟩;subst e;exact hg.cell (hc j u hj) (hn ⟨b,o,none⟩ hx h0)
theorem SlAt.none' (W:World):SlAt e W none 0 0 []:=⟨rfl,Nat.le_refl _,by simp,fun _=>⟨rfl,rfl⟩,(fun x h=>by cases h),fun x h=>by cases h⟩
theorem SlAt.keptV (h:SlAt e W a n c l) {b:Nat} {t:TypeId} {cs:Array Value} (r:RvAt W b t cs) (ht:t≠e.ty) (hg:W.grownBy W' (some b)):SlAt e W' a n c l:=h.keptBut hg (fun x hx h0 q=>by
 obtain⟨ds,rd⟩:=h.soft x hx h0;simp only[Option.some.injEq] at q;rw[q] at rd;have:=rd.symm.trans r;cases this;exact ht rfl)
theorem SlAt.some' (h:SlAt e W a n c l) (hn:0<n):∃b o,a=some ⟨b,o,none⟩:=by
 cases a with
 | none=>have:=(h.nil rfl).1;omega
 | some x=>
  obtain⟨b,o,e,_⟩:=h.cells x rfl hn;exact⟨b,o,by rw[e]⟩
theorem SlAt.cell (k:e.Ok) {b o:Nat} (h:SlAt e W (some ⟨b,o,none⟩) n c l) {i j q:Nat} {x:α} {v:Value} (hx:l[i]?=some x) (hv:(e.f x)[j]?=some v) (hq:q=o+(i*e.K+j)):W.cell? ⟨b,q,none⟩=some v:=by
 obtain⟨b',o',e',hc⟩:=h.cells _ rfl (by rw[←h.len];exact Nat.lt_of_le_of_lt (Nat.zero_le _) (List.getElem?_eq_some_iff.1 hx).1);cases e';rw[hq];exact hc _ _ (El.fl_at k hx hv)
theorem SlAt.part (k:e.Ok) {b o:Nat} (h:SlAt e W (some ⟨b,o,none⟩) n c l) {i j q:Nat} {x:α} {t:TypeId} {cs:Array Value} (hx:l[i]?=some x) (hv:∀r v,cs[r]?=some v→(e.f x)[j+r]?=some v) {d:TypeDesc} (hu:prog.underlying t=some d) (hr:d.isRow=true) (hi:(prog.info? t).map (·.size)=some cs.size) (hq:q=o+(i*e.K+j)):(ldS t (.pointer (some ⟨b,q,none⟩))).run prog W=.ok (.agg cs) W:=
 run_loadAt_mid W b q t cs.toList _ (fun r v hv'=>h.cell k hx (hv r v (by simpa using hv')) (by rw[hq];omega)) hu hr (by rw[Array.length_toList];exact hi)
theorem SlAt.ld (k:e.Ok) {b o:Nat} (h:SlAt e W (some ⟨b,o,none⟩) n c l) {i q:Nat} {x:α} (hx:l[i]?=some x) {d:TypeDesc} (hu:prog.underlying e.ty=some d) (hr:d.isRow=true) (hq:q=o+i*e.K):(ldS e.ty (.pointer (some ⟨b,q,none⟩))).run prog W=.ok (.agg (e.f x)) W:=by
 obtain⟨z,hz,_⟩:=k.info;obtain⟨i0,hi,hz0,hz1,hz2⟩:=info_parts hz;exact h.part k (j:=0) hx (fun r v h=>by rw[Nat.zero_add];exact h) hu hr (by rw[hi,k.size];simp[hz1]) hq
def Own (e:El α) (W:World) (B:Nat) (v:Value) (l:List α):Prop:=W.ownsRow B e.ty e.K v l.length (e.fl l)
variable {B:Nat} {v:Value}
theorem Own.form (h:Own e W B v l):∃a c,v=.slice a l.length c∧SlAt e W a l.length c l∧∀x,a=some x→B≤x.block∧x.block<W.heap.size:=by
 rcases h.2 with ⟨rfl,h0⟩ | ⟨g,cap,cur,rfl,hB,hb,h1,h2,h3,h4⟩
 ·have:l=[]:=List.eq_nil_of_length_eq_zero h0;subst this;exact⟨none,0,rfl,SlAt.none' W,fun x e=>by cases e⟩
 ·refine⟨some ⟨g,0,none⟩,cap,rfl,⟨rfl,h1,h2,(fun e=>by cases e),fun x e _=>?_,fun x e _=>by cases e;exact⟨cur,hb⟩⟩,fun x e=>?_⟩
  ·cases e;refine⟨g,0,rfl,fun j u hj=>?_⟩;rw[Nat.zero_add];refine u_N hb j u ?_;rw[←h4,List.getElem?_take] at hj
   split at hj
   ·rw[←Array.getElem?_toList];exact hj
   ·cases hj
  ·cases e;exact⟨hB,lt_of_block hb⟩
theorem Own.nil (W:World) (B:Nat):Own e W B (.slice none 0 0) []:=World.ownsRow_nil W B _ _
theorem Own.keptBut {row:Option Nat} (h:Own e W B v l) (hg:W.grownBy W' row) (hne:v.ownBlock=none∨v.ownBlock≠row):Own e W' B v l:=World.ownsRow.kept h hg hne
theorem Own.below (h:Own e W B v l) (hb:Below W.heap.size W W'):Own e W' B v l:=by
 refine h.keptBut (z_q hb none) ?_;cases v.ownBlock<;>simp
theorem Own.blk (h:Own e W B v l):∀k,v.ownBlock=some k→B≤k∧k<W.heap.size:=World.ownsRow.lt h
def apS (st ty:TypeId) (xs:Array Value):Sem Value:=Builtin.append_ #[st,st] ty xs
theorem Own.app (k:e.Ok) {m:List α} (h:Own e W B v l) (hs:SlAt e W a n c m) (hl:l.length+m.length≤100000) (hB:B≤W.heap.size) (ty:TypeId) :
  ∃v' W',(apS e.st ty #[v,.slice a n c]).run prog W=.ok v' W'∧Own e W' B v' (l++m)∧W.grownBy W' v.ownBlock:=by
 obtain⟨z,hz,hzs⟩:=k.info;obtain⟨i0,hi,hz0,hz1,hz2⟩:=info_parts hz;have hby:=k.byt;unfold apS;cases a with
 | none=>
  obtain⟨rfl,rfl⟩:=hs.nil rfl;have hm:m=[]:=List.eq_nil_of_length_eq_zero hs.len;subst hm;have hrun:=run_append_owned_none (P:=prog) (w:=W) B e.st ty e.ty i0 e.K k.slc hi v l.length _ h;exact⟨v,W,hrun,by rw[List.append_nil];exact h,World.grownBy.refl _ _⟩
 | some x=>
  by_cases hn0:n=0
  ·subst hn0;have hm:m=[]:=List.eq_nil_of_length_eq_zero hs.len;subst hm;obtain⟨v',W',hrun,h1,h2,_⟩:=run_append_own (P:=prog) W B e.st ty e.ty i0 z e.K e.B k.slc hi hz0 hz1 hz2 hzs k.pos v l.length _ h x 0 c [] (by simp)
    (fun j u hj=>by cases hj) (fun u hu=>by cases hu) (by unfold maxLen;omega) (by
     have:(l.length+0)*e.B≤100000*1000:=Nat.mul_le_mul (by omega) hby;omega) hB
   refine⟨v',W',hrun,?_,h2⟩;unfold Own;rw[List.append_nil] at h1 ⊢;exact h1
  obtain⟨b,o,rfl,hc⟩:=hs.cells x rfl (by omega);obtain⟨v',W',hrun,h1,h2,_⟩:=run_append_own (P:=prog) W B e.st ty e.ty i0 z e.K e.B k.slc hi hz0 hz1 hz2 hzs k.pos v l.length _ h ⟨b,o,none⟩ n c (e.fl m) (by rw[El.fl_len k,hs.len])
   (fun j u hj=>by rw[Addr.add_lit];exact hc j u hj) (El.fl_one k m) (by have:=hs.len;unfold maxLen;omega) (by
    have:=hs.len;have:(l.length+n)*e.B≤100000*1000:=Nat.mul_le_mul (by omega) hby;omega) hB
  refine⟨v',W',hrun,?_,h2⟩;unfold Own;rw[El.fl_app,List.length_append,hs.len];exact h1
theorem one_new (W:World) (x:α) (k:e.Ok):SlAt e (W.alloc (.cells (e.f x) e.ty)) (some ⟨W.heap.size,0,none⟩) 1 1 [x]:=by
 refine⟨rfl,Nat.le_refl _,by unfold maxLen;omega,(fun e=>by cases e),fun y e' _=>?_,fun y e' _=>by cases e';exact⟨_,RvAt.new W _ _⟩⟩;cases e';refine⟨_,_,rfl,fun j u hj=>?_⟩;rw[Nat.zero_add];refine RvAt.cell (RvAt.new W e.ty (e.f x)) j u ?_;have:e.fl [x]=(e.f x).toList:=by simp[El.fl]
 rw[this] at hj;rw[←Array.getElem?_toList];exact hj
def PAt (e:El α) (W:World) (g c:Nat) (l:List α):Prop:=
 ∃cur:Array Value,RvAt W g e.ty cur∧l.length≤c∧c≤maxLen∧cur.size=c*e.K∧cur.toList.take (l.length*e.K)=e.fl l
variable {g:Nat}
theorem PAt.lt (h:PAt e W g c l):g<W.heap.size:=by
 obtain⟨cur,hb,_⟩:=h;exact hb.lt
theorem PAt.own (k:e.Ok) (h:PAt e W g c l) (hB:B≤g):Own e W B (.slice (some ⟨g,0,none⟩) l.length c) l:=by
 obtain⟨cur,hb,h1,h2,h3,h4⟩:=h;exact⟨El.fl_len k l,Or.inr ⟨g,c,cur,rfl,hB,hb,h1,h2,h3,h4⟩⟩
theorem Own.pat (h:Own e W B v l):(v=.slice none 0 0∧l=[])∨∃g c,v=.slice (some ⟨g,0,none⟩) l.length c∧B≤g∧PAt e W g c l:=by
 rcases h.2 with ⟨rfl,h0⟩ | ⟨g,cap,cur,rfl,hB,hb,h1,h2,h3,h4⟩
 ·exact Or.inl ⟨rfl,List.eq_nil_of_length_eq_zero h0⟩
 ·exact Or.inr ⟨g,cap,rfl,hB,cur,hb,h1,h2,h3,h4⟩
end
end S16
end
section
namespace S17
open Go.RowKit
abbrev Ot:=S15.Ot
theorem kf6:kdP[6]?=some none:=rfl
structure Ps where
 l:List Pt
 b:Bool
 o:List Ot
 f:List Int
def opt {α:Type}:Option α→List α
 | none=>[]
 | some x=>[x]
def stK (h:Hd) (i:Nat) (s:Ps):Nat→Ps
 | 0=>⟨S11.stepL s.l (i:Int),s.b || S11.stepB s.l (i:Int),s.o,s.f⟩
 | 1=>⟨S13.stepL s.l (i:Int),s.b || S13.stepB s.l (i:Int),s.o,s.f⟩
 | 2=>⟨s.l.set i ((S14.pstO (gtP s.l i)).getD (gtP s.l i)),s.b || (S14.pstO (gtP s.l i)).isSome,s.o,s.f⟩
 | 3=>⟨(S14.tcmO h s.l i).getD s.l,s.b || (S14.tcmO h s.l i).isSome,s.o,s.f⟩
 | 4=>if (gtP s.l i).bt 6=true then ⟨s.l.set i ((gtP s.l i).setB 6 kf6 false),true,s.o,s.f++[(i:Int)]⟩ else s
 | 5=>⟨(S15.ppmO s.l i).getD s.l,s.b || (S15.ppmO s.l i).isSome,s.o,s.f⟩
 | 6=>⟨(S15.ptxO h s.l i).getD s.l,s.b || (S15.ptxO h s.l i).isSome,s.o++opt (S15.ptxU h s.l i),s.f⟩
 | _=>s
def ptN (h:Hd) (i:Nat):Nat→Ps→Ps
 | 0,s=>s
 | k+1,s=>stK h i (ptN h i k s) k
def ptF (h:Hd) (i:Nat) (s:Ps):Ps:=ptN h i 7 s
def psN (h:Hd):Nat→Ps→Ps
 | 0,s=>s
 | m+1,s=>ptF h m (psN h m s)
structure Ts where
 h:Hd
 s:Ps
def pass (n:Nat) (t:Ts):Ts:=⟨S12.stpH t.h t.s.l,psN (S12.stpH t.h t.s.l) n ⟨S12.stpL t.h t.s.l,S12.stpB t.h t.s.l,t.s.o,t.s.f⟩⟩
def runN (n:Nat):Nat→Ts→Ts
 | 0,t=>t
 | m+1,t=>if (pass n t).s.b=true then runN n m (pass n t) else pass n t
def cntN (n:Nat):Nat→Ts→Nat
 | 0,t=>1
 | m+1,t=>if (pass n t).s.b=true then cntN n m (pass n t)+1 else 1
def start (h:Hd) (l:List Pt):Ts:=⟨h,⟨l,false,[],[]⟩⟩
def runT (h:Hd) (l:List Pt):Ts:=runN l.length 100 (start h l)
def noteL:List Int→Int→List Int
 | [],i=>[i]
 | x::r,i=>if x<i then x::noteL r i else if x=i then x::r else i::x::r
def noted (l:List Int):List Int:=l.foldl noteL []
theorem z_cl (l:List Int) (i:Int):noted (l++[i])=noteL (noted l) i:=by simp[noted]
/-! ### what is told grows -/
theorem z_aJ {α:Type} (x:Option α):(opt x).length≤1:=by cases x<;>simp[opt]
theorem z_lM (h:Hd) (i:Nat) (s:Ps) (k:Nat):(stK h i s k).o.length≤s.o.length+(if k=6 then 1 else 0)∧(stK h i s k).f.length≤s.f.length+(if k=4 then 1 else 0):=by
 match k with
 | 0=>exact⟨by simp[stK],by simp[stK]⟩
 | 1=>exact⟨by simp[stK],by simp[stK]⟩
 | 2=>exact⟨by simp[stK],by simp[stK]⟩
 | 3=>exact⟨by simp[stK],by simp[stK]⟩
 | 4=>
  simp only[stK]
  split<;>simp
 | 5=>exact⟨by simp[stK],by simp[stK]⟩
 | 6=>
  have:=z_aJ (S15.ptxU h s.l i);exact⟨by simp[stK];omega,by simp[stK]⟩
 | k+7=>exact⟨by simp[stK],by simp[stK]⟩
theorem z_jt (h:Hd) (i:Nat) (s:Ps):∀k,(ptN h i k s).o.length≤s.o.length+(if 6<k then 1 else 0)∧(ptN h i k s).f.length≤s.f.length+(if 4<k then 1 else 0)
 | 0=>by simp[ptN]
 | k+1=>by
  have h1:=z_jt h i s k;have h2:=z_lM h i (ptN h i k s) k;simp only[ptN]
  constructor
  ·have a:=h1.1;have b:=h2.1
   split at a<;>split at b<;>split<;>omega
  ·have a:=h1.2;have b:=h2.2
   split at a<;>split at b<;>split<;>omega
theorem z_aG (h:Hd) (s:Ps):∀m,(psN h m s).o.length≤s.o.length+m∧(psN h m s).f.length≤s.f.length+m
 | 0=>by simp[psN]
 | m+1=>by
  have h1:=z_aG h s m;have h2:=z_jt h m (psN h m s) 7;simp only[psN,ptF];simp only[show (6<7)=True by simp,show (4<7)=True by simp,if_true] at h2;omega
end S17
end
section
namespace S17
open Go.RowKit
def eO:S16.El Ot:=⟨fun r=>r.cs,91,49,17,72⟩
def eI:S16.El Int:=⟨fun n=>#[.int .i64 n],3,50,1,8⟩
theorem z_ig {l:List Value} (h:l.all (fun v=>v.oneCell')=true):∀v∈l,v.oneCell'=true:=fun v hv=>List.all_eq_true.1 h v hv
def zeroO:Ot:=zeroR S15.kdO
theorem kO:eO.Ok:=⟨fun r=>by show r.cs.size=17;rw[Row.csize,S15.lenO],by decide,fun r=>r.one',underlying49,⟨.agg zeroO.cs,by kernel_rfl,by show zeroO.cs.size=17;rw[Row.csize,S15.lenO]⟩,by decide⟩
theorem kI:eI.Ok:=⟨fun _=>rfl,by decide,fun _=>z_ig rfl,underlying50,⟨.int .i64 0,by kernel_rfl,rfl⟩,by decide⟩
theorem z_L {W:World} {b b':Nat} {t t':TypeId} {cs cs':Array Value} (h:RvAt W b t cs) (h':RvAt W b' t' cs') (n:t≠t'):b≠b':=by
 intro e;subst e;have:=h.symm.trans h';cases this;exact n rfl
theorem z_x {α:Type} {e:S16.El α} {W:World} {B b:Nat} {v:Value} {l:List α} {t:TypeId} {cs:Array Value} (o:S16.Own e W B v l) (r:RvAt W b t cs) (n:t≠e.ty):v.ownBlock=none∨v.ownBlock≠some b:=by
 rcases o.pat with ⟨rfl,_⟩ | ⟨g,c,rfl,_,p⟩
 ·exact Or.inl rfl
 ·right
  obtain⟨cur,hc,_⟩:=p;intro e;simp only[Value.ownBlock,Option.some.injEq] at e;exact z_L hc r (Ne.symm n) e
theorem w_g {α:Type} {e:S16.El α} {W:World} {B:Nat} {v:Value} {l:List α} (o:S16.Own e W B v l):v.oneCell'=true:=by
 rcases o.pat with ⟨rfl,_⟩ | ⟨g,c,rfl,_,_⟩<;>rfl
def ldc (h:Hd) (x o f:Value):Array Value:=(h.cl++[x,o,f]).toArray
theorem y_U (h:Hd) (x o f:Value):(ldc h x o f).size=19:=by simp[ldc,h.len,lenH]
theorem infoD:(prog.info? 52).map (·.size)=some 2:=by kernel_rfl
theorem rtD:RowTy 52 2:=⟨infoD,_,underlying52,rfl⟩
theorem infoLO:(prog.info? 49).map (·.size)=some 1:=by kernel_rfl
theorem infoLI:(prog.info? 50).map (·.size)=some 1:=by kernel_rfl
theorem u_y (h:Hd) (x o f:Value):(ldc h x o f)[16]?=some x∧(ldc h x o f)[17]?=some o∧(ldc h x o f)[18]?=some f:=by
 have:=h.len;rw[lenH] at this;simp only[ldc,List.getElem?_toArray];refine⟨?_,?_,?_⟩<;>(rw[List.getElem?_append_right (by omega),this];rfl)
theorem z_bG {h:Hd} {x o f v:Value} {j:Nat} (hv:(trc h x)[j]?=some v):(ldc h x o f)[j]?=some v:=by
 have hl:=h.len;rw[lenH] at hl;have hj:=(Array.getElem?_eq_some_iff.1 hv).1;rw[z_c] at hj;simp only[trc,List.getElem?_toArray] at hv;simp only[ldc,List.getElem?_toArray];rw[show h.cl++[x,o,f]=(h.cl++[x])++[o,f] by simp,List.getElem?_append_left (by simp;omega)];exact hv
theorem z_lh (h g:Hd) (x y o f:Value):((ldc h x o f).toList.take 0++(trc g y).toList++(ldc h x o f).toList.drop (0+(trc g y).size)).toArray=ldc g y o f:=by
 have hl:=h.len;rw[lenH] at hl;rw[z_c];simp only[ldc,trc,List.take_zero,List.nil_append,Nat.zero_add];rw[show h.cl++[x,o,f]=(h.cl++[x])++[o,f] by simp,List.drop_append_of_le_length (by simp;omega),List.drop_eq_nil_of_le (by simp;omega)];simp
theorem z_lj (h:Hd) (x o f y:Value):((ldc h x o f).toList.set 17 y).toArray=ldc h x y f:=by
 have hl:=h.len;rw[lenH] at hl;simp only[ldc];rw[List.set_append,if_neg (by omega),hl];rfl
theorem z_li (h:Hd) (x o f y:Value):((ldc h x o f).toList.set 18 y).toArray=ldc h x o y:=by
 have hl:=h.len;rw[lenH] at hl;simp only[ldc];rw[List.set_append,if_neg (by omega),hl];rfl
theorem stLO (x y:Value):Instr.storeAt 49 x y=stS 49 x y:=rfl
theorem stLI (x y:Value):Instr.storeAt 50 x y=stS 50 x y:=rfl
theorem apLO (ty:TypeId) (xs:Array Value):Builtin.append_ #[49,49] ty xs=S16.apS 49 ty xs:=rfl
theorem apLI (ty:TypeId) (xs:Array Value):Builtin.append_ #[50,50] ty xs=S16.apS 50 ty xs:=rfl
theorem ldDn (x:Value):Instr.loadAt 52 x=ldS 52 x:=rfl
theorem stDn (x y:Value):Instr.storeAt 52 x y=stS 52 x y:=rfl
theorem _root_.Go.Proofs.YtlchejbggnbccaaGreat.SlAt.stp {W:World} {b o n c i:Nat} {l:List Pt} {p:Pt} (s:SlAt W (some ⟨b,o,none⟩) n c l) (hi:i<n) :
  ∃W',(stS 74 (.pointer (some ⟨b,o+i*77,none⟩)) (.agg p.cs)).run prog W=.ok () W'∧SlAt W' (some ⟨b,o,none⟩) n c (l.set i p)∧W.grownBy W' (some b):=by
 have hl:=s.len;obtain⟨cur,hb⟩:=s.soft _ rfl (by omega);simp only at hb;obtain⟨b',o',e,hc⟩:=s.cells _ rfl (by omega);cases e;have hcur:∀j u,(l.flatMap Row.cl)[j]?=some u→cur[o+j]?=some u:=fun j u hj=>by
  have:=hc j u hj;unfold World.cell? at this;rw[show W.heap[b]?=some (.cells cur 74 (0,0)) from hb] at this;simpa using this
 have hsz:o+n*77≤cur.size:=by
  have hf:=List.getElem?_eq_getElem (l:=l.flatMap Row.cl) (i:=n*77-1) (by rw[z_O,hl];omega);have:=(Array.getElem?_eq_some_iff.1 (hcur _ _ hf)).1;omega
 have hpz:p.cs.size=77:=by rw[Row.csize,lenP]
 have hin:o+i*77+77≤o+n*77:=by omega
 have hs:=z_A (ty:=74) (o:=o+i*77) (cs:=p.cs) hb (by rw[hpz];exact infoP) (by rw[hpz];omega) p.one';have hlen:(cur.toList.take (o+i*77)).length=o+i*77:=by rw[List.length_take,Array.length_toList];omega
 refine⟨_,hs,⟨⟨by rw[List.length_set];exact hl,s.cap,s.max,(fun e=>by cases e),fun x e _=>?_⟩,fun x e _=>?_⟩,z_m _ _ _⟩
 ·cases e;refine⟨b,o,rfl,fun j u hj=>?_⟩;refine RvAt.cell hb.set (o+j) u ?_;rw[List.getElem?_toArray];rw[z_K,List.getElem?_set] at hj;have hd:=Nat.div_add_mod j 77;have hm:=Nat.mod_lt j (show 0<77 by omega);by_cases hji:i=j / 77
  ·rw[if_pos hji,if_pos (by omega)] at hj;simp only[Option.bind_some] at hj;rw[List.append_assoc,List.getElem?_append_right (by rw[hlen];omega),hlen,show o+j-(o+i*77)=j%77 by omega,List.getElem?_append_left (by rw[Array.length_toList,hpz];omega)];exact hj
  ·rw[if_neg hji] at hj;have hold:=hcur j u (by rw[z_K];exact hj);have hju:j<n*77:=by
    rw[←z_K] at hj;have:=(List.getElem?_eq_some_iff.1 hj).1;rw[z_O,hl] at this;exact this
   by_cases hlt:j<i*77
   ·rw[List.append_assoc,List.getElem?_append_left (by rw[hlen];omega),List.getElem?_take,if_pos (by omega),Array.getElem?_toList];exact hold
   ·have hge:i*77+77≤j:=by omega
    rw[List.getElem?_append_right (by rw[List.length_append,hlen,Array.length_toList,hpz];omega),List.length_append,hlen,Array.length_toList,hpz,List.getElem?_drop,show o+i*77+77+(o+j-(o+i*77+77))=o+j by omega,Array.getElem?_toList];exact hold
 ·cases e;exact⟨_,hb.set⟩
theorem _root_.Go.Proofs.YtlchejbggnbccaaGreat.SlAt.stb {W:World} {b o n c i j:Nat} {l:List Pt} {p:Pt} {x:Bool} (s:SlAt W (some ⟨b,o,none⟩) n c l) (hp:l[i]?=some p) (hk:kdP[j]?=some none) :
  ∃W',(stS 4 (.pointer (some ⟨b,o+i*77+j,none⟩)) (.bool x)).run prog W=.ok () W'∧SlAt W' (some ⟨b,o,none⟩) n c (l.set i (p.setB j hk x))∧W.grownBy W' (some b):=by
 have hl:=s.len;have hil:i<l.length:=(List.getElem?_eq_some_iff.1 hp).1;have hj:j<77:=by rw[←lenP];exact (List.getElem?_eq_some_iff.1 hk).1
 obtain⟨cur,hb⟩:=s.soft _ rfl (by omega);simp only at hb;obtain⟨b',o',e,hc⟩:=s.cells _ rfl (by omega);cases e;have hcur:∀j u,(l.flatMap Row.cl)[j]?=some u→cur[o+j]?=some u:=fun j u hj=>by
  have:=hc j u hj;unfold World.cell? at this;rw[show W.heap[b]?=some (.cells cur 74 (0,0)) from hb] at this;simpa using this
 have hsz:o+n*77≤cur.size:=by
  have hf:=List.getElem?_eq_getElem (l:=l.flatMap Row.cl) (i:=n*77-1) (by rw[z_O,hl];omega);have:=(Array.getElem?_eq_some_iff.1 (hcur _ _ hf)).1;omega
 have hs:=RvAt.st1 (tv:=4) (k:=o+i*77+j) (v:=.bool x) hb x_S.1 (by omega) rfl;refine⟨_,hs,⟨⟨by rw[List.length_set];exact hl,s.cap,s.max,(fun e=>by cases e),fun y e _=>?_⟩,fun y e _=>?_⟩,z_m _ _ _⟩
 ·cases e;refine⟨b,o,rfl,fun t u ht=>?_⟩;refine RvAt.cell hb.set (o+t) u ?_;rw[List.getElem?_toArray,List.getElem?_set];rw[z_K,List.getElem?_set] at ht;have hd:=Nat.div_add_mod t 77;have hm:=Nat.mod_lt t (show 0<77 by omega);by_cases hji:i=t / 77
  ·rw[if_pos hji,if_pos (by omega)] at ht;simp only[Option.bind_some] at ht;have hq:=Row.setB_get p hk x (t%77);rw[hq] at ht;by_cases htj:t%77=j
   ·rw[if_pos htj] at ht;rw[if_pos (by omega),if_pos (by rw[Array.length_toList];omega)];exact ht
   ·rw[if_neg htj] at ht;rw[if_neg (by omega),Array.getElem?_toList];refine hcur t u ?_;rw[z_K,← hji,hp];exact ht
  ·rw[if_neg hji] at ht;rw[if_neg (by omega),Array.getElem?_toList];exact hcur t u (by rw[z_K];exact ht)
 ·cases e;exact⟨_,hb.set⟩
theorem z_gN {α:Type} {e:S16.El α} {W:World} {B:Nat} {v:Value} {l:List α} (k:e.Ok) (o:S16.Own e W B v l) (hB:B≤W.heap.size) (hl:l.length≤90000) (p:α) (ty:TypeId) :
  ∃v' W',(S16.apS e.st ty #[v,.slice (some ⟨W.heap.size,0,none⟩) 1 1]).run prog (W.alloc (.cells (e.f p) e.ty))=.ok v' W'∧S16.Own e W' B v' (l++[p])∧W.grownBy W' v.ownBlock:=by
 have bA:Below W.heap.size W (W.alloc (.cells (e.f p) e.ty)):=(Below.refl _ _).alloc (Nat.le_refl _) _;obtain⟨v',W',ap,o2,g2⟩:=(o.below bA).app k (S16.one_new W p k) (by simp;omega) (Nat.le_trans hB bA.size) ty;exact⟨v',W',ap,o2,z_n (z_q bA _) g2⟩
theorem z_if {W:World} {v:Value} {u:Option Ot} (h:S15.OutAt W v u):∃a m c,v=.slice a m c∧S16.SlAt eO W a m c (opt u):=by
 cases u with
 | none=>exact⟨none,0,0,h,S16.SlAt.none' W⟩
 | some r=>
  obtain⟨b,rfl,hb⟩:=h;refine⟨some ⟨b,0,none⟩,1,1,rfl,rfl,Nat.le_refl _,by unfold maxLen;omega,(fun e=>by cases e),fun y e' _=>?_,fun y e' _=>by cases e';exact⟨_,hb⟩⟩;cases e';refine⟨_,_,rfl,fun j u hj=>?_⟩;rw[Nat.zero_add];refine hb.cell j u ?_;have:eO.fl (opt (some r))=r.cs.toList:=by simp[S16.El.fl,opt,eO]
  rw[this] at hj;rw[←Array.getElem?_toList];exact hj
def Kp (W V:World):Prop:=∀(b:Nat) (t:TypeId) (cs:Array Value),RvAt W b t cs→t≠109→t≠74→t≠91→t≠3→RvAt V b t cs
theorem Kp.of {W V:World} (k:Below W.heap.size W V):Kp W V:=fun b t cs r _ _ _ _=>r.below k
theorem Kp.trans {W V U:World} (h:Kp W V) (k:Kp V U):Kp W U:=fun b t cs r h1 h2 h3 h4=>k b t cs (h b t cs r h1 h2 h3 h4) h1 h2 h3 h4
theorem Kp.row {W V:World} {b:Nat} {t:TypeId} {cs:Array Value} (r:RvAt W b t cs) (g:W.grownBy V (some b)) (ht:t=109∨t=74∨t=91∨t=3):Kp W V:=fun b' t' cs' r' h1 h2 h3 h4=>r'.keptBut g (by
 have:b'≠b:=z_L r' r (by rcases ht with rfl | rfl | rfl | rfl<;>assumption);simpa using this)
theorem Kp.own {α:Type} {e:S16.El α} {W V:World} {B:Nat} {v:Value} {l:List α} (o:S16.Own e W B v l) (g:W.grownBy V v.ownBlock) (ht:e.ty=91∨e.ty=3):Kp W V:=fun b' t' cs' r' h1 h2 h3 h4=>r'.keptBut g (by
 rcases z_x o r' (by rcases ht with q | q<;>rw[q]<;>assumption) with q | q
 ·rw[q];simp
 ·exact fun e=>q e.symm)
structure LS (w W:World) (L:Nat) (h:Hd) (a:Option Addr) (n c:Nat) (l:List Pt) (vo vf:Value) (os:List Ot) (fs:List Int):Prop where
 var:RvAt W L 109 (ldc h (.slice a n c) vo vf)
 sl:SlAt W a n c l
 nw:Nw w a
 ou:S16.Own eO W w.heap.size vo os
 fl:S16.Own eI W w.heap.size vf fs
 bel:Below w.heap.size w W
 hL:w.heap.size≤L
theorem LS.below {w W V:World} {L n c:Nat} {h:Hd} {a:Option Addr} {l:List Pt} {vo vf:Value} {os:List Ot} {fs:List Int} (s:LS w W L h a n c l vo vf os fs) (k:Below W.heap.size W V):LS w V L h a n c l vo vf os fs:=
 ⟨s.var.below k,s.sl.below k,s.nw,s.ou.below k,s.fl.below k,z_a s.bel k,s.hL⟩
theorem LS.tld {w W:World} {L n c:Nat} {h:Hd} {a:Option Addr} {l:List Pt} {vo vf:Value} {os:List Ot} {fs:List Int} (s:LS w W L h a n c l vo vf os fs):(ldS 39 (.pointer (some ⟨L,0,none⟩))).run prog W=.ok (.agg (trc h (.slice a n c))) W:=
 run_loadAt_mid W L 0 39 (trc h (.slice a n c)).toList _ (fun j v hv=>by
  rw[Nat.zero_add];exact s.var.cell j v (z_bG (by simpa using hv))) underlying39 rfl (by rw[Array.length_toList,z_c];exact infoT)
theorem LS.c16 {w W:World} {L n c:Nat} {h:Hd} {a:Option Addr} {l:List Pt} {vo vf:Value} {os:List Ot} {fs:List Int} (s:LS w W L h a n c l vo vf os fs):W.cell? ⟨L,16,none⟩=some (.slice a n c):=s.var.cell 16 _ (u_y _ _ _ _).1
theorem LS.c17 {w W:World} {L n c:Nat} {h:Hd} {a:Option Addr} {l:List Pt} {vo vf:Value} {os:List Ot} {fs:List Int} (s:LS w W L h a n c l vo vf os fs):W.cell? ⟨L,17,none⟩=some vo:=s.var.cell 17 _ (u_y _ _ _ _).2.1
theorem LS.c18 {w W:World} {L n c:Nat} {h:Hd} {a:Option Addr} {l:List Pt} {vo vf:Value} {os:List Ot} {fs:List Int} (s:LS w W L h a n c l vo vf os fs):W.cell? ⟨L,18,none⟩=some vf:=s.var.cell 18 _ (u_y _ _ _ _).2.2
theorem LS.lo {w W:World} {L n c:Nat} {h:Hd} {a:Option Addr} {l:List Pt} {vo vf:Value} {os:List Ot} {fs:List Int} (s:LS w W L h a n c l vo vf os fs):vo.ownBlock=none∨vo.ownBlock≠some L:=z_x s.ou s.var (by decide)
theorem LS.lf {w W:World} {L n c:Nat} {h:Hd} {a:Option Addr} {l:List Pt} {vo vf:Value} {os:List Ot} {fs:List Int} (s:LS w W L h a n c l vo vf os fs):vf.ownBlock=none∨vf.ownBlock≠some L:=z_x s.fl s.var (by decide)
theorem LS.tree {w W:World} {L n c c':Nat} {h h':Hd} {a a':Option Addr} {l l':List Pt} {vo vf:Value} {os:List Ot} {fs:List Int} (s:LS w W L h a n c l vo vf os fs) (hs:SlAt W a' n c' l') (hn:Nw w a') :
  ∃V,(stS 39 (.pointer (some ⟨L,0,none⟩)) (.agg (trc h' (.slice a' n c')))).run prog W=.ok () V∧LS w V L h' a' n c' l' vo vf os fs∧Kp W V:=by
 have hs':=z_A (ty:=39) (o:=0) (cs:=trc h' (.slice a' n c')) s.var (by rw[z_c];exact infoT) (by rw[z_c,y_U];omega) (x_A rfl);rw[z_lh] at hs';exact⟨_,hs',⟨s.var.set,hs.keptZ s.var (by rw[y_U];omega) (z_m _ _ _),hn,s.ou.keptBut (z_m _ _ _) s.lo,s.fl.keptBut (z_m _ _ _) s.lf,gro s.bel (z_m _ _ _) s.hL s.bel.size,s.hL⟩,Kp.row s.var (z_m _ _ _) (Or.inl rfl)⟩
theorem LS.outs {w W X:World} {L n c:Nat} {h:Hd} {a:Option Addr} {l:List Pt} {vo vf vo':Value} {os os':List Ot} {fs:List Int} (s:LS w W L h a n c l vo vf os fs) (g:W.grownBy X vo.ownBlock) (ho:S16.Own eO X w.heap.size vo' os') :
  ∃V,(stS 49 (.pointer (some ⟨L,17,none⟩)) vo').run prog X=.ok () V∧LS w V L h a n c l vo' vf os' fs∧(∀(a':Option Addr) (n' c':Nat) (l':List Pt),SlAt W a' n' c' l'→SlAt V a' n' c' l')∧(∀(b:Nat) (t:TypeId) (cs:Array Value),RvAt W b t cs→t≠91→t≠109→RvAt V b t cs):=by
 have hv:RvAt X L 109 (ldc h (.slice a n c) vo vf):=s.var.keptBut g (by rcases s.lo with e | e<;>simp_all [Ne.symm]);have ksl:∀(a':Option Addr) (n' c':Nat) (l':List Pt),SlAt W a' n' c' l'→SlAt X a' n' c' l':=fun a' n' c' l' q=>by
  by_cases h0:0<n'
  ·refine q.keptBut g (fun x hx e=>?_);obtain⟨cs,r⟩:=q.soft x hx h0;rcases z_x s.ou r (by decide) with q | q
   ·rw[q] at e;cases e
   ·exact q e.symm
  ·exact⟨⟨q.len,q.cap,q.max,q.nil,fun y _ h1=>absurd h1 h0⟩,fun y _ h1=>absurd h1 h0⟩
 have hf:S16.Own eI X w.heap.size vf fs:=by
  refine s.fl.keptBut g ?_;rcases s.ou.pat with ⟨e,_⟩ | ⟨gg,cc,rfl,_,p⟩
  ·subst e;exact (Classical.em (vf.ownBlock=none)).imp id fun q e=>q e
  ·obtain⟨cur,hc,_⟩:=p;exact z_x s.fl hc (by decide)
 have hb:Below w.heap.size w X:=s.bel.trans (z_h g s.bel.size (fun j e=>(s.ou.blk j e).1));have hs:=RvAt.st1 (tv:=49) (k:=17) (v:=vo') hv infoLO (by rw[y_U];omega) (w_g ho);rw[z_lj] at hs;have gr:=z_m X L (ldc h (.slice a n c) vo' vf)
 refine⟨_,hs,⟨hv.set,(ksl _ _ _ _ s.sl).keptZ hv (by rw[y_U];omega) gr,s.nw,ho.keptBut gr (z_x ho hv (by decide)),hf.keptBut gr (z_x hf hv (by decide)),gro hb gr s.hL hb.size,s.hL⟩,fun a' n' c' l' q=>(ksl a' n' c' l' q).keptZ hv (by rw[y_U];omega) gr,fun b t cs r n1 n2=>?_⟩;have rX:RvAt X b t cs:=r.keptBut g (by
  rcases z_x s.ou r n1 with q | q
  ·rw[q];simp
  ·exact fun e=>q e.symm)
 exact rX.keptBut gr (by have:=z_L rX hv n2;simpa using this)
theorem LS.flus {w W X:World} {L n c:Nat} {h:Hd} {a:Option Addr} {l:List Pt} {vo vf vf':Value} {os:List Ot} {fs fs':List Int} (s:LS w W L h a n c l vo vf os fs) (g:W.grownBy X vf.ownBlock) (ho:S16.Own eI X w.heap.size vf' fs') :
  ∃V,(stS 50 (.pointer (some ⟨L,18,none⟩)) vf').run prog X=.ok () V∧LS w V L h a n c l vo vf' os fs'∧Kp W V:=by
 have hv:RvAt X L 109 (ldc h (.slice a n c) vo vf):=s.var.keptBut g (by rcases s.lf with e | e<;>simp_all [Ne.symm]);have hsl:SlAt X a n c l:=by
  by_cases h0:0<n
  ·refine s.sl.keptBut g (fun x hx e=>?_);obtain⟨cs,r⟩:=s.sl.soft x hx h0;rcases z_x s.fl r (by decide) with q | q
   ·rw[q] at e;cases e
   ·exact q e.symm
  ·exact⟨⟨s.sl.len,s.sl.cap,s.sl.max,s.sl.nil,fun y _ h1=>absurd h1 h0⟩,fun y _ h1=>absurd h1 h0⟩
 have hf:S16.Own eO X w.heap.size vo os:=by
  refine s.ou.keptBut g ?_;rcases s.fl.pat with ⟨e,_⟩ | ⟨gg,cc,rfl,_,p⟩
  ·subst e;exact (Classical.em (vo.ownBlock=none)).imp id fun q e=>q e
  ·obtain⟨cur,hc,_⟩:=p;exact z_x s.ou hc (by decide)
 have hb:Below w.heap.size w X:=s.bel.trans (z_h g s.bel.size (fun j e=>(s.fl.blk j e).1));have hs:=RvAt.st1 (tv:=50) (k:=18) (v:=vf') hv infoLI (by rw[y_U];omega) (w_g ho);rw[z_li] at hs;have gr:=z_m X L (ldc h (.slice a n c) vo vf')
 exact⟨_,hs,⟨hv.set,hsl.keptZ hv (by rw[y_U];omega) gr,s.nw,hf.keptBut gr (z_x hf hv (by decide)),ho.keptBut gr (z_x ho hv (by decide)),gro hb gr s.hL hb.size,s.hL⟩,(Kp.own s.fl g (Or.inr rfl)).trans (Kp.row hv gr (Or.inl rfl))⟩
theorem LS.ports {w W V:World} {L n c b o:Nat} {h:Hd} {l l':List Pt} {vo vf:Value} {os:List Ot} {fs:List Int} (s:LS w W L h (some ⟨b,o,none⟩) n c l vo vf os fs) (hn:0<n) (hs:SlAt V (some ⟨b,o,none⟩) n c l') (g:W.grownBy V (some b)):LS w V L h (some ⟨b,o,none⟩) n c l' vo vf os fs:=by
 obtain⟨cs,r⟩:=s.sl.soft _ rfl hn;simp only at r;have hbL:b≠L:=z_L r s.var (by decide);exact⟨s.var.keptBut g (by simp;omega),hs,s.nw,s.ou.keptBut g (z_x s.ou r (by decide)),s.fl.keptBut g (z_x s.fl r (by decide)),gro s.bel g (s.nw _ rfl) s.bel.size,s.hL⟩
end S17
end
section
namespace S17
open Go.RowKit
def slG (t:TypeId) (x:Value) (lo hi mx:Option Value):Sem Value:=Instr.sliceAt t x lo hi mx
theorem slI (x:Value) (lo hi mx:Option Value):Instr.sliceAt 50 x lo hi mx=slG 50 x lo hi mx:=rfl
def adv (a:Option Addr) (k c s:Nat):Option Addr:=if c=k then a else a.map (·.add (k*s))
theorem unI:prog.underlying 50=some (.slice (prog.elem 50)):=by kernel_rfl
theorem elI:prog.elem 50=3:=by kernel_rfl
theorem z_lO (a:Option Addr) (n c k:Nat) (hk:k≤n) (hc:n≤c) (V:World):(slG 50 (.slice a n c) none (some (.int .i64 (k:Int))) none).run prog V=.ok (.slice a k c) V:=by
 have hz:=sizeOf3;unfold slG;rw[run_sliceAt_slice _ _ _ _ _ _ unI,run_slice_h V 50 a n c unI .i64 (k:Int) (by omega) (by omega),elI,hz V];simp only[Result.andThen_ok,sliced,Int.toNat_natCast];cases a<;>simp[Addr.add]
theorem z_lN (a:Option Addr) (n c k:Nat) (hk:k≤n) (V:World):(slG 50 (.slice a n c) (some (.int .i64 (k:Int))) none none).run prog V=.ok (.slice (adv a k c 1) (n-k) (c-k)) V:=by
 have hz:=sizeOf3;unfold slG;rw[run_sliceAt_slice _ _ _ _ _ _ unI,run_slice_l V 50 a n c unI .i64 (k:Int) (by omega) (by omega),elI,hz V];simp only[Result.andThen_ok,sliced,Int.toNat_natCast,adv]
section
variable {α:Type} {e:S16.El α} {W:World} {a:Option Addr} {n c:Nat} {l:List α}
theorem x_Y (h:S16.SlAt e W a n c l) {k:Nat} (hk:k≤n) (ke:e.Ok):S16.SlAt e W a k c (l.take k):=by
 refine⟨by rw[List.length_take,h.len];omega,by have:=h.cap;omega,h.max,fun q=>⟨by have:=(h.nil q).1;omega,(h.nil q).2⟩,fun x hx h0=>?_,fun x hx h0=>h.soft x hx (by omega)⟩;obtain⟨b,o,e',hc⟩:=h.cells x hx (by omega);refine⟨b,o,e',fun j u hj=>hc j u ?_⟩;rw[S16.El.fl_get ke] at hj ⊢;rw[List.getElem?_take] at hj
 split at hj
 ·exact hj
 ·cases hj
theorem x_Z (h:S16.SlAt e W a n c l) {k:Nat} (hk:k≤n) (ke:e.Ok):S16.SlAt e W (adv a k c e.K) (n-k) (c-k) (l.drop k):=by
 have hcap:=h.cap;have hmax:=h.max;refine⟨by rw[List.length_drop,h.len],by omega,by omega,fun q=>?_,fun x hx h0=>?_,fun x hx h0=>?_⟩
 ·have:a=none:=by
   unfold adv at q
   split at q
   ·exact q
   ·cases a with
    | none=>rfl
    | some y=>cases q
  have:=h.nil this;omega
 ·unfold adv at hx;rw[if_neg (by omega)] at hx;cases a with
  | none=>cases hx
  | some y=>
   obtain⟨b,o,rfl,hc⟩:=h.cells y rfl (by omega);simp only[Option.map_some,Option.some.injEq] at hx;subst hx;refine⟨b,o+k*e.K,Addr.add_lit _ _ _,fun j u hj=>?_⟩;rw[Nat.add_assoc];refine hc _ u ?_;rw[S16.El.fl_get ke] at hj ⊢;rw[List.getElem?_drop] at hj;have hp:=ke.pos;rw[show k*e.K+j=j+e.K*k by rw[Nat.mul_comm,Nat.add_comm],Nat.add_mul_div_left _ _ hp,Nat.add_mul_mod_self_left,Nat.add_comm]
   exact hj
 ·unfold adv at hx;rw[if_neg (by omega)] at hx;cases a with
  | none=>cases hx
  | some y=>
   simp only[Option.map_some,Option.some.injEq] at hx;subst hx;obtain⟨b,o,rfl,_⟩:=h.cells y rfl (by omega);rw[Addr.add_lit];exact h.soft ⟨b,o,none⟩ rfl (by omega)
theorem x_H (W:World) (B:Nat) (hB:B≤W.heap.size):S16.Own e (W.alloc (.cells #[] e.ty)) B (.slice (some ⟨W.heap.size,0,none⟩) 0 0) []:=
 ⟨by simp[S16.El.fl],Or.inr ⟨W.heap.size,0,#[],rfl,hB,x_x W _,Nat.le_refl _,by simp,by simp,by simp[S16.El.fl]⟩⟩
end
end S17
end
end Go.Proofs.YtlchejbggnbccaaGreat
