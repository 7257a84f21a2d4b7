/-
  Rules in memory: slices of them, built, appended, loaded. Plain laws over the program's types. And what follows from it here.
-/
import Derived.Test.YtlchejbggnbccaaGreatPbb
import Derived.Test.YtlchejbggnbccaaGreatP13a
namespace Go.Proofs.YtlchejbggnbccaaGreat
set_option linter.unusedVariables false
set_option linter.unusedSimpArgs false
set_option maxRecDepth 4000
set_option maxHeartbeats 40000000
open _root_.Go.Proofs.Tryz
section
namespace S13
open Go.RowKit
def dv (b F:Nat):Value:=.func (.func F) #[.pointer (some ⟨b,0,none⟩)] #[]
def rc (b:Nat) (x:Bool×Nat):List Value:=[.bool x.1,dv b x.2]
def rcs (b:Nat) (rs:List (Bool×Nat)):List Value:=rs.flatMap (rc b)
theorem u_i (b:Nat) (rs:List (Bool×Nat)):(rcs b rs).length=rs.length*2:=by
 induction rs with
 | nil=>rfl
 | cons x r ih=>rw[rcs,List.flatMap_cons,List.length_append,← rcs,ih,List.length_cons];simp[rc];omega
theorem z_iZ (b:Nat) (rs:List (Bool×Nat)):∀v∈rcs b rs,v.oneCell'=true:=by
 intro v hv;obtain⟨x,_,hx⟩:=List.mem_flatMap.1 hv;simp only[rc,List.mem_cons,List.not_mem_nil,or_false] at hx;rcases hx with rfl | rfl<;>rfl
theorem z_kT {b i:Nat} {rs:List (Bool×Nat)} {x:Bool×Nat} (h:rs[i]?=some x):(rcs b rs)[i*2]?=some (.bool x.1)∧(rcs b rs)[i*2+1]?=some (dv b x.2):=by
 induction rs generalizing i with
 | nil=>simp at h
 | cons y r ih=>
  rw[rcs,List.flatMap_cons];cases i with
  | zero=>
   simp only[List.getElem?_cons_zero,Option.some.injEq] at h;subst h;exact⟨rfl,rfl⟩
  | succ i=>
   rw[List.getElem?_cons_succ] at h;obtain⟨h1,h2⟩:=ih h;have e:(rc b y).length=2:=rfl;rw[List.getElem?_append_right (by rw[e];omega),List.getElem?_append_right (by rw[e];omega),e,show (i+1)*2-2=i*2 by omega,show (i+1)*2+1-2=i*2+1 by omega];exact⟨h1,h2⟩
theorem z_ja (b:Nat) (r s:List (Bool×Nat)):rcs b (r++s)=rcs b r++rcs b s:=List.flatMap_append
def OwnR (W:World) (B:Nat) (v:Value) (b:Nat) (rs:List (Bool×Nat)):Prop:=W.ownsRow B 186 2 v rs.length (rcs b rs)
theorem OwnR.nil (W:World) (B b:Nat):OwnR W B (.slice none 0 0) b []:=World.ownsRow_nil W B _ _
theorem OwnR.keptBut {W W':World} {B b:Nat} {v:Value} {rs:List (Bool×Nat)} {row:Option Nat} (h:OwnR W B v b rs) (hg:W.grownBy W' row) (hne:v.ownBlock=none∨v.ownBlock≠row):OwnR W' B v b rs:=World.ownsRow.kept h hg hne
theorem OwnR.below {W W':World} {B b:Nat} {v:Value} {rs:List (Bool×Nat)} (h:OwnR W B v b rs) (hb:Below W.heap.size W W'):OwnR W' B v b rs:=by
 refine h.keptBut (z_q hb none) ?_;cases v.ownBlock<;>simp
structure RsAt (W:World) (a:Option Addr) (n c b:Nat) (rs:List (Bool×Nat)):Prop where
 len:rs.length=n
 cap:n≤c
 max:c≤maxLen
 nil:a=none→n=0∧c=0
 form:∀x,a=some x→∃g,x=⟨g,0,none⟩
 cells:∀g,a=some ⟨g,0,none⟩→∀j u,(rcs b rs)[j]?=some u→W.cell? ⟨g,j,none⟩=some u
theorem RsAt.below {W W':World} {a:Option Addr} {n c b:Nat} {rs:List (Bool×Nat)} (h:RsAt W a n c b rs) (hb:Below W.heap.size W W'):RsAt W' a n c b rs:=
 ⟨h.len,h.cap,h.max,h.nil,h.form,fun g e j u hj=>(hb.cell (World.block_lt_of_cell? W _ (h.cells g e j u hj))).trans (h.cells g e j u hj)⟩
theorem OwnR.form {W:World} {B b:Nat} {v:Value} {rs:List (Bool×Nat)} (h:OwnR W B v b rs):∃a c,v=.slice a rs.length c∧RsAt W a rs.length c b rs∧∀x,a=some x→B≤x.block∧x.block<W.heap.size:=by
 rcases h.2 with ⟨rfl,h0⟩ | ⟨g,cap,cur,rfl,hB,hb,h1,h2,h3,h4⟩
 ·have:rs=[]:=List.eq_nil_of_length_eq_zero h0;subst this;exact⟨none,0,rfl,⟨rfl,Nat.le_refl _,by simp,fun _=>⟨rfl,rfl⟩,(fun x e=>by cases e),(fun g e=>by cases e)⟩,fun x e=>by cases e⟩
 ·refine⟨some ⟨g,0,none⟩,cap,rfl,⟨rfl,h1,h2,(fun e=>by cases e),(fun x e=>⟨g,by cases e;rfl⟩),fun g' e j u hj=>?_⟩,fun x e=>?_⟩
  ·cases e;refine u_N hb j u ?_;rw[←h4,List.getElem?_take] at hj
   split at hj
   ·rw[←Array.getElem?_toList];exact hj
   ·cases hj
  ·cases e;exact⟨hB,lt_of_block hb⟩
theorem OwnR.base {W:World} {B B' b:Nat} {v:Value} {rs:List (Bool×Nat)} (h:OwnR W B v b rs) (hb:B'≤B):OwnR W B' v b rs:=by
 refine⟨h.1,?_⟩;rcases h.2 with h0 | ⟨g,cap,cur,e,hB,hr⟩
 ·exact Or.inl h0
 ·exact Or.inr ⟨g,cap,cur,e,by omega,hr⟩
theorem OwnR.new (W:World) (b:Nat) (rs:List (Bool×Nat)) (hl:rs.length≤1000):OwnR (W.alloc (.cells (rcs b rs).toArray 186)) W.heap.size (.slice (some ⟨W.heap.size,0,none⟩) rs.length rs.length) b rs:=
 ⟨u_i b rs,Or.inr ⟨W.heap.size,rs.length,_,rfl,Nat.le_refl _,x_x W _,Nat.le_refl _,by unfold maxLen;omega,by simp[u_i],by rw[←u_i b rs];simp⟩⟩
theorem z_lk:(prog.info? 186).map (fun i=>(i.zero,i.size,i.bytes))=some (some (.agg #[.bool false,.nilFunc]),2,16):=by kernel_rfl
def apR (ty:TypeId) (xs:Array Value):Sem Value:=Builtin.append_ #[183,183] ty xs
theorem apRE (ty:TypeId) (xs:Array Value):Builtin.append_ #[183,183] ty xs=apR ty xs:=rfl
theorem OwnR.app {W:World} {B b:Nat} {v:Value} {rs ss:List (Bool×Nat)} {a:Option Addr} {n c:Nat} (h:OwnR W B v b rs) (hs:RsAt W a n c b ss) (hl:rs.length+ss.length≤1000) (hB:B≤W.heap.size) (ty:TypeId) :
  ∃v' W',(apR ty #[v,.slice a n c]).run prog W=.ok v' W'∧OwnR W' B v' b (rs++ss)∧W.grownBy W' v.ownBlock:=by
 obtain⟨i0,hi,hz0,hz1,hz2⟩:=info_parts z_lk;unfold apR;cases a with
 | none=>
  obtain⟨rfl,rfl⟩:=hs.nil rfl;have hm:ss=[]:=List.eq_nil_of_length_eq_zero hs.len;subst hm;have hrun:=run_append_owned_none (P:=prog) (w:=W) B 183 ty 186 i0 2 underlying183 hi v rs.length _ h;exact⟨v,W,hrun,by rw[List.append_nil];exact h,World.grownBy.refl _ _⟩
 | some x=>
  obtain⟨g,rfl⟩:=hs.form x rfl;obtain⟨v',W',hrun,h1,h2,_⟩:=run_append_own (P:=prog) W B 183 ty 186 i0 _ 2 16 underlying183 hi hz0 hz1 hz2 rfl (by decide) v rs.length _ h ⟨g,0,none⟩ n c (rcs b ss) (by rw[u_i,hs.len])
   (fun j u hj=>by rw[Addr.add_lit,Nat.zero_add];exact hs.cells g rfl j u hj) (z_iZ b ss) (by have:=hs.len;unfold maxLen;omega) (by have:=hs.len;omega) hB
  refine⟨v',W',hrun,?_,h2⟩;unfold OwnR;rw[z_ja,List.length_append,hs.len];exact h1
def rcC (b:Nat) (x:Bool×Nat):Array Value:=#[.bool x.1,dv b x.2]
theorem infoRu:(prog.info? 186).map (·.size)=some 2:=by kernel_rfl
theorem rtRu:RowTy 186 2:=⟨infoRu,_,underlying186,rfl⟩
theorem ldRu (x:Value):Instr.loadAt 186 x=ldS 186 x:=rfl
theorem stRu (x y:Value):Instr.storeAt 186 x y=stS 186 x y:=rfl
theorem RsAt.ld {W:World} {g n c b i:Nat} {rs:List (Bool×Nat)} {x:Bool×Nat} (h:RsAt W (some ⟨g,0,none⟩) n c b rs) (hi:rs[i]?=some x):(ldS 186 (.pointer (some ⟨g,i*2,none⟩))).run prog W=.ok (.agg (rcC b x)) W:=by
 obtain⟨h1,h2⟩:=z_kT (b:=b) hi;refine run_loadAt_mid W g (i*2) 186 (rcC b x).toList _ (fun j v hv=>h.cells g rfl _ _ ?_) underlying186 rfl infoRu
 match j,hv with
 | 0,hv=>cases hv;exact h1
 | 1,hv=>cases hv;exact h2
 | j+2,hv=>simp[rcC] at hv
theorem z_jb (b:Nat) (x:Bool×Nat):∀v∈(rcC b x).toList,v.oneCell'=true:=by
 intro v hv;simp only[rcC,List.mem_cons,List.not_mem_nil,or_false] at hv;rcases hv with rfl | rfl<;>rfl
def bsR (n:Nat) (ps:Array (Nat×Value)):Sem Value:=Instr.buildSlice 183 n ps
theorem bsRE (n:Nat) (ps:Array (Nat×Value)):Instr.buildSlice 183 n ps=bsR n ps:=rfl
theorem bsR1 (b:Nat) (x1:Bool) (f1:Nat) (w:World):(bsR 1 #[(0,.agg #[.bool x1,.func (.func f1) #[.pointer (some ⟨b,0,none⟩)] #[]])]).run prog w=.ok (.slice (some ⟨w.heap.size,0,none⟩) 1 1) (w.alloc (.cells (rcs b [(x1,f1)]).toArray 186)):=by kernel_rfl
theorem bsR2 (b:Nat) (x1 x2:Bool) (f1 f2:Nat) (w:World):(bsR 2 #[(0,.agg #[.bool x1,.func (.func f1) #[.pointer (some ⟨b,0,none⟩)] #[]]),(1,.agg #[.bool x2,.func (.func f2) #[.pointer (some ⟨b,0,none⟩)] #[]])]).run prog w=.ok (.slice (some ⟨w.heap.size,0,none⟩) 2 2) (w.alloc (.cells (rcs b [(x1,f1),(x2,f2)]).toArray 186)):=by kernel_rfl
theorem bsR5 (b:Nat) (x1 x2 x3 x4 x5:Bool) (f1 f2 f3 f4 f5:Nat) (w:World):(bsR 5 #[(0,.agg #[.bool x1,.func (.func f1) #[.pointer (some ⟨b,0,none⟩)] #[]]),(1,.agg #[.bool x2,.func (.func f2) #[.pointer (some ⟨b,0,none⟩)] #[]]),(2,.agg #[.bool x3,.func (.func f3) #[.pointer (some ⟨b,0,none⟩)] #[]]),(3,.agg #[.bool x4,.func (.func f4) #[.pointer (some ⟨b,0,none⟩)] #[]]),(4,.agg #[.bool x5,.func (.func f5) #[.pointer (some ⟨b,0,none⟩)] #[]])]).run prog w=.ok (.slice (some ⟨w.heap.size,0,none⟩) 5 5) (w.alloc (.cells (rcs b [(x1,f1),(x2,f2),(x3,f3),(x4,f4),(x5,f5)]).toArray 186)):=by kernel_rfl
theorem bsR6 (b:Nat) (x1 x2 x3 x4 x5 x6:Bool) (f1 f2 f3 f4 f5 f6:Nat) (w:World):(bsR 6 #[(0,.agg #[.bool x1,.func (.func f1) #[.pointer (some ⟨b,0,none⟩)] #[]]),(1,.agg #[.bool x2,.func (.func f2) #[.pointer (some ⟨b,0,none⟩)] #[]]),(2,.agg #[.bool x3,.func (.func f3) #[.pointer (some ⟨b,0,none⟩)] #[]]),(3,.agg #[.bool x4,.func (.func f4) #[.pointer (some ⟨b,0,none⟩)] #[]]),(4,.agg #[.bool x5,.func (.func f5) #[.pointer (some ⟨b,0,none⟩)] #[]]),(5,.agg #[.bool x6,.func (.func f6) #[.pointer (some ⟨b,0,none⟩)] #[]])]).run prog w=.ok (.slice (some ⟨w.heap.size,0,none⟩) 6 6) (w.alloc (.cells (rcs b [(x1,f1),(x2,f2),(x3,f3),(x4,f4),(x5,f5),(x6,f6)]).toArray 186)):=by kernel_rfl
theorem z_dj {o:Oper} {a:Act} {x y:Operand} {X Y v:Value} {w w':World} (h:o.op=.call { callee:=.builtin .append,args:=#[x,y],argTypes:=#[183,183] }) (ht:o.type=183) (hx:a.eval x=X) (hy:a.eval y=Y) (hr:(apR 183 #[X,Y]).run prog w=.ok v w'):(execOp a.eval o).run prog w=.ok (.value v) w':=by
 unfold execOp;simp only[h,ht];simp only[resolve,invoke,builtin,List.map_toArray,List.map_cons,List.map_nil,hx,hy,apRE,Sem.run_bind,Sem.run_pure,Result.andThen_ok,hr]
theorem z_di {o:Oper} {a:Act} {n:Nat} {ps:Array (Nat×Operand)} {qs:Array (Nat×Value)} {v:Value} {w w':World} (h:o.op=.buildSlice 183 n ps) (hq:(ps.map fun (i,x)=>(i,a.eval x))=qs) (hr:(bsR n qs).run prog w=.ok v w'):(execOp a.eval o).run prog w=.ok (.value v) w':=by
 unfold execOp;simp only[h];rw[hq,Sem.run_bind,bsRE,hr];rfl
theorem v_M {o:Oper} {a:Act} {F:Nat} {x y:Operand} {X Y:Value} {ts:Array TypeId} {w:World} (h:o.op=.call { callee:=.value (.func F),args:=#[x,y],argTypes:=ts }) (hx:a.eval x=X) (hy:a.eval y=Y) (he:∀V,(callFunc F #[X,Y]).run prog V=.ok (.enter F #[X,Y]) V):(execOp a.eval o).run prog w=.ok (.enter F #[X,Y]) w:=by
 unfold execOp;simp only[h];simp[resolve,Deferred.ofValue,invoke,hx,hy,Act.eval_func];exact he w
end S13
end
section
namespace S13
open Go.RowKit
def stopB (p:Pt):Bool:=!p.bt 10 && !p.bt 8
def looB (p:Pt) (j:Nat):Bool:=(p.nm 65 != p.nm j) || askP p
def inS (l:List Pt) (k:Nat):Bool:=allK (okS (k:Int)) l
def wasR (l:List Pt) (k:Nat):Bool:=allK (okR (k:Int)) l
def raoB (l:List Pt) (k:Nat):Bool:=wasR l k && (((gtP l k).nm 68)==0)
def ansB (l:List Pt) (k:Nat):Bool:=(inS l k && !(gtP l k).bt 3) || ((gtP l k).bt 12 && (gtP l k).bt 3)
def prpB (p:Pt):Bool:=p.bt 12 && !p.bt 3
def twN (n:Int):Int:=if 2*n≤255 then 2*n else 255
attribute [local go_sem ↓] ldT bsRE
theorem v_c {W:World} {b g o n c k:Nat} {h:Hd} {l:List Pt} (s:CS W b h g o n c k l) (F:Nat) :
  Calls prog 240 #[.pointer (some ⟨b,0,none⟩),.func (.func F) #[.pointer (some ⟨b,0,none⟩)] #[]] W fun r W'=>∃v,r=.returned v∧OwnR W' W.heap.size v b [(stopB (gtP l k),F)]∧Below W.heap.size W W':=by
 have H:Hid (CS W b h g o n c k l):=s;obtain⟨p,hp⟩:∃p,gtP l k=p:=⟨_,rfl⟩;rw[hp];have R0:∀V,Below W.heap.size W V→Prd (fun w'=>∃x:Later V,w'=x.val) g (o+k*77) p:=fun V hV=>by rw[←hp];exact (H.out.below hV).rd
 obtain⟨q,hq⟩:∃q,o+k*77=q:=⟨_,rfl⟩;rw[hq] at R0;clear s hp;go_enter func240,ntmps240
 go_wp2_with fail
 refine (z_v H.out).mono ?_;rintro _ V ⟨rfl,b1⟩;rw[hq];have B:Hid (Below W.heap.size W V):=b1;clear b1 hq;have R:=R0 V B.out;clear R0;go_upto_region 2 with fail
 refine wp_plain_tail (C:=fun w'=>∃x:Later V,w'=x.val) 14 (by simp) ⟨⟨_,Below.refl _ _⟩,rfl⟩ ?_;simp only[List.take_succ_cons,List.take_zero];refine z_b (v:=.pointer (some ⟨g,q,none⟩)) (yq rfl (Rn.qt (qmove rfl rfl))) ?_
 try simp only[Act.put,zA,zB,zC]
 refine z_b (v:=.pointer (some ⟨g,q,none⟩)) (yq rfl (Rn.qt (qnil rfl rfl))) ?_
 try simp only[Act.put,zA,zB,zC]
 refine z_b (v:=.pointer (some ⟨g,q+10,none⟩)) (yq rfl (Rn.qt (qfield rfl rfl fp10))) ?_
 try simp only[Act.put,zA,zB,zC]
 refine z_b (v:=.bool (p.bt 10)) (yq rfl (Rn.qt (qload rfl rfl (R.bit rfl)))) ?_
 try simp only[Act.put,zA,zB,zC]
 refine z_b (v:=.bool (!(p.bt 10))) (yq rfl (Rn.qt (qnot rfl rfl))) ?_
 try simp only[Act.put,zA,zB,zC]
 refine z_b (v:=.bool (!(p.bt 10))) (yq rfl (Rn.qt (qmove rfl rfl))) ?_
 try simp only[Act.put,zA,zB,zC]
 refine z_b (v:=gd (!(p.bt 10)) true (.pointer (some ⟨g,q,none⟩))) (yq1 rfl rfl (fun e=>Rn.qt (qmove rfl rfl))) ?_
 try simp only[Act.put,zA,zB,zC]
 refine z_b (v:=gd (!(p.bt 10)) true (.pointer (some ⟨g,q,none⟩))) (yq1 rfl rfl (fun e=>Rn.qt (qnil rfl (on e rfl)))) ?_
 try simp only[Act.put,zA,zB,zC]
 refine z_b (v:=gd (!(p.bt 10)) true (.pointer (some ⟨g,q+8,none⟩))) (yq1 rfl rfl (fun e=>Rn.qt (qfield rfl (on e rfl) fp8))) ?_
 try simp only[Act.put,zA,zB,zC]
 refine z_b (v:=gd (!(p.bt 10)) true (.bool (p.bt 8))) (yq1 rfl rfl (fun e=>Rn.qt (qload rfl (on e rfl) (R.bit rfl)))) ?_
 try simp only[Act.put,zA,zB,zC]
 refine z_b (v:=gd (!(p.bt 10)) true (.bool (!(p.bt 8)))) (yq1 rfl rfl (fun e=>Rn.qt (qnot rfl (on e rfl)))) ?_
 try simp only[Act.put,zA,zB,zC]
 refine z_b (v:=.bool ((!(p.bt 10)) && (!(p.bt 8)))) (yq rfl (Rn.qt (qpick rfl rfl (pkA rfl rfl)))) ?_
 try simp only[Act.put,zA,zB,zC]
 refine z_b (v:=.func (.func F) #[.pointer (some ⟨b,0,none⟩)] #[]) (yq rfl (Rn.qt (qmove rfl rfl))) ?_
 try simp only[Act.put,zA,zB,zC]
 refine z_b (v:=.agg #[.bool ((!(p.bt 10)) && (!(p.bt 8))),.func (.func F) #[.pointer (some ⟨b,0,none⟩)] #[]]) (yq rfl (Rn.qt (qrule rfl rfl rfl))) ?_
 try simp only[Act.put,zA,zB,zC]
 refine wpQuiet_nil ?_;rintro _ ⟨z,rfl⟩;simp only[List.drop_succ_cons,List.drop_zero];have sb:=bsR1 b (!p.bt 10 && !p.bt 8) F z.val;obtain⟨Y,hY⟩:∃Y,z.val.alloc (.cells (rcs b [(!p.bt 10 && !p.bt 8,F)]).toArray 186)=Y:=⟨_,rfl⟩;rw[hY] at sb;have F:Hid (OwnR Y W.heap.size (.slice (some ⟨z.val.heap.size,0,none⟩) 1 1) b [(!p.bt 10 && !p.bt 8,F)]∧Below W.heap.size W Y):=by
  have b2:=z_a B.out z.below;rw[←hY];exact⟨(OwnR.new z.val b [(!p.bt 10 && !p.bt 8,F)] (by simp)).base b2.size,b2.trans ((Below.refl _ _).alloc b2.size _)⟩
 clear hY;go_wp2
 go_ret;exact⟨_,rfl,F.out.1,F.out.2⟩
theorem z_ao {W:World} {b g o n c k:Nat} {h:Hd} {l:List Pt} (s:CS W b h g o n c k l) {p:Pt} (hp:gtP l k=p) (x:Later W) :
  Calls prog 262 #[.pointer (some ⟨b,0,none⟩)] x.val fun r W'=>r=.returned (.bool (askP p))∧∃y:Later W,W'=y.val:=by
 rw[←hp];exact Calls.later_of (z_ky (s.below x.below))
theorem z_cA {W:World} {b g o n c k:Nat} {h:Hd} {l:List Pt} (s:CS W b h g o n c k l) :
  Calls prog 242 #[.pointer (some ⟨b,0,none⟩)] W fun r W'=>∃v,r=.returned v∧OwnR W' W.heap.size v b [(looB (gtP l k) 41,241)]∧Below W.heap.size W W':=by
 have H:Hid (CS W b h g o n c k l):=s;obtain⟨p,hp⟩:∃p,gtP l k=p:=⟨_,rfl⟩;rw[hp];have R0:∀V,Below W.heap.size W V→Prd (fun w'=>∃x:Later V,w'=x.val) g (o+k*77) p:=fun V hV=>by rw[←hp];exact (H.out.below hV).rd
 obtain⟨q,hq⟩:∃q,o+k*77=q:=⟨_,rfl⟩;rw[hq] at R0;have HP:Hid (gtP l k=p):=hp;clear s hp;go_enter func242,ntmps242
 go_wp2_with fail
 refine (z_v H.out).mono ?_;rintro _ V ⟨rfl,b1⟩;rw[hq];have B:Hid (Below W.heap.size W V):=b1;clear b1 hq;have R:=R0 V B.out;have AK:=z_ao (H.out.below B.out) HP.out;clear R0;go_upto_region 2 with fail
 refine wp_region_later_tail 17 (by kernel_rfl) (by kernel_rfl) ?_;simp only[List.take_succ_cons,List.take_zero];refine z_b (v:=.pointer (some ⟨g,q,none⟩)) (yq rfl (Rn.qt (qmove rfl rfl))) ?_
 try simp only[Act.put,zA,zB,zC]
 refine z_b (v:=.pointer (some ⟨g,q,none⟩)) (yq rfl (Rn.qt (qnil rfl rfl))) ?_
 try simp only[Act.put,zA,zB,zC]
 refine z_b (v:=.pointer (some ⟨g,q+65,none⟩)) (yq rfl (Rn.qt (qfield rfl rfl fp38))) ?_
 try simp only[Act.put,zA,zB,zC]
 refine z_b (v:=.int .u8 (p.nm 65)) (yq rfl (Rn.qt (qload rfl rfl (R.u8 rfl)))) ?_
 try simp only[Act.put,zA,zB,zC]
 refine z_b (v:=.pointer (some ⟨g,q,none⟩)) (yq rfl (Rn.qt (qmove rfl rfl))) ?_
 try simp only[Act.put,zA,zB,zC]
 refine z_b (v:=.pointer (some ⟨g,q,none⟩)) (yq rfl (Rn.qt (qnil rfl rfl))) ?_
 try simp only[Act.put,zA,zB,zC]
 refine z_b (v:=.pointer (some ⟨g,q+40,none⟩)) (yq rfl (Rn.qt (qfield rfl rfl fp34))) ?_
 try simp only[Act.put,zA,zB,zC]
 refine z_b (v:=.pointer (some ⟨g,q+40+1,none⟩)) (yq rfl (Rn.qt (qfield rfl rfl ft1))) ?_
 try simp only[Act.put,zA,zB,zC]
 refine z_b (v:=.int .u8 (p.nm 41)) (yq rfl (Rn.qt (qload rfl rfl (R.dt rfl rfl)))) ?_
 try simp only[Act.put,zA,zB,zC]
 refine z_b (v:=.bool ((p.nm 65) != (p.nm 41))) (yq rfl (Rn.qt (qbin rfl rfl rfl (x_a _ _ _ _ _) (u_t _ _)))) ?_
 try simp only[Act.put,zA,zB,zC]
 refine z_b (v:=.bool ((p.nm 65) != (p.nm 41))) (yq rfl (Rn.qt (qmove rfl rfl))) ?_
 try simp only[Act.put,zA,zB,zC]
 refine z_b (v:=gd ((p.nm 65) != (p.nm 41)) false (.pointer (some ⟨b,0,none⟩))) (yq1 rfl rfl (fun e=>Rn.qt (qmove rfl rfl))) ?_
 try simp only[Act.put,zA,zB,zC]
 refine z_b (v:=gd ((p.nm 65) != (p.nm 41)) false (.bool (askP p))) (yq1 rfl rfl (fun e=>u_Y rfl (on e rfl) (fun V=>by go_simp) (fun w hw=>by obtain⟨x,rfl⟩:=hw;exact AK x))) ?_
 try simp only[Act.put,zA,zB,zC]
 refine z_b (v:=.bool (((p.nm 65) != (p.nm 41)) || (askP p))) (yq rfl (Rn.qt (qpick rfl rfl (pkO rfl rfl)))) ?_
 try simp only[Act.put,zA,zB,zC]
 refine z_b (v:=.pointer (some ⟨b,0,none⟩)) (yq rfl (Rn.qt (qmove rfl rfl))) ?_
 try simp only[Act.put,zA,zB,zC]
 refine z_b (v:=.func (.func 241) #[.pointer (some ⟨b,0,none⟩)] #[]) (yq rfl (Rn.qt (qfn rfl rfl))) ?_
 try simp only[Act.put,zA,zB,zC]
 refine z_b (v:=.agg #[.bool (((p.nm 65) != (p.nm 41)) || (askP p)),.func (.func 241) #[.pointer (some ⟨b,0,none⟩)] #[]]) (yq rfl (Rn.qt (qrule rfl rfl rfl))) ?_
 try simp only[Act.put,zA,zB,zC]
 refine wpQuiet_nil ?_;intro z;simp only[List.drop_succ_cons,List.drop_zero];have sb:=bsR1 b ((p.nm 65 != p.nm 41) || askP p) 241 z.val;obtain⟨Y,hY⟩:∃Y,z.val.alloc (.cells (rcs b [((p.nm 65 != p.nm 41) || askP p,241)]).toArray 186)=Y:=⟨_,rfl⟩;rw[hY] at sb;have F:Hid (OwnR Y W.heap.size (.slice (some ⟨z.val.heap.size,0,none⟩) 1 1) b [((p.nm 65 != p.nm 41) || askP p,241)]∧Below W.heap.size W Y):=by
  have b2:=z_a B.out z.below;rw[←hY];exact⟨(OwnR.new z.val b [((p.nm 65 != p.nm 41) || askP p,241)] (by simp)).base b2.size,b2.trans ((Below.refl _ _).alloc b2.size _)⟩
 clear hY;go_wp2
 go_ret;exact⟨_,rfl,F.out.1,F.out.2⟩
theorem z_jc {W:World} {b g o n c k:Nat} {h:Hd} {l:List Pt} (s:CS W b h g o n c k l) :
  Calls prog 263 #[.pointer (some ⟨b,0,none⟩)] W fun r W'=>r=.returned (.bool (raoB l k))∧Below W.heap.size W W':=by
 have ft:=fun x:Later W=>(s.below x.below).var.htree;have f17:=fun x:Later W=>(s.below x.below).var.h17;have P1:Hid (∀x:Later W,_):=fun x:Later W=>z_hR h (some ⟨g,o,none⟩) n c l (k:Int) x.val (s.below x.below).sl s.hn;have P2:Hid (∀x:Later W,_):=fun x:Later W=>z_v (s.below x.below);have f68:=fun x:Later W=>(s.below x.below).cell ((gtP l k).num (j:=68) (k:=.u8) rfl)
 obtain⟨q,hq⟩:∃q,o+k*77=q:=⟨_,rfl⟩;rw[hq] at f68 P2;have E:Hid (raoB l k=(allK (okR (k:Int)) l && ((gtP l k).nm 68==0))):=rfl;obtain⟨N,hN⟩:∃z,(gtP l k).nm 68=z:=⟨_,rfl⟩;obtain⟨M,hM⟩:∃z,allK (okR (k:Int)) l=z:=⟨_,rfl⟩;rw[hN] at f68 E;rw[hM] at P1 E;clear hN hM s hq;rw[E.out];go_enter func263,ntmps263
 go_wp2_with fail
 cases M
 ·refine wp_region_later (by kernel_rfl) (by kernel_rfl) ?_
  repeat (go_big_quiet_step (first|exact rfl | (go_at_call 291;with_reducible exact Calls.later_of (P1.out _))|(go_at_call 204;with_reducible exact Calls.later_of (P2.out _))))
  refine wpQuiet_nil ?_;intro _ hw';obtain⟨y,rfl⟩:=hw';go_wp2
  go_ret;exact⟨rfl,y.below⟩
 ·refine wp_region_later (by kernel_rfl) (by kernel_rfl) ?_
  repeat (go_big_quiet_step (first|exact rfl | (go_at_call 291;with_reducible exact Calls.later_of (P1.out _))|(go_at_call 204;with_reducible exact Calls.later_of (P2.out _))))
  refine wpQuiet_nil ?_;intro _ hw';obtain⟨y,rfl⟩:=hw';go_wp2
  go_ret;exact⟨by simp,y.below⟩
theorem z_hV {n:Int} (h:0≤n∧n≤255):0≤twN n∧twN n≤255:=by
 unfold twN
 split<;>omega
theorem z_hU (n:Int) (w:World) (hn:0≤n∧n≤255):Calls prog 277 #[.int .u8 n] w fun r w'=>r=.returned (.int .u8 (twN n))∧Below w.heap.size w w':=by
 have h1:IntKind.i64.wrap n=n:=IntWalk.i64_in _ (by omega);have h2:IntKind.i64.wrap (2*n)=2*n:=IntWalk.i64_in _ (by omega);go_enter func277,ntmps277;have hw:∀m:Int,0≤m∧m≤255→IntKind.u8.wrap m=m:=fun m hm=>by
  show m%256=m
  omega
 go_wp2
 all_goals
  go_ret;refine⟨z_y ?_,Below.refl _ _⟩;unfold twN
  first|(split<;>omega)|(rw[hw _ (by omega)];split<;>omega)
theorem z_fE {W:World} {b g o n c k:Nat} {h:Hd} {l:List Pt} (s:CS W b h g o n c k l) (F:Nat) :
  Calls prog 264 #[.pointer (some ⟨b,0,none⟩),.func (.func F) #[.pointer (some ⟨b,0,none⟩)] #[]] W fun r W'=>∃v,r=.returned v∧OwnR W' W.heap.size v b [(prpB (gtP l k),293),(ansB l k,F)]∧Below W.heap.size W W':=by
 have E:Hid (ansB l k=((allK (okS (k:Int)) l && !(gtP l k).bt 3) || ((gtP l k).bt 12 && (gtP l k).bt 3))):=rfl;rw[E.out];obtain⟨M,hM⟩:∃z,allK (okS (k:Int)) l=z:=⟨_,rfl⟩;rw[hM];have HM:Hid (allK (okS (k:Int)) l=M):=hM;clear hM E;have H:Hid (CS W b h g o n c k l):=s;obtain⟨p,hp⟩:∃p,gtP l k=p:=⟨_,rfl⟩;rw[hp]
 have R0:∀V,Below W.heap.size W V→Prd (fun w'=>∃x:Later V,w'=x.val) g (o+k*77) p:=fun V hV=>by rw[←hp];exact (H.out.below hV).rd
 obtain⟨q,hq⟩:∃q,o+k*77=q:=⟨_,rfl⟩;rw[hq] at R0;clear s hp;go_enter func264,ntmps264
 go_wp2_with fail
 refine (z_v H.out).mono ?_;rintro _ V ⟨rfl,b1⟩;rw[hq];have B:Hid (Below W.heap.size W V):=b1;clear b1 hq;have ft:=fun x:Later V=>((H.out.below B.out).below x.below).var.htree;have f17:=fun x:Later V=>((H.out.below B.out).below x.below).var.h17;have P1:Hid (∀x:Later V,_):=fun x:Later V=>z_hQ h (some ⟨g,o,none⟩) n c l (k:Int) x.val ((H.out.below B.out).below x.below).sl H.out.hn;rw[HM.out] at P1
 go_upto_region 2 with fail
 refine wp_region_later (by kernel_rfl) (by kernel_rfl) ?_
 repeat (go_big_quiet_step (first|exact rfl | (go_at_call 292;with_reducible exact Calls.later_of (P1.out _))))
 refine wpQuiet_nil ?_;intro _ hw';obtain⟨y,rfl⟩:=hw';obtain⟨U,hU⟩:∃U,y.val=U:=⟨_,rfl⟩;have bU:Below V.heap.size V U:=by rw[←hU];exact y.below
 rw[hU];have B2:Hid (Below W.heap.size W U):=z_a B.out bU;have R:=R0 U B2.out;clear ft f17 P1 hU bU y R0;go_upto_region 3 with fail
 refine wp_region_later_tail 36 (by kernel_rfl) (by kernel_rfl) ?_;simp only[List.take_succ_cons,List.take_zero];refine z_b (v:=.pointer (some ⟨g,q,none⟩)) (yq rfl (Rn.qt (qmove rfl rfl))) ?_
 try simp only[Act.put,zA,zB,zC]
 refine z_b (v:=.pointer (some ⟨g,q,none⟩)) (yq rfl (Rn.qt (qnil rfl rfl))) ?_
 try simp only[Act.put,zA,zB,zC]
 refine z_b (v:=.pointer (some ⟨g,q+12,none⟩)) (yq rfl (Rn.qt (qfield rfl rfl fp12))) ?_
 try simp only[Act.put,zA,zB,zC]
 refine z_b (v:=.bool (p.bt 12)) (yq rfl (Rn.qt (qload rfl rfl (R.bit rfl)))) ?_
 try simp only[Act.put,zA,zB,zC]
 refine z_b (v:=.bool (p.bt 12)) (yq rfl (Rn.qt (qmove rfl rfl))) ?_
 try simp only[Act.put,zA,zB,zC]
 refine z_b (v:=gd (p.bt 12) true (.pointer (some ⟨g,q,none⟩))) (yq1 rfl rfl (fun e=>Rn.qt (qmove rfl rfl))) ?_
 try simp only[Act.put,zA,zB,zC]
 refine z_b (v:=gd (p.bt 12) true (.pointer (some ⟨g,q,none⟩))) (yq1 rfl rfl (fun e=>Rn.qt (qnil rfl (on e rfl)))) ?_
 try simp only[Act.put,zA,zB,zC]
 refine z_b (v:=gd (p.bt 12) true (.pointer (some ⟨g,q+3,none⟩))) (yq1 rfl rfl (fun e=>Rn.qt (qfield rfl (on e rfl) fp3))) ?_
 try simp only[Act.put,zA,zB,zC]
 refine z_b (v:=gd (p.bt 12) true (.bool (p.bt 3))) (yq1 rfl rfl (fun e=>Rn.qt (qload rfl (on e rfl) (R.bit rfl)))) ?_
 try simp only[Act.put,zA,zB,zC]
 refine z_b (v:=gd (p.bt 12) true (.bool (!(p.bt 3)))) (yq1 rfl rfl (fun e=>Rn.qt (qnot rfl (on e rfl)))) ?_
 try simp only[Act.put,zA,zB,zC]
 refine z_b (v:=.bool ((p.bt 12) && (!(p.bt 3)))) (yq rfl (Rn.qt (qpick rfl rfl (pkA rfl rfl)))) ?_
 try simp only[Act.put,zA,zB,zC]
 refine z_b (v:=.pointer (some ⟨b,0,none⟩)) (yq rfl (Rn.qt (qmove rfl rfl))) ?_
 try simp only[Act.put,zA,zB,zC]
 refine z_b (v:=.func (.func 293) #[.pointer (some ⟨b,0,none⟩)] #[]) (yq rfl (Rn.qt (qfn rfl rfl))) ?_
 try simp only[Act.put,zA,zB,zC]
 refine z_b (v:=.agg #[.bool ((p.bt 12) && (!(p.bt 3))),.func (.func 293) #[.pointer (some ⟨b,0,none⟩)] #[]]) (yq rfl (Rn.qt (qrule rfl rfl rfl))) ?_
 try simp only[Act.put,zA,zB,zC]
 refine z_b (v:=.bool M) (yq rfl (Rn.qt (qmove rfl rfl))) ?_
 try simp only[Act.put,zA,zB,zC]
 refine z_b (v:=.bool M) (yq rfl (Rn.qt (qmove rfl rfl))) ?_
 try simp only[Act.put,zA,zB,zC]
 refine z_b (v:=gd M true (.pointer (some ⟨g,q,none⟩))) (yq1 rfl rfl (fun e=>Rn.qt (qmove rfl rfl))) ?_
 try simp only[Act.put,zA,zB,zC]
 refine z_b (v:=gd M true (.pointer (some ⟨g,q,none⟩))) (yq1 rfl rfl (fun e=>Rn.qt (qnil rfl (on e rfl)))) ?_
 try simp only[Act.put,zA,zB,zC]
 refine z_b (v:=gd M true (.pointer (some ⟨g,q+3,none⟩))) (yq1 rfl rfl (fun e=>Rn.qt (qfield rfl (on e rfl) fp3))) ?_
 try simp only[Act.put,zA,zB,zC]
 refine z_b (v:=gd M true (.bool (p.bt 3))) (yq1 rfl rfl (fun e=>Rn.qt (qload rfl (on e rfl) (R.bit rfl)))) ?_
 try simp only[Act.put,zA,zB,zC]
 refine z_b (v:=gd M true (.bool (!(p.bt 3)))) (yq1 rfl rfl (fun e=>Rn.qt (qnot rfl (on e rfl)))) ?_
 try simp only[Act.put,zA,zB,zC]
 refine z_b (v:=.bool (M && (!(p.bt 3)))) (yq rfl (Rn.qt (qpick rfl rfl (pkA rfl rfl)))) ?_
 try simp only[Act.put,zA,zB,zC]
 refine z_b (v:=.bool (M && (!(p.bt 3)))) (yq rfl (Rn.qt (qmove rfl rfl))) ?_
 try simp only[Act.put,zA,zB,zC]
 refine z_b (v:=gd (M && (!(p.bt 3))) false (.pointer (some ⟨g,q,none⟩))) (yq1 rfl rfl (fun e=>Rn.qt (qmove rfl rfl))) ?_
 try simp only[Act.put,zA,zB,zC]
 refine z_b (v:=gd (M && (!(p.bt 3))) false (.pointer (some ⟨g,q,none⟩))) (yq1 rfl rfl (fun e=>Rn.qt (qnil rfl (on e rfl)))) ?_
 try simp only[Act.put,zA,zB,zC]
 refine z_b (v:=gd (M && (!(p.bt 3))) false (.pointer (some ⟨g,q+12,none⟩))) (yq1 rfl rfl (fun e=>Rn.qt (qfield rfl (on e rfl) fp12))) ?_
 try simp only[Act.put,zA,zB,zC]
 refine z_b (v:=gd (M && (!(p.bt 3))) false (.bool (p.bt 12))) (yq1 rfl rfl (fun e=>Rn.qt (qload rfl (on e rfl) (R.bit rfl)))) ?_
 try simp only[Act.put,zA,zB,zC]
 refine z_b (v:=gd (M && (!(p.bt 3))) false (.bool (p.bt 12))) (yq1 rfl rfl (fun e=>Rn.qt (qmove rfl (on e rfl)))) ?_
 try simp only[Act.put,zA,zB,zC]
 refine z_b (v:=gd (M && (!(p.bt 3))) false (gd (p.bt 12) true (.pointer (some ⟨g,q,none⟩)))) (yq2 rfl rfl (fun e1 e2=>Rn.qt (qmove rfl rfl))) ?_
 try simp only[Act.put,zA,zB,zC]
 refine z_b (v:=gd (M && (!(p.bt 3))) false (gd (p.bt 12) true (.pointer (some ⟨g,q,none⟩)))) (yq2 rfl rfl (fun e1 e2=>Rn.qt (qnil rfl (on e2 (on e1 rfl))))) ?_
 try simp only[Act.put,zA,zB,zC]
 refine z_b (v:=gd (M && (!(p.bt 3))) false (gd (p.bt 12) true (.pointer (some ⟨g,q+3,none⟩)))) (yq2 rfl rfl (fun e1 e2=>Rn.qt (qfield rfl (on e2 (on e1 rfl)) fp3))) ?_
 try simp only[Act.put,zA,zB,zC]
 refine z_b (v:=gd (M && (!(p.bt 3))) false (gd (p.bt 12) true (.bool (p.bt 3)))) (yq2 rfl rfl (fun e1 e2=>Rn.qt (qload rfl (on e2 (on e1 rfl)) (R.bit rfl)))) ?_
 try simp only[Act.put,zA,zB,zC]
 refine z_b (v:=gd (M && (!(p.bt 3))) false (.bool ((p.bt 12) && (p.bt 3)))) (yq1 rfl rfl (fun e=>Rn.qt (qpick rfl (on e rfl) (pkA (on e rfl) rfl)))) ?_
 try simp only[Act.put,zA,zB,zC]
 refine z_b (v:=.bool ((M && (!(p.bt 3))) || ((p.bt 12) && (p.bt 3)))) (yq rfl (Rn.qt (qpick rfl rfl (pkO rfl rfl)))) ?_
 try simp only[Act.put,zA,zB,zC]
 refine z_b (v:=.func (.func F) #[.pointer (some ⟨b,0,none⟩)] #[]) (yq rfl (Rn.qt (qmove rfl rfl))) ?_
 try simp only[Act.put,zA,zB,zC]
 refine z_b (v:=.agg #[.bool ((M && (!(p.bt 3))) || ((p.bt 12) && (p.bt 3))),.func (.func F) #[.pointer (some ⟨b,0,none⟩)] #[]]) (yq rfl (Rn.qt (qrule rfl rfl rfl))) ?_
 try simp only[Act.put,zA,zB,zC]
 refine wpQuiet_nil ?_;intro z;simp only[List.drop_succ_cons,List.drop_zero];have sb:=bsR2 b (p.bt 12 && !p.bt 3) ((M && !p.bt 3) || (p.bt 12 && p.bt 3)) 293 F z.val;obtain⟨Y,hY⟩:∃Y,z.val.alloc (.cells (rcs b [((p.bt 12 && !p.bt 3),293),(((M && !p.bt 3) || (p.bt 12 && p.bt 3)),F)]).toArray 186)=Y:=⟨_,rfl⟩;rw[hY] at sb
 have F:Hid (OwnR Y W.heap.size (.slice (some ⟨z.val.heap.size,0,none⟩) 2 2) b [((p.bt 12 && !p.bt 3),293),(((M && !p.bt 3) || (p.bt 12 && p.bt 3)),F)]∧Below W.heap.size W Y):=by
  have b2:=z_a B2.out z.below;rw[←hY];exact⟨(OwnR.new z.val b [((p.bt 12 && !p.bt 3),293),(((M && !p.bt 3) || (p.bt 12 && p.bt 3)),F)] (by simp)).base b2.size,b2.trans ((Below.refl _ _).alloc b2.size _)⟩
 clear hY;go_wp2
 go_ret;exact⟨_,rfl,F.out.1,F.out.2⟩
end S13
end
section
namespace S13
open Go.RowKit
def eAt:List (Nat×Value)→Nat→Option Value
 | [],_=>none
 | (d,v)::r,s=>bif Nat.beq d s then some v else eAt r s
structure Has (a:Act) (N:Nat) (E:List (Nat×Value)):Prop where
 size:a.tmps.size=N
 defers:a.defers=[]
 slot:∀s v,eAt E s=some v→a.tmps[s]?=some v
theorem Has.nil {a:Act} {N:Nat} (h:a.tmps.size=N) (hd:a.defers=[]):Has a N []:=⟨h,hd,fun s v e=>by cases e⟩
theorem Has.cons {a:Act} {N d:Nat} {v:Value} {E:List (Nat×Value)} (h:a.tmps[d]?=some v) (A:Has a N E):Has a N ((d,v)::E):=⟨A.size,A.defers,fun s u e=>by
 unfold eAt at e;cases hb:Nat.beq d s with
 | true=>
  rw[hb] at e;cases e;have:=Nat.eq_of_beq_eq_true hb;subst this;exact h
 | false=>rw[hb] at e;exact A.slot s u e⟩
theorem Has.put {a:Act} {N d:Nat} {v:Value} {E:List (Nat×Value)} (A:Has a N E) (hd:d<N):Has (a.put (some d) v) N ((d,v)::E):=⟨by simp[Act.put,A.size],A.defers,fun s u e=>by
 unfold eAt at e
 show (a.tmps.setIfInBounds d v)[s]?=some u
 cases hb:Nat.beq d s with
 | true=>
  rw[hb] at e;cases e;have:=Nat.eq_of_beq_eq_true hb;subst this;simp[A.size,hd]
 | false=>
  rw[hb] at e;have hne:d≠s:=fun h=>by subst h;rw[Nat.beq_refl] at hb;cases hb
  rw[Array.getElem?_setIfInBounds_ne hne];exact A.slot s u e⟩
theorem Has.ev {a:Act} {N s:Nat} {v:Value} {E:List (Nat×Value)} (A:Has a N E) (h:eAt E s=some v):a.eval (.tmp s)=v:=by
 have:=A.slot s v h
 show a.tmps.getD s undef=v
 simp[Array.getD_eq_getD_getElem?,this]
theorem Has.gt {a:Act} {N s j:Nat} {v:Value} {E:List (Nat×Value)} {ops:Array Oper} (A:Has a N E) (hj:(ops[j]?).bind (·.dst)=some s) (h:eAt E s=some v):((ops[j]?).bind (·.dst)).bind (a.tmps[·]?)=some v:=by
 rw[hj];exact A.slot s v h
section
variable {ops:Array Oper} {C:World→Prop} {o:Oper} {v:Value} {N:Nat} {E:List (Nat×Value)}
theorem w_p {Q:Exit→Act→World→Prop} {rest:List Oper} {a:Act} {w w':World} (hg:o.guard=none) (hr:(execOp a.eval o).run prog w=.ok (.value v) w') (h:wpList prog ops Q rest (a.put o.dst v) w'):wpList prog ops Q (o::rest) a w:=by
 unfold wpList;rw[if_pos (by unfold Region.wanted;rw[hg])];refine Or.inl ?_;unfold Oper.wp;rw[hr];exact h
end
theorem z_aF {fn:Func} {t:Nat} (hr:fn.results=#[.tmp t]) (tmps:Array Value) (w:World):(results fn tmps).run prog w=.ok (tmps.getD t undef) w:=by simp[results,hr]
theorem u_h {fn:Func} {t N:Nat} {v:Value} {E:List (Nat×Value)} (hr:fn.results=#[.tmp t]) {R:Ending→World→Prop} {a:Act} {w:World} (A:Has a N E) (h:eAt E t=some v) (hR:R (.returned v) w):bodyPost prog fn R .ret a w:=by
 have e:a.tmps.getD t undef=v:=A.ev h;refine bodyPost_ret (z_aF hr _ _) A.defers ?_;rw[e];exact hR
end S13
end
section
namespace S13
open Go.RowKit
abbrev LC (w:World):World→Prop:=fun w'=>∃x:Later w,w'=x.val
def Heavy (W:World) (N:Nat) (Ψ:Value→World→Prop) (o:Oper) (E:List (Nat×Value)):Prop:=
 o.guard=none∧∀w0,Below W.heap.size W w0→∀a,Has a N E→∃F args,(execOp a.eval o).run prog w0=.ok (.enter F args) w0∧Calls prog F args w0 fun e w'=>∃v,e=.returned v∧Ψ v w'∧Below w0.heap.size w0 w'
def Light (ops:Array Oper) (W:World) (N:Nat) (o:Oper) (v:Value) (E:List (Nat×Value)):Prop:=
 ∀w0,Below W.heap.size W w0→∀a,Has a N E→YieldsIn prog ops (LC w0) o v a
def PlanOk (ops:Array Oper) (W:World) (N h:Nat) (Ψ:Value→World→Prop) (K:List (Nat×Value)→Prop):Nat→List Oper→List Value→List (Nat×Value)→Prop
 | i,o::r,v::vs,E=>∃d,o.dst=some d∧d<N∧if i=h then Heavy W N Ψ o E∧PlanOk ops W N h Ψ K (i+1) r vs E else Light ops W N o v E∧PlanOk ops W N h Ψ K (i+1) r vs ((d,v)::E)
 | _,[],[],E=>K E
 | _,_,_,_=>False
section
variable {ops:Array Oper} {W:World} {N h:Nat} {Ψ:Value→World→Prop} {K:List (Nat×Value)→Prop}
theorem z_f {i d:Nat} {o:Oper} {r:List Oper} {v:Value} {E:List (Nat×Value)} (hd:o.dst=some d) (hN:d<N) (hi:(i==h)=false) (hy:∀w0,Below W.heap.size W w0→∀a,Has a N E→YieldsIn prog ops (LC w0) o v a) (k:∃vs,PlanOk ops W N h Ψ K (i+1) r vs ((d,v)::E)):∃vs,PlanOk ops W N h Ψ K i (o::r) vs E:=by
 obtain⟨vs,k⟩:=k;exact⟨v::vs,d,hd,hN,by rw[if_neg (by simpa using hi)];exact⟨hy,k⟩⟩
theorem z_ei {i d:Nat} {o:Oper} {r:List Oper} {E:List (Nat×Value)} (hd:o.dst=some d) (hN:d<N) (hi:(i==h)=true) (hy:Heavy W N Ψ o E) (k:∃vs,PlanOk ops W N h Ψ K (i+1) r vs E):∃vs,PlanOk ops W N h Ψ K i (o::r) vs E:=by
 obtain⟨vs,k⟩:=k;exact⟨undef::vs,d,hd,hN,by rw[if_pos (by simpa using hi)];exact⟨hy,k⟩⟩
theorem z_jC {i:Nat} {E:List (Nat×Value)} (k:K E):∃vs,PlanOk ops W N h Ψ K i [] vs E:=⟨[],k⟩
def envTo (h:Nat):Nat→List Oper→List Value→List (Nat×Value)→Nat→List (Nat×Value)
 | _,_,_,E,0=>E
 | i,o::r,v::vs,E,t+1=>envTo h (i+1) r vs (if i=h then E else match o.dst with | some d=>(d,v)::E | none=>E) t
 | _,_,_,E,_+1=>E
theorem z_aI:∀(m:List Oper) (i:Nat) (vs:List Value) (E:List (Nat×Value)),PlanOk ops W N h Ψ K i m vs E→∀t,t<m.length →
  ∃o v d,m[t]?=some o∧vs[t]?=some v∧o.dst=some d∧d<N∧if i+t=h then Heavy W N Ψ o (envTo h i m vs E t) else Light ops W N o v (envTo h i m vs E t)
 | [],i,vs,E,hp,t,ht=>by simp at ht
 | o::r,i,[],E,hp,t,ht=>by cases hp
 | o::r,i,v::vs,E,hp,t,ht=>by
  obtain⟨d,hd,hN,hc⟩:=hp;cases t with
  | zero=>
   refine⟨o,v,d,rfl,rfl,hd,hN,?_⟩;by_cases e:i=h
   ·rw[if_pos e] at hc;rw[if_pos (by omega)];exact hc.1
   ·rw[if_neg e] at hc;rw[if_neg (by omega)];exact hc.1
  | succ t=>
   have ht':t<r.length:=by simpa using ht
   by_cases e:i=h
   ·rw[if_pos e] at hc;obtain⟨o',v',d',h1,h2,h3,h4,h5⟩:=z_aI r (i+1) vs _ hc.2 t ht';refine⟨o',v',d',by simpa using h1,by simpa using h2,h3,h4,?_⟩;have en:envTo h i (o::r) (v::vs) E (t+1)=envTo h (i+1) r vs E t:=by simp only[envTo,if_pos e]
    rw[en,show i+(t+1)=i+1+t by omega];exact h5
   ·rw[if_neg e] at hc;obtain⟨o',v',d',h1,h2,h3,h4,h5⟩:=z_aI r (i+1) vs _ hc.2 t ht';refine⟨o',v',d',by simpa using h1,by simpa using h2,h3,h4,?_⟩;have en:envTo h i (o::r) (v::vs) E (t+1)=envTo h (i+1) r vs ((d,v)::E) t:=by simp only[envTo,if_neg e,hd]
    rw[en,show i+(t+1)=i+1+t by omega];exact h5
theorem u_p:∀(m:List Oper) (i:Nat) (vs:List Value) (E:List (Nat×Value)),PlanOk ops W N h Ψ K i m vs E→K (envTo h i m vs E m.length)
 | [],i,[],E,hp=>by
  unfold PlanOk at hp;simpa only[List.length_nil,envTo] using hp
 | [],i,v::vs,E,hp=>by cases hp
 | o::r,i,[],E,hp=>by cases hp
 | o::r,i,v::vs,E,hp=>by
  obtain⟨d,hd,hN,hc⟩:=hp;by_cases e:i=h
  ·rw[if_pos e] at hc;have:=u_p r (i+1) vs _ hc.2;simpa only[List.length_cons,envTo,if_pos e] using this
  ·rw[if_neg e] at hc;have:=u_p r (i+1) vs _ hc.2;simpa only[List.length_cons,envTo,if_neg e,hd] using this
theorem x_T:∀(t:Nat) (m:List Oper) (i:Nat) (vs:List Value) (E:List (Nat×Value)) (s:Nat) (u:Value),eAt (envTo h i m vs E t) s=some u →
  eAt E s=some u∨∃j o,j<t∧i+j≠h∧m[j]?=some o∧o.dst=some s∧vs[j]?=some u
 | 0,m,i,vs,E,s,u,hs=>Or.inl (by simpa [envTo] using hs)
 | t+1,[],i,vs,E,s,u,hs=>Or.inl (by simpa [envTo] using hs)
 | t+1,o::r,i,[],E,s,u,hs=>Or.inl (by simpa [envTo] using hs)
 | t+1,o::r,i,v::vs,E,s,u,hs=>by
  have up:(∃j o',j<t∧i+1+j≠h∧r[j]?=some o'∧o'.dst=some s∧vs[j]?=some u)→∃j o',j<t+1∧i+j≠h∧(o::r)[j]?=some o'∧o'.dst=some s∧(v::vs)[j]?=some u:=by
   rintro⟨j,o',h1,h2,h3,h4,h5⟩;exact⟨j+1,o',by omega,by omega,by simpa using h3,h4,by simpa using h5⟩
  by_cases e:i=h
  ·simp only[envTo,if_pos e] at hs;rcases x_T t r (i+1) vs E s u hs with h1 | h1
   ·exact Or.inl h1
   ·exact Or.inr (up h1)
  ·cases hd:o.dst with
   | none=>
    simp only[envTo,if_neg e,hd] at hs;rcases x_T t r (i+1) vs E s u hs with h1 | h1
    ·exact Or.inl h1
    ·exact Or.inr (up h1)
   | some d=>
    simp only[envTo,if_neg e,hd] at hs;rcases x_T t r (i+1) vs _ s u hs with h1 | h1
    ·unfold eAt at h1;cases hb:Nat.beq d s with
     | true=>
      rw[hb] at h1;cases h1;have:=Nat.eq_of_beq_eq_true hb;subst this;exact Or.inr ⟨0,o,by omega,by omega,rfl,hd,rfl⟩
     | false=>rw[hb] at h1;exact Or.inl h1
    ·exact Or.inr (up h1)
end
/-! ### what is asked of the region itself -/
def incB:Nat→List Oper→Bool
 | _,[]=>true
 | lo,o::r=>match o.dst with | some d=>Nat.ble lo d && incB (d+1) r | none=>false
theorem z_bH:∀(m:List Oper) (lo j:Nat) (o:Oper),incB lo m=true→m[j]?=some o→∃d,o.dst=some d∧lo≤d
 | [],lo,j,o,h,hj=>by simp at hj
 | x::r,lo,j,o,h,hj=>by
  unfold incB at h;cases hd:x.dst with
  | none=>rw[hd] at h;cases h
  | some d=>
   rw[hd] at h;simp only[Bool.and_eq_true] at h;have h1:=Nat.le_of_ble_eq_true h.1;cases j with
   | zero=>simp only[List.getElem?_cons_zero,Option.some.injEq] at hj;subst hj;exact⟨d,hd,h1⟩
   | succ j=>
    obtain⟨d',e1,e2⟩:=z_bH r (d+1) j o h.2 (by simpa using hj);exact⟨d',e1,by omega⟩
theorem v_w:∀(m:List Oper) (lo i j:Nat) (x y:Oper) (d e:Nat),incB lo m=true→i<j→m[i]?=some x→m[j]?=some y→x.dst=some d→y.dst=some e→d<e
 | [],lo,i,j,x,y,d,e,h,hij,hi,hj,hd,he=>by simp at hi
 | z::r,lo,i,j,x,y,d,e,h,hij,hi,hj,hd,he=>by
  unfold incB at h;cases hz:z.dst with
  | none=>rw[hz] at h;cases h
  | some c=>
   rw[hz] at h;simp only[Bool.and_eq_true] at h;cases j with
   | zero=>omega
   | succ j=>
    cases i with
    | zero=>
     simp only[List.getElem?_cons_zero,Option.some.injEq] at hi;subst hi;rw[hz] at hd;have hcd:@Eq Nat c d:=Option.some.inj hd;obtain⟨e',e1,e2⟩:=z_bH r (c+1) j y h.2 (by simpa using hj);rw[he] at e1;have h9:@Eq Nat e e':=Option.some.inj e1;omega
    | succ i=>exact v_w r (c+1) i j x y d e h.2 (by omega) (by simpa using hi) (by simpa using hj) hd he
def lookB (ops:Array Oper) (lo:Nat) (o:Oper):Bool:=(o.looksAt ops).all fun s=>Nat.blt s lo || o.after.any fun e=>Region.binds .any e && ((ops[e.on]?).bind (·.dst)==some s)
def backB (i:Nat) (o:Oper):Bool:=o.after.all fun e=>!Region.binds .any e || Nat.blt e.on i
theorem z_fA {i:Nat} {o:Oper} {e:Edge} (h:backB i o=true) (he:e∈o.after) (hb:Region.binds .any e=true):e.on<i:=by
 unfold backB at h;rw[Array.all_eq_true'] at h;have:=h e he;simp only[hb,Bool.not_true,Bool.false_or] at this;exact Nat.lt_of_lt_of_le (Nat.le_of_ble_eq_true this) (Nat.le_refl _)
def headB (ops:Array Oper) (lo:Nat):Nat→List Oper→Bool
 | _,[]=>true
 | i,o::r=>lookB ops lo o && backB i o && headB ops lo (i+1) r
theorem z_aO:∀(m:List Oper) (ops:Array Oper) (lo i j:Nat) (o:Oper),headB ops lo i m=true→m[j]?=some o→lookB ops lo o=true∧backB (i+j) o=true
 | [],ops,lo,i,j,o,h,hj=>by simp at hj
 | x::r,ops,lo,i,j,o,h,hj=>by
  unfold headB at h;simp only[Bool.and_eq_true] at h;cases j with
  | zero=>simp only[List.getElem?_cons_zero,Option.some.injEq] at hj;subst hj;exact⟨h.1.1,h.1.2⟩
  | succ j=>
   have:=z_aO r ops lo (i+1) j o h.2 (by simpa using hj);rw[show i+(j+1)=i+1+j by omega];exact this
def fullL (n g:Nat):Array Bool:=(List.replicate n true++List.replicate g false).toArray
def valsB (l:List Oper) (n lo:Nat):Bool:=
 Region.noSelect l.toArray && Nat.blt n l.length && incB lo (l.take n) && headB l.toArray lo 0 (l.take n) && Region.sinkB .any l.toArray n && Region.chainB .any l.toArray n && Region.seqB .any l.toArray (l.length-n) n (fullL n (l.length-n))
/-! ### how many have not come up -/
def cnt (listed:Array Bool):Nat→Nat
 | 0=>0
 | k+1=>cnt listed k+(if listed.getD k false=true then 0 else 1)
theorem z_aP {listed:Array Bool} {i:Nat} (h:i<listed.size):(listed.setIfInBounds i true).getD i false=true:=by simp[h]
theorem x_F {listed:Array Bool} {i j:Nat} (h:i≠j):(listed.setIfInBounds i true).getD j false=listed.getD j false:=by
 simp[Array.getD_eq_getD_getElem?,Array.getElem?_setIfInBounds_ne h]
theorem z_fm {listed:Array Bool} {i:Nat} (hi:i<listed.size) (hu:listed.getD i false=false):∀n,cnt (listed.setIfInBounds i true) n+(if i<n then 1 else 0)=cnt listed n
 | 0=>by simp[cnt]
 | n+1=>by
  have ih:=z_fm hi hu n;unfold cnt;by_cases e:i=n
  ·subst e;rw[z_aP hi,hu];rw[if_neg (by omega)] at ih;rw[if_pos rfl,if_pos (by omega),if_neg (by decide)];omega
  ·rw[x_F e];generalize (if listed.getD n false=true then 0 else 1)=x
   by_cases h1:i<n
   ·rw[if_pos h1] at ih;rw[if_pos (by omega:i<n+1)];omega
   ·rw[if_neg h1] at ih;rw[if_neg (by omega:¬ i<n+1)];omega
theorem u_L {listed:Array Bool}:∀n,cnt listed n=0→∀i,i<n→listed.getD i false=true
 | 0,_,i,hi=>by omega
 | n+1,h,i,hi=>by
  unfold cnt at h;by_cases e:i=n
  ·subst e;cases hb:listed.getD i false with
   | true=>rfl
   | false=>rw[hb] at h;simp at h
  ·exact u_L n (by omega) i (by omega)
theorem z_al {listed:Array Bool}:∀n,0<cnt listed n→∃i,i<n∧listed.getD i false=false∧∀j,j<i→listed.getD j false=true
 | 0,h=>by simp[cnt] at h
 | n+1,h=>by
  by_cases h0:0<cnt listed n
  ·obtain⟨i,h1,h2,h3⟩:=z_al n h0;exact⟨i,by omega,h2,h3⟩
  ·have hz:cnt listed n=0:=by omega
   unfold cnt at h;refine⟨n,by omega,?_,u_L n hz⟩;cases hb:listed.getD n false with
   | false=>rfl
   | true=>rw[hb,hz] at h;simp at h
structure Mid (l:List Oper) (vs:List Value) (W:World) (n N h dh:Nat) (Ψ:Value→World→Prop) (E0:List (Nat×Value)) (listed:Array Bool) (a:Act) (w:World):Prop where
 size:a.tmps.size=N
 defers:a.defers=[]
 base:∀s u,eAt E0 s=some u→a.tmps[s]?=some u
 done:∀j o s u,j<n→j≠h→listed.getD j false=true→l[j]?=some o→o.dst=some s→vs[j]?=some u→a.tmps[s]?=some u
 heavy:h<n→listed.getD h false=true→∃v,a.tmps[dh]?=some v∧Ψ v w
 bel:Below W.heap.size W w
 inv:HeadInv .any l.toArray n listed
theorem u_c {a:Act} {d s:Nat} {v:Value} (h:d≠s):(a.put (some d) v).tmps[s]?=a.tmps[s]?:=by
 show (a.tmps.setIfInBounds d v)[s]?=_
 rw[Array.getElem?_setIfInBounds_ne h]
theorem z_dd {a:Act} {d:Nat} {v:Value} (h:d<a.tmps.size):(a.put (some d) v).tmps[d]?=some v:=by
 show (a.tmps.setIfInBounds d v)[d]?=_
 simp[h]
def over (a:Act) (E:List (Nat×Value)):Act:={ a with tmps:=a.tmps.mapIdx fun s x=>(eAt E s).getD x }
theorem z_el (a:Act) (E:List (Nat×Value)) (s:Nat):(over a E).tmps[s]?=(a.tmps[s]?).map fun x=>(eAt E s).getD x:=by simp[over]
theorem wp_vals {id:Nat} {Q:Exit→Act→World→Prop} {a0:Act} {W:World} {l:List Oper} {E0:List (Nat×Value)} (n lo N h dh:Nat) (Ψ:Value→World→Prop) (hm:prog.follows .mixedOrders=true) (hB:valsB l n lo=true)
  (hE:E0.all (fun p=>Nat.blt p.1 lo)=true) (hdh:h<n→(l[h]?).bind (·.dst)=some dh) (hΨ:∀v w w',Ψ v w→Below w.heap.size w w'→Ψ v w') (A0:Has a0 N E0)
  (hp:∃vs,PlanOk l.toArray W N h Ψ (fun E=>∀a w',Has a N E→Below W.heap.size W w'→(h<n→∃v,a.tmps[dh]?=some v∧Ψ v w')→wpList prog l.toArray Q (l.drop n) a w') 0 (l.take n) vs E0) :
  (Code.region id l.toArray true).wp prog Q a0 W:=by
 obtain⟨vs,hp⟩:=hp;simp only[valsB,Bool.and_eq_true] at hB;obtain⟨⟨⟨⟨⟨⟨hsel,hn0⟩,hinc⟩,hhead⟩,hsink⟩,hchain⟩,hseq⟩:=hB;have hn:n<l.length:=Nat.lt_of_lt_of_le (Nat.le_of_ble_eq_true hn0) (Nat.le_refl _);have hn':n<l.toArray.size:=by simpa using hn
 have sel:=Region.noSelect_spec hsel;have htl:(l.take n).length=n:=by rw[List.length_take];omega
 have tk:∀j,j<n→(l.take n)[j]?=l[j]?:=fun j hj=>by rw[List.getElem?_take,if_pos hj]
 have hE0:∀s u,eAt E0 s=some u→s<lo:=by
  intro s u hs;have:∀(E:List (Nat×Value)),E.all (fun p=>Nat.blt p.1 lo)=true→eAt E s=some u→s<lo:=by
   intro E
   induction E with
   | nil=>intro _ h;cases h
   | cons p r ih=>
    intro ha he;simp only[List.all_cons,Bool.and_eq_true] at ha;unfold eAt at he;cases hb:Nat.beq p.1 s with
    | true=>
     have e:=Nat.eq_of_beq_eq_true hb;have h1:=Nat.le_of_ble_eq_true ha.1;omega
    | false=>rw[hb] at he;exact ih ha.2 he
  exact this E0 hE hs
 have pat:=z_aI (l.take n) 0 vs E0 hp;have pend:=u_p (l.take n) 0 vs E0 hp;rw[htl] at pend;have known:∀(listed:Array Bool) (a:Act) (w:World) (t s:Nat) (u:Value),t≤n→Mid l vs W n N h dh Ψ E0 listed a w→(∀j o,j<t→j≠h→l[j]?=some o→o.dst=some s→listed.getD j false=true)→eAt (envTo h 0 (l.take n) vs E0 t) s=some u→a.tmps[s]?=some u:=by
  intro listed a w t s u ht M hl he;rcases x_T t _ _ _ _ _ _ he with h1 | ⟨j,o,h1,h2,h3,h4,h5⟩
  ·exact M.base s u h1
  ·rw[tk j (by omega)] at h3;exact M.done j o s u (by omega) (by omega) (hl j o h1 (by omega) h3 h4) h3 h4 h5
 have main:∀(c:Nat) (listed:Array Bool) (a:Act) (w:World),cnt listed n=c→Mid l vs W n N h dh Ψ E0 listed a w→wpAny prog .any l.toArray Q (c+(l.length-n)) listed a w:=by
  intro c
  induction c with
  | zero=>
   intro listed a w hc M;have hall:=u_L n hc;have hls:listed.size=l.length:=by have:=M.inv.size;simpa using this
   have e:listed=fullL n (l.length-n):=by
    refine Array.ext (by simp[fullL];omega) fun i h1 h2=>?_;by_cases hi:i<n
    ·have:=hall i hi;simp[Array.getD_eq_getD_getElem?,h1] at this;rw[this];simp[fullL,List.getElem_append,hi]
    ·have:=M.inv.tail i (by omega) (by simp;omega);simp[Array.getD_eq_getD_getElem?,h1] at this;rw[this];simp[fullL,List.getElem_append,hi]
   rw[Nat.zero_add];have A:Has a N (envTo h 0 (l.take n) vs E0 n):=⟨M.size,M.defers,fun s u hs=>known listed a w n s u (Nat.le_refl _) M (fun j o hj _ _ _=>hall j hj) hs⟩;have hw:=pend a w A M.bel (fun hh=>M.heavy hh (hall h hh));have hdl:(l.drop n).length=l.length-n:=by simp
   have:=wpAny_of_seq (P:=prog) (md:=.any) (ops:=l.toArray) (Q':=Q) (l.drop n) n listed a w (fun j=>by simp[List.getElem?_drop]) (by rw[hdl,e];exact hseq) hw
   rwa [hdl] at this
  | succ c ih=>
   intro listed a w hc M;have hls:listed.size=l.length:=by have:=M.inv.size;simpa using this
   obtain⟨i0,hi0,hu0,hlow⟩:=z_al (listed:=listed) n (by omega);have hi0s:i0<listed.size:=by omega
   rw[show c+1+(l.length-n)=(c+(l.length-n))+1 by omega];refine⟨fun hr=>?_,fun i hi=>?_⟩
   ·exfalso
    have ho:l[i0]?=some l[i0]:=List.getElem?_eq_getElem (by omega);have hb:=(z_aO _ _ _ _ _ _ hhead ((tk i0 hi0).trans ho)).2;have:i0∈Region.ready .any l.toArray listed:=mem_ready.2 ⟨getD_in hi0s hu0,l[i0],by simp,fun e he hbnd=>by
     rw[Nat.zero_add] at hb;exact hlow _ (z_fA hb he hbnd)⟩
    rw[hr] at this;cases this
   ·have hin:i<n:=by
     rcases Nat.lt_or_ge i n with h1 | h1
     ·exact h1
     ·exact absurd hi (tail_waits hsink hchain hn' M.inv _ i0 rfl hi0 (getD_in hi0s hu0) i h1)
    obtain⟨hun,oi,hoi,hdeps⟩:=mem_ready.1 hi;have his:i<listed.size:=by omega
    have hoi':l[i]?=some oi:=by simpa using hoi
    obtain⟨hlook,hback⟩:=z_aO _ _ _ _ _ _ hhead ((tk i hin).trans hoi');obtain⟨o',v,d,p1,p2,p3,p4,p5⟩:=pat i (by omega);rw[tk i hin,hoi'] at p1;cases p1;rw[Nat.zero_add] at p5;obtain⟨d2,hd2,hlod⟩:=z_bH _ _ _ _ hinc ((tk i hin).trans hoi');rw[p3] at hd2;cases hd2;have look:∀s,s∈oi.looksAt l.toArray→(over a (envTo h 0 (l.take n) vs E0 i)).tmps[s]?=a.tmps[s]?:=by
     intro s hs;rw[z_el];cases he:eAt (envTo h 0 (l.take n) vs E0 i) s with
     | none=>simp
     | some u=>
      have hk:a.tmps[s]?=some u:=by
       refine known listed a w i s u (by omega) M (fun j o hj hjh hjo hjd=>?_) he;have h1:=List.all_eq_true.1 hlook s hs;simp only[Bool.or_eq_true] at h1;obtain⟨dj,hdj,hloj⟩:=z_bH _ _ _ _ hinc ((tk j (by omega)).trans hjo);rw[hjd] at hdj;cases hdj;rcases h1 with h1 | h1
       ·have:=Nat.le_of_ble_eq_true h1;omega
       ·rw[Array.any_eq_true'] at h1;obtain⟨e,hem,h2⟩:=h1;simp only[Bool.and_eq_true,beq_iff_eq] at h2;have hl2:=hdeps e hem h2.1;rw[Nat.zero_add] at hback;have hei:e.on<i:=z_fA hback hem h2.1;have hee:l[e.on]?=some l[e.on]:=List.getElem?_eq_getElem (by omega);have h4:=h2.2;rw[show l.toArray[e.on]?=some l[e.on] by simp,Option.bind_some] at h4;rcases Nat.lt_trichotomy j e.on with h5 | h5 | h5
        ·have:=v_w _ _ _ _ _ _ _ _ hinc h5 ((tk j (by omega)).trans hjo) ((tk e.on (by omega)).trans hee) hjd h4;omega
        ·rw[h5];exact hl2
        ·have:=v_w _ _ _ _ _ _ _ _ hinc h5 ((tk e.on (by omega)).trans hee) ((tk j (by omega)).trans hjo) h4 hjd;omega
      rw[hk];rfl
    have A:Has (over a (envTo h 0 (l.take n) vs E0 i)) N (envTo h 0 (l.take n) vs E0 i):=by
     refine⟨by simp[over,M.size],M.defers,fun s u hs=>?_⟩;rw[z_el,hs];have hsz:s<a.tmps.size:=by
      rcases x_T _ _ _ _ _ _ _ hs with h1 | ⟨j,o,h1,h2,h3,h4,h5⟩
      ·have:=M.base s u h1;exact (Array.getElem?_eq_some_iff.1 this).1
      ·obtain⟨o2,v2,d2,q1,q2,q3,q4,_⟩:=pat j (by omega);rw[h3] at q1;cases q1;rw[h4] at q3;cases q3;rw[M.size];exact q4
     rw[Array.getElem?_eq_getElem hsz];rfl
    have hex:execOp a.eval oi=execOp (over a (envTo h 0 (l.take n) vs E0 i)).eval oi:=by
     refine execOp_congr oi (fun cs b=>sel i oi cs b hoi) fun x hx=>?_;cases x with
     | tmp s=>
      have hs:=look s (by unfold Oper.looksAt;rw[List.mem_append];exact Or.inl (List.mem_filterMap.2 ⟨_,by simpa using hx,rfl⟩))
      show a.tmps.getD s undef=(over a _).tmps.getD s undef
      simp only[Array.getD_eq_getD_getElem?,hs]
     | _=>rfl
    have hwant:Region.wanted oi (yielded l.toArray a.tmps)=Region.wanted oi (yielded l.toArray (over a (envTo h 0 (l.take n) vs E0 i)).tmps):=by
     unfold Region.wanted;cases hg:oi.guard with
     | none=>rfl
     | some jw=>
      obtain⟨j,want⟩:=jw;have:yielded l.toArray a.tmps j=yielded l.toArray (over a (envTo h 0 (l.take n) vs E0 i)).tmps j:=by
       unfold yielded;cases hj:(l.toArray[j]?).bind (·.dst) with
       | none=>rfl
       | some s=>
        have hs:=look s (by unfold Oper.looksAt;rw[List.mem_append];refine Or.inr ?_;simp only[hg,hj];simp);simp only[Option.bind_some,hs]
      simp only[this]
    have cn:cnt (listed.setIfInBounds i true) n=c:=by
     have:=z_fm his (getD_both hun) n;rw[if_pos hin] at this;omega
    have next:∀(u:Value) (w':World),Below w.heap.size w w'→(i≠h→u=v)→(i=h→Ψ u w')→Mid l vs W n N h dh Ψ E0 (listed.setIfInBounds i true) (a.put (some d) u) w':=by
     intro u w' hb hpl hhv;refine⟨by simp[Act.put,M.size],M.defers,fun s x hs=>?_,fun j o s x hj hjh hl hjo hjd hx=>?_,fun hh hl=>?_,z_a M.bel hb,M.inv.set hi hin⟩
     ·rw[u_c (by have:=hE0 s x hs;omega)];exact M.base s x hs
     ·by_cases e:i=j
      ·subst e;rw[hoi'] at hjo;cases hjo;rw[p3] at hjd;cases hjd;rw[p2] at hx;cases hx;rw[hpl hjh];exact z_dd (by rw[M.size];exact p4)
      ·rw[x_F e] at hl;have hne:d≠s:=by
        intro hds;subst hds;rcases Nat.lt_trichotomy i j with h5 | h5 | h5
        ·have:=v_w _ _ _ _ _ _ _ _ hinc h5 ((tk i hin).trans hoi') ((tk j hj).trans hjo) p3 hjd;omega
        ·exact e h5
        ·have:=v_w _ _ _ _ _ _ _ _ hinc h5 ((tk j hj).trans hjo) ((tk i hin).trans hoi') hjd p3;omega
       rw[u_c hne];exact M.done j o s x hj hjh hl hjo hjd hx
     ·by_cases e:i=h
      ·subst e;have hd':=hdh hh;rw[hoi',Option.bind_some,p3] at hd';cases hd';exact⟨u,z_dd (by rw[M.size];exact p4),hhv rfl⟩
      ·rw[x_F e] at hl;obtain⟨x,hx,hP⟩:=M.heavy hh hl;have hd':=hdh hh;have hoh:l[h]?=some l[h]:=List.getElem?_eq_getElem (by omega);rw[hoh,Option.bind_some] at hd';have hne:d≠dh:=by
        intro hds;subst hds;rcases Nat.lt_trichotomy i h with h5 | h5 | h5
        ·have:=v_w _ _ _ _ _ _ _ _ hinc h5 ((tk i hin).trans hoi') ((tk h hh).trans hoh) p3 hd';omega
        ·exact e h5
        ·have:=v_w _ _ _ _ _ _ _ _ hinc h5 ((tk h hh).trans hoh) ((tk i hin).trans hoi') hd' p3;omega
       exact⟨x,by rw[u_c hne];exact hx,hΨ x w w' hP hb⟩
    by_cases e:i=h
    ·rw[if_pos e] at p5;obtain⟨hg,hv⟩:=p5;obtain⟨F,args,hrun,hcall⟩:=hv w M.bel _ A;unfold wpOp;simp only[hoi];rw[if_pos (by unfold Region.wanted;rw[hg])];refine Or.inl ?_;unfold Oper.wp;rw[hex,hrun];refine hcall.mono ?_;rintro _ w' ⟨u,rfl,hu,hb⟩
     show wpAny _ _ _ _ _ _ (a.put oi.dst u) w'
     rw[p3];exact ih _ _ _ cn (next u w' hb (fun hne=>absurd e hne) (fun _=>hu))
    ·rw[if_neg e] at p5;have hy:=(p5 w M.bel _ A).of_same hex hwant;have hw:LC w w:=⟨⟨w,Below.refl _ _⟩,rfl⟩;refine wpOp_of_qOp (C:=LC w) (K:=fun a'=>∀w',LC w w'→wpAny prog .any l.toArray Q (c+(l.length-n)) (listed.setIfInBounds i true) a' w') hw (fun a' w' hw' h'=>h' w' hw') (hy.qOp hoi ?_);rintro _ ⟨x,rfl⟩;rw[p3];exact ih _ _ _ cn (next v x.val x.below (fun _=>rfl) (fun he=>absurd he e))
 refine wp_region_any hm ?_;have hz:∀k,cnt (Array.replicate l.toArray.size false) k=k:=by
  intro k
  induction k with
  | zero=>rfl
  | succ k ih=>unfold cnt;rw[ih,getD_replicate_false,if_neg (by decide)]
 have:=main n (Array.replicate l.toArray.size false) a0 W.drew (hz n) ⟨A0.size,A0.defers,A0.slot,fun j o s u _ _ hl=>(by rw[getD_replicate_false] at hl;cases hl),fun _ hl=>(by rw[getD_replicate_false] at hl;cases hl),(Below.refl _ W).drew,
  ⟨by simp,fun j oj _ hl=>(by rw[getD_replicate_false] at hl;cases hl),fun t _ ht=>getD_in (by simpa using ht) (getD_replicate_false _ _)⟩⟩
 rw[show n+(l.length-n)=l.toArray.size by simp;omega] at this;exact this
end S13
end
end Go.Proofs.YtlchejbggnbccaaGreat
