/-
  Regions whose order is open and whose calls only make new memory: one walk serves every order. Plain laws, no program. And what follows from it here.
-/
import Derived.Handy
import Derived.Deep.QuietTactic
import Derived.BigQuiet
import Derived.Test.YtlchejbggnbccaaGreatRows
import Derived.WalkSpells
import Derived.WalkLawsBesides
import Derived.OneCell
import Derived.OwnWalk
import Derived.Laws.Rows
import Derived.Deep.MidRow
import Derived.Laws.Tables
import Derived.Laws.CopyRow
import Derived.Laws.CopyOwn
import Derived.Deep.RegionHeld3
import Derived.DeepKeys
import Derived.ChangeArms
import Derived.Laws.AppendOwnNone
namespace Go.Proofs.YtlchejbggnbccaaGreat
theorem zA {α : Type _} (l : List α) (i : Nat) (a : α) : l.toArray.setIfInBounds i a = (l.set i a).toArray := by simp
theorem zB {α : Type _} {a b : α} {l : List α} : (a :: l).set 0 b = b :: l := rfl
theorem zC {α : Type _} {a b : α} {n : Nat} {l : List α} : (a :: l).set (n + 1) b = a :: l.set n b := rfl
theorem hd1 {a:Prop} (x:a):Go.RowKit.Hid a:=x
theorem hd2 {a b:Prop} (x:a) (y:b):Go.RowKit.Hid (a∧b):=⟨x,y⟩
theorem hd3 {a b c:Prop} (x:a) (y:b) (z:c):Go.RowKit.Hid (a∧b∧c):=⟨x,y,z⟩
theorem hd4 {a b c d:Prop} (x:a) (y:b) (z:c) (u:d):Go.RowKit.Hid (a∧b∧c∧d):=⟨x,y,z,u⟩
theorem hd5 {a b c d e:Prop} (x:a) (y:b) (z:c) (u:d) (v:e):Go.RowKit.Hid (a∧b∧c∧d∧e):=⟨x,y,z,u,v⟩
theorem hd6 {a b c d e f:Prop} (x:a) (y:b) (z:c) (u:d) (v:e) (w:f):Go.RowKit.Hid (a∧b∧c∧d∧e∧f):=⟨x,y,z,u,v,w⟩
theorem hd7 {a b c d e f g:Prop} (x:a) (y:b) (z:c) (u:d) (v:e) (w:f) (s:g):Go.RowKit.Hid (a∧b∧c∧d∧e∧f∧g):=⟨x,y,z,u,v,w,s⟩
theorem hd8 {a b c d e f g h:Prop} (x:a) (y:b) (z:c) (u:d) (v:e) (w:f) (s:g) (t:h):Go.RowKit.Hid (a∧b∧c∧d∧e∧f∧g∧h):=⟨x,y,z,u,v,w,s,t⟩
theorem tk {P:Program} {ops:Array Oper} {Q:Exit→Act→World→Prop} {md:Region.Mode} {S:World→Prop} (i:Nat) (v:Value) {oi:Oper} {fuel:Nat} {listed:Array Bool} {a:Act} {w:World} (hi:ops[i]?=some oi) (hy:∀w,S w→(execOp a.eval oi).run P w=.ok (.value v) w) (hS:S w) (h:wpAnyH P md ops Q S fuel (listed.setIfInBounds i true) (a.put oi.dst v) w) (hc:(Region.noSelect ops&&(Region.free md ops listed i&&(Region.ready md ops listed).contains i))=true:=by kernel_rfl) (hQ:∀c a w,Q (.panic c) (a.put oi.dst v) w→Q (.panic c) a w:=by exact fun _ _ _ h=>h) (hg:Region.wanted oi (yielded ops a.tmps)=true:=by rfl):wpAnyH P md ops Q S (fuel+1) listed a w:=by
 simp only[Bool.and_eq_true] at hc
 exact wpAnyH_take hi hc.1 hc.2.1 hc.2.2 hQ (Or.inl ⟨hg,hy⟩) hS h
theorem tkd {P:Program} {ops:Array Oper} {Q:Exit→Act→World→Prop} {md:Region.Mode} {S:World→Prop} (i d:Nat) (v:Value) {oi:Oper} {fuel:Nat} {listed:Array Bool} {a:Act} {w:World} (hi:ops[i]?=some oi) (hd:oi.dst=some d) (hy:∀w,S w→(execOp a.eval oi).run P w=.ok (.value v) w) (hS:S w) (h:wpAnyH P md ops Q S fuel (listed.setIfInBounds i true) (a.put (some d) v) w) (hc:(Region.noSelect ops&&(Region.free md ops listed i&&(Region.ready md ops listed).contains i))=true:=by kernel_rfl) (hQ:∀c a w,Q (.panic c) (a.put (some d) v) w→Q (.panic c) a w:=by exact fun _ _ _ h=>h) (hg:Region.wanted oi (yielded ops a.tmps)=true:=by rfl):wpAnyH P md ops Q S (fuel+1) listed a w:=
 tk i v hi hy hS (by rw[hd];exact h) hc (by rw[hd];exact hQ) hg
set_option linter.unusedVariables false
set_option linter.unusedSimpArgs false
set_option maxRecDepth 4000
set_option maxHeartbeats 40000000
open _root_.Go.Proofs.Tryz
section
open Go.RowKit
structure Later (W:World) where
 val:World
 below:Below W.heap.size W val
theorem Later.cell {W:World} (x:Later W) (b o:Nat) (h:b<W.heap.size):x.val.cell? ⟨b,o,none⟩=W.cell? ⟨b,o,none⟩:=x.below.cell (p:=⟨b,o,none⟩) h
theorem wp_region_later {P:Program} {id:Nat} {Q:Exit→Act→World→Prop} {a:Act} {w:World} {l:List Oper} (hm:P.follows .mixedOrders=true) (hB:Region.lexB .any l.toArray=true)
  (h:wpQuiet P l.toArray (fun w'=>∃x:Later w,w'=x.val) (fun a'=>∀w',(∃x:Later w,w'=x.val)→Q .normal a' w') l a):(Code.region id l.toArray true).wp P Q a w:=
 wp_region_quiet (C:=fun w'=>∃x:Later w,w'=x.val) hm hB ⟨Later.mk _ (Below.refl _ w).drew,rfl⟩ (by simpa using h)
theorem Calls.later_of {P:Program} {f:FuncId} {args:Array Value} {W:World} {x:Later W} {v:Value}
  (h:Calls P f args x.val fun e w'=>e=.returned v∧Below x.val.heap.size x.val w'):Calls P f args x.val fun e w''=>e=.returned v∧∃y:Later W,w''=y.val:=
 h.mono fun _ w' ⟨he,hb⟩=>⟨he,Later.mk w' (x.below.trans (hb.mono x.below.size)),rfl⟩
theorem Calls.on_later2 {P:Program} {f:FuncId} {args:Array Value} {W:World} {y:Later W} {v:Value} {K:Ending→World→Prop}
  (h:Calls P f args y.val fun e w'=>e=.returned v∧Below y.val.heap.size y.val w') (k:∀x:Later W,K (.returned v) x.val):Calls P f args y.val K:=
 h.mono fun _ w' ⟨he,hb⟩=>by subst he;exact k (Later.mk w' (y.below.trans (hb.mono y.below.size)))
theorem z_a {w W w':World} (h:Below w.heap.size w W) (k:Below W.heap.size W w'):Below w.heap.size w w':=h.trans (k.mono h.size)
theorem y_Z {w W:World} (h:Below w.heap.size w W) (x:Later W):Below w.heap.size w x.val:=z_a h x.below
end
section
open Go.RowKit
theorem x_x (w:World) (o:Obj):(w.alloc o).heap[w.heap.size]?=some o:=by
 show (w.heap.push o)[w.heap.size]?=_
 simp
theorem z_y {k:IntKind} {a b:Int} (h:a=b):Ending.returned (.int k a)=.returned (.int k b):=by rw[h]
theorem z_r {a b:Bool} (h:a=b):Ending.returned (.bool a)=.returned (.bool b):=by rw[h]
theorem u_N {w:World} {b:Nat} {cs:Array Value} {t:TypeId} (h:w.heap[b]?=some (.cells cs t (0,0))) (k:Nat) (v:Value) (hk:cs[k]?=some v):w.cell? ⟨b,k,none⟩=some v:=by simp[World.cell?,h,hk]
def ldS (t:TypeId) (x:Value):Sem Value:=Instr.loadAt t x
def stS (t:TypeId) (x y:Value):Sem Unit:=Instr.storeAt t x y
theorem z_A {ty:TypeId} {W:World} {b o t:Nat} {cur cs:Array Value} (h:W.heap[b]?=some (.cells cur t (0,0))) (hi:(prog.info? ty).map (·.size)=some cs.size) (hl:o+cs.size≤cur.size) (h1:∀v∈cs.toList,v.oneCell'=true) :
  (stS ty (.pointer (some ⟨b,o,none⟩)) (.agg cs)).run prog W=.ok () (W.setRow b (cur.toList.take o++cs.toList++cur.toList.drop (o+cs.size)).toArray):=by
 have hs:=run_storeCells_at prog b o t cs.toList 0 cur W h (by simpa using hl) h1;have hi':∃i,prog.info? ty=some i∧i.size=cs.size:=by
  cases hq:prog.info? ty with
  | none=>rw[hq] at hi;cases hi
  | some i=>rw[hq] at hi;exact⟨i,rfl,by simpa using hi⟩
 obtain⟨i,hi1,hi2⟩:=hi';simp only[Nat.add_zero,Array.length_toList] at hs;unfold stS;simp[Instr.storeAt,Instr.sureAddr,storeVar,sizeOf,typeInfo,hi1,hi2,Value.cells,hs]
structure RowTy (ty n:Nat):Prop where
 info:(prog.info? ty).map (·.size)=some n
 und:∃d,prog.underlying ty=some d∧d.isRow=true
def RvAt (W:World) (b:Nat) (ty:TypeId) (cs:Array Value):Prop:=W.heap[b]?=some (.cells cs ty (0,0))
theorem RvAt.lt {W:World} {b:Nat} {ty:TypeId} {cs:Array Value} (h:RvAt W b ty cs):b<W.heap.size:=lt_of_block h
theorem RvAt.below {W W':World} {b:Nat} {ty:TypeId} {cs:Array Value} (h:RvAt W b ty cs) (hb:Below W.heap.size W W'):RvAt W' b ty cs:=(hb.block b h.lt).trans h
theorem RvAt.new (W:World) (ty:TypeId) (cs:Array Value):RvAt (W.alloc (.cells cs ty)) W.heap.size ty cs:=x_x W _
theorem RvAt.cell {W:World} {b:Nat} {ty:TypeId} {cs:Array Value} (h:RvAt W b ty cs) (k:Nat) (v:Value) (hk:cs[k]?=some v):W.cell? ⟨b,k,none⟩=some v:=u_N h k v hk
theorem RvAt.lv {W:World} {b n:Nat} {ty:TypeId} {cs:Array Value} (t:RowTy ty n) (h:RvAt W b ty cs) (hn:cs.size=n):(loadVar ty ⟨b,0,none⟩).run prog W=.ok (.agg cs) W:=by
 obtain⟨d,hd,hr⟩:=t.und;cases d<;>first|exact run_loadVar_row (P:=prog) W b ty ty cs (0,0) _ h hd rfl (by rw[hn];exact t.info)|(cases hr;done)
theorem RvAt.ld {W:World} {b n:Nat} {ty:TypeId} {cs:Array Value} (t:RowTy ty n) (h:RvAt W b ty cs) (hn:cs.size=n):(ldS ty (.pointer (some ⟨b,0,none⟩))).run prog W=.ok (.agg cs) W:=by
 have:=h.lv t hn;unfold ldS;simp only[Instr.loadAt,Instr.sureAddr,Sem.run_bind,Sem.run_pure,Result.andThen_ok,this]
theorem RvAt.st {W:World} {b n:Nat} {ty:TypeId} {cs ds:Array Value} (t:RowTy ty n) (h:RvAt W b ty cs) (hn:cs.size=n) (hd:ds.size=n) (h1:∀v∈ds.toList,v.oneCell'=true) :
  (stS ty (.pointer (some ⟨b,0,none⟩)) (.agg ds)).run prog W=.ok () (W.setRow b ds):=by
 have:=z_A (ty:=ty) (o:=0) (cs:=ds) h (by rw[hd];exact t.info) (by omega) h1;rw[this];have e:cs.toList.drop (0+ds.size)=[]:=List.drop_eq_nil_of_le (by simp;omega);rw[e];simp
theorem RvAt.set {W:World} {b:Nat} {ty:TypeId} {cs ds:Array Value} (h:RvAt W b ty cs):RvAt (W.setRow b ds) b ty ds:=setRow_heap W b cs ds ty (0,0) h
theorem z_E {ty:TypeId} {n:Nat} (t:RowTy ty n) (W:World) (z cs:Array Value) (hz:z.size=n) (hn:cs.size=n) (h1:∀v∈cs.toList,v.oneCell'=true) :
  ∃W',(stS ty (.pointer (some ⟨W.heap.size,0,none⟩)) (.agg cs)).run prog (W.alloc (.cells z ty))=.ok () W'∧RvAt W' W.heap.size ty cs∧Below W.heap.size W W'∧W'.heap.size=W.heap.size+1:=
 have h:RvAt (W.alloc (.cells z ty)) W.heap.size ty z:=x_x W _
 ⟨_,h.st t hz hn h1,h.set,below_setRow ((Below.refl _ _).alloc (Nat.le_refl _) _) (Nat.le_refl _) _,by simp⟩
theorem z_e {fn:Func} {k n:Nat} {ty:TypeId} (t:RowTy ty n) (hr:fn.results=#[.cell k ty]) (tmps:Array Value) (w:World) (b:Nat) (cs:Array Value) (h2:tmps.getD k undef=.pointer (some ⟨b,0,none⟩)) (h:RvAt w b ty cs) (hn:cs.size=n) :
  (results fn tmps).run prog w=.ok (.agg cs) w:=by
 have hl:=h.lv t hn;have h2':tmps[k]?.getD undef=.pointer (some ⟨b,0,none⟩):=by simpa using h2
 simp[results,hr,asAddr,hl,h2']
end
section
open Go.RowKit
def Fit:Option IntKind→Value→Prop
 | none,v=>∃b,v=.bool b
 | some k,v=>∃n,v=.int k n∧(Lit.int k n).wf=true
structure Fits (ks:List (Option IntKind)) (l:List Value):Prop where
 len:l.length=ks.length
 at':∀(j:Nat) (k:Option IntKind) (v:Value),ks[j]?=some k→l[j]?=some v→Fit k v
structure Row (ks:List (Option IntKind)) where
 cl:List Value
 ok:Fits ks cl
theorem Row.ext' {ks:List (Option IntKind)} {a b:Row ks} (h:a.cl=b.cl):a=b:=by
 cases a;cases b;cases h;rfl
def Row.cs {ks:List (Option IntKind)} (r:Row ks):Array Value:=r.cl.toArray
theorem Row.csize {ks:List (Option IntKind)} (r:Row ks):r.cs.size=ks.length:=by simp[Row.cs,r.ok.len]
theorem Row.len {ks:List (Option IntKind)} (r:Row ks):r.cl.length=ks.length:=r.ok.len
theorem Fit.one {k:Option IntKind} {v:Value} (h:Fit k v):v.oneCell'=true:=by
 cases k with
 | none=>obtain⟨b,rfl⟩:=h;rfl
 | some k=>obtain⟨n,rfl,_⟩:=h;rfl
theorem Fits.one {ks:List (Option IntKind)} {l:List Value} (h:Fits ks l):∀v∈l,v.oneCell'=true:=by
 intro v hv;obtain⟨j,hj,e⟩:=List.mem_iff_getElem.1 hv;have hj':j<ks.length:=by rw[←h.len];exact hj
 exact (h.at' j ks[j] v (List.getElem?_eq_getElem hj') (by rw[List.getElem?_eq_getElem hj,e])).one
theorem Row.one {ks:List (Option IntKind)} (r:Row ks):∀v∈r.cl,v.oneCell'=true:=r.ok.one
theorem Row.one' {ks:List (Option IntKind)} (r:Row ks):∀v∈r.cs.toList,v.oneCell'=true:=r.ok.one
def Row.nm {ks:List (Option IntKind)} (r:Row ks) (j:Nat):Int:=match r.cl[j]? with | some (.int _ n)=>n | _=>0
def Row.bt {ks:List (Option IntKind)} (r:Row ks) (j:Nat):Bool:=match r.cl[j]? with | some (.bool b)=>b | _=>false
theorem Row.get {ks:List (Option IntKind)} (r:Row ks) {j:Nat} {k:Option IntKind} (h:ks[j]?=some k):∃v,r.cl[j]?=some v∧Fit k v:=by
 have hj:j<r.cl.length:=by rw[r.len];exact (List.getElem?_eq_some_iff.1 h).1
 exact⟨_,List.getElem?_eq_getElem hj,r.ok.at' j k _ h (List.getElem?_eq_getElem hj)⟩
theorem Row.num {ks:List (Option IntKind)} (r:Row ks) {j:Nat} {k:IntKind} (h:ks[j]?=some (some k)):r.cl[j]?=some (.int k (r.nm j)):=by
 obtain⟨v,h1,n,rfl,_⟩:=r.get h;simp[Row.nm,h1]
theorem Row.nwf {ks:List (Option IntKind)} (r:Row ks) {j:Nat} {k:IntKind} (h:ks[j]?=some (some k)):(Lit.int k (r.nm j)).wf=true:=by
 obtain⟨v,h1,n,rfl,hw⟩:=r.get h;simpa [Row.nm,h1] using hw
theorem Row.bit {ks:List (Option IntKind)} (r:Row ks) {j:Nat} (h:ks[j]?=some none):r.cl[j]?=some (.bool (r.bt j)):=by
 obtain⟨v,h1,b,rfl⟩:=r.get h;simp[Row.bt,h1]
theorem Row.cget {ks:List (Option IntKind)} (r:Row ks) (j:Nat):r.cs[j]?=r.cl[j]?:=by simp[Row.cs]
def Row.set {ks:List (Option IntKind)} (r:Row ks) (j:Nat) (v:Value) (h:∀k,ks[j]?=some k→Fit k v):Row ks:=
 ⟨r.cl.set j v,by
  refine⟨by rw[List.length_set,r.len],fun i k x hk hx=>?_⟩;rw[List.getElem?_set] at hx
  split at hx
  ·rename_i e
   subst e
   split at hx
   ·cases hx;exact h k hk
   ·cases hx
  ·exact r.ok.at' i k x hk hx⟩
def Row.sub {ks:List (Option IntKind)} (r:Row ks) (o n:Nat):Row ((ks.drop o).take n):=
 ⟨(r.cl.drop o).take n,by
   refine⟨by rw[List.length_take,List.length_take,List.length_drop,List.length_drop,r.len],fun i k x hk hx=>?_⟩;rw[List.getElem?_take] at hk hx
   split at hk
   ·rename_i hi
    rw[if_pos hi,List.getElem?_drop] at hx;rw[List.getElem?_drop] at hk;exact r.ok.at' _ k x hk hx
   ·cases hk⟩
theorem Row.nm_sub {ks:List (Option IntKind)} (r:Row ks) (o n j:Nat) (hj:j<n):(r.sub o n).nm j=r.nm (o+j):=by
 unfold Row.nm Row.sub;rw[List.getElem?_take,if_pos hj,List.getElem?_drop]
theorem Row.bt_sub {ks:List (Option IntKind)} (r:Row ks) (o n j:Nat) (hj:j<n):(r.sub o n).bt j=r.bt (o+j):=by
 unfold Row.bt Row.sub;rw[List.getElem?_take,if_pos hj,List.getElem?_drop]
theorem Row.same {ks:List (Option IntKind)} {a b:Row ks} (h:∀j,j<ks.length→a.cl[j]?=b.cl[j]?):a=b:=by
 refine Row.ext' (List.ext_getElem? fun j=>?_);by_cases hj:j<ks.length
 ·exact h j hj
 ·rw[List.getElem?_eq_none (by rw[a.len];omega),List.getElem?_eq_none (by rw[b.len];omega)]
theorem Row.nset {ks:List (Option IntKind)} (r:Row ks) {j:Nat} {k:IntKind} {n:Int} (h:∀k',ks[j]?=some k'→Fit k' (.int k n)) (hj:j<ks.length):(r.set j (.int k n) h).nm j=n:=by
 have:j<r.cl.length:=by rw[r.len];exact hj
 simp[Row.nm,Row.set,List.getElem?_set,this]
theorem Row.bset {ks:List (Option IntKind)} (r:Row ks) {j:Nat} {b:Bool} (h:∀k',ks[j]?=some k'→Fit k' (.bool b)) (hj:j<ks.length):(r.set j (.bool b) h).bt j=b:=by
 have:j<r.cl.length:=by rw[r.len];exact hj
 simp[Row.bt,Row.set,List.getElem?_set,this]
/-! ### the types whose values are such rows -/
def fieldKinds (P:Program) (g:TypeId→Option (List (Option IntKind))):Nat→List Field→Option (List (Option IntKind))
 | _,[]=>some []
 | o,f::fs=>if f.offset=o∧(f.name != "_")=true then (g f.type).bind fun k=>if P.cellsOf f.type=k.length then (fieldKinds P g (o+k.length) fs).map (k++·) else none else none
def kindsOf (P:Program):Nat→TypeId→Option (List (Option IntKind))
 | 0,_=>none
 | d+1,t=>
  match P.underlying t with
  | some .bool=>some [none]
  | some (.int q)=>some [some q]
  | some (.struct fs)=>(fieldKinds P (kindsOf P d) 0 fs.toList).bind fun ks=>if P.cellsOf t=ks.length∧fs.all (·.name != "_")=true then some ks else none
  | _=>none
def litOf:Value→Lit
 | .int k n=>.int k n
 | .bool b=>.bool b
 | _=>.bool false
theorem Fits.app {a b:List (Option IntKind)} {l:List Value} (h:Fits (a++b) l):Fits a (l.take a.length)∧Fits b (l.drop a.length):=by
 have hl:=h.len;rw[List.length_append] at hl;refine⟨⟨by rw[List.length_take];omega,fun j k v hk hv=>?_⟩,⟨by rw[List.length_drop];omega,fun j k v hk hv=>?_⟩⟩
 ·have hj:=(List.getElem?_eq_some_iff.1 hk).1;rw[List.getElem?_take,if_pos hj] at hv;exact h.at' j k v (by rw[List.getElem?_append_left hj];exact hk) hv
 ·rw[List.getElem?_drop] at hv;exact h.at' _ k v (by rw[List.getElem?_append_right (by omega)];rw[Nat.add_sub_cancel_left];exact hk) hv
theorem Fits.join {a b:List (Option IntKind)} {l:List Value} (h1:Fits a (l.take a.length)) (h2:Fits b (l.drop a.length)):Fits (a++b) l:=by
 have e1:=h1.len;have e2:=h2.len;rw[List.length_take] at e1;rw[List.length_drop] at e2;refine⟨by rw[List.length_append];omega,fun j k v hk hv=>?_⟩;by_cases hj:j<a.length
 ·rw[List.getElem?_append_left hj] at hk;exact h1.at' j k v hk (by rw[List.getElem?_take,if_pos hj];exact hv)
 ·rw[List.getElem?_append_right (by omega)] at hk;exact h2.at' _ k v hk (by rw[List.getElem?_drop,Nat.add_sub_cancel' (by omega)];exact hv)
theorem keyFields (P:Program) (d:Nat) (g:TypeId→Option (List (Option IntKind))) (ih:∀t ks cs,g t=some ks→Fits ks cs→P.keyLits d t cs=some (cs.map litOf)) (cs:List Value) :
  ∀(fs:List Field) (o:Nat) (ks:List (Option IntKind)),fieldKinds P g o fs=some ks→Fits ks (cs.drop o)→∃L,(fs.mapM fun f=>P.keyLits d f.type ((cs.drop f.offset).take (P.cellsOf f.type)))=some L∧L.flatten=(cs.drop o).map litOf
 | [],o,ks,h,hf=>by
  cases h;have:=hf.len;have e:cs.drop o=[]:=List.eq_nil_of_length_eq_zero this;exact⟨[],rfl,by simp[e]⟩
 | f::fs,o,ks,h,hf=>by
  unfold fieldKinds at h
  split at h
  ·rename_i ho
   rw[Option.bind_eq_some_iff] at h;obtain⟨k,hk,h⟩:=h
   split at h
   ·rename_i hc
    rw[Option.map_eq_some_iff] at h;obtain⟨r,hr,rfl⟩:=h;obtain⟨h1,h2⟩:=hf.app;rw[List.drop_drop] at h2;obtain⟨L,hL,eL⟩:=keyFields P d g ih cs fs _ r hr h2;have q:=ih f.type k _ hk h1;refine⟨((cs.drop o).take k.length).map litOf::L,?_,?_⟩
    ·rw[List.mapM_cons,ho.1,hc,q,hL];rfl
    ·rw[List.flatten_cons,eL,← List.map_append,← List.drop_drop,List.take_append_drop]
   ·cases h
  ·cases h
theorem w_j (P:Program):∀(d:Nat) (t:TypeId) (ks:List (Option IntKind)) (cs:List Value),kindsOf P d t=some ks→Fits ks cs→P.keyLits d t cs=some (cs.map litOf)
 | 0,t,ks,cs,h,_=>by cases h
 | d+1,t,ks,cs,h,hf=>by
  unfold kindsOf at h
  split at h
  ·rename_i hu
   cases h;have hl:=hf.len
   match cs,hl with
   | [c],_=>
    obtain⟨b,rfl⟩:=hf.at' 0 none c rfl rfl;simp[Program.keyLits,hu,litOf]
  ·rename_i q hu
   cases h;have hl:=hf.len
   match cs,hl with
   | [c],_=>
    obtain⟨n,rfl,hw⟩:=hf.at' 0 (some q) c rfl rfl;simp[Program.keyLits,hu,litOf,hw]
  ·rename_i fs hu
   rw[Option.bind_eq_some_iff] at h;obtain⟨ks',hk,h⟩:=h
   split at h
   ·rename_i hc
    cases h;obtain⟨L,hL,e⟩:=keyFields P d (kindsOf P d) (w_j P d) cs fs.toList 0 ks hk (by rw[List.drop_zero];exact hf);rw[List.drop_zero] at e;simp only[Program.keyLits,hu];rw[if_pos ⟨by rw[hf.len,hc.1],hc.2⟩,hL];simp[e]
   ·cases h
  ·cases h
theorem trodFields {H:Type} (enc:TypeId×Value→H) (P:Program) (W:World) (b:Nat) (sp:Nat→Bool) (m:Nat) (g:TypeId→Option (List (Option IntKind))) (ih:∀t ks cs r,g t=some ks→DataW.trod enc P W b sp true m t cs=some r→Fits ks cs) (cs:List Value) :
  ∀(fs:List Field) (o:Nat) (ks:List (Option IntKind)),fieldKinds P g o fs=some ks→cs.length=o+ks.length→(∀f∈fs,∃r,DataW.trod enc P W b sp true m f.type ((cs.drop f.offset).take (P.cellsOf f.type))=some r)→Fits ks (cs.drop o)
 | [],o,ks,h,hl,_=>by
  cases h;exact⟨by rw[List.length_drop,hl];simp,fun j k v hk=>by simp at hk⟩
 | f::fs,o,ks,h,hl,hs=>by
  unfold fieldKinds at h
  split at h
  ·rename_i ho
   rw[Option.bind_eq_some_iff] at h;obtain⟨k,hk,h⟩:=h
   split at h
   ·rename_i hc
    rw[Option.map_eq_some_iff] at h;obtain⟨r,hr,rfl⟩:=h;obtain⟨x,hx⟩:=hs f (by simp);rw[ho.1,hc] at hx;have h2:=trodFields enc P W b sp m g ih cs fs _ r hr (by rw[hl,List.length_append];omega) (fun f hf=>hs f (by simp[hf]));exact Fits.join (ih f.type k _ x hk hx) (by rw[List.drop_drop];exact h2)
   ·cases h
  ·cases h
theorem x_j {H:Type} (enc:TypeId×Value→H) (P:Program) (W:World) (b:Nat) (sp:Nat→Bool):∀(d m:Nat) (t:TypeId) (ks:List (Option IntKind)) (cs:List Value) (r:DataW H×List MemPlace),kindsOf P d t=some ks→DataW.trod enc P W b sp true m t cs=some r→Fits ks cs
 | 0,m,t,ks,cs,r,h,_=>by cases h
 | d+1,m,t,ks,cs,r,h,hf=>by
  unfold kindsOf at h
  split at h
  ·rename_i hu
   cases h;obtain⟨x,rfl,_⟩:=DataW.trod_bool hu hf;refine⟨rfl,fun j k v hk hv=>?_⟩
   match j,hk,hv with
   | 0,hk,hv=>cases hk;cases hv;exact⟨x,rfl⟩
   | j+1,hk,hv=>simp at hk
  ·rename_i q hu
   cases h;obtain⟨x,rfl,_,hw⟩:=DataW.trod_int hu hf;refine⟨rfl,fun j k v hk hv=>?_⟩
   match j,hk,hv with
   | 0,hk,hv=>cases hk;cases hv;exact⟨x,rfl,hw⟩
   | j+1,hk,hv=>simp at hk
  ·rename_i fs hu
   rw[Option.bind_eq_some_iff] at h;obtain⟨ks',hk,h⟩:=h
   split at h
   ·rename_i hc
    cases h;obtain⟨xs,n,rfl,_,hl,hxl,hg⟩:=DataW.trod_struct hu hf;have:=trodFields enc P W b sp n (kindsOf P d) (fun t ks cs r=>x_j enc P W b sp d n t ks cs r) cs fs.toList 0 ks hk (by rw[hl,hc.1];omega) (fun f hf=>by
     obtain⟨i,hi,e⟩:=List.mem_iff_getElem.1 hf;have hi':i<fs.size:=by simpa using hi
     have q:=hg i f (by rw[Array.getElem?_eq_getElem hi'];simpa using e);rw[List.getElem?_eq_getElem (by omega)] at q;exact⟨_,q⟩)
    rw[List.drop_zero] at this;exact this
   ·cases h
  ·cases h
theorem z_jO {k:Option IntKind} {a b:Value} (ha:Fit k a) (hb:Fit k b) (h:litOf a=litOf b):a=b:=by
 cases k with
 | none=>
  obtain⟨x,rfl⟩:=ha;obtain⟨y,rfl⟩:=hb;simp[litOf] at h;rw[h]
 | some k=>
  obtain⟨x,rfl,_⟩:=ha;obtain⟨y,rfl,_⟩:=hb;simp[litOf] at h;rw[h]
def Row.veq:Value→Value→Bool
 | .int _ a,.int _ b=>a==b
 | .bool a,.bool b=>a==b
 | _,_=>false
theorem Row.veq_iff {k:Option IntKind} {a b:Value} (ha:Fit k a) (hb:Fit k b):Row.veq a b=true↔a=b:=by
 cases k with
 | none=>
  obtain⟨x,rfl⟩:=ha;obtain⟨y,rfl⟩:=hb;simp[Row.veq]
 | some k=>
  obtain⟨x,rfl,_⟩:=ha;obtain⟨y,rfl,_⟩:=hb;simp[Row.veq]
def Row.leq:List Value→List Value→Bool
 | [],[]=>true
 | a::l,b::m=>Row.veq a b && Row.leq l m
 | _,_=>false
theorem Row.leq_iff:∀(ks:List (Option IntKind)) (l m:List Value),Fits ks l→Fits ks m→(Row.leq l m=true↔l=m)
 | [],[],[],_,_=>by simp[Row.leq]
 | k::ks,a::l,b::m,h,g=>by
  have t1:Fits ks l:=⟨by have:=h.len;simp at this;exact this,fun j k' v hk hv=>h.at' (j+1) k' v (by simpa using hk) (by simpa using hv)⟩;have t2:Fits ks m:=⟨by have:=g.len;simp at this;exact this,fun j k' v hk hv=>g.at' (j+1) k' v (by simpa using hk) (by simpa using hv)⟩;have e1:=Row.veq_iff (h.at' 0 k a rfl rfl) (g.at' 0 k b rfl rfl);have e2:=Row.leq_iff ks l m t1 t2
  simp only[Row.leq,Bool.and_eq_true,List.cons.injEq];rw[e1,e2]
 | [],_::_,_,h,_=>by have:=h.len;simp at this
 | [],[],_::_,_,g=>by have:=g.len;simp at this
 | _::_,[],_,h,_=>by have:=h.len;simp at this
 | _::_,_::_,[],_,g=>by have:=g.len;simp at this
def Row.eq {ks:List (Option IntKind)} (a b:Row ks):Bool:=Row.leq a.cl b.cl
theorem Row.eq_iff {ks:List (Option IntKind)} {a b:Row ks}:a.eq b=true↔a=b:=by
 unfold Row.eq;rw[Row.leq_iff ks a.cl b.cl a.ok b.ok];exact⟨Row.ext',fun e=>by rw[e]⟩
theorem Row.eq_self {ks:List (Option IntKind)} (a:Row ks):a.eq a=true:=Row.eq_iff.2 rfl
structure PlainTy (t:TypeId) (ks:List (Option IntKind)):Prop where
 kinds:kindsOf prog 6 t=some ks
 key:prog.keyTypeAt 6 t=true
 form:∃fs,prog.underlying t=some (.struct fs)
 cells:prog.cellsOf t=ks.length
theorem x_L {t:TypeId} {ks:List (Option IntKind)} (p:PlainTy t ks) (a b:Row ks) (w:World):(Op.equalIn 10000 t (.agg a.cs) (.agg b.cs)).run prog w=.ok (a.eq b) w:=by
 obtain⟨fs,hu⟩:=p.form;have ha:=w_j prog 6 t ks a.cl p.kinds a.ok;have hb:=w_j prog 6 t ks b.cl p.kinds b.ok;obtain⟨r,hr,hi⟩:=run_equalIn_deep (P:=prog) 9994 6 t p.key w 6 6 (.agg a.cs) (.agg b.cs) _ _ (by simp[Value.formed,hu,p.cells,a.csize]) (by simp[Value.formed,hu,p.cells,b.csize]) (by simpa [Value.cells,Row.cs] using ha) (by simpa [Value.cells,Row.cs] using hb);rw[hr];have e:r=a.eq b:=by
  rw[Bool.eq_iff_iff,hi,Row.eq_iff]
  constructor
  ·intro e;refine Row.same fun j hj=>?_;have h1:j<a.cl.length:=by rw[a.len];exact hj
   have h2:j<b.cl.length:=by rw[b.len];exact hj
   rw[List.getElem?_eq_getElem h1,List.getElem?_eq_getElem h2];have q:=congrArg (fun l=>l[j]?) e;simp only[List.getElem?_map,List.getElem?_eq_getElem h1,List.getElem?_eq_getElem h2,Option.map_some,Option.some.injEq] at q;rw[z_jO (a.ok.at' j ks[j] _ (List.getElem?_eq_getElem hj) (List.getElem?_eq_getElem h1)) (b.ok.at' j ks[j] _ (List.getElem?_eq_getElem hj) (List.getElem?_eq_getElem h2)) q]
  ·rintro rfl;rfl
 rw[e]
end
section
open Go.RowKit
def kdT:List (Option IntKind):=[some .u8,some .u8,some .u8,some .u8]
def kdV:List (Option IntKind):=[some .u64,some .u32,some .u64,some .u16]
def kdM:List (Option IntKind):=[some .i64,none,none,none,none,none,none,some .i64]++kdV++kdT
def kdP:List (Option IntKind):=[some .u16,some .u32]++[none,none,none,none,none,none,none,none,none,none,none,none,none,none,none,none,none,none,none,none,none,none,none,none,none,none,none]++[some .i64,some .i64,some .i64]++kdV++kdV++kdT++kdT++kdM++kdT++kdT++[some .i64,some .i64,some .i64,some .i64,some .i64]
abbrev Pt:=Row kdP
abbrev Mg:=Row kdM
abbrev Tm:=Row kdT
abbrev Vc:=Row kdV
theorem kb3:kdP[3]?=some none:=rfl
theorem kb4:kdP[4]?=some none:=rfl
theorem kb5:kdP[5]?=some none:=rfl
theorem kb11:kdP[11]?=some none:=rfl
theorem kb12:kdP[12]?=some none:=rfl
theorem kb13:kdP[13]?=some none:=rfl
theorem kb14:kdP[14]?=some none:=rfl
theorem kb15:kdP[15]?=some none:=rfl
theorem kb16:kdP[16]?=some none:=rfl
theorem kb17:kdP[17]?=some none:=rfl
theorem kb18:kdP[18]?=some none:=rfl
theorem kb19:kdP[19]?=some none:=rfl
theorem kb21:kdP[21]?=some none:=rfl
theorem kb22:kdP[22]?=some none:=rfl
theorem kb25:kdP[25]?=some none:=rfl
theorem kb28:kdP[28]?=some none:=rfl
theorem kn29:kdP[29]?=some (some .i64):=rfl
theorem kn72:kdP[72]?=some (some .i64):=rfl
theorem infoV:(prog.info? 36).map (·.size)=some 4:=by kernel_rfl
theorem ldV (x:Value):Instr.loadAt 36 x=ldS 36 x:=rfl
theorem stV (x y:Value):Instr.storeAt 36 x y=stS 36 x y:=rfl
theorem kb20:kdP[20]?=some none:=rfl
theorem kb24:kdP[24]?=some none:=rfl
theorem lenP:kdP.length=77:=by kernel_rfl
theorem lenM:kdM.length=16:=by kernel_rfl
theorem lenT:kdT.length=4:=by kernel_rfl
theorem lenV:kdV.length=4:=by kernel_rfl
theorem Pt.len (p:Pt):p.cl.length=77:=by rw[Row.len,lenP]
theorem infoP:(prog.info? 74).map (·.size)=some 77:=by kernel_rfl
theorem rtP:RowTy 74 77:=⟨infoP,_,underlying74,rfl⟩
theorem infoM:(prog.info? 46).map (·.size)=some 16:=by kernel_rfl
theorem rtM:RowTy 46 16:=⟨infoM,_,underlying46,rfl⟩
theorem infoTm:(prog.info? 24).map (·.size)=some 4:=by kernel_rfl
theorem plainP:PlainTy 74 kdP:=⟨by kernel_rfl,by kernel_rfl,⟨_,underlying74⟩,by kernel_rfl⟩
theorem plainT:PlainTy 24 kdT:=⟨by kernel_rfl,by kernel_rfl,⟨_,underlying24⟩,by kernel_rfl⟩
theorem plainV:PlainTy 36 kdV:=⟨by kernel_rfl,by kernel_rfl,⟨_,underlying36⟩,by kernel_rfl⟩
theorem eqPort (a b:Pt) (w:World):(Op.equalIn 10000 74 (.agg a.cs) (.agg b.cs)).run prog w=.ok (a.eq b) w:=x_L plainP a b w
theorem eqTimes (a b:Tm) (w:World):(Op.equalIn 10000 24 (.agg a.cs) (.agg b.cs)).run prog w=.ok (a.eq b) w:=x_L plainT a b w
theorem eqVector (a b:Vc) (w:World):(Op.equalIn 10000 36 (.agg a.cs) (.agg b.cs)).run prog w=.ok (a.eq b) w:=x_L plainV a b w
theorem gdP:prog.eqGuardType prog.depth 74=false:=by kernel_rfl
theorem eqgP (op:BinOp) (x y:Operand) (a b:Pt) (w:World):(eqGuard op 74 x y (.agg a.cs) (.agg b.cs)).run prog w=.ok () w:=run_eqGuard_agg w op _ x y _ _ gdP
theorem gdTm:prog.eqGuardType prog.depth 24=false:=by kernel_rfl
theorem eqgTm (op:BinOp) (x y:Operand) (a b:Tm) (w:World):(eqGuard op 24 x y (.agg a.cs) (.agg b.cs)).run prog w=.ok () w:=run_eqGuard_agg w op _ x y _ _ gdTm
theorem eqlTm (a b:Tm) (w:World):(binOp .eql 24 (.agg a.cs) (.agg b.cs)).run prog w=.ok (.bool (a.eq b)) w:=by
 rw[run_eql_struct,eqTimes];rfl
theorem gdV:prog.eqGuardType prog.depth 36=false:=by kernel_rfl
theorem eqgV (op:BinOp) (x y:Operand) (a b:Vc) (w:World):(eqGuard op 36 x y (.agg a.cs) (.agg b.cs)).run prog w=.ok () w:=run_eqGuard_agg w op _ x y _ _ gdV
theorem eqlV (a b:Vc) (w:World):(binOp .eql 36 (.agg a.cs) (.agg b.cs)).run prog w=.ok (.bool (a.eq b)) w:=by
 rw[run_eql_struct,eqVector];rfl
theorem ldP (x:Value):Instr.loadAt 74 x=ldS 74 x:=rfl
theorem stP (x y:Value):Instr.storeAt 74 x y=stS 74 x y:=rfl
theorem ldM (x:Value):Instr.loadAt 46 x=ldS 46 x:=rfl
theorem stM (x y:Value):Instr.storeAt 46 x y=stS 46 x y:=rfl
theorem ldTm (x:Value):Instr.loadAt 24 x=ldS 24 x:=rfl
theorem stTm (x y:Value):Instr.storeAt 24 x y=stS 24 x y:=rfl
theorem stB (x y:Value):Instr.storeAt 4 x y=stS 4 x y:=rfl
theorem stU (x y:Value):Instr.storeAt 5 x y=stS 5 x y:=rfl
theorem u_z:(prog.info? 4).map (·.size)=some 1∧(prog.info? 5).map (·.size)=some 1:=⟨by kernel_rfl,by kernel_rfl⟩
theorem RvAt.st1 {W:World} {b k:Nat} {ty tv:TypeId} {cs:Array Value} {v:Value} (h:RvAt W b ty cs) (hi:(prog.info? tv).map (·.size)=some 1) (hk:k<cs.size) (hv:v.oneCell'=true) :
  (stS tv (.pointer (some ⟨b,k,none⟩)) v).run prog W=.ok () (W.setRow b (cs.toList.set k v).toArray):=by
 have hs:=run_storeCells_at prog b k ty [v] 0 cs W h (by simp;omega) (by simpa using hv);have hi':∃i,prog.info? tv=some i∧i.size=1:=by
  cases hq:prog.info? tv with
  | none=>rw[hq] at hi;cases hi
  | some i=>rw[hq] at hi;exact⟨i,rfl,by simpa using hi⟩
 obtain⟨i,hi1,hi2⟩:=hi';have e:cs.toList.take k++[v]++cs.toList.drop (k+1)=cs.toList.set k v:=by
  rw[List.set_eq_take_append_cons_drop,if_pos (by simpa using hk)];simp
 have hc:v.cells=#[v]:=by cases v<;>first|rfl | (cases hv;done)
 simp only[Nat.add_zero,List.length_singleton] at hs;rw[e] at hs;unfold stS;simp[Instr.storeAt,Instr.sureAddr,storeVar,sizeOf,typeInfo,hi1,hi2,hc,hs]
theorem v_b {ks ks':List (Option IntKind)} {r:Row ks} {q:Row ks'} {o n:Nat} (e:q.cl=(r.cl.drop o).take n) {j:Nat} {v:Value} (h:q.cl[j]?=some v):r.cl[o+j]?=some v:=by
 rw[e,List.getElem?_take] at h
 split at h
 ·rw[List.getElem?_drop] at h;exact h
 ·cases h
theorem Row.idx {ks:List (Option IntKind)} {r:Row ks} {j:Nat} {v:Value} (h:r.cs.toList[j]?=some v):r.cl[j]?=some v:=by simpa [Row.cs] using h
theorem z_q {W W':World} (h:Below W.heap.size W W') (row:Option Nat):W.grownBy W' row:=⟨h.os,h.tape,h.output,h.size,fun i hi _=>h.block i hi⟩
theorem z_h {W W':World} {row:Option Nat} (h:W.grownBy W' row) {B:Nat} (hB:B≤W.heap.size) (hr:∀j,row=some j→B≤j):Below B W W':=
 ⟨h.os,h.tape,h.output,h.size,fun i hi=>h.block i (by omega) (fun e=>by have:=hr i e.symm;omega)⟩
theorem gro {W W':World} {b B:Nat} {w:World} (h:Below B w W) (k:W.grownBy W' (some b)) (hb:B≤b) (hB:B≤W.heap.size):Below B w W':=h.trans (z_h k hB (fun j e=>by cases e;exact hb))
theorem z_n {W W' V:World} {row:Option Nat} (h:W.grownBy W' row) (k:W'.grownBy V row):W.grownBy V row:=
 ⟨k.os.trans h.os,k.tape.trans h.tape,k.output.trans h.output,Nat.le_trans h.size k.size,fun i hi hne=>(k.block i (Nat.lt_of_lt_of_le hi h.size) hne).trans (h.block i hi hne)⟩
theorem RvAt.keptBut {W W':World} {b:Nat} {ty:TypeId} {cs:Array Value} {row:Option Nat} (h:RvAt W b ty cs) (hg:W.grownBy W' row) (hn:some b≠row):RvAt W' b ty cs:=(hg.block b h.lt hn).trans h
/-! ### parts of rows -/
def Row.put {ks ks':List (Option IntKind)} (r:Row ks) (o:Nat) (s:Row ks') (h:(ks.drop o).take ks'.length=ks') (hl:o+ks'.length≤ks.length):Row ks:=
 ⟨r.cl.take o++s.cl++r.cl.drop (o+ks'.length),by
  have h1:=r.len;have h2:=s.len;refine⟨by simp[h1,h2];omega,fun i k x hk hx=>?_⟩;have e1:(r.cl.take o).length=o:=by rw[List.length_take];omega
  by_cases hi:i<o
  ·rw[List.append_assoc,List.getElem?_append_left (by omega),List.getElem?_take,if_pos hi] at hx;exact r.ok.at' i k x hk hx
  ·by_cases hi2:i<o+ks'.length
   ·rw[List.getElem?_append_left (by rw[List.length_append];omega),List.getElem?_append_right (by omega),e1] at hx;refine s.ok.at' (i-o) k x ?_ hx;rw[←h,List.getElem?_take,if_pos (by omega),List.getElem?_drop,show o+(i-o)=i by omega];exact hk
   ·rw[List.getElem?_append_right (by rw[List.length_append];omega),List.getElem?_drop,List.length_append,e1,h2,show o+ks'.length+(i-(o+ks'.length))=i by omega] at hx;exact r.ok.at' i k x hk hx⟩
theorem Row.put_get {ks ks':List (Option IntKind)} (r:Row ks) (o:Nat) (s:Row ks') (h:(ks.drop o).take ks'.length=ks') (hl:o+ks'.length≤ks.length) (i:Nat) :
  (r.put o s h hl).cl[i]?=if o≤i∧i<o+ks'.length then s.cl[i-o]? else r.cl[i]?:=by
 have h1:=r.len;have h2:=s.len;have e1:(r.cl.take o).length=o:=by rw[List.length_take];omega
 show (r.cl.take o++s.cl++r.cl.drop (o+ks'.length))[i]?=_
 by_cases hi:i<o
 ·rw[List.append_assoc,List.getElem?_append_left (by omega),List.getElem?_take,if_pos hi,if_neg (by omega)]
 ·by_cases hi2:i<o+ks'.length
  ·rw[List.getElem?_append_left (by rw[List.length_append];omega),List.getElem?_append_right (by omega),e1,if_pos ⟨by omega,hi2⟩]
  ·rw[List.getElem?_append_right (by rw[List.length_append];omega),List.getElem?_drop,List.length_append,e1,h2,show o+ks'.length+(i-(o+ks'.length))=i by omega,if_neg (by omega)]
theorem Row.set_get {ks:List (Option IntKind)} (r:Row ks) {j:Nat} {v:Value} (h:∀k,ks[j]?=some k→Fit k v) (hj:j<ks.length) (i:Nat):(r.set j v h).cl[i]?=if i=j then some v else r.cl[i]?:=by
 have:=r.len
 show (r.cl.set j v)[i]?=_
 rw[List.getElem?_set];by_cases e:j=i
 ·subst e;rw[if_pos rfl,if_pos rfl,if_pos (by omega)]
 ·rw[if_neg e,if_neg (fun h=>e h.symm)]
theorem y_x {ks:List (Option IntKind)} {j:Nat} {b:Bool} (h:ks[j]?=some none):∀k,ks[j]?=some k→Fit k (.bool b):=by
 intro k hk;rw[h] at hk;cases hk;exact⟨b,rfl⟩
theorem z_z {ks:List (Option IntKind)} {j:Nat} {q:IntKind} {n:Int} (h:ks[j]?=some (some q)) (hw:(Lit.int q n).wf=true):∀k,ks[j]?=some k→Fit k (.int q n):=by
 intro k hk;rw[h] at hk;cases hk;exact⟨n,rfl,hw⟩
def Row.setB {ks:List (Option IntKind)} (r:Row ks) (j:Nat) (h:ks[j]?=some none) (b:Bool):Row ks:=r.set j (.bool b) (y_x h)
theorem Row.setB_get {ks:List (Option IntKind)} (r:Row ks) {j:Nat} (h:ks[j]?=some none) (b:Bool) (i:Nat):(r.setB j h b).cl[i]?=if i=j then some (.bool b) else r.cl[i]?:=r.set_get _ (List.getElem?_eq_some_iff.1 h).1 i
def Row.setU {ks:List (Option IntKind)} (r:Row ks) (j:Nat) (n:Int):Row ks:=
 if h:ks[j]?=some (some .u8)∧(Lit.int .u8 n).wf=true then r.set j (.int .u8 n) (z_z h.1 h.2) else r
theorem Row.setU_is {ks:List (Option IntKind)} (r:Row ks) {j:Nat} {n:Int} (h:ks[j]?=some (some .u8)) (hw:(Lit.int .u8 n).wf=true):r.setU j n=r.set j (.int .u8 n) (z_z h hw):=by
 unfold Row.setU;rw[dif_pos ⟨h,hw⟩]
theorem Row.setU_get {ks:List (Option IntKind)} (r:Row ks) {j:Nat} {n:Int} (h:ks[j]?=some (some .u8)) (hw:(Lit.int .u8 n).wf=true) (i:Nat):(r.setU j n).cl[i]?=if i=j then some (.int .u8 n) else r.cl[i]?:=by
 rw[r.setU_is h hw];exact r.set_get _ (List.getElem?_eq_some_iff.1 h).1 i
theorem wf8 {n:Int} (h:0≤n∧n≤255):(Lit.int .u8 n).wf=true:=by simp[Lit.wf,IntKind.min,IntKind.max,IntKind.signed,IntKind.bits];omega
theorem Row.u8 {ks:List (Option IntKind)} (r:Row ks) {j:Nat} (h:ks[j]?=some (some .u8)):0≤r.nm j∧r.nm j≤255:=by
 have:=r.nwf h;simp[Lit.wf,IntKind.min,IntKind.max,IntKind.signed,IntKind.bits] at this;omega
theorem Row.u16 {ks:List (Option IntKind)} (r:Row ks) {j:Nat} (h:ks[j]?=some (some .u16)):0≤r.nm j∧r.nm j≤65535:=by
 have:=r.nwf h;simp[Lit.wf,IntKind.min,IntKind.max,IntKind.signed,IntKind.bits] at this;omega
theorem Row.u32 {ks:List (Option IntKind)} (r:Row ks) {j:Nat} (h:ks[j]?=some (some .u32)):0≤r.nm j∧r.nm j≤4294967295:=by
 have:=r.nwf h;simp[Lit.wf,IntKind.min,IntKind.max,IntKind.signed,IntKind.bits] at this;omega
theorem Row.u64 {ks:List (Option IntKind)} (r:Row ks) {j:Nat} (h:ks[j]?=some (some .u64)):0≤r.nm j∧r.nm j≤18446744073709551615:=by
 have:=r.nwf h;simp[Lit.wf,IntKind.min,IntKind.max,IntKind.signed,IntKind.bits] at this;omega
/-! ### a port's and a message's parts -/
def dsg (p:Pt):Vc:=⟨(p.cl.drop 32).take 4,(p.sub 32 4).ok⟩
def pri (p:Pt):Vc:=⟨(p.cl.drop 36).take 4,(p.sub 36 4).ok⟩
def priT (p:Pt):Tm:=⟨(p.cl.drop 44).take 4,(p.sub 44 4).ok⟩
def msg (p:Pt):Mg:=⟨(p.cl.drop 48).take 16,(p.sub 48 16).ok⟩
def mV (p:Pt):Vc:=⟨(p.cl.drop 56).take 4,(p.sub 56 4).ok⟩
def mT (p:Pt):Tm:=⟨(p.cl.drop 60).take 4,(p.sub 60 4).ok⟩
def vOf (m:Mg):Vc:=⟨(m.cl.drop 8).take 4,(m.sub 8 4).ok⟩
def tOf (m:Mg):Tm:=⟨(m.cl.drop 12).take 4,(m.sub 12 4).ok⟩
/-! ### ports in variables -/
theorem RvAt.part {W:World} {b o n:Nat} {ty t:TypeId} {ks ks':List (Option IntKind)} {r:Row ks} {q:Row ks'} (hb:RvAt W b ty r.cs) (e:q.cl=(r.cl.drop o).take n) (hn:ks'.length=n) {d:TypeDesc} (hu:prog.underlying t=some d) (hr:d.isRow=true) (hi:(prog.info? t).map (·.size)=some n) :
  (ldS t (.pointer (some ⟨b,o,none⟩))).run prog W=.ok (.agg q.cs) W:=
 run_loadAt_mid W b o t q.cs.toList _ (fun j v hv=>hb.cell _ _ (by rw[Row.cget];exact v_b e (Row.idx hv))) hu hr (by rw[Array.length_toList,Row.csize,hn];exact hi)
theorem RvAt.pld {W:World} {b:Nat} {p:Pt} (hb:RvAt W b 74 p.cs):(ldS 74 (.pointer (some ⟨b,0,none⟩))).run prog W=.ok (.agg p.cs) W:=hb.ld rtP (by rw[Row.csize,lenP])
theorem RvAt.mld {W:World} {b:Nat} {m:Mg} (hb:RvAt W b 46 m.cs):(ldS 46 (.pointer (some ⟨b,0,none⟩))).run prog W=.ok (.agg m.cs) W:=hb.ld rtM (by rw[Row.csize,lenM])
theorem RvAt.pdsg {W:World} {b:Nat} {p:Pt} (hb:RvAt W b 74 p.cs):(ldS 36 (.pointer (some ⟨b,32,none⟩))).run prog W=.ok (.agg (dsg p).cs) W:=hb.part rfl rfl underlying36 rfl infoV
theorem RvAt.ppri {W:World} {b:Nat} {p:Pt} (hb:RvAt W b 74 p.cs):(ldS 36 (.pointer (some ⟨b,36,none⟩))).run prog W=.ok (.agg (pri p).cs) W:=hb.part rfl rfl underlying36 rfl infoV
theorem RvAt.ppriT {W:World} {b:Nat} {p:Pt} (hb:RvAt W b 74 p.cs):(ldS 24 (.pointer (some ⟨b,44,none⟩))).run prog W=.ok (.agg (priT p).cs) W:=hb.part rfl rfl underlying24 rfl infoTm
theorem RvAt.pmsg {W:World} {b:Nat} {p:Pt} (hb:RvAt W b 74 p.cs):(ldS 46 (.pointer (some ⟨b,48,none⟩))).run prog W=.ok (.agg (msg p).cs) W:=hb.part rfl rfl underlying46 rfl infoM
theorem RvAt.pmV {W:World} {b:Nat} {p:Pt} (hb:RvAt W b 74 p.cs):(ldS 36 (.pointer (some ⟨b,56,none⟩))).run prog W=.ok (.agg (mV p).cs) W:=hb.part rfl rfl underlying36 rfl infoV
theorem RvAt.pmT {W:World} {b:Nat} {p:Pt} (hb:RvAt W b 74 p.cs):(ldS 24 (.pointer (some ⟨b,60,none⟩))).run prog W=.ok (.agg (mT p).cs) W:=hb.part rfl rfl underlying24 rfl infoTm
theorem RvAt.mvof {W:World} {b:Nat} {m:Mg} (hb:RvAt W b 46 m.cs):(ldS 36 (.pointer (some ⟨b,8,none⟩))).run prog W=.ok (.agg (vOf m).cs) W:=hb.part rfl rfl underlying36 rfl infoV
theorem RvAt.mtof {W:World} {b:Nat} {m:Mg} (hb:RvAt W b 46 m.cs):(ldS 24 (.pointer (some ⟨b,12,none⟩))).run prog W=.ok (.agg (tOf m).cs) W:=hb.part rfl rfl underlying24 rfl infoTm
theorem RvAt.num {W:World} {b j:Nat} {k:IntKind} {ty:TypeId} {ks:List (Option IntKind)} {r:Row ks} (hb:RvAt W b ty r.cs) (hk:ks[j]?=some (some k)):W.cell? ⟨b,j,none⟩=some (.int k (r.nm j)):=hb.cell j _ (by rw[Row.cget];exact r.num hk)
theorem RvAt.bit {W:World} {b j:Nat} {ty:TypeId} {ks:List (Option IntKind)} {r:Row ks} (hb:RvAt W b ty r.cs) (hk:ks[j]?=some none):W.cell? ⟨b,j,none⟩=some (.bool (r.bt j)):=hb.cell j _ (by rw[Row.cget];exact r.bit hk)
theorem z_m (W:World) (b:Nat) (cs:Array Value):W.grownBy (W.setRow b cs) (some b):=⟨rfl,rfl,rfl,by simp,fun i hi hne=>setRow_other W b i _ (fun e=>hne (by rw[e]))⟩
theorem RvAt.rset {W:World} {b j:Nat} {ty tv:TypeId} {v:Value} {ks:List (Option IntKind)} {p:Row ks} (hb:RvAt W b ty p.cs) (hi:(prog.info? tv).map (·.size)=some 1) (hj:j<ks.length) (hv:v.oneCell'=true) (hf:∀k,ks[j]?=some k→Fit k v) :
  ∃W',(stS tv (.pointer (some ⟨b,j,none⟩)) v).run prog W=.ok () W'∧RvAt W' b ty (p.set j v hf).cs∧W.grownBy W' (some b):=
 ⟨_,hb.st1 hi (by rw[Row.csize];exact hj) hv,hb.set,z_m _ _ _⟩
theorem RvAt.setB {W:World} {b j:Nat} {ty:TypeId} {ks:List (Option IntKind)} {p:Row ks} (hb:RvAt W b ty p.cs) (h:ks[j]?=some none) (x:Bool) :
  ∃W',(stS 4 (.pointer (some ⟨b,j,none⟩)) (.bool x)).run prog W=.ok () W'∧RvAt W' b ty (p.setB j h x).cs∧W.grownBy W' (some b):=hb.rset u_z.1 (List.getElem?_eq_some_iff.1 h).1 rfl _
theorem RvAt.setU {W:World} {b j:Nat} {ty:TypeId} {ks:List (Option IntKind)} {p:Row ks} (hb:RvAt W b ty p.cs) (h:ks[j]?=some (some .u8)) {n:Int} (hn:0≤n∧n≤255) :
  ∃W',(stS 5 (.pointer (some ⟨b,j,none⟩)) (.int .u8 n)).run prog W=.ok () W'∧RvAt W' b ty (p.setU j n).cs∧W.grownBy W' (some b):=by
 rw[p.setU_is h (wf8 hn)];exact hb.rset u_z.2 (List.getElem?_eq_some_iff.1 h).1 rfl _
theorem RvAt.rput {W:World} {b o:Nat} {ty tv:TypeId} {ks ks':List (Option IntKind)} {p:Row ks} (hb:RvAt W b ty p.cs) (s:Row ks') (h:(ks.drop o).take ks'.length=ks') (hl:o+ks'.length≤ks.length) (hi:(prog.info? tv).map (·.size)=some ks'.length) :
  ∃W',(stS tv (.pointer (some ⟨b,o,none⟩)) (.agg s.cs)).run prog W=.ok () W'∧RvAt W' b ty (p.put o s h hl).cs∧W.grownBy W' (some b):=by
 have hs:=z_A (ty:=tv) (o:=o) (cs:=s.cs) hb (by rw[Row.csize];exact hi) (by rw[Row.csize,Row.csize];exact hl) s.one';refine⟨_,hs,?_,z_m _ _ _⟩;have e:(p.cs.toList.take o++s.cs.toList++p.cs.toList.drop (o+s.cs.size)).toArray=(p.put o s h hl).cs:=by
  rw[Row.csize];rfl
 rw[e];exact hb.set
theorem kq36:(kdP.drop 36).take kdV.length=kdV:=rfl
theorem kl36:36+kdV.length≤kdP.length:=by decide
theorem kq44:(kdP.drop 44).take kdT.length=kdT:=rfl
theorem kl44:44+kdT.length≤kdP.length:=by decide
theorem RvAt.putV {W:World} {b:Nat} {p:Pt} (hb:RvAt W b 74 p.cs) (v:Vc):∃W',(stS 36 (.pointer (some ⟨b,36,none⟩)) (.agg v.cs)).run prog W=.ok () W'∧RvAt W' b 74 (p.put 36 v kq36 kl36).cs∧W.grownBy W' (some b):=hb.rput v kq36 kl36 infoV
theorem RvAt.putT {W:World} {b:Nat} {p:Pt} (hb:RvAt W b 74 p.cs) (v:Tm):∃W',(stS 24 (.pointer (some ⟨b,44,none⟩)) (.agg v.cs)).run prog W=.ok () W'∧RvAt W' b 74 (p.put 44 v kq44 kl44).cs∧W.grownBy W' (some b):=hb.rput v kq44 kl44 infoTm
def zeroV (k:Option IntKind):Value:=match k with | none=>.bool false | some k=>.int k 0
theorem fitz (k:Option IntKind):Fit k (zeroV k):=by
 cases k with
 | none=>exact⟨_,rfl⟩
 | some k=>exact⟨0,rfl,by cases k<;>decide⟩
def zeroR (ks:List (Option IntKind)):Row ks:=⟨ks.map zeroV,by
 refine⟨by simp,fun j k v hk hv=>?_⟩;rw[List.getElem?_map,hk] at hv;cases hv;exact fitz k⟩
def zeroP:Pt:=zeroR kdP
def zeroM:Mg:=zeroR kdM
theorem zeroPort (w:World):(zeroValue 74).run prog w=.ok (.agg zeroP.cs) w:=by kernel_rfl
theorem zeroMsg (w:World):(zeroValue 46).run prog w=.ok (.agg zeroM.cs) w:=by kernel_rfl
def alS (t:TypeId):Sem Value:=Instr.alloc t true (.tuple #[])
theorem alP:Instr.alloc 74 true (.tuple #[])=alS 74:=rfl
theorem alM:Instr.alloc 46 true (.tuple #[])=alS 46:=rfl
theorem z_l (w:World):(alS 74).run prog w=.ok (.pointer (some ⟨w.heap.size,0,none⟩)) (w.alloc (.cells zeroP.cs 74)):=by
 unfold alS Instr.alloc;rw[Sem.run_bind,zeroPort];rfl
theorem z_D (w:World):(alS 46).run prog w=.ok (.pointer (some ⟨w.heap.size,0,none⟩)) (w.alloc (.cells zeroM.cs 46)):=by
 unfold alS Instr.alloc;rw[Sem.run_bind,zeroMsg];rfl
theorem RvAt.pst {W:World} {b:Nat} {p q:Pt} (hb:RvAt W b 74 p.cs):∃W',(stS 74 (.pointer (some ⟨b,0,none⟩)) (.agg q.cs)).run prog W=.ok () W'∧RvAt W' b 74 q.cs∧W.grownBy W' (some b):=
 ⟨_,hb.st rtP (by rw[Row.csize,lenP]) (by rw[Row.csize,lenP]) q.one',hb.set,z_m _ _ _⟩
theorem u_X {fn:Func} {k:Nat} (hr:fn.results=#[.cell k 74]) (tmps:Array Value) (w:World) (b:Nat) (p:Pt) (h2:tmps.getD k undef=.pointer (some ⟨b,0,none⟩)) (h:RvAt w b 74 p.cs) :
  (results fn tmps).run prog w=.ok (.agg p.cs) w:=z_e rtP hr tmps w b p.cs h2 h (by rw[Row.csize,lenP])
theorem z_g {fn:Func} {k:Nat} (hr:fn.results=#[.cell k 74]) {R:Ending→World→Prop} {a:Act} {w:World} {b:Nat} {p:Pt} (hd:a.defers=[]) (h2:a.tmps.getD k undef=.pointer (some ⟨b,0,none⟩)) (h:RvAt w b 74 p.cs) (hR:R (.returned (.agg p.cs)) w):bodyPost prog fn R .ret a w:=
 bodyPost_ret (u_X hr _ _ _ _ h2 h) hd hR
theorem y_T (w:World) (p:Pt):∃W,w.alloc (.cells p.cs 74)=W∧RvAt W w.heap.size 74 p.cs∧Below w.heap.size w W∧W.heap.size=w.heap.size+1:=
 ⟨_,rfl,RvAt.new w _ _,(Below.refl _ _).alloc (Nat.le_refl _) _,by simp⟩
theorem z_jI (w:World) (p:Mg):∃W,w.alloc (.cells p.cs 46)=W∧RvAt W w.heap.size 46 p.cs∧Below w.heap.size w W∧W.heap.size=w.heap.size+1:=
 ⟨_,rfl,RvAt.new w _ _,(Below.refl _ _).alloc (Nat.le_refl _) _,by simp⟩
theorem x_y (w:World) (p:Pt):∃W,(w.alloc (.cells p.cs 74)).alloc (.cells zeroP.cs 74)=W∧RvAt W w.heap.size 74 p.cs∧RvAt W (w.heap.size+1) 74 zeroP.cs∧Below w.heap.size w W∧W.heap.size=w.heap.size+2:=by
 obtain⟨A,hA,rA,bA,zA⟩:=y_T w p;obtain⟨C,hC,rC,bC,zC⟩:=y_T A zeroP;rw[zA] at rC;exact⟨C,by rw[hA,hC],rA.below bC,rC,z_a bA bC,by omega⟩
end
section
open Go.RowKit
def kdH:List (Option IntKind):=[some .u64]++kdT++[some .u8,none,some .u16]++kdV++kdT
def kdC:List (Option IntKind):=[some .u64]++kdT++[some .u8]
abbrev Hd:=Row kdH
abbrev Cf:=Row kdC
theorem lenH:kdH.length=16:=by kernel_rfl
theorem lenC:kdC.length=6:=by kernel_rfl
theorem infoT:(prog.info? 39).map (·.size)=some 17:=by kernel_rfl
theorem rtT:RowTy 39 17:=⟨infoT,_,underlying39,rfl⟩
theorem infoC:(prog.info? 27).map (·.size)=some 7:=by kernel_rfl
theorem rtC:RowTy 27 7:=⟨infoC,_,underlying27,rfl⟩
theorem rtTm:RowTy 24 4:=⟨infoTm,_,underlying24,rfl⟩
theorem neqP (a b:Pt) (w:World):(binOp .neq 74 (.agg a.cs) (.agg b.cs)).run prog w=.ok (.bool (!(a.eq b))) w:=by
 rw[run_neq_struct,eqPort];rfl
theorem neqTm (a b:Tm) (w:World):(binOp .neq 24 (.agg a.cs) (.agg b.cs)).run prog w=.ok (.bool (!(a.eq b))) w:=by
 rw[run_neq_struct,eqTimes];rfl
theorem neqV (a b:Vc) (w:World):(binOp .neq 36 (.agg a.cs) (.agg b.cs)).run prog w=.ok (.bool (!(a.eq b))) w:=by
 rw[run_neq_struct,eqVector];rfl
theorem ldT (x:Value):Instr.loadAt 39 x=ldS 39 x:=rfl
theorem stT (x y:Value):Instr.storeAt 39 x y=stS 39 x y:=rfl
theorem ldC (x:Value):Instr.loadAt 27 x=ldS 27 x:=rfl
theorem stC (x y:Value):Instr.storeAt 27 x y=stS 27 x y:=rfl
theorem st32 (x y:Value):Instr.storeAt 37 x y=stS 37 x y:=rfl
theorem st4 (x y:Value):Instr.storeAt 4 x y=stS 4 x y:=rfl
theorem st5 (x y:Value):Instr.storeAt 5 x y=stS 5 x y:=rfl
theorem st49 (x y:Value):Instr.storeAt 44 x y=stS 44 x y:=rfl
theorem x_S:(prog.info? 4).map (·.size)=some 1∧(prog.info? 5).map (·.size)=some 1∧(prog.info? 34).map (·.size)=some 1∧(prog.info? 44).map (·.size)=some 1∧(prog.info? 37).map (·.size)=some 1∧(prog.info? 25).map (·.size)=some 1:=⟨by kernel_rfl,by kernel_rfl,by kernel_rfl,by kernel_rfl,by kernel_rfl,by kernel_rfl⟩
/-! ### trees -/
def trc (h:Hd) (x:Value):Array Value:=(h.cl++[x]).toArray
theorem z_c (h:Hd) (x:Value):(trc h x).size=17:=by simp[trc,h.len,lenH]
theorem w_Z {h:Hd} {x v:Value} {j:Nat} (hv:h.cl[j]?=some v):(trc h x)[j]?=some v:=by
 have:=(List.getElem?_eq_some_iff.1 hv).1;simp only[trc,List.getElem?_toArray];rw[List.getElem?_append_left this];exact hv
theorem z_hW (h:Hd) (x:Value):(trc h x)[16]?=some x:=by
 have:=h.len;rw[lenH] at this;simp only[trc,List.getElem?_toArray];rw[List.getElem?_append_right (by omega),this];rfl
theorem z_iy (h:Hd) (x y:Value):((trc h x).toList.set 16 y).toArray=trc h y:=by
 have:=h.len;rw[lenH] at this;simp only[trc];rw[List.set_append_right _ _ (by omega),this];rfl
theorem x_A {h:Hd} {x:Value} (hx:x.oneCell'=true):∀v∈(trc h x).toList,v.oneCell'=true:=by
 intro v hv;simp only[trc,List.mem_append,List.mem_singleton] at hv;rcases hv with hv | rfl
 ·exact h.one v hv
 ·exact hx
def tOfH (h:Hd):Tm:=⟨(h.cl.drop 1).take 4,(h.sub 1 4).ok⟩
def rOf (h:Hd):Vc:=⟨(h.cl.drop 8).take 4,(h.sub 8 4).ok⟩
def uOf (h:Hd):Tm:=⟨(h.cl.drop 12).take 4,(h.sub 12 4).ok⟩
theorem RvAt.tT {W:World} {b:Nat} {h:Hd} {x:Value} (hb:RvAt W b 39 (trc h x)):(ldS 24 (.pointer (some ⟨b,1,none⟩))).run prog W=.ok (.agg (tOfH h).cs) W:=
 run_loadAt_mid W b 1 24 (tOfH h).cs.toList _ (fun j v hv=>hb.cell _ _ (w_Z (v_b (q:=tOfH h) rfl (Row.idx hv)))) underlying24 rfl (by rw[show (Row.cs _).toList.length=4 by rw[Array.length_toList,Row.csize];rfl];exact infoTm)
theorem RvAt.tR {W:World} {b:Nat} {h:Hd} {x:Value} (hb:RvAt W b 39 (trc h x)):(ldS 36 (.pointer (some ⟨b,8,none⟩))).run prog W=.ok (.agg (rOf h).cs) W:=
 run_loadAt_mid W b 8 36 (rOf h).cs.toList _ (fun j v hv=>hb.cell _ _ (w_Z (v_b (q:=rOf h) rfl (Row.idx hv)))) underlying36 rfl (by rw[show (Row.cs _).toList.length=4 by rw[Array.length_toList,Row.csize];rfl];exact infoV)
theorem RvAt.tU {W:World} {b:Nat} {h:Hd} {x:Value} (hb:RvAt W b 39 (trc h x)):(ldS 24 (.pointer (some ⟨b,12,none⟩))).run prog W=.ok (.agg (uOf h).cs) W:=
 run_loadAt_mid W b 12 24 (uOf h).cs.toList _ (fun j v hv=>hb.cell _ _ (w_Z (v_b (q:=uOf h) rfl (Row.idx hv)))) underlying24 rfl (by rw[show (Row.cs _).toList.length=4 by rw[Array.length_toList,Row.csize];rfl];exact infoTm)
theorem RvAt.tld {W:World} {b:Nat} {h:Hd} {x:Value} (hb:RvAt W b 39 (trc h x)):(ldS 39 (.pointer (some ⟨b,0,none⟩))).run prog W=.ok (.agg (trc h x)) W:=hb.ld rtT (z_c h x)
theorem RvAt.t16 {W:World} {b:Nat} {h:Hd} {x:Value} (hb:RvAt W b 39 (trc h x)):W.cell? ⟨b,16,none⟩=some x:=hb.cell 16 _ (z_hW h x)
theorem RvAt.tnum {W:World} {b j:Nat} {k:IntKind} {h:Hd} {x:Value} (hb:RvAt W b 39 (trc h x)) (hk:kdH[j]?=some (some k)):W.cell? ⟨b,j,none⟩=some (.int k (h.nm j)):=hb.cell j _ (w_Z (h.num hk))
theorem RvAt.tbit {W:World} {b j:Nat} {h:Hd} {x:Value} (hb:RvAt W b 39 (trc h x)) (hk:kdH[j]?=some none):W.cell? ⟨b,j,none⟩=some (.bool (h.bt j)):=hb.cell j _ (w_Z (h.bit hk))
theorem RvAt.tset {W:World} {b:Nat} {h:Hd} {x y:Value} (hb:RvAt W b 39 (trc h x)) (hy:y.oneCell'=true) :
  ∃W',(stS 37 (.pointer (some ⟨b,16,none⟩)) y).run prog W=.ok () W'∧RvAt W' b 39 (trc h y)∧W.grownBy W' (some b):=by
 refine⟨_,hb.st1 x_S.2.2.2.2.1 (by rw[z_c];omega) hy,?_,⟨rfl,rfl,rfl,by simp,fun i hi hne=>setRow_other W b i _ (fun e=>hne (by rw[e]))⟩⟩;rw[z_iy];exact hb.set
theorem RvAt.tst {W:World} {b:Nat} {h g:Hd} {x y:Value} (hb:RvAt W b 39 (trc h x)) (hy:y.oneCell'=true) :
  ∃W',(stS 39 (.pointer (some ⟨b,0,none⟩)) (.agg (trc g y))).run prog W=.ok () W'∧RvAt W' b 39 (trc g y)∧W.grownBy W' (some b):=
 ⟨_,hb.st rtT (z_c _ _) (z_c _ _) (x_A hy),hb.set,⟨rfl,rfl,rfl,by simp,fun i hi hne=>setRow_other W b i _ (fun e=>hne (by rw[e]))⟩⟩
/-! ### ports in variables -/
theorem RvAt.pnum {W:World} {b j:Nat} {k:IntKind} {p:Pt} (hb:RvAt W b 74 p.cs) (hk:kdP[j]?=some (some k)):W.cell? ⟨b,j,none⟩=some (.int k (p.nm j)):=hb.cell j _ (by rw[Row.cget];exact p.num hk)
theorem RvAt.pbit {W:World} {b j:Nat} {p:Pt} (hb:RvAt W b 74 p.cs) (hk:kdP[j]?=some none):W.cell? ⟨b,j,none⟩=some (.bool (p.bt j)):=hb.cell j _ (by rw[Row.cget];exact p.bit hk)
def zeroH:Hd:=zeroR kdH
/-! ### rows of ports, flat -/
theorem z_K:∀(l:List Pt) (t:Nat),(l.flatMap Row.cl)[t]?=(l[t / 77]?).bind (fun x=>x.cl[t%77]?)
 | [],t=>by simp
 | x::r,t=>by
  rw[List.flatMap_cons];by_cases h:t<77
  ·rw[List.getElem?_append_left (by rw[Pt.len];exact h),Nat.div_eq_of_lt h,Nat.mod_eq_of_lt h];rfl
  ·rw[List.getElem?_append_right (by rw[Pt.len];omega),Pt.len,z_K r (t-77)];have h1:t / 77=(t-77) / 77+1:=by omega
   have h2:(t-77)%77=t%77:=by omega
   rw[h1,h2,List.getElem?_cons_succ]
theorem z_O (l:List Pt):(l.flatMap Row.cl).length=l.length*77:=by
 induction l with
 | nil=>rfl
 | cons x r ih=>rw[List.flatMap_cons,List.length_append,ih,Pt.len,List.length_cons];omega
theorem z_hb (l:List Pt):∀v∈l.flatMap Row.cl,v.oneCell'=true:=by
 intro v hv;obtain⟨x,_,hx⟩:=List.mem_flatMap.1 hv;exact Row.one x v hx
theorem z_jX {l:List Pt} {i k:Nat} {x:Pt} {v:Value} (hx:l[i]?=some x) (hv:x.cl[k]?=some v) (hk:k<77):(l.flatMap Row.cl)[i*77+k]?=some v:=by
 rw[z_K,show (i*77+k) / 77=i by omega,show (i*77+k)%77=k by omega,hx];exact hv
structure SlAw (W:World) (a:Option Addr) (n c:Nat) (l:List Pt):Prop where
 len:l.length=n
 cap:n≤c
 max:c≤maxLen
 nil:a=none→n=0∧c=0
 cells:∀x,a=some x→0<n→∃b o,x=⟨b,o,none⟩∧∀j u,(l.flatMap Row.cl)[j]?=some u→W.cell? ⟨b,o+j,none⟩=some u
structure SlAt (W:World) (a:Option Addr) (n c:Nat) (l:List Pt):Prop extends SlAw W a n c l where
 soft:∀x,a=some x→0<n→∃cs,RvAt W x.block 74 cs
theorem SlAw.below {W W':World} {a:Option Addr} {n c:Nat} {l:List Pt} (h:SlAw W a n c l) (hb:Below W.heap.size W W'):SlAw W' a n c l:=by
 refine⟨h.len,h.cap,h.max,h.nil,fun x hx h0=>?_⟩;obtain⟨b,o,e,hc⟩:=h.cells x hx h0;exact⟨b,o,e,fun j u hj=>(hb.cell (World.block_lt_of_cell? W _ (hc j u hj))).trans (hc j u hj)⟩
theorem SlAt.below {W W':World} {a:Option Addr} {n c:Nat} {l:List Pt} (h:SlAt W a n c l) (hb:Below W.heap.size W W'):SlAt W' a n c l:=by
 refine⟨⟨h.len,h.cap,h.max,h.nil,fun x hx h0=>?_⟩,fun x hx h0=>(h.soft x hx h0).imp fun cs r=>r.below hb⟩;obtain⟨b,o,e,hc⟩:=h.cells x hx h0;exact⟨b,o,e,fun j u hj=>(hb.cell (World.block_lt_of_cell? W _ (hc j u hj))).trans (hc j u hj)⟩
theorem SlAt.keptBut {W W':World} {a:Option Addr} {n c:Nat} {l:List Pt} {row:Option Nat} (h:SlAt W a n c l) (hg:W.grownBy W' row) (hn:∀x,a=some x→some x.block≠row):SlAt W' a n c l:=by
 refine⟨⟨h.len,h.cap,h.max,h.nil,fun x hx h0=>?_⟩,fun x hx h0=>(h.soft x hx h0).imp fun cs r=>r.keptBut hg (hn x hx)⟩;obtain⟨b,o,e,hc⟩:=h.cells x hx h0;refine⟨b,o,e,fun j u hj=>?_⟩;subst e;exact hg.cell (hc j u hj) (hn ⟨b,o,none⟩ hx)
theorem SlAt.none' (W:World):SlAt W none 0 0 []:=⟨⟨rfl,Nat.le_refl _,by simp,fun _=>⟨rfl,rfl⟩,fun x h=>by cases h⟩,fun x h=>by cases h⟩
theorem SlAt.some' {W:World} {a:Option Addr} {n c:Nat} {l:List Pt} (h:SlAt W a n c l) (hn:0<n):∃b o,a=some ⟨b,o,none⟩:=by
 cases a with
 | none=>have:=(h.nil rfl).1;omega
 | some x=>
  obtain⟨b,o,e,_⟩:=h.cells x rfl hn;exact⟨b,o,by rw[e]⟩
theorem SlAt.cell {W:World} {b o n c:Nat} {l:List Pt} (h:SlAt W (some ⟨b,o,none⟩) n c l) {i k:Nat} {x:Pt} {v:Value} (hx:l[i]?=some x) (hv:x.cl[k]?=some v) (hk:k<77):W.cell? ⟨b,o+i*77+k,none⟩=some v:=by
 obtain⟨b',o',e,hc⟩:=h.cells _ rfl (by rw[←h.len];exact Nat.lt_of_le_of_lt (Nat.zero_le _) (List.getElem?_eq_some_iff.1 hx).1);cases e;rw[Nat.add_assoc];exact hc _ _ (z_jX hx hv hk)
theorem SlAt.ld {W:World} {b o n c:Nat} {l:List Pt} (h:SlAt W (some ⟨b,o,none⟩) n c l) {i:Nat} {x:Pt} (hx:l[i]?=some x):(ldS 74 (.pointer (some ⟨b,o+i*77,none⟩))).run prog W=.ok (.agg x.cs) W:=
 run_loadAt_mid W b (o+i*77) 74 x.cl _ (fun j v hv=>h.cell hx hv (by
  rcases Nat.lt_or_ge j 77 with hj | hj
  ·exact hj
  ·rw[List.getElem?_eq_none (by rw[Pt.len];exact hj)] at hv;cases hv)) underlying74 rfl (by rw[Pt.len];exact infoP)
def Own (W:World) (B:Nat) (v:Value) (l:List Pt):Prop:=W.ownsRow B 74 77 v l.length (l.flatMap Row.cl)
theorem Own.form {W:World} {B:Nat} {v:Value} {l:List Pt} (h:Own W B v l):∃a c,v=.slice a l.length c∧SlAt W a l.length c l∧∀x,a=some x→B≤x.block∧x.block<W.heap.size:=by
 rcases h.2 with ⟨rfl,h0⟩ | ⟨g,cap,cur,rfl,hB,hb,h1,h2,h3,h4⟩
 ·have:l=[]:=List.eq_nil_of_length_eq_zero h0;subst this;exact⟨none,0,rfl,SlAt.none' W,fun x e=>by cases e⟩
 ·refine⟨some ⟨g,0,none⟩,cap,rfl,⟨⟨rfl,h1,h2,(fun e=>by cases e),fun x e _=>?_⟩,fun x e _=>by cases e;exact⟨cur,hb⟩⟩,fun x e=>?_⟩
  ·cases e;refine⟨g,0,rfl,fun j u hj=>?_⟩;rw[Nat.zero_add];refine u_N hb j u ?_;rw[←h4,List.getElem?_take] at hj
   split at hj
   ·rw[←Array.getElem?_toList];exact hj
   ·cases hj
  ·cases e;exact⟨hB,lt_of_block hb⟩
theorem Own.nil (W:World) (B:Nat):Own W B (.slice none 0 0) []:=World.ownsRow_nil W B _ _
theorem Own.keptBut {W W':World} {B:Nat} {v:Value} {l:List Pt} {row:Option Nat} (h:Own W B v l) (hg:W.grownBy W' row) (hne:v.ownBlock=none∨v.ownBlock≠row):Own W' B v l:=World.ownsRow.kept h hg hne
theorem Own.below {W W':World} {B:Nat} {v:Value} {l:List Pt} (h:Own W B v l) (hb:Below W.heap.size W W'):Own W' B v l:=by
 refine h.keptBut (z_q hb none) ?_;cases v.ownBlock<;>simp
theorem z_ll:(prog.info? 74).map (fun i=>(i.zero,i.size,i.bytes))=some (some (.agg zeroP.cs),77,248):=by kernel_rfl
def apS (ty:TypeId) (xs:Array Value):Sem Value:=Builtin.append_ #[37,37] ty xs
theorem apE (ty:TypeId) (xs:Array Value):Builtin.append_ #[37,37] ty xs=apS ty xs:=rfl
theorem Own.appW {W:World} {B:Nat} {v:Value} {l m:List Pt} {a:Option Addr} {n c:Nat} (h:Own W B v l) (hs:SlAw W a n c m) (hl:l.length+m.length≤100000) (hB:B≤W.heap.size) (ty:TypeId) :
  ∃v' W',(apS ty #[v,.slice a n c]).run prog W=.ok v' W'∧Own W' B v' (l++m)∧W.grownBy W' v.ownBlock:=by
 obtain⟨i0,hi,hz0,hz1,hz2⟩:=info_parts z_ll;unfold apS;cases a with
 | none=>
  obtain⟨rfl,rfl⟩:=hs.nil rfl;have hm:m=[]:=List.eq_nil_of_length_eq_zero hs.len;subst hm;have hrun:=run_append_owned_none (P:=prog) (w:=W) B 37 ty 74 i0 77 underlying37 hi v l.length _ h;exact⟨v,W,hrun,by rw[List.append_nil];exact h,World.grownBy.refl _ _⟩
 | some x=>
  by_cases hn0:n=0
  ·subst hn0;have hm:m=[]:=List.eq_nil_of_length_eq_zero hs.len;subst hm;obtain⟨v',W',hrun,h1,h2,_⟩:=run_append_own (P:=prog) W B 37 ty 74 i0 _ 77 248 underlying37 hi hz0 hz1 hz2 (by show zeroP.cs.size=77;rw[Row.csize,lenP]) (by decide) v l.length _ h x 0 c [] rfl
    (fun j u hj=>by cases hj) (fun u hu=>by cases hu) (by unfold maxLen;omega) (by omega) hB
   refine⟨v',W',hrun,?_,h2⟩;unfold Own;rw[List.append_nil] at h1 ⊢;exact h1
  obtain⟨b,o,rfl,hc⟩:=hs.cells x rfl (by omega);obtain⟨v',W',hrun,h1,h2,_⟩:=run_append_own (P:=prog) W B 37 ty 74 i0 _ 77 248 underlying37 hi hz0 hz1 hz2 (by show zeroP.cs.size=77;rw[Row.csize,lenP]) (by decide) v l.length _ h ⟨b,o,none⟩ n c (m.flatMap Row.cl) (by rw[z_O,hs.len])
   (fun j u hj=>by rw[Addr.add_lit];exact hc j u hj) (z_hb m) (by have:=hs.len;unfold maxLen;omega) (by have:=hs.len;omega) hB
  refine⟨v',W',hrun,?_,h2⟩;unfold Own;rw[List.flatMap_append,List.length_append,hs.len];exact h1
theorem Own.app {W:World} {B:Nat} {v:Value} {l m:List Pt} {a:Option Addr} {n c:Nat} (h:Own W B v l) (hs:SlAt W a n c m) (hl:l.length+m.length≤100000) (hB:B≤W.heap.size) (ty:TypeId) :
  ∃v' W',(apS ty #[v,.slice a n c]).run prog W=.ok v' W'∧Own W' B v' (l++m)∧W.grownBy W' v.ownBlock:=h.appW hs.toSlAw hl hB ty
theorem one_new (W:World) (x:Pt):SlAt (W.alloc (.cells x.cs 74)) (some ⟨W.heap.size,0,none⟩) 1 1 [x]:=by
 refine⟨⟨rfl,Nat.le_refl _,by unfold maxLen;omega,(fun e=>by cases e),fun y e _=>?_⟩,fun y e _=>by cases e;exact⟨_,RvAt.new W _ _⟩⟩;cases e;refine⟨_,_,rfl,fun j u hj=>?_⟩;rw[Nat.zero_add];refine RvAt.cell (RvAt.new W 74 x.cs) j u ?_;have:[x].flatMap Row.cl=x.cl:=by simp
 rw[this] at hj;rw[←Array.getElem?_toList];exact hj
/-! ### of other stages -/
theorem infoR:(prog.info? 44).map (·.size)=some 1:=by kernel_rfl
end
section
open Go.RowKit
def PAt (W:World) (g c:Nat) (l:List Pt):Prop:=
 ∃cur:Array Value,RvAt W g 74 cur∧l.length≤c∧c≤maxLen∧cur.size=c*77∧cur.toList.take (l.length*77)=l.flatMap Row.cl
theorem PAt.lt {W:World} {g c:Nat} {l:List Pt} (h:PAt W g c l):g<W.heap.size:=by
 obtain⟨cur,hb,_⟩:=h;exact hb.lt
theorem PAt.own {W:World} {g c B:Nat} {l:List Pt} (h:PAt W g c l) (hB:B≤g):Own W B (.slice (some ⟨g,0,none⟩) l.length c) l:=by
 obtain⟨cur,hb,h1,h2,h3,h4⟩:=h;exact⟨z_O l,Or.inr ⟨g,c,cur,rfl,hB,hb,h1,h2,h3,h4⟩⟩
theorem PAt.sl {W:World} {g c:Nat} {l:List Pt} (h:PAt W g c l):SlAt W (some ⟨g,0,none⟩) l.length c l:=by
 obtain⟨a,c',e,hs,_⟩:=(h.own (Nat.zero_le _)).form;cases e;exact hs
theorem Own.pat {W:World} {B:Nat} {v:Value} {l:List Pt} (h:Own W B v l):(v=.slice none 0 0∧l=[])∨∃g c,v=.slice (some ⟨g,0,none⟩) l.length c∧B≤g∧PAt W g c l:=by
 rcases h.2 with ⟨rfl,h0⟩ | ⟨g,cap,cur,rfl,hB,hb,h1,h2,h3,h4⟩
 ·exact Or.inl ⟨rfl,List.eq_nil_of_length_eq_zero h0⟩
 ·exact Or.inr ⟨g,cap,rfl,hB,cur,hb,h1,h2,h3,h4⟩
theorem PAt.keptBut {W W':World} {g c:Nat} {l:List Pt} {row:Option Nat} (h:PAt W g c l) (hg:W.grownBy W' row) (hn:some g≠row):PAt W' g c l:=by
 obtain⟨cur,hb,hr⟩:=h;exact⟨cur,hb.keptBut hg hn,hr⟩
theorem PAt.below {W W':World} {g c:Nat} {l:List Pt} (h:PAt W g c l) (hb:Below W.heap.size W W'):PAt W' g c l:=by
 obtain⟨cur,h1,hr⟩:=h;exact⟨cur,h1.below hb,hr⟩
theorem PAt.num {W:World} {g c i j q:Nat} {k:IntKind} {l:List Pt} {p:Pt} (h:PAt W g c l) (hp:l[i]?=some p) (hk:kdP[j]?=some (some k)) (hq:q=i*77+j):W.cell? ⟨g,q,none⟩=some (.int k (p.nm j)):=by
 have hj:j<77:=by rw[←lenP];exact (List.getElem?_eq_some_iff.1 hk).1
 have:=h.sl.cell hp (p.num hk) hj;rw[Nat.zero_add] at this;rw[hq];exact this
theorem PAt.bit {W:World} {g c i j q:Nat} {l:List Pt} {p:Pt} (h:PAt W g c l) (hp:l[i]?=some p) (hk:kdP[j]?=some none) (hq:q=i*77+j):W.cell? ⟨g,q,none⟩=some (.bool (p.bt j)):=by
 have hj:j<77:=by rw[←lenP];exact (List.getElem?_eq_some_iff.1 hk).1
 have:=h.sl.cell hp (p.bit hk) hj;rw[Nat.zero_add] at this;rw[hq];exact this
theorem PAt.ld {W:World} {g c i q:Nat} {l:List Pt} {p:Pt} (h:PAt W g c l) (hp:l[i]?=some p) (hq:q=i*77):(ldS 74 (.pointer (some ⟨g,q,none⟩))).run prog W=.ok (.agg p.cs) W:=by
 have:=h.sl.ld hp;rw[Nat.zero_add] at this;rw[hq];exact this
theorem z_aR {X:List Value} {l:List Pt} (hl:l.length*77≤X.length) (h:∀t,t<l.length*77→X[t]?=(l[t / 77]?).bind (fun x=>x.cl[t%77]?)):X.take (l.length*77)=l.flatMap Row.cl:=by
 refine List.ext_getElem? fun t=>?_;rw[List.getElem?_take]
 split
 ·rename_i ht
  rw[h t ht,z_K]
 ·rw[List.getElem?_eq_none (by rw[z_O];omega)]
theorem v_a {X:List Value} {l:List Pt} (h:X.take (l.length*77)=l.flatMap Row.cl) {t:Nat} (ht:t<l.length*77):X[t]?=(l[t / 77]?).bind (fun x=>x.cl[t%77]?):=by
 rw[←z_K,← h,List.getElem?_take,if_pos ht]
theorem PAt.st1 {W:World} {g c i j q:Nat} {tv:TypeId} {l:List Pt} {p:Pt} {v:Value} (h:PAt W g c l) (hp:l[i]?=some p) (hi:(prog.info? tv).map (·.size)=some 1) (hj:j<77) (hv:v.oneCell'=true) (hf:∀k,kdP[j]?=some k→Fit k v) (hq:q=i*77+j) :
  ∃W',(stS tv (.pointer (some ⟨g,q,none⟩)) v).run prog W=.ok () W'∧PAt W' g c (l.set i (p.set j v hf))∧W.grownBy W' (some g):=by
 obtain⟨cur,hb,h1,h2,h3,h4⟩:=h;subst hq;have hil:i<l.length:=(List.getElem?_eq_some_iff.1 hp).1;have hpl:=p.len;refine⟨_,hb.st1 hi (by rw[h3];omega) hv,⟨_,hb.set,by rw[List.length_set];exact h1,h2,by simp[h3],?_⟩,⟨rfl,rfl,rfl,by simp,fun k hk hne=>setRow_other W g k _ (fun e=>hne (by rw[e]))⟩⟩;have e:(l.set i (p.set j v hf)).length=l.length:=List.length_set ..
 refine z_aR (by simp[h3];omega) fun t ht=>?_;rw[e] at ht
 show ((cur.toList.set (i*77+j) v))[t]?=_
 rw[List.getElem?_set,List.getElem?_set];by_cases ht1:i*77+j=t
 ·rw[if_pos ht1,if_pos (by rw[Array.length_toList];omega),if_pos (by omega),if_pos hil]
  show some v=(p.cl.set j v)[t%77]?
  rw[show t%77=j by omega,List.getElem?_set,if_pos rfl,if_pos (by omega)]
 ·rw[if_neg ht1,v_a h4 ht];by_cases hti:i=t / 77
  ·rw[if_pos hti,if_pos hil,← hti,hp]
   show p.cl[t%77]?=(p.cl.set j v)[t%77]?
   rw[List.getElem?_set,if_neg (by omega)]
  ·rw[if_neg hti]
theorem PAt.stp {W:World} {g c i q:Nat} {l:List Pt} {p:Pt} (h:PAt W g c l) (hil:i<l.length) (hq:q=i*77) :
  ∃W',(stS 74 (.pointer (some ⟨g,q,none⟩)) (.agg p.cs)).run prog W=.ok () W'∧PAt W' g c (l.set i p)∧W.grownBy W' (some g):=by
 obtain⟨cur,hb,h1,h2,h3,h4⟩:=h;subst hq;have hps:p.cs.size=77:=by rw[Row.csize,lenP]
 have hpl:=p.len;have hs:=z_A (ty:=74) (o:=i*77) (cs:=p.cs) hb (by rw[hps];exact infoP) (by omega) p.one';refine⟨_,hs,⟨_,hb.set,by rw[List.length_set];exact h1,h2,by simp[hps,h3];omega,?_⟩,⟨rfl,rfl,rfl,by simp,fun k hk hne=>setRow_other W g k _ (fun e=>hne (by rw[e]))⟩⟩;have e:(l.set i p).length=l.length:=List.length_set ..;refine z_aR (by simp[hps,h3];omega) fun t ht=>?_;rw[e] at ht
 show ((cur.toList.take (i*77)++p.cs.toList++cur.toList.drop (i*77+p.cs.size)))[t]?=_
 rw[hps,List.getElem?_set];have hcl:cur.toList.length=c*77:=by rw[Array.length_toList,h3]
 have e1:(cur.toList.take (i*77)).length=i*77:=by rw[List.length_take];omega
 have e2:p.cs.toList=p.cl:=by simp[Row.cs]
 rw[e2];by_cases hti:i=t / 77
 ·rw[if_pos hti,if_pos hil];rw[List.getElem?_append_left (by rw[List.length_append,e1,hpl];omega),List.getElem?_append_right (by rw[e1];omega),e1]
  show p.cl[t-i*77]?=p.cl[t%77]?
  rw[show t-i*77=t%77 by omega]
 ·rw[if_neg hti,← v_a h4 ht];by_cases h0:t<i*77
  ·rw[List.append_assoc,List.getElem?_append_left (by rw[e1];exact h0),List.getElem?_take,if_pos h0]
  ·rw[List.getElem?_append_right (by rw[List.length_append,e1,hpl];omega),List.length_append,e1,hpl,List.getElem?_drop];rw[show i*77+77+(t-(i*77+77))=t by omega]
end
end Go.Proofs.YtlchejbggnbccaaGreat
