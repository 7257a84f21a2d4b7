/-
  Ports of lists and trees' variables: what is stored, what stays. Plain laws over the program's types; the walks of the library's Clone and of Few. And what follows from it here.
-/
import Derived.Test.YtlchejbggnbccaaGreatPbb
namespace Go.Proofs.YtlchejbggnbccaaGreat
set_option linter.unusedVariables false
set_option linter.unusedSimpArgs false
set_option maxRecDepth 4000
set_option maxHeartbeats 40000000
open _root_.Go.Proofs.Tryz
section
namespace S14
open Go.RowKit
structure PN (w W:World) (b:Nat) (q:Pt):Prop where
 var:RvAt W b 74 q.cs
 bel:Below w.heap.size w W
 hb:w.heap.size≤b
theorem PN.go {w W V:World} {b:Nat} {q r:Pt} (s:PN w W b q) (h:RvAt V b 74 r.cs) (g:W.grownBy V (some b)):PN w V b r:=⟨h,gro s.bel g s.hb s.bel.size,s.hb⟩
theorem PN.setB {w W:World} {b j:Nat} {q:Pt} (s:PN w W b q) (h:kdP[j]?=some none) (x:Bool):∃V,(stS 4 (.pointer (some ⟨b,j,none⟩)) (.bool x)).run prog W=.ok () V∧PN w V b (q.setB j h x):=by
 obtain⟨V,e,h1,g⟩:=s.var.setB h x;exact⟨V,e,s.go h1 g⟩
theorem PN.new (W:World) (p:Pt):∃V,(stS 74 (.pointer (some ⟨W.heap.size,0,none⟩)) (.agg p.cs)).run prog (W.alloc (.cells zeroP.cs 74))=.ok () V∧PN W V W.heap.size p:=by
 obtain⟨V,e,r,b,z⟩:=y_b W p;exact⟨V,e,r,b,Nat.le_refl _⟩
attribute [local go_sem ↓] ldP stP ldT stT apE st32
attribute [local go_sem] v_o z_ad
attribute [local go_sem ↓] slP
end S14
end
section
namespace S14
open Go.RowKit
theorem kb6:kdP[6]?=some none:=rfl
theorem kb8:kdP[8]?=some none:=rfl
theorem kb10:kdP[10]?=some none:=rfl
theorem kb27:kdP[27]?=some none:=rfl
theorem kn74:kdP[74]?=some (some .i64):=rfl
theorem ku71:kdP[71]?=some (some .u8):=rfl
theorem z_R {ks:List (Option IntKind)} (r:Row ks) {j:Nat} (h:ks[j]?=some none) {x:Bool} (e:r.bt j=x):r.setB j h x=r:=by
 refine Row.same fun i hi=>?_;rw[r.setB_get];by_cases hij:i=j
 ·subst hij;rw[if_pos rfl,r.bit h,e]
 ·rw[if_neg hij]
/-! ### a port's state -/
def doesP (x y:Bool) (p:Pt):Pt:=(p.setB 10 kb10 x).setB 8 kb8 y
def pstO (p:Pt):Option Pt:=
 if ((p.bt 10 || p.bt 8) && !(p.bt 9))=true then some (doesP false false p)
 else if (p.bt 8 && !(p.bt 7))=true then some (doesP (p.bt 10) false p)
 else if (p.bt 9 && !(p.bt 10))=true then some (doesP true (p.bt 8) p)
 else if ((p.bt 10 && p.bt 7) && !(p.bt 8))=true then some (doesP true true p)
 else none
theorem z_fa (p:Pt) (y:Bool):doesP (p.bt 10) y p=p.setB 8 kb8 y:=by
 unfold doesP;rw[z_R p kb10 rfl]
theorem z_fb (p:Pt) (x:Bool):doesP x (p.bt 8) p=p.setB 10 kb10 x:=by
 unfold doesP;exact z_R _ kb8 (z_N _ _ _ (by decide))
/-! ### changes -/
def hasB (p:Pt):Bool:=(p.nm 30==3) || (p.nm 30==4)
def tldB (p:Pt):Bool:=((p.bt 17 || p.bt 19) || p.bt 18) || p.bt 27
def sumN (a b:Int):Int:=if 255<a+b then 255 else a+b
theorem z_cS {a b:Int} (ha:0≤a) (hb:0≤b):0≤sumN a b∧sumN a b≤255:=by
 unfold sumN
 split<;>omega
theorem hu13:kdH[13]?=some (some .u8):=rfl
theorem hu14:kdH[14]?=some (some .u8):=rfl
theorem hu15:kdH[15]?=some (some .u8):=rfl
def nwP (h:Hd) (p:Pt):Pt:=
 if p.nm 71=0 then (if p.bt 23=true then (p.setU 71 (sumN (h.nm 14) 1)).setB 11 kb11 true else p.setU 71 (sumN (h.nm 13) (h.nm 15))) else p
theorem sumA (h:Hd):0≤sumN (h.nm 14) 1∧sumN (h.nm 14) 1≤255:=z_cS (h.u8 hu14).1 (by decide)
theorem sumB (h:Hd):0≤sumN (h.nm 13) (h.nm 15)∧sumN (h.nm 13) (h.nm 15)≤255:=z_cS (h.u8 hu13).1 (h.u8 hu15).1
def sprL (l:List Pt) (k:Nat) (q:Pt):List Pt:=l.mapIdx (fun j p=>if j=k then q else p.setB 27 kb27 true)
def tcP (k:Nat) (j:Nat) (p:Pt):Pt:=if j=k then p else p.setB 27 kb27 true
def prpL (l:List Pt) (k:Nat):List Pt:=l.mapIdx (tcP k)
theorem z_bx (l:List Pt) (k:Nat):(prpL l k).length=l.length:=by simp[prpL]
theorem z_da {l:List Pt} {k:Nat} (q:Pt) {j:Nat} (hj:j<l.length):gtP (sprL l k q) j=if j=k then q else (gtP l j).setB 27 kb27 true:=z_eH hj
theorem w_f (l:List Pt) (k:Nat) (q:Pt):prpL (l.set k q) k=sprL l k q:=by
 refine List.ext_getElem? fun j=>?_;unfold prpL sprL;rw[List.getElem?_mapIdx,List.getElem?_mapIdx,List.getElem?_set];by_cases hj:k=j
 ·subst hj;rw[if_pos rfl]
  split
  ·rename_i hl
   rw[List.getElem?_eq_getElem hl];simp[tcP]
  ·rename_i hl
   rw[List.getElem?_eq_none (by omega)];rfl
 ·rw[if_neg hj];cases l[j]? with
  | none=>rfl
  | some p=>
   simp only[Option.map_some,tcP];rw[if_neg (fun e=>hj e.symm),if_neg (fun e=>hj e.symm)]
theorem z_av (l:List Pt) (k:Nat) (q r:Pt):(sprL l k q).set k r=sprL l k r:=by
 refine List.ext_getElem? fun j=>?_;unfold sprL;rw[List.getElem?_set,List.getElem?_mapIdx,List.getElem?_mapIdx,List.length_mapIdx];by_cases hj:k=j
 ·subst hj;rw[if_pos rfl]
  split
  ·rename_i hl
   rw[List.getElem?_eq_getElem hl];simp
  ·rename_i hl
   rw[List.getElem?_eq_none (by omega)];rfl
 ·rw[if_neg hj];cases l[j]? with
  | none=>rfl
  | some p=>
   simp only[Option.map_some];rw[if_neg (fun e=>hj e.symm),if_neg (fun e=>hj e.symm)]
theorem z_jv {l:List Pt} {k:Nat} (hk:k<l.length):prpL l k=sprL l k (gtP l k):=by
 have:=w_f l k (gtP l k);rw[y_d hk] at this;exact this
def quiP (p:Pt):Pt:=(((p.setB 6 kb6 true).setB 26 kb26 false).setU 71 0).setN 74 kn74 1 wi1
def lrnP (p:Pt):Pt:=((((p.setB 17 kb17 false).setB 19 kb19 false).setB 18 kb18 false).setB 27 kb27 false).setN 74 kn74 2 wi2
def actP (p:Pt):Pt:=(p.setB 11 kb11 true).setN 74 kn74 3 wi3
def detP (h:Hd) (p:Pt):Pt:=actP (nwP h p)
def heaQ (h:Hd) (p:Pt):Pt:=if p.bt 19=true then nwP h p else p
def heaP (q:Pt):Pt:=((q.setB 19 kb19 false).setB 17 kb17 false).setB 26 kb26 (q.bt 26 || (q.nm 30==4))
def ntfP (h:Hd) (p:Pt):Pt:=heaP (heaQ h p)
def flsP (p:Pt):Pt:=(p.setB 6 kb6 true).setB 27 kb27 false
def prgP (h:Hd) (p:Pt):Pt:=flsP (nwP h p)
def ackP (p:Pt):Pt:=(p.setU 71 0).setB 18 kb18 false
def quiR (p:Pt):Pt:=(((p.setB 6 kb6 true).setU 71 0).setB 26 kb26 false).setN 74 kn74 1 wi1
theorem z_je (p:Pt):quiR p=quiP p:=by
 refine Row.same fun i hi=>?_;unfold quiR quiP;rw[Row.setN_get,Row.setB_get,Row.setU_get _ ku71 (wf8 u0),Row.setB_get,Row.setN_get,Row.setU_get _ ku71 (wf8 u0),Row.setB_get,Row.setB_get];by_cases h1:i=74
 ·rw[if_pos h1,if_pos h1]
 rw[if_neg h1,if_neg h1];by_cases h2:i=26
 ·rw[if_pos h2,if_neg (by omega),if_pos h2]
 rw[if_neg h2,if_neg h2]
def heaR (q:Pt):Pt:=if q.nm 30=4 then ((q.setB 19 kb19 false).setB 17 kb17 false).setB 26 kb26 true else (q.setB 19 kb19 false).setB 17 kb17 false
theorem z_eB (q:Pt):heaR q=heaP q:=by
 unfold heaR heaP
 split
 ·rename_i e
  rw[e];simp
 ·rename_i e
  have x:(q.nm 30==4)=false:=by simpa using e
  rw[x,Bool.or_false]
  symm
  refine z_R _ kb26 ?_;rw[z_N _ _ _ (by decide),z_N _ _ _ (by decide)]
def inaO (l:List Pt) (k:Nat):Option (List Pt):=if ((gtP l k).bt 9 && !((gtP l k).bt 6))=true then some (l.set k (lrnP (gtP l k))) else none
def leaO (h:Hd) (l:List Pt) (k:Nat):Option (List Pt):=
 if (hasB (gtP l k) && (gtP l k).bt 7)=true then some (sprL l k (detP h (gtP l k)))
 else if (((!(hasB (gtP l k)) && !((gtP l k).bt 9)) && !((gtP l k).bt 10)) && !(tldB (gtP l k)))=true then some (l.set k (quiP (gtP l k)))
 else if tldB (gtP l k)=true then some (l.set k (lrnP (gtP l k))) else none
def actO (h:Hd) (l:List Pt) (k:Nat):Option (List Pt):=
 if hasB (gtP l k)=false then some (l.set k (lrnP (gtP l k)))
 else if ((gtP l k).bt 19 || (gtP l k).bt 17)=true then some (sprL l k (ntfP h (gtP l k)))
 else if (gtP l k).bt 27=true then some (l.set k (prgP h (gtP l k)))
 else if (gtP l k).bt 18=true then some (l.set k (ackP (gtP l k))) else none
def tcmO (h:Hd) (l:List Pt) (k:Nat):Option (List Pt):=
 if (gtP l k).nm 74=1 then inaO l k
 else if (gtP l k).nm 74=2 then leaO h l k
 else if (gtP l k).nm 74=3 then actO h l k
 else some (l.set k (quiP (gtP l k)))
end S14
end
section
namespace S14
open Go.RowKit
attribute [local go_sem ↓] ldP stP stB alP
attribute [local go_sem] z_l
theorem y_X (W:World) (b:Nat) (p:Pt) (x y:Bool) (hb:RvAt W b 74 p.cs) :
  Calls prog 167 #[.bool x,.bool y,.pointer (some ⟨b,0,none⟩)] W fun r W'=>r=.returned (.tuple #[.agg (doesP x y p).cs,.bool true])∧W.grownBy W' (some b):=by
 obtain⟨W1,hW1,r1,b1,z1⟩:=y_T W zeroP;obtain⟨d,hd⟩:∃d,W.heap.size=d:=⟨_,rfl⟩;have hlt:b<d:=by rw[←hd];exact hb.lt
 rw[hd] at r1;obtain⟨V1,e1,p1,g1⟩:=(hb.below b1).setB kb10 x;obtain⟨V2,e2,p2,g2⟩:=p1.setB kb8 y;have r2:=(r1.keptBut g1 (by simp;omega)).keptBut g2 (by simp;omega);have p2:RvAt V2 b 74 (doesP x y p).cs:=p2;have lp:=p2.pld;obtain⟨U,e3,r3,g3⟩:=r2.pst (q:=doesP x y p);have gU:W.grownBy U (some b):=by
  have k1:W.grownBy V2 (some b):=z_n (z_n (z_q b1 _) g1) g2;refine⟨g3.os.trans k1.os,g3.tape.trans k1.tape,g3.output.trans k1.output,Nat.le_trans k1.size g3.size,fun i hi hne=>?_⟩;rw[g3.block i (Nat.lt_of_lt_of_le hi k1.size) (by simp;omega),k1.block i hi hne]
 have F:=hd2 r3 gU;clear hb r1 b1 z1 hlt p1 g1 p2 g2 r2 r3 g3 gU;go_enter func167,ntmps167
 go_wp2_with (with_reducible exact z_j results167 rfl rfl rfl F.out.1 ⟨rfl,F.out.2⟩)
abbrev PRes (w:World) (p:Pt) (O:Option Pt) (r:Ending) (w':World):Prop:=r=.returned (.tuple #[.agg (O.getD p).cs,.bool O.isSome])∧Below w.heap.size w w'
theorem z_ju (p:Pt) (w:World):Calls prog 133 #[.agg p.cs] w fun r w'=>PRes w p (pstO p) r w':=by
 obtain⟨OO,hOO⟩:∃z,pstO p=z:=⟨_,rfl⟩;rw[hOO];have EO:=hd1 hOO;obtain⟨W,hW,s0⟩:=PS.start w p;have S:=hd1 s0;obtain⟨b10,h10⟩:∃z,p.bt 10=z:=⟨_,rfl⟩;have H10:=hd1 h10;clear h10;obtain⟨b8,h8⟩:∃z,p.bt 8=z:=⟨_,rfl⟩;have H8:=hd1 h8;clear h8;obtain⟨b9,h9⟩:∃z,p.bt 9=z:=⟨_,rfl⟩;have H9:=hd1 h9;clear h9;obtain⟨b7,h7⟩:∃z,p.bt 7=z:=⟨_,rfl⟩;have H7:=hd1 h7;clear h7;clear s0 hOO;cases b10
 ·cases b8
  ·cases b9
   ·have E:OO=none:=by
     rw[←EO.out];unfold pstO;rw[if_neg (by rw[H10.out,H8.out,H9.out];simp),if_neg (by rw[H8.out,H7.out];simp),if_neg (by rw[H9.out,H10.out];simp),if_neg (by rw[H10.out,H7.out,H8.out];simp)]
    have E9:Hid (Ending.returned (.tuple #[.agg (p).cs,.bool false])=.returned (.tuple #[.agg (OO.getD p).cs,.bool OO.isSome])):=by rw[E];exact rfl
    clear E;have c10:=S.out.var.pbit (j:=10) rfl;rw[H10.out] at c10;have c8:=S.out.var.pbit (j:=8) rfl;rw[H8.out] at c8;have c9:=S.out.var.pbit (j:=9) rfl;rw[H9.out] at c9;have c7:=S.out.var.pbit (j:=7) rfl;rw[H7.out] at c7;have lp:=S.out.ld;obtain⟨U,sU,rU,bU⟩:=S.out.tell p;have G:=hd2 rU bU;clear rU bU;go_enter func133,ntmps133
    go_wp2_with (with_reducible exact z_j results133 rfl rfl rfl G.out.1 ⟨E9.out,G.out.2⟩)
   ·have E:OO=some (doesP true false p):=by
     rw[←EO.out];unfold pstO;rw[if_neg (by rw[H10.out,H8.out,H9.out];simp),if_neg (by rw[H8.out,H7.out];simp),if_pos (by rw[H9.out,H10.out];simp)];rw[H8.out]
    have E9:Hid (Ending.returned (.tuple #[.agg (doesP true false p).cs,.bool true])=.returned (.tuple #[.agg (OO.getD p).cs,.bool OO.isSome])):=by rw[E];exact rfl
    clear E;have c10:=S.out.var.pbit (j:=10) rfl;rw[H10.out] at c10;have c8:=S.out.var.pbit (j:=8) rfl;rw[H8.out] at c8;have c9:=S.out.var.pbit (j:=9) rfl;rw[H9.out] at c9;have c7:=S.out.var.pbit (j:=7) rfl;rw[H7.out] at c7;have C:Hid _:=y_X W w.heap.size p true false S.out.var;go_enter func133,ntmps133
    go_wp2_with fail
    refine Calls.mono C.out ?_;rintro _ X ⟨rfl,gX⟩;obtain⟨U,sU,rU,gU⟩:=(S.out.out.keptBut gX (by simp)).pst (q:=doesP true false p);have bX:=gro S.out.bel gX (Nat.le_refl _) S.out.bel.size;have G:=hd2 rU (gro bX gU (by omega) bX.size);clear gX rU gU bX C
    go_wp2_with (with_reducible exact z_j results133 rfl rfl rfl G.out.1 ⟨E9.out,G.out.2⟩)
  ·cases b9
   ·have E:OO=some (doesP false false p):=by
     rw[←EO.out];unfold pstO;rw[if_pos (by rw[H10.out,H8.out,H9.out];simp)]
    have E9:Hid (Ending.returned (.tuple #[.agg (doesP false false p).cs,.bool true])=.returned (.tuple #[.agg (OO.getD p).cs,.bool OO.isSome])):=by rw[E];exact rfl
    clear E;have c10:=S.out.var.pbit (j:=10) rfl;rw[H10.out] at c10;have c8:=S.out.var.pbit (j:=8) rfl;rw[H8.out] at c8;have c9:=S.out.var.pbit (j:=9) rfl;rw[H9.out] at c9;have c7:=S.out.var.pbit (j:=7) rfl;rw[H7.out] at c7;have C:Hid _:=y_X W w.heap.size p false false S.out.var;go_enter func133,ntmps133
    go_wp2_with fail
    refine Calls.mono C.out ?_;rintro _ X ⟨rfl,gX⟩;obtain⟨U,sU,rU,gU⟩:=(S.out.out.keptBut gX (by simp)).pst (q:=doesP false false p);have bX:=gro S.out.bel gX (Nat.le_refl _) S.out.bel.size;have G:=hd2 rU (gro bX gU (by omega) bX.size);clear gX rU gU bX C
    go_wp2_with (with_reducible exact z_j results133 rfl rfl rfl G.out.1 ⟨E9.out,G.out.2⟩)
   ·cases b7
    ·have E:OO=some (doesP false false p):=by
      rw[←EO.out];unfold pstO;rw[if_neg (by rw[H10.out,H8.out,H9.out];simp),if_pos (by rw[H8.out,H7.out];simp)];rw[H10.out]
     have E9:Hid (Ending.returned (.tuple #[.agg (doesP false false p).cs,.bool true])=.returned (.tuple #[.agg (OO.getD p).cs,.bool OO.isSome])):=by rw[E];exact rfl
     clear E;have c10:=S.out.var.pbit (j:=10) rfl;rw[H10.out] at c10;have c8:=S.out.var.pbit (j:=8) rfl;rw[H8.out] at c8;have c9:=S.out.var.pbit (j:=9) rfl;rw[H9.out] at c9;have c7:=S.out.var.pbit (j:=7) rfl;rw[H7.out] at c7;have C:Hid _:=y_X W w.heap.size p false false S.out.var;go_enter func133,ntmps133
     go_wp2_with fail
     refine Calls.mono C.out ?_;rintro _ X ⟨rfl,gX⟩;obtain⟨U,sU,rU,gU⟩:=(S.out.out.keptBut gX (by simp)).pst (q:=doesP false false p);have bX:=gro S.out.bel gX (Nat.le_refl _) S.out.bel.size;have G:=hd2 rU (gro bX gU (by omega) bX.size);clear gX rU gU bX C
     go_wp2_with (with_reducible exact z_j results133 rfl rfl rfl G.out.1 ⟨E9.out,G.out.2⟩)
    ·have E:OO=some (doesP true true p):=by
      rw[←EO.out];unfold pstO;rw[if_neg (by rw[H10.out,H8.out,H9.out];simp),if_neg (by rw[H8.out,H7.out];simp),if_pos (by rw[H9.out,H10.out];simp)];rw[H8.out]
     have E9:Hid (Ending.returned (.tuple #[.agg (doesP true true p).cs,.bool true])=.returned (.tuple #[.agg (OO.getD p).cs,.bool OO.isSome])):=by rw[E];exact rfl
     clear E;have c10:=S.out.var.pbit (j:=10) rfl;rw[H10.out] at c10;have c8:=S.out.var.pbit (j:=8) rfl;rw[H8.out] at c8;have c9:=S.out.var.pbit (j:=9) rfl;rw[H9.out] at c9;have c7:=S.out.var.pbit (j:=7) rfl;rw[H7.out] at c7;have C:Hid _:=y_X W w.heap.size p true true S.out.var;go_enter func133,ntmps133
     go_wp2_with fail
     refine Calls.mono C.out ?_;rintro _ X ⟨rfl,gX⟩;obtain⟨U,sU,rU,gU⟩:=(S.out.out.keptBut gX (by simp)).pst (q:=doesP true true p);have bX:=gro S.out.bel gX (Nat.le_refl _) S.out.bel.size;have G:=hd2 rU (gro bX gU (by omega) bX.size);clear gX rU gU bX C
     go_wp2_with (with_reducible exact z_j results133 rfl rfl rfl G.out.1 ⟨E9.out,G.out.2⟩)
 ·cases b9
  ·have E:OO=some (doesP false false p):=by
    rw[←EO.out];unfold pstO;rw[if_pos (by rw[H10.out,H8.out,H9.out];simp)]
   have E9:Hid (Ending.returned (.tuple #[.agg (doesP false false p).cs,.bool true])=.returned (.tuple #[.agg (OO.getD p).cs,.bool OO.isSome])):=by rw[E];exact rfl
   clear E;have c10:=S.out.var.pbit (j:=10) rfl;rw[H10.out] at c10;have c8:=S.out.var.pbit (j:=8) rfl;rw[H8.out] at c8;have c9:=S.out.var.pbit (j:=9) rfl;rw[H9.out] at c9;have c7:=S.out.var.pbit (j:=7) rfl;rw[H7.out] at c7;have C:Hid _:=y_X W w.heap.size p false false S.out.var;go_enter func133,ntmps133
   go_wp2_with fail
   refine Calls.mono C.out ?_;rintro _ X ⟨rfl,gX⟩;obtain⟨U,sU,rU,gU⟩:=(S.out.out.keptBut gX (by simp)).pst (q:=doesP false false p);have bX:=gro S.out.bel gX (Nat.le_refl _) S.out.bel.size;have G:=hd2 rU (gro bX gU (by omega) bX.size);clear gX rU gU bX C
   go_wp2_with (with_reducible exact z_j results133 rfl rfl rfl G.out.1 ⟨E9.out,G.out.2⟩)
  ·cases b8
   ·cases b7
    ·have E:OO=none:=by
      rw[←EO.out];unfold pstO;rw[if_neg (by rw[H10.out,H8.out,H9.out];simp),if_neg (by rw[H8.out,H7.out];simp),if_neg (by rw[H9.out,H10.out];simp),if_neg (by rw[H10.out,H7.out,H8.out];simp)]
     have E9:Hid (Ending.returned (.tuple #[.agg (p).cs,.bool false])=.returned (.tuple #[.agg (OO.getD p).cs,.bool OO.isSome])):=by rw[E];exact rfl
     clear E;have c10:=S.out.var.pbit (j:=10) rfl;rw[H10.out] at c10;have c8:=S.out.var.pbit (j:=8) rfl;rw[H8.out] at c8;have c9:=S.out.var.pbit (j:=9) rfl;rw[H9.out] at c9;have c7:=S.out.var.pbit (j:=7) rfl;rw[H7.out] at c7;have lp:=S.out.ld;obtain⟨U,sU,rU,bU⟩:=S.out.tell p;have G:=hd2 rU bU;clear rU bU;go_enter func133,ntmps133
     go_wp2_with (with_reducible exact z_j results133 rfl rfl rfl G.out.1 ⟨E9.out,G.out.2⟩)
    ·have E:OO=some (doesP true true p):=by
      rw[←EO.out];unfold pstO;rw[if_neg (by rw[H10.out,H8.out,H9.out];simp),if_neg (by rw[H8.out,H7.out];simp),if_neg (by rw[H9.out,H10.out];simp),if_pos (by rw[H10.out,H7.out,H8.out];simp)]
     have E9:Hid (Ending.returned (.tuple #[.agg (doesP true true p).cs,.bool true])=.returned (.tuple #[.agg (OO.getD p).cs,.bool OO.isSome])):=by rw[E];exact rfl
     clear E;have c10:=S.out.var.pbit (j:=10) rfl;rw[H10.out] at c10;have c8:=S.out.var.pbit (j:=8) rfl;rw[H8.out] at c8;have c9:=S.out.var.pbit (j:=9) rfl;rw[H9.out] at c9;have c7:=S.out.var.pbit (j:=7) rfl;rw[H7.out] at c7;have C:Hid _:=y_X W w.heap.size p true true S.out.var;go_enter func133,ntmps133
     go_wp2_with fail
     refine Calls.mono C.out ?_;rintro _ X ⟨rfl,gX⟩;obtain⟨U,sU,rU,gU⟩:=(S.out.out.keptBut gX (by simp)).pst (q:=doesP true true p);have bX:=gro S.out.bel gX (Nat.le_refl _) S.out.bel.size;have G:=hd2 rU (gro bX gU (by omega) bX.size);clear gX rU gU bX C
     go_wp2_with (with_reducible exact z_j results133 rfl rfl rfl G.out.1 ⟨E9.out,G.out.2⟩)
   ·cases b7
    ·have E:OO=some (doesP true false p):=by
      rw[←EO.out];unfold pstO;rw[if_neg (by rw[H10.out,H8.out,H9.out];simp),if_pos (by rw[H8.out,H7.out];simp)];rw[H10.out]
     have E9:Hid (Ending.returned (.tuple #[.agg (doesP true false p).cs,.bool true])=.returned (.tuple #[.agg (OO.getD p).cs,.bool OO.isSome])):=by rw[E];exact rfl
     clear E;have c10:=S.out.var.pbit (j:=10) rfl;rw[H10.out] at c10;have c8:=S.out.var.pbit (j:=8) rfl;rw[H8.out] at c8;have c9:=S.out.var.pbit (j:=9) rfl;rw[H9.out] at c9;have c7:=S.out.var.pbit (j:=7) rfl;rw[H7.out] at c7;have C:Hid _:=y_X W w.heap.size p true false S.out.var;go_enter func133,ntmps133
     go_wp2_with fail
     refine Calls.mono C.out ?_;rintro _ X ⟨rfl,gX⟩;obtain⟨U,sU,rU,gU⟩:=(S.out.out.keptBut gX (by simp)).pst (q:=doesP true false p);have bX:=gro S.out.bel gX (Nat.le_refl _) S.out.bel.size;have G:=hd2 rU (gro bX gU (by omega) bX.size);clear gX rU gU bX C
     go_wp2_with (with_reducible exact z_j results133 rfl rfl rfl G.out.1 ⟨E9.out,G.out.2⟩)
    ·have E:OO=none:=by
      rw[←EO.out];unfold pstO;rw[if_neg (by rw[H10.out,H8.out,H9.out];simp),if_neg (by rw[H8.out,H7.out];simp),if_neg (by rw[H9.out,H10.out];simp),if_neg (by rw[H10.out,H7.out,H8.out];simp)]
     have E9:Hid (Ending.returned (.tuple #[.agg (p).cs,.bool false])=.returned (.tuple #[.agg (OO.getD p).cs,.bool OO.isSome])):=by rw[E];exact rfl
     clear E;have c10:=S.out.var.pbit (j:=10) rfl;rw[H10.out] at c10;have c8:=S.out.var.pbit (j:=8) rfl;rw[H8.out] at c8;have c9:=S.out.var.pbit (j:=9) rfl;rw[H9.out] at c9;have c7:=S.out.var.pbit (j:=7) rfl;rw[H7.out] at c7;have lp:=S.out.ld;obtain⟨U,sU,rU,bU⟩:=S.out.tell p;have G:=hd2 rU bU;clear rU bU;go_enter func133,ntmps133
     go_wp2_with (with_reducible exact z_j results133 rfl rfl rfl G.out.1 ⟨E9.out,G.out.2⟩)
theorem z_fY (p:Pt) (w:World):Calls prog 80 #[.agg p.cs] w fun r w'=>PRes w p (pstO p) r w':=by
 obtain⟨OO,hOO⟩:∃z,pstO p=z:=⟨_,rfl⟩;rw[hOO];have EO:=hd1 hOO;obtain⟨W,hW,s0⟩:=PS.start w p;have S:=hd1 s0;obtain⟨b10,h10⟩:∃z,p.bt 10=z:=⟨_,rfl⟩;have H10:=hd1 h10;clear h10;obtain⟨b8,h8⟩:∃z,p.bt 8=z:=⟨_,rfl⟩;have H8:=hd1 h8;clear h8;obtain⟨b9,h9⟩:∃z,p.bt 9=z:=⟨_,rfl⟩;have H9:=hd1 h9;clear h9;obtain⟨b7,h7⟩:∃z,p.bt 7=z:=⟨_,rfl⟩;have H7:=hd1 h7;clear h7;clear s0 hOO;cases b10
 ·cases b8
  ·cases b9
   ·have E:OO=none:=by
     rw[←EO.out];unfold pstO;rw[if_neg (by rw[H10.out,H8.out,H9.out];simp),if_neg (by rw[H8.out,H7.out];simp),if_neg (by rw[H9.out,H10.out];simp),if_neg (by rw[H10.out,H7.out,H8.out];simp)]
    have E9:Hid (Ending.returned (.tuple #[.agg (p).cs,.bool false])=.returned (.tuple #[.agg (OO.getD p).cs,.bool OO.isSome])):=by rw[E];exact rfl
    clear E;have c10:=S.out.var.pbit (j:=10) rfl;rw[H10.out] at c10;have c8:=S.out.var.pbit (j:=8) rfl;rw[H8.out] at c8;have c9:=S.out.var.pbit (j:=9) rfl;rw[H9.out] at c9;have c7:=S.out.var.pbit (j:=7) rfl;rw[H7.out] at c7;have lp:=S.out.ld;obtain⟨U,sU,rU,bU⟩:=S.out.tell p;have G:=hd2 rU bU;clear rU bU;go_enter func80,ntmps80
    go_wp2_with (with_reducible exact z_j results80 rfl rfl rfl G.out.1 ⟨E9.out,G.out.2⟩)
   ·have E:OO=some (doesP true false p):=by
     rw[←EO.out];unfold pstO;rw[if_neg (by rw[H10.out,H8.out,H9.out];simp),if_neg (by rw[H8.out,H7.out];simp),if_pos (by rw[H9.out,H10.out];simp)];rw[H8.out]
    have E9:Hid (Ending.returned (.tuple #[.agg (doesP true false p).cs,.bool true])=.returned (.tuple #[.agg (OO.getD p).cs,.bool OO.isSome])):=by rw[E];exact rfl
    clear E;have c10:=S.out.var.pbit (j:=10) rfl;rw[H10.out] at c10;have c8:=S.out.var.pbit (j:=8) rfl;rw[H8.out] at c8;have c9:=S.out.var.pbit (j:=9) rfl;rw[H9.out] at c9;have c7:=S.out.var.pbit (j:=7) rfl;rw[H7.out] at c7;obtain⟨V2,e2,q2⟩:=S.out.setB kb10 true;rw[←z_fb,H8.out] at q2;have lp:=q2.ld;obtain⟨U,sU,rU,bU⟩:=q2.tell (doesP true false p);have G:=hd2 rU bU;clear rU bU q2
    go_enter func80,ntmps80
    go_wp2_with (with_reducible exact z_j results80 rfl rfl rfl G.out.1 ⟨E9.out,G.out.2⟩)
  ·cases b9
   ·have E:OO=some (doesP false false p):=by
     rw[←EO.out];unfold pstO;rw[if_pos (by rw[H10.out,H8.out,H9.out];simp)]
    have E9:Hid (Ending.returned (.tuple #[.agg (doesP false false p).cs,.bool true])=.returned (.tuple #[.agg (OO.getD p).cs,.bool OO.isSome])):=by rw[E];exact rfl
    clear E;have c10:=S.out.var.pbit (j:=10) rfl;rw[H10.out] at c10;have c8:=S.out.var.pbit (j:=8) rfl;rw[H8.out] at c8;have c9:=S.out.var.pbit (j:=9) rfl;rw[H9.out] at c9;have c7:=S.out.var.pbit (j:=7) rfl;rw[H7.out] at c7;obtain⟨V1,e1,q1⟩:=S.out.setB kb10 false;obtain⟨V2,e2,q2⟩:=q1.setB kb8 false;have q2:PS w V2 w.heap.size (w.heap.size+1) (doesP false false p):=q2;have lp:=q2.ld
    obtain⟨U,sU,rU,bU⟩:=q2.tell (doesP false false p);have G:=hd2 rU bU;clear rU bU q2 q1;go_enter func80,ntmps80
    go_wp2_with (with_reducible exact z_j results80 rfl rfl rfl G.out.1 ⟨E9.out,G.out.2⟩)
   ·cases b7
    ·have E:OO=some (doesP false false p):=by
      rw[←EO.out];unfold pstO;rw[if_neg (by rw[H10.out,H8.out,H9.out];simp),if_pos (by rw[H8.out,H7.out];simp)];rw[H10.out]
     have E9:Hid (Ending.returned (.tuple #[.agg (doesP false false p).cs,.bool true])=.returned (.tuple #[.agg (OO.getD p).cs,.bool OO.isSome])):=by rw[E];exact rfl
     clear E;have c10:=S.out.var.pbit (j:=10) rfl;rw[H10.out] at c10;have c8:=S.out.var.pbit (j:=8) rfl;rw[H8.out] at c8;have c9:=S.out.var.pbit (j:=9) rfl;rw[H9.out] at c9;have c7:=S.out.var.pbit (j:=7) rfl;rw[H7.out] at c7;obtain⟨V2,e2,q2⟩:=S.out.setB kb8 false;rw[←z_fa,H10.out] at q2;have lp:=q2.ld;obtain⟨U,sU,rU,bU⟩:=q2.tell (doesP false false p);have G:=hd2 rU bU;clear rU bU q2
     go_enter func80,ntmps80
     go_wp2_with (with_reducible exact z_j results80 rfl rfl rfl G.out.1 ⟨E9.out,G.out.2⟩)
    ·have E:OO=some (doesP true true p):=by
      rw[←EO.out];unfold pstO;rw[if_neg (by rw[H10.out,H8.out,H9.out];simp),if_neg (by rw[H8.out,H7.out];simp),if_pos (by rw[H9.out,H10.out];simp)];rw[H8.out]
     have E9:Hid (Ending.returned (.tuple #[.agg (doesP true true p).cs,.bool true])=.returned (.tuple #[.agg (OO.getD p).cs,.bool OO.isSome])):=by rw[E];exact rfl
     clear E;have c10:=S.out.var.pbit (j:=10) rfl;rw[H10.out] at c10;have c8:=S.out.var.pbit (j:=8) rfl;rw[H8.out] at c8;have c9:=S.out.var.pbit (j:=9) rfl;rw[H9.out] at c9;have c7:=S.out.var.pbit (j:=7) rfl;rw[H7.out] at c7;obtain⟨V2,e2,q2⟩:=S.out.setB kb10 true;rw[←z_fb,H8.out] at q2;have lp:=q2.ld;obtain⟨U,sU,rU,bU⟩:=q2.tell (doesP true true p);have G:=hd2 rU bU;clear rU bU q2
     go_enter func80,ntmps80
     go_wp2_with (with_reducible exact z_j results80 rfl rfl rfl G.out.1 ⟨E9.out,G.out.2⟩)
 ·cases b9
  ·have E:OO=some (doesP false false p):=by
    rw[←EO.out];unfold pstO;rw[if_pos (by rw[H10.out,H8.out,H9.out];simp)]
   have E9:Hid (Ending.returned (.tuple #[.agg (doesP false false p).cs,.bool true])=.returned (.tuple #[.agg (OO.getD p).cs,.bool OO.isSome])):=by rw[E];exact rfl
   clear E;have c10:=S.out.var.pbit (j:=10) rfl;rw[H10.out] at c10;have c8:=S.out.var.pbit (j:=8) rfl;rw[H8.out] at c8;have c9:=S.out.var.pbit (j:=9) rfl;rw[H9.out] at c9;have c7:=S.out.var.pbit (j:=7) rfl;rw[H7.out] at c7;obtain⟨V1,e1,q1⟩:=S.out.setB kb10 false;obtain⟨V2,e2,q2⟩:=q1.setB kb8 false;have q2:PS w V2 w.heap.size (w.heap.size+1) (doesP false false p):=q2;have lp:=q2.ld
   obtain⟨U,sU,rU,bU⟩:=q2.tell (doesP false false p);have G:=hd2 rU bU;clear rU bU q2 q1;go_enter func80,ntmps80
   go_wp2_with (with_reducible exact z_j results80 rfl rfl rfl G.out.1 ⟨E9.out,G.out.2⟩)
  ·cases b8
   ·cases b7
    ·have E:OO=none:=by
      rw[←EO.out];unfold pstO;rw[if_neg (by rw[H10.out,H8.out,H9.out];simp),if_neg (by rw[H8.out,H7.out];simp),if_neg (by rw[H9.out,H10.out];simp),if_neg (by rw[H10.out,H7.out,H8.out];simp)]
     have E9:Hid (Ending.returned (.tuple #[.agg (p).cs,.bool false])=.returned (.tuple #[.agg (OO.getD p).cs,.bool OO.isSome])):=by rw[E];exact rfl
     clear E;have c10:=S.out.var.pbit (j:=10) rfl;rw[H10.out] at c10;have c8:=S.out.var.pbit (j:=8) rfl;rw[H8.out] at c8;have c9:=S.out.var.pbit (j:=9) rfl;rw[H9.out] at c9;have c7:=S.out.var.pbit (j:=7) rfl;rw[H7.out] at c7;have lp:=S.out.ld;obtain⟨U,sU,rU,bU⟩:=S.out.tell p;have G:=hd2 rU bU;clear rU bU;go_enter func80,ntmps80
     go_wp2_with (with_reducible exact z_j results80 rfl rfl rfl G.out.1 ⟨E9.out,G.out.2⟩)
    ·have E:OO=some (doesP true true p):=by
      rw[←EO.out];unfold pstO;rw[if_neg (by rw[H10.out,H8.out,H9.out];simp),if_neg (by rw[H8.out,H7.out];simp),if_neg (by rw[H9.out,H10.out];simp),if_pos (by rw[H10.out,H7.out,H8.out];simp)]
     have E9:Hid (Ending.returned (.tuple #[.agg (doesP true true p).cs,.bool true])=.returned (.tuple #[.agg (OO.getD p).cs,.bool OO.isSome])):=by rw[E];exact rfl
     clear E;have c10:=S.out.var.pbit (j:=10) rfl;rw[H10.out] at c10;have c8:=S.out.var.pbit (j:=8) rfl;rw[H8.out] at c8;have c9:=S.out.var.pbit (j:=9) rfl;rw[H9.out] at c9;have c7:=S.out.var.pbit (j:=7) rfl;rw[H7.out] at c7;obtain⟨V2,e2,q2⟩:=S.out.setB kb8 true;rw[←z_fa,H10.out] at q2;have lp:=q2.ld;obtain⟨U,sU,rU,bU⟩:=q2.tell (doesP true true p);have G:=hd2 rU bU;clear rU bU q2
     go_enter func80,ntmps80
     go_wp2_with (with_reducible exact z_j results80 rfl rfl rfl G.out.1 ⟨E9.out,G.out.2⟩)
   ·cases b7
    ·have E:OO=some (doesP true false p):=by
      rw[←EO.out];unfold pstO;rw[if_neg (by rw[H10.out,H8.out,H9.out];simp),if_pos (by rw[H8.out,H7.out];simp)];rw[H10.out]
     have E9:Hid (Ending.returned (.tuple #[.agg (doesP true false p).cs,.bool true])=.returned (.tuple #[.agg (OO.getD p).cs,.bool OO.isSome])):=by rw[E];exact rfl
     clear E;have c10:=S.out.var.pbit (j:=10) rfl;rw[H10.out] at c10;have c8:=S.out.var.pbit (j:=8) rfl;rw[H8.out] at c8;have c9:=S.out.var.pbit (j:=9) rfl;rw[H9.out] at c9;have c7:=S.out.var.pbit (j:=7) rfl;rw[H7.out] at c7;obtain⟨V2,e2,q2⟩:=S.out.setB kb8 false;rw[←z_fa,H10.out] at q2;have lp:=q2.ld;obtain⟨U,sU,rU,bU⟩:=q2.tell (doesP true false p);have G:=hd2 rU bU;clear rU bU q2
     go_enter func80,ntmps80
     go_wp2_with (with_reducible exact z_j results80 rfl rfl rfl G.out.1 ⟨E9.out,G.out.2⟩)
    ·have E:OO=none:=by
      rw[←EO.out];unfold pstO;rw[if_neg (by rw[H10.out,H8.out,H9.out];simp),if_neg (by rw[H8.out,H7.out];simp),if_neg (by rw[H9.out,H10.out];simp),if_neg (by rw[H10.out,H7.out,H8.out];simp)]
     have E9:Hid (Ending.returned (.tuple #[.agg (p).cs,.bool false])=.returned (.tuple #[.agg (OO.getD p).cs,.bool OO.isSome])):=by rw[E];exact rfl
     clear E;have c10:=S.out.var.pbit (j:=10) rfl;rw[H10.out] at c10;have c8:=S.out.var.pbit (j:=8) rfl;rw[H8.out] at c8;have c9:=S.out.var.pbit (j:=9) rfl;rw[H9.out] at c9;have c7:=S.out.var.pbit (j:=7) rfl;rw[H7.out] at c7;have lp:=S.out.ld;obtain⟨U,sU,rU,bU⟩:=S.out.tell p;have G:=hd2 rU bU;clear rU bU;go_enter func80,ntmps80
     go_wp2_with (with_reducible exact z_j results80 rfl rfl rfl G.out.1 ⟨E9.out,G.out.2⟩)
end S14
end
section
namespace S14
open Go.RowKit
theorem _root_.Go.Proofs.YtlchejbggnbccaaGreat.PQ.below {w W V:World} {g c i q:Nat} {l:List Pt} {p:Pt} (s:PQ w W g c i q l p) (e:Below W.heap.size W V):PQ w V g c i q l p:=⟨s.pat.below e,z_n s.gr (z_q e _),s.hi,s.hq⟩
attribute [local go_sem ↓] ldP stP stB stU stW ldT stT st32
theorem z_fo:Chg 216 quiP:=by
 intro W g c i q l p hp hi hq;have s0:=PQ.start hp hi hq;obtain⟨V1,e1,s1⟩:=s0.setB kb6 true;obtain⟨V2,e2,s2⟩:=s1.setB kb26 false;obtain⟨V3,e3,s3⟩:=s2.setU ku71 u0;obtain⟨V4,e4,s4⟩:=s3.setN infoS kn74 wi1;have F:=hd2 s4.pat s4.gr;clear hp hi hq s0 s1 s2 s3 s4;go_enter func216,ntmps216;go_wp2
 go_end0
 exact⟨rfl,F.out.1,F.out.2⟩
theorem z_cu:Chg 247 lrnP:=by
 intro W g c i q l p hp hi hq;have s0:=PQ.start hp hi hq;obtain⟨V1,e1,s1⟩:=s0.setB kb17 false;obtain⟨V2,e2,s2⟩:=s1.setB kb19 false;obtain⟨V3,e3,s3⟩:=s2.setB kb18 false;obtain⟨V4,e4,s4⟩:=s3.setB kb27 false;obtain⟨V5,e5,s5⟩:=s4.setN infoS kn74 wi2;have F:=hd2 s5.pat s5.gr;clear hp hi hq s0 s1 s2 s3 s4 s5;go_enter func247,ntmps247;go_wp2
 go_end0
 exact⟨rfl,F.out.1,F.out.2⟩
theorem z_am:Chg 250 actP:=by
 intro W g c i q l p hp hi hq;have s0:=PQ.start hp hi hq;obtain⟨V1,e1,s1⟩:=s0.setB kb11 true;obtain⟨V2,e2,s2⟩:=s1.setN infoS kn74 wi3;have F:=hd2 s2.pat s2.gr;clear hp hi hq s0 s1 s2;go_enter func250,ntmps250;go_wp2
 go_end0
 exact⟨rfl,F.out.1,F.out.2⟩
theorem v_E:Chg 252 flsP:=by
 intro W g c i q l p hp hi hq;have s0:=PQ.start hp hi hq;obtain⟨V1,e1,s1⟩:=s0.setB kb6 true;obtain⟨V2,e2,s2⟩:=s1.setB kb27 false;have F:=hd2 s2.pat s2.gr;clear hp hi hq s0 s1 s2;go_enter func252,ntmps252;go_wp2
 go_end0
 exact⟨rfl,F.out.1,F.out.2⟩
theorem w_t:Chg 253 ackP:=by
 intro W g c i q l p hp hi hq;have s0:=PQ.start hp hi hq;obtain⟨V1,e1,s1⟩:=s0.setU ku71 u0;obtain⟨V2,e2,s2⟩:=s1.setB kb18 false;have F:=hd2 s2.pat s2.gr;clear hp hi hq s0 s1 s2;go_enter func253,ntmps253;go_wp2
 go_end0
 exact⟨rfl,F.out.1,F.out.2⟩
theorem w_r:Chg 251 heaP:=by
 intro W g c i q l p hp hi hq;have s0:=PQ.start hp hi hq;obtain⟨V1,e1,s1⟩:=s0.setB kb19 false;obtain⟨V2,e2,s2⟩:=s1.setB kb17 false;have c26:=s2.bit (j:=26) rfl;have c30:=s2.num (j:=30) (k:=.i64) rfl;rw[z_N _ _ _ (by decide),z_N _ _ _ (by decide)] at c26;rw[z_G _ _ _ (by decide),z_G _ _ _ (by decide)] at c30;obtain⟨A,hA⟩:∃z,p.bt 26=z:=⟨_,rfl⟩;obtain⟨B,hB⟩:∃z,(p.nm 30==4)=z:=⟨_,rfl⟩
 obtain⟨V3,e3,s3⟩:=s2.setB kb26 (A || B);have F:Hid (PAt V3 g c (l.set i (heaP p))∧W.grownBy V3 (some g)):=by
  unfold heaP;rw[hA,hB];exact⟨s3.pat,s3.gr⟩
 rw[hA] at c26;clear hp hi hq s0 s1 s2 s3;cases A
 ·cases B
  ·simp only[Bool.or_self] at e3;clear hA;go_enter func251,ntmps251;go_wp2
   go_end0
   exact⟨rfl,F.out.1,F.out.2⟩
  ·have h4:p.nm 30=4:=by simpa using hB
   rw[h4] at c30;simp only[Bool.false_or] at e3;clear hA hB h4;go_enter func251,ntmps251;go_wp2
   go_end0
   exact⟨rfl,F.out.1,F.out.2⟩
 ·simp only[Bool.true_or] at e3;clear hA hB;go_enter func251,ntmps251;go_wp2
  go_end0
  exact⟨rfl,F.out.1,F.out.2⟩
theorem z_cR (a b:Int) (ha:0≤a∧a≤255) (hb:0≤b∧b≤255) (w:World):Calls prog 280 #[.int .u8 a,.int .u8 b] w fun r w'=>r=.returned (.int .u8 (sumN a b))∧Below w.heap.size w w':=by
 by_cases h:255<a+b
 ·have e:sumN a b=255:=by unfold sumN;rw[if_pos h]
  rw[e];have h':¬ a+b≤255:=by omega
  clear e;go_enter func280,ntmps280;go_wp2
  go_ret;exact⟨rfl,Below.refl _ _⟩
 ·have e:sumN a b=a+b:=by unfold sumN;rw[if_neg h]
  rw[e];have h':a+b≤255:=by omega
  clear e;go_enter func280,ntmps280;go_wp2
  go_ret;exact⟨rfl,Below.refl _ _⟩
theorem z_kq (W:World) (g c i q tb:Nat) (l:List Pt) (p:Pt) (h:Hd) (x:Value) (hp:PAt W g c l) (hi:l[i]?=some p) (hq:q=i*77) (ht:RvAt W tb 39 (trc h x)) :
  Calls prog 279 #[.pointer (some ⟨g,q,none⟩),.pointer (some ⟨tb,0,none⟩)] W fun r W'=>r=.returned (.tuple #[])∧PAt W' g c (l.set i (nwP h p))∧W.grownBy W' (some g):=by
 have s0:=PQ.start hp hi hq;have c71:=s0.num (j:=71) (k:=.u8) rfl;have c23:=s0.bit (j:=23) rfl;have c13:=ht.tnum (j:=13) (k:=.u8) rfl;have c14:=ht.tnum (j:=14) (k:=.u8) rfl;have c15:=ht.tnum (j:=15) (k:=.u8) rfl;have H:Hid (PQ W W g c i q l p):=s0;obtain⟨N,hN⟩:∃z,nwP h p=z:=⟨_,rfl⟩;rw[hN];have EN:Hid (nwP h p=N):=hN;clear hp hi hq ht s0 hN;by_cases h0:p.nm 71=0
 ·have E0:Hid (p.nm 71=0):=h0;rw[h0] at c71;cases h1:p.bt 23
  ·have E:Hid (N=p.setU 71 (sumN (h.nm 13) (h.nm 15))):=by
    rw[←EN.out];unfold nwP;rw[if_pos E0.out,if_neg (by rw[h1];decide)];exact rfl
   rw[h1] at c23;clear h0 h1 EN E0;go_enter func279,ntmps279
   go_wp2_with fail
   refine (z_cR _ _ (h.u8 hu13) (h.u8 hu15) W).mono ?_;rintro _ V ⟨rfl,bV⟩;obtain⟨V1,e1,s1⟩:=(H.out.below bV).setU ku71 (sumB h);have F:Hid (PAt V1 g c (l.set i N)∧W.grownBy V1 (some g)):=by
    rw[E.out];exact⟨s1.pat,s1.gr⟩
   clear s1 bV E;go_wp2
   go_end0
   exact⟨rfl,F.out.1,F.out.2⟩
  ·have E:Hid (N=(p.setU 71 (sumN (h.nm 14) 1)).setB 11 kb11 true):=by
    rw[←EN.out];unfold nwP;rw[if_pos E0.out,if_pos h1];exact rfl
   rw[h1] at c23;clear h0 h1 EN E0;go_enter func279,ntmps279
   go_wp2_with fail
   refine (z_cR _ _ (h.u8 hu14) (by decide) W).mono ?_;rintro _ V ⟨rfl,bV⟩;obtain⟨V1,e1,s1⟩:=(H.out.below bV).setU ku71 (sumA h);obtain⟨V2,e2,s2⟩:=s1.setB kb11 true;have F:Hid (PAt V2 g c (l.set i N)∧W.grownBy V2 (some g)):=by
    rw[E.out];exact⟨s2.pat,s2.gr⟩
   clear s1 s2 bV E;go_wp2
   go_end0
   exact⟨rfl,F.out.1,F.out.2⟩
 ·have E:Hid (N=p):=by
   rw[←EN.out];unfold nwP;rw[if_neg h0];exact rfl
  have x0:(p.nm 71==0)=false:=beq_eq_false_iff_ne.2 h0;have F:Hid (PAt W g c (l.set i N)∧W.grownBy W (some g)):=by
   rw[E.out];exact⟨H.out.pat,H.out.gr⟩
  clear EN E H;go_enter func279,ntmps279;go_wp2
  go_end0
  exact⟨rfl,F.out.1,F.out.2⟩
abbrev TBf (w:World) (h:Hd) (a:Option Addr) (n:Nat) (l:List Pt) (O:Option (List Pt)) (r:Ending) (w':World):Prop:=∃a' c',r=.returned (.tuple #[.agg (trc h (.slice a' n c')),.bool O.isSome])∧SlAt w' a' n c' (O.getD l)∧Below w.heap.size w w'∧Fro w a a'
theorem z_t (F:Nat) (f:Pt→Pt) (hF:Chg F f) (hc:∀(x:Value) (V:World),(callFunc F #[x]).run prog V=.ok (.enter F #[x]) V) (h:Hd) (a:Option Addr) (n c:Nat) (l:List Pt) (k:Nat) (w:World) (hs:SlAt w a n c l) (hn:n≤1000) (hk:k<n) :
  Calls prog 215 #[.agg (trc h (.slice a n c)),.int .i64 (k:Int),.func (.func F) #[] #[]] w fun r w'=>TRes w h n (l.set k (f (gtP l k))) r w':=by
 obtain⟨W,hW,r0,r1,bW,zW⟩:=z_w w h (.slice a n c);have c16:=r0.t16;have H:=hd7 (hs.below bW) hn hs.len r0 r1 bW zW;clear hs hn r0 r1 bW zW;go_enter func215,ntmps215
 go_wp2_with fail
 refine (y_F a n c l W H.out.1 H.out.2.1).mono ?_;rintro _ W2 ⟨v,rfl,o2,b2⟩;have z2:=H.out.2.2.2.2.2.2;have hl:=H.out.2.2.1;obtain⟨W3,s3,r3,g3⟩:=(H.out.2.2.2.1.below b2).tset o2.one;have o3:=o2.keptBut g3 (o2.apart (by omega));have q3:=(H.out.2.2.2.2.1.below b2).keptBut g3 (by simp only[ne_eq,Option.some.injEq];omega)
 have b3:Below w.heap.size w W3:=gro (z_a H.out.2.2.2.2.2.1 b2) g3 (Nat.le_refl _) (by have:=b2.size;omega);have hin0:(0:Int)≤(k:Int):=by omega
 have hin1:(k:Int)<(n:Int):=by omega
 clear b2 g3 o2 c16 hW;rcases o3.pat with ⟨hv,hle⟩ | ⟨g,cc,hv,hg,hp⟩
 ·rw[hle] at hl;simp at hl;omega
 ·rw[hl] at hv;subst hv;have c16:=r3.t16;have K:Hid (RvAt W3 w.heap.size 39 (trc h (.slice (some ⟨g,0,none⟩) n cc))∧RvAt W3 (w.heap.size+1) 39 (trc zeroH (.slice none 0 0))∧Below w.heap.size w W3∧w.heap.size+2≤g∧l.length=n):=⟨r3,q3,b3,by omega,hl⟩;have C:Hid _:=(hF W3 g cc k (k*77) l (gtP l k) hp (z_k (by rw[hl];exact hk)) rfl);clear hp hg r3 q3 b3 o3 hl z2 hk
  go_wp2_with fail
  refine Calls.mono C.out ?_;rintro _ V ⟨rfl,pV,gV⟩;have hg:=K.out.2.2.2.1;have r5:=K.out.1.keptBut gV (by simp;omega);have q5:=K.out.2.1.keptBut gV (by simp;omega);have l5:=r5.tld;obtain⟨W6,s6,r6,g6⟩:=q5.tst (g:=h) (y:=.slice (some ⟨g,0,none⟩) n cc) rfl;have p6:=pV.keptBut g6 (by simp;omega)
  have b6:Below w.heap.size w W6:=gro (gro K.out.2.2.1 gV (by omega) K.out.2.2.1.size) g6 (by omega) (by have:=K.out.2.2.1.size;have:=gV.size;omega);have s6':=p6.sl;rw[List.length_set,K.out.2.2.2.2] at s6';have F:=hd3 r6 s6' b6;have FR:Hid (w.heap.size≤g):=(show w.heap.size≤g by have:=K.out.2.2.2.1;omega);clear pV gV r5 q5 r6 g6 p6 b6 s6' hg C K;go_wp2
  refine bodyPost_ret (z_e rtT results215 _ _ _ _ rfl F.out.1 (z_c _ _)) rfl ?_;exact⟨some ⟨g,0,none⟩,cc,rfl,F.out.2.1,F.out.2.2,Nw.of FR.out⟩
theorem z_aW (tb:Nat) (hc:∀(x y:Value) (V:World),(callFunc 279 #[x,y]).run prog V=.ok (.enter 279 #[x,y]) V) (h:Hd) (a:Option Addr) (n c:Nat) (l:List Pt) (k:Nat) (w:World) (hs:SlAt w a n c l) (hn:n≤1000) (hk:k<n) (x:Value) (ht:RvAt w tb 39 (trc h x)) :
  Calls prog 215 #[.agg (trc h (.slice a n c)),.int .i64 (k:Int),.func (.func 279) #[] #[.pointer (some ⟨tb,0,none⟩)]] w fun r w'=>TRes w h n (l.set k (nwP h (gtP l k))) r w':=by
 obtain⟨W,hW,r0,r1,bW,zW⟩:=z_w w h (.slice a n c);have c16:=r0.t16;have H:=hd7 (hs.below bW) hn hs.len r0 r1 bW zW;clear hs hn r0 r1 bW zW;go_enter func215,ntmps215
 go_wp2_with fail
 refine (y_F a n c l W H.out.1 H.out.2.1).mono ?_;rintro _ W2 ⟨v,rfl,o2,b2⟩;have z2:=H.out.2.2.2.2.2.2;have hl:=H.out.2.2.1;obtain⟨W3,s3,r3,g3⟩:=(H.out.2.2.2.1.below b2).tset o2.one;have o3:=o2.keptBut g3 (o2.apart (by omega));have q3:=(H.out.2.2.2.2.1.below b2).keptBut g3 (by simp only[ne_eq,Option.some.injEq];omega)
 have b3:Below w.heap.size w W3:=gro (z_a H.out.2.2.2.2.2.1 b2) g3 (Nat.le_refl _) (by have:=b2.size;omega);have T3:RvAt W3 tb 39 (trc h x):=((ht.below H.out.2.2.2.2.2.1).below b2).keptBut g3 (by have:=ht.lt;simp;omega);have hin0:(0:Int)≤(k:Int):=by omega
 have hin1:(k:Int)<(n:Int):=by omega
 clear b2 g3 o2 c16 hW;rcases o3.pat with ⟨hv,hle⟩ | ⟨g,cc,hv,hg,hp⟩
 ·rw[hle] at hl;simp at hl;omega
 ·rw[hl] at hv;subst hv;have c16:=r3.t16;have K:Hid (RvAt W3 w.heap.size 39 (trc h (.slice (some ⟨g,0,none⟩) n cc))∧RvAt W3 (w.heap.size+1) 39 (trc zeroH (.slice none 0 0))∧Below w.heap.size w W3∧w.heap.size+2≤g∧l.length=n):=⟨r3,q3,b3,by omega,hl⟩;have C:Hid _:=(z_kq W3 g cc k (k*77) tb l (gtP l k) h x hp (z_k (by rw[hl];exact hk)) rfl T3);clear hp hg r3 q3 b3 o3 hl z2 hk
  go_wp2_with fail
  refine Calls.mono C.out ?_;rintro _ V ⟨rfl,pV,gV⟩;have hg:=K.out.2.2.2.1;have r5:=K.out.1.keptBut gV (by simp;omega);have q5:=K.out.2.1.keptBut gV (by simp;omega);have l5:=r5.tld;obtain⟨W6,s6,r6,g6⟩:=q5.tst (g:=h) (y:=.slice (some ⟨g,0,none⟩) n cc) rfl;have p6:=pV.keptBut g6 (by simp;omega)
  have b6:Below w.heap.size w W6:=gro (gro K.out.2.2.1 gV (by omega) K.out.2.2.1.size) g6 (by omega) (by have:=K.out.2.2.1.size;have:=gV.size;omega);have s6':=p6.sl;rw[List.length_set,K.out.2.2.2.2] at s6';have F:=hd3 r6 s6' b6;have FR:Hid (w.heap.size≤g):=(show w.heap.size≤g by have:=K.out.2.2.2.1;omega);clear pV gV r5 q5 r6 g6 p6 b6 s6' hg C K;go_wp2
  refine bodyPost_ret (z_e rtT results215 _ _ _ _ rfl F.out.1 (z_c _ _)) rfl ?_;exact⟨some ⟨g,0,none⟩,cc,rfl,F.out.2.1,F.out.2.2,Nw.of FR.out⟩
end S14
end
end Go.Proofs.YtlchejbggnbccaaGreat
