/-
  The definition's note: the walk, for every row. And what follows from it here.
-/
import Derived.Test.YtlchejbggnbccaaGreatP17a
namespace Go.Proofs.YtlchejbggnbccaaGreat
set_option linter.unusedVariables false
set_option linter.unusedSimpArgs false
set_option maxRecDepth 4000
set_option maxHeartbeats 40000000
open _root_.Go.Proofs.Tryz
section
namespace S17
open Go.RowKit
abbrev u_n:Oper:={ dst:=some 33,op:=Op.buildSlice 50 0 #[],type:=50,pos:= "ref.go:37",after:=#[],guard:=none }
abbrev w_d:Oper:={ dst:=some 39,op:=Op.buildSlice 50 1 #[(0,Operand.tmp 38)],type:=50,pos:= "ref.go:37",after:=#[{ on:=5,ground:=Ground.data }],guard:=none }
abbrev w_e:Oper:={ dst:=some 37,op:=Op.call { callee:=Callee.builtin Builtin.append,args:=#[Operand.tmp 33,Operand.tmp 36],argTypes:=#[50,50] },type:=50,pos:= "ref.go:37",after:=#[{ on:=0,ground:=Ground.data },{ on:=3,ground:=Ground.data }],guard:=none }
abbrev w_c:Oper:={ dst:=some 40,op:=Op.call { callee:=Callee.builtin Builtin.append,args:=#[Operand.tmp 37,Operand.tmp 39],argTypes:=#[50,50] },type:=50,pos:= "ref.go:37",after:=#[{ on:=4,ground:=Ground.data },{ on:=6,ground:=Ground.data },{ on:=4,ground:=Ground.chain }],guard:=none }
abbrev x_s:Oper:={ dst:=some 44,op:=Op.call { callee:=Callee.builtin Builtin.append,args:=#[Operand.tmp 40,Operand.tmp 43],argTypes:=#[50,50] },type:=50,pos:= "ref.go:37",after:=#[{ on:=7,ground:=Ground.data },{ on:=10,ground:=Ground.data },{ on:=7,ground:=Ground.chain }],guard:=none }
theorem u_s:∀(l:List Int) (i:Int) (k:Nat),k≤l.length→(∀j x,j<k→l[j]?=some x→x<i)→noteL l i=l.take k++noteL (l.drop k) i
 | l,i,0,_,_=>by simp
 | [],i,k+1,hk,_=>by simp at hk
 | x::r,i,k+1,hk,h=>by
  have hx:x<i:=h 0 x (by omega) rfl;have:=u_s r i k (by simpa using hk) (fun j y hj hy=>h (j+1) y (by omega) (by simpa using hy));have e:noteL (x::r) i=x::noteL r i:=if_pos hx;rw[e,this];rfl
theorem z_gT (l:List Int) (i:Int) (h:∀(j:Nat) (x:Int),l[j]?=some x→x<i):noteL l i=l++[i]:=by
 have:=u_s l i l.length (Nat.le_refl _) (fun j x _ hx=>h j x hx);rw[this,List.take_length,List.drop_length];rfl
theorem z_jF (l:List Int) (i x:Int) (k:Nat) (hk:l[k]?=some x) (hx:x=i) (h:∀j y,j<k→l[j]?=some y→y<i):noteL l i=l:=by
 have hkl:=(List.getElem?_eq_some_iff.1 hk).1;rw[u_s l i k (by omega) h,List.drop_eq_getElem_cons hkl];have e:l[k]=x:=(List.getElem?_eq_some_iff.1 hk).2;unfold noteL;rw[if_neg (by omega),if_pos (by omega),← List.drop_eq_getElem_cons hkl,List.take_append_drop]
theorem z_jG (l:List Int) (i x:Int) (k:Nat) (hk:l[k]?=some x) (hx:i<x) (h:∀j y,j<k→l[j]?=some y→y<i):noteL l i=l.take k++[i]++l.drop k:=by
 have hkl:=(List.getElem?_eq_some_iff.1 hk).1;rw[u_s l i k (by omega) h,List.drop_eq_getElem_cons hkl];have e:l[k]=x:=(List.getElem?_eq_some_iff.1 hk).2;unfold noteL;rw[if_neg (by omega),if_neg (by omega)];simp
attribute [local go_sem ↓] apLI slI
theorem z_dy (a:Option Addr) (n c:Nat) (l:List Int) (i:Int) (w:World) (hs:S16.SlAt eI w a n c l) (hn:n≤20000) (hi:-9223372036854775808≤i∧i≤9223372036854775807) :
  Calls prog 82 #[.slice a n c,.int .i64 i] w fun r V=>∃a' n' c',r=.returned (.slice a' n' c')∧S16.SlAt eI V a' n' c' (noteL l i)∧Below w.heap.size w V:=by
 have H:Hid (S16.SlAt eI w a n c l∧l.length=n∧n≤c):=⟨hs,hs.len,hs.cap⟩;have sh:=fun (k:Nat) (hk:k≤n)=>z_lO a n c k hk hs.cap;have sl:=fun (k:Nat) (hk:k≤n)=>z_lN a n c k hk;have SH:Hid _:=sh;have SL:Hid _:=sl;clear hs sh sl;go_enter func82,ntmps82
 go_wp2_with fail
 go_loopw [5] (fun v5 wr=>∃k:Nat,k≤n∧v5=.int .i64 k∧wr=w∧∀j x,j<k→l[j]?=some x→x<i) (fun v5 _=>n-(intOf v5).toNat)
 case atStart=>exact⟨0,by omega,rfl,rfl,fun j x hj=>by omega⟩
 case round=>
  obtain⟨k,hk,rfl,rfl,hlo⟩:=hrel;have LO:Hid (∀j x,j<k→l[j]?=some x→x<i):=hlo;clear hlo;have hk0:(0:Int)≤(k:Int):=by omega
  by_cases hkn:k<n
  rotate_left
  ·have hk1:¬ (k:Int)<(n:Int):=by omega
   have hke:k=n:=by omega
   have E:Hid (noteL l i=(l.take k++[i])++l.drop k):=by
    have:=z_gT l i (fun j x hx=>LO.out j x (by have:=(List.getElem?_eq_some_iff.1 hx).1;have:=H.out.2.1;omega) hx);have e:l.length=k:=by rw[H.out.2.1,hke]
    rw[this,← e,List.take_length,List.drop_length,List.append_nil];exact rfl
   have hkc:k≤n:=hk;clear hke;have qh:=SH.out k hkc;have ql:=SL.out k hkc;clear SH SL;go_upto_region 6 with fail
   obtain⟨X0,hX⟩:∃X0,World.drew wr=X0:=⟨_,rfl⟩;have b0:Below wr.heap.size wr X0:=by rw[←hX];exact (Below.refl _ _).drew
   have B0:Hid (Below wr.heap.size wr X0):=b0;clear b0;refine wp_region_noPanic ?_;refine wp_region_held_drew (S:=fun w'=>∃x:Later wr,w'=x.val) (by kernel_rfl) (by rw[hX];exact⟨⟨_,B0.out⟩,rfl⟩) (fun hHeld=>?_);rw[hX] at hHeld ⊢;clear hX;refine tk 1 ?_ rfl ?_ hHeld ?_;rotate_left
   ·intro W_ hSw_;clear hSw_
    go_simp<;>with_reducible rfl
   rotate_left;refine tk 2 ?_ rfl ?_ hHeld ?_;rotate_left
   ·intro W_ hSw_;clear hSw_
    go_simp<;>with_reducible rfl
   rotate_left;refine tk 3 ?_ rfl ?_ hHeld ?_;rotate_left
   ·intro W_ hSw_;clear hSw_
    go_simp<;>with_reducible rfl
   rotate_left;refine tk 5 ?_ rfl ?_ hHeld ?_;rotate_left
   ·intro W_ hSw_;clear hSw_
    go_simp<;>with_reducible rfl
   rotate_left;refine tk 8 ?_ rfl ?_ hHeld ?_;rotate_left
   ·intro W_ hSw_;clear hSw_
    go_simp<;>with_reducible rfl
   rotate_left;refine tk 9 ?_ rfl ?_ hHeld ?_;rotate_left
   ·intro W_ hSw_;clear hSw_
    go_simp<;>with_reducible rfl
   rotate_left;refine tk 10 ?_ rfl ?_ hHeld ?_;rotate_left
   ·intro W_ hSw_;clear hSw_
    go_simp<;>with_reducible rfl
   rotate_left
   try simp only[Act.put,zA,zB,zC]
   refine wpAnyH_ready (rs:=[0,6]) (by kernel_rfl) (by simp) ?_;refine (AllReadyH.cons (o:=u_n) rfl (fun K hK=>?_) (AllReadyH.cons (o:=w_d) rfl (fun K hK=>?_) AllReadyH.nil))
   ·skip
    obtain⟨Y1,hY1⟩:∃A,X0.alloc (.cells #[] 3)=A:=⟨_,rfl⟩;have zY1:Hid (Y1.heap.size=X0.heap.size+1):=by rw[←hY1];exact (show _=_ by simp)
    have bY1:Below X0.heap.size X0 Y1:=by rw[←hY1];exact (Below.refl _ _).alloc (Nat.le_refl _) _
    have oY1:S16.Own eI Y1 wr.heap.size (.slice (some ⟨X0.heap.size,0,none⟩) 0 0) []:=by rw[←hY1];exact x_H X0 _ B0.out.size
    have B1:Hid (Below wr.heap.size wr Y1):=z_a B0.out bY1
    go_simp
    clear hHeld;refine hK.out _ _ ⟨⟨_,B1.out⟩,rfl⟩ (fun hHeld=>?_);clear hK K
    try simp only[Act.put,zA,zB,zC]
    refine wpAnyH_ready (rs:=[4,6]) (by kernel_rfl) (by simp) ?_;refine (AllReadyH.cons (o:=w_e) rfl (fun K hK=>?_) (AllReadyH.cons (o:=w_d) rfl (fun K hK=>?_) AllReadyH.nil))
    ·skip
     obtain⟨v2,Y2,ap2,oY2,gY2⟩:=oY1.app kI (x_Y (H.out.1.below B1.out) hkc kI) (by have:=H.out.2.1;simp;omega) B1.out.size 50;have ap2:(S16.apS 50 50 #[.slice (some ⟨X0.heap.size,0,none⟩) 0 0,.slice a k c]).run prog Y1=.ok v2 Y2:=ap2;have bY2:Below wr.heap.size Y1 Y2:=z_h gY2 B1.out.size (fun j e=>(oY1.blk j e).1);have B2:Hid (Below wr.heap.size wr Y2):=B1.out.trans bY2
     go_simp
     clear hHeld;refine hK.out _ _ ⟨⟨_,B2.out⟩,rfl⟩ (fun hHeld=>?_);clear hK K
     try simp only[Act.put,zA,zB,zC]
     refine wpAnyH_ready (rs:=[6]) (by kernel_rfl) (by simp) ?_;refine AllReadyH.cons (o:=w_d) rfl (fun K hK=>?_) AllReadyH.nil;obtain⟨Y3,hY3⟩:∃A,Y2.alloc (.cells #[.int .i64 i] 3)=A:=⟨_,rfl⟩;have zY3:Hid (Y3.heap.size=Y2.heap.size+1):=by rw[←hY3];exact (show _=_ by simp)
     have bY3:Below Y2.heap.size Y2 Y3:=by rw[←hY3];exact (Below.refl _ _).alloc (Nat.le_refl _) _
     have pY3:S16.SlAt eI Y3 (some ⟨Y2.heap.size,0,none⟩) 1 1 [i]:=by rw[←hY3];exact S16.one_new Y2 i kI
     have oY3:=oY2.below bY3;have B3:Hid (Below wr.heap.size wr Y3):=z_a B2.out bY3
     go_simp
     clear hHeld;refine hK.out _ _ ⟨⟨_,B3.out⟩,rfl⟩ (fun hHeld=>?_);clear hK K
     try simp only[Act.put,zA,zB,zC]
     refine wpAnyH_ready (rs:=[7]) (by kernel_rfl) (by simp) ?_;refine AllReadyH.cons (o:=w_c) rfl (fun K hK=>?_) AllReadyH.nil;obtain⟨v4,Y4,ap4,oY4,gY4⟩:=oY3.app kI pY3 (by have:=H.out.2.1;simp;omega) B3.out.size 50;have ap4:(S16.apS 50 50 #[v2,.slice (some ⟨Y2.heap.size,0,none⟩) 1 1]).run prog Y3=.ok v4 Y4:=ap4;have bY4:Below wr.heap.size Y3 Y4:=z_h gY4 B3.out.size (fun j e=>(oY3.blk j e).1)
     have B4:Hid (Below wr.heap.size wr Y4):=B3.out.trans bY4
     go_simp
     clear hHeld;refine hK.out _ _ ⟨⟨_,B4.out⟩,rfl⟩ (fun hHeld=>?_);clear hK K
     try simp only[Act.put,zA,zB,zC]
     refine wpAnyH_ready (rs:=[11]) (by kernel_rfl) (by simp) ?_;refine AllReadyH.cons (o:=x_s) rfl (fun K hK=>?_) AllReadyH.nil;obtain⟨v5,Y5,ap5,oY5,gY5⟩:=oY4.app kI (x_Z (H.out.1.below B4.out) hkc kI) (by have:=H.out.2.1;simp;omega) B4.out.size 50;have ap5:(S16.apS 50 50 #[v4,.slice (adv a k c 1) (n-k) (c-k)]).run prog Y4=.ok v5 Y5:=ap5
     have bY5:Below wr.heap.size Y4 Y5:=z_h gY5 B4.out.size (fun j e=>(oY4.blk j e).1);have B5:Hid (Below wr.heap.size wr Y5):=B4.out.trans bY5
     go_simp
     clear hHeld;refine hK.out _ _ ⟨⟨_,B5.out⟩,rfl⟩ (fun hHeld=>?_);clear hK K;refine tk 12 ?_ rfl ?_ hHeld ?_;rotate_left
     ·intro W_ hSw_;clear hSw_
      go_simp<;>with_reducible rfl
     rotate_left
     try simp only[Act.put,zA,zB,zC]
     refine wpAnyH_done (by kernel_rfl) ?_ _;refine NoPanic.normal ?_;clear hHeld;obtain⟨a9,c9,e9,s9,_⟩:=oY5.form;obtain⟨n9,hn9⟩:∃z,(([]++l.take k)++[i]++l.drop k).length=z:=⟨_,rfl⟩;rw[hn9] at e9 s9;clear hn9;have F:Hid (S16.SlAt eI Y5 a9 n9 c9 (noteL l i)):=by rw[E.out];exact s9
     subst e9;clear s9;go_wp2
     go_ret;exact⟨_,_,_,rfl,F.out,B5.out⟩
    ·skip
     obtain⟨Y6,hY6⟩:∃A,Y1.alloc (.cells #[.int .i64 i] 3)=A:=⟨_,rfl⟩;have zY6:Hid (Y6.heap.size=Y1.heap.size+1):=by rw[←hY6];exact (show _=_ by simp)
     have bY6:Below Y1.heap.size Y1 Y6:=by rw[←hY6];exact (Below.refl _ _).alloc (Nat.le_refl _) _
     have pY6:S16.SlAt eI Y6 (some ⟨Y1.heap.size,0,none⟩) 1 1 [i]:=by rw[←hY6];exact S16.one_new Y1 i kI
     have oY6:=oY1.below bY6;have B6:Hid (Below wr.heap.size wr Y6):=z_a B1.out bY6
     go_simp
     clear hHeld;refine hK.out _ _ ⟨⟨_,B6.out⟩,rfl⟩ (fun hHeld=>?_);clear hK K
     try simp only[Act.put,zA,zB,zC]
     refine wpAnyH_ready (rs:=[4]) (by kernel_rfl) (by simp) ?_;refine AllReadyH.cons (o:=w_e) rfl (fun K hK=>?_) AllReadyH.nil;obtain⟨v7,Y7,ap7,oY7,gY7⟩:=oY6.app kI (x_Y (H.out.1.below B6.out) hkc kI) (by have:=H.out.2.1;simp;omega) B6.out.size 50;have ap7:(S16.apS 50 50 #[.slice (some ⟨X0.heap.size,0,none⟩) 0 0,.slice a k c]).run prog Y6=.ok v7 Y7:=ap7
     have bY7:Below wr.heap.size Y6 Y7:=z_h gY7 B6.out.size (fun j e=>(oY6.blk j e).1);have pY7:S16.SlAt eI Y7 _ 1 1 [i]:=pY6.keptBut gY7 (fun x hx _ e=>by cases hx;simp[Value.ownBlock] at e;have:=zY1.out;have:=zY6.out;omega);have B7:Hid (Below wr.heap.size wr Y7):=B6.out.trans bY7
     go_simp
     clear hHeld;refine hK.out _ _ ⟨⟨_,B7.out⟩,rfl⟩ (fun hHeld=>?_);clear hK K
     try simp only[Act.put,zA,zB,zC]
     refine wpAnyH_ready (rs:=[7]) (by kernel_rfl) (by simp) ?_;refine AllReadyH.cons (o:=w_c) rfl (fun K hK=>?_) AllReadyH.nil;obtain⟨v8,Y8,ap8,oY8,gY8⟩:=oY7.app kI pY7 (by have:=H.out.2.1;simp;omega) B7.out.size 50;have ap8:(S16.apS 50 50 #[v7,.slice (some ⟨Y1.heap.size,0,none⟩) 1 1]).run prog Y7=.ok v8 Y8:=ap8;have bY8:Below wr.heap.size Y7 Y8:=z_h gY8 B7.out.size (fun j e=>(oY7.blk j e).1)
     have B8:Hid (Below wr.heap.size wr Y8):=B7.out.trans bY8
     go_simp
     clear hHeld;refine hK.out _ _ ⟨⟨_,B8.out⟩,rfl⟩ (fun hHeld=>?_);clear hK K
     try simp only[Act.put,zA,zB,zC]
     refine wpAnyH_ready (rs:=[11]) (by kernel_rfl) (by simp) ?_;refine AllReadyH.cons (o:=x_s) rfl (fun K hK=>?_) AllReadyH.nil;obtain⟨v9,Y9,ap9,oY9,gY9⟩:=oY8.app kI (x_Z (H.out.1.below B8.out) hkc kI) (by have:=H.out.2.1;simp;omega) B8.out.size 50;have ap9:(S16.apS 50 50 #[v8,.slice (adv a k c 1) (n-k) (c-k)]).run prog Y8=.ok v9 Y9:=ap9
     have bY9:Below wr.heap.size Y8 Y9:=z_h gY9 B8.out.size (fun j e=>(oY8.blk j e).1);have B9:Hid (Below wr.heap.size wr Y9):=B8.out.trans bY9
     go_simp
     clear hHeld;refine hK.out _ _ ⟨⟨_,B9.out⟩,rfl⟩ (fun hHeld=>?_);clear hK K;refine tk 12 ?_ rfl ?_ hHeld ?_;rotate_left
     ·intro W_ hSw_;clear hSw_
      go_simp<;>with_reducible rfl
     rotate_left
     try simp only[Act.put,zA,zB,zC]
     refine wpAnyH_done (by kernel_rfl) ?_ _;refine NoPanic.normal ?_;clear hHeld;obtain⟨a9,c9,e9,s9,_⟩:=oY9.form;obtain⟨n9,hn9⟩:∃z,(([]++l.take k)++[i]++l.drop k).length=z:=⟨_,rfl⟩;rw[hn9] at e9 s9;clear hn9;have F:Hid (S16.SlAt eI Y9 a9 n9 c9 (noteL l i)):=by rw[E.out];exact s9
     subst e9;clear s9;go_wp2
     go_ret;exact⟨_,_,_,rfl,F.out,B9.out⟩
   ·skip
    obtain⟨Y10,hY10⟩:∃A,X0.alloc (.cells #[.int .i64 i] 3)=A:=⟨_,rfl⟩;have zY10:Hid (Y10.heap.size=X0.heap.size+1):=by rw[←hY10];exact (show _=_ by simp)
    have bY10:Below X0.heap.size X0 Y10:=by rw[←hY10];exact (Below.refl _ _).alloc (Nat.le_refl _) _
    have pY10:S16.SlAt eI Y10 (some ⟨X0.heap.size,0,none⟩) 1 1 [i]:=by rw[←hY10];exact S16.one_new X0 i kI
    have B10:Hid (Below wr.heap.size wr Y10):=z_a B0.out bY10
    go_simp
    clear hHeld;refine hK.out _ _ ⟨⟨_,B10.out⟩,rfl⟩ (fun hHeld=>?_);clear hK K
    try simp only[Act.put,zA,zB,zC]
    refine wpAnyH_ready (rs:=[0]) (by kernel_rfl) (by simp) ?_;refine AllReadyH.cons (o:=u_n) rfl (fun K hK=>?_) AllReadyH.nil;obtain⟨Y11,hY11⟩:∃A,Y10.alloc (.cells #[] 3)=A:=⟨_,rfl⟩;have zY11:Hid (Y11.heap.size=Y10.heap.size+1):=by rw[←hY11];exact (show _=_ by simp)
    have bY11:Below Y10.heap.size Y10 Y11:=by rw[←hY11];exact (Below.refl _ _).alloc (Nat.le_refl _) _
    have oY11:S16.Own eI Y11 wr.heap.size (.slice (some ⟨Y10.heap.size,0,none⟩) 0 0) []:=by rw[←hY11];exact x_H Y10 _ B10.out.size
    have pY11:=pY10.below bY11;have B11:Hid (Below wr.heap.size wr Y11):=z_a B10.out bY11
    go_simp
    clear hHeld;refine hK.out _ _ ⟨⟨_,B11.out⟩,rfl⟩ (fun hHeld=>?_);clear hK K
    try simp only[Act.put,zA,zB,zC]
    refine wpAnyH_ready (rs:=[4]) (by kernel_rfl) (by simp) ?_;refine AllReadyH.cons (o:=w_e) rfl (fun K hK=>?_) AllReadyH.nil;obtain⟨v12,Y12,ap12,oY12,gY12⟩:=oY11.app kI (x_Y (H.out.1.below B11.out) hkc kI) (by have:=H.out.2.1;simp;omega) B11.out.size 50;have ap12:(S16.apS 50 50 #[.slice (some ⟨Y10.heap.size,0,none⟩) 0 0,.slice a k c]).run prog Y11=.ok v12 Y12:=ap12
    have bY12:Below wr.heap.size Y11 Y12:=z_h gY12 B11.out.size (fun j e=>(oY11.blk j e).1);have pY12:S16.SlAt eI Y12 _ 1 1 [i]:=pY11.keptBut gY12 (fun x hx _ e=>by cases hx;simp[Value.ownBlock] at e;have:=zY10.out;have:=zY11.out;omega);have B12:Hid (Below wr.heap.size wr Y12):=B11.out.trans bY12
    go_simp
    clear hHeld;refine hK.out _ _ ⟨⟨_,B12.out⟩,rfl⟩ (fun hHeld=>?_);clear hK K
    try simp only[Act.put,zA,zB,zC]
    refine wpAnyH_ready (rs:=[7]) (by kernel_rfl) (by simp) ?_;refine AllReadyH.cons (o:=w_c) rfl (fun K hK=>?_) AllReadyH.nil;obtain⟨v13,Y13,ap13,oY13,gY13⟩:=oY12.app kI pY12 (by have:=H.out.2.1;simp;omega) B12.out.size 50;have ap13:(S16.apS 50 50 #[v12,.slice (some ⟨X0.heap.size,0,none⟩) 1 1]).run prog Y12=.ok v13 Y13:=ap13
    have bY13:Below wr.heap.size Y12 Y13:=z_h gY13 B12.out.size (fun j e=>(oY12.blk j e).1);have B13:Hid (Below wr.heap.size wr Y13):=B12.out.trans bY13
    go_simp
    clear hHeld;refine hK.out _ _ ⟨⟨_,B13.out⟩,rfl⟩ (fun hHeld=>?_);clear hK K
    try simp only[Act.put,zA,zB,zC]
    refine wpAnyH_ready (rs:=[11]) (by kernel_rfl) (by simp) ?_;refine AllReadyH.cons (o:=x_s) rfl (fun K hK=>?_) AllReadyH.nil;obtain⟨v14,Y14,ap14,oY14,gY14⟩:=oY13.app kI (x_Z (H.out.1.below B13.out) hkc kI) (by have:=H.out.2.1;simp;omega) B13.out.size 50;have ap14:(S16.apS 50 50 #[v13,.slice (adv a k c 1) (n-k) (c-k)]).run prog Y13=.ok v14 Y14:=ap14
    have bY14:Below wr.heap.size Y13 Y14:=z_h gY14 B13.out.size (fun j e=>(oY13.blk j e).1);have B14:Hid (Below wr.heap.size wr Y14):=B13.out.trans bY14
    go_simp
    clear hHeld;refine hK.out _ _ ⟨⟨_,B14.out⟩,rfl⟩ (fun hHeld=>?_);clear hK K;refine tk 12 ?_ rfl ?_ hHeld ?_;rotate_left
    ·intro W_ hSw_;clear hSw_
     go_simp<;>with_reducible rfl
    rotate_left
    try simp only[Act.put,zA,zB,zC]
    refine wpAnyH_done (by kernel_rfl) ?_ _;refine NoPanic.normal ?_;clear hHeld;obtain⟨a9,c9,e9,s9,_⟩:=oY14.form;obtain⟨n9,hn9⟩:∃z,(([]++l.take k)++[i]++l.drop k).length=z:=⟨_,rfl⟩;rw[hn9] at e9 s9;clear hn9;have F:Hid (S16.SlAt eI Y14 a9 n9 c9 (noteL l i)):=by rw[E.out];exact s9
    subst e9;clear s9;go_wp2
    go_ret;exact⟨_,_,_,rfl,F.out,B14.out⟩
  have hk1:(k:Int)<(n:Int):=by omega
  obtain⟨b,o,rfl⟩:=H.out.1.some' (by omega);obtain⟨x,hx⟩:∃x,l[k]?=some x:=⟨_,List.getElem?_eq_getElem (by rw[H.out.2.1];exact hkn)⟩;have cx:wr.cell? ⟨b,o+k,none⟩=some (.int .i64 x):=H.out.1.cell kI (j:=0) hx rfl (by simp[eI]);have HX:Hid (l[k]?=some x):=hx;clear hx;by_cases hlt:x<i
  ·go_wp2
   go_roundw
   case rel=>exact⟨k+1,by omega,by go_num,(by first|rfl | trivial),fun j y hj hy=>by
    rcases Nat.lt_or_ge j k with q | q
    ·exact LO.out j y q hy
    ·have:j=k:=by omega
     subst this;rw[HX.out] at hy;cases hy;exact hlt⟩
   case measure=>simp[intOf];omega
  ·by_cases heq:x=i
   ·have F:Hid (S16.SlAt eI wr (some ⟨b,o,none⟩) n c (noteL l i)):=by
     rw[z_jF l i x k HX.out heq LO.out];exact H.out.1
    subst heq;go_wp2
    go_ret;exact⟨_,_,_,rfl,F.out,Below.refl _ _⟩
   ·have hne:(x==i)=false:=by simpa using heq
    have E:Hid (noteL l i=(l.take k++[i])++l.drop k):=z_jG l i x k HX.out (by omega) LO.out;have hkc:k≤n:=hk;have qh:=SH.out k hkc;have ql:=SL.out k hkc;clear SH SL;go_upto_region 6 with fail
    obtain⟨X0,hX⟩:∃X0,World.drew wr=X0:=⟨_,rfl⟩;have b0:Below wr.heap.size wr X0:=by rw[←hX];exact (Below.refl _ _).drew
    have B0:Hid (Below wr.heap.size wr X0):=b0;clear b0;refine wp_region_noPanic ?_;refine wp_region_held_drew (S:=fun w'=>∃x:Later wr,w'=x.val) (by kernel_rfl) (by rw[hX];exact⟨⟨_,B0.out⟩,rfl⟩) (fun hHeld=>?_);rw[hX] at hHeld ⊢;clear hX;refine tk 1 ?_ rfl ?_ hHeld ?_;rotate_left
    ·intro W_ hSw_;clear hSw_
     go_simp<;>with_reducible rfl
    rotate_left;refine tk 2 ?_ rfl ?_ hHeld ?_;rotate_left
    ·intro W_ hSw_;clear hSw_
     go_simp<;>with_reducible rfl
    rotate_left;refine tk 3 ?_ rfl ?_ hHeld ?_;rotate_left
    ·intro W_ hSw_;clear hSw_
     go_simp<;>with_reducible rfl
    rotate_left;refine tk 5 ?_ rfl ?_ hHeld ?_;rotate_left
    ·intro W_ hSw_;clear hSw_
     go_simp<;>with_reducible rfl
    rotate_left;refine tk 8 ?_ rfl ?_ hHeld ?_;rotate_left
    ·intro W_ hSw_;clear hSw_
     go_simp<;>with_reducible rfl
    rotate_left;refine tk 9 ?_ rfl ?_ hHeld ?_;rotate_left
    ·intro W_ hSw_;clear hSw_
     go_simp<;>with_reducible rfl
    rotate_left;refine tk 10 ?_ rfl ?_ hHeld ?_;rotate_left
    ·intro W_ hSw_;clear hSw_
     go_simp<;>with_reducible rfl
    rotate_left
    try simp only[Act.put,zA,zB,zC]
    refine wpAnyH_ready (rs:=[0,6]) (by kernel_rfl) (by simp) ?_;refine (AllReadyH.cons (o:=u_n) rfl (fun K hK=>?_) (AllReadyH.cons (o:=w_d) rfl (fun K hK=>?_) AllReadyH.nil))
    ·skip
     obtain⟨Y1,hY1⟩:∃A,X0.alloc (.cells #[] 3)=A:=⟨_,rfl⟩;have zY1:Hid (Y1.heap.size=X0.heap.size+1):=by rw[←hY1];exact (show _=_ by simp)
     have bY1:Below X0.heap.size X0 Y1:=by rw[←hY1];exact (Below.refl _ _).alloc (Nat.le_refl _) _
     have oY1:S16.Own eI Y1 wr.heap.size (.slice (some ⟨X0.heap.size,0,none⟩) 0 0) []:=by rw[←hY1];exact x_H X0 _ B0.out.size
     have B1:Hid (Below wr.heap.size wr Y1):=z_a B0.out bY1
     go_simp
     clear hHeld;refine hK.out _ _ ⟨⟨_,B1.out⟩,rfl⟩ (fun hHeld=>?_);clear hK K
     try simp only[Act.put,zA,zB,zC]
     refine wpAnyH_ready (rs:=[4,6]) (by kernel_rfl) (by simp) ?_;refine (AllReadyH.cons (o:=w_e) rfl (fun K hK=>?_) (AllReadyH.cons (o:=w_d) rfl (fun K hK=>?_) AllReadyH.nil))
     ·skip
      obtain⟨v2,Y2,ap2,oY2,gY2⟩:=oY1.app kI (x_Y (H.out.1.below B1.out) hkc kI) (by have:=H.out.2.1;simp;omega) B1.out.size 50;have ap2:(S16.apS 50 50 #[.slice (some ⟨X0.heap.size,0,none⟩) 0 0,.slice (some ⟨b,o,none⟩) k c]).run prog Y1=.ok v2 Y2:=ap2;have bY2:Below wr.heap.size Y1 Y2:=z_h gY2 B1.out.size (fun j e=>(oY1.blk j e).1);have B2:Hid (Below wr.heap.size wr Y2):=B1.out.trans bY2
      go_simp
      clear hHeld;refine hK.out _ _ ⟨⟨_,B2.out⟩,rfl⟩ (fun hHeld=>?_);clear hK K
      try simp only[Act.put,zA,zB,zC]
      refine wpAnyH_ready (rs:=[6]) (by kernel_rfl) (by simp) ?_;refine AllReadyH.cons (o:=w_d) rfl (fun K hK=>?_) AllReadyH.nil;obtain⟨Y3,hY3⟩:∃A,Y2.alloc (.cells #[.int .i64 i] 3)=A:=⟨_,rfl⟩;have zY3:Hid (Y3.heap.size=Y2.heap.size+1):=by rw[←hY3];exact (show _=_ by simp)
      have bY3:Below Y2.heap.size Y2 Y3:=by rw[←hY3];exact (Below.refl _ _).alloc (Nat.le_refl _) _
      have pY3:S16.SlAt eI Y3 (some ⟨Y2.heap.size,0,none⟩) 1 1 [i]:=by rw[←hY3];exact S16.one_new Y2 i kI
      have oY3:=oY2.below bY3;have B3:Hid (Below wr.heap.size wr Y3):=z_a B2.out bY3
      go_simp
      clear hHeld;refine hK.out _ _ ⟨⟨_,B3.out⟩,rfl⟩ (fun hHeld=>?_);clear hK K
      try simp only[Act.put,zA,zB,zC]
      refine wpAnyH_ready (rs:=[7]) (by kernel_rfl) (by simp) ?_;refine AllReadyH.cons (o:=w_c) rfl (fun K hK=>?_) AllReadyH.nil;obtain⟨v4,Y4,ap4,oY4,gY4⟩:=oY3.app kI pY3 (by have:=H.out.2.1;simp;omega) B3.out.size 50;have ap4:(S16.apS 50 50 #[v2,.slice (some ⟨Y2.heap.size,0,none⟩) 1 1]).run prog Y3=.ok v4 Y4:=ap4;have bY4:Below wr.heap.size Y3 Y4:=z_h gY4 B3.out.size (fun j e=>(oY3.blk j e).1)
      have B4:Hid (Below wr.heap.size wr Y4):=B3.out.trans bY4
      go_simp
      clear hHeld;refine hK.out _ _ ⟨⟨_,B4.out⟩,rfl⟩ (fun hHeld=>?_);clear hK K
      try simp only[Act.put,zA,zB,zC]
      refine wpAnyH_ready (rs:=[11]) (by kernel_rfl) (by simp) ?_;refine AllReadyH.cons (o:=x_s) rfl (fun K hK=>?_) AllReadyH.nil;obtain⟨v5,Y5,ap5,oY5,gY5⟩:=oY4.app kI (x_Z (H.out.1.below B4.out) hkc kI) (by have:=H.out.2.1;simp;omega) B4.out.size 50;have ap5:(S16.apS 50 50 #[v4,.slice (adv (some ⟨b,o,none⟩) k c 1) (n-k) (c-k)]).run prog Y4=.ok v5 Y5:=ap5
      have bY5:Below wr.heap.size Y4 Y5:=z_h gY5 B4.out.size (fun j e=>(oY4.blk j e).1);have B5:Hid (Below wr.heap.size wr Y5):=B4.out.trans bY5
      go_simp
      clear hHeld;refine hK.out _ _ ⟨⟨_,B5.out⟩,rfl⟩ (fun hHeld=>?_);clear hK K;refine tk 12 ?_ rfl ?_ hHeld ?_;rotate_left
      ·intro W_ hSw_;clear hSw_
       go_simp<;>with_reducible rfl
      rotate_left
      try simp only[Act.put,zA,zB,zC]
      refine wpAnyH_done (by kernel_rfl) ?_ _;refine NoPanic.normal ?_;clear hHeld;obtain⟨a9,c9,e9,s9,_⟩:=oY5.form;obtain⟨n9,hn9⟩:∃z,(([]++l.take k)++[i]++l.drop k).length=z:=⟨_,rfl⟩;rw[hn9] at e9 s9;clear hn9;have F:Hid (S16.SlAt eI Y5 a9 n9 c9 (noteL l i)):=by rw[E.out];exact s9
      subst e9;clear s9;go_wp2
      go_ret;exact⟨_,_,_,rfl,F.out,B5.out⟩
     ·skip
      obtain⟨Y6,hY6⟩:∃A,Y1.alloc (.cells #[.int .i64 i] 3)=A:=⟨_,rfl⟩;have zY6:Hid (Y6.heap.size=Y1.heap.size+1):=by rw[←hY6];exact (show _=_ by simp)
      have bY6:Below Y1.heap.size Y1 Y6:=by rw[←hY6];exact (Below.refl _ _).alloc (Nat.le_refl _) _
      have pY6:S16.SlAt eI Y6 (some ⟨Y1.heap.size,0,none⟩) 1 1 [i]:=by rw[←hY6];exact S16.one_new Y1 i kI
      have oY6:=oY1.below bY6;have B6:Hid (Below wr.heap.size wr Y6):=z_a B1.out bY6
      go_simp
      clear hHeld;refine hK.out _ _ ⟨⟨_,B6.out⟩,rfl⟩ (fun hHeld=>?_);clear hK K
      try simp only[Act.put,zA,zB,zC]
      refine wpAnyH_ready (rs:=[4]) (by kernel_rfl) (by simp) ?_;refine AllReadyH.cons (o:=w_e) rfl (fun K hK=>?_) AllReadyH.nil;obtain⟨v7,Y7,ap7,oY7,gY7⟩:=oY6.app kI (x_Y (H.out.1.below B6.out) hkc kI) (by have:=H.out.2.1;simp;omega) B6.out.size 50;have ap7:(S16.apS 50 50 #[.slice (some ⟨X0.heap.size,0,none⟩) 0 0,.slice (some ⟨b,o,none⟩) k c]).run prog Y6=.ok v7 Y7:=ap7
      have bY7:Below wr.heap.size Y6 Y7:=z_h gY7 B6.out.size (fun j e=>(oY6.blk j e).1);have pY7:S16.SlAt eI Y7 _ 1 1 [i]:=pY6.keptBut gY7 (fun x hx _ e=>by cases hx;simp[Value.ownBlock] at e;have:=zY1.out;have:=zY6.out;omega);have B7:Hid (Below wr.heap.size wr Y7):=B6.out.trans bY7
      go_simp
      clear hHeld;refine hK.out _ _ ⟨⟨_,B7.out⟩,rfl⟩ (fun hHeld=>?_);clear hK K
      try simp only[Act.put,zA,zB,zC]
      refine wpAnyH_ready (rs:=[7]) (by kernel_rfl) (by simp) ?_;refine AllReadyH.cons (o:=w_c) rfl (fun K hK=>?_) AllReadyH.nil;obtain⟨v8,Y8,ap8,oY8,gY8⟩:=oY7.app kI pY7 (by have:=H.out.2.1;simp;omega) B7.out.size 50;have ap8:(S16.apS 50 50 #[v7,.slice (some ⟨Y1.heap.size,0,none⟩) 1 1]).run prog Y7=.ok v8 Y8:=ap8;have bY8:Below wr.heap.size Y7 Y8:=z_h gY8 B7.out.size (fun j e=>(oY7.blk j e).1)
      have B8:Hid (Below wr.heap.size wr Y8):=B7.out.trans bY8
      go_simp
      clear hHeld;refine hK.out _ _ ⟨⟨_,B8.out⟩,rfl⟩ (fun hHeld=>?_);clear hK K
      try simp only[Act.put,zA,zB,zC]
      refine wpAnyH_ready (rs:=[11]) (by kernel_rfl) (by simp) ?_;refine AllReadyH.cons (o:=x_s) rfl (fun K hK=>?_) AllReadyH.nil;obtain⟨v9,Y9,ap9,oY9,gY9⟩:=oY8.app kI (x_Z (H.out.1.below B8.out) hkc kI) (by have:=H.out.2.1;simp;omega) B8.out.size 50;have ap9:(S16.apS 50 50 #[v8,.slice (adv (some ⟨b,o,none⟩) k c 1) (n-k) (c-k)]).run prog Y8=.ok v9 Y9:=ap9
      have bY9:Below wr.heap.size Y8 Y9:=z_h gY9 B8.out.size (fun j e=>(oY8.blk j e).1);have B9:Hid (Below wr.heap.size wr Y9):=B8.out.trans bY9
      go_simp
      clear hHeld;refine hK.out _ _ ⟨⟨_,B9.out⟩,rfl⟩ (fun hHeld=>?_);clear hK K;refine tk 12 ?_ rfl ?_ hHeld ?_;rotate_left
      ·intro W_ hSw_;clear hSw_
       go_simp<;>with_reducible rfl
      rotate_left
      try simp only[Act.put,zA,zB,zC]
      refine wpAnyH_done (by kernel_rfl) ?_ _;refine NoPanic.normal ?_;clear hHeld;obtain⟨a9,c9,e9,s9,_⟩:=oY9.form;obtain⟨n9,hn9⟩:∃z,(([]++l.take k)++[i]++l.drop k).length=z:=⟨_,rfl⟩;rw[hn9] at e9 s9;clear hn9;have F:Hid (S16.SlAt eI Y9 a9 n9 c9 (noteL l i)):=by rw[E.out];exact s9
      subst e9;clear s9;go_wp2
      go_ret;exact⟨_,_,_,rfl,F.out,B9.out⟩
    ·skip
     obtain⟨Y10,hY10⟩:∃A,X0.alloc (.cells #[.int .i64 i] 3)=A:=⟨_,rfl⟩;have zY10:Hid (Y10.heap.size=X0.heap.size+1):=by rw[←hY10];exact (show _=_ by simp)
     have bY10:Below X0.heap.size X0 Y10:=by rw[←hY10];exact (Below.refl _ _).alloc (Nat.le_refl _) _
     have pY10:S16.SlAt eI Y10 (some ⟨X0.heap.size,0,none⟩) 1 1 [i]:=by rw[←hY10];exact S16.one_new X0 i kI
     have B10:Hid (Below wr.heap.size wr Y10):=z_a B0.out bY10
     go_simp
     clear hHeld;refine hK.out _ _ ⟨⟨_,B10.out⟩,rfl⟩ (fun hHeld=>?_);clear hK K
     try simp only[Act.put,zA,zB,zC]
     refine wpAnyH_ready (rs:=[0]) (by kernel_rfl) (by simp) ?_;refine AllReadyH.cons (o:=u_n) rfl (fun K hK=>?_) AllReadyH.nil;obtain⟨Y11,hY11⟩:∃A,Y10.alloc (.cells #[] 3)=A:=⟨_,rfl⟩;have zY11:Hid (Y11.heap.size=Y10.heap.size+1):=by rw[←hY11];exact (show _=_ by simp)
     have bY11:Below Y10.heap.size Y10 Y11:=by rw[←hY11];exact (Below.refl _ _).alloc (Nat.le_refl _) _
     have oY11:S16.Own eI Y11 wr.heap.size (.slice (some ⟨Y10.heap.size,0,none⟩) 0 0) []:=by rw[←hY11];exact x_H Y10 _ B10.out.size
     have pY11:=pY10.below bY11;have B11:Hid (Below wr.heap.size wr Y11):=z_a B10.out bY11
     go_simp
     clear hHeld;refine hK.out _ _ ⟨⟨_,B11.out⟩,rfl⟩ (fun hHeld=>?_);clear hK K
     try simp only[Act.put,zA,zB,zC]
     refine wpAnyH_ready (rs:=[4]) (by kernel_rfl) (by simp) ?_;refine AllReadyH.cons (o:=w_e) rfl (fun K hK=>?_) AllReadyH.nil;obtain⟨v12,Y12,ap12,oY12,gY12⟩:=oY11.app kI (x_Y (H.out.1.below B11.out) hkc kI) (by have:=H.out.2.1;simp;omega) B11.out.size 50;have ap12:(S16.apS 50 50 #[.slice (some ⟨Y10.heap.size,0,none⟩) 0 0,.slice (some ⟨b,o,none⟩) k c]).run prog Y11=.ok v12 Y12:=ap12
     have bY12:Below wr.heap.size Y11 Y12:=z_h gY12 B11.out.size (fun j e=>(oY11.blk j e).1);have pY12:S16.SlAt eI Y12 _ 1 1 [i]:=pY11.keptBut gY12 (fun x hx _ e=>by cases hx;simp[Value.ownBlock] at e;have:=zY10.out;have:=zY11.out;omega);have B12:Hid (Below wr.heap.size wr Y12):=B11.out.trans bY12
     go_simp
     clear hHeld;refine hK.out _ _ ⟨⟨_,B12.out⟩,rfl⟩ (fun hHeld=>?_);clear hK K
     try simp only[Act.put,zA,zB,zC]
     refine wpAnyH_ready (rs:=[7]) (by kernel_rfl) (by simp) ?_;refine AllReadyH.cons (o:=w_c) rfl (fun K hK=>?_) AllReadyH.nil;obtain⟨v13,Y13,ap13,oY13,gY13⟩:=oY12.app kI pY12 (by have:=H.out.2.1;simp;omega) B12.out.size 50;have ap13:(S16.apS 50 50 #[v12,.slice (some ⟨X0.heap.size,0,none⟩) 1 1]).run prog Y12=.ok v13 Y13:=ap13
     have bY13:Below wr.heap.size Y12 Y13:=z_h gY13 B12.out.size (fun j e=>(oY12.blk j e).1);have B13:Hid (Below wr.heap.size wr Y13):=B12.out.trans bY13
     go_simp
     clear hHeld;refine hK.out _ _ ⟨⟨_,B13.out⟩,rfl⟩ (fun hHeld=>?_);clear hK K
     try simp only[Act.put,zA,zB,zC]
     refine wpAnyH_ready (rs:=[11]) (by kernel_rfl) (by simp) ?_;refine AllReadyH.cons (o:=x_s) rfl (fun K hK=>?_) AllReadyH.nil;obtain⟨v14,Y14,ap14,oY14,gY14⟩:=oY13.app kI (x_Z (H.out.1.below B13.out) hkc kI) (by have:=H.out.2.1;simp;omega) B13.out.size 50;have ap14:(S16.apS 50 50 #[v13,.slice (adv (some ⟨b,o,none⟩) k c 1) (n-k) (c-k)]).run prog Y13=.ok v14 Y14:=ap14
     have bY14:Below wr.heap.size Y13 Y14:=z_h gY14 B13.out.size (fun j e=>(oY13.blk j e).1);have B14:Hid (Below wr.heap.size wr Y14):=B13.out.trans bY14
     go_simp
     clear hHeld;refine hK.out _ _ ⟨⟨_,B14.out⟩,rfl⟩ (fun hHeld=>?_);clear hK K;refine tk 12 ?_ rfl ?_ hHeld ?_;rotate_left
     ·intro W_ hSw_;clear hSw_
      go_simp<;>with_reducible rfl
     rotate_left
     try simp only[Act.put,zA,zB,zC]
     refine wpAnyH_done (by kernel_rfl) ?_ _;refine NoPanic.normal ?_;clear hHeld;obtain⟨a9,c9,e9,s9,_⟩:=oY14.form;obtain⟨n9,hn9⟩:∃z,(([]++l.take k)++[i]++l.drop k).length=z:=⟨_,rfl⟩;rw[hn9] at e9 s9;clear hn9;have F:Hid (S16.SlAt eI Y14 a9 n9 c9 (noteL l i)):=by rw[E.out];exact s9
     subst e9;clear s9;go_wp2
     go_ret;exact⟨_,_,_,rfl,F.out,B14.out⟩
end S17
end
end Go.Proofs.YtlchejbggnbccaaGreat
