/-
  The rules of a designated port: the walk of whileDesignated. And what follows from it here.
-/
import Derived.Test.YtlchejbggnbccaaGreatPbb
import Derived.Test.YtlchejbggnbccaaGreatP13b
namespace Go.Proofs.YtlchejbggnbccaaGreat
set_option linter.unusedVariables false
set_option linter.unusedSimpArgs false
set_option maxRecDepth 4000
set_option maxHeartbeats 40000000
open _root_.Go.Proofs.Tryz
section
namespace S13
open Go.RowKit
def mustB (p:Pt):Bool:=(p.bt 24 && !p.bt 25) || (p.bt 20 && (p.nm 70 != 0)) || p.bt 5
def dsgR (p:Pt):List (Bool×Nat):=[((!p.bt 7 && !p.bt 4) && !p.bt 13,272),((stopB p && !p.bt 25) || (p.bt 4 && !p.bt 25) || (p.bt 24 && p.bt 25),273),((p.nm 70==0) && p.bt 20,267),(mustB p && (p.bt 9 || p.bt 7),274),(mayP p && !p.bt 9,268),((mayP p && p.bt 9) && !p.bt 7,275)]
attribute [local go_sem ↓] ldT bsRE
theorem z_cz {W:World} {b g o n c k:Nat} {h:Hd} {l:List Pt} (s:CS W b h g o n c k l) :
  Calls prog 244 #[.pointer (some ⟨b,0,none⟩)] W fun r W'=>∃v,r=.returned v∧OwnR W' W.heap.size v b (dsgR (gtP l k))∧Below W.heap.size W W':=by
 have H:Hid (CS W b h g o n c k l):=s;obtain⟨p,hp⟩:∃p,gtP l k=p:=⟨_,rfl⟩;rw[hp];have R0:∀V,Below W.heap.size W V→Prd (fun w'=>∃x:Later V,w'=x.val) g (o+k*77) p:=fun V hV=>by rw[←hp];exact (H.out.below hV).rd
 obtain⟨q,hq⟩:∃q,o+k*77=q:=⟨_,rfl⟩;rw[hq] at R0;have HP:Hid (gtP l k=p):=hp;clear s hp;go_enter func244,ntmps244
 go_wp2_with fail
 refine (z_v H.out).mono ?_;rintro _ V ⟨rfl,b1⟩;rw[hq];have B:Hid (Below W.heap.size W V):=b1;clear b1 hq;have R:=R0 V B.out;go_upto_region 2 with fail
 refine wp_plain (C:=fun w'=>∃x:Later V,w'=x.val) ⟨⟨_,Below.refl _ _⟩,rfl⟩ ?_;refine z_b (v:=.pointer (some ⟨g,q,none⟩)) (yq rfl (Rn.qt (qmove rfl rfl))) ?_
 try simp only[Act.put,zA,zB,zC]
 refine z_b (v:=.pointer (some ⟨g,q,none⟩)) (yq rfl (Rn.qt (qnil rfl rfl))) ?_
 try simp only[Act.put,zA,zB,zC]
 refine z_b (v:=.pointer (some ⟨g,q+10,none⟩)) (yq rfl (Rn.qt (qfield rfl rfl fp10))) ?_
 try simp only[Act.put,zA,zB,zC]
 refine z_b (v:=.bool (p.bt 10)) (yq rfl (Rn.qt (qload rfl rfl (R.bit rfl)))) ?_
 try simp only[Act.put,zA,zB,zC]
 refine z_b (v:=.bool (!(p.bt 10))) (yq rfl (Rn.qt (qnot rfl rfl))) ?_
 try simp only[Act.put,zA,zB,zC]
 refine z_b (v:=.bool (!(p.bt 10))) (yq rfl (Rn.qt (qmove rfl rfl))) ?_
 try simp only[Act.put,zA,zB,zC]
 refine z_b (v:=gd (!(p.bt 10)) true (.pointer (some ⟨g,q,none⟩))) (yq1 rfl rfl (fun e=>Rn.qt (qmove rfl rfl))) ?_
 try simp only[Act.put,zA,zB,zC]
 refine z_b (v:=gd (!(p.bt 10)) true (.pointer (some ⟨g,q,none⟩))) (yq1 rfl rfl (fun e=>Rn.qt (qnil rfl (on e rfl)))) ?_
 try simp only[Act.put,zA,zB,zC]
 refine z_b (v:=gd (!(p.bt 10)) true (.pointer (some ⟨g,q+8,none⟩))) (yq1 rfl rfl (fun e=>Rn.qt (qfield rfl (on e rfl) fp8))) ?_
 try simp only[Act.put,zA,zB,zC]
 refine z_b (v:=gd (!(p.bt 10)) true (.bool (p.bt 8))) (yq1 rfl rfl (fun e=>Rn.qt (qload rfl (on e rfl) (R.bit rfl)))) ?_
 try simp only[Act.put,zA,zB,zC]
 refine z_b (v:=gd (!(p.bt 10)) true (.bool (!(p.bt 8)))) (yq1 rfl rfl (fun e=>Rn.qt (qnot rfl (on e rfl)))) ?_
 try simp only[Act.put,zA,zB,zC]
 refine z_b (v:=.bool ((!(p.bt 10)) && (!(p.bt 8)))) (yq rfl (Rn.qt (qpick rfl rfl (pkA rfl rfl)))) ?_
 try simp only[Act.put,zA,zB,zC]
 refine z_b (v:=.bool ((!(p.bt 10)) && (!(p.bt 8)))) (yq rfl (Rn.qt (qassign rfl rfl))) ?_
 try simp only[Act.put,zA,zB,zC]
 refine wpQuiet_nil ?_;rintro _ ⟨y,rfl⟩;obtain⟨U,hU⟩:∃U,y.val=U:=⟨_,rfl⟩;have bU:Below V.heap.size V U:=by rw[←hU];exact y.below
 rw[hU];have B2:Hid (Below W.heap.size W U):=z_a B.out bU;clear R hU bU y;have R:=R0 U B2.out;obtain⟨ST,hST⟩:∃z,(!p.bt 10 && !p.bt 8)=z:=⟨_,rfl⟩;rw[hST];have EST:Hid (stopB p=ST):=hST;clear hST;go_upto_region 3 with fail
 refine wp_plain (C:=fun w'=>∃x:Later U,w'=x.val) ⟨⟨_,Below.refl _ _⟩,rfl⟩ ?_;refine z_b (v:=.pointer (some ⟨g,q,none⟩)) (yq rfl (Rn.qt (qmove rfl rfl))) ?_
 try simp only[Act.put,zA,zB,zC]
 refine z_b (v:=.pointer (some ⟨g,q,none⟩)) (yq rfl (Rn.qt (qnil rfl rfl))) ?_
 try simp only[Act.put,zA,zB,zC]
 refine z_b (v:=.pointer (some ⟨g,q+24,none⟩)) (yq rfl (Rn.qt (qfield rfl rfl fp24))) ?_
 try simp only[Act.put,zA,zB,zC]
 refine z_b (v:=.bool (p.bt 24)) (yq rfl (Rn.qt (qload rfl rfl (R.bit rfl)))) ?_
 try simp only[Act.put,zA,zB,zC]
 refine z_b (v:=.bool (p.bt 24)) (yq rfl (Rn.qt (qmove rfl rfl))) ?_
 try simp only[Act.put,zA,zB,zC]
 refine z_b (v:=gd (p.bt 24) true (.pointer (some ⟨g,q,none⟩))) (yq1 rfl rfl (fun e=>Rn.qt (qmove rfl rfl))) ?_
 try simp only[Act.put,zA,zB,zC]
 refine z_b (v:=gd (p.bt 24) true (.pointer (some ⟨g,q,none⟩))) (yq1 rfl rfl (fun e=>Rn.qt (qnil rfl (on e rfl)))) ?_
 try simp only[Act.put,zA,zB,zC]
 refine z_b (v:=gd (p.bt 24) true (.pointer (some ⟨g,q+25,none⟩))) (yq1 rfl rfl (fun e=>Rn.qt (qfield rfl (on e rfl) fp25))) ?_
 try simp only[Act.put,zA,zB,zC]
 refine z_b (v:=gd (p.bt 24) true (.bool (p.bt 25))) (yq1 rfl rfl (fun e=>Rn.qt (qload rfl (on e rfl) (R.bit rfl)))) ?_
 try simp only[Act.put,zA,zB,zC]
 refine z_b (v:=gd (p.bt 24) true (.bool (!(p.bt 25)))) (yq1 rfl rfl (fun e=>Rn.qt (qnot rfl (on e rfl)))) ?_
 try simp only[Act.put,zA,zB,zC]
 refine z_b (v:=.bool ((p.bt 24) && (!(p.bt 25)))) (yq rfl (Rn.qt (qpick rfl rfl (pkA rfl rfl)))) ?_
 try simp only[Act.put,zA,zB,zC]
 refine z_b (v:=.bool ((p.bt 24) && (!(p.bt 25)))) (yq rfl (Rn.qt (qmove rfl rfl))) ?_
 try simp only[Act.put,zA,zB,zC]
 refine z_b (v:=gd ((p.bt 24) && (!(p.bt 25))) false (.pointer (some ⟨g,q,none⟩))) (yq1 rfl rfl (fun e=>Rn.qt (qmove rfl rfl))) ?_
 try simp only[Act.put,zA,zB,zC]
 refine z_b (v:=gd ((p.bt 24) && (!(p.bt 25))) false (.pointer (some ⟨g,q,none⟩))) (yq1 rfl rfl (fun e=>Rn.qt (qnil rfl (on e rfl)))) ?_
 try simp only[Act.put,zA,zB,zC]
 refine z_b (v:=gd ((p.bt 24) && (!(p.bt 25))) false (.pointer (some ⟨g,q+20,none⟩))) (yq1 rfl rfl (fun e=>Rn.qt (qfield rfl (on e rfl) fp20))) ?_
 try simp only[Act.put,zA,zB,zC]
 refine z_b (v:=gd ((p.bt 24) && (!(p.bt 25))) false (.bool (p.bt 20))) (yq1 rfl rfl (fun e=>Rn.qt (qload rfl (on e rfl) (R.bit rfl)))) ?_
 try simp only[Act.put,zA,zB,zC]
 refine z_b (v:=gd ((p.bt 24) && (!(p.bt 25))) false (.bool (p.bt 20))) (yq1 rfl rfl (fun e=>Rn.qt (qmove rfl (on e rfl)))) ?_
 try simp only[Act.put,zA,zB,zC]
 refine z_b (v:=gd ((p.bt 24) && (!(p.bt 25))) false (gd (p.bt 20) true (.pointer (some ⟨g,q,none⟩)))) (yq2 rfl rfl (fun e1 e2=>Rn.qt (qmove rfl rfl))) ?_
 try simp only[Act.put,zA,zB,zC]
 refine z_b (v:=gd ((p.bt 24) && (!(p.bt 25))) false (gd (p.bt 20) true (.pointer (some ⟨g,q,none⟩)))) (yq2 rfl rfl (fun e1 e2=>Rn.qt (qnil rfl (on e2 (on e1 rfl))))) ?_
 try simp only[Act.put,zA,zB,zC]
 refine z_b (v:=gd ((p.bt 24) && (!(p.bt 25))) false (gd (p.bt 20) true (.pointer (some ⟨g,q+70,none⟩)))) (yq2 rfl rfl (fun e1 e2=>Rn.qt (qfield rfl (on e2 (on e1 rfl)) fp43))) ?_
 try simp only[Act.put,zA,zB,zC]
 refine z_b (v:=gd ((p.bt 24) && (!(p.bt 25))) false (gd (p.bt 20) true (.int .u8 (p.nm 70)))) (yq2 rfl rfl (fun e1 e2=>Rn.qt (qload rfl (on e2 (on e1 rfl)) (R.u8 rfl)))) ?_
 try simp only[Act.put,zA,zB,zC]
 refine z_b (v:=gd ((p.bt 24) && (!(p.bt 25))) false (gd (p.bt 20) true (.bool ((p.nm 70) != 0)))) (yq2 rfl rfl (fun e1 e2=>Rn.qt (qbin rfl (on e2 (on e1 rfl)) rfl (x_a _ _ _ _ _) (u_t _ _)))) ?_
 try simp only[Act.put,zA,zB,zC]
 refine z_b (v:=gd ((p.bt 24) && (!(p.bt 25))) false (.bool ((p.bt 20) && ((p.nm 70) != 0)))) (yq1 rfl rfl (fun e=>Rn.qt (qpick rfl (on e rfl) (pkA (on e rfl) rfl)))) ?_
 try simp only[Act.put,zA,zB,zC]
 refine z_b (v:=.bool (((p.bt 24) && (!(p.bt 25))) || ((p.bt 20) && ((p.nm 70) != 0)))) (yq rfl (Rn.qt (qpick rfl rfl (pkO rfl rfl)))) ?_
 try simp only[Act.put,zA,zB,zC]
 refine z_b (v:=.bool (((p.bt 24) && (!(p.bt 25))) || ((p.bt 20) && ((p.nm 70) != 0)))) (yq rfl (Rn.qt (qmove rfl rfl))) ?_
 try simp only[Act.put,zA,zB,zC]
 refine z_b (v:=gd (((p.bt 24) && (!(p.bt 25))) || ((p.bt 20) && ((p.nm 70) != 0))) false (.pointer (some ⟨g,q,none⟩))) (yq1 rfl rfl (fun e=>Rn.qt (qmove rfl rfl))) ?_
 try simp only[Act.put,zA,zB,zC]
 refine z_b (v:=gd (((p.bt 24) && (!(p.bt 25))) || ((p.bt 20) && ((p.nm 70) != 0))) false (.pointer (some ⟨g,q,none⟩))) (yq1 rfl rfl (fun e=>Rn.qt (qnil rfl (on e rfl)))) ?_
 try simp only[Act.put,zA,zB,zC]
 refine z_b (v:=gd (((p.bt 24) && (!(p.bt 25))) || ((p.bt 20) && ((p.nm 70) != 0))) false (.pointer (some ⟨g,q+5,none⟩))) (yq1 rfl rfl (fun e=>Rn.qt (qfield rfl (on e rfl) fp5))) ?_
 try simp only[Act.put,zA,zB,zC]
 refine z_b (v:=gd (((p.bt 24) && (!(p.bt 25))) || ((p.bt 20) && ((p.nm 70) != 0))) false (.bool (p.bt 5))) (yq1 rfl rfl (fun e=>Rn.qt (qload rfl (on e rfl) (R.bit rfl)))) ?_
 try simp only[Act.put,zA,zB,zC]
 refine z_b (v:=.bool ((((p.bt 24) && (!(p.bt 25))) || ((p.bt 20) && ((p.nm 70) != 0))) || (p.bt 5))) (yq rfl (Rn.qt (qpick rfl rfl (pkO rfl rfl)))) ?_
 try simp only[Act.put,zA,zB,zC]
 refine z_b (v:=.bool ((((p.bt 24) && (!(p.bt 25))) || ((p.bt 20) && ((p.nm 70) != 0))) || (p.bt 5))) (yq rfl (Rn.qt (qassign rfl rfl))) ?_
 try simp only[Act.put,zA,zB,zC]
 refine wpQuiet_nil ?_;rintro _ ⟨y,rfl⟩;obtain⟨U3,hU⟩:∃U,y.val=U:=⟨_,rfl⟩;have bU:Below U.heap.size U U3:=by rw[←hU];exact y.below
 rw[hU];have B3:Hid (Below W.heap.size W U3):=z_a B2.out bU;clear R hU bU y;obtain⟨MU,hMU⟩:∃z,mustB p=z:=⟨_,rfl⟩;have EMU:Hid (mustB p=MU):=hMU;unfold mustB at hMU;rw[hMU];clear hMU
 go_wp2_with fail
 refine (z_jN (H.out.below B3.out)).mono ?_;rw[HP.out];rintro _ U4 ⟨rfl,b4⟩;have B4:Hid (Below W.heap.size W U4):=z_a B3.out b4;clear b4;obtain⟨GO,hGO⟩:∃z,mayP p=z:=⟨_,rfl⟩;have EGO:Hid (mayP p=GO):=hGO;rw[hGO];clear hGO;have RR:∀w0,Below U4.heap.size U4 w0→Prd (LC w0) g q p:=fun w0 h0=>R0 w0 (z_a B4.out h0);clear R0;go_upto_region 5 with fail
 refine wp_vals 116 53 170 118 0 (fun _ _=>True) (by kernel_rfl) (by kernel_rfl) (E0:=[(0,.pointer (some ⟨b,0,none⟩)),(3,.pointer (some ⟨g,q,none⟩)),(4,.bool ST),(5,.bool MU),(6,.bool GO)]) (by kernel_rfl) (fun hh=>absurd hh (by decide)) (fun _ _ _ h _=>h) (Has.cons rfl (Has.cons rfl (Has.cons rfl (Has.cons rfl (Has.cons rfl (Has.nil rfl rfl)))))) ?_
 simp only[List.append_eq,List.cons_append,List.nil_append,List.take_succ_cons,List.take_zero,List.drop_succ_cons,List.drop_zero];refine z_f (v:=.pointer (some ⟨g,q,none⟩)) rfl (by decide) rfl (fun w0 h0 a A=>yq rfl (Rn.qt (qmove rfl (A.ev rfl)))) ?_;refine z_f (v:=.pointer (some ⟨g,q,none⟩)) rfl (by decide) rfl (fun w0 h0 a A=>yq rfl (Rn.qt (qnil rfl (A.ev rfl)))) ?_
 refine z_f (v:=.pointer (some ⟨g,q+7,none⟩)) rfl (by decide) rfl (fun w0 h0 a A=>yq rfl (Rn.qt (qfield rfl (A.ev rfl) fp7))) ?_;refine z_f (v:=.bool (p.bt 7)) rfl (by decide) rfl (fun w0 h0 a A=>yq rfl (Rn.qt (qload rfl (A.ev rfl) ((RR w0 h0).bit rfl)))) ?_;refine z_f (v:=.bool (!(p.bt 7))) rfl (by decide) rfl (fun w0 h0 a A=>yq rfl (Rn.qt (qnot rfl (A.ev rfl)))) ?_
 refine z_f (v:=.bool (!(p.bt 7))) rfl (by decide) rfl (fun w0 h0 a A=>yq rfl (Rn.qt (qmove rfl (A.ev rfl)))) ?_;refine z_f (v:=gd (!(p.bt 7)) true (.pointer (some ⟨g,q,none⟩))) rfl (by decide) rfl (fun w0 h0 a A=>yq1 rfl (A.gt rfl rfl) (fun e=>Rn.qt (qmove rfl (A.ev rfl)))) ?_
 refine z_f (v:=gd (!(p.bt 7)) true (.pointer (some ⟨g,q,none⟩))) rfl (by decide) rfl (fun w0 h0 a A=>yq1 rfl (A.gt rfl rfl) (fun e=>Rn.qt (qnil rfl (on e (A.ev rfl))))) ?_;refine z_f (v:=gd (!(p.bt 7)) true (.pointer (some ⟨g,q+4,none⟩))) rfl (by decide) rfl (fun w0 h0 a A=>yq1 rfl (A.gt rfl rfl) (fun e=>Rn.qt (qfield rfl (on e (A.ev rfl)) fp4))) ?_
 refine z_f (v:=gd (!(p.bt 7)) true (.bool (p.bt 4))) rfl (by decide) rfl (fun w0 h0 a A=>yq1 rfl (A.gt rfl rfl) (fun e=>Rn.qt (qload rfl (on e (A.ev rfl)) ((RR w0 h0).bit rfl)))) ?_;refine z_f (v:=gd (!(p.bt 7)) true (.bool (!(p.bt 4)))) rfl (by decide) rfl (fun w0 h0 a A=>yq1 rfl (A.gt rfl rfl) (fun e=>Rn.qt (qnot rfl (on e (A.ev rfl))))) ?_
 refine z_f (v:=.bool ((!(p.bt 7)) && (!(p.bt 4)))) rfl (by decide) rfl (fun w0 h0 a A=>yq rfl (Rn.qt (qpick rfl (A.ev rfl) (pkA (A.ev rfl) rfl)))) ?_;refine z_f (v:=.bool ((!(p.bt 7)) && (!(p.bt 4)))) rfl (by decide) rfl (fun w0 h0 a A=>yq rfl (Rn.qt (qmove rfl (A.ev rfl)))) ?_
 refine z_f (v:=gd ((!(p.bt 7)) && (!(p.bt 4))) true (.pointer (some ⟨g,q,none⟩))) rfl (by decide) rfl (fun w0 h0 a A=>yq1 rfl (A.gt rfl rfl) (fun e=>Rn.qt (qmove rfl (A.ev rfl)))) ?_;refine z_f (v:=gd ((!(p.bt 7)) && (!(p.bt 4))) true (.pointer (some ⟨g,q,none⟩))) rfl (by decide) rfl (fun w0 h0 a A=>yq1 rfl (A.gt rfl rfl) (fun e=>Rn.qt (qnil rfl (on e (A.ev rfl))))) ?_
 refine z_f (v:=gd ((!(p.bt 7)) && (!(p.bt 4))) true (.pointer (some ⟨g,q+13,none⟩))) rfl (by decide) rfl (fun w0 h0 a A=>yq1 rfl (A.gt rfl rfl) (fun e=>Rn.qt (qfield rfl (on e (A.ev rfl)) fp13))) ?_;refine z_f (v:=gd ((!(p.bt 7)) && (!(p.bt 4))) true (.bool (p.bt 13))) rfl (by decide) rfl (fun w0 h0 a A=>yq1 rfl (A.gt rfl rfl) (fun e=>Rn.qt (qload rfl (on e (A.ev rfl)) ((RR w0 h0).bit rfl)))) ?_
 refine z_f (v:=gd ((!(p.bt 7)) && (!(p.bt 4))) true (.bool (!(p.bt 13)))) rfl (by decide) rfl (fun w0 h0 a A=>yq1 rfl (A.gt rfl rfl) (fun e=>Rn.qt (qnot rfl (on e (A.ev rfl))))) ?_;refine z_f (v:=.bool (((!(p.bt 7)) && (!(p.bt 4))) && (!(p.bt 13)))) rfl (by decide) rfl (fun w0 h0 a A=>yq rfl (Rn.qt (qpick rfl (A.ev rfl) (pkA (A.ev rfl) rfl)))) ?_
 refine z_f (v:=.pointer (some ⟨b,0,none⟩)) rfl (by decide) rfl (fun w0 h0 a A=>yq rfl (Rn.qt (qmove rfl (A.ev rfl)))) ?_;refine z_f (v:=.func (.func 272) #[.pointer (some ⟨b,0,none⟩)] #[]) rfl (by decide) rfl (fun w0 h0 a A=>yq rfl (Rn.qt (qfn rfl (A.ev rfl)))) ?_
 refine z_f (v:=.agg #[.bool (((!(p.bt 7)) && (!(p.bt 4))) && (!(p.bt 13))),.func (.func 272) #[.pointer (some ⟨b,0,none⟩)] #[]]) rfl (by decide) rfl (fun w0 h0 a A=>yq rfl (Rn.qt (qrule rfl (A.ev rfl) (A.ev rfl)))) ?_;refine z_f (v:=.bool ST) rfl (by decide) rfl (fun w0 h0 a A=>yq rfl (Rn.qt (qmove rfl (A.ev rfl)))) ?_
 refine z_f (v:=.bool ST) rfl (by decide) rfl (fun w0 h0 a A=>yq rfl (Rn.qt (qmove rfl (A.ev rfl)))) ?_;refine z_f (v:=gd ST true (.pointer (some ⟨g,q,none⟩))) rfl (by decide) rfl (fun w0 h0 a A=>yq1 rfl (A.gt rfl rfl) (fun e=>Rn.qt (qmove rfl (A.ev rfl)))) ?_
 refine z_f (v:=gd ST true (.pointer (some ⟨g,q,none⟩))) rfl (by decide) rfl (fun w0 h0 a A=>yq1 rfl (A.gt rfl rfl) (fun e=>Rn.qt (qnil rfl (on e (A.ev rfl))))) ?_;refine z_f (v:=gd ST true (.pointer (some ⟨g,q+25,none⟩))) rfl (by decide) rfl (fun w0 h0 a A=>yq1 rfl (A.gt rfl rfl) (fun e=>Rn.qt (qfield rfl (on e (A.ev rfl)) fp25))) ?_
 refine z_f (v:=gd ST true (.bool (p.bt 25))) rfl (by decide) rfl (fun w0 h0 a A=>yq1 rfl (A.gt rfl rfl) (fun e=>Rn.qt (qload rfl (on e (A.ev rfl)) ((RR w0 h0).bit rfl)))) ?_;refine z_f (v:=gd ST true (.bool (!(p.bt 25)))) rfl (by decide) rfl (fun w0 h0 a A=>yq1 rfl (A.gt rfl rfl) (fun e=>Rn.qt (qnot rfl (on e (A.ev rfl))))) ?_
 refine z_f (v:=.bool (ST && (!(p.bt 25)))) rfl (by decide) rfl (fun w0 h0 a A=>yq rfl (Rn.qt (qpick rfl (A.ev rfl) (pkA (A.ev rfl) rfl)))) ?_;refine z_f (v:=.bool (ST && (!(p.bt 25)))) rfl (by decide) rfl (fun w0 h0 a A=>yq rfl (Rn.qt (qmove rfl (A.ev rfl)))) ?_
 refine z_f (v:=gd (ST && (!(p.bt 25))) false (.pointer (some ⟨g,q,none⟩))) rfl (by decide) rfl (fun w0 h0 a A=>yq1 rfl (A.gt rfl rfl) (fun e=>Rn.qt (qmove rfl (A.ev rfl)))) ?_;refine z_f (v:=gd (ST && (!(p.bt 25))) false (.pointer (some ⟨g,q,none⟩))) rfl (by decide) rfl (fun w0 h0 a A=>yq1 rfl (A.gt rfl rfl) (fun e=>Rn.qt (qnil rfl (on e (A.ev rfl))))) ?_
 refine z_f (v:=gd (ST && (!(p.bt 25))) false (.pointer (some ⟨g,q+4,none⟩))) rfl (by decide) rfl (fun w0 h0 a A=>yq1 rfl (A.gt rfl rfl) (fun e=>Rn.qt (qfield rfl (on e (A.ev rfl)) fp4))) ?_;refine z_f (v:=gd (ST && (!(p.bt 25))) false (.bool (p.bt 4))) rfl (by decide) rfl (fun w0 h0 a A=>yq1 rfl (A.gt rfl rfl) (fun e=>Rn.qt (qload rfl (on e (A.ev rfl)) ((RR w0 h0).bit rfl)))) ?_
 refine z_f (v:=gd (ST && (!(p.bt 25))) false (.bool (p.bt 4))) rfl (by decide) rfl (fun w0 h0 a A=>yq1 rfl (A.gt rfl rfl) (fun e=>Rn.qt (qmove rfl (on e (A.ev rfl))))) ?_;refine z_f (v:=gd (ST && (!(p.bt 25))) false (gd (p.bt 4) true (.pointer (some ⟨g,q,none⟩)))) rfl (by decide) rfl (fun w0 h0 a A=>yq2 rfl (A.gt rfl rfl) (fun e1 e2=>Rn.qt (qmove rfl (A.ev rfl)))) ?_
 refine z_f (v:=gd (ST && (!(p.bt 25))) false (gd (p.bt 4) true (.pointer (some ⟨g,q,none⟩)))) rfl (by decide) rfl (fun w0 h0 a A=>yq2 rfl (A.gt rfl rfl) (fun e1 e2=>Rn.qt (qnil rfl (on e2 (on e1 (A.ev rfl)))))) ?_
 refine z_f (v:=gd (ST && (!(p.bt 25))) false (gd (p.bt 4) true (.pointer (some ⟨g,q+25,none⟩)))) rfl (by decide) rfl (fun w0 h0 a A=>yq2 rfl (A.gt rfl rfl) (fun e1 e2=>Rn.qt (qfield rfl (on e2 (on e1 (A.ev rfl))) fp25))) ?_
 refine z_f (v:=gd (ST && (!(p.bt 25))) false (gd (p.bt 4) true (.bool (p.bt 25)))) rfl (by decide) rfl (fun w0 h0 a A=>yq2 rfl (A.gt rfl rfl) (fun e1 e2=>Rn.qt (qload rfl (on e2 (on e1 (A.ev rfl))) ((RR w0 h0).bit rfl)))) ?_
 refine z_f (v:=gd (ST && (!(p.bt 25))) false (gd (p.bt 4) true (.bool (!(p.bt 25))))) rfl (by decide) rfl (fun w0 h0 a A=>yq2 rfl (A.gt rfl rfl) (fun e1 e2=>Rn.qt (qnot rfl (on e2 (on e1 (A.ev rfl)))))) ?_
 refine z_f (v:=gd (ST && (!(p.bt 25))) false (.bool ((p.bt 4) && (!(p.bt 25))))) rfl (by decide) rfl (fun w0 h0 a A=>yq1 rfl (A.gt rfl rfl) (fun e=>Rn.qt (qpick rfl (on e (A.ev rfl)) (pkA (on e (A.ev rfl)) rfl)))) ?_;refine z_f (v:=.bool ((ST && (!(p.bt 25))) || ((p.bt 4) && (!(p.bt 25))))) rfl (by decide) rfl (fun w0 h0 a A=>yq rfl (Rn.qt (qpick rfl (A.ev rfl) (pkO rfl (A.ev rfl))))) ?_
 refine z_f (v:=.bool ((ST && (!(p.bt 25))) || ((p.bt 4) && (!(p.bt 25))))) rfl (by decide) rfl (fun w0 h0 a A=>yq rfl (Rn.qt (qmove rfl (A.ev rfl)))) ?_;refine z_f (v:=gd ((ST && (!(p.bt 25))) || ((p.bt 4) && (!(p.bt 25)))) false (.pointer (some ⟨g,q,none⟩))) rfl (by decide) rfl (fun w0 h0 a A=>yq1 rfl (A.gt rfl rfl) (fun e=>Rn.qt (qmove rfl (A.ev rfl)))) ?_
 refine z_f (v:=gd ((ST && (!(p.bt 25))) || ((p.bt 4) && (!(p.bt 25)))) false (.pointer (some ⟨g,q,none⟩))) rfl (by decide) rfl (fun w0 h0 a A=>yq1 rfl (A.gt rfl rfl) (fun e=>Rn.qt (qnil rfl (on e (A.ev rfl))))) ?_
 refine z_f (v:=gd ((ST && (!(p.bt 25))) || ((p.bt 4) && (!(p.bt 25)))) false (.pointer (some ⟨g,q+24,none⟩))) rfl (by decide) rfl (fun w0 h0 a A=>yq1 rfl (A.gt rfl rfl) (fun e=>Rn.qt (qfield rfl (on e (A.ev rfl)) fp24))) ?_
 refine z_f (v:=gd ((ST && (!(p.bt 25))) || ((p.bt 4) && (!(p.bt 25)))) false (.bool (p.bt 24))) rfl (by decide) rfl (fun w0 h0 a A=>yq1 rfl (A.gt rfl rfl) (fun e=>Rn.qt (qload rfl (on e (A.ev rfl)) ((RR w0 h0).bit rfl)))) ?_
 refine z_f (v:=gd ((ST && (!(p.bt 25))) || ((p.bt 4) && (!(p.bt 25)))) false (.bool (p.bt 24))) rfl (by decide) rfl (fun w0 h0 a A=>yq1 rfl (A.gt rfl rfl) (fun e=>Rn.qt (qmove rfl (on e (A.ev rfl))))) ?_
 refine z_f (v:=gd ((ST && (!(p.bt 25))) || ((p.bt 4) && (!(p.bt 25)))) false (gd (p.bt 24) true (.pointer (some ⟨g,q,none⟩)))) rfl (by decide) rfl (fun w0 h0 a A=>yq2 rfl (A.gt rfl rfl) (fun e1 e2=>Rn.qt (qmove rfl (A.ev rfl)))) ?_
 refine z_f (v:=gd ((ST && (!(p.bt 25))) || ((p.bt 4) && (!(p.bt 25)))) false (gd (p.bt 24) true (.pointer (some ⟨g,q,none⟩)))) rfl (by decide) rfl (fun w0 h0 a A=>yq2 rfl (A.gt rfl rfl) (fun e1 e2=>Rn.qt (qnil rfl (on e2 (on e1 (A.ev rfl)))))) ?_
 refine z_f (v:=gd ((ST && (!(p.bt 25))) || ((p.bt 4) && (!(p.bt 25)))) false (gd (p.bt 24) true (.pointer (some ⟨g,q+25,none⟩)))) rfl (by decide) rfl (fun w0 h0 a A=>yq2 rfl (A.gt rfl rfl) (fun e1 e2=>Rn.qt (qfield rfl (on e2 (on e1 (A.ev rfl))) fp25))) ?_
 refine z_f (v:=gd ((ST && (!(p.bt 25))) || ((p.bt 4) && (!(p.bt 25)))) false (gd (p.bt 24) true (.bool (p.bt 25)))) rfl (by decide) rfl (fun w0 h0 a A=>yq2 rfl (A.gt rfl rfl) (fun e1 e2=>Rn.qt (qload rfl (on e2 (on e1 (A.ev rfl))) ((RR w0 h0).bit rfl)))) ?_
 refine z_f (v:=gd ((ST && (!(p.bt 25))) || ((p.bt 4) && (!(p.bt 25)))) false (.bool ((p.bt 24) && (p.bt 25)))) rfl (by decide) rfl (fun w0 h0 a A=>yq1 rfl (A.gt rfl rfl) (fun e=>Rn.qt (qpick rfl (on e (A.ev rfl)) (pkA (on e (A.ev rfl)) rfl)))) ?_
 refine z_f (v:=.bool (((ST && (!(p.bt 25))) || ((p.bt 4) && (!(p.bt 25)))) || ((p.bt 24) && (p.bt 25)))) rfl (by decide) rfl (fun w0 h0 a A=>yq rfl (Rn.qt (qpick rfl (A.ev rfl) (pkO rfl (A.ev rfl))))) ?_;refine z_f (v:=.pointer (some ⟨b,0,none⟩)) rfl (by decide) rfl (fun w0 h0 a A=>yq rfl (Rn.qt (qmove rfl (A.ev rfl)))) ?_
 refine z_f (v:=.func (.func 273) #[.pointer (some ⟨b,0,none⟩)] #[]) rfl (by decide) rfl (fun w0 h0 a A=>yq rfl (Rn.qt (qfn rfl (A.ev rfl)))) ?_;refine z_f (v:=.agg #[.bool (((ST && (!(p.bt 25))) || ((p.bt 4) && (!(p.bt 25)))) || ((p.bt 24) && (p.bt 25))),.func (.func 273) #[.pointer (some ⟨b,0,none⟩)] #[]]) rfl (by decide) rfl (fun w0 h0 a A=>yq rfl (Rn.qt (qrule rfl (A.ev rfl) (A.ev rfl)))) ?_
 refine z_f (v:=.pointer (some ⟨g,q,none⟩)) rfl (by decide) rfl (fun w0 h0 a A=>yq rfl (Rn.qt (qmove rfl (A.ev rfl)))) ?_;refine z_f (v:=.pointer (some ⟨g,q,none⟩)) rfl (by decide) rfl (fun w0 h0 a A=>yq rfl (Rn.qt (qnil rfl (A.ev rfl)))) ?_;refine z_f (v:=.pointer (some ⟨g,q+70,none⟩)) rfl (by decide) rfl (fun w0 h0 a A=>yq rfl (Rn.qt (qfield rfl (A.ev rfl) fp43))) ?_
 refine z_f (v:=.int .u8 (p.nm 70)) rfl (by decide) rfl (fun w0 h0 a A=>yq rfl (Rn.qt (qload rfl (A.ev rfl) ((RR w0 h0).u8 rfl)))) ?_;refine z_f (v:=.bool ((p.nm 70)==0)) rfl (by decide) rfl (fun w0 h0 a A=>yq rfl (Rn.qt (qbin rfl (A.ev rfl) rfl (x_a _ _ _ _ _) (u_F _ _)))) ?_;refine z_f (v:=.bool ((p.nm 70)==0)) rfl (by decide) rfl (fun w0 h0 a A=>yq rfl (Rn.qt (qmove rfl (A.ev rfl)))) ?_
 refine z_f (v:=gd ((p.nm 70)==0) true (.pointer (some ⟨g,q,none⟩))) rfl (by decide) rfl (fun w0 h0 a A=>yq1 rfl (A.gt rfl rfl) (fun e=>Rn.qt (qmove rfl (A.ev rfl)))) ?_;refine z_f (v:=gd ((p.nm 70)==0) true (.pointer (some ⟨g,q,none⟩))) rfl (by decide) rfl (fun w0 h0 a A=>yq1 rfl (A.gt rfl rfl) (fun e=>Rn.qt (qnil rfl (on e (A.ev rfl))))) ?_
 refine z_f (v:=gd ((p.nm 70)==0) true (.pointer (some ⟨g,q+20,none⟩))) rfl (by decide) rfl (fun w0 h0 a A=>yq1 rfl (A.gt rfl rfl) (fun e=>Rn.qt (qfield rfl (on e (A.ev rfl)) fp20))) ?_;refine z_f (v:=gd ((p.nm 70)==0) true (.bool (p.bt 20))) rfl (by decide) rfl (fun w0 h0 a A=>yq1 rfl (A.gt rfl rfl) (fun e=>Rn.qt (qload rfl (on e (A.ev rfl)) ((RR w0 h0).bit rfl)))) ?_
 refine z_f (v:=.bool (((p.nm 70)==0) && (p.bt 20))) rfl (by decide) rfl (fun w0 h0 a A=>yq rfl (Rn.qt (qpick rfl (A.ev rfl) (pkA (A.ev rfl) rfl)))) ?_;refine z_f (v:=.pointer (some ⟨b,0,none⟩)) rfl (by decide) rfl (fun w0 h0 a A=>yq rfl (Rn.qt (qmove rfl (A.ev rfl)))) ?_
 refine z_f (v:=.func (.func 267) #[.pointer (some ⟨b,0,none⟩)] #[]) rfl (by decide) rfl (fun w0 h0 a A=>yq rfl (Rn.qt (qfn rfl (A.ev rfl)))) ?_;refine z_f (v:=.agg #[.bool (((p.nm 70)==0) && (p.bt 20)),.func (.func 267) #[.pointer (some ⟨b,0,none⟩)] #[]]) rfl (by decide) rfl (fun w0 h0 a A=>yq rfl (Rn.qt (qrule rfl (A.ev rfl) (A.ev rfl)))) ?_
 refine z_f (v:=.bool MU) rfl (by decide) rfl (fun w0 h0 a A=>yq rfl (Rn.qt (qmove rfl (A.ev rfl)))) ?_;refine z_f (v:=.bool MU) rfl (by decide) rfl (fun w0 h0 a A=>yq rfl (Rn.qt (qmove rfl (A.ev rfl)))) ?_;refine z_f (v:=gd MU true (.pointer (some ⟨g,q,none⟩))) rfl (by decide) rfl (fun w0 h0 a A=>yq1 rfl (A.gt rfl rfl) (fun e=>Rn.qt (qmove rfl (A.ev rfl)))) ?_
 refine z_f (v:=gd MU true (.pointer (some ⟨g,q,none⟩))) rfl (by decide) rfl (fun w0 h0 a A=>yq1 rfl (A.gt rfl rfl) (fun e=>Rn.qt (qnil rfl (on e (A.ev rfl))))) ?_;refine z_f (v:=gd MU true (.pointer (some ⟨g,q+9,none⟩))) rfl (by decide) rfl (fun w0 h0 a A=>yq1 rfl (A.gt rfl rfl) (fun e=>Rn.qt (qfield rfl (on e (A.ev rfl)) fp9))) ?_
 refine z_f (v:=gd MU true (.bool (p.bt 9))) rfl (by decide) rfl (fun w0 h0 a A=>yq1 rfl (A.gt rfl rfl) (fun e=>Rn.qt (qload rfl (on e (A.ev rfl)) ((RR w0 h0).bit rfl)))) ?_;refine z_f (v:=gd MU true (.bool (p.bt 9))) rfl (by decide) rfl (fun w0 h0 a A=>yq1 rfl (A.gt rfl rfl) (fun e=>Rn.qt (qmove rfl (on e (A.ev rfl))))) ?_
 refine z_f (v:=gd MU true (gd (p.bt 9) false (.pointer (some ⟨g,q,none⟩)))) rfl (by decide) rfl (fun w0 h0 a A=>yq2 rfl (A.gt rfl rfl) (fun e1 e2=>Rn.qt (qmove rfl (A.ev rfl)))) ?_;refine z_f (v:=gd MU true (gd (p.bt 9) false (.pointer (some ⟨g,q,none⟩)))) rfl (by decide) rfl (fun w0 h0 a A=>yq2 rfl (A.gt rfl rfl) (fun e1 e2=>Rn.qt (qnil rfl (on e2 (on e1 (A.ev rfl)))))) ?_
 refine z_f (v:=gd MU true (gd (p.bt 9) false (.pointer (some ⟨g,q+7,none⟩)))) rfl (by decide) rfl (fun w0 h0 a A=>yq2 rfl (A.gt rfl rfl) (fun e1 e2=>Rn.qt (qfield rfl (on e2 (on e1 (A.ev rfl))) fp7))) ?_
 refine z_f (v:=gd MU true (gd (p.bt 9) false (.bool (p.bt 7)))) rfl (by decide) rfl (fun w0 h0 a A=>yq2 rfl (A.gt rfl rfl) (fun e1 e2=>Rn.qt (qload rfl (on e2 (on e1 (A.ev rfl))) ((RR w0 h0).bit rfl)))) ?_;refine z_f (v:=gd MU true (.bool ((p.bt 9) || (p.bt 7)))) rfl (by decide) rfl (fun w0 h0 a A=>yq1 rfl (A.gt rfl rfl) (fun e=>Rn.qt (qpick rfl (on e (A.ev rfl)) (pkO rfl (on e (A.ev rfl)))))) ?_
 refine z_f (v:=.bool (MU && ((p.bt 9) || (p.bt 7)))) rfl (by decide) rfl (fun w0 h0 a A=>yq rfl (Rn.qt (qpick rfl (A.ev rfl) (pkA (A.ev rfl) rfl)))) ?_;refine z_f (v:=.pointer (some ⟨b,0,none⟩)) rfl (by decide) rfl (fun w0 h0 a A=>yq rfl (Rn.qt (qmove rfl (A.ev rfl)))) ?_
 refine z_f (v:=.func (.func 274) #[.pointer (some ⟨b,0,none⟩)] #[]) rfl (by decide) rfl (fun w0 h0 a A=>yq rfl (Rn.qt (qfn rfl (A.ev rfl)))) ?_;refine z_f (v:=.agg #[.bool (MU && ((p.bt 9) || (p.bt 7))),.func (.func 274) #[.pointer (some ⟨b,0,none⟩)] #[]]) rfl (by decide) rfl (fun w0 h0 a A=>yq rfl (Rn.qt (qrule rfl (A.ev rfl) (A.ev rfl)))) ?_
 refine z_f (v:=.bool GO) rfl (by decide) rfl (fun w0 h0 a A=>yq rfl (Rn.qt (qmove rfl (A.ev rfl)))) ?_;refine z_f (v:=.bool GO) rfl (by decide) rfl (fun w0 h0 a A=>yq rfl (Rn.qt (qmove rfl (A.ev rfl)))) ?_;refine z_f (v:=gd GO true (.pointer (some ⟨g,q,none⟩))) rfl (by decide) rfl (fun w0 h0 a A=>yq1 rfl (A.gt rfl rfl) (fun e=>Rn.qt (qmove rfl (A.ev rfl)))) ?_
 refine z_f (v:=gd GO true (.pointer (some ⟨g,q,none⟩))) rfl (by decide) rfl (fun w0 h0 a A=>yq1 rfl (A.gt rfl rfl) (fun e=>Rn.qt (qnil rfl (on e (A.ev rfl))))) ?_;refine z_f (v:=gd GO true (.pointer (some ⟨g,q+9,none⟩))) rfl (by decide) rfl (fun w0 h0 a A=>yq1 rfl (A.gt rfl rfl) (fun e=>Rn.qt (qfield rfl (on e (A.ev rfl)) fp9))) ?_
 refine z_f (v:=gd GO true (.bool (p.bt 9))) rfl (by decide) rfl (fun w0 h0 a A=>yq1 rfl (A.gt rfl rfl) (fun e=>Rn.qt (qload rfl (on e (A.ev rfl)) ((RR w0 h0).bit rfl)))) ?_;refine z_f (v:=gd GO true (.bool (!(p.bt 9)))) rfl (by decide) rfl (fun w0 h0 a A=>yq1 rfl (A.gt rfl rfl) (fun e=>Rn.qt (qnot rfl (on e (A.ev rfl))))) ?_
 refine z_f (v:=.bool (GO && (!(p.bt 9)))) rfl (by decide) rfl (fun w0 h0 a A=>yq rfl (Rn.qt (qpick rfl (A.ev rfl) (pkA (A.ev rfl) rfl)))) ?_;refine z_f (v:=.pointer (some ⟨b,0,none⟩)) rfl (by decide) rfl (fun w0 h0 a A=>yq rfl (Rn.qt (qmove rfl (A.ev rfl)))) ?_
 refine z_f (v:=.func (.func 268) #[.pointer (some ⟨b,0,none⟩)] #[]) rfl (by decide) rfl (fun w0 h0 a A=>yq rfl (Rn.qt (qfn rfl (A.ev rfl)))) ?_;refine z_f (v:=.agg #[.bool (GO && (!(p.bt 9))),.func (.func 268) #[.pointer (some ⟨b,0,none⟩)] #[]]) rfl (by decide) rfl (fun w0 h0 a A=>yq rfl (Rn.qt (qrule rfl (A.ev rfl) (A.ev rfl)))) ?_
 refine z_f (v:=.bool GO) rfl (by decide) rfl (fun w0 h0 a A=>yq rfl (Rn.qt (qmove rfl (A.ev rfl)))) ?_;refine z_f (v:=.bool GO) rfl (by decide) rfl (fun w0 h0 a A=>yq rfl (Rn.qt (qmove rfl (A.ev rfl)))) ?_;refine z_f (v:=gd GO true (.pointer (some ⟨g,q,none⟩))) rfl (by decide) rfl (fun w0 h0 a A=>yq1 rfl (A.gt rfl rfl) (fun e=>Rn.qt (qmove rfl (A.ev rfl)))) ?_
 refine z_f (v:=gd GO true (.pointer (some ⟨g,q,none⟩))) rfl (by decide) rfl (fun w0 h0 a A=>yq1 rfl (A.gt rfl rfl) (fun e=>Rn.qt (qnil rfl (on e (A.ev rfl))))) ?_;refine z_f (v:=gd GO true (.pointer (some ⟨g,q+9,none⟩))) rfl (by decide) rfl (fun w0 h0 a A=>yq1 rfl (A.gt rfl rfl) (fun e=>Rn.qt (qfield rfl (on e (A.ev rfl)) fp9))) ?_
 refine z_f (v:=gd GO true (.bool (p.bt 9))) rfl (by decide) rfl (fun w0 h0 a A=>yq1 rfl (A.gt rfl rfl) (fun e=>Rn.qt (qload rfl (on e (A.ev rfl)) ((RR w0 h0).bit rfl)))) ?_;refine z_f (v:=.bool (GO && (p.bt 9))) rfl (by decide) rfl (fun w0 h0 a A=>yq rfl (Rn.qt (qpick rfl (A.ev rfl) (pkA (A.ev rfl) rfl)))) ?_
 refine z_f (v:=.bool (GO && (p.bt 9))) rfl (by decide) rfl (fun w0 h0 a A=>yq rfl (Rn.qt (qmove rfl (A.ev rfl)))) ?_;refine z_f (v:=gd (GO && (p.bt 9)) true (.pointer (some ⟨g,q,none⟩))) rfl (by decide) rfl (fun w0 h0 a A=>yq1 rfl (A.gt rfl rfl) (fun e=>Rn.qt (qmove rfl (A.ev rfl)))) ?_
 refine z_f (v:=gd (GO && (p.bt 9)) true (.pointer (some ⟨g,q,none⟩))) rfl (by decide) rfl (fun w0 h0 a A=>yq1 rfl (A.gt rfl rfl) (fun e=>Rn.qt (qnil rfl (on e (A.ev rfl))))) ?_;refine z_f (v:=gd (GO && (p.bt 9)) true (.pointer (some ⟨g,q+7,none⟩))) rfl (by decide) rfl (fun w0 h0 a A=>yq1 rfl (A.gt rfl rfl) (fun e=>Rn.qt (qfield rfl (on e (A.ev rfl)) fp7))) ?_
 refine z_f (v:=gd (GO && (p.bt 9)) true (.bool (p.bt 7))) rfl (by decide) rfl (fun w0 h0 a A=>yq1 rfl (A.gt rfl rfl) (fun e=>Rn.qt (qload rfl (on e (A.ev rfl)) ((RR w0 h0).bit rfl)))) ?_;refine z_f (v:=gd (GO && (p.bt 9)) true (.bool (!(p.bt 7)))) rfl (by decide) rfl (fun w0 h0 a A=>yq1 rfl (A.gt rfl rfl) (fun e=>Rn.qt (qnot rfl (on e (A.ev rfl))))) ?_
 refine z_f (v:=.bool ((GO && (p.bt 9)) && (!(p.bt 7)))) rfl (by decide) rfl (fun w0 h0 a A=>yq rfl (Rn.qt (qpick rfl (A.ev rfl) (pkA (A.ev rfl) rfl)))) ?_;refine z_f (v:=.pointer (some ⟨b,0,none⟩)) rfl (by decide) rfl (fun w0 h0 a A=>yq rfl (Rn.qt (qmove rfl (A.ev rfl)))) ?_
 refine z_f (v:=.func (.func 275) #[.pointer (some ⟨b,0,none⟩)] #[]) rfl (by decide) rfl (fun w0 h0 a A=>yq rfl (Rn.qt (qfn rfl (A.ev rfl)))) ?_;refine z_f (v:=.agg #[.bool ((GO && (p.bt 9)) && (!(p.bt 7))),.func (.func 275) #[.pointer (some ⟨b,0,none⟩)] #[]]) rfl (by decide) rfl (fun w0 h0 a A=>yq rfl (Rn.qt (qrule rfl (A.ev rfl) (A.ev rfl)))) ?_;refine z_jC ?_;intro a z A bz _
 have sb:=bsR6 b ((!p.bt 7 && !p.bt 4) && !p.bt 13) ((ST && !p.bt 25) || (p.bt 4 && !p.bt 25) || (p.bt 24 && p.bt 25)) ((p.nm 70==0) && p.bt 20) (MU && (p.bt 9 || p.bt 7)) (GO && !p.bt 9) ((GO && p.bt 9) && !p.bt 7) 272 273 267 274 268 275 z
 obtain⟨Y,hY⟩:∃Y,z.alloc (.cells (rcs b [(((!p.bt 7 && !p.bt 4) && !p.bt 13),272),(((ST && !p.bt 25) || (p.bt 4 && !p.bt 25) || (p.bt 24 && p.bt 25)),273),(((p.nm 70==0) && p.bt 20),267),((MU && (p.bt 9 || p.bt 7)),274),((GO && !p.bt 9),268),(((GO && p.bt 9) && !p.bt 7),275)]).toArray 186)=Y:=⟨_,rfl⟩;rw[hY] at sb
 have F:Hid (OwnR Y W.heap.size (.slice (some ⟨z.heap.size,0,none⟩) 6 6) b [(((!p.bt 7 && !p.bt 4) && !p.bt 13),272),(((ST && !p.bt 25) || (p.bt 4 && !p.bt 25) || (p.bt 24 && p.bt 25)),273),(((p.nm 70==0) && p.bt 20),267),((MU && (p.bt 9 || p.bt 7)),274),((GO && !p.bt 9),268),(((GO && p.bt 9) && !p.bt 7),275)]∧Below W.heap.size W Y):=by
  have b2:=z_a B4.out bz;rw[←hY];exact⟨(OwnR.new z b [(((!p.bt 7 && !p.bt 4) && !p.bt 13),272),(((ST && !p.bt 25) || (p.bt 4 && !p.bt 25) || (p.bt 24 && p.bt 25)),273),(((p.nm 70==0) && p.bt 20),267),((MU && (p.bt 9 || p.bt 7)),274),((GO && !p.bt 9),268),(((GO && p.bt 9) && !p.bt 7),275)] (by simp)).base b2.size,b2.trans ((Below.refl _ _).alloc b2.size _)⟩
 clear hY;have ED:dsgR p=[(((!p.bt 7 && !p.bt 4) && !p.bt 13),272),(((ST && !p.bt 25) || (p.bt 4 && !p.bt 25) || (p.bt 24 && p.bt 25)),273),(((p.nm 70==0) && p.bt 20),267),((MU && (p.bt 9 || p.bt 7)),274),((GO && !p.bt 9),268),(((GO && p.bt 9) && !p.bt 7),275)]:=by
  unfold dsgR;rw[EST.out,EMU.out,EGO.out]
 rw[←ED] at F;refine w_p (v:=.slice (some ⟨z.heap.size,0,none⟩) 6 6) (w':=Y) rfl ?_ ?_
 ·unfold execOp;simp only[List.map_toArray,List.map_cons,List.map_nil,A.ev (s:=74) rfl,A.ev (s:=110) rfl,A.ev (s:=124) rfl,A.ev (s:=140) rfl,A.ev (s:=151) rfl,A.ev (s:=168) rfl];rw[Sem.run_bind,bsRE,sb];rfl
 ·have A2:=A.put (d:=169) (v:=.slice (some ⟨z.heap.size,0,none⟩) 6 6) (by decide);refine w_p (v:=.slice (some ⟨z.heap.size,0,none⟩) 6 6) (w':=Y) rfl ?_ ?_
  ·unfold execOp;simp only[A2.ev (s:=169) rfl];rfl
  ·have A3:=A2.put (d:=2) (v:=.slice (some ⟨z.heap.size,0,none⟩) 6 6) (by decide);obtain⟨a3,h3⟩:∃a3,((a.put (some 169) (.slice (some ⟨z.heap.size,0,none⟩) 6 6)).put (some 2) (.slice (some ⟨z.heap.size,0,none⟩) 6 6))=a3:=⟨_,rfl⟩;rw[h3] at A3
   show wpList _ _ _ [] ((a.put (some 169) _).put (some 2) _) _
   rw[h3];clear h3 A2 A;go_wp2
   exact u_h results244 A3 rfl ⟨_,rfl,F.out.1,F.out.2⟩
end S13
end
section
namespace S13
open Go.RowKit
def rdyB (l:List Pt) (k:Nat):Bool:=((gtP l k).nm 65==0) || raoB l k
def rootR (l:List Pt) (k:Nat):List (Bool×Nat):=[(prpB (gtP l k),293),(ansB l k,265)]++[(!(gtP l k).bt 7 && !(gtP l k).bt 20,266),((gtP l k).bt 20 && (gtP l k).bt 7,267),(rdyB l k && !(gtP l k).bt 9,268),((rdyB l k && (gtP l k).bt 9) && !(gtP l k).bt 7,269),((gtP l k).nm 70 != (gtP l k).nm 43,270)]
attribute [local go_sem ↓] ldT bsRE
theorem z_bX {W:World} {b g o n c k:Nat} {h:Hd} {l:List Pt} (s:CS W b h g o n c k l) :
  Calls prog 243 #[.pointer (some ⟨b,0,none⟩)] W fun r W'=>∃v,r=.returned v∧OwnR W' W.heap.size v b (rootR l k)∧Below W.heap.size W W':=by
 unfold rootR rdyB;obtain⟨RA,hRA⟩:∃z,raoB l k=z:=⟨_,rfl⟩;rw[hRA];have ERA:Hid (raoB l k=RA):=hRA;clear hRA;have H:Hid (CS W b h g o n c k l):=s;obtain⟨p,hp⟩:∃p,gtP l k=p:=⟨_,rfl⟩;rw[hp];have R0:∀V,Below W.heap.size W V→Prd (fun w'=>∃x:Later V,w'=x.val) g (o+k*77) p:=fun V hV=>by rw[←hp];exact (H.out.below hV).rd
 obtain⟨q,hq⟩:∃q,o+k*77=q:=⟨_,rfl⟩;rw[hq] at R0;have HP:Hid (gtP l k=p):=hp;clear s hp;go_enter func243,ntmps243
 go_wp2_with fail
 refine (z_v H.out).mono ?_;rintro _ V ⟨rfl,b1⟩;rw[hq];have B:Hid (Below W.heap.size W V):=b1;clear b1 hq;have R:=R0 V B.out;have RK:∀x:Later V,Calls prog 263 #[.pointer (some ⟨b,0,none⟩)] x.val fun r W'=>r=.returned (.bool RA)∧∃y:Later V,W'=y.val:=fun x=>by
  have:=z_jc ((H.out.below B.out).below x.below);rw[ERA.out] at this;exact Calls.later_of this
 go_upto_region 2 with fail
 refine wp_plain (C:=fun w'=>∃x:Later V,w'=x.val) ⟨⟨_,Below.refl _ _⟩,rfl⟩ ?_;refine z_b (v:=.pointer (some ⟨g,q,none⟩)) (yq rfl (Rn.qt (qmove rfl rfl))) ?_
 try simp only[Act.put,zA,zB,zC]
 refine z_b (v:=.pointer (some ⟨g,q,none⟩)) (yq rfl (Rn.qt (qnil rfl rfl))) ?_
 try simp only[Act.put,zA,zB,zC]
 refine z_b (v:=.pointer (some ⟨g,q+65,none⟩)) (yq rfl (Rn.qt (qfield rfl rfl fp38))) ?_
 try simp only[Act.put,zA,zB,zC]
 refine z_b (v:=.int .u8 (p.nm 65)) (yq rfl (Rn.qt (qload rfl rfl (R.u8 rfl)))) ?_
 try simp only[Act.put,zA,zB,zC]
 refine z_b (v:=.bool ((p.nm 65)==0)) (yq rfl (Rn.qt (qbin rfl rfl rfl (x_a _ _ _ _ _) (u_F _ _)))) ?_
 try simp only[Act.put,zA,zB,zC]
 refine z_b (v:=.bool ((p.nm 65)==0)) (yq rfl (Rn.qt (qmove rfl rfl))) ?_
 try simp only[Act.put,zA,zB,zC]
 refine z_b (v:=gd ((p.nm 65)==0) false (.pointer (some ⟨b,0,none⟩))) (yq1 rfl rfl (fun e=>Rn.qt (qmove rfl rfl))) ?_
 try simp only[Act.put,zA,zB,zC]
 refine z_b (v:=gd ((p.nm 65)==0) false (.bool RA)) (yq1 rfl rfl (fun e=>u_Y rfl (on e rfl) (fun V=>by go_simp) (fun w hw=>by obtain⟨x,rfl⟩:=hw;exact RK x))) ?_
 try simp only[Act.put,zA,zB,zC]
 refine z_b (v:=.bool (((p.nm 65)==0) || RA)) (yq rfl (Rn.qt (qpick rfl rfl (pkO rfl rfl)))) ?_
 try simp only[Act.put,zA,zB,zC]
 refine z_b (v:=.bool (((p.nm 65)==0) || RA)) (yq rfl (Rn.qt (qassign rfl rfl))) ?_
 try simp only[Act.put,zA,zB,zC]
 refine wpQuiet_nil ?_;rintro _ ⟨y,rfl⟩;obtain⟨U,hU⟩:∃U,y.val=U:=⟨_,rfl⟩;have bU:Below V.heap.size V U:=by rw[←hU];exact y.below
 rw[hU];have B2:Hid (Below W.heap.size W U):=z_a B.out bU;clear R hU bU y RK;have RR:∀w0,Below U.heap.size U w0→Prd (LC w0) g q p:=fun w0 h0=>R0 w0 (z_a B2.out h0);clear R0;obtain⟨RY,hRY⟩:∃z,(p.nm 65==0 || RA)=z:=⟨_,rfl⟩;rw[hRY];have ERY:Hid ((p.nm 65==0 || RA)=RY):=hRY;clear hRY;go_upto_region 3 with fail
 refine wp_vals 73 16 91 3 19 (fun v w'=>OwnR w' W.heap.size v b [(prpB p,293),(ansB l k,265)]) (by kernel_rfl) (by kernel_rfl) (E0:=[(0,.pointer (some ⟨b,0,none⟩)),(3,.pointer (some ⟨g,q,none⟩)),(4,.bool RY)]) (by kernel_rfl) (fun _=>rfl) (fun v w1 w2 h1 h2=>OwnR.below h1 h2) (Has.cons rfl (Has.cons rfl (Has.cons rfl (Has.nil rfl rfl)))) ?_
 simp only[List.append_eq,List.cons_append,List.nil_append,List.take_succ_cons,List.take_zero,List.drop_succ_cons,List.drop_zero];refine z_f (v:=.pointer (some ⟨b,0,none⟩)) rfl (by decide) rfl (fun w0 h0 a A=>yq rfl (Rn.qt (qmove rfl (A.ev rfl)))) ?_;refine z_f (v:=.pointer (some ⟨b,0,none⟩)) rfl (by decide) rfl (fun w0 h0 a A=>yq rfl (Rn.qt (qmove rfl (A.ev rfl)))) ?_
 refine z_f (v:=.func (.func 265) #[.pointer (some ⟨b,0,none⟩)] #[]) rfl (by decide) rfl (fun w0 h0 a A=>yq rfl (Rn.qt (qfn rfl (A.ev rfl)))) ?_;refine z_ei rfl (by decide) rfl ⟨rfl,fun w0 h0 a A=>⟨264,#[.pointer (some ⟨b,0,none⟩),.func (.func 265) #[.pointer (some ⟨b,0,none⟩)] #[]],v_M rfl (A.ev rfl) (A.ev rfl) (fun V=>by go_simp),?_⟩⟩ ?_
 ·have q:=z_fE (H.out.below (z_a B2.out h0)) 265;rw[HP.out] at q;refine q.mono ?_;rintro _ w' ⟨v,rfl,o1,b1⟩;exact⟨v,rfl,o1.base (z_a B2.out h0).size,b1⟩
 refine z_f (v:=.pointer (some ⟨g,q,none⟩)) rfl (by decide) rfl (fun w0 h0 a A=>yq rfl (Rn.qt (qmove rfl (A.ev rfl)))) ?_;refine z_f (v:=.pointer (some ⟨g,q,none⟩)) rfl (by decide) rfl (fun w0 h0 a A=>yq rfl (Rn.qt (qnil rfl (A.ev rfl)))) ?_;refine z_f (v:=.pointer (some ⟨g,q+7,none⟩)) rfl (by decide) rfl (fun w0 h0 a A=>yq rfl (Rn.qt (qfield rfl (A.ev rfl) fp7))) ?_
 refine z_f (v:=.bool (p.bt 7)) rfl (by decide) rfl (fun w0 h0 a A=>yq rfl (Rn.qt (qload rfl (A.ev rfl) ((RR w0 h0).bit rfl)))) ?_;refine z_f (v:=.bool (!(p.bt 7))) rfl (by decide) rfl (fun w0 h0 a A=>yq rfl (Rn.qt (qnot rfl (A.ev rfl)))) ?_;refine z_f (v:=.bool (!(p.bt 7))) rfl (by decide) rfl (fun w0 h0 a A=>yq rfl (Rn.qt (qmove rfl (A.ev rfl)))) ?_
 refine z_f (v:=gd (!(p.bt 7)) true (.pointer (some ⟨g,q,none⟩))) rfl (by decide) rfl (fun w0 h0 a A=>yq1 rfl (A.gt rfl rfl) (fun e=>Rn.qt (qmove rfl (A.ev rfl)))) ?_;refine z_f (v:=gd (!(p.bt 7)) true (.pointer (some ⟨g,q,none⟩))) rfl (by decide) rfl (fun w0 h0 a A=>yq1 rfl (A.gt rfl rfl) (fun e=>Rn.qt (qnil rfl (on e (A.ev rfl))))) ?_
 refine z_f (v:=gd (!(p.bt 7)) true (.pointer (some ⟨g,q+20,none⟩))) rfl (by decide) rfl (fun w0 h0 a A=>yq1 rfl (A.gt rfl rfl) (fun e=>Rn.qt (qfield rfl (on e (A.ev rfl)) fp20))) ?_;refine z_f (v:=gd (!(p.bt 7)) true (.bool (p.bt 20))) rfl (by decide) rfl (fun w0 h0 a A=>yq1 rfl (A.gt rfl rfl) (fun e=>Rn.qt (qload rfl (on e (A.ev rfl)) ((RR w0 h0).bit rfl)))) ?_
 refine z_f (v:=gd (!(p.bt 7)) true (.bool (!(p.bt 20)))) rfl (by decide) rfl (fun w0 h0 a A=>yq1 rfl (A.gt rfl rfl) (fun e=>Rn.qt (qnot rfl (on e (A.ev rfl))))) ?_;refine z_f (v:=.bool ((!(p.bt 7)) && (!(p.bt 20)))) rfl (by decide) rfl (fun w0 h0 a A=>yq rfl (Rn.qt (qpick rfl (A.ev rfl) (pkA (A.ev rfl) rfl)))) ?_
 refine z_f (v:=.pointer (some ⟨b,0,none⟩)) rfl (by decide) rfl (fun w0 h0 a A=>yq rfl (Rn.qt (qmove rfl (A.ev rfl)))) ?_;refine z_f (v:=.func (.func 266) #[.pointer (some ⟨b,0,none⟩)] #[]) rfl (by decide) rfl (fun w0 h0 a A=>yq rfl (Rn.qt (qfn rfl (A.ev rfl)))) ?_
 refine z_f (v:=.agg #[.bool ((!(p.bt 7)) && (!(p.bt 20))),.func (.func 266) #[.pointer (some ⟨b,0,none⟩)] #[]]) rfl (by decide) rfl (fun w0 h0 a A=>yq rfl (Rn.qt (qrule rfl (A.ev rfl) (A.ev rfl)))) ?_;refine z_f (v:=.pointer (some ⟨g,q,none⟩)) rfl (by decide) rfl (fun w0 h0 a A=>yq rfl (Rn.qt (qmove rfl (A.ev rfl)))) ?_
 refine z_f (v:=.pointer (some ⟨g,q,none⟩)) rfl (by decide) rfl (fun w0 h0 a A=>yq rfl (Rn.qt (qnil rfl (A.ev rfl)))) ?_;refine z_f (v:=.pointer (some ⟨g,q+20,none⟩)) rfl (by decide) rfl (fun w0 h0 a A=>yq rfl (Rn.qt (qfield rfl (A.ev rfl) fp20))) ?_;refine z_f (v:=.bool (p.bt 20)) rfl (by decide) rfl (fun w0 h0 a A=>yq rfl (Rn.qt (qload rfl (A.ev rfl) ((RR w0 h0).bit rfl)))) ?_
 refine z_f (v:=.bool (p.bt 20)) rfl (by decide) rfl (fun w0 h0 a A=>yq rfl (Rn.qt (qmove rfl (A.ev rfl)))) ?_;refine z_f (v:=gd (p.bt 20) true (.pointer (some ⟨g,q,none⟩))) rfl (by decide) rfl (fun w0 h0 a A=>yq1 rfl (A.gt rfl rfl) (fun e=>Rn.qt (qmove rfl (A.ev rfl)))) ?_
 refine z_f (v:=gd (p.bt 20) true (.pointer (some ⟨g,q,none⟩))) rfl (by decide) rfl (fun w0 h0 a A=>yq1 rfl (A.gt rfl rfl) (fun e=>Rn.qt (qnil rfl (on e (A.ev rfl))))) ?_;refine z_f (v:=gd (p.bt 20) true (.pointer (some ⟨g,q+7,none⟩))) rfl (by decide) rfl (fun w0 h0 a A=>yq1 rfl (A.gt rfl rfl) (fun e=>Rn.qt (qfield rfl (on e (A.ev rfl)) fp7))) ?_
 refine z_f (v:=gd (p.bt 20) true (.bool (p.bt 7))) rfl (by decide) rfl (fun w0 h0 a A=>yq1 rfl (A.gt rfl rfl) (fun e=>Rn.qt (qload rfl (on e (A.ev rfl)) ((RR w0 h0).bit rfl)))) ?_;refine z_f (v:=.bool ((p.bt 20) && (p.bt 7))) rfl (by decide) rfl (fun w0 h0 a A=>yq rfl (Rn.qt (qpick rfl (A.ev rfl) (pkA (A.ev rfl) rfl)))) ?_
 refine z_f (v:=.pointer (some ⟨b,0,none⟩)) rfl (by decide) rfl (fun w0 h0 a A=>yq rfl (Rn.qt (qmove rfl (A.ev rfl)))) ?_;refine z_f (v:=.func (.func 267) #[.pointer (some ⟨b,0,none⟩)] #[]) rfl (by decide) rfl (fun w0 h0 a A=>yq rfl (Rn.qt (qfn rfl (A.ev rfl)))) ?_
 refine z_f (v:=.agg #[.bool ((p.bt 20) && (p.bt 7)),.func (.func 267) #[.pointer (some ⟨b,0,none⟩)] #[]]) rfl (by decide) rfl (fun w0 h0 a A=>yq rfl (Rn.qt (qrule rfl (A.ev rfl) (A.ev rfl)))) ?_;refine z_f (v:=.bool RY) rfl (by decide) rfl (fun w0 h0 a A=>yq rfl (Rn.qt (qmove rfl (A.ev rfl)))) ?_
 refine z_f (v:=.bool RY) rfl (by decide) rfl (fun w0 h0 a A=>yq rfl (Rn.qt (qmove rfl (A.ev rfl)))) ?_;refine z_f (v:=gd RY true (.pointer (some ⟨g,q,none⟩))) rfl (by decide) rfl (fun w0 h0 a A=>yq1 rfl (A.gt rfl rfl) (fun e=>Rn.qt (qmove rfl (A.ev rfl)))) ?_
 refine z_f (v:=gd RY true (.pointer (some ⟨g,q,none⟩))) rfl (by decide) rfl (fun w0 h0 a A=>yq1 rfl (A.gt rfl rfl) (fun e=>Rn.qt (qnil rfl (on e (A.ev rfl))))) ?_;refine z_f (v:=gd RY true (.pointer (some ⟨g,q+9,none⟩))) rfl (by decide) rfl (fun w0 h0 a A=>yq1 rfl (A.gt rfl rfl) (fun e=>Rn.qt (qfield rfl (on e (A.ev rfl)) fp9))) ?_
 refine z_f (v:=gd RY true (.bool (p.bt 9))) rfl (by decide) rfl (fun w0 h0 a A=>yq1 rfl (A.gt rfl rfl) (fun e=>Rn.qt (qload rfl (on e (A.ev rfl)) ((RR w0 h0).bit rfl)))) ?_;refine z_f (v:=gd RY true (.bool (!(p.bt 9)))) rfl (by decide) rfl (fun w0 h0 a A=>yq1 rfl (A.gt rfl rfl) (fun e=>Rn.qt (qnot rfl (on e (A.ev rfl))))) ?_
 refine z_f (v:=.bool (RY && (!(p.bt 9)))) rfl (by decide) rfl (fun w0 h0 a A=>yq rfl (Rn.qt (qpick rfl (A.ev rfl) (pkA (A.ev rfl) rfl)))) ?_;refine z_f (v:=.pointer (some ⟨b,0,none⟩)) rfl (by decide) rfl (fun w0 h0 a A=>yq rfl (Rn.qt (qmove rfl (A.ev rfl)))) ?_
 refine z_f (v:=.func (.func 268) #[.pointer (some ⟨b,0,none⟩)] #[]) rfl (by decide) rfl (fun w0 h0 a A=>yq rfl (Rn.qt (qfn rfl (A.ev rfl)))) ?_;refine z_f (v:=.agg #[.bool (RY && (!(p.bt 9))),.func (.func 268) #[.pointer (some ⟨b,0,none⟩)] #[]]) rfl (by decide) rfl (fun w0 h0 a A=>yq rfl (Rn.qt (qrule rfl (A.ev rfl) (A.ev rfl)))) ?_
 refine z_f (v:=.bool RY) rfl (by decide) rfl (fun w0 h0 a A=>yq rfl (Rn.qt (qmove rfl (A.ev rfl)))) ?_;refine z_f (v:=.bool RY) rfl (by decide) rfl (fun w0 h0 a A=>yq rfl (Rn.qt (qmove rfl (A.ev rfl)))) ?_;refine z_f (v:=gd RY true (.pointer (some ⟨g,q,none⟩))) rfl (by decide) rfl (fun w0 h0 a A=>yq1 rfl (A.gt rfl rfl) (fun e=>Rn.qt (qmove rfl (A.ev rfl)))) ?_
 refine z_f (v:=gd RY true (.pointer (some ⟨g,q,none⟩))) rfl (by decide) rfl (fun w0 h0 a A=>yq1 rfl (A.gt rfl rfl) (fun e=>Rn.qt (qnil rfl (on e (A.ev rfl))))) ?_;refine z_f (v:=gd RY true (.pointer (some ⟨g,q+9,none⟩))) rfl (by decide) rfl (fun w0 h0 a A=>yq1 rfl (A.gt rfl rfl) (fun e=>Rn.qt (qfield rfl (on e (A.ev rfl)) fp9))) ?_
 refine z_f (v:=gd RY true (.bool (p.bt 9))) rfl (by decide) rfl (fun w0 h0 a A=>yq1 rfl (A.gt rfl rfl) (fun e=>Rn.qt (qload rfl (on e (A.ev rfl)) ((RR w0 h0).bit rfl)))) ?_;refine z_f (v:=.bool (RY && (p.bt 9))) rfl (by decide) rfl (fun w0 h0 a A=>yq rfl (Rn.qt (qpick rfl (A.ev rfl) (pkA (A.ev rfl) rfl)))) ?_
 refine z_f (v:=.bool (RY && (p.bt 9))) rfl (by decide) rfl (fun w0 h0 a A=>yq rfl (Rn.qt (qmove rfl (A.ev rfl)))) ?_;refine z_f (v:=gd (RY && (p.bt 9)) true (.pointer (some ⟨g,q,none⟩))) rfl (by decide) rfl (fun w0 h0 a A=>yq1 rfl (A.gt rfl rfl) (fun e=>Rn.qt (qmove rfl (A.ev rfl)))) ?_
 refine z_f (v:=gd (RY && (p.bt 9)) true (.pointer (some ⟨g,q,none⟩))) rfl (by decide) rfl (fun w0 h0 a A=>yq1 rfl (A.gt rfl rfl) (fun e=>Rn.qt (qnil rfl (on e (A.ev rfl))))) ?_;refine z_f (v:=gd (RY && (p.bt 9)) true (.pointer (some ⟨g,q+7,none⟩))) rfl (by decide) rfl (fun w0 h0 a A=>yq1 rfl (A.gt rfl rfl) (fun e=>Rn.qt (qfield rfl (on e (A.ev rfl)) fp7))) ?_
 refine z_f (v:=gd (RY && (p.bt 9)) true (.bool (p.bt 7))) rfl (by decide) rfl (fun w0 h0 a A=>yq1 rfl (A.gt rfl rfl) (fun e=>Rn.qt (qload rfl (on e (A.ev rfl)) ((RR w0 h0).bit rfl)))) ?_;refine z_f (v:=gd (RY && (p.bt 9)) true (.bool (!(p.bt 7)))) rfl (by decide) rfl (fun w0 h0 a A=>yq1 rfl (A.gt rfl rfl) (fun e=>Rn.qt (qnot rfl (on e (A.ev rfl))))) ?_
 refine z_f (v:=.bool ((RY && (p.bt 9)) && (!(p.bt 7)))) rfl (by decide) rfl (fun w0 h0 a A=>yq rfl (Rn.qt (qpick rfl (A.ev rfl) (pkA (A.ev rfl) rfl)))) ?_;refine z_f (v:=.pointer (some ⟨b,0,none⟩)) rfl (by decide) rfl (fun w0 h0 a A=>yq rfl (Rn.qt (qmove rfl (A.ev rfl)))) ?_
 refine z_f (v:=.func (.func 269) #[.pointer (some ⟨b,0,none⟩)] #[]) rfl (by decide) rfl (fun w0 h0 a A=>yq rfl (Rn.qt (qfn rfl (A.ev rfl)))) ?_;refine z_f (v:=.agg #[.bool ((RY && (p.bt 9)) && (!(p.bt 7))),.func (.func 269) #[.pointer (some ⟨b,0,none⟩)] #[]]) rfl (by decide) rfl (fun w0 h0 a A=>yq rfl (Rn.qt (qrule rfl (A.ev rfl) (A.ev rfl)))) ?_
 refine z_f (v:=.pointer (some ⟨g,q,none⟩)) rfl (by decide) rfl (fun w0 h0 a A=>yq rfl (Rn.qt (qmove rfl (A.ev rfl)))) ?_;refine z_f (v:=.pointer (some ⟨g,q,none⟩)) rfl (by decide) rfl (fun w0 h0 a A=>yq rfl (Rn.qt (qnil rfl (A.ev rfl)))) ?_;refine z_f (v:=.pointer (some ⟨g,q+70,none⟩)) rfl (by decide) rfl (fun w0 h0 a A=>yq rfl (Rn.qt (qfield rfl (A.ev rfl) fp43))) ?_
 refine z_f (v:=.int .u8 (p.nm 70)) rfl (by decide) rfl (fun w0 h0 a A=>yq rfl (Rn.qt (qload rfl (A.ev rfl) ((RR w0 h0).u8 rfl)))) ?_;refine z_f (v:=.pointer (some ⟨g,q,none⟩)) rfl (by decide) rfl (fun w0 h0 a A=>yq rfl (Rn.qt (qmove rfl (A.ev rfl)))) ?_;refine z_f (v:=.pointer (some ⟨g,q,none⟩)) rfl (by decide) rfl (fun w0 h0 a A=>yq rfl (Rn.qt (qnil rfl (A.ev rfl)))) ?_
 refine z_f (v:=.pointer (some ⟨g,q+40,none⟩)) rfl (by decide) rfl (fun w0 h0 a A=>yq rfl (Rn.qt (qfield rfl (A.ev rfl) fp34))) ?_;refine z_f (v:=.pointer (some ⟨g,q+40+3,none⟩)) rfl (by decide) rfl (fun w0 h0 a A=>yq rfl (Rn.qt (qfield rfl (A.ev rfl) ft3))) ?_;refine z_f (v:=.int .u8 (p.nm 43)) rfl (by decide) rfl (fun w0 h0 a A=>yq rfl (Rn.qt (qload rfl (A.ev rfl) ((RR w0 h0).dt rfl rfl)))) ?_
 refine z_f (v:=.bool ((p.nm 70) != (p.nm 43))) rfl (by decide) rfl (fun w0 h0 a A=>yq rfl (Rn.qt (qbin rfl (A.ev rfl) (A.ev rfl) (x_a _ _ _ _ _) (u_t _ _)))) ?_;refine z_f (v:=.pointer (some ⟨b,0,none⟩)) rfl (by decide) rfl (fun w0 h0 a A=>yq rfl (Rn.qt (qmove rfl (A.ev rfl)))) ?_
 refine z_f (v:=.func (.func 270) #[.pointer (some ⟨b,0,none⟩)] #[]) rfl (by decide) rfl (fun w0 h0 a A=>yq rfl (Rn.qt (qfn rfl (A.ev rfl)))) ?_;refine z_f (v:=.agg #[.bool ((p.nm 70) != (p.nm 43)),.func (.func 270) #[.pointer (some ⟨b,0,none⟩)] #[]]) rfl (by decide) rfl (fun w0 h0 a A=>yq rfl (Rn.qt (qrule rfl (A.ev rfl) (A.ev rfl)))) ?_;refine z_jC ?_;intro a z A bz HH
 obtain⟨va,ha,oa⟩:=HH (by decide);have oa:OwnR z W.heap.size va b [(prpB p,293),(ansB l k,265)]:=oa;have bW:=z_a B2.out bz;have A:=Has.cons ha A;have sb:=bsR5 b (!p.bt 7 && !p.bt 20) (p.bt 20 && p.bt 7) (RY && !p.bt 9) ((RY && p.bt 9) && !p.bt 7) (p.nm 70 != p.nm 43) 266 267 268 269 270 z
 obtain⟨Y,hY⟩:∃Y,z.alloc (.cells (rcs b [((!p.bt 7 && !p.bt 20),266),((p.bt 20 && p.bt 7),267),((RY && !p.bt 9),268),(((RY && p.bt 9) && !p.bt 7),269),((p.nm 70 != p.nm 43),270)]).toArray 186)=Y:=⟨_,rfl⟩;rw[hY] at sb;have bY:Below z.heap.size z Y:=by rw[←hY];exact (Below.refl _ _).alloc (Nat.le_refl _) _
 have oY:OwnR Y z.heap.size (.slice (some ⟨z.heap.size,0,none⟩) 5 5) b [((!p.bt 7 && !p.bt 20),266),((p.bt 20 && p.bt 7),267),((RY && !p.bt 9),268),(((RY && p.bt 9) && !p.bt 7),269),((p.nm 70 != p.nm 43),270)]:=by rw[←hY];exact OwnR.new z b [((!p.bt 7 && !p.bt 20),266),((p.bt 20 && p.bt 7),267),((RY && !p.bt 9),268),(((RY && p.bt 9) && !p.bt 7),269),((p.nm 70 != p.nm 43),270)] (by simp)
 obtain⟨a2,c2,e2,r2,_⟩:=oY.form;simp only[List.length_cons,List.length_nil,Value.slice.injEq] at e2;obtain⟨rfl,_,rfl⟩:=e2;obtain⟨v',Z,ap,oZ,gZ⟩:=(oa.below bY).app r2 (by simp) (Nat.le_trans bW.size bY.size) 183
 have F:Hid (OwnR Z W.heap.size v' b ([(prpB p,293),(ansB l k,265)]++[((!p.bt 7 && !p.bt 20),266),((p.bt 20 && p.bt 7),267),((RY && !p.bt 9),268),(((RY && p.bt 9) && !p.bt 7),269),((p.nm 70 != p.nm 43),270)])∧Below W.heap.size W Z):=by
  refine⟨oZ,(z_a bW bY).trans (z_h gZ (Nat.le_trans bW.size bY.size) (fun j e=>?_))⟩;obtain⟨a9,c9,rfl,_,h9⟩:=oa.form;cases a9 with
  | none=>cases e
  | some x9=>cases e;exact (h9 x9 rfl).1
 clear hY oa ha bW bY oY r2 oZ gZ HH;refine w_p (v:=.slice (some ⟨z.heap.size,0,none⟩) 5 5) (w':=Y) rfl (z_di rfl ?_ sb) ?_
 ·simp only[List.map_toArray,List.map_cons,List.map_nil,A.ev (s:=34) rfl,A.ev (s:=47) rfl,A.ev (s:=58) rfl,A.ev (s:=75) rfl,A.ev (s:=88) rfl]
 ·have A2:=A.put (d:=89) (v:=.slice (some ⟨z.heap.size,0,none⟩) 5 5) (by decide);refine w_p (v:=v') (w':=Z) rfl (z_dj rfl rfl (A2.ev rfl) (A2.ev rfl) ap) ?_;have A3:=A2.put (d:=90) (v:=v') (by decide);refine w_p (v:=v') (w':=Z) rfl (qassign (C:=fun _=>True) rfl (A3.ev rfl) Z trivial) ?_
  ·have A4:=A3.put (d:=2) (v:=v') (by decide);obtain⟨a4,h4⟩:∃a4,(((a.put (some 89) (.slice (some ⟨z.heap.size,0,none⟩) 5 5)).put (some 90) v').put (some 2) v')=a4:=⟨_,rfl⟩;rw[h4] at A4
   show wpList _ _ _ [] (((a.put (some 89) _).put (some 90) _).put (some 2) _) _
   rw[h4];clear h4 A3 A2 A;rw[←ERY.out] at F;go_wp2
   exact u_h results243 A4 rfl ⟨_,rfl,F.out.1,F.out.2⟩
end S13
end
section
namespace S13
open Go.RowKit
def bckB (p:Pt):Bool:=(p.nm 30==2) && (p.nm 68 != twN (p.nm 42))
def altR (l:List Pt) (k:Nat):List (Bool×Nat):=[(prpB (gtP l k),293),(ansB l k,276)]++[(looB (gtP l k) 43,245),(bckB (gtP l k),278)]
attribute [local go_sem ↓] ldT bsRE
theorem z_cB {W:World} {b g o n c k:Nat} {h:Hd} {l:List Pt} (s:CS W b h g o n c k l) :
  Calls prog 246 #[.pointer (some ⟨b,0,none⟩)] W fun r W'=>∃v,r=.returned v∧OwnR W' W.heap.size v b (altR l k)∧Below W.heap.size W W':=by
 unfold altR looB bckB;have H:Hid (CS W b h g o n c k l):=s;obtain⟨p,hp⟩:∃p,gtP l k=p:=⟨_,rfl⟩;rw[hp];have R0:∀V,Below W.heap.size W V→Prd (fun w'=>∃x:Later V,w'=x.val) g (o+k*77) p:=fun V hV=>by rw[←hp];exact (H.out.below hV).rd
 obtain⟨q,hq⟩:∃q,o+k*77=q:=⟨_,rfl⟩;rw[hq] at R0;have HP:Hid (gtP l k=p):=hp;clear s hp;go_enter func246,ntmps246
 go_wp2_with fail
 refine (z_v H.out).mono ?_;rintro _ V ⟨rfl,b1⟩;rw[hq];have B:Hid (Below W.heap.size W V):=b1;clear b1 hq;have N42:0≤p.nm 42∧p.nm 42≤255:=p.u8 rfl;have RR:∀w0,Below V.heap.size V w0→Prd (LC w0) g q p:=fun w0 h0=>R0 w0 (z_a B.out h0)
 have AK:∀w0,Below V.heap.size V w0→∀x:Later w0,Calls prog 262 #[.pointer (some ⟨b,0,none⟩)] x.val fun r W'=>r=.returned (.bool (askP p))∧∃y:Later w0,W'=y.val:=fun w0 h0=>z_ao (H.out.below (z_a B.out h0)) HP.out;clear R0;go_upto_region 2 with fail
 refine wp_vals 42 6 50 3 9 (fun v w'=>OwnR w' W.heap.size v b [(prpB p,293),(ansB l k,276)]) (by kernel_rfl) (by kernel_rfl) (E0:=[(0,.pointer (some ⟨b,0,none⟩)),(3,.pointer (some ⟨g,q,none⟩))]) (by kernel_rfl) (fun _=>rfl) (fun v w1 w2 h1 h2=>OwnR.below h1 h2) (Has.cons rfl (Has.cons rfl (Has.nil rfl rfl))) ?_
 simp only[List.append_eq,List.cons_append,List.nil_append,List.take_succ_cons,List.take_zero,List.drop_succ_cons,List.drop_zero];refine z_f (v:=.pointer (some ⟨b,0,none⟩)) rfl (by decide) rfl (fun w0 h0 a A=>yq rfl (Rn.qt (qmove rfl (A.ev rfl)))) ?_;refine z_f (v:=.pointer (some ⟨b,0,none⟩)) rfl (by decide) rfl (fun w0 h0 a A=>yq rfl (Rn.qt (qmove rfl (A.ev rfl)))) ?_
 refine z_f (v:=.func (.func 276) #[.pointer (some ⟨b,0,none⟩)] #[]) rfl (by decide) rfl (fun w0 h0 a A=>yq rfl (Rn.qt (qfn rfl (A.ev rfl)))) ?_;refine z_ei rfl (by decide) rfl ⟨rfl,fun w0 h0 a A=>⟨264,#[.pointer (some ⟨b,0,none⟩),.func (.func 276) #[.pointer (some ⟨b,0,none⟩)] #[]],v_M rfl (A.ev rfl) (A.ev rfl) (fun V=>by go_simp),?_⟩⟩ ?_
 ·have q:=z_fE (H.out.below (z_a B.out h0)) 276;rw[HP.out] at q;refine q.mono ?_;rintro _ w' ⟨v,rfl,o1,b1⟩;exact⟨v,rfl,o1.base (z_a B.out h0).size,b1⟩
 refine z_f (v:=.pointer (some ⟨g,q,none⟩)) rfl (by decide) rfl (fun w0 h0 a A=>yq rfl (Rn.qt (qmove rfl (A.ev rfl)))) ?_;refine z_f (v:=.pointer (some ⟨g,q,none⟩)) rfl (by decide) rfl (fun w0 h0 a A=>yq rfl (Rn.qt (qnil rfl (A.ev rfl)))) ?_;refine z_f (v:=.pointer (some ⟨g,q+65,none⟩)) rfl (by decide) rfl (fun w0 h0 a A=>yq rfl (Rn.qt (qfield rfl (A.ev rfl) fp38))) ?_
 refine z_f (v:=.int .u8 (p.nm 65)) rfl (by decide) rfl (fun w0 h0 a A=>yq rfl (Rn.qt (qload rfl (A.ev rfl) ((RR w0 h0).u8 rfl)))) ?_;refine z_f (v:=.pointer (some ⟨g,q,none⟩)) rfl (by decide) rfl (fun w0 h0 a A=>yq rfl (Rn.qt (qmove rfl (A.ev rfl)))) ?_;refine z_f (v:=.pointer (some ⟨g,q,none⟩)) rfl (by decide) rfl (fun w0 h0 a A=>yq rfl (Rn.qt (qnil rfl (A.ev rfl)))) ?_
 refine z_f (v:=.pointer (some ⟨g,q+40,none⟩)) rfl (by decide) rfl (fun w0 h0 a A=>yq rfl (Rn.qt (qfield rfl (A.ev rfl) fp34))) ?_;refine z_f (v:=.pointer (some ⟨g,q+40+3,none⟩)) rfl (by decide) rfl (fun w0 h0 a A=>yq rfl (Rn.qt (qfield rfl (A.ev rfl) ft3))) ?_;refine z_f (v:=.int .u8 (p.nm 43)) rfl (by decide) rfl (fun w0 h0 a A=>yq rfl (Rn.qt (qload rfl (A.ev rfl) ((RR w0 h0).dt rfl rfl)))) ?_
 refine z_f (v:=.bool ((p.nm 65) != (p.nm 43))) rfl (by decide) rfl (fun w0 h0 a A=>yq rfl (Rn.qt (qbin rfl (A.ev rfl) (A.ev rfl) (x_a _ _ _ _ _) (u_t _ _)))) ?_;refine z_f (v:=.bool ((p.nm 65) != (p.nm 43))) rfl (by decide) rfl (fun w0 h0 a A=>yq rfl (Rn.qt (qmove rfl (A.ev rfl)))) ?_
 refine z_f (v:=gd ((p.nm 65) != (p.nm 43)) false (.pointer (some ⟨b,0,none⟩))) rfl (by decide) rfl (fun w0 h0 a A=>yq1 rfl (A.gt rfl rfl) (fun e=>Rn.qt (qmove rfl (A.ev rfl)))) ?_
 refine z_f (v:=gd ((p.nm 65) != (p.nm 43)) false (.bool (askP p))) rfl (by decide) rfl (fun w0 h0 a A=>yq1 rfl (A.gt rfl rfl) (fun e=>u_Y rfl (on e (A.ev rfl)) (fun V=>by go_simp) (fun w hw=>by obtain⟨x,rfl⟩:=hw;exact AK w0 h0 x))) ?_;refine z_f (v:=.bool (((p.nm 65) != (p.nm 43)) || (askP p))) rfl (by decide) rfl (fun w0 h0 a A=>yq rfl (Rn.qt (qpick rfl (A.ev rfl) (pkO rfl (A.ev rfl))))) ?_
 refine z_f (v:=.pointer (some ⟨b,0,none⟩)) rfl (by decide) rfl (fun w0 h0 a A=>yq rfl (Rn.qt (qmove rfl (A.ev rfl)))) ?_;refine z_f (v:=.func (.func 245) #[.pointer (some ⟨b,0,none⟩)] #[]) rfl (by decide) rfl (fun w0 h0 a A=>yq rfl (Rn.qt (qfn rfl (A.ev rfl)))) ?_
 refine z_f (v:=.agg #[.bool (((p.nm 65) != (p.nm 43)) || (askP p)),.func (.func 245) #[.pointer (some ⟨b,0,none⟩)] #[]]) rfl (by decide) rfl (fun w0 h0 a A=>yq rfl (Rn.qt (qrule rfl (A.ev rfl) (A.ev rfl)))) ?_;refine z_f (v:=.pointer (some ⟨g,q,none⟩)) rfl (by decide) rfl (fun w0 h0 a A=>yq rfl (Rn.qt (qmove rfl (A.ev rfl)))) ?_
 refine z_f (v:=.pointer (some ⟨g,q,none⟩)) rfl (by decide) rfl (fun w0 h0 a A=>yq rfl (Rn.qt (qnil rfl (A.ev rfl)))) ?_;refine z_f (v:=.pointer (some ⟨g,q+30,none⟩)) rfl (by decide) rfl (fun w0 h0 a A=>yq rfl (Rn.qt (qfield rfl (A.ev rfl) fp30))) ?_;refine z_f (v:=.int .i64 (p.nm 30)) rfl (by decide) rfl (fun w0 h0 a A=>yq rfl (Rn.qt (qload rfl (A.ev rfl) ((RR w0 h0).role rfl)))) ?_
 refine z_f (v:=.bool ((p.nm 30)==2)) rfl (by decide) rfl (fun w0 h0 a A=>yq rfl (Rn.qt (qbin rfl (A.ev rfl) rfl (w_n _ _ _ _ _) (u_G _ _)))) ?_;refine z_f (v:=.bool ((p.nm 30)==2)) rfl (by decide) rfl (fun w0 h0 a A=>yq rfl (Rn.qt (qmove rfl (A.ev rfl)))) ?_
 refine z_f (v:=gd ((p.nm 30)==2) true (.pointer (some ⟨g,q,none⟩))) rfl (by decide) rfl (fun w0 h0 a A=>yq1 rfl (A.gt rfl rfl) (fun e=>Rn.qt (qmove rfl (A.ev rfl)))) ?_;refine z_f (v:=gd ((p.nm 30)==2) true (.pointer (some ⟨g,q,none⟩))) rfl (by decide) rfl (fun w0 h0 a A=>yq1 rfl (A.gt rfl rfl) (fun e=>Rn.qt (qnil rfl (on e (A.ev rfl))))) ?_
 refine z_f (v:=gd ((p.nm 30)==2) true (.pointer (some ⟨g,q+68,none⟩))) rfl (by decide) rfl (fun w0 h0 a A=>yq1 rfl (A.gt rfl rfl) (fun e=>Rn.qt (qfield rfl (on e (A.ev rfl)) fp41))) ?_;refine z_f (v:=gd ((p.nm 30)==2) true (.int .u8 (p.nm 68))) rfl (by decide) rfl (fun w0 h0 a A=>yq1 rfl (A.gt rfl rfl) (fun e=>Rn.qt (qload rfl (on e (A.ev rfl)) ((RR w0 h0).u8 rfl)))) ?_
 refine z_f (v:=gd ((p.nm 30)==2) true (.pointer (some ⟨g,q,none⟩))) rfl (by decide) rfl (fun w0 h0 a A=>yq1 rfl (A.gt rfl rfl) (fun e=>Rn.qt (qmove rfl (A.ev rfl)))) ?_;refine z_f (v:=gd ((p.nm 30)==2) true (.pointer (some ⟨g,q,none⟩))) rfl (by decide) rfl (fun w0 h0 a A=>yq1 rfl (A.gt rfl rfl) (fun e=>Rn.qt (qnil rfl (on e (A.ev rfl))))) ?_
 refine z_f (v:=gd ((p.nm 30)==2) true (.pointer (some ⟨g,q+40,none⟩))) rfl (by decide) rfl (fun w0 h0 a A=>yq1 rfl (A.gt rfl rfl) (fun e=>Rn.qt (qfield rfl (on e (A.ev rfl)) fp34))) ?_;refine z_f (v:=gd ((p.nm 30)==2) true (.pointer (some ⟨g,q+40+2,none⟩))) rfl (by decide) rfl (fun w0 h0 a A=>yq1 rfl (A.gt rfl rfl) (fun e=>Rn.qt (qfield rfl (on e (A.ev rfl)) ft2))) ?_
 refine z_f (v:=gd ((p.nm 30)==2) true (.int .u8 (p.nm 42))) rfl (by decide) rfl (fun w0 h0 a A=>yq1 rfl (A.gt rfl rfl) (fun e=>Rn.qt (qload rfl (on e (A.ev rfl)) ((RR w0 h0).dt rfl rfl)))) ?_
 refine z_f (v:=gd ((p.nm 30)==2) true (.int .u8 (twN (p.nm 42)))) rfl (by decide) rfl (fun w0 h0 a A=>yq1 rfl (A.gt rfl rfl) (fun e=>u_Y rfl (on e (A.ev rfl)) (fun V=>by go_simp) (fun w hw=>by obtain⟨x,rfl⟩:=hw;exact Calls.later_of (z_hU (p.nm 42) x.val N42)))) ?_
 refine z_f (v:=gd ((p.nm 30)==2) true (.bool ((p.nm 68) != (twN (p.nm 42))))) rfl (by decide) rfl (fun w0 h0 a A=>yq1 rfl (A.gt rfl rfl) (fun e=>Rn.qt (qbin rfl (on e (A.ev rfl)) (on e (A.ev rfl)) (x_a _ _ _ _ _) (u_t _ _)))) ?_
 refine z_f (v:=.bool (((p.nm 30)==2) && ((p.nm 68) != (twN (p.nm 42))))) rfl (by decide) rfl (fun w0 h0 a A=>yq rfl (Rn.qt (qpick rfl (A.ev rfl) (pkA (A.ev rfl) rfl)))) ?_;refine z_f (v:=.pointer (some ⟨b,0,none⟩)) rfl (by decide) rfl (fun w0 h0 a A=>yq rfl (Rn.qt (qmove rfl (A.ev rfl)))) ?_
 refine z_f (v:=.func (.func 278) #[.pointer (some ⟨b,0,none⟩)] #[]) rfl (by decide) rfl (fun w0 h0 a A=>yq rfl (Rn.qt (qfn rfl (A.ev rfl)))) ?_;refine z_f (v:=.agg #[.bool (((p.nm 30)==2) && ((p.nm 68) != (twN (p.nm 42)))),.func (.func 278) #[.pointer (some ⟨b,0,none⟩)] #[]]) rfl (by decide) rfl (fun w0 h0 a A=>yq rfl (Rn.qt (qrule rfl (A.ev rfl) (A.ev rfl)))) ?_;refine z_jC ?_;intro a z A bz HH
 obtain⟨va,ha,oa⟩:=HH (by decide);have oa:OwnR z W.heap.size va b [(prpB p,293),(ansB l k,276)]:=oa;have bW:=z_a B.out bz;have A:=Has.cons ha A;have sb:=bsR2 b ((p.nm 65 != p.nm 43) || askP p) ((p.nm 30==2) && (p.nm 68 != twN (p.nm 42))) 245 278 z
 obtain⟨Y,hY⟩:∃Y,z.alloc (.cells (rcs b [(((p.nm 65 != p.nm 43) || askP p),245),(((p.nm 30==2) && (p.nm 68 != twN (p.nm 42))),278)]).toArray 186)=Y:=⟨_,rfl⟩;rw[hY] at sb;have bY:Below z.heap.size z Y:=by rw[←hY];exact (Below.refl _ _).alloc (Nat.le_refl _) _
 have oY:OwnR Y z.heap.size (.slice (some ⟨z.heap.size,0,none⟩) 2 2) b [(((p.nm 65 != p.nm 43) || askP p),245),(((p.nm 30==2) && (p.nm 68 != twN (p.nm 42))),278)]:=by rw[←hY];exact OwnR.new z b [(((p.nm 65 != p.nm 43) || askP p),245),(((p.nm 30==2) && (p.nm 68 != twN (p.nm 42))),278)] (by simp)
 obtain⟨a2,c2,e2,r2,_⟩:=oY.form;simp only[List.length_cons,List.length_nil,Value.slice.injEq] at e2;obtain⟨rfl,_,rfl⟩:=e2;obtain⟨v',Z,ap,oZ,gZ⟩:=(oa.below bY).app r2 (by simp) (Nat.le_trans bW.size bY.size) 183;have F:Hid (OwnR Z W.heap.size v' b ([(prpB p,293),(ansB l k,276)]++[(((p.nm 65 != p.nm 43) || askP p),245),(((p.nm 30==2) && (p.nm 68 != twN (p.nm 42))),278)])∧Below W.heap.size W Z):=by
  refine⟨oZ,(z_a bW bY).trans (z_h gZ (Nat.le_trans bW.size bY.size) (fun j e=>?_))⟩;obtain⟨a9,c9,rfl,_,h9⟩:=oa.form;cases a9 with
  | none=>cases e
  | some x9=>cases e;exact (h9 x9 rfl).1
 clear hY oa ha bW bY oY r2 oZ gZ HH;refine w_p (v:=.slice (some ⟨z.heap.size,0,none⟩) 2 2) (w':=Y) rfl (z_di rfl ?_ sb) ?_
 ·simp only[List.map_toArray,List.map_cons,List.map_nil,A.ev (s:=26) rfl,A.ev (s:=47) rfl]
 ·have A2:=A.put (d:=48) (v:=.slice (some ⟨z.heap.size,0,none⟩) 2 2) (by decide);refine w_p (v:=v') (w':=Z) rfl (z_dj rfl rfl (A2.ev rfl) (A2.ev rfl) ap) ?_;have A3:=A2.put (d:=49) (v:=v') (by decide);refine w_p (v:=v') (w':=Z) rfl (qassign (C:=fun _=>True) rfl (A3.ev rfl) Z trivial) ?_
  ·have A4:=A3.put (d:=2) (v:=v') (by decide);obtain⟨a4,h4⟩:∃a4,(((a.put (some 48) (.slice (some ⟨z.heap.size,0,none⟩) 2 2)).put (some 49) v').put (some 2) v')=a4:=⟨_,rfl⟩;rw[h4] at A4
   show wpList _ _ _ [] (((a.put (some 48) _).put (some 49) _).put (some 2) _) _
   rw[h4];clear h4 A3 A2 A;go_wp2
   exact u_h results246 A4 rfl ⟨_,rfl,F.out.1,F.out.2⟩
end S13
end
end Go.Proofs.YtlchejbggnbccaaGreat
