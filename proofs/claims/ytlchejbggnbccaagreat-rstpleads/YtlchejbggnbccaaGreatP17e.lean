/-
  A tree led to rest: the walk of Run, for every tree. And what follows from it here.
-/
import Derived.Test.YtlchejbggnbccaaGreatP17d
import Derived.Test.YtlchejbggnbccaaGreatP17c
import Derived.Test.YtlchejbggnbccaaGreatP12c
import Derived.Test.YtlchejbggnbccaaGreatP17a
import Derived.Test.YtlchejbggnbccaaGreatPbb
import Derived.Test.YtlchejbggnbccaaGreatP11d
import Derived.Test.YtlchejbggnbccaaGreatP9a
namespace Go.Proofs.YtlchejbggnbccaaGreat
set_option linter.unusedVariables false
set_option linter.unusedSimpArgs false
set_option maxRecDepth 4000
set_option maxHeartbeats 40000000
open _root_.Go.Proofs.Tryz
section
namespace S17
open Go.RowKit
abbrev z_jk:Oper:={ dst:=none,op:=Op.store 39 (Operand.tmp 2) (Operand.tmp 30),type:=0,pos:= "lead.go:21",after:=#[{ on:=3,ground:=Ground.data },{ on:=0,ground:=Ground.phase },{ on:=1,ground:=Ground.phase },{ on:=2,ground:=Ground.phase },{ on:=3,ground:=Ground.phase },{ on:=4,ground:=Ground.textOnly Departure.lateStores },{ on:=5,ground:=Ground.textOnly Departure.lateStores },{ on:=6,ground:=Ground.textOnly Departure.lateStores },{ on:=7,ground:=Ground.textOnly Departure.lateStores }],guard:=none }
abbrev z_jj:Oper:={ dst:=none,op:=Op.store 52 (Operand.tmp 3) (Operand.tmp 34),type:=0,pos:= "lead.go:21",after:=#[{ on:=7,ground:=Ground.data },{ on:=8,ground:=Ground.chain },{ on:=0,ground:=Ground.phase },{ on:=1,ground:=Ground.phase },{ on:=2,ground:=Ground.phase },{ on:=3,ground:=Ground.phase },{ on:=4,ground:=Ground.phase },{ on:=5,ground:=Ground.phase },{ on:=6,ground:=Ground.phase },{ on:=7,ground:=Ground.phase },{ on:=8,ground:=Ground.phase }],guard:=none }
theorem bdLc (c0 c1 c2 c3 c4 c5 c6 c7 c8 c9 c10 c11 c12 c13 c14 c15 v:Value) (w:World):(Instr.build 109 #[(0,.agg #[c0,c1,c2,c3,c4,c5,c6,c7,c8,c9,c10,c11,c12,c13,c14,c15,v])]).run prog w=.ok (.agg #[c0,c1,c2,c3,c4,c5,c6,c7,c8,c9,c10,c11,c12,c13,c14,c15,v,.slice none 0 0,.slice none 0 0]) w:=by kernel_rfl
def bdL (x:Array (Nat×Value)):Sem Value:=Instr.build 109 x
theorem bdLE (x:Array (Nat×Value)):Instr.build 109 x=bdL x:=rfl
theorem z_lH (h:Hd) (v:Value) (w:World):(bdL #[(0,.agg (trc h v))]).run prog w=.ok (.agg (ldc h v (.slice none 0 0) (.slice none 0 0))) w:=by
 have hl:=h.len
 rw[lenH] at hl
 unfold bdL trc ldc
 match h.cl,hl with
 | [c0,c1,c2,c3,c4,c5,c6,c7,c8,c9,c10,c11,c12,c13,c14,c15],_=>exact bdLc c0 c1 c2 c3 c4 c5 c6 c7 c8 c9 c10 c11 c12 c13 c14 c15 v w
theorem z_fJ (w:World) (h:Hd) (x:Value):∃W,((w.alloc (.cells (trc h x) 39)).alloc (.cells #[.int .u64 0,.int .u8 0,.int .u8 0,.int .u8 0,.int .u8 0,.int .u8 0,.bool false,.int .u16 0,.int .u64 0,.int .u32 0,.int .u64 0,.int .u16 0,.int .u8 0,.int .u8 0,.int .u8 0,.int .u8 0,.slice none 0 0] 39)).alloc (.cells #[.slice none 0 0,.slice none 0 0] 52)=W∧RvAt W w.heap.size 39 (trc h x)∧RvAt W (w.heap.size+1) 39 (trc zeroH (.slice none 0 0))∧RvAt W (w.heap.size+2) 52 #[.slice none 0 0,.slice none 0 0]∧Below w.heap.size w W∧W.heap.size=w.heap.size+3:=by
 obtain⟨A,hA,r0,r1,bA,zA⟩:=z_w w h x
 refine⟨_,rfl,?_⟩
 rw[hA]
 have b:Below A.heap.size A (A.alloc (.cells #[.slice none 0 0,.slice none 0 0] 52)):=(Below.refl _ _).alloc (Nat.le_refl _) _
 refine⟨r0.below b,r1.below b,?_,z_a bA b,by simp[zA]⟩
 have:=RvAt.new A 52 #[.slice none 0 0,.slice none 0 0]
 rw[zA] at this
 exact this
theorem v_O {fn:Func} {k m:Nat} {td:TypeId} (hd:RowTy td 2) (hr:fn.results=#[.cell k 39,.cell m td]) (tmps:Array Value) (w:World) (b d:Nat) (h:Hd) (x vo vf:Value) (h2:tmps.getD k undef=.pointer (some ⟨b,0,none⟩)) (h3:tmps.getD m undef=.pointer (some ⟨d,0,none⟩)) (r:RvAt w b 39 (trc h x)) (q:RvAt w d td #[vo,vf]) :
  (results fn tmps).run prog w=.ok (.tuple #[.agg (trc h x),.agg #[vo,vf]]) w:=by
 have hl:=r.lv rtT (z_c h x)
 have hq:=q.lv hd rfl
 have h2':tmps[k]?.getD undef=.pointer (some ⟨b,0,none⟩):=by simpa using h2
 have h3':tmps[m]?.getD undef=.pointer (some ⟨d,0,none⟩):=by simpa using h3
 simp[results,hr,asAddr,hl,hq,h2',h3']
theorem x_g {W:World} {L:Nat} {h:Hd} {x vo vf:Value} (r:RvAt W L 109 (ldc h x vo vf)):(ldS 39 (.pointer (some ⟨L,0,none⟩))).run prog W=.ok (.agg (trc h x)) W:=
 run_loadAt_mid W L 0 39 (trc h x).toList _ (fun j v hv=>by
  rw[Nat.zero_add]
  exact r.cell j v (z_bG (by simpa using hv))) underlying39 rfl (by rw[Array.length_toList,z_c];exact infoT)
theorem x_h {W:World} {L:Nat} {h:Hd} {x vo vf:Value} (r:RvAt W L 109 (ldc h x vo vf)):(ldS 52 (.pointer (some ⟨L,17,none⟩))).run prog W=.ok (.agg #[vo,vf]) W:=
 run_loadAt_mid W L 17 52 [vo,vf] _ (fun j v hv=>by
  have:=u_y h x vo vf
  match j,hv with
  | 0,hv=>cases hv;exact r.cell 17 _ this.2.1
  | 1,hv=>cases hv;exact r.cell 18 _ this.2.2) underlying52 rfl infoD
theorem LS.flu0 {w W X:World} {L n c:Nat} {h:Hd} {a:Option Addr} {l:List Pt} {vo vf:Value} {os:List Ot} {fs fs':List Int} (s:LS w W L h a n c l vo vf os fs) (g:W.grownBy X vf.ownBlock) (ho:S16.Own eI X w.heap.size vf fs'):LS w X L h a n c l vo vf os fs'∧Kp W X:=by
 have hv:RvAt X L 109 (ldc h (.slice a n c) vo vf):=s.var.keptBut g (by rcases s.lf with e | e<;>simp_all [Ne.symm])
 have hsl:SlAt X a n c l:=by
  by_cases h0:0<n
  ·refine s.sl.keptBut g (fun x hx e=>?_)
   obtain⟨cs,r⟩:=s.sl.soft x hx h0
   rcases z_x s.fl r (by decide) with q | q
   ·rw[q] at e;cases e
   ·exact q e.symm
  ·exact⟨⟨s.sl.len,s.sl.cap,s.sl.max,s.sl.nil,fun y _ h1=>absurd h1 h0⟩,fun y _ h1=>absurd h1 h0⟩
 have hf:S16.Own eO X w.heap.size vo os:=by
  refine s.ou.keptBut g ?_
  rcases s.fl.pat with ⟨e,_⟩ | ⟨gg,cc,rfl,_,p⟩
  ·subst e
   exact (Classical.em (vo.ownBlock=none)).imp id fun q e=>q e
  ·obtain⟨cur,hc,_⟩:=p
   exact z_x s.ou hc (by decide)
 have hb:Below w.heap.size w X:=s.bel.trans (z_h g s.bel.size (fun j e=>(s.fl.blk j e).1))
 exact⟨⟨hv,hsl,s.nw,hf,ho,hb,s.hL⟩,Kp.own s.fl g (Or.inr rfl)⟩
theorem z_az (n:Nat):∀(m:Nat) (t:Ts),(runN n m t).s.f.length≤t.s.f.length+m*n
 | 0,t=>by simp[runN]
 | m+1,t=>by
  have h1:(pass n t).s.f.length≤t.s.f.length+n:=(z_aG (S12.stpH t.h t.s.l) ⟨S12.stpL t.h t.s.l,S12.stpB t.h t.s.l,t.s.o,t.s.f⟩ n).2
  unfold runN
  split
  ·have:=z_az n m (pass n t)
   rw[Nat.succ_mul]
   omega
  ·rw[Nat.succ_mul]
   omega
attribute [local go_sem ↓] ldP stP ldT stT ldDn stDn stLO stLI bdLE
theorem z_dk (h:Hd) (a:Option Addr) (n c:Nat) (l:List Pt) (w:World) (hs:SlAt w a n c l) (hn:n≤100) :
  Calls prog 31 #[.agg (trc h (.slice a n c))] w fun r V=>∃a' c' vo vf,r=.returned (.tuple #[.agg (trc (runT h l).h (.slice a' n c')),.agg #[vo,vf]])∧SlAt V a' n c' (runT h l).s.l∧Nw w a'∧S16.Own eO V w.heap.size vo (runT h l).s.o∧S16.Own eI V w.heap.size vf (noted (runT h l).s.f)∧Below w.heap.size w V:=by
 obtain⟨T,hT⟩:∃z,runT h l=z:=⟨_,rfl⟩
 have HT:Hid (runN n 100 (start h l)=T∧T.s.f.length≤10000):=by
  have e:runN n 100 (start h l)=T:=by rw[←hT,← hs.len];rfl
  refine⟨e,?_⟩
  have:=z_az n 100 (start h l)
  rw[e] at this
  have h0:(start h l).s.f.length=0:=rfl
  omega
 rw[hT]
 clear hT
 obtain⟨W,hW,r0,r1,r2,bW,zW⟩:=z_fJ w h (.slice a n c)
 have l0:=r0.tld
 have H:Hid (SlAt W a n c l∧l.length=n∧RvAt W (w.heap.size+1) 39 (trc zeroH (.slice none 0 0))∧RvAt W (w.heap.size+2) 52 #[.slice none 0 0,.slice none 0 0]∧Below w.heap.size w W):=⟨hs.below bW,hs.len,r1,r2,bW⟩
 clear hs r0 r1 r2 bW zW
 go_enter func31,ntmps31
 go_wp2_with fail
 refine (y_Y h a n c l W H.out.1 (by omega)).mono ?_
 rintro _ X ⟨v,rfl,oX,bX⟩
 obtain⟨a0,c0,rfl,s0,p0⟩:=oX.form
 rw[H.out.2.1] at s0
 have bd:=z_lH h (.slice a0 n c0)
 rw[←H.out.2.1] at bd
 obtain⟨Y,hY⟩:∃Y,X.alloc (.cells (ldc h (.slice a0 l.length c0) (.slice none 0 0) (.slice none 0 0)) 109)=Y:=⟨_,rfl⟩
 have bY:Below X.heap.size X Y:=by rw[←hY];exact (Below.refl _ _).alloc (Nat.le_refl _) _
 have rY:RvAt Y X.heap.size 109 (ldc h (.slice a0 l.length c0) (.slice none 0 0) (.slice none 0 0)):=by rw[←hY];exact RvAt.new _ _ _
 have bw:Below w.heap.size w Y:=z_a (z_a H.out.2.2.2.2 bX) bY
 have S:Hid (LS w Y X.heap.size h a0 n c0 l (.slice none 0 0) (.slice none 0 0) [] []):=by
  refine⟨by rw[←H.out.2.1];exact rY,s0.below bY,fun x hx=>Nat.le_trans H.out.2.2.2.2.size (p0 x hx).1,S16.Own.nil _ _,S16.Own.nil _ _,bw,Nat.le_trans H.out.2.2.2.2.size bX.size⟩
 have R:Hid (RvAt Y (w.heap.size+1) 39 (trc zeroH (.slice none 0 0))∧RvAt Y (w.heap.size+2) 52 #[.slice none 0 0,.slice none 0 0]):=⟨(H.out.2.2.1.below bX).below bY,(H.out.2.2.2.1.below bX).below bY⟩
 obtain⟨L,hL⟩:∃L,X.heap.size=L:=⟨_,rfl⟩
 rw[hL] at S
 clear l0 oX bX s0 p0 bY rY bw
 go_wp2_with fail
 refine (z_gc S.out hn).mono ?_
 rintro _ V1 ⟨rfl,⟨a1,c1,vo,vf,q1⟩,k1⟩
 rw[HT.out.1] at q1
 have c18:=q1.c18
 have R1:Hid (RvAt V1 (w.heap.size+1) 39 (trc zeroH (.slice none 0 0))∧RvAt V1 (w.heap.size+2) 52 #[.slice none 0 0,.slice none 0 0]∧LS w V1 L T.h a1 n c1 T.s.l vo vf T.s.o T.s.f):=⟨k1 _ _ _ R.out.1 (by decide) (by decide) (by decide) (by decide),k1 _ _ _ R.out.2 (by decide) (by decide) (by decide) (by decide),q1⟩
 clear q1 k1 S R bd hY
 go_wp2_with fail
 refine (z_fO R1.out.2.2.fl (by have:=HT.out.2;omega)).mono ?_
 rintro _ V2 ⟨rfl,o2,g2⟩
 obtain⟨q2,k2⟩:=R1.out.2.2.flu0 g2 o2
 have d18:=q2.c18
 have R2:Hid (RvAt V2 (w.heap.size+1) 39 (trc zeroH (.slice none 0 0))∧RvAt V2 (w.heap.size+2) 52 #[.slice none 0 0,.slice none 0 0]∧LS w V2 L T.h a1 n c1 T.s.l vo vf T.s.o (T.s.f.mergeSort fun x y=>decide (x≤y))):=⟨k2 _ _ _ R1.out.1 (by decide) (by decide) (by decide) (by decide),k2 _ _ _ R1.out.2.1 (by decide) (by decide) (by decide) (by decide),q2⟩
 clear o2 g2 q2 k2 R1 c18
 go_wp2_with fail
 refine (z_hw R2.out.2.2.fl (by have:=HT.out.2;rw[List.length_mergeSort];omega)).mono ?_
 rintro _ V3 ⟨v',rfl,o3,g3⟩
 rw[z_gR] at o3
 obtain⟨V4,s4,q4,k4⟩:=R2.out.2.2.flus g3 o3
 have R4:Hid (RvAt V4 (w.heap.size+1) 39 (trc zeroH (.slice none 0 0))∧RvAt V4 (w.heap.size+2) 52 #[.slice none 0 0,.slice none 0 0]∧LS w V4 L T.h a1 n c1 T.s.l vo v' T.s.o (noted T.s.f)):=⟨k4 _ _ _ R2.out.1 (by decide) (by decide) (by decide) (by decide),k4 _ _ _ R2.out.2.1 (by decide) (by decide) (by decide) (by decide),q4⟩
 clear o3 g3 q4 k4 R2 d18
 go_upto_region 5 with fail
 clear s4
 obtain⟨X9,hX⟩:∃X0,World.drew V4=X0:=⟨_,rfl⟩
 have b9:Below V4.heap.size V4 X9:=by rw[←hX];exact (Below.refl _ _).drew
 have QU:=R4.out.2.2.below b9
 have r9:=R4.out.1.below b9
 obtain⟨U,sU,rU,gU⟩:=r9.tst (g:=T.h) (y:=.slice a1 n c1) rfl
 have dU:=(R4.out.2.1.below b9).keptBut gU (by simp)
 have lU:RvAt U L 109 (ldc T.h (.slice a1 n c1) vo v'):=QU.var.keptBut gU (by have:=z_L QU.var r9 (by decide);simpa using this)
 have sZ:=dU.st (ds:=#[vo,v']) rtD rfl rfl (by
  intro x hx
  simp only[List.mem_cons,List.not_mem_nil,or_false] at hx
  rcases hx with rfl | rfl
  ·exact w_g QU.ou
  ·exact w_g QU.fl)
 have gZ:=z_m U (w.heap.size+2) #[vo,v']
 obtain⟨Z,hZ⟩:∃Z,U.setRow (w.heap.size+2) #[vo,v']=Z:=⟨_,rfl⟩
 rw[hZ] at sZ gZ
 have lZ:=lU.keptBut gZ (by have:=z_L lU dU (by decide);simpa using this)
 have D:Hid (RvAt X9 L 109 (ldc T.h (.slice a1 n c1) vo v')∧RvAt U L 109 (ldc T.h (.slice a1 n c1) vo v')∧RvAt Z L 109 (ldc T.h (.slice a1 n c1) vo v')):=⟨QU.var,lU,lZ⟩
 have F:Hid (RvAt Z (w.heap.size+1) 39 (trc T.h (.slice a1 n c1))∧RvAt Z (w.heap.size+2) 52 #[vo,v']∧SlAt Z a1 n c1 T.s.l∧Nw w a1∧S16.Own eO Z w.heap.size vo T.s.o∧S16.Own eI Z w.heap.size v' (noted T.s.f)∧Below w.heap.size w Z):=by
  have o1:=QU.ou.keptBut gU (z_x QU.ou r9 (by decide))
  have o2:=QU.fl.keptBut gU (z_x QU.fl r9 (by decide))
  refine⟨rU.keptBut gZ (by simp),by rw[←hZ];exact dU.set,(QU.sl.keptT r9 gU).keptZ dU (by simp) gZ,QU.nw,o1.keptBut gZ (z_x o1 dU (by decide)),o2.keptBut gZ (z_x o2 dU (by decide)),gro (gro QU.bel gU (by omega) QU.bel.size) gZ (by omega) (Nat.le_trans QU.bel.size gU.size)⟩
 clear rU gU dU QU gZ hZ lU lZ r9 b9 R4
 refine wp_region_noPanic ?_
 refine wp_region_held_drew (S:=fun w'=>RvAt w' L 109 (ldc T.h (.slice a1 n c1) vo v')) (by kernel_rfl) (by rw[hX];exact D.out.1) (fun hHeld=>?_)
 rw[hX] at hHeld ⊢
 clear hX
 refine tk 0 ?_ rfl ?_ hHeld ?_
 rotate_left
 ·intro W_ hSw_
  have xt:=x_g hSw_;have xd:=x_h hSw_;clear hSw_
  go_simp<;>with_reducible rfl
 rotate_left
 refine tk 1 ?_ rfl ?_ hHeld ?_
 rotate_left
 ·intro W_ hSw_
  have xt:=x_g hSw_;have xd:=x_h hSw_;clear hSw_
  go_simp<;>with_reducible rfl
 rotate_left
 refine tk 2 ?_ rfl ?_ hHeld ?_
 rotate_left
 ·intro W_ hSw_
  have xt:=x_g hSw_;have xd:=x_h hSw_;clear hSw_
  go_simp<;>with_reducible rfl
 rotate_left
 refine tk 3 ?_ rfl ?_ hHeld ?_
 rotate_left
 ·intro W_ hSw_
  have xt:=x_g hSw_;have xd:=x_h hSw_;clear hSw_
  go_simp<;>with_reducible rfl
 rotate_left
 refine tk 4 ?_ rfl ?_ hHeld ?_
 rotate_left
 ·intro W_ hSw_
  have xt:=x_g hSw_;have xd:=x_h hSw_;clear hSw_
  go_simp<;>with_reducible rfl
 rotate_left
 refine tk 5 ?_ rfl ?_ hHeld ?_
 rotate_left
 ·intro W_ hSw_
  have xt:=x_g hSw_;have xd:=x_h hSw_;clear hSw_
  go_simp<;>with_reducible rfl
 rotate_left
 refine tk 6 ?_ rfl ?_ hHeld ?_
 rotate_left
 ·intro W_ hSw_
  have xt:=x_g hSw_;have xd:=x_h hSw_;clear hSw_
  go_simp<;>with_reducible rfl
 rotate_left
 refine tk 7 ?_ rfl ?_ hHeld ?_
 rotate_left
 ·intro W_ hSw_
  have xt:=x_g hSw_;have xd:=x_h hSw_;clear hSw_
  go_simp<;>with_reducible rfl
 rotate_left
 try simp only[Act.put,zA,zB,zC]
 refine wpAnyH_ready (rs:=[8]) (by kernel_rfl) (by simp) ?_
 refine AllReadyH.cons (o:=z_jk) rfl (fun K hK=>?_) AllReadyH.nil
 go_simp
 clear hHeld
 refine hK.out _ _ D.out.2.1 (fun hHeld=>?_)
 clear hK K
 try simp only[Act.put,zA,zB,zC]
 refine wpAnyH_ready (rs:=[9]) (by kernel_rfl) (by simp) ?_
 refine AllReadyH.cons (o:=z_jj) rfl (fun K hK=>?_) AllReadyH.nil
 go_simp
 clear hHeld
 refine hK.out _ _ D.out.2.2 (fun hHeld=>?_)
 clear hK K
 try simp only[Act.put,zA,zB,zC]
 refine wpAnyH_done (by kernel_rfl) ?_ _
 refine NoPanic.normal ?_
 clear hHeld
 clear sU sZ D
 go_wp2
 refine bodyPost_ret (v_O rtD results31 _ _ _ _ _ _ _ _ rfl rfl F.out.1 F.out.2.1) rfl ?_
 exact⟨a1,c1,vo,v',rfl,F.out.2.2⟩
end S17
end
section
namespace S17
open Go.RowKit
abbrev z_gq:Oper:={ dst:=none,op:=Op.store 39 (Operand.tmp 2) (Operand.tmp 46),type:=0,pos:= "ref.go:81",after:=#[{ on:=0,ground:=Ground.data },{ on:=0,ground:=Ground.phase },{ on:=1,ground:=Ground.textOnly Departure.lateStores }],guard:=none }
abbrev z_gp:Oper:={ dst:=none,op:=Op.store 53 (Operand.tmp 3) (Operand.tmp 47),type:=0,pos:= "ref.go:81",after:=#[{ on:=1,ground:=Ground.data },{ on:=2,ground:=Ground.chain },{ on:=0,ground:=Ground.phase },{ on:=1,ground:=Ground.phase },{ on:=2,ground:=Ground.phase }],guard:=none }
abbrev z_gv:Oper:={ dst:=none,op:=Op.store 39 (Operand.tmp 2) (Operand.tmp 42),type:=0,pos:= "ref.go:78",after:=#[{ on:=0,ground:=Ground.data },{ on:=0,ground:=Ground.phase },{ on:=1,ground:=Ground.textOnly Departure.lateStores },{ on:=2,ground:=Ground.textOnly Departure.lateStores },{ on:=3,ground:=Ground.textOnly Departure.lateStores }],guard:=none }
abbrev z_gu:Oper:={ dst:=none,op:=Op.store 53 (Operand.tmp 3) (Operand.tmp 43),type:=0,pos:= "ref.go:78",after:=#[{ on:=1,ground:=Ground.data },{ on:=4,ground:=Ground.chain },{ on:=0,ground:=Ground.phase },{ on:=1,ground:=Ground.phase },{ on:=2,ground:=Ground.textOnly Departure.lateStores },{ on:=3,ground:=Ground.textOnly Departure.lateStores },{ on:=4,ground:=Ground.phase }],guard:=none }
structure RP (w W:World) (h:Hd) (a:Option Addr) (n c:Nat) (l:List Pt) (vo vf:Value) (os:List Ot) (fs:List Int):Prop where
 tv:RvAt W w.heap.size 39 (trc h (.slice a n c))
 tt:RvAt W (w.heap.size+1) 39 (trc zeroH (.slice none 0 0))
 dd:RvAt W (w.heap.size+2) 53 #[.slice none 0 0,.slice none 0 0]
 dv:RvAt W (w.heap.size+3) 53 #[vo,vf]
 sl:SlAt W a n c l
 so:isO W vo os
 sf:isI W vf fs
 bel:Below w.heap.size w W
section
variable {w W V X:World} {h h':Hd} {a a':Option Addr} {n c c':Nat} {l l':List Pt} {vo vf vo' vf':Value} {os os':List Ot} {fs fs':List Int}
theorem RP.below (s:RP w W h a n c l vo vf os fs) (k:Below W.heap.size W V):RP w V h a n c l vo vf os fs:=⟨s.tv.below k,s.tt.below k,s.dd.below k,s.dv.below k,s.sl.below k,s.so.below k,s.sf.below k,z_a s.bel k⟩
theorem RP.tree (s:RP w X h a n c l vo vf os fs) (hs:SlAt X a' n c' l'):∃V,(stS 39 (.pointer (some ⟨w.heap.size,0,none⟩)) (.agg (trc h' (.slice a' n c')))).run prog X=.ok () V∧RP w V h' a' n c' l' vo vf os fs∧X.grownBy V (some w.heap.size):=by
 obtain⟨V,e,r,g⟩:=s.tv.tst (g:=h') (y:=.slice a' n c') rfl
 exact⟨V,e,⟨r,s.tt.keptBut g (by simp),s.dd.keptBut g (by simp),s.dv.keptBut g (by simp),hs.keptT s.tv g,s.so.row s.tv (by decide) g,s.sf.row s.tv (by decide) g,gro s.bel g (Nat.le_refl _) s.bel.size⟩,g⟩
theorem y_g {vo vf:Value} (h1:vo.oneCell'=true) (h2:vf.oneCell'=true):∀v∈(#[vo,vf]:Array Value).toList,v.oneCell'=true:=by
 intro x hx
 simp only[List.mem_cons,List.not_mem_nil,or_false] at hx
 rcases hx with rfl | rfl
 ·exact h1
 ·exact h2
theorem RP.dn (s:RP w X h a n c l vo vf os fs) (ho:isO X vo' os') (hf:isI X vf' fs'):∃V,(stS 53 (.pointer (some ⟨w.heap.size+3,0,none⟩)) (.agg #[vo',vf'])).run prog X=.ok () V∧RP w V h a n c l vo' vf' os' fs'∧X.grownBy V (some (w.heap.size+3)):=by
 have e:=s.dv.st (ds:=#[vo',vf']) rtE rfl rfl (y_g ho.one hf.one)
 have g:=z_m X (w.heap.size+3) #[vo',vf']
 exact⟨_,e,⟨s.tv.keptBut g (by simp),s.tt.keptBut g (by simp),s.dd.keptBut g (by simp),s.dv.set,s.sl.keptZ s.dv (by simp) g,ho.row s.dv (by decide) g,hf.row s.dv (by decide) g,gro s.bel g (by omega) s.bel.size⟩,g⟩
end
theorem z_jB (w:World) (h:Hd) (x:Value):∃W,(((w.alloc (.cells (trc h x) 39)).alloc (.cells #[.int .u64 0,.int .u8 0,.int .u8 0,.int .u8 0,.int .u8 0,.int .u8 0,.bool false,.int .u16 0,.int .u64 0,.int .u32 0,.int .u64 0,.int .u16 0,.int .u8 0,.int .u8 0,.int .u8 0,.int .u8 0,.slice none 0 0] 39)).alloc (.cells #[.slice none 0 0,.slice none 0 0] 53)).alloc (.cells #[.slice none 0 0,.slice none 0 0] 53)=W∧RvAt W w.heap.size 39 (trc h x)∧RvAt W (w.heap.size+1) 39 (trc zeroH (.slice none 0 0))∧RvAt W (w.heap.size+2) 53 #[.slice none 0 0,.slice none 0 0]∧RvAt W (w.heap.size+3) 53 #[.slice none 0 0,.slice none 0 0]∧Below w.heap.size w W∧W.heap.size=w.heap.size+4:=by
 obtain⟨A,hA,r0,r1,bA,zA⟩:=z_w w h x
 refine⟨_,rfl,?_⟩
 rw[hA]
 obtain⟨B,hB⟩:∃B,A.alloc (.cells #[.slice none 0 0,.slice none 0 0] 53)=B:=⟨_,rfl⟩
 have rB:RvAt B (w.heap.size+2) 53 #[.slice none 0 0,.slice none 0 0]:=by rw[←hB,← zA];exact RvAt.new _ _ _
 have bB:Below A.heap.size A B:=by rw[←hB];exact (Below.refl _ _).alloc (Nat.le_refl _) _
 have zB:B.heap.size=w.heap.size+3:=by rw[←hB];simp[zA]
 rw[hB]
 have b:Below B.heap.size B (B.alloc (.cells #[.slice none 0 0,.slice none 0 0] 53)):=(Below.refl _ _).alloc (Nat.le_refl _) _
 refine⟨(r0.below bB).below b,(r1.below bB).below b,rB.below b,?_,z_a (z_a bA bB) b,by simp[zB]⟩
 have:=RvAt.new B 53 #[.slice none 0 0,.slice none 0 0]
 rw[zB] at this
 exact this
theorem z_ly {n m:Nat} {t:Ts} (h:(pass n t).s.b=true):cntN n (m+1) t=cntN n m (pass n t)+1:=if_pos h
theorem z_km {n m:Nat} {t:Ts} (h:(pass n t).s.b=false):cntN n (m+1) t=1:=if_neg (by rw[h];simp)
def cntT (h:Hd) (l:List Pt):Nat:=cntN l.length 100 (start h l)
theorem z_gS (l:List Int) (i:Int):(noteL l i).length≤l.length+1:=by
 induction l with
 | nil=>simp[noteL]
 | cons x r ih=>
  unfold noteL
  split
  ·simp;omega
  ·split<;>simp
theorem z_ac (l:List Int):(noted l).length≤l.length:=by
 have:∀(l a:List Int),(l.foldl noteL a).length≤a.length+l.length:=by
  intro l
  induction l with
  | nil=>intro a;simp
  | cons x r ih=>
   intro a
   have h1:=ih (noteL a x)
   have h2:=z_gS a x
   simp only[List.foldl_cons,List.length_cons]
   omega
 have h:=this l []
 show (l.foldl noteL []).length≤l.length
 simpa using h
theorem nilO (W:World):isO W (.slice none 0 0) []:=⟨none,0,0,rfl,S16.SlAt.none' W⟩
theorem nilI (W:World):isI W (.slice none 0 0) []:=⟨none,0,0,rfl,S16.SlAt.none' W⟩
attribute [local go_sem ↓] ldT stT ldEn stEn
theorem z_aB (h:Hd) (a:Option Addr) (n c:Nat) (l:List Pt) (w:World) (hs:SlAt w a n c l) (hn:n≤100) :
  Calls prog 33 #[.agg (trc h (.slice a n c))] w fun r V=>∃a' c' vo vf,r=.returned (.tuple #[.agg (trc (runT h l).h (.slice a' n c')),.agg #[vo,vf],.int .i64 (cntT h l:Int)])∧SlAt V a' n c' (runT h l).s.l∧isO V vo (runT h l).s.o∧isI V vf (noted (runT h l).s.f)∧Below w.heap.size w V:=by
 obtain⟨T,hT⟩:∃z,runT h l=z:=⟨_,rfl⟩
 obtain⟨N,hN⟩:∃z,cntT h l=z:=⟨_,rfl⟩
 have HT:Hid (runN n (100-0) (start h l)=T∧cntN n (100-0) (start h l)+0=N):=⟨by rw[←hT,← hs.len];rfl,by rw[←hN,← hs.len];rfl⟩
 rw[hT,hN]
 obtain⟨W,hW,r0,r1,r2,r3,bW,zW⟩:=z_jB w h (.slice a n c)
 have S0:Hid (RP w W h a n c l (.slice none 0 0) (.slice none 0 0) [] []):=⟨r0,r1,r2,r3,hs.below bW,nilO _,nilI _,bW⟩
 clear hT hN hs r0 r1 r2 r3 bW zW
 go_enter func33,ntmps33
 go_wp2_with fail
 go_loopw [6] (fun v6 wr=>∃(j:Nat) (t:Ts) (a:Option Addr) (c:Nat) (vo vf:Value),j≤100∧v6=.int .i64 j∧runN n (100-j) t=T∧cntN n (100-j) t+j=N∧RP w wr t.h a n c t.s.l vo vf t.s.o (noted t.s.f)∧t.s.o.length≤j*n∧t.s.f.length≤j*n) (fun v6 _=>100-(intOf v6).toNat)
 case atStart=>exact⟨0,start h l,a,c,_,_,by omega,rfl,HT.out.1,HT.out.2,S0.out,by simp[start],by simp[start]⟩
 case round=>
  obtain⟨j,t,a1,c1,vo1,vf1,hj,rfl,hrun,hcnt,hR,hol,hfl⟩:=hrel
  obtain⟨V0,rfl⟩:∃V,V=wr:=⟨_,rfl⟩
  by_cases hj1:j<100
  rotate_left
  ·have hj2:j=100:=by omega
   subst hj2
   have e1:t=T:=hrun
   have e2:N=101:=by rw[←hcnt];rfl
   subst e1
   subst e2
   obtain⟨D,a8,c8,vo8,vf8,R8⟩:∃D a8 c8 vo8 vf8,Hid (D=V0∧a8=a1∧c8=c1∧vo8=vo1∧vf8=vf1∧RP w D t.h a8 n c8 t.s.l vo8 vf8 t.s.o (noted t.s.f)):=⟨V0,a1,c1,vo1,vf1,rfl,rfl,rfl,rfl,rfl,hR⟩
   obtain⟨rfl,rfl,rfl,rfl,rfl,hq⟩:=R8.out
   have R8:Hid (RP w D t.h a8 n c8 t.s.l vo8 vf8 t.s.o (noted t.s.f)):=hq
   clear hrun hcnt hR hol hfl S0 HT hq
   go_upto_region 15 with fail
   obtain⟨X0,hX⟩:∃X0,World.drew D=X0:=⟨_,rfl⟩
   have bX:Below D.heap.size D X0:=by rw[←hX];exact (Below.refl _ _).drew
   have QU:=R8.out.below bX
   obtain⟨U,sU,rU,gU⟩:=QU.tt.tst (g:=t.h) (y:=.slice a8 n c8) rfl
   have dU:=QU.dd.keptBut gU (by simp)
   have sZ:=dU.st (ds:=#[vo8,vf8]) rtE rfl rfl (y_g QU.so.one QU.sf.one)
   have gZ:=z_m U (w.heap.size+2) #[vo8,vf8]
   obtain⟨Z,hZ⟩:∃Z,U.setRow (w.heap.size+2) #[vo8,vf8]=Z:=⟨_,rfl⟩
   rw[hZ] at sZ gZ
   have DD:Hid ((RvAt X0 w.heap.size 39 (trc t.h (.slice a8 n c8))∧RvAt X0 (w.heap.size+3) 53 #[vo8,vf8])∧(RvAt U w.heap.size 39 (trc t.h (.slice a8 n c8))∧RvAt U (w.heap.size+3) 53 #[vo8,vf8])∧(RvAt Z w.heap.size 39 (trc t.h (.slice a8 n c8))∧RvAt Z (w.heap.size+3) 53 #[vo8,vf8])):=by
    have h1:=QU.tv.keptBut gU (by simp)
    have h2:=QU.dv.keptBut gU (by simp)
    exact⟨⟨QU.tv,QU.dv⟩,⟨h1,h2⟩,h1.keptBut gZ (by simp),h2.keptBut gZ (by simp)⟩
   have F:Hid (RvAt Z (w.heap.size+1) 39 (trc t.h (.slice a8 n c8))∧RvAt Z (w.heap.size+2) 53 #[vo8,vf8]∧SlAt Z a8 n c8 t.s.l∧isO Z vo8 t.s.o∧isI Z vf8 (noted t.s.f)∧Below w.heap.size w Z):=by
    refine⟨rU.keptBut gZ (by simp),by rw[←hZ];exact dU.set,(QU.sl.keptT QU.tt gU).keptZ dU (by simp) gZ,(QU.so.row QU.tt (by decide) gU).row dU (by decide) gZ,(QU.sf.row QU.tt (by decide) gU).row dU (by decide) gZ,gro (gro QU.bel gU (by omega) QU.bel.size) gZ (by omega) (Nat.le_trans QU.bel.size gU.size)⟩
   clear bX QU rU gU dU gZ hZ R8
   refine wp_region_noPanic ?_
   refine wp_region_held_drew (S:=fun w'=>RvAt w' w.heap.size 39 (trc t.h (.slice a8 n c8))∧RvAt w' (w.heap.size+3) 53 #[vo8,vf8]) (by kernel_rfl) (by rw[hX];exact DD.out.1) (fun hHeld=>?_)
   rw[hX] at hHeld ⊢
   clear hX
   refine tk 0 ?_ rfl ?_ hHeld ?_
   rotate_left
   ·intro W_ hSw_
    have xt:=hSw_.1.tld;have xd:=hSw_.2.ld rtE rfl;clear hSw_
    go_simp<;>with_reducible rfl
   rotate_left
   refine tk 1 ?_ rfl ?_ hHeld ?_
   rotate_left
   ·intro W_ hSw_
    have xt:=hSw_.1.tld;have xd:=hSw_.2.ld rtE rfl;clear hSw_
    go_simp<;>with_reducible rfl
   rotate_left
   try simp only[Act.put,zA,zB,zC]
   refine wpAnyH_ready (rs:=[2]) (by kernel_rfl) (by simp) ?_
   refine AllReadyH.cons (o:=z_gq) rfl (fun K hK=>?_) AllReadyH.nil
   go_simp
   clear hHeld
   refine hK.out _ _ DD.out.2.1 (fun hHeld=>?_)
   clear hK K
   try simp only[Act.put,zA,zB,zC]
   refine wpAnyH_ready (rs:=[3]) (by kernel_rfl) (by simp) ?_
   refine AllReadyH.cons (o:=z_gp) rfl (fun K hK=>?_) AllReadyH.nil
   go_simp
   clear hHeld
   refine hK.out _ _ DD.out.2.2 (fun hHeld=>?_)
   clear hK K
   refine tk 4 ?_ rfl ?_ hHeld ?_
   rotate_left
   ·intro W_ hSw_
    have xt:=hSw_.1.tld;have xd:=hSw_.2.ld rtE rfl;clear hSw_
    go_simp<;>with_reducible rfl
   rotate_left
   try simp only[Act.put,zA,zB,zC]
   refine wpAnyH_done (by kernel_rfl) ?_ _
   refine NoPanic.normal ?_
   clear hHeld
   clear sU sZ DD
   go_wp2
   try rw[Exit.noGoto_ret]
   refine bodyPost_ret (z_B rtE results33 _ _ _ _ _ _ _ _ rfl rfl F.out.1 F.out.2.1) rfl ?_
   exact⟨a8,c8,vo8,vf8,rfl,F.out.2.2⟩
  have hj3:(j:Int)<100:=by omega
  have J:Hid (runN n (100-j) t=T∧cntN n (100-j) t+j=N∧t.s.o.length≤j*n∧t.s.f.length≤j*n∧j*n+n≤10000):=⟨hrun,hcnt,hol,hfl,by have:j*n≤99*100:=Nat.mul_le_mul (by omega) hn;omega⟩
  have R1:Hid (RP w V0 t.h a1 n c1 t.s.l vo1 vf1 t.s.o (noted t.s.f)):=hR
  have lt:=hR.tv.tld
  clear hrun hcnt hR hol hfl S0 HT
  go_wp2_with fail
  refine (S12.x_e t.h a1 n c1 t.s.l V0 R1.out.sl (by omega)).mono ?_
  rintro _ X1 ⟨a2,c2,rfl,s2,b2⟩
  obtain⟨hh,ehh⟩:∃z,S12.stpH t.h t.s.l=z:=⟨_,rfl⟩
  obtain⟨s1,es1⟩:∃z:Ps,(⟨S12.stpL t.h t.s.l,S12.stpB t.h t.s.l,t.s.o,t.s.f⟩:Ps)=z:=⟨_,rfl⟩
  have EP:Hid (pass n t=⟨hh,psN hh n s1⟩∧s1.o.length≤j*n∧s1.f.length≤j*n):=⟨by unfold pass;rw[ehh,es1],by rw[←es1];exact J.out.2.2.1,by rw[←es1];exact J.out.2.2.2.1⟩
  have eb1:S12.stpB t.h t.s.l=s1.b:=by rw[←es1]
  rw[eb1,ehh]
  have el1:S12.stpL t.h t.s.l=s1.l:=by rw[←es1]
  rw[el1] at s2
  obtain⟨Y1,t1,r1,bY1,zY1⟩:=z_bB X1 hh (.slice a2 n c2) rfl
  obtain⟨z,hz⟩:∃z,X1.heap.size=z:=⟨_,rfl⟩
  rw[hz] at t1 r1
  have l7:=r1.tld
  obtain⟨Y2,t2,R2',g2⟩:=((R1.out.below b2).below bY1).tree (h':=hh) (s2.below bY1)
  have R2:Hid (RP w Y2 hh a2 n c2 s1.l vo1 vf1 s1.o (noted s1.f)):=by rw[←es1];exact (by rw[←es1] at R2';exact R2')
  clear s2 b2 r1 bY1 zY1 R2' g2 ehh es1 eb1 el1 R1
  go_wp2_with fail
  go_loopw [8,9] (fun v8 v9 wr=>∃(i:Nat) (a:Option Addr) (c:Nat) (vo vf:Value),i≤n∧v9=.int .i64 i∧v8=.bool (psN hh i s1).b∧RP w wr hh a n c (psN hh i s1).l vo vf (psN hh i s1).o (noted (psN hh i s1).f)) (fun _ v9 _=>n-(intOf v9).toNat)
  case atStart=>exact⟨0,a2,c2,vo1,vf1,by omega,rfl,rfl,R2.out⟩
  case round=>
   obtain⟨i,a3,c3,vo3,vf3,hi,rfl,rfl,hR⟩:=hrel
   obtain⟨V2,rfl⟩:∃V,V=wr:=⟨_,rfl⟩
   clear lt t1 t2 l7 hz
   have c16:=hR.tv.t16
   by_cases hi1:i<n
   rotate_left
   ·have hi2:i=n:=by omega
    subst hi2
    have hlt:¬ (i:Int)<(i:Int):=by omega
    have PE:=EP.out.1
    obtain⟨sn,esn⟩:∃z,psN hh i s1=z:=⟨_,rfl⟩
    have LN:=z_aG hh s1 i
    rw[esn] at PE hR LN ⊢
    have G:Hid (pass i t=⟨hh,sn⟩∧sn.o.length≤(j+1)*i∧sn.f.length≤(j+1)*i∧RP w V2 hh a3 i c3 sn.l vo3 vf3 sn.o (noted sn.f)):=⟨PE,by rw[Nat.succ_mul];have:=EP.out.2.1;omega,by rw[Nat.succ_mul];have:=EP.out.2.2;omega,hR⟩
    clear hR PE LN esn R2 EP
    obtain⟨bb,hbb⟩:∃z,sn.b=z:=⟨_,rfl⟩
    rw[hbb]
    cases bb
    ·have e1:T=⟨hh,sn⟩∧N=j+1:=by
      have q:100-j=(100-j-1)+1:=by omega
      have e2:=J.out.1
      have e3:=J.out.2.1
      rw[q,z_dh (by rw[G.out.1];exact hbb),G.out.1] at e2
      rw[q,z_km (by rw[G.out.1];exact hbb)] at e3
      exact⟨e2.symm,by omega⟩
     obtain⟨D,a8,c8,vo8,vf8,n8,R8⟩:∃D a8 c8 vo8 vf8 n8,Hid (D=V2∧a8=a3∧c8=c3∧vo8=vo3∧vf8=vf3∧n8=i∧RP w D T.h a8 n8 c8 T.s.l vo8 vf8 T.s.o (noted T.s.f)):=⟨V2,a3,c3,vo3,vf3,i,rfl,rfl,rfl,rfl,rfl,rfl,by rw[e1.1];exact G.out.2.2.2⟩
     obtain⟨rfl,rfl,rfl,rfl,rfl,rfl,hq⟩:=R8.out
     have R8:Hid (RP w D T.h a8 n8 c8 T.s.l vo8 vf8 T.s.o (noted T.s.f)):=hq
     have EN:Hid (N=j+1):=e1.2
     have EW:Hid (Value.int .i64 (IntKind.i64.wrap ((j:Int)+1))=.int .i64 ((j+1:Nat):Int)):=(show Value.int .i64 (IntKind.i64.wrap ((j:Int)+1))=.int .i64 ((j+1:Nat):Int) from congrArg _ (by simp only[IntKind.wrap,IntKind.bits,IntKind.signed];simp;omega))
     have hjw:-9223372036854775808≤(j:Int)+1∧(j:Int)+1≤9223372036854775807:=by omega
     clear hbb e1 hq G
     go_upto_region 14 with fail
     obtain⟨X0,hX⟩:∃X0,World.drew D=X0:=⟨_,rfl⟩
     have bX:Below D.heap.size D X0:=by rw[←hX];exact (Below.refl _ _).drew
     have QU:=R8.out.below bX
     obtain⟨U,sU,rU,gU⟩:=QU.tt.tst (g:=T.h) (y:=.slice a8 n8 c8) rfl
     have dU:=QU.dd.keptBut gU (by simp)
     have sZ:=dU.st (ds:=#[vo8,vf8]) rtE rfl rfl (y_g QU.so.one QU.sf.one)
     have gZ:=z_m U (w.heap.size+2) #[vo8,vf8]
     obtain⟨Z,hZ⟩:∃Z,U.setRow (w.heap.size+2) #[vo8,vf8]=Z:=⟨_,rfl⟩
     rw[hZ] at sZ gZ
     have DD:Hid ((RvAt X0 w.heap.size 39 (trc T.h (.slice a8 n8 c8))∧RvAt X0 (w.heap.size+3) 53 #[vo8,vf8])∧(RvAt U w.heap.size 39 (trc T.h (.slice a8 n8 c8))∧RvAt U (w.heap.size+3) 53 #[vo8,vf8])∧(RvAt Z w.heap.size 39 (trc T.h (.slice a8 n8 c8))∧RvAt Z (w.heap.size+3) 53 #[vo8,vf8])):=by
      have h1:=QU.tv.keptBut gU (by simp)
      have h2:=QU.dv.keptBut gU (by simp)
      exact⟨⟨QU.tv,QU.dv⟩,⟨h1,h2⟩,h1.keptBut gZ (by simp),h2.keptBut gZ (by simp)⟩
     have F:Hid (RvAt Z (w.heap.size+1) 39 (trc T.h (.slice a8 n8 c8))∧RvAt Z (w.heap.size+2) 53 #[vo8,vf8]∧SlAt Z a8 n8 c8 T.s.l∧isO Z vo8 T.s.o∧isI Z vf8 (noted T.s.f)∧Below w.heap.size w Z):=by
      refine⟨rU.keptBut gZ (by simp),by rw[←hZ];exact dU.set,(QU.sl.keptT QU.tt gU).keptZ dU (by simp) gZ,(QU.so.row QU.tt (by decide) gU).row dU (by decide) gZ,(QU.sf.row QU.tt (by decide) gU).row dU (by decide) gZ,gro (gro QU.bel gU (by omega) QU.bel.size) gZ (by omega) (Nat.le_trans QU.bel.size gU.size)⟩
     clear bX QU rU gU dU gZ hZ R8
     refine wp_region_noPanic ?_
     refine wp_region_held_drew (S:=fun w'=>RvAt w' w.heap.size 39 (trc T.h (.slice a8 n8 c8))∧RvAt w' (w.heap.size+3) 53 #[vo8,vf8]) (by kernel_rfl) (by rw[hX];exact DD.out.1) (fun hHeld=>?_)
     rw[hX] at hHeld ⊢
     clear hX
     refine tk 0 ?_ rfl ?_ hHeld ?_
     rotate_left
     ·intro W_ hSw_
      have xt:=hSw_.1.tld;have xd:=hSw_.2.ld rtE rfl;clear hSw_
      go_simp<;>with_reducible rfl
     rotate_left
     refine tk 1 ?_ rfl ?_ hHeld ?_
     rotate_left
     ·intro W_ hSw_
      have xt:=hSw_.1.tld;have xd:=hSw_.2.ld rtE rfl;clear hSw_
      go_simp<;>with_reducible rfl
     rotate_left
     refine tk 2 ?_ rfl ?_ hHeld ?_
     rotate_left
     ·intro W_ hSw_
      have xt:=hSw_.1.tld;have xd:=hSw_.2.ld rtE rfl;clear hSw_
      go_simp<;>with_reducible rfl
     rotate_left
     refine tk 3 ?_ rfl ?_ hHeld ?_
     rotate_left
     ·intro W_ hSw_
      have xt:=hSw_.1.tld;have xd:=hSw_.2.ld rtE rfl;clear hSw_
      go_simp<;>with_reducible rfl
     rotate_left
     try simp only[Act.put,zA,zB,zC]
     refine wpAnyH_ready (rs:=[4]) (by kernel_rfl) (by simp) ?_
     refine AllReadyH.cons (o:=z_gv) rfl (fun K hK=>?_) AllReadyH.nil
     go_simp
     clear hHeld
     refine hK.out _ _ DD.out.2.1 (fun hHeld=>?_)
     clear hK K
     try simp only[Act.put,zA,zB,zC]
     refine wpAnyH_ready (rs:=[5]) (by kernel_rfl) (by simp) ?_
     refine AllReadyH.cons (o:=z_gu) rfl (fun K hK=>?_) AllReadyH.nil
     go_simp
     clear hHeld
     refine hK.out _ _ DD.out.2.2 (fun hHeld=>?_)
     clear hK K
     refine tk 6 ?_ rfl ?_ hHeld ?_
     rotate_left
     ·intro W_ hSw_
      have xt:=hSw_.1.tld;have xd:=hSw_.2.ld rtE rfl;clear hSw_
      go_simp<;>with_reducible rfl
     rotate_left
     try simp only[Act.put,zA,zB,zC]
     refine wpAnyH_done (by kernel_rfl) ?_ _
     refine NoPanic.normal ?_
     clear hHeld
     clear sU sZ DD
     go_wp2
     try rw[Exit.noGoto_ret]
     refine bodyPost_ret (z_B rtE results33 _ _ _ _ _ _ _ _ rfl rfl F.out.1 F.out.2.1) rfl ?_
     exact⟨a8,c8,vo8,vf8,by rw[EN.out,← EW.out];rfl,F.out.2.2⟩
    ·have G2:Hid (runN i (100-(j+1)) ⟨hh,sn⟩=T∧cntN i (100-(j+1)) ⟨hh,sn⟩+(j+1)=N):=by
      have q:100-j=(100-(j+1))+1:=by omega
      have e2:=J.out.1
      have e3:=J.out.2.1
      rw[q,z_ib (by rw[G.out.1];exact hbb),G.out.1] at e2
      rw[q,z_ly (by rw[G.out.1];exact hbb),G.out.1] at e3
      exact⟨e2,by omega⟩
     clear hbb
     go_wp2
     go_roundw
     case rel=>exact⟨j+1,⟨hh,sn⟩,a3,c3,vo3,vf3,by omega,by go_num,G2.out.1,G2.out.2,G.out.2.2.2,G.out.2.1,G.out.2.2.1⟩
     case measure=>simp[intOf];omega
   have hi3:(i:Int)<(n:Int):=by omega
   obtain⟨si,esi⟩:∃z,psN hh i s1=z:=⟨_,rfl⟩
   have LN:=z_aG hh s1 i
   rw[esi] at hR LN ⊢
   have I:Hid (psN hh (i+1) s1=ptF hh i si∧si.o.length≤10000∧si.f.length≤10000):=⟨by rw[←esi];rfl,by have:=EP.out.2.1;have:=J.out.2.2.2.2;omega,by have:=EP.out.2.2;have:=J.out.2.2.2.2;omega⟩
   have ld:=hR.dv.ld rtE rfl
   have lt2:=hR.tv.tld
   have R3:Hid (RP w V2 hh a3 n c3 si.l vo3 vf3 si.o (noted si.f)):=hR
   clear hR LN esi R2
   obtain⟨bi,hbi⟩:∃z,si.b=z:=⟨_,rfl⟩
   have BI:Hid (si.b=bi):=hbi
   rw[hbi]
   clear hbi
   go_wp2_with fail
   refine (z_dw hh a3 n c3 si.l vo3 vf3 si.o si.f i si.b V2 R3.out.sl R3.out.so R3.out.sf hn hi1 (by have:=I.out.2.1;omega) (by have:=I.out.2.2;have:=z_ac si.f;omega)).mono ?_
   rintro _ X3 ⟨x,a4,c4,vo4,vf4,rfl,eb,s4,o4,f4,b4⟩
   have ES:Hid (psN hh (i+1) s1=ptF hh i ⟨si.l,si.b,si.o,si.f⟩):=I.out.1
   obtain⟨sq,esq⟩:∃z,ptF hh i ⟨si.l,si.b,si.o,si.f⟩=z:=⟨_,rfl⟩
   rw[esq] at eb s4 o4 f4 ES
   obtain⟨V3,t3,R4',g3⟩:=(R3.out.below b4).tree (h':=hh) s4
   obtain⟨V4,t4,R5',g4⟩:=R4'.dn (o4.row (R3.out.below b4).tv (by decide) g3) (f4.row (R3.out.below b4).tv (by decide) g3)
   have R5:Hid (RP w V4 hh a4 n c4 sq.l vo4 vf4 sq.o (noted sq.f)∧sq.b=(bi || x)):=⟨R5',by rw[eb,BI.out]⟩
   clear eb s4 o4 f4 b4 esq R4' g3 R5' g4 R3 ld lt2 c16
   cases bi
   ·go_wp2
    go_roundw
    case rel=>exact⟨i+1,a4,c4,vo4,vf4,by omega,by go_num,by rw[ES.out,R5.out.2];simp,by rw[ES.out];exact R5.out.1⟩
    case measure=>simp[intOf];omega
   ·go_wp2
    go_roundw
    case rel=>exact⟨i+1,a4,c4,vo4,vf4,by omega,by go_num,by rw[ES.out,R5.out.2];simp,by rw[ES.out];exact R5.out.1⟩
    case measure=>simp[intOf];omega
end S17
end
section
namespace S17
open Go.RowKit
theorem eqOut (a b:Ot) (w:World):(Op.equalIn 10000 91 (.agg a.cs) (.agg b.cs)).run prog w=.ok (a.eq b) w:=x_L S15.plainO a b w
theorem gdO:prog.eqGuardType prog.depth 91=false:=by kernel_rfl
theorem eqgO (op:BinOp) (x y:Operand) (a b:Ot) (w:World):(eqGuard op 91 x y (.agg a.cs) (.agg b.cs)).run prog w=.ok () w:=run_eqGuard_agg w op _ x y _ _ gdO
theorem neqO (a b:Ot) (w:World):(binOp .neq 91 (.agg a.cs) (.agg b.cs)).run prog w=.ok (.bool (!(a.eq b))) w:=by
 rw[run_neq_struct,eqOut]
 rfl
theorem ldO (x:Value):Instr.loadAt 91 x=ldS 91 x:=rfl
attribute [local go_sem ↓] ldO eqgO neqO
theorem z_db (a a':Option Addr) (n c c':Nat) (l:List Ot) (w:World) (hs:S16.SlAt eO w a n c l) (hs':S16.SlAt eO w a' n c' l) (hn:n≤100000) :
  Calls prog 50 #[.slice a n c,.slice a' n c'] w fun r V=>r=.returned (.bool true)∧Below w.heap.size w V:=by
 have H:Hid (S16.SlAt eO w a n c l∧S16.SlAt eO w a' n c' l):=⟨hs,hs'⟩
 clear hs hs'
 go_enter func50,ntmps50
 go_wp2_with fail
 go_loopw [5] (fun v5 wr=>∃j:Nat,j≤n∧v5=.int .i64 j∧Below w.heap.size w wr) (fun v5 _=>n-(intOf v5).toNat)
 case atStart=>exact⟨0,by omega,rfl,Below.refl _ _⟩
 case round=>
  obtain⟨j,hj,rfl,hb⟩:=hrel
  have hj0:(0:Int)≤(j:Int):=by omega
  have B:Hid (Below w.heap.size w wr):=hb
  clear hb
  by_cases hjn:j<n
  ·have hj1:(j:Int)<(n:Int):=by omega
   obtain⟨b,o,rfl⟩:=H.out.1.some' (by omega)
   obtain⟨b',o',rfl⟩:=H.out.2.some' (by omega)
   obtain⟨x,hx⟩:∃x,l[j]?=some x:=⟨_,List.getElem?_eq_getElem (by rw[H.out.1.len];exact hjn)⟩
   have f1:=fun q:Later wr=>((H.out.1.below B.out).below q.below).ld kO (q:=o+j*17) hx underlying91 rfl rfl
   have f2:=fun q:Later wr=>((H.out.2.below B.out).below q.below).ld kO (q:=o'+j*17) hx underlying91 rfl rfl
   have f1:∀q:Later wr,(ldS 91 (.pointer (some ⟨b,o+j*17,none⟩))).run prog q.val=.ok (.agg x.cs) q.val:=f1
   have f2:∀q:Later wr,(ldS 91 (.pointer (some ⟨b',o'+j*17,none⟩))).run prog q.val=.ok (.agg x.cs) q.val:=f2
   have ee:x.eq x=true:=Row.eq_self x
   clear hx
   go_wp2_with fail
   refine wp_region_later (by kernel_rfl) (by kernel_rfl) ?_
   repeat (go_big_quiet_step (first|exact rfl))
   refine wpQuiet_nil ?_
   rintro _ ⟨z,rfl⟩
   have F:Hid (Below w.heap.size w z.val):=z_a B.out z.below
   clear f1 f2
   go_wp2
   go_roundw
   case rel=>exact⟨j+1,by omega,by go_num,F.out⟩
   case measure=>simp[intOf];omega
  ·have hj1:¬ (j:Int)<(n:Int):=by omega
   go_wp2
   go_ret
   exact⟨rfl,B.out⟩
theorem z_de (a a':Option Addr) (n c c':Nat) (l:List Int) (w:World) (hs:S16.SlAt eI w a n c l) (hs':S16.SlAt eI w a' n c' l) (hn:n≤100000) :
  Calls prog 51 #[.slice a n c,.slice a' n c'] w fun r V=>r=.returned (.bool true)∧Below w.heap.size w V:=by
 have H:Hid (S16.SlAt eI w a n c l∧S16.SlAt eI w a' n c' l):=⟨hs,hs'⟩
 clear hs hs'
 go_enter func51,ntmps51
 go_wp2_with fail
 go_loopw [5] (fun v5 wr=>∃j:Nat,j≤n∧v5=.int .i64 j∧Below w.heap.size w wr) (fun v5 _=>n-(intOf v5).toNat)
 case atStart=>exact⟨0,by omega,rfl,Below.refl _ _⟩
 case round=>
  obtain⟨j,hj,rfl,hb⟩:=hrel
  have hj0:(0:Int)≤(j:Int):=by omega
  have B:Hid (Below w.heap.size w wr):=hb
  clear hb
  by_cases hjn:j<n
  ·have hj1:(j:Int)<(n:Int):=by omega
   obtain⟨b,o,rfl⟩:=H.out.1.some' (by omega)
   obtain⟨b',o',rfl⟩:=H.out.2.some' (by omega)
   obtain⟨x,hx⟩:∃x,l[j]?=some x:=⟨_,List.getElem?_eq_getElem (by rw[H.out.1.len];exact hjn)⟩
   have f1:∀q:Later wr,q.val.cell? ⟨b,o+j,none⟩=some (.int .i64 x):=fun q:Later wr=>((H.out.1.below B.out).below q.below).cell kI (j:=0) hx rfl (by simp[eI])
   have f2:∀q:Later wr,q.val.cell? ⟨b',o'+j,none⟩=some (.int .i64 x):=fun q:Later wr=>((H.out.2.below B.out).below q.below).cell kI (j:=0) hx rfl (by simp[eI])
   clear hx
   go_wp2_with fail
   refine wp_region_later (by kernel_rfl) (by kernel_rfl) ?_
   repeat (go_big_quiet_step (first|exact rfl))
   refine wpQuiet_nil ?_
   rintro _ ⟨z,rfl⟩
   have F:Hid (Below w.heap.size w z.val):=z_a B.out z.below
   clear f1 f2
   go_wp2
   go_roundw
   case rel=>exact⟨j+1,by omega,by go_num,F.out⟩
   case measure=>simp[intOf];omega
  ·have hj1:¬ (j:Int)<(n:Int):=by omega
   go_wp2
   go_ret
   exact⟨rfl,B.out⟩
structure DnAt (W:World) (v:Value) (os:List Ot) (fs:List Int):Prop where
 out:∃vo vf,v=.agg #[vo,vf]∧isO W vo os∧isI W vf fs
theorem DnAt.below {W V:World} {v:Value} {os:List Ot} {fs:List Int} (h:DnAt W v os fs) (k:Below W.heap.size W V):DnAt V v os fs:=by
 obtain⟨vo,vf,e,h1,h2⟩:=h.out
 exact⟨vo,vf,e,h1.below k,h2.below k⟩
theorem isO.len {W:World} {v:Value} {os:List Ot} (h:isO W v os):∃a c,v=.slice a os.length c∧S16.SlAt eO W a os.length c os:=by
 obtain⟨a,n,c,rfl,s⟩:=h
 have e:=s.len
 subst e
 exact⟨a,c,rfl,s⟩
theorem isI.len {W:World} {v:Value} {os:List Int} (h:isI W v os):∃a c,v=.slice a os.length c∧S16.SlAt eI W a os.length c os:=by
 obtain⟨a,n,c,rfl,s⟩:=h
 have e:=s.len
 subst e
 exact⟨a,c,rfl,s⟩
theorem z_kH (w:World) (x y:Array Value):∃W,(w.alloc (.cells x 52)).alloc (.cells y 53)=W∧RvAt W w.heap.size 52 x∧RvAt W (w.heap.size+1) 53 y∧Below w.heap.size w W:=by
 refine⟨_,rfl,?_,?_,?_⟩
 ·exact (RvAt.new w _ _).below ((Below.refl _ _).alloc (Nat.le_refl _) _)
 ·have:=RvAt.new (w.alloc (.cells x 52)) 53 y
  simpa using this
 ·exact z_a ((Below.refl _ _).alloc (Nat.le_refl _) _) ((Below.refl _ _).alloc (Nat.le_refl _) _)
attribute [local go_sem ↓] ldDn ldEn
theorem z_fR (x y:Value) (os:List Ot) (fs:List Int) (w:World) (h1:DnAt w x os fs) (h2:DnAt w y os fs) (ho:os.length≤100000) (hf:fs.length≤100000) :
  Calls prog 23 #[x,y] w fun r V=>r=.returned (.bool true)∧Below w.heap.size w V:=by
 obtain⟨vo,vf,rfl,o1,f1⟩:=h1.out
 obtain⟨vo',vf',rfl,o2,f2⟩:=h2.out
 obtain⟨a1,c1,rfl,s1⟩:=o1.len
 obtain⟨a2,c2,rfl,s2⟩:=o2.len
 obtain⟨b1,d1,rfl,t1⟩:=f1.len
 obtain⟨b2,d2,rfl,t2⟩:=f2.len
 obtain⟨W,hW,r0,r1,bW⟩:=z_kH w #[.slice a1 os.length c1,.slice b1 fs.length d1] #[.slice a2 os.length c2,.slice b2 fs.length d2]
 have H:Hid (S16.SlAt eO W a1 os.length c1 os∧S16.SlAt eO W a2 os.length c2 os∧S16.SlAt eI W b1 fs.length d1 fs∧S16.SlAt eI W b2 fs.length d2 fs∧Below w.heap.size w W):=⟨s1.below bW,s2.below bW,t1.below bW,t2.below bW,bW⟩
 have R:Hid (RvAt W w.heap.size 52 #[.slice a1 os.length c1,.slice b1 fs.length d1]∧RvAt W (w.heap.size+1) 53 #[.slice a2 os.length c2,.slice b2 fs.length d2]):=⟨r0,r1⟩
 have u0:=r0.cell 0 _ rfl
 have u1:=r1.cell 0 _ rfl
 clear h1 h2 o1 f1 o2 f2 s1 s2 t1 t2 r0 r1 bW
 obtain⟨n,hn⟩:∃n,os.length=n:=⟨_,rfl⟩
 obtain⟨m,hm⟩:∃m,fs.length=m:=⟨_,rfl⟩
 rw[hn,hm] at H R
 rw[hn] at u0 u1
 rw[hn,hm] at hW
 rw[hn] at ho
 rw[hm] at hf
 rw[hn,hm]
 clear hn hm
 go_enter func23,ntmps23
 go_wp2_with fail
 refine (z_db a1 a2 n c1 c2 os W H.out.1 H.out.2.1 ho).mono ?_
 rintro _ V ⟨rfl,bV⟩
 have w0:=(R.out.1.below bV).cell 1 _ rfl
 have w1:=(R.out.2.below bV).cell 1 _ rfl
 have K:Hid (S16.SlAt eI V b1 m d1 fs∧S16.SlAt eI V b2 m d2 fs∧Below w.heap.size w V):=⟨H.out.2.2.1.below bV,H.out.2.2.2.1.below bV,z_a H.out.2.2.2.2 bV⟩
 clear bV u0 u1
 go_wp2_with fail
 refine (z_de b1 b2 m d1 d2 fs V K.out.1 K.out.2.1 hf).mono ?_
 rintro _ U ⟨rfl,bU⟩
 have F:Hid (Below w.heap.size w U):=z_a K.out.2.2 bU
 clear bU w0 w1
 go_wp2
 go_ret
 exact⟨rfl,F.out⟩
theorem z_kO (w:World) (h:Hd) (x:Value):∃W,((w.alloc (.cells (trc h x) 39)).alloc (.cells #[.int .u64 0,.int .u8 0,.int .u8 0,.int .u8 0,.int .u8 0,.int .u8 0,.bool false,.int .u16 0,.int .u64 0,.int .u32 0,.int .u64 0,.int .u16 0,.int .u8 0,.int .u8 0,.int .u8 0,.int .u8 0,.slice none 0 0] 39)).alloc (.cells #[.slice none 0 0,.slice none 0 0] 53)=W∧RvAt W w.heap.size 39 (trc h x)∧RvAt W (w.heap.size+1) 39 (trc zeroH (.slice none 0 0))∧RvAt W (w.heap.size+2) 53 #[.slice none 0 0,.slice none 0 0]∧Below w.heap.size w W∧W.heap.size=w.heap.size+3:=by
 obtain⟨A,hA,r0,r1,bA,zA⟩:=z_w w h x
 refine⟨_,rfl,?_⟩
 rw[hA]
 have b:Below A.heap.size A (A.alloc (.cells #[.slice none 0 0,.slice none 0 0] 53)):=(Below.refl _ _).alloc (Nat.le_refl _) _
 refine⟨r0.below b,r1.below b,?_,z_a bA b,by simp[zA]⟩
 have:=RvAt.new A 53 #[.slice none 0 0,.slice none 0 0]
 rw[zA] at this
 exact this
end S17
end
section
namespace S17
open Go.RowKit
abbrev z_jg:Oper:={ dst:=none,op:=Op.store 39 (Operand.tmp 2) (Operand.tmp 12),type:=0,pos:= "ref.go:63",after:=#[{ on:=0,ground:=Ground.data },{ on:=0,ground:=Ground.phase },{ on:=1,ground:=Ground.textOnly Departure.lateStores }],guard:=none }
abbrev z_jf:Oper:={ dst:=none,op:=Op.store 53 (Operand.tmp 3) (Operand.tmp 13),type:=0,pos:= "ref.go:63",after:=#[{ on:=1,ground:=Ground.data },{ on:=2,ground:=Ground.chain },{ on:=0,ground:=Ground.phase },{ on:=1,ground:=Ground.phase },{ on:=2,ground:=Ground.phase }],guard:=none }
attribute [local go_sem ↓] ldT stT ldEn stEn ldDn stDn
theorem z_fV (h:Hd) (a:Option Addr) (n c:Nat) (l:List Pt) (w:World) (hs:SlAt w a n c l) (hn:n≤100) :
  Calls prog 32 #[.agg (trc h (.slice a n c))] w fun r V=>∃a' c' v,r=.returned (.tuple #[.agg (trc (runT h l).h (.slice a' n c')),v])∧SlAt V a' n c' (runT h l).s.l∧DnAt V v (runT h l).s.o (noted (runT h l).s.f)∧Below w.heap.size w V:=by
 obtain⟨W,hW,r0,r1,r2,bW,zW⟩:=z_kO w h (.slice a n c)
 have l0:=r0.tld
 have P:Hid _:=z_aB h a n c l W (hs.below bW) hn
 have H:Hid (RvAt W w.heap.size 39 (trc h (.slice a n c))∧RvAt W (w.heap.size+1) 39 (trc zeroH (.slice none 0 0))∧RvAt W (w.heap.size+2) 53 #[.slice none 0 0,.slice none 0 0]∧Below w.heap.size w W):=⟨r0,r1,r2,bW⟩
 obtain⟨T,hT⟩:∃z,runT h l=z:=⟨_,rfl⟩
 rw[hT] at P ⊢
 clear hT hs r0 r1 r2 bW zW
 go_enter func32,ntmps32
 go_wp2_with fail
 refine Calls.mono P.out ?_
 rintro _ X ⟨a1,c1,vo,vf,rfl,s1,o1,f1,b1⟩
 obtain⟨Y,hY⟩:∃Y,X.alloc (.cells #[.slice none 0 0,.slice none 0 0] 53)=Y:=⟨_,rfl⟩
 have bY:Below X.heap.size X Y:=by rw[←hY];exact (Below.refl _ _).alloc (Nat.le_refl _) _
 have rY:RvAt Y X.heap.size 53 #[.slice none 0 0,.slice none 0 0]:=by rw[←hY];exact RvAt.new _ _ _
 have tY:=(H.out.1.below b1).below bY
 obtain⟨V,eV,tV,gV⟩:=tY.tst (g:=T.h) (y:=.slice a1 n c1) rfl
 have dV:=rY.keptBut gV (by have:=z_L rY tY (by decide);simpa using this)
 have sU:=dV.st (ds:=#[vo,vf]) rtE rfl rfl (y_g o1.one f1.one)
 have gU:=z_m V X.heap.size #[vo,vf]
 obtain⟨U,hU⟩:∃U,V.setRow X.heap.size #[vo,vf]=U:=⟨_,rfl⟩
 rw[hU] at sU gU
 have dU:RvAt U X.heap.size 53 #[vo,vf]:=by rw[←hU];exact dV.set
 have hX1:w.heap.size+2<X.heap.size:=Nat.lt_of_lt_of_le H.out.2.2.1.lt b1.size
 have K:Hid (RvAt U w.heap.size 39 (trc T.h (.slice a1 n c1))∧RvAt U X.heap.size 53 #[vo,vf]∧RvAt U (w.heap.size+1) 39 (trc zeroH (.slice none 0 0))∧RvAt U (w.heap.size+2) 53 #[.slice none 0 0,.slice none 0 0]∧SlAt U a1 n c1 T.s.l∧isO U vo T.s.o∧isI U vf (noted T.s.f)∧Below w.heap.size w U):=by
  refine⟨tV.keptBut gU (by simp;omega),dU,(((H.out.2.1.below b1).below bY).keptBut gV (by simp)).keptBut gU (by simp;omega),(((H.out.2.2.1.below b1).below bY).keptBut gV (by simp)).keptBut gU (by simp;omega),((s1.below bY).keptT tY gV).keptZ dV (by simp) gU,((o1.below bY).row tY (by decide) gV).row dV (by decide) gU,((f1.below bY).row tY (by decide) gV).row dV (by decide) gU,?_⟩
  have q1:=gro (z_a (z_a H.out.2.2.2 b1) bY) gV (Nat.le_refl _) (z_a (z_a H.out.2.2.2 b1) bY).size
  exact gro q1 gU (by omega) q1.size
 obtain⟨z,hz⟩:∃z,X.heap.size=z:=⟨_,rfl⟩
 rw[hz] at sU K
 have NZ:Hid (w.heap.size+2<z):=by rw[←hz];exact hX1
 clear l0 P s1 o1 f1 b1 bY rY tY tV gV dV gU hU dU hX1 hW
 go_upto_region 2 with fail
 clear eV sU hY hz
 obtain⟨X0,hX⟩:∃X0,World.drew U=X0:=⟨_,rfl⟩
 have bX:Below U.heap.size U X0:=by rw[←hX];exact (Below.refl _ _).drew
 have q0:=K.out.1.below bX
 have q1:=K.out.2.1.below bX
 have q2:=K.out.2.2.1.below bX
 have q3:=K.out.2.2.2.1.below bX
 obtain⟨A,sA,rA,gA⟩:=q2.tst (g:=T.h) (y:=.slice a1 n c1) rfl
 have dA:=q3.keptBut gA (by simp)
 have sZ:=dA.st (ds:=#[vo,vf]) rtE rfl rfl (y_g K.out.2.2.2.2.2.1.one K.out.2.2.2.2.2.2.1.one)
 have gZ:=z_m A (w.heap.size+2) #[vo,vf]
 obtain⟨Z,hZ⟩:∃Z,A.setRow (w.heap.size+2) #[vo,vf]=Z:=⟨_,rfl⟩
 rw[hZ] at sZ gZ
 have nz:=NZ.out
 have DD:Hid ((RvAt X0 w.heap.size 39 (trc T.h (.slice a1 n c1))∧RvAt X0 z 53 #[vo,vf])∧(RvAt A w.heap.size 39 (trc T.h (.slice a1 n c1))∧RvAt A z 53 #[vo,vf])∧(RvAt Z w.heap.size 39 (trc T.h (.slice a1 n c1))∧RvAt Z z 53 #[vo,vf])):=by
  have h1:=q0.keptBut gA (by simp)
  have h2:=q1.keptBut gA (by simp;omega)
  exact⟨⟨q0,q1⟩,⟨h1,h2⟩,h1.keptBut gZ (by simp),h2.keptBut gZ (by simp;omega)⟩
 have F:Hid (RvAt Z (w.heap.size+1) 39 (trc T.h (.slice a1 n c1))∧RvAt Z (w.heap.size+2) 53 #[vo,vf]∧SlAt Z a1 n c1 T.s.l∧isO Z vo T.s.o∧isI Z vf (noted T.s.f)∧Below w.heap.size w Z):=by
  have bw:=z_a K.out.2.2.2.2.2.2.2 bX
  refine⟨rA.keptBut gZ (by simp),by rw[←hZ];exact dA.set,((K.out.2.2.2.2.1.below bX).keptT q2 gA).keptZ dA (by simp) gZ,((K.out.2.2.2.2.2.1.below bX).row q2 (by decide) gA).row dA (by decide) gZ,((K.out.2.2.2.2.2.2.1.below bX).row q2 (by decide) gA).row dA (by decide) gZ,gro (gro bw gA (by omega) bw.size) gZ (by omega) (Nat.le_trans bw.size gA.size)⟩
 clear bX q0 q1 q2 q3 rA gA dA gZ hZ nz K
 refine wp_region_noPanic ?_
 refine wp_region_held_drew (S:=fun w'=>RvAt w' w.heap.size 39 (trc T.h (.slice a1 n c1))∧RvAt w' z 53 #[vo,vf]) (by kernel_rfl) (by rw[hX];exact DD.out.1) (fun hHeld=>?_)
 rw[hX] at hHeld ⊢
 clear hX
 refine tk 0 ?_ rfl ?_ hHeld ?_
 rotate_left
 ·intro W_ hSw_
  have xt:=hSw_.1.tld;have xd:=hSw_.2.ld rtE rfl;clear hSw_
  go_simp<;>with_reducible rfl
 rotate_left
 refine tk 1 ?_ rfl ?_ hHeld ?_
 rotate_left
 ·intro W_ hSw_
  have xt:=hSw_.1.tld;have xd:=hSw_.2.ld rtE rfl;clear hSw_
  go_simp<;>with_reducible rfl
 rotate_left
 try simp only[Act.put,zA,zB,zC]
 refine wpAnyH_ready (rs:=[2]) (by kernel_rfl) (by simp) ?_
 refine AllReadyH.cons (o:=z_jg) rfl (fun K hK=>?_) AllReadyH.nil
 go_simp
 clear hHeld
 refine hK.out _ _ DD.out.2.1 (fun hHeld=>?_)
 clear hK K
 try simp only[Act.put,zA,zB,zC]
 refine wpAnyH_ready (rs:=[3]) (by kernel_rfl) (by simp) ?_
 refine AllReadyH.cons (o:=z_jf) rfl (fun K hK=>?_) AllReadyH.nil
 go_simp
 clear hHeld
 refine hK.out _ _ DD.out.2.2 (fun hHeld=>?_)
 clear hK K
 try simp only[Act.put,zA,zB,zC]
 refine wpAnyH_done (by kernel_rfl) ?_ _
 refine NoPanic.normal ?_
 clear hHeld
 clear sA sZ DD
 go_wp2
 refine bodyPost_ret (v_O rtE results32 _ _ _ _ _ _ _ _ rfl rfl F.out.1 F.out.2.1) rfl ?_
 exact⟨a1,c1,.agg #[vo,vf],rfl,F.out.2.2.1,⟨vo,vf,rfl,F.out.2.2.2.1,F.out.2.2.2.2.1⟩,F.out.2.2.2.2.2⟩
/-! ### a bridge -/
theorem b_ld {W:World} {B:Nat} {h:Hd} {x:Value} (r:RvAt W B 94 (trc h x)):(ldS 39 (.pointer (some ⟨B,0,none⟩))).run prog W=.ok (.agg (trc h x)) W:=
 run_loadAt_mid W B 0 39 (trc h x).toList _ (fun j v hv=>by
  rw[Nat.zero_add]
  exact r.cell j v (by simpa using hv)) underlying39 rfl (by rw[Array.length_toList,z_c];exact infoT)
theorem b_16 {W:World} {B:Nat} {h:Hd} {x:Value} (r:RvAt W B 94 (trc h x)):W.cell? ⟨B,16,none⟩=some x:=r.cell 16 _ (z_hW h x)
theorem b_st {W:World} {B:Nat} {h g:Hd} {x y:Value} (r:RvAt W B 94 (trc h x)) (hy:y.oneCell'=true):∃V,(stS 39 (.pointer (some ⟨B,0,none⟩)) (.agg (trc g y))).run prog W=.ok () V∧RvAt V B 94 (trc g y)∧W.grownBy V (some B):=by
 have hs:=z_A (ty:=39) (o:=0) (cs:=trc g y) r (by rw[z_c];exact infoT) (by rw[z_c,z_c];omega) (x_A hy)
 have e:((trc h x).toList.take 0++(trc g y).toList++(trc h x).toList.drop (0+(trc g y).size)).toArray=trc g y:=by
  rw[List.drop_eq_nil_of_le (by rw[Array.length_toList,z_c,z_c];omega)]
  simp
 rw[e] at hs
 exact⟨_,hs,r.set,z_m _ _ _⟩
structure BrAt (W:World) (B:Nat) (h:Hd) (a:Option Addr) (n c:Nat) (l:List Pt):Prop where
 var:RvAt W B 94 (trc h (.slice a n c))
 sl:SlAt W a n c l
theorem BrAt.below {W V:World} {B n c:Nat} {h:Hd} {a:Option Addr} {l:List Pt} (s:BrAt W B h a n c l) (k:Below W.heap.size W V):BrAt V B h a n c l:=⟨s.var.below k,s.sl.below k⟩
theorem BrAt.kept {W V:World} {B n c b:Nat} {h:Hd} {a:Option Addr} {l:List Pt} {t:TypeId} {cs:Array Value} (s:BrAt W B h a n c l) (r:RvAt W b t cs) (h1:t≠94) (h2:cs.size≤76) (g:W.grownBy V (some b)):BrAt V B h a n c l:=
 ⟨s.var.keptBut g (by have:=z_L s.var r (Ne.symm h1);simpa using this),s.sl.keptZ r h2 g⟩
theorem z_jP (w:World) (h:Hd) (x:Value):∃W,((w.alloc (.cells (trc h x) 39)).alloc (.cells #[.slice none 0 0,.slice none 0 0] 52)).alloc (.cells #[.slice none 0 0,.slice none 0 0] 52)=W∧RvAt W w.heap.size 39 (trc h x)∧RvAt W (w.heap.size+1) 52 #[.slice none 0 0,.slice none 0 0]∧RvAt W (w.heap.size+2) 52 #[.slice none 0 0,.slice none 0 0]∧Below w.heap.size w W∧W.heap.size=w.heap.size+3:=by
 refine⟨_,rfl,?_⟩
 obtain⟨A,hA⟩:∃A,w.alloc (.cells (trc h x) 39)=A:=⟨_,rfl⟩
 have rA:RvAt A w.heap.size 39 (trc h x):=by rw[←hA];exact RvAt.new _ _ _
 have bA:Below w.heap.size w A:=by rw[←hA];exact (Below.refl _ _).alloc (Nat.le_refl _) _
 have zA:A.heap.size=w.heap.size+1:=by rw[←hA];simp
 rw[hA]
 obtain⟨B,hB⟩:∃B,A.alloc (.cells #[.slice none 0 0,.slice none 0 0] 52)=B:=⟨_,rfl⟩
 have rB:RvAt B (w.heap.size+1) 52 #[.slice none 0 0,.slice none 0 0]:=by rw[←hB,← zA];exact RvAt.new _ _ _
 have bB:Below A.heap.size A B:=by rw[←hB];exact (Below.refl _ _).alloc (Nat.le_refl _) _
 have zB:B.heap.size=w.heap.size+2:=by rw[←hB];simp[zA]
 rw[hB]
 have b:Below B.heap.size B (B.alloc (.cells #[.slice none 0 0,.slice none 0 0] 52)):=(Below.refl _ _).alloc (Nat.le_refl _) _
 refine⟨(rA.below bB).below b,rB.below b,?_,z_a (z_a bA bB) b,by simp[zB]⟩
 have:=RvAt.new B 52 #[.slice none 0 0,.slice none 0 0]
 rw[zB] at this
 exact this
theorem z_ej {W:World} {B:Nat} {v:Value} {l:List Ot} (o:S16.Own eO W B v l):isO W v l:=by
 obtain⟨a,c,e,s,_⟩:=o.form
 exact⟨a,_,c,e,s⟩
theorem z_ek {W:World} {B:Nat} {v:Value} {l:List Int} (o:S16.Own eI W B v l):isI W v l:=by
 obtain⟨a,c,e,s,_⟩:=o.form
 exact⟨a,_,c,e,s⟩
theorem z_bE {W:World} {B n c:Nat} {h0:Hd} {x0:Value} (h:Hd) (a:Option Addr) (l:List Pt) (rb:RvAt W B 94 (trc h0 x0)) (hs:SlAt W a n c l) (hn:n≤100) :
  Calls prog 40 #[.pointer (some ⟨B,0,none⟩),.agg (trc h (.slice a n c))] W fun r V=>∃v a' c',r=.returned v∧BrAt V B (runT h l).h a' n c' (runT h l).s.l∧DnAt V v (runT h l).s.o (noted (runT h l).s.f)∧W.grownBy V (some B):=by
 obtain⟨A,hA,r0,r1,r2,bA,zA⟩:=z_jP W h (.slice a n c)
 have l0:=r0.tld
 have P:Hid _:=z_dk h a n c l A (hs.below bA) hn
 have H:Hid (RvAt A (W.heap.size+1) 52 #[.slice none 0 0,.slice none 0 0]∧RvAt A (W.heap.size+2) 52 #[.slice none 0 0,.slice none 0 0]∧RvAt A B 94 (trc h0 x0)∧Below W.heap.size W A∧B<W.heap.size):=⟨r1,r2,rb.below bA,bA,rb.lt⟩
 obtain⟨T,hT⟩:∃z,runT h l=z:=⟨_,rfl⟩
 rw[hT] at P ⊢
 clear hT hs rb r0 r1 r2 bA zA
 go_enter func40,ntmps40
 go_wp2_with fail
 refine Calls.mono P.out ?_
 rintro _ X ⟨a1,c1,vo,vf,rfl,s1,n1,o1,f1,b1⟩
 have rX:=H.out.2.2.1.below b1
 obtain⟨V,eV,rV,gV⟩:=b_st (g:=T.h) (y:=.slice a1 n c1) rX rfl
 have hB:=H.out.2.2.2.2
 have d1:=(H.out.1.below b1).keptBut gV (by simp;omega)
 have d2:=(H.out.2.1.below b1).keptBut gV (by simp;omega)
 have sV:=s1.keptZ rX (by rw[z_c];omega) gV
 have oV:=(z_ej o1).row rX (by decide) gV
 have fV:=(z_ek f1).row rX (by decide) gV
 have sU:=d2.st (ds:=#[vo,vf]) rtD rfl rfl (y_g oV.one fV.one)
 have gU:=z_m V (W.heap.size+2) #[vo,vf]
 obtain⟨U,hU⟩:∃U,V.setRow (W.heap.size+2) #[vo,vf]=U:=⟨_,rfl⟩
 rw[hU] at sU gU
 have dU:RvAt U (W.heap.size+2) 52 #[vo,vf]:=by rw[←hU];exact d2.set
 have lU:=dU.ld rtD rfl
 have e1:=d1.keptBut gU (by simp)
 have sZ:=e1.st (ds:=#[vo,vf]) rtD rfl rfl (y_g oV.one fV.one)
 have gZ:=z_m U (W.heap.size+1) #[vo,vf]
 obtain⟨Z,hZ⟩:∃Z,U.setRow (W.heap.size+1) #[vo,vf]=Z:=⟨_,rfl⟩
 rw[hZ] at sZ gZ
 have F:Hid (RvAt Z (W.heap.size+1) 52 #[vo,vf]∧BrAt Z B T.h a1 n c1 T.s.l∧isO Z vo T.s.o∧isI Z vf (noted T.s.f)∧W.grownBy Z (some B)):=by
  have b2:BrAt U B T.h a1 n c1 T.s.l:=BrAt.kept ⟨rV,sV⟩ d2 (by decide) (by simp) gU
  refine⟨by rw[←hZ];exact e1.set,b2.kept e1 (by decide) (by simp) gZ,(oV.row d2 (by decide) gU).row e1 (by decide) gZ,(fV.row d2 (by decide) gU).row e1 (by decide) gZ,?_⟩
  have k1:W.grownBy V (some B):=z_n (z_q (z_a H.out.2.2.2.1 b1) _) gV
  refine⟨gZ.os.trans (gU.os.trans k1.os),gZ.tape.trans (gU.tape.trans k1.tape),gZ.output.trans (gU.output.trans k1.output),Nat.le_trans k1.size (Nat.le_trans gU.size gZ.size),fun i hi hne=>?_⟩
  rw[gZ.block i (Nat.lt_of_lt_of_le hi (Nat.le_trans k1.size gU.size)) (by simp;omega),gU.block i (Nat.lt_of_lt_of_le hi k1.size) (by simp;omega),k1.block i hi hne]
 clear l0 P s1 n1 o1 f1 b1 rX rV gV d1 d2 sV oV fV gU hU dU e1 gZ hZ hB
 go_wp2
 refine bodyPost_ret (z_e rtD results40 _ _ _ _ rfl F.out.1 rfl) rfl ?_
 exact⟨.agg #[vo,vf],a1,c1,rfl,F.out.2.1,⟨vo,vf,rfl,F.out.2.2.1,F.out.2.2.2.1⟩,F.out.2.2.2.2⟩
end S17
end
section
namespace S17
open Go.RowKit
structure Ev where
 h:Hd
 l:List Pt
 o:List Ot
 f:List Int
 e:Int
def Ev.of (T:Ts):Ev:=⟨T.h,T.s.l,T.s.o,noted T.s.f,0⟩
def Ev.no (h:Hd) (l:List Pt) (e:Int):Ev:=⟨h,l,[],[],e⟩
def inP (l:List Pt) (i:Int):Prop:=0≤i∧i<l.length
def inD (l:List Pt) (i:Int):Decidable (inP l i):=decidable_of_iff (0≤i∧i<l.length) Iff.rfl
def evUp (h:Hd) (l:List Pt) (i:Int) (on:Bool):Ev:=@ite _ (inP l i) (inD l i) (if (gtP l i.toNat).bt 2=on then Ev.no h l 0 else Ev.of (runT h (S9.upL l i on))) (Ev.no h l 5)
theorem z_iw (l:List Pt) (i:Int) (b:Bool):(S9.upL l i b).length=l.length:=by
 unfold S9.upL
 split
 ·rw[List.length_set]
 ·rfl
theorem z_bQ {h:Hd} {l:List Pt} {i:Int} {on:Bool} (hi:¬ inP l i):evUp h l i on=Ev.no h l 5:=@if_neg _ (inD l i) hi _ _ _
theorem z_eR {h:Hd} {l:List Pt} {k:Nat} {on:Bool} (hk:k<l.length) (hb:(gtP l k).bt 2=on):evUp h l (k:Int) on=Ev.no h l 0:=by
 have:evUp h l (k:Int) on=_:=@if_pos _ (inD l k) ⟨by omega,by omega⟩ _ _ _
 rw[this,Int.toNat_natCast,if_pos hb]
theorem z_ka {h:Hd} {l:List Pt} {k:Nat} {on:Bool} (hk:k<l.length) (hb:(gtP l k).bt 2≠on):evUp h l (k:Int) on=Ev.of (runT h (S9.upL l (k:Int) on)):=by
 have:evUp h l (k:Int) on=_:=@if_pos _ (inD l k) ⟨by omega,by omega⟩ _ _ _
 rw[this,Int.toNat_natCast,if_neg hb]
end S17
end
end Go.Proofs.YtlchejbggnbccaaGreat
