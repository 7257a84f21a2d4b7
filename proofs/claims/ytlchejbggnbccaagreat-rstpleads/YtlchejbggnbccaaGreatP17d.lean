/-
  The steps of what is being led: the walks of its methods, each for every tree. And what follows from it here.
-/
import Derived.Test.YtlchejbggnbccaaGreatP17a
import Derived.Test.YtlchejbggnbccaaGreatP12c
import Derived.Test.YtlchejbggnbccaaGreatP13g
import Derived.Test.YtlchejbggnbccaaGreatP14a
import Derived.Test.YtlchejbggnbccaaGreatP14d
import Derived.Test.YtlchejbggnbccaaGreatP15c
import Derived.Test.YtlchejbggnbccaaGreatP15e
import Derived.Shelf.SortM.Plain
import Derived.Shelf.SortM.SortNone
import Derived.Shelf.SlicesE.Compact
import Derived.Test.YtlchejbggnbccaaGreatRows
namespace Go.Proofs.YtlchejbggnbccaaGreat
set_option linter.unusedVariables false
set_option linter.unusedSimpArgs false
set_option maxRecDepth 4000
set_option maxHeartbeats 40000000
open _root_.Go.Proofs.Tryz
section
namespace S17
open Go.RowKit
attribute [local go_sem ↓] ldP stP ldT stT ldDn stDn stLO stLI apLO apLI st4
theorem y_S (w:World) (h:Hd) (x:Value):∃W,w.alloc (.cells (trc h x) 39)=W∧RvAt W w.heap.size 39 (trc h x)∧Below w.heap.size w W:=⟨_,rfl,RvAt.new _ _ _,(Below.refl _ _).alloc (Nat.le_refl _) _⟩
theorem x_p {w W:World} {L n c c':Nat} {h h':Hd} {a a':Option Addr} {l l':List Pt} {vo vf:Value} {os:List Ot} {fs:List Int} (s:LS w W L h a n c l vo vf os fs) (hs:SlAt W a' n c' l') (hn:Nw w a') (x:Bool) :
  Calls prog 98 #[.pointer (some ⟨L,0,none⟩),.agg (trc h' (.slice a' n c')),.bool x] W fun r V=>r=.returned (.bool x)∧LS w V L h' a' n c' l' vo vf os fs∧Kp W V:=by
 obtain⟨X,hX,r0,b0⟩:=y_S W h' (.slice a' n c')
 have l0:=r0.tld
 obtain⟨V,sV,s',k'⟩:=(s.below b0).tree (h':=h') (hs.below b0) hn
 have S:Hid (LS w V L h' a' n c' l' vo vf os fs∧Kp W V):=⟨s',(Kp.of b0).trans k'⟩
 clear s hs hn r0 b0 s' k'
 go_enter func98,ntmps98
 go_wp2
 go_ret
 exact⟨rfl,S.out⟩
theorem z_iN {w W:World} {L n c:Nat} {h:Hd} {a:Option Addr} {l:List Pt} {vo vf:Value} {os:List Ot} {fs:List Int} (s:LS w W L h a n c l vo vf os fs) (hn:n≤1000) :
  Calls prog 74 #[.pointer (some ⟨L,0,none⟩)] W fun r V=>r=.returned (.bool (S12.stpB h l))∧∃a' c',LS w V L (S12.stpH h l) a' n c' (S12.stpL h l) vo vf os fs∧Kp W V:=by
 have l0:=s.tld
 have S:Hid (LS w W L h a n c l vo vf os fs):=s
 clear s
 go_enter func74,ntmps74
 go_wp2_with fail
 refine (S12.u_b h a n c l W S.out.sl hn).mono ?_
 rintro _ X ⟨a',c',rfl,s1,b1,f1⟩
 have N:Hid (Nw w a'):=f1.elim (fun e=>by rw[e];exact S.out.nw) (fun q=>q.up S.out.bel.size)
 have T:Hid (LS w X L h a n c l vo vf os fs):=S.out.below b1
 have S1:Hid (SlAt X a' n c' (S12.stpL h l)):=s1
 have KB:Hid (Kp W X):=Kp.of b1
 clear l0 s1 b1 f1
 obtain⟨hh,ehh⟩:∃z,S12.stpH h l=z:=⟨_,rfl⟩
 obtain⟨bb,ebb⟩:∃z,S12.stpB h l=z:=⟨_,rfl⟩
 rw[ehh,ebb]
 have EH:Hid (S12.stpH h l=hh):=ehh
 have EB:Hid (S12.stpB h l=bb):=ebb
 clear ehh ebb
 go_wp2_with fail
 refine (x_p T.out S1.out N.out bb).mono ?_
 rintro _ V ⟨rfl,s2,k2⟩
 have S2:Hid _:=s2
 have K2:Hid (Kp W V):=KB.out.trans k2
 clear s2 k2
 go_wp2
 go_ret
 exact⟨by rw[EB.out];rfl,a',c',by rw[EH.out];exact S2.out,K2.out⟩
def StepC (F k:Nat):Prop:=∀(w W:World) (L n c:Nat) (h:Hd) (a:Option Addr) (vo vf:Value) (s:Ps) (i:Nat),LS w W L h a n c s.l vo vf s.o s.f→n≤1000→s.o.length≤90000→s.f.length≤90000→i<n →
 Calls prog F #[.pointer (some ⟨L,0,none⟩),.int .i64 (i:Int)] W fun r V=>∃(x:Bool) (a':Option Addr) (c':Nat) (vo' vf':Value),r=.returned (.bool x)∧(stK h i s k).b=(s.b || x)∧LS w V L h a' n c' (stK h i s k).l vo' vf' (stK h i s k).o (stK h i s k).f∧Kp W V
theorem z_aN:StepC 91 0:=by
 intro w W L n c h a vo vf s i hS hn ho hf hi
 have l0:=hS.tld
 have S:Hid (LS w W L h a n c s.l vo vf s.o s.f):=hS
 clear hS ho hf
 go_enter func91,ntmps91
 go_wp2_with fail
 refine (S11.v_l h a n c s.l (i:Int) W S.out.sl hn).mono ?_
 rintro _ X ⟨a',c',rfl,s1,b1,f1⟩
 have N:Hid (Nw w a'):=f1.elim (fun e=>by rw[e];exact S.out.nw) (fun q=>q.up S.out.bel.size)
 have T:Hid (LS w X L h a n c s.l vo vf s.o s.f):=S.out.below b1
 have S1:Hid (SlAt X a' n c' (S11.stepL s.l (i:Int))):=s1
 have E:Hid ((stK h i s 0).b=(s.b || S11.stepB s.l (i:Int))):=rfl
 have KB:Hid (Kp W X):=Kp.of b1
 clear l0 s1 b1 f1
 obtain⟨bb,ebb⟩:∃z,S11.stepB s.l (i:Int)=z:=⟨_,rfl⟩
 rw[ebb] at E ⊢
 clear ebb
 go_wp2_with fail
 refine (x_p T.out S1.out N.out bb).mono ?_
 rintro _ V ⟨rfl,s2,k2⟩
 have S2:Hid _:=s2
 have K2:Hid (Kp W V):=KB.out.trans k2
 clear s2 k2
 go_wp2
 go_ret
 exact⟨bb,a',c',vo,vf,rfl,E.out,S2.out,K2.out⟩
theorem z_iA:StepC 92 1:=by
 intro w W L n c h a vo vf s i hS hn ho hf hi
 have l0:=hS.tld
 have S:Hid (LS w W L h a n c s.l vo vf s.o s.f):=hS
 clear hS ho hf
 go_enter func92,ntmps92
 go_wp2_with fail
 refine (S13.v_l h a n c s.l (i:Int) W S.out.sl hn).mono ?_
 rintro _ X ⟨a',c',rfl,s1,b1,f1⟩
 have N:Hid (Nw w a'):=f1.elim (fun e=>by rw[e];exact S.out.nw) (fun q=>q.up S.out.bel.size)
 have T:Hid (LS w X L h a n c s.l vo vf s.o s.f):=S.out.below b1
 have S1:Hid (SlAt X a' n c' (S13.stepL s.l (i:Int))):=s1
 have E:Hid ((stK h i s 1).b=(s.b || S13.stepB s.l (i:Int))):=rfl
 have KB:Hid (Kp W X):=Kp.of b1
 clear l0 s1 b1 f1
 obtain⟨bb,ebb⟩:∃z,S13.stepB s.l (i:Int)=z:=⟨_,rfl⟩
 rw[ebb] at E ⊢
 clear ebb
 go_wp2_with fail
 refine (x_p T.out S1.out N.out bb).mono ?_
 rintro _ V ⟨rfl,s2,k2⟩
 have S2:Hid _:=s2
 have K2:Hid (Kp W V):=KB.out.trans k2
 clear s2 k2
 go_wp2
 go_ret
 exact⟨bb,a',c',vo,vf,rfl,E.out,S2.out,K2.out⟩
theorem z_iB:StepC 94 3:=by
 intro w W L n c h a vo vf s i hS hn ho hf hi
 have l0:=hS.tld
 have S:Hid (LS w W L h a n c s.l vo vf s.o s.f):=hS
 clear hS ho hf
 go_enter func94,ntmps94
 go_wp2_with fail
 refine (S14.z_kK h a n c s.l i W S.out.sl hn hi).mono ?_
 rintro _ X ⟨a',c',rfl,s1,b1,f1⟩
 have N:Hid (Nw w a'):=f1.elim (fun e=>by rw[e];exact S.out.nw) (fun q=>q.up S.out.bel.size)
 have T:Hid (LS w X L h a n c s.l vo vf s.o s.f):=S.out.below b1
 have S1:Hid (SlAt X a' n c' ((S14.tcmO h s.l i).getD s.l)):=s1
 have E:Hid ((stK h i s 3).b=(s.b || (S14.tcmO h s.l i).isSome)):=rfl
 have KB:Hid (Kp W X):=Kp.of b1
 clear l0 s1 b1 f1
 obtain⟨bb,ebb⟩:∃z,(S14.tcmO h s.l i).isSome=z:=⟨_,rfl⟩
 rw[ebb] at E ⊢
 clear ebb
 go_wp2_with fail
 refine (x_p T.out S1.out N.out bb).mono ?_
 rintro _ V ⟨rfl,s2,k2⟩
 have S2:Hid _:=s2
 have K2:Hid (Kp W V):=KB.out.trans k2
 clear s2 k2
 go_wp2
 go_ret
 exact⟨bb,a',c',vo,vf,rfl,E.out,S2.out,K2.out⟩
theorem z_iv:StepC 96 5:=by
 intro w W L n c h a vo vf s i hS hn ho hf hi
 have l0:=hS.tld
 have S:Hid (LS w W L h a n c s.l vo vf s.o s.f):=hS
 clear hS ho hf
 go_enter func96,ntmps96
 go_wp2_with fail
 refine (S15.z_jx h a n c s.l i W S.out.sl hn hi).mono ?_
 rintro _ X ⟨a',c',rfl,f1,s1,b1⟩
 have N:Hid (Nw w a'):=f1.elim (fun e=>by rw[e];exact S.out.nw) (fun q=>Nw.up (W:=W) q S.out.bel.size)
 have T:Hid (LS w X L h a n c s.l vo vf s.o s.f):=S.out.below b1
 have S1:Hid (SlAt X a' n c' ((S15.ppmO s.l i).getD s.l)):=s1
 have E:Hid ((stK h i s 5).b=(s.b || (S15.ppmO s.l i).isSome)):=rfl
 have KB:Hid (Kp W X):=Kp.of b1
 clear l0 s1 b1 f1
 obtain⟨bb,ebb⟩:∃z,(S15.ppmO s.l i).isSome=z:=⟨_,rfl⟩
 rw[ebb] at E ⊢
 clear ebb
 go_wp2_with fail
 refine (x_p T.out S1.out N.out bb).mono ?_
 rintro _ V ⟨rfl,s2,k2⟩
 have S2:Hid _:=s2
 have K2:Hid (Kp W V):=KB.out.trans k2
 clear s2 k2
 go_wp2
 go_ret
 exact⟨bb,a',c',vo,vf,rfl,E.out,S2.out,K2.out⟩
end S17
end
section
namespace S17
open Go.RowKit
attribute [local go_sem ↓] ldP stP ldT stT ldDn stDn stLO stLI apLO apLI st4 alP
attribute [local go_sem] z_l
theorem z_iG:StepC 93 2:=by
 intro w W L n c h a vo vf s i hS hn ho hf hi
 obtain⟨b,o,rfl⟩:=hS.sl.some' (by omega)
 have hil:i<s.l.length:=by rw[hS.sl.len];exact hi
 have hin0:(0:Int)≤(i:Int):=by omega
 have hin1:(i:Int)<(n:Int):=by omega
 have c16:=hS.c16
 have lp:=hS.sl.ld (z_k hil)
 have S:Hid (LS w W L h (some ⟨b,o,none⟩) n c s.l vo vf s.o s.f):=hS
 obtain⟨q,hq⟩:∃z,(S14.pstO (gtP s.l i)).getD (gtP s.l i)=z:=⟨_,rfl⟩
 obtain⟨bb,hbb⟩:∃z,(S14.pstO (gtP s.l i)).isSome=z:=⟨_,rfl⟩
 have E:Hid ((stK h i s 2).b=(s.b || bb)∧stK h i s 2=⟨s.l.set i q,s.b || bb,s.o,s.f⟩):=⟨by rw[←hbb];rfl,by rw[←hbb,← hq];rfl⟩
 obtain⟨p,hp⟩:∃z,gtP s.l i=z:=⟨_,rfl⟩
 rw[hp] at lp hq hbb
 have P:Hid _:=S14.z_ju p
 clear hS ho hf hp
 go_enter func93,ntmps93
 go_wp2_with fail
 refine (P.out W).mono ?_
 rintro _ X ⟨e1,b1⟩
 rw[hq,hbb] at e1
 subst e1
 obtain⟨Y,sY,rY,bY,zY⟩:=y_b X q
 have T:Hid (LS w Y L h (some ⟨b,o,none⟩) n c s.l vo vf s.o s.f):=(S.out.below b1).below bY
 obtain⟨z,hz⟩:∃z,X.heap.size=z:=⟨_,rfl⟩
 rw[hz] at sY rY
 have f16:=fun x:Later Y=>(T.out.below x.below).c16
 have fp:=fun x:Later Y=>(rY.below x.below).pld
 have KB:Hid (Kp W Y):=(Kp.of b1).trans (Kp.of bY)
 clear c16 lp b1 bY zY rY S P hq hbb
 go_wp2_with fail
 refine wp_region_later_tail 8 (by kernel_rfl) (by kernel_rfl) ?_
 simp only[List.take_succ_cons,List.take_zero]
 repeat (go_big_quiet_step (first|exact rfl))
 refine wpQuiet_nil ?_
 intro u
 simp only[List.drop_succ_cons,List.drop_zero]
 obtain⟨V,sV,slV,gV⟩:=(T.out.below u.below).sl.stp (i:=i) (p:=q) hi
 have R:Hid (LS w V L h (some ⟨b,o,none⟩) n c (s.l.set i q) vo vf s.o s.f):=(T.out.below u.below).ports (by omega) slV gV
 have K2:Hid (Kp W V):=by
  obtain⟨cs,r⟩:=(T.out.below u.below).sl.soft _ rfl (by omega)
  exact (KB.out.trans (Kp.of u.below)).trans (Kp.row r gV (Or.inr (Or.inl rfl)))
 clear slV gV T f16 fp
 go_wp2
 go_ret
 refine⟨bb,some ⟨b,o,none⟩,c,vo,vf,rfl,E.out.1,?_,K2.out⟩
 rw[E.out.2]
 exact R.out
theorem z_jW:StepC 95 4:=by
 intro w W L n c h a vo vf s i hS hn ho hf hi
 obtain⟨b,o,rfl⟩:=hS.sl.some' (by omega)
 have hil:i<s.l.length:=by rw[hS.sl.len];exact hi
 have hin0:(0:Int)≤(i:Int):=by omega
 have hin1:(i:Int)<(n:Int):=by omega
 have c16:=hS.c16
 have c6:=hS.sl.cell (z_k hil) ((gtP s.l i).bit (j:=6) rfl) (by omega)
 have S:Hid (LS w W L h (some ⟨b,o,none⟩) n c s.l vo vf s.o s.f):=hS
 cases hb:(gtP s.l i).bt 6
 ·have E:Hid (stK h i s 4=s):=if_neg (by rw[hb];simp)
  rw[hb] at c6
  clear hS ho hf hb
  go_enter func95,ntmps95
  go_wp2
  go_ret
  refine⟨false,some ⟨b,o,none⟩,c,vo,vf,rfl,?_,?_,Kp.of (Below.refl _ _)⟩
  ·rw[E.out];simp
  ·rw[E.out];exact S.out
 ·have E:Hid (stK h i s 4=⟨s.l.set i ((gtP s.l i).setB 6 kf6 false),true,s.o,s.f++[(i:Int)]⟩):=if_pos hb
  rw[hb] at c6
  obtain⟨V,sV,slV,gV⟩:=hS.sl.stb (x:=false) (z_k hil) kf6
  have R:=hS.ports (by omega) slV gV
  have c18:=R.c18
  obtain⟨v',X,ap,oX,gX⟩:=z_gN kI R.fl R.bel.size hf (i:Int) 50
  have ap:(S16.apS 50 50 #[vf,.slice (some ⟨V.heap.size,0,none⟩) 1 1]).run prog (V.alloc (.cells #[.int .i64 (i:Int)] 3))=.ok v' X:=ap
  obtain⟨Y,sY,RY,kY⟩:=R.flus gX oX
  have K2:Hid (Kp W Y):=by
   obtain⟨cs,r⟩:=hS.sl.soft _ rfl (by omega)
   exact (Kp.row r gV (Or.inr (Or.inl rfl))).trans kY
  clear kY
  have S2:Hid (LS w Y L h (some ⟨b,o,none⟩) n c (s.l.set i ((gtP s.l i).setB 6 kf6 false)) vo v' s.o (s.f++[(i:Int)])):=RY
  clear hS ho hf hb S R slV gV oX gX RY
  go_enter func95,ntmps95
  go_wp2
  go_ret
  refine⟨true,some ⟨b,o,none⟩,c,vo,v',rfl,?_,?_,K2.out⟩
  ·rw[E.out];simp
  ·rw[E.out];exact S2.out
theorem z_lK (W:World) (h:Hd) (x:Value) (hx:x.oneCell'=true):∃W',(stS 39 (.pointer (some ⟨W.heap.size,0,none⟩)) (.agg (trc h x))).run prog (W.alloc (.cells #[.int .u64 0,.int .u8 0,.int .u8 0,.int .u8 0,.int .u8 0,.int .u8 0,.bool false,.int .u16 0,.int .u64 0,.int .u32 0,.int .u64 0,.int .u16 0,.int .u8 0,.int .u8 0,.int .u8 0,.int .u8 0,.slice none 0 0] 39))=.ok () W'∧RvAt W' W.heap.size 39 (trc h x)∧Below W.heap.size W W'∧W'.heap.size=W.heap.size+1:=
 z_E rtT W _ (trc h x) rfl (z_c h x) (x_A hx)
theorem z_ix:StepC 97 6:=by
 intro w W L n c h a vo vf s i hS hn ho hf hi
 have l0:=hS.tld
 have S:Hid (LS w W L h a n c s.l vo vf s.o s.f):=hS
 obtain⟨bb,hbb⟩:∃z,(S15.ptxO h s.l i).isSome=z:=⟨_,rfl⟩
 obtain⟨lq,hlq⟩:∃z,(S15.ptxO h s.l i).getD s.l=z:=⟨_,rfl⟩
 have E:Hid (stK h i s 6=⟨lq,s.b || bb,s.o++opt (S15.ptxU h s.l i),s.f⟩):=by rw[←hbb,← hlq];exact rfl
 have HO:Hid (s.o.length≤90000):=ho
 have P:Hid _:=S15.z_kV h a n c s.l i W hS.sl hn hi
 clear hS ho hf
 go_enter func97,ntmps97
 go_wp2_with fail
 refine Calls.mono P.out ?_
 rintro _ X ⟨a',c',v,rfl,s1,o1,b1,f1⟩
 rw[hbb]
 rw[hlq] at s1
 have N:Hid (Nw w a'):=f1.elim (fun e=>by rw[e];exact S.out.nw) (fun q=>q.up S.out.bel.size)
 obtain⟨ao,mo,co,rfl,so⟩:=z_if o1
 obtain⟨Y,sY,rY,bY,zY⟩:=z_lK X h (.slice a' n c') rfl
 have T:=(S.out.below b1).below bY
 have c17:=T.c17
 obtain⟨v',Z,ap,oZ,gZ⟩:=T.ou.app kO (so.below bY) (by have:=HO.out;have:=z_aJ (S15.ptxU h s.l i);omega) T.bel.size 49
 have ap:(S16.apS 49 49 #[vo,.slice ao mo co]).run prog Y=.ok v' Z:=ap
 obtain⟨U,sU,RU,kS,kR⟩:=T.outs gZ oZ
 obtain⟨z,hz⟩:∃z,X.heap.size=z:=⟨_,rfl⟩
 rw[hz] at sY rY
 have rU:RvAt U z 39 (trc h (.slice a' n c'))∧SlAt U a' n c' lq:=⟨kR _ _ _ rY (by decide) (by decide),kS _ _ _ _ (s1.below bY)⟩
 have KB:Hid (Kp W U):=((Kp.of b1).trans (Kp.of bY)).trans (fun b t cs r h1 _ h3 _=>kR b t cs r h3 h1)
 have l5:=rU.1.tld
 have R:Hid (LS w U L h a n c s.l v' vf (s.o++opt (S15.ptxU h s.l i)) s.f∧SlAt U a' n c' lq):=⟨RU,rU.2⟩
 clear l0 P s1 o1 b1 f1 rY bY zY T oZ gZ RU rU so kS kR
 go_wp2_with fail
 refine (x_p R.out.1 R.out.2 N.out bb).mono ?_
 rintro _ V ⟨rfl,s2,k2⟩
 have S2:Hid _:=s2
 have K2:Hid (Kp W V):=KB.out.trans k2
 clear s2 k2
 go_wp2
 go_ret
 refine⟨bb,a',c',v',vf,rfl,?_,?_,K2.out⟩
 ·rw[E.out]
 ·rw[E.out];exact S2.out
end S17
end
section
namespace S17
open Go.RowKit
def fvL (F L:Nat):Value:=.func (.func F) #[.pointer (some ⟨L,0,none⟩)] #[]
def arr (L:Nat):Array Value:=#[fvL 91 L,fvL 92 L,fvL 93 L,fvL 94 L,fvL 95 L,fvL 96 L,fvL 97 L]
theorem z_lm:(prog.info? 128).map (·.size)=some 7:=by kernel_rfl
theorem rtA7:RowTy 128 7:=⟨z_lm,_,underlying128,rfl⟩
theorem ldA7 (x:Value):Instr.loadAt 128 x=ldS 128 x:=rfl
theorem stA7 (x y:Value):Instr.storeAt 128 x y=stS 128 x y:=rfl
theorem z_kz (L:Nat):∀v∈(arr L).toList,v.oneCell'=true:=z_ig rfl
theorem z_ij (W:World) (L:Nat):∃W',(stS 128 (.pointer (some ⟨W.heap.size,0,none⟩)) (.agg (arr L))).run prog (W.alloc (.cells #[.nilFunc,.nilFunc,.nilFunc,.nilFunc,.nilFunc,.nilFunc,.nilFunc] 128))=.ok () W'∧RvAt W' W.heap.size 128 (arr L)∧Below W.heap.size W W'∧W'.heap.size=W.heap.size+1:=z_E rtA7 W _ _ rfl rfl (z_kz L)
theorem ix0 (L:Nat) (w:World):(Instr.index 128 (.agg (arr L)) (.int .i64 0)).run prog w=.ok (.func (.func 91) #[.pointer (some ⟨L,0,none⟩)] #[]) w:=by kernel_rfl
theorem ix1 (L:Nat) (w:World):(Instr.index 128 (.agg (arr L)) (.int .i64 1)).run prog w=.ok (.func (.func 92) #[.pointer (some ⟨L,0,none⟩)] #[]) w:=by kernel_rfl
theorem ix2 (L:Nat) (w:World):(Instr.index 128 (.agg (arr L)) (.int .i64 2)).run prog w=.ok (.func (.func 93) #[.pointer (some ⟨L,0,none⟩)] #[]) w:=by kernel_rfl
theorem ix3 (L:Nat) (w:World):(Instr.index 128 (.agg (arr L)) (.int .i64 3)).run prog w=.ok (.func (.func 94) #[.pointer (some ⟨L,0,none⟩)] #[]) w:=by kernel_rfl
theorem ix4 (L:Nat) (w:World):(Instr.index 128 (.agg (arr L)) (.int .i64 4)).run prog w=.ok (.func (.func 95) #[.pointer (some ⟨L,0,none⟩)] #[]) w:=by kernel_rfl
theorem ix5 (L:Nat) (w:World):(Instr.index 128 (.agg (arr L)) (.int .i64 5)).run prog w=.ok (.func (.func 96) #[.pointer (some ⟨L,0,none⟩)] #[]) w:=by kernel_rfl
theorem ix6 (L:Nat) (w:World):(Instr.index 128 (.agg (arr L)) (.int .i64 6)).run prog w=.ok (.func (.func 97) #[.pointer (some ⟨L,0,none⟩)] #[]) w:=by kernel_rfl
attribute [local go_sem ↓] ldA7 stA7
attribute [local go_sem] ix0 ix1 ix2 ix3 ix4 ix5 ix6
theorem z_cW (L:Nat) (W:World) :
  Calls prog 73 #[.pointer (some ⟨L,0,none⟩)] W fun r V=>r=.returned (.agg (arr L))∧Below W.heap.size W V:=by
 obtain⟨V,sV,rV,bV,zV⟩:=z_ij W L
 unfold arr fvL at sV
 have F:Hid (RvAt V W.heap.size 128 (arr L)∧Below W.heap.size W V):=⟨rV,bV⟩
 clear rV bV zV
 go_enter func73,ntmps73
 go_wp2
 refine bodyPost_ret (z_e rtA7 results73 _ _ _ _ rfl F.out.1 rfl) rfl ?_
 exact⟨rfl,F.out.2⟩
def LT (w W:World) (L n:Nat) (h:Hd) (s:Ps):Prop:=∃(a:Option Addr) (c:Nat) (vo vf:Value),LS w W L h a n c s.l vo vf s.o s.f
theorem LT.below {w W V:World} {L n:Nat} {h:Hd} {s:Ps} (t:LT w W L n h s) (k:Below W.heap.size W V):LT w V L n h s:=by
 obtain⟨a,c,vo,vf,q⟩:=t
 exact⟨a,c,vo,vf,q.below k⟩
theorem stp0 {w W:World} {L n i:Nat} {h:Hd} {s:Ps} (t:LT w W L n h s) (hn:n≤100) (ho:s.o.length≤90000) (hf:s.f.length≤90000) (hi:i<n) :
  Calls prog 91 #[.pointer (some ⟨L,0,none⟩),.int .i64 (i:Int)] W fun r V=>∃x:Bool,r=.returned (.bool x)∧(stK h i s 0).b=(s.b || x)∧LT w V L n h (stK h i s 0)∧Kp W V:=by
 obtain⟨a,c,vo,vf,q⟩:=t
 exact (z_aN w W L n c h a vo vf s i q (by omega) ho hf hi).mono fun r V ⟨x,a',c',vo',vf',e,eb,q',k'⟩=>⟨x,e,eb,⟨a',c',vo',vf',q'⟩,k'⟩
theorem stp1 {w W:World} {L n i:Nat} {h:Hd} {s:Ps} (t:LT w W L n h s) (hn:n≤100) (ho:s.o.length≤90000) (hf:s.f.length≤90000) (hi:i<n) :
  Calls prog 92 #[.pointer (some ⟨L,0,none⟩),.int .i64 (i:Int)] W fun r V=>∃x:Bool,r=.returned (.bool x)∧(stK h i s 1).b=(s.b || x)∧LT w V L n h (stK h i s 1)∧Kp W V:=by
 obtain⟨a,c,vo,vf,q⟩:=t
 exact (z_iA w W L n c h a vo vf s i q (by omega) ho hf hi).mono fun r V ⟨x,a',c',vo',vf',e,eb,q',k'⟩=>⟨x,e,eb,⟨a',c',vo',vf',q'⟩,k'⟩
theorem stp2 {w W:World} {L n i:Nat} {h:Hd} {s:Ps} (t:LT w W L n h s) (hn:n≤100) (ho:s.o.length≤90000) (hf:s.f.length≤90000) (hi:i<n) :
  Calls prog 93 #[.pointer (some ⟨L,0,none⟩),.int .i64 (i:Int)] W fun r V=>∃x:Bool,r=.returned (.bool x)∧(stK h i s 2).b=(s.b || x)∧LT w V L n h (stK h i s 2)∧Kp W V:=by
 obtain⟨a,c,vo,vf,q⟩:=t
 exact (z_iG w W L n c h a vo vf s i q (by omega) ho hf hi).mono fun r V ⟨x,a',c',vo',vf',e,eb,q',k'⟩=>⟨x,e,eb,⟨a',c',vo',vf',q'⟩,k'⟩
theorem stp3 {w W:World} {L n i:Nat} {h:Hd} {s:Ps} (t:LT w W L n h s) (hn:n≤100) (ho:s.o.length≤90000) (hf:s.f.length≤90000) (hi:i<n) :
  Calls prog 94 #[.pointer (some ⟨L,0,none⟩),.int .i64 (i:Int)] W fun r V=>∃x:Bool,r=.returned (.bool x)∧(stK h i s 3).b=(s.b || x)∧LT w V L n h (stK h i s 3)∧Kp W V:=by
 obtain⟨a,c,vo,vf,q⟩:=t
 exact (z_iB w W L n c h a vo vf s i q (by omega) ho hf hi).mono fun r V ⟨x,a',c',vo',vf',e,eb,q',k'⟩=>⟨x,e,eb,⟨a',c',vo',vf',q'⟩,k'⟩
theorem stp4 {w W:World} {L n i:Nat} {h:Hd} {s:Ps} (t:LT w W L n h s) (hn:n≤100) (ho:s.o.length≤90000) (hf:s.f.length≤90000) (hi:i<n) :
  Calls prog 95 #[.pointer (some ⟨L,0,none⟩),.int .i64 (i:Int)] W fun r V=>∃x:Bool,r=.returned (.bool x)∧(stK h i s 4).b=(s.b || x)∧LT w V L n h (stK h i s 4)∧Kp W V:=by
 obtain⟨a,c,vo,vf,q⟩:=t
 exact (z_jW w W L n c h a vo vf s i q (by omega) ho hf hi).mono fun r V ⟨x,a',c',vo',vf',e,eb,q',k'⟩=>⟨x,e,eb,⟨a',c',vo',vf',q'⟩,k'⟩
theorem stp5 {w W:World} {L n i:Nat} {h:Hd} {s:Ps} (t:LT w W L n h s) (hn:n≤100) (ho:s.o.length≤90000) (hf:s.f.length≤90000) (hi:i<n) :
  Calls prog 96 #[.pointer (some ⟨L,0,none⟩),.int .i64 (i:Int)] W fun r V=>∃x:Bool,r=.returned (.bool x)∧(stK h i s 5).b=(s.b || x)∧LT w V L n h (stK h i s 5)∧Kp W V:=by
 obtain⟨a,c,vo,vf,q⟩:=t
 exact (z_iv w W L n c h a vo vf s i q (by omega) ho hf hi).mono fun r V ⟨x,a',c',vo',vf',e,eb,q',k'⟩=>⟨x,e,eb,⟨a',c',vo',vf',q'⟩,k'⟩
theorem stp6 {w W:World} {L n i:Nat} {h:Hd} {s:Ps} (t:LT w W L n h s) (hn:n≤100) (ho:s.o.length≤90000) (hf:s.f.length≤90000) (hi:i<n) :
  Calls prog 97 #[.pointer (some ⟨L,0,none⟩),.int .i64 (i:Int)] W fun r V=>∃x:Bool,r=.returned (.bool x)∧(stK h i s 6).b=(s.b || x)∧LT w V L n h (stK h i s 6)∧Kp W V:=by
 obtain⟨a,c,vo,vf,q⟩:=t
 exact (z_ix w W L n c h a vo vf s i q (by omega) ho hf hi).mono fun r V ⟨x,a',c',vo',vf',e,eb,q',k'⟩=>⟨x,e,eb,⟨a',c',vo',vf',q'⟩,k'⟩
theorem z_ib {n m:Nat} {t:Ts} (h:(pass n t).s.b=true):runN n (m+1) t=runN n m (pass n t):=if_pos h
theorem z_dh {n m:Nat} {t:Ts} (h:(pass n t).s.b=false):runN n (m+1) t=pass n t:=if_neg (by rw[h];simp)
theorem z_gc {w W:World} {L n c:Nat} {h:Hd} {a:Option Addr} {l:List Pt} {vo vf:Value} (s:LS w W L h a n c l vo vf [] []) (hn:n≤100) :
  Calls prog 54 #[.pointer (some ⟨L,0,none⟩)] W fun r V=>r=.returned (.tuple #[])∧LT w V L n (runN n 100 (start h l)).h (runN n 100 (start h l)).s∧Kp W V:=by
 obtain⟨T,hT⟩:∃z,runN n 100 (start h l)=z:=⟨_,rfl⟩
 rw[hT]
 have S0:Hid (LT w W L n (start h l).h (start h l).s∧runN n (100-0) (start h l)=T):=⟨⟨a,c,vo,vf,s⟩,hT⟩
 have E0:Hid ((start h l).s.o.length≤0∧(start h l).s.f.length≤0):=⟨Nat.le_refl _,Nat.le_refl _⟩
 obtain⟨t0,ht0⟩:∃z,start h l=z:=⟨_,rfl⟩
 rw[ht0] at S0 E0
 clear s hT ht0
 go_enter func54,ntmps54
 go_wp2_with fail
 go_step3
 go_wp2_with fail
 refine (z_cW L W).mono ?_
 rintro _ X ⟨rfl,b1⟩
 obtain⟨Y,sY,rY,bY,zY⟩:=z_ij X L
 obtain⟨z,hz⟩:∃z,X.heap.size=z:=⟨_,rfl⟩
 rw[hz] at sY rY
 have A0:Hid (RvAt Y z 128 (arr L)∧LT w Y L n t0.h t0.s∧Kp W Y):=⟨rY,(S0.out.1.below b1).below bY,(Kp.of b1).trans (Kp.of bY)⟩
 have HT:Hid (runN n (100-0) t0=T):=S0.out.2
 clear b1 rY bY zY S0
 go_wp2_with fail
 try go_step3
 go_wp2_with fail
 go_loopw [9] (fun v9 wr=>∃(j:Nat) (t:Ts),j≤100∧v9=.int .i64 j∧runN n (100-j) t=T∧LT w wr L n t.h t.s∧t.s.o.length≤j*n∧t.s.f.length≤j*n∧RvAt wr z 128 (arr L)∧Kp W wr) (fun v9 _=>100-(intOf v9).toNat)
 case atStart=>exact⟨0,t0,by omega,rfl,HT.out,A0.out.2.1,by rw[Nat.zero_mul];exact E0.out.1,by rw[Nat.zero_mul];exact E0.out.2,A0.out.1,A0.out.2.2⟩
 case round=>
  obtain⟨j,t,hj,rfl,hrun,hL,ho,hf,hA,hK⟩:=hrel
  obtain⟨V0,rfl⟩:∃V,V=wr:=⟨_,rfl⟩
  by_cases hj1:j<100
  rotate_left
  ·have hj2:j=100:=by omega
   subst hj2
   have F:Hid (LT w V0 L n T.h T.s∧Kp W V0):=by
    have:t=T:=hrun
    rw[←this]
    exact⟨hL,hK⟩
   clear hrun hL ho hf hA hK A0
   go_wp2
   try rw[Exit.noGoto_normal]
   go_end0
   exact⟨rfl,F.out.1,F.out.2⟩
  have hj3:(j:Int)<100:=by omega
  have J:Hid (runN n (100-j) t=T∧t.s.o.length≤j*n∧t.s.f.length≤j*n∧j*n+n≤10000):=⟨hrun,ho,hf,by have:j*n≤99*100:=Nat.mul_le_mul (by omega) hn;omega⟩
  obtain⟨a,c,vo,vf,q⟩:=hL
  have Q:Hid (LS w V0 L t.h a n c t.s.l vo vf t.s.o t.s.f∧RvAt V0 z 128 (arr L)∧Kp W V0):=⟨q,hA,hK⟩
  clear hrun ho hf q hA hK A0
  go_wp2_with fail
  refine (z_iN Q.out.1 (by omega)).mono ?_
  rintro _ V1 ⟨rfl,a1,c1,q1,k1⟩
  obtain⟨hh,ehh⟩:∃z,S12.stpH t.h t.s.l=z:=⟨_,rfl⟩
  obtain⟨s1,es1⟩:∃z:Ps,(⟨S12.stpL t.h t.s.l,S12.stpB t.h t.s.l,t.s.o,t.s.f⟩:Ps)=z:=⟨_,rfl⟩
  have EP:Hid (pass n t=⟨hh,psN hh n s1⟩∧s1.o.length≤j*n∧s1.f.length≤j*n):=⟨by unfold pass;rw[ehh,es1],by rw[←es1];exact J.out.2.1,by rw[←es1];exact J.out.2.2.1⟩
  have eb1:S12.stpB t.h t.s.l=s1.b:=by rw[←es1]
  rw[eb1]
  have c16:=q1.c16
  have Q1:Hid (LT w V1 L n hh s1∧RvAt V1 z 128 (arr L)∧Kp W V1):=⟨⟨a1,c1,vo,vf,by rw[←ehh,← es1];exact q1⟩,k1 _ _ _ Q.out.2.1 (by decide) (by decide) (by decide) (by decide),Q.out.2.2.trans k1⟩
  clear q1 k1 ehh es1 eb1 Q
  go_wp2_with fail
  go_loopw [3,19] (fun v3 v19 wr=>∃i:Nat,i≤n∧v19=.int .i64 i∧v3=.bool (psN hh i s1).b∧LT w wr L n hh (psN hh i s1)∧RvAt wr z 128 (arr L)∧Kp W wr) (fun _ v19 _=>n-(intOf v19).toNat)
  case atStart=>exact⟨0,by omega,rfl,rfl,Q1.out.1,Q1.out.2.1,Q1.out.2.2⟩
  case round=>
   obtain⟨i,hi,rfl,rfl,hL,hA,hK⟩:=hrel
   obtain⟨V2,rfl⟩:∃V,V=wr:=⟨_,rfl⟩
   by_cases hi1:i<n
   rotate_left
   ·have hi2:i=n:=by omega
    subst hi2
    have hlt:¬ (i:Int)<(i:Int):=by omega
    have PE:=EP.out.1
    obtain⟨sn,esn⟩:∃z,psN hh i s1=z:=⟨_,rfl⟩
    have LN:=z_aG hh s1 i
    rw[esn] at PE hL LN ⊢
    have F:Hid (LT w V2 L i hh sn∧RvAt V2 z 128 (arr L)∧Kp W V2∧pass i t=⟨hh,sn⟩∧sn.o.length≤(j+1)*i∧sn.f.length≤(j+1)*i):=⟨hL,hA,hK,PE,by rw[Nat.succ_mul];have:=EP.out.2.1;omega,by rw[Nat.succ_mul];have:=EP.out.2.2;omega⟩
    clear hL hA hK PE LN esn c16 Q1 EP
    obtain⟨bb,hbb⟩:∃z,sn.b=z:=⟨_,rfl⟩
    rw[hbb]
    cases bb
    ·have G:Hid (T=⟨hh,sn⟩):=by
      have e1:100-j=(100-j-1)+1:=by omega
      have e2:=J.out.1
      rw[e1,z_dh (by rw[F.out.2.2.2.1];exact hbb),F.out.2.2.2.1] at e2
      exact e2.symm
     clear hbb
     go_wp2
     try rw[Exit.noGoto_normal]
     go_end0
     refine⟨rfl,?_,F.out.2.2.1⟩
     rw[G.out]
     exact F.out.1
    ·have G:Hid (runN i (100-(j+1)) ⟨hh,sn⟩=T):=by
      have e1:100-j=(100-(j+1))+1:=by omega
      have e2:=J.out.1
      rw[e1,z_ib (by rw[F.out.2.2.2.1];exact hbb),F.out.2.2.2.1] at e2
      exact e2
     clear hbb
     go_wp2
     go_roundw
     case rel=>exact⟨j+1,⟨hh,sn⟩,by omega,by go_num,G.out,F.out.1,F.out.2.2.2.2.1,F.out.2.2.2.2.2,F.out.2.1,F.out.2.2.1⟩
     case measure=>simp[intOf];omega
   have hi3:(i:Int)<(n:Int):=by omega
   obtain⟨si,esi⟩:∃z,psN hh i s1=z:=⟨_,rfl⟩
   have LN:=z_aG hh s1 i
   rw[esi] at hL LN ⊢
   have I:Hid (psN hh (i+1) s1=ptN hh i 7 si∧si.o.length≤10000∧si.f.length≤10000):=⟨by rw[←esi];rfl,by have:=EP.out.2.1;have:=J.out.2.2.2;omega,by have:=EP.out.2.2;have:=J.out.2.2.2;omega⟩
   have la:=hA.ld rtA7 rfl
   have Q2:Hid (LT w V2 L n hh si∧RvAt V2 z 128 (arr L)∧Kp W V2):=⟨hL,hA,hK⟩
   clear hL hA hK LN esi c16 Q1
   go_wp2_with fail
   go_loopw [3,23] (fun v3 v23 wr=>∃k:Nat,k≤7∧v23=.int .i64 k∧v3=.bool (ptN hh i k si).b∧LT w wr L n hh (ptN hh i k si)∧RvAt wr z 128 (arr L)∧Kp W wr) (fun _ v23 _=>7-(intOf v23).toNat)
   case atStart=>exact⟨0,by omega,rfl,rfl,Q2.out.1,Q2.out.2.1,Q2.out.2.2⟩
   case round=>
    obtain⟨k,hk,rfl,rfl,hL,hA,hK⟩:=hrel
    clear la
    have LN:=z_jt hh i si k
    have hB:(ptN hh i k si).o.length≤90000∧(ptN hh i k si).f.length≤90000:=by
     have:=I.out.2.1
     have:=I.out.2.2
     have h1:=LN.1
     have h2:=LN.2
     constructor
     ·split at h1<;>omega
     ·split at h2<;>omega
    clear LN
    obtain⟨sk,esk⟩:∃z,ptN hh i k si=z:=⟨_,rfl⟩
    rw[esk] at hL hB ⊢
    have K0:Hid (LT w wr L n hh sk∧RvAt wr z 128 (arr L)∧Kp W wr∧sk.o.length≤90000∧sk.f.length≤90000):=⟨hL,hA,hK,hB.1,hB.2⟩
    have ES:Hid (ptN hh i k si=sk):=esk
    clear hL hA hK hB esk
    obtain⟨bk,hbk⟩:∃z,sk.b=z:=⟨_,rfl⟩
    have BK:Hid (sk.b=bk):=hbk
    rw[hbk]
    clear hbk
    rcases (show k=0∨k=1∨k=2∨k=3∨k=4∨k=5∨k=6∨k=7 by omega) with rfl | rfl | rfl | rfl | rfl | rfl | rfl | rfl
    ·go_wp2_with fail
     refine (stp0 K0.out.1 hn K0.out.2.2.2.1 K0.out.2.2.2.2 hi1).mono ?_
     rintro _ V3 ⟨x,rfl,eb,q3,k3⟩
     have KX:Hid (ptN hh i 1 si=stK hh i sk 0):=by rw[←ES.out];exact rfl
     have Q3:Hid (LT w V3 L n hh (stK hh i sk 0)∧RvAt V3 z 128 (arr L)∧Kp W V3∧(stK hh i sk 0).b=(bk || x)):=⟨q3,k3 _ _ _ K0.out.2.1 (by decide) (by decide) (by decide) (by decide),K0.out.2.2.1.trans k3,by rw[eb,BK.out]⟩
     clear eb q3 k3 K0
     cases x
     ·go_wp2
      go_roundw
      case rel=>exact⟨1,by omega,by go_num,by rw[KX.out,Q3.out.2.2.2];simp,by rw[KX.out];exact Q3.out.1,Q3.out.2.1,Q3.out.2.2.1⟩
      case measure=>simp[intOf]
     ·go_wp2
      go_roundw
      case rel=>exact⟨1,by omega,by go_num,by rw[KX.out,Q3.out.2.2.2];simp,by rw[KX.out];exact Q3.out.1,Q3.out.2.1,Q3.out.2.2.1⟩
      case measure=>simp[intOf]
    ·go_wp2_with fail
     refine (stp1 K0.out.1 hn K0.out.2.2.2.1 K0.out.2.2.2.2 hi1).mono ?_
     rintro _ V3 ⟨x,rfl,eb,q3,k3⟩
     have KX:Hid (ptN hh i 2 si=stK hh i sk 1):=by rw[←ES.out];exact rfl
     have Q3:Hid (LT w V3 L n hh (stK hh i sk 1)∧RvAt V3 z 128 (arr L)∧Kp W V3∧(stK hh i sk 1).b=(bk || x)):=⟨q3,k3 _ _ _ K0.out.2.1 (by decide) (by decide) (by decide) (by decide),K0.out.2.2.1.trans k3,by rw[eb,BK.out]⟩
     clear eb q3 k3 K0
     cases x
     ·go_wp2
      go_roundw
      case rel=>exact⟨2,by omega,by go_num,by rw[KX.out,Q3.out.2.2.2];simp,by rw[KX.out];exact Q3.out.1,Q3.out.2.1,Q3.out.2.2.1⟩
      case measure=>simp[intOf]
     ·go_wp2
      go_roundw
      case rel=>exact⟨2,by omega,by go_num,by rw[KX.out,Q3.out.2.2.2];simp,by rw[KX.out];exact Q3.out.1,Q3.out.2.1,Q3.out.2.2.1⟩
      case measure=>simp[intOf]
    ·go_wp2_with fail
     refine (stp2 K0.out.1 hn K0.out.2.2.2.1 K0.out.2.2.2.2 hi1).mono ?_
     rintro _ V3 ⟨x,rfl,eb,q3,k3⟩
     have KX:Hid (ptN hh i 3 si=stK hh i sk 2):=by rw[←ES.out];exact rfl
     have Q3:Hid (LT w V3 L n hh (stK hh i sk 2)∧RvAt V3 z 128 (arr L)∧Kp W V3∧(stK hh i sk 2).b=(bk || x)):=⟨q3,k3 _ _ _ K0.out.2.1 (by decide) (by decide) (by decide) (by decide),K0.out.2.2.1.trans k3,by rw[eb,BK.out]⟩
     clear eb q3 k3 K0
     cases x
     ·go_wp2
      go_roundw
      case rel=>exact⟨3,by omega,by go_num,by rw[KX.out,Q3.out.2.2.2];simp,by rw[KX.out];exact Q3.out.1,Q3.out.2.1,Q3.out.2.2.1⟩
      case measure=>simp[intOf]
     ·go_wp2
      go_roundw
      case rel=>exact⟨3,by omega,by go_num,by rw[KX.out,Q3.out.2.2.2];simp,by rw[KX.out];exact Q3.out.1,Q3.out.2.1,Q3.out.2.2.1⟩
      case measure=>simp[intOf]
    ·go_wp2_with fail
     refine (stp3 K0.out.1 hn K0.out.2.2.2.1 K0.out.2.2.2.2 hi1).mono ?_
     rintro _ V3 ⟨x,rfl,eb,q3,k3⟩
     have KX:Hid (ptN hh i 4 si=stK hh i sk 3):=by rw[←ES.out];exact rfl
     have Q3:Hid (LT w V3 L n hh (stK hh i sk 3)∧RvAt V3 z 128 (arr L)∧Kp W V3∧(stK hh i sk 3).b=(bk || x)):=⟨q3,k3 _ _ _ K0.out.2.1 (by decide) (by decide) (by decide) (by decide),K0.out.2.2.1.trans k3,by rw[eb,BK.out]⟩
     clear eb q3 k3 K0
     cases x
     ·go_wp2
      go_roundw
      case rel=>exact⟨4,by omega,by go_num,by rw[KX.out,Q3.out.2.2.2];simp,by rw[KX.out];exact Q3.out.1,Q3.out.2.1,Q3.out.2.2.1⟩
      case measure=>simp[intOf]
     ·go_wp2
      go_roundw
      case rel=>exact⟨4,by omega,by go_num,by rw[KX.out,Q3.out.2.2.2];simp,by rw[KX.out];exact Q3.out.1,Q3.out.2.1,Q3.out.2.2.1⟩
      case measure=>simp[intOf]
    ·go_wp2_with fail
     refine (stp4 K0.out.1 hn K0.out.2.2.2.1 K0.out.2.2.2.2 hi1).mono ?_
     rintro _ V3 ⟨x,rfl,eb,q3,k3⟩
     have KX:Hid (ptN hh i 5 si=stK hh i sk 4):=by rw[←ES.out];exact rfl
     have Q3:Hid (LT w V3 L n hh (stK hh i sk 4)∧RvAt V3 z 128 (arr L)∧Kp W V3∧(stK hh i sk 4).b=(bk || x)):=⟨q3,k3 _ _ _ K0.out.2.1 (by decide) (by decide) (by decide) (by decide),K0.out.2.2.1.trans k3,by rw[eb,BK.out]⟩
     clear eb q3 k3 K0
     cases x
     ·go_wp2
      go_roundw
      case rel=>exact⟨5,by omega,by go_num,by rw[KX.out,Q3.out.2.2.2];simp,by rw[KX.out];exact Q3.out.1,Q3.out.2.1,Q3.out.2.2.1⟩
      case measure=>simp[intOf]
     ·go_wp2
      go_roundw
      case rel=>exact⟨5,by omega,by go_num,by rw[KX.out,Q3.out.2.2.2];simp,by rw[KX.out];exact Q3.out.1,Q3.out.2.1,Q3.out.2.2.1⟩
      case measure=>simp[intOf]
    ·go_wp2_with fail
     refine (stp5 K0.out.1 hn K0.out.2.2.2.1 K0.out.2.2.2.2 hi1).mono ?_
     rintro _ V3 ⟨x,rfl,eb,q3,k3⟩
     have KX:Hid (ptN hh i 6 si=stK hh i sk 5):=by rw[←ES.out];exact rfl
     have Q3:Hid (LT w V3 L n hh (stK hh i sk 5)∧RvAt V3 z 128 (arr L)∧Kp W V3∧(stK hh i sk 5).b=(bk || x)):=⟨q3,k3 _ _ _ K0.out.2.1 (by decide) (by decide) (by decide) (by decide),K0.out.2.2.1.trans k3,by rw[eb,BK.out]⟩
     clear eb q3 k3 K0
     cases x
     ·go_wp2
      go_roundw
      case rel=>exact⟨6,by omega,by go_num,by rw[KX.out,Q3.out.2.2.2];simp,by rw[KX.out];exact Q3.out.1,Q3.out.2.1,Q3.out.2.2.1⟩
      case measure=>simp[intOf]
     ·go_wp2
      go_roundw
      case rel=>exact⟨6,by omega,by go_num,by rw[KX.out,Q3.out.2.2.2];simp,by rw[KX.out];exact Q3.out.1,Q3.out.2.1,Q3.out.2.2.1⟩
      case measure=>simp[intOf]
    ·go_wp2_with fail
     refine (stp6 K0.out.1 hn K0.out.2.2.2.1 K0.out.2.2.2.2 hi1).mono ?_
     rintro _ V3 ⟨x,rfl,eb,q3,k3⟩
     have KX:Hid (ptN hh i 7 si=stK hh i sk 6):=by rw[←ES.out];exact rfl
     have Q3:Hid (LT w V3 L n hh (stK hh i sk 6)∧RvAt V3 z 128 (arr L)∧Kp W V3∧(stK hh i sk 6).b=(bk || x)):=⟨q3,k3 _ _ _ K0.out.2.1 (by decide) (by decide) (by decide) (by decide),K0.out.2.2.1.trans k3,by rw[eb,BK.out]⟩
     clear eb q3 k3 K0
     cases x
     ·go_wp2
      go_roundw
      case rel=>exact⟨7,by omega,by go_num,by rw[KX.out,Q3.out.2.2.2];simp,by rw[KX.out];exact Q3.out.1,Q3.out.2.1,Q3.out.2.2.1⟩
      case measure=>simp[intOf]
     ·go_wp2
      go_roundw
      case rel=>exact⟨7,by omega,by go_num,by rw[KX.out,Q3.out.2.2.2];simp,by rw[KX.out];exact Q3.out.1,Q3.out.2.1,Q3.out.2.2.1⟩
      case measure=>simp[intOf]
    ·have KX:Hid (psN hh (i+1) s1=sk):=by rw[I.out.1];exact ES.out
     go_wp2
     go_roundw
     case rel=>exact⟨i+1,by omega,by go_num,by rw[KX.out,BK.out],by rw[KX.out];exact K0.out.1,K0.out.2.1,K0.out.2.2.1⟩
     case measure=>simp[intOf];omega
end S17
end
section
namespace S17
open Go.Shelf
def z_dc:Go.Shelf.Ren:=⟨fun | 5=>55 | 8=>76 | 7=>75 | 19=>109 | 20=>110 | 10=>100 | 11=>101 | 12=>102 | 13=>103 | 14=>104 | 15=>105 | 16=>106 | 17=>107 | 18=>108 | 30=>140 | 31=>141 | 32=>142 | 33=>143 | 34=>144 | 35=>145 | 40=>187 | n=>n,fun | 23=>50 | 25=>3 | 3=>3 | 32=>87 | 22=>50 | 0=>0 | 44=>34 | 46=>22 | 4=>4 | 36=>145 | 35=>144 | 41=>150 | 5=>5 | 9=>9 | 53=>166 | 57=>170 | 63=>194 | 64=>195 | n=>n,fun | n=>n⟩
theorem sortI:Go.Proofs.SlLaysM.n5 prog z_dc:={
 mixed:=by kernel_rfl
 f5:=⟨f55.name,by decide,func55.trans (congrArg some (by kernel_rfl))⟩
 f7:=⟨f75.name,by decide,func75.trans (congrArg some (by kernel_rfl))⟩
 f8:=func76.trans (congrArg some (by kernel_rfl))
 f10:=⟨f100.name,by decide,func100.trans (congrArg some (by kernel_rfl))⟩
 f11:=⟨f101.name,by decide,func101.trans (congrArg some (by kernel_rfl))⟩
 f12:=⟨f102.name,by decide,func102.trans (congrArg some (by kernel_rfl))⟩
 f13:=⟨f103.name,by decide,func103.trans (congrArg some (by kernel_rfl))⟩
 f14:=⟨f104.name,by decide,func104.trans (congrArg some (by kernel_rfl))⟩
 f15:=⟨f105.name,by decide,func105.trans (congrArg some (by kernel_rfl))⟩
 f16:=⟨f106.name,by decide,func106.trans (congrArg some (by kernel_rfl))⟩
 f17:=⟨f107.name,by decide,func107.trans (congrArg some (by kernel_rfl))⟩
 f18:=⟨f108.name,by decide,func108.trans (congrArg some (by kernel_rfl))⟩
 f19:=func109.trans (congrArg some (by kernel_rfl))
 f20:=func110.trans (congrArg some (by kernel_rfl))
 f30:=⟨f140.name,by decide,func140.trans (congrArg some (by kernel_rfl))⟩
 f31:=func141.trans (congrArg some (by kernel_rfl))
 f32:=func142.trans (congrArg some (by kernel_rfl))
 f33:=⟨f143.name,by decide,func143.trans (congrArg some (by kernel_rfl))⟩
 f34:=⟨f144.name,by decide,func144.trans (congrArg some (by kernel_rfl))⟩
 f35:=⟨f145.name,by decide,func145.trans (congrArg some (by kernel_rfl))⟩
 f40:=⟨f187.name,by decide,func187.trans (congrArg some (by kernel_rfl))⟩
 t0:=underlying0
 a0:=isAgg0
 z0:=sizeOf0
 v0:=zeroValue0
 t3:=underlying3
 a3:=isAgg3
 z3:=sizeOf3
 v3:=zeroValue3
 t4:=underlying4
 a4:=isAgg4
 z4:=sizeOf4
 v4:=zeroValue4
 t5:=underlying5
 a5:=isAgg5
 z5:=sizeOf5
 v5:=zeroValue5
 t9:=underlying9
 a9:=isAgg9
 z9:=sizeOf9
 v9:=zeroValue9
 t22:=underlying50
 a22:=isAgg50
 z22:=sizeOf50
 v22:=zeroValue50
 t23:=underlying50
 a23:=isAgg50
 z23:=sizeOf50
 v23:=zeroValue50
 t25:=underlying3
 a25:=isAgg3
 z25:=sizeOf3
 v25:=zeroValue3
 t32:=underlying87
 a32:=isAgg87
 z32:=sizeOf87
 v32:=zeroValue87
 t35:=underlying144
 a35:=isAgg144
 z35:=sizeOf144
 v35:=zeroValue144
 t36:=underlying145
 a36:=isAgg145
 z36:=sizeOf145
 v36:=zeroValue145
 t41:=underlying150
 a41:=isAgg150
 z41:=sizeOf150
 v41:=zeroValue150
 t44:=underlying34
 a44:=isAgg34
 z44:=sizeOf34
 v44:=zeroValue34
 t46:=underlying22
 a46:=isAgg22
 z46:=sizeOf22
 v46:=zeroValue22
 t53:=underlying166
 a53:=isAgg166
 z53:=sizeOf166
 v53:=zeroValue166
 t57:=underlying170
 a57:=isAgg170
 z57:=sizeOf170
 v57:=zeroValue170
 t63:=underlying194
 a63:=isAgg194
 z63:=sizeOf194
 v63:=zeroValue194
 t64:=underlying195
 a64:=isAgg195
 z64:=sizeOf195
 v64:=zeroValue195 }
def z_fl:Go.Shelf.Ren:=⟨fun | 43=>56 | n=>n,fun | 22=>50 | 23=>3 | 3=>3 | 4=>4 | 0=>0 | n=>n,fun | n=>n⟩
theorem compI:Go.Proofs.SlLaysE.n43 prog z_fl:={
 mixed:=by kernel_rfl
 f43:=⟨f56.name,by decide,func56.trans (congrArg some (by kernel_rfl))⟩
 t0:=underlying0
 a0:=isAgg0
 z0:=sizeOf0
 v0:=zeroValue0
 t3:=underlying3
 a3:=isAgg3
 z3:=sizeOf3
 v3:=zeroValue3
 t4:=underlying4
 a4:=isAgg4
 z4:=sizeOf4
 v4:=zeroValue4
 t22:=underlying50
 a22:=isAgg50
 z22:=sizeOf50
 v22:=zeroValue50
 a23:=isAgg3
 z23:=sizeOf3 }
end S17
end
section
namespace S17
open Go.RowKit Go.Sort
theorem z_io (l:List Int):eI.fl l=l.map (Value.int .i64):=by
 induction l with
 | nil=>rfl
 | cons x r ih=>
  unfold S16.El.fl at ih ⊢
  rw[List.flatMap_cons,ih]
  rfl
theorem holdsI {W:World} {g c:Nat} {l:List Int} (p:S16.PAt eI W g c l):Holds (Value.int .i64) W g 0 l.toArray:=by
 intro j hj
 have hj':j<l.length:=by simpa using hj
 obtain⟨cur,hb,_,_,_,ht⟩:=p
 refine⟨?_,by simp[World.frozen?,show W.heap[g]?=some (.cells cur 3 (0,0)) from hb]⟩
 rw[Nat.zero_add]
 refine hb.cell j _ ?_
 rw[←Array.getElem?_toList]
 have h1:(cur.toList.take (l.length*1))[j]?=(l.map (Value.int .i64))[j]?:=by rw[show cur.toList.take (l.length*1)=eI.fl l from ht,z_io]
 rw[List.getElem?_take_of_lt (by omega)] at h1
 rw[h1,List.getElem?_map,List.getElem?_eq_getElem hj',getElem!_pos l.toArray j hj]
 rfl
theorem z_gK (cur:Array Value) (d:List Int) (h:d.length≤cur.size):(putCells (Value.int .i64) 0 d.toArray cur).toList.take d.length=d.map (Value.int .i64):=by
 apply List.ext_getElem?
 intro j
 by_cases hj:j<d.length
 ·rw[List.getElem?_take_of_lt hj,Array.getElem?_toList]
  simp[putCells,hj,show j<cur.size by omega]
 ·rw[List.getElem?_take_eq_none (by omega),List.getElem?_eq_none (by simp;omega)]
theorem z_ec {W:World} {g c n:Nat} {l d:List Int} {os:Array Obj} (p:S16.PAt eI W g c l) (hd:d.length=l.length) :
  S16.PAt eI (grow (putRow (Value.int .i64) (Sort.ahead W n) g 0 d.toArray) os) g c d∧W.grownBy (grow (putRow (Value.int .i64) (Sort.ahead W n) g 0 d.toArray) os) (some g):=by
 obtain⟨cur,hb,h1,h2,h3,h4⟩:=p
 have hg:=hb.lt
 have h3':cur.size=c:=by simpa [eI] using h3
 refine⟨⟨putCells (Value.int .i64) 0 d.toArray cur,?_,by omega,h2,by simpa [putCells] using h3,?_⟩,rfl,rfl,rfl,by simp,fun k hk hne=>?_⟩
 ·show (grow (putRow (Value.int .i64) (Sort.ahead W n) g 0 d.toArray) os).heap[g]?=_
  rw[heap_grow_old _ _ (by simpa using hg)]
  simp[putRow,mapBlock,Sort.ahead,Array.getElem?_modify,show W.heap[g]?=some (.cells cur 3 (0,0)) from hb,onCells,eI]
 ·rw[z_io]
  have:=z_gK cur d (by omega)
  simpa [eI] using this
 ·rw[heap_grow_old _ _ (by simpa using hk)]
  have:g≠k:=fun e=>hne (by rw[e])
  simp[putRow,mapBlock,Sort.ahead,Array.getElem?_modify,this]
theorem z_jA {W:World} {g c:Nat} {l m:List Int} (p:S16.PAt eI W g c (l++m)):S16.PAt eI W g c l:=by
 obtain⟨cur,hb,h1,h2,h3,h4⟩:=p
 have hl:(l++m).length=l.length+m.length:=List.length_append
 refine⟨cur,hb,by omega,h2,h3,?_⟩
 have e:cur.toList.take (l.length*eI.K)=(cur.toList.take ((l++m).length*eI.K)).take (l.length*eI.K):=by
  rw[List.take_take,Nat.min_eq_left (Nat.mul_le_mul_right _ (by omega))]
 rw[e,h4,S16.El.fl_app,List.take_left']
 rw[S16.El.fl_len kI]
theorem z_fO {W:World} {B:Nat} {v:Value} {l:List Int} (o:S16.Own eI W B v l) (hl:l.length≤100000) :
  Calls prog 55 #[v] W fun r V=>r=.returned (.tuple #[])∧S16.Own eI V B v (l.mergeSort fun x y=>decide (x≤y))∧W.grownBy V v.ownBlock:=by
 rcases o.pat with ⟨rfl,rfl⟩ | ⟨g,c,rfl,hB,p⟩
 ·have:=AnyM.slices_Sort_int_none sortI none 0 W
  exact this.mono fun r V ⟨e,ew⟩=>⟨e,by rw[ew];simpa using o,by rw[ew];exact World.grownBy.refl _ _⟩
 ·have:=AnyM.slices_Sort_int sortI g 0 c l W (holdsI p) p.lt (by omega)
  refine Calls.mono this fun r V ⟨e,n,os,ew⟩=>?_
  have hlen:(l.mergeSort fun x y=>decide (x≤y)).length=l.length:=List.length_mergeSort _
  have q:=z_ec (n:=n) (os:=os) (d:=l.mergeSort fun x y=>decide (x≤y)) p hlen
  rw[←ew] at q
  refine⟨e,?_,q.2⟩
  have:=q.1.own kI hB
  rw[hlen] at this
  exact this
theorem z_aV (d:Array Int):(Lib.compactUpTo d d.size).length≤d.size:=by
 unfold Lib.compactUpTo
 rw[List.length_map]
 have:=List.length_filter_le (Lib.keeps d) (List.range d.size)
 simpa using this
theorem z_hw {W:World} {B:Nat} {v:Value} {l:List Int} (o:S16.Own eI W B v l) (hl:l.length≤100000) :
  Calls prog 56 #[v] W fun r V=>∃v',r=.returned v'∧S16.Own eI V B v' (Lib.compactUpTo l.toArray l.length)∧W.grownBy V v.ownBlock:=by
 rcases o.pat with ⟨rfl,rfl⟩ | ⟨g,c,rfl,hB,p⟩
 ·have F:Hid (S16.Own eI W B (.slice none 0 0) []):=o
  clear o
  go_enter func56,ntmps56
  go_wp2
  go_ret
  exact⟨_,rfl,F.out,World.grownBy.refl _ _⟩
 ·have hc:l.length≤c:=by obtain⟨_,_,h1,_⟩:=p;exact h1
  have:=AnyE.slices_Compact compI (Value.int .i64) (fun _=>rfl) (EqlAt.intD _ _ _) (NeqAt.intD _ _ _) 0 (fun w=>by kernel_rfl) g 0 c l.toArray W (holdsI p) (by simp;omega) (by simpa using hc)
  have hsz:l.toArray.size=l.length:=rfl
  rw[hsz] at this
  refine Calls.mono this fun r V ⟨e,n,ew⟩=>?_
  have hk:=z_aV l.toArray
  rw[hsz] at hk
  have q:=z_ec (n:=n) (os:=#[]) (d:=Lib.compactUpTo l.toArray l.length++List.replicate (l.length-(Lib.compactUpTo l.toArray l.length).length) 0) p (by simp;omega)
  rw[grow_empty,← ew] at q
  exact⟨_,e,(z_jA q.1).own kI hB,q.2⟩
/-! ### what is noted -/
theorem z_bz (l:List Int) (i:Int):∀x,x∈noteL l i↔x∈l∨x=i:=by
 induction l with
 | nil=>intro x;simp[noteL]
 | cons y r ih=>
  intro x
  unfold noteL
  split
  ·rw[List.mem_cons,ih,List.mem_cons,or_assoc]
  ·split
   ·next h1 h2=>
    rw[List.mem_cons]
    constructor
    ·exact fun h=>Or.inl h
    ·rintro (h | rfl)
     ·exact h
     ·exact Or.inl h2.symm
   ·simp only[List.mem_cons]
    constructor
    ·rintro (h | h | h)
     ·exact Or.inr h
     ·exact Or.inl (Or.inl h)
     ·exact Or.inl (Or.inr h)
    ·rintro ((h | h) | h)
     ·exact Or.inr (Or.inl h)
     ·exact Or.inr (Or.inr h)
     ·exact Or.inl h
theorem z_aM (l:List Int) (i:Int) (h:l.Pairwise (·<·)):(noteL l i).Pairwise (·<·):=by
 induction l with
 | nil=>simp[noteL]
 | cons y r ih=>
  rw[List.pairwise_cons] at h
  unfold noteL
  split
  ·next h1=>
   rw[List.pairwise_cons]
   refine⟨fun x hx=>?_,ih h.2⟩
   rcases (z_bz r i x).1 hx with q | q
   ·exact h.1 x q
   ·rw[q];exact h1
  ·split
   ·exact List.pairwise_cons.2 h
   ·next h1 h2=>
    rw[List.pairwise_cons]
    refine⟨fun x hx=>?_,List.pairwise_cons.2 h⟩
    rcases List.mem_cons.1 hx with q | q
    ·rw[q];omega
    ·have:=h.1 x q;omega
theorem z_cm (l:List Int):∀(a:List Int),a.Pairwise (·<·)→(l.foldl noteL a).Pairwise (·<·)∧∀x,x∈l.foldl noteL a↔x∈a∨x∈l:=by
 induction l with
 | nil=>intro a h;exact⟨h,by simp⟩
 | cons y r ih=>
  intro a h
  obtain⟨h1,h2⟩:=ih (noteL a y) (z_aM a y h)
  refine⟨h1,fun x=>?_⟩
  rw[List.foldl_cons,h2,z_bz,List.mem_cons,or_assoc]
theorem v_K:∀(a b:List Int),a.Pairwise (·<·)→b.Pairwise (·<·)→(∀x,x∈a↔x∈b)→a=b
 | [],[],_,_,_=>rfl
 | [],y::r,_,_,h=>by have:=(h y).2 (by simp);simp at this
 | x::r,[],_,_,h=>by have:=(h x).1 (by simp);simp at this
 | x::r,y::s,ha,hb,h=>by
  rw[List.pairwise_cons] at ha hb
  have e:x=y:=by
   have h1:=(h x).1 (by simp)
   have h2:=(h y).2 (by simp)
   rcases List.mem_cons.1 h1 with q | q
   ·exact q
   ·rcases List.mem_cons.1 h2 with p | p
    ·exact p.symm
    ·have:=hb.1 x q
     have:=ha.1 y p
     omega
  subst e
  congr 1
  refine v_K r s ha.2 hb.2 fun z=>?_
  have hz:=h z
  simp only[List.mem_cons] at hz
  constructor
  ·intro q
   rcases hz.1 (Or.inr q) with p | p
   ·have:=ha.1 z q;omega
   ·exact p
  ·intro q
   rcases hz.2 (Or.inr q) with p | p
   ·have:=hb.1 z q;omega
   ·exact p
theorem z_ak (d:Array Int) (m:Nat):Lib.compactUpTo d (m+1)=Lib.compactUpTo d m++(if Lib.keeps d m=true then [d[m]!] else []):=by
 unfold Lib.compactUpTo
 rw[List.range_succ,List.filter_append,List.map_append]
 congr 1
 cases h:Lib.keeps d m<;>simp[h]
theorem v_V (s:List Int) (hs:s.Pairwise (·≤·)):∀m,m≤s.length→(Lib.compactUpTo s.toArray m).Pairwise (·<·)∧∀x,x∈Lib.compactUpTo s.toArray m↔x∈s.take m
 | 0,_=>by simp[Lib.compactUpTo]
 | m+1,hm=>by
  obtain⟨h1,h2⟩:=v_V s hs m (by omega)
  have em:s.toArray[m]! = s[m]'(by omega):=by rw[getElem!_pos s.toArray m (by simp;omega)];rfl
  have et:s.take (m+1)=s.take m++[s[m]'(by omega)]:=by rw[List.take_add_one,List.getElem?_eq_getElem (by omega)];rfl
  have hle:∀x∈s.take m,x≤s[m]'(by omega):=fun x hx=>by
   obtain⟨k,hk,rfl⟩:=List.mem_iff_getElem.1 hx
   rw[List.getElem_take]
   rw[List.length_take] at hk
   exact List.pairwise_iff_getElem.1 hs k m (by omega) (by omega) (by omega)
  rw[z_ak,et]
  by_cases hk:Lib.keeps s.toArray m=true
  ·rw[if_pos hk,em]
   refine⟨?_,fun x=>by rw[List.mem_append,List.mem_append,h2]⟩
   rw[List.pairwise_append]
   refine⟨h1,by simp,fun x hx y hy=>?_⟩
   simp only[List.mem_cons,List.not_mem_nil,or_false] at hy
   subst hy
   have hx':=(h2 x).1 hx
   have:=hle x hx'
   by_cases h0:m=0
   ·subst h0;simp at hx'
   ·have hne:s.toArray[m]! ≠ s.toArray[m-1]! := fun e=>by
     have:=Lib.keeps_neg (d:=s.toArray) (m:=m) (by omega) e
     rw[this] at hk
     cases hk
    have em1:s.toArray[m-1]! = s[m-1]'(by omega):=by rw[getElem!_pos s.toArray (m-1) (by simp;omega)];rfl
    rw[em,em1] at hne
    obtain⟨k,hk',rfl⟩:=List.mem_iff_getElem.1 hx'
    rw[List.getElem_take]
    rw[List.length_take] at hk'
    have a1:s[k]'(by omega)≤s[m-1]'(by omega):=by
     rcases Nat.lt_or_ge k (m-1) with q | q
     ·exact List.pairwise_iff_getElem.1 hs k (m-1) (by omega) (by omega) q
     ·have:k=m-1:=by omega
      subst this
      exact Int.le_refl _
    have a2:=List.pairwise_iff_getElem.1 hs (m-1) m (by omega) (by omega) (by omega)
    omega
  ·rw[if_neg hk,List.append_nil]
   refine⟨h1,fun x=>?_⟩
   rw[h2,List.mem_append]
   constructor
   ·exact fun h=>Or.inl h
   ·rintro (h | h)
    ·exact h
    ·simp only[List.mem_cons,List.not_mem_nil,or_false] at h
     subst h
     have h0:m≠0:=fun e=>hk (Lib.keeps_lt_one s.toArray m (by omega))
     have he:s.toArray[m]! = s.toArray[m-1]! := Classical.byContradiction fun q=>hk (Lib.keeps_pos q)
     have em1:s.toArray[m-1]! = s[m-1]'(by omega):=by rw[getElem!_pos s.toArray (m-1) (by simp;omega)];rfl
     rw[em,em1] at he
     rw[he]
     refine List.mem_iff_getElem.2 ⟨m-1,by rw[List.length_take];omega,?_⟩
     rw[List.getElem_take]
theorem z_gR (l:List Int):Lib.compactUpTo (l.mergeSort fun x y=>decide (x≤y)).toArray (l.mergeSort fun x y=>decide (x≤y)).length=noted l:=by
 have hs:(l.mergeSort fun x y=>decide (x≤y)).Pairwise (·≤·):=(List.pairwise_mergeSort (le:=fun x y:Int=>decide (x≤y)) (fun a b c h1 h2=>by simp at *;omega) (fun a b=>by simp;omega) l).imp fun h=>by simpa using h
 have hp:=List.mergeSort_perm l (fun x y:Int=>decide (x≤y))
 obtain⟨h1,h2⟩:=v_V _ hs _ (Nat.le_refl _)
 obtain⟨n1,n2⟩:=z_cm l [] List.Pairwise.nil
 refine v_K _ _ h1 n1 fun x=>?_
 rw[h2,List.take_length,hp.mem_iff]
 show x∈l↔x∈l.foldl noteL []
 rw[n2]
 simp
end S17
end
end Go.Proofs.YtlchejbggnbccaaGreat
