/-
  The definition's steps of a port: the walk of port, for every tree. And what follows from it here.
-/
import Derived.Test.YtlchejbggnbccaaGreatP17b
import Derived.Test.YtlchejbggnbccaaGreatP11d
import Derived.Test.YtlchejbggnbccaaGreatP13g
import Derived.Test.YtlchejbggnbccaaGreatP14a
import Derived.Test.YtlchejbggnbccaaGreatP14c
import Derived.Test.YtlchejbggnbccaaGreatP15a
import Derived.Test.YtlchejbggnbccaaGreatP15b
namespace Go.Proofs.YtlchejbggnbccaaGreat
open _root_.Go.Proofs.YtlchejbggnbccaaGreat renaming tk → tkq
set_option linter.unusedVariables false
set_option linter.unusedSimpArgs false
set_option maxRecDepth 4000
set_option maxHeartbeats 40000000
open _root_.Go.Proofs.Tryz
section
namespace S17
open Go.RowKit
abbrev xq0:Oper:={ dst:=some 91,op:=Op.load 39 (Operand.tmp 3),type:=39,pos:= "ref.go:57",after:=#[],guard:=none }
abbrev xq1:Oper:={ dst:=some 92,op:=Op.load 53 (Operand.tmp 4),type:=53,pos:= "ref.go:57",after:=#[{ on:=21,ground:=Ground.gcOnly Departure.lateStores }],guard:=none }
abbrev xq2:Oper:={ dst:=some 93,op:=Op.move (Operand.tmp 9),type:=4,pos:= "ref.go:57",after:=#[],guard:=none }
abbrev xq3:Oper:={ dst:=some 94,op:=Op.move (Operand.tmp 93),type:=4,pos:= "ref.go:57",after:=#[{ on:=2,ground:=Ground.data }],guard:=none }
abbrev xq4:Oper:={ dst:=some 95,op:=Op.move (Operand.tmp 10),type:=4,pos:= "ref.go:57",after:=#[{ on:=3,ground:=Ground.guard }],guard:=some (3,false) }
abbrev xq5:Oper:={ dst:=some 96,op:=Op.pick (Operand.tmp 94) (Operand.const (Value.bool true)) (Operand.tmp 95),type:=4,pos:= "ref.go:57",after:=#[{ on:=3,ground:=Ground.data },{ on:=4,ground:=Ground.data }],guard:=none }
abbrev xq6:Oper:={ dst:=some 97,op:=Op.move (Operand.tmp 96),type:=4,pos:= "ref.go:57",after:=#[{ on:=5,ground:=Ground.data },{ on:=3,ground:=Ground.chain }],guard:=none }
abbrev xq7:Oper:={ dst:=some 98,op:=Op.move (Operand.tmp 12),type:=4,pos:= "ref.go:57",after:=#[{ on:=6,ground:=Ground.guard }],guard:=some (6,false) }
abbrev xq8:Oper:={ dst:=some 99,op:=Op.pick (Operand.tmp 97) (Operand.const (Value.bool true)) (Operand.tmp 98),type:=4,pos:= "ref.go:57",after:=#[{ on:=6,ground:=Ground.data },{ on:=7,ground:=Ground.data }],guard:=none }
abbrev xq9:Oper:={ dst:=some 100,op:=Op.move (Operand.tmp 99),type:=4,pos:= "ref.go:57",after:=#[{ on:=8,ground:=Ground.data },{ on:=6,ground:=Ground.chain }],guard:=none }
abbrev xq10:Oper:={ dst:=some 101,op:=Op.move (Operand.tmp 13),type:=4,pos:= "ref.go:57",after:=#[{ on:=9,ground:=Ground.guard }],guard:=some (9,false) }
abbrev xq11:Oper:={ dst:=some 102,op:=Op.pick (Operand.tmp 100) (Operand.const (Value.bool true)) (Operand.tmp 101),type:=4,pos:= "ref.go:57",after:=#[{ on:=9,ground:=Ground.data },{ on:=10,ground:=Ground.data }],guard:=none }
abbrev xq12:Oper:={ dst:=some 103,op:=Op.move (Operand.tmp 102),type:=4,pos:= "ref.go:57",after:=#[{ on:=11,ground:=Ground.data },{ on:=9,ground:=Ground.chain }],guard:=none }
abbrev xq13:Oper:={ dst:=some 104,op:=Op.move (Operand.tmp 14),type:=4,pos:= "ref.go:57",after:=#[{ on:=12,ground:=Ground.guard }],guard:=some (12,false) }
abbrev xq14:Oper:={ dst:=some 105,op:=Op.pick (Operand.tmp 103) (Operand.const (Value.bool true)) (Operand.tmp 104),type:=4,pos:= "ref.go:57",after:=#[{ on:=12,ground:=Ground.data },{ on:=13,ground:=Ground.data }],guard:=none }
abbrev xq15:Oper:={ dst:=some 106,op:=Op.move (Operand.tmp 105),type:=4,pos:= "ref.go:57",after:=#[{ on:=14,ground:=Ground.data },{ on:=12,ground:=Ground.chain }],guard:=none }
abbrev xq16:Oper:={ dst:=some 107,op:=Op.move (Operand.tmp 15),type:=4,pos:= "ref.go:57",after:=#[{ on:=15,ground:=Ground.guard }],guard:=some (15,false) }
abbrev xq17:Oper:={ dst:=some 108,op:=Op.pick (Operand.tmp 106) (Operand.const (Value.bool true)) (Operand.tmp 107),type:=4,pos:= "ref.go:57",after:=#[{ on:=15,ground:=Ground.data },{ on:=16,ground:=Ground.data }],guard:=none }
abbrev xq18:Oper:={ dst:=some 109,op:=Op.move (Operand.tmp 108),type:=4,pos:= "ref.go:57",after:=#[{ on:=17,ground:=Ground.data },{ on:=15,ground:=Ground.chain }],guard:=none }
abbrev xq19:Oper:={ dst:=some 110,op:=Op.move (Operand.tmp 17),type:=4,pos:= "ref.go:57",after:=#[{ on:=18,ground:=Ground.guard },{ on:=22,ground:=Ground.gcOnly Departure.lateStores }],guard:=some (18,false) }
abbrev xq20:Oper:={ dst:=some 111,op:=Op.pick (Operand.tmp 109) (Operand.const (Value.bool true)) (Operand.tmp 110),type:=4,pos:= "ref.go:57",after:=#[{ on:=18,ground:=Ground.data },{ on:=19,ground:=Ground.data },{ on:=22,ground:=Ground.gcOnly Departure.lateStores }],guard:=none }
abbrev xq23:Oper:={ dst:=some 8,op:=Op.assign (Operand.tmp 111),type:=4,pos:= "ref.go:57",after:=#[{ on:=20,ground:=Ground.data },{ on:=22,ground:=Ground.chain },{ on:=0,ground:=Ground.phase },{ on:=1,ground:=Ground.phase },{ on:=2,ground:=Ground.phase },{ on:=3,ground:=Ground.phase },{ on:=4,ground:=Ground.phase },{ on:=5,ground:=Ground.phase },{ on:=6,ground:=Ground.phase },{ on:=7,ground:=Ground.phase },{ on:=8,ground:=Ground.phase },{ on:=9,ground:=Ground.phase },{ on:=10,ground:=Ground.phase },{ on:=11,ground:=Ground.phase },{ on:=12,ground:=Ground.phase },{ on:=13,ground:=Ground.phase },{ on:=14,ground:=Ground.phase },{ on:=15,ground:=Ground.phase },{ on:=16,ground:=Ground.phase },{ on:=17,ground:=Ground.phase },{ on:=18,ground:=Ground.phase },{ on:=19,ground:=Ground.phase },{ on:=20,ground:=Ground.phase },{ on:=21,ground:=Ground.phase },{ on:=22,ground:=Ground.phase }],guard:=none }
abbrev y_M:Oper:={ dst:=some 95,op:=Op.move (Operand.tmp 10),type:=4,pos:= "ref.go:57",after:=#[{ on:=3,ground:=Ground.guard }],guard:=some (3,false) }
abbrev y_J:Oper:={ dst:=some 98,op:=Op.move (Operand.tmp 12),type:=4,pos:= "ref.go:57",after:=#[{ on:=6,ground:=Ground.guard }],guard:=some (6,false) }
abbrev y_v:Oper:={ dst:=some 101,op:=Op.move (Operand.tmp 13),type:=4,pos:= "ref.go:57",after:=#[{ on:=9,ground:=Ground.guard }],guard:=some (9,false) }
abbrev y_s:Oper:={ dst:=some 104,op:=Op.move (Operand.tmp 14),type:=4,pos:= "ref.go:57",after:=#[{ on:=12,ground:=Ground.guard }],guard:=some (12,false) }
abbrev y_p:Oper:={ dst:=some 107,op:=Op.move (Operand.tmp 15),type:=4,pos:= "ref.go:57",after:=#[{ on:=15,ground:=Ground.guard }],guard:=some (15,false) }
abbrev y_m:Oper:={ dst:=some 110,op:=Op.move (Operand.tmp 17),type:=4,pos:= "ref.go:57",after:=#[{ on:=18,ground:=Ground.guard },{ on:=22,ground:=Ground.gcOnly Departure.lateStores }],guard:=some (18,false) }
abbrev y_k:Oper:={ dst:=none,op:=Op.store 39 (Operand.tmp 6) (Operand.tmp 91),type:=0,pos:= "ref.go:57",after:=#[{ on:=0,ground:=Ground.data },{ on:=18,ground:=Ground.chain },{ on:=0,ground:=Ground.phase },{ on:=1,ground:=Ground.textOnly Departure.lateStores },{ on:=2,ground:=Ground.textOnly Departure.lateStores },{ on:=3,ground:=Ground.textOnly Departure.lateStores },{ on:=4,ground:=Ground.textOnly Departure.lateStores },{ on:=5,ground:=Ground.textOnly Departure.lateStores },{ on:=6,ground:=Ground.textOnly Departure.lateStores },{ on:=7,ground:=Ground.textOnly Departure.lateStores },{ on:=8,ground:=Ground.textOnly Departure.lateStores },{ on:=9,ground:=Ground.textOnly Departure.lateStores },{ on:=10,ground:=Ground.textOnly Departure.lateStores },{ on:=11,ground:=Ground.textOnly Departure.lateStores },{ on:=12,ground:=Ground.textOnly Departure.lateStores },{ on:=13,ground:=Ground.textOnly Departure.lateStores },{ on:=14,ground:=Ground.textOnly Departure.lateStores },{ on:=15,ground:=Ground.textOnly Departure.lateStores },{ on:=16,ground:=Ground.textOnly Departure.lateStores },{ on:=17,ground:=Ground.textOnly Departure.lateStores },{ on:=18,ground:=Ground.textOnly Departure.lateStores },{ on:=19,ground:=Ground.textOnly Departure.lateStores },{ on:=20,ground:=Ground.textOnly Departure.lateStores }],guard:=none }
abbrev y_j:Oper:={ dst:=none,op:=Op.store 53 (Operand.tmp 7) (Operand.tmp 92),type:=0,pos:= "ref.go:57",after:=#[{ on:=1,ground:=Ground.data },{ on:=21,ground:=Ground.chain },{ on:=0,ground:=Ground.phase },{ on:=1,ground:=Ground.phase },{ on:=2,ground:=Ground.textOnly Departure.lateStores },{ on:=3,ground:=Ground.textOnly Departure.lateStores },{ on:=4,ground:=Ground.textOnly Departure.lateStores },{ on:=5,ground:=Ground.textOnly Departure.lateStores },{ on:=6,ground:=Ground.textOnly Departure.lateStores },{ on:=7,ground:=Ground.textOnly Departure.lateStores },{ on:=8,ground:=Ground.textOnly Departure.lateStores },{ on:=9,ground:=Ground.textOnly Departure.lateStores },{ on:=10,ground:=Ground.textOnly Departure.lateStores },{ on:=11,ground:=Ground.textOnly Departure.lateStores },{ on:=12,ground:=Ground.textOnly Departure.lateStores },{ on:=13,ground:=Ground.textOnly Departure.lateStores },{ on:=14,ground:=Ground.textOnly Departure.lateStores },{ on:=15,ground:=Ground.textOnly Departure.lateStores },{ on:=16,ground:=Ground.textOnly Departure.lateStores },{ on:=17,ground:=Ground.textOnly Departure.lateStores },{ on:=18,ground:=Ground.textOnly Departure.lateStores },{ on:=19,ground:=Ground.textOnly Departure.lateStores },{ on:=20,ground:=Ground.textOnly Departure.lateStores },{ on:=21,ground:=Ground.phase }],guard:=none }
theorem infoE:(prog.info? 53).map (·.size)=some 2:=by kernel_rfl
theorem rtE:RowTy 53 2:=⟨infoE,_,underlying53,rfl⟩
theorem ldEn (x:Value):Instr.loadAt 53 x=ldS 53 x:=rfl
theorem stEn (x y:Value):Instr.storeAt 53 x y=stS 53 x y:=rfl
def isO (W:World) (v:Value) (l:List Ot):Prop:=∃a n c,v=.slice a n c∧S16.SlAt eO W a n c l
def isI (W:World) (v:Value) (l:List Int):Prop:=∃a n c,v=.slice a n c∧S16.SlAt eI W a n c l
theorem isO.below {W V:World} {v:Value} {l:List Ot} (h:isO W v l) (k:Below W.heap.size W V):isO V v l:=by
 obtain⟨a,n,c,e,s⟩:=h
 exact⟨a,n,c,e,s.below k⟩
theorem isI.below {W V:World} {v:Value} {l:List Int} (h:isI W v l) (k:Below W.heap.size W V):isI V v l:=by
 obtain⟨a,n,c,e,s⟩:=h
 exact⟨a,n,c,e,s.below k⟩
theorem isO.row {W V:World} {v:Value} {l:List Ot} {b:Nat} {t:TypeId} {cs:Array Value} (h:isO W v l) (r:RvAt W b t cs) (ht:t≠91) (g:W.grownBy V (some b)):isO V v l:=by
 obtain⟨a,n,c,e,s⟩:=h
 exact⟨a,n,c,e,s.keptV r ht g⟩
theorem isI.row {W V:World} {v:Value} {l:List Int} {b:Nat} {t:TypeId} {cs:Array Value} (h:isI W v l) (r:RvAt W b t cs) (ht:t≠3) (g:W.grownBy V (some b)):isI V v l:=by
 obtain⟨a,n,c,e,s⟩:=h
 exact⟨a,n,c,e,s.keptV r ht g⟩
theorem isO.one {W:World} {v:Value} {l:List Ot} (h:isO W v l):v.oneCell'=true:=by
 obtain⟨a,n,c,rfl,s⟩:=h
 rfl
theorem isI.one {W:World} {v:Value} {l:List Int} (h:isI W v l):v.oneCell'=true:=by
 obtain⟨a,n,c,rfl,s⟩:=h
 rfl
structure RS (w W:World) (h:Hd) (a:Option Addr) (n c:Nat) (l:List Pt) (vo vf:Value) (os:List Ot) (fs:List Int):Prop where
 tv:RvAt W w.heap.size 39 (trc h (.slice a n c))
 dv:RvAt W (w.heap.size+1) 53 #[vo,vf]
 tt:RvAt W (w.heap.size+2) 39 (trc zeroH (.slice none 0 0))
 dd:RvAt W (w.heap.size+3) 53 #[.slice none 0 0,.slice none 0 0]
 sl:SlAt W a n c l
 so:isO W vo os
 sf:isI W vf fs
 bel:Below w.heap.size w W
section
variable {w W V X:World} {h:Hd} {a a':Option Addr} {n c c':Nat} {l l':List Pt} {vo vf vo' vf':Value} {os os':List Ot} {fs fs':List Int}
theorem RS.below (s:RS w W h a n c l vo vf os fs) (k:Below W.heap.size W V):RS w V h a n c l vo vf os fs:=⟨s.tv.below k,s.dv.below k,s.tt.below k,s.dd.below k,s.sl.below k,s.so.below k,s.sf.below k,z_a s.bel k⟩
theorem RS.tree (s:RS w X h a n c l vo vf os fs) (hs:SlAt X a' n c' l'):∃V,(stS 39 (.pointer (some ⟨w.heap.size,0,none⟩)) (.agg (trc h (.slice a' n c')))).run prog X=.ok () V∧RS w V h a' n c' l' vo vf os fs∧X.grownBy V (some w.heap.size):=by
 obtain⟨V,e,r,g⟩:=s.tv.tst (g:=h) (y:=.slice a' n c') rfl
 exact⟨V,e,⟨r,s.dv.keptBut g (by simp),s.tt.keptBut g (by simp),s.dd.keptBut g (by simp),hs.keptT s.tv g,s.so.row s.tv (by decide) g,s.sf.row s.tv (by decide) g,gro s.bel g (Nat.le_refl _) s.bel.size⟩,g⟩
theorem RS.flu (s:RS w X h a n c l vo vf os fs) (hf:isI X vf' fs'):∃V,(stS 50 (.pointer (some ⟨w.heap.size+1,1,none⟩)) vf').run prog X=.ok () V∧RS w V h a n c l vo vf' os fs'∧X.grownBy V (some (w.heap.size+1)):=by
 have e:=RvAt.st1 (tv:=50) (k:=1) (v:=vf') s.dv infoLI (by simp) hf.one
 have g:=z_m X (w.heap.size+1) (#[vo,vf].toList.set 1 vf').toArray
 exact⟨_,e,⟨s.tv.keptBut g (by simp),s.dv.set,s.tt.keptBut g (by simp),s.dd.keptBut g (by simp),s.sl.keptZ s.dv (by simp) g,s.so.row s.dv (by decide) g,hf.row s.dv (by decide) g,gro s.bel g (by omega) s.bel.size⟩,g⟩
theorem RS.out (s:RS w X h a n c l vo vf os fs) (hf:isO X vo' os'):∃V,(stS 49 (.pointer (some ⟨w.heap.size+1,0,none⟩)) vo').run prog X=.ok () V∧RS w V h a n c l vo' vf os' fs∧X.grownBy V (some (w.heap.size+1)):=by
 have e:=RvAt.st1 (tv:=49) (k:=0) (v:=vo') s.dv infoLO (by simp) hf.one
 have g:=z_m X (w.heap.size+1) (#[vo,vf].toList.set 0 vo').toArray
 exact⟨_,e,⟨s.tv.keptBut g (by simp),s.dv.set,s.tt.keptBut g (by simp),s.dd.keptBut g (by simp),s.sl.keptZ s.dv (by simp) g,hf.row s.dv (by decide) g,s.sf.row s.dv (by decide) g,gro s.bel g (by omega) s.bel.size⟩,g⟩
theorem RS.port {b o z:Nat} {cs:Array Value} (s:RS w W h (some ⟨b,o,none⟩) n c l vo vf os fs) (r:RvAt W z 74 cs) (hz:b≠z) (hw:w.heap.size≤z) (g:W.grownBy V (some z)):RS w V h (some ⟨b,o,none⟩) n c l vo vf os fs:=by
 have a1:=z_L s.tv r (by decide)
 have a2:=z_L s.dv r (by decide)
 have a3:=z_L s.tt r (by decide)
 have a4:=z_L s.dd r (by decide)
 exact⟨s.tv.keptBut g (by simpa using a1),s.dv.keptBut g (by simpa using a2),s.tt.keptBut g (by simpa using a3),s.dd.keptBut g (by simpa using a4),s.sl.keptBut g (fun x hx e=>by cases hx;simp only[Option.some.injEq] at e;exact hz e),s.so.row r (by decide) g,s.sf.row r (by decide) g,gro s.bel g hw s.bel.size⟩
end
theorem z_jT (w:World) (h:Hd) (x vo vf:Value):∃W,(((w.alloc (.cells (trc h x) 39)).alloc (.cells #[vo,vf] 53)).alloc (.cells #[.int .u64 0,.int .u8 0,.int .u8 0,.int .u8 0,.int .u8 0,.int .u8 0,.bool false,.int .u16 0,.int .u64 0,.int .u32 0,.int .u64 0,.int .u16 0,.int .u8 0,.int .u8 0,.int .u8 0,.int .u8 0,.slice none 0 0] 39)).alloc (.cells #[.slice none 0 0,.slice none 0 0] 53)=W∧RvAt W w.heap.size 39 (trc h x)∧RvAt W (w.heap.size+1) 53 #[vo,vf]∧RvAt W (w.heap.size+2) 39 (trc zeroH (.slice none 0 0))∧RvAt W (w.heap.size+3) 53 #[.slice none 0 0,.slice none 0 0]∧Below w.heap.size w W∧W.heap.size=w.heap.size+4:=by
 refine⟨_,rfl,?_⟩
 obtain⟨A,hA⟩:∃A,w.alloc (.cells (trc h x) 39)=A:=⟨_,rfl⟩
 have rA:RvAt A w.heap.size 39 (trc h x):=by rw[←hA];exact RvAt.new _ _ _
 have bA:Below w.heap.size w A:=by rw[←hA];exact (Below.refl _ _).alloc (Nat.le_refl _) _
 have zA:A.heap.size=w.heap.size+1:=by rw[←hA];simp
 rw[hA]
 obtain⟨B,hB⟩:∃B,A.alloc (.cells #[vo,vf] 53)=B:=⟨_,rfl⟩
 have rB:RvAt B (w.heap.size+1) 53 #[vo,vf]:=by rw[←hB,← zA];exact RvAt.new _ _ _
 have bB:Below A.heap.size A B:=by rw[←hB];exact (Below.refl _ _).alloc (Nat.le_refl _) _
 have zB:B.heap.size=w.heap.size+2:=by rw[←hB];simp[zA]
 rw[hB]
 obtain⟨C,hC⟩:∃C,B.alloc (.cells zeroT 39)=C:=⟨_,rfl⟩
 have rC:RvAt C (w.heap.size+2) 39 (trc zeroH (.slice none 0 0)):=by rw[←hC,← zB,← y_a];exact RvAt.new _ _ _
 have bC:Below B.heap.size B C:=by rw[←hC];exact (Below.refl _ _).alloc (Nat.le_refl _) _
 have zC:C.heap.size=w.heap.size+3:=by rw[←hC];simp[zB]
 rw[show B.alloc (.cells #[.int .u64 0,.int .u8 0,.int .u8 0,.int .u8 0,.int .u8 0,.int .u8 0,.bool false,.int .u16 0,.int .u64 0,.int .u32 0,.int .u64 0,.int .u16 0,.int .u8 0,.int .u8 0,.int .u8 0,.int .u8 0,.slice none 0 0] 39)=C from hC]
 have bD:Below C.heap.size C (C.alloc (.cells #[.slice none 0 0,.slice none 0 0] 53)):=(Below.refl _ _).alloc (Nat.le_refl _) _
 refine⟨((rA.below bB).below bC).below bD,(rB.below bC).below bD,rC.below bD,?_,z_a (z_a (z_a bA bB) bC) bD,by simp[zC]⟩
 have:=RvAt.new C 53 #[.slice none 0 0,.slice none 0 0]
 rw[zC] at this
 exact this
theorem z_B {fn:Func} {k m t:Nat} {td:TypeId} (hd:RowTy td 2) (hr:fn.results=#[.cell k 39,.cell m td,.tmp t]) (tmps:Array Value) (w:World) (b d:Nat) (h:Hd) (x vo vf:Value) (h2:tmps.getD k undef=.pointer (some ⟨b,0,none⟩)) (h3:tmps.getD m undef=.pointer (some ⟨d,0,none⟩)) (r:RvAt w b 39 (trc h x)) (q:RvAt w d td #[vo,vf]) :
  (results fn tmps).run prog w=.ok (.tuple #[.agg (trc h x),.agg #[vo,vf],tmps.getD t undef]) w:=by
 have hl:=r.lv rtT (z_c h x)
 have hq:=q.lv hd rfl
 have h2':tmps[k]?.getD undef=.pointer (some ⟨b,0,none⟩):=by simpa using h2
 have h3':tmps[m]?.getD undef=.pointer (some ⟨d,0,none⟩):=by simpa using h3
 simp[results,hr,asAddr,hl,hq,h2',h3']
attribute [local go_sem ↓] ldP stP ldT stT ldEn stEn stLO stLI apLO apLI st4 alP
attribute [local go_sem] z_l
theorem z_dw (h:Hd) (a:Option Addr) (n c:Nat) (l:List Pt) (vo vf:Value) (os:List Ot) (fs:List Int) (i:Nat) (b0:Bool) (w:World) (hs:SlAt w a n c l) (ho:isO w vo os) (hf:isI w vf (noted fs)) (hn:n≤100) (hi:i<n) (hol:os.length≤20000) (hfl:(noted fs).length≤19999) :
  Calls prog 58 #[.agg (trc h (.slice a n c)),.agg #[vo,vf],.int .i64 (i:Int)] w fun r V=>∃(x:Bool) (a':Option Addr) (c':Nat) (vo' vf':Value),r=.returned (.tuple #[.agg (trc h (.slice a' n c')),.agg #[vo',vf'],.bool x])∧(ptF h i ⟨l,b0,os,fs⟩).b=(b0 || x)∧SlAt V a' n c' (ptF h i ⟨l,b0,os,fs⟩).l∧isO V vo' (ptF h i ⟨l,b0,os,fs⟩).o∧isI V vf' (noted (ptF h i ⟨l,b0,os,fs⟩).f)∧Below w.heap.size w V:=by
 have hi0:(0:Int)≤(i:Int):=by omega
 have hi1:(i:Int)<(n:Int):=by omega
 obtain⟨l1,e1⟩:∃z,S11.stepL l (i:Int)=z:=⟨_,rfl⟩
 obtain⟨x1,f1⟩:∃z,S11.stepB l (i:Int)=z:=⟨_,rfl⟩
 obtain⟨l2,e2⟩:∃z,S13.stepL l1 (i:Int)=z:=⟨_,rfl⟩
 obtain⟨x2,f2⟩:∃z,S13.stepB l1 (i:Int)=z:=⟨_,rfl⟩
 obtain⟨q3,g3⟩:∃z,(S14.pstO (gtP l2 i)).getD (gtP l2 i)=z:=⟨_,rfl⟩
 obtain⟨x3,f3⟩:∃z,(S14.pstO (gtP l2 i)).isSome=z:=⟨_,rfl⟩
 obtain⟨l3,e3⟩:∃z,l2.set i q3=z:=⟨_,rfl⟩
 obtain⟨l4,e4⟩:∃z,(S14.tcmO h l3 i).getD l3=z:=⟨_,rfl⟩
 obtain⟨x4,f4⟩:∃z,(S14.tcmO h l3 i).isSome=z:=⟨_,rfl⟩
 obtain⟨x5,f5⟩:∃z,(gtP l4 i).bt 6=z:=⟨_,rfl⟩
 obtain⟨l5,e5⟩:∃z:List Pt,(if x5=true then l4.set i ((gtP l4 i).setB 6 kf6 false) else l4)=z:=⟨_,rfl⟩
 obtain⟨fs5,d5⟩:∃z:List Int,(if x5=true then fs++[(i:Int)] else fs)=z:=⟨_,rfl⟩
 obtain⟨l6,e6⟩:∃z,(S15.ppmO l5 i).getD l5=z:=⟨_,rfl⟩
 obtain⟨x6,f6⟩:∃z,(S15.ppmO l5 i).isSome=z:=⟨_,rfl⟩
 obtain⟨l7,e7⟩:∃z,(S15.ptxO h l6 i).getD l6=z:=⟨_,rfl⟩
 obtain⟨x7,f7⟩:∃z,(S15.ptxO h l6 i).isSome=z:=⟨_,rfl⟩
 obtain⟨u7,d7⟩:∃z,S15.ptxU h l6 i=z:=⟨_,rfl⟩
 have EP:Hid (ptF h i ⟨l,b0,os,fs⟩=⟨l7,b0 || (x1 || x2 || x3 || x4 || x5 || x6 || x7),os++opt u7,fs5⟩):=by
  show stK h i (stK h i (stK h i (stK h i (stK h i (stK h i (stK h i ⟨l,b0,os,fs⟩ 0) 1) 2) 3) 4) 5) 6=_
  have s0:stK h i ⟨l,b0,os,fs⟩ 0=⟨l1,b0 || x1,os,fs⟩:=by rw[←e1,← f1];rfl
  rw[s0]
  have s1:stK h i ⟨l1,b0 || x1,os,fs⟩ 1=⟨l2,b0 || x1 || x2,os,fs⟩:=by rw[←e2,← f2];rfl
  rw[s1]
  have s2:stK h i ⟨l2,b0 || x1 || x2,os,fs⟩ 2=⟨l3,b0 || x1 || x2 || x3,os,fs⟩:=by rw[←e3,← f3,← g3];rfl
  rw[s2]
  have s3:stK h i ⟨l3,b0 || x1 || x2 || x3,os,fs⟩ 3=⟨l4,b0 || x1 || x2 || x3 || x4,os,fs⟩:=by rw[←e4,← f4];rfl
  rw[s3]
  have s4:stK h i ⟨l4,b0 || x1 || x2 || x3 || x4,os,fs⟩ 4=⟨l5,b0 || x1 || x2 || x3 || x4 || x5,os,fs5⟩:=by
   show (if (gtP l4 i).bt 6=true then _ else _)=_
   rw[←e5,← d5,f5]
   cases x5<;>simp
  rw[s4]
  have s5:stK h i ⟨l5,b0 || x1 || x2 || x3 || x4 || x5,os,fs5⟩ 5=⟨l6,b0 || x1 || x2 || x3 || x4 || x5 || x6,os,fs5⟩:=by rw[←e6,← f6];rfl
  rw[s5]
  have s6:stK h i ⟨l6,b0 || x1 || x2 || x3 || x4 || x5 || x6,os,fs5⟩ 6=⟨l7,b0 || x1 || x2 || x3 || x4 || x5 || x6 || x7,os++opt u7,fs5⟩:=by rw[←e7,← f7,← d7];rfl
  rw[s6]
  simp only[Bool.or_assoc]
 rw[EP.out]
 have EX:Hid (fs5=if x5=true then fs++[(i:Int)] else fs):=d5.symm
 have E5:Hid (l5=if x5=true then l4.set i ((gtP l4 i).setB 6 kf6 false) else l4):=e5.symm
 obtain⟨W,hW,r0,r1,r2,r3,bW,zW⟩:=z_jT w h (.slice a n c) vo vf
 have S:Hid (RS w W h a n c l vo vf os (noted fs)):=⟨r0,r1,r2,r3,hs.below bW,ho.below bW,hf.below bW,bW⟩
 have Q1:Hid (S11.stepL l (i:Int)=l1∧S11.stepB l (i:Int)=x1):=⟨e1,f1⟩
 have Q2:Hid (S13.stepL l1 (i:Int)=l2∧S13.stepB l1 (i:Int)=x2):=⟨e2,f2⟩
 have Q3:Hid ((S14.pstO (gtP l2 i)).getD (gtP l2 i)=q3∧(S14.pstO (gtP l2 i)).isSome=x3∧l2.set i q3=l3):=⟨g3,f3,e3⟩
 have Q4:Hid ((S14.tcmO h l3 i).getD l3=l4∧(S14.tcmO h l3 i).isSome=x4∧(gtP l4 i).bt 6=x5):=⟨e4,f4,f5⟩
 have Q6:Hid ((S15.ppmO l5 i).getD l5=l6∧(S15.ppmO l5 i).isSome=x6):=⟨e6,f6⟩
 have Q7:Hid ((S15.ptxO h l6 i).getD l6=l7∧(S15.ptxO h l6 i).isSome=x7∧S15.ptxU h l6 i=u7):=⟨e7,f7,d7⟩
 have HL:Hid (os.length≤20000∧(noted fs).length≤19999∧n≤1000):=⟨hol,hfl,by omega⟩
 have lt:=r0.tld
 clear hs ho hf hol hfl r0 r1 r2 r3 bW zW e1 f1 e2 f2 g3 f3 e3 e4 f4 f5 e5 d5 e6 f6 e7 f7 d7
 go_enter func58,ntmps58
 go_wp2_with fail
 refine (S11.x_e h a n c l (i:Int) W S.out.sl HL.out.2.2).mono ?_
 rintro _ X1 ⟨a1,c1,rfl,s1,b1⟩
 rw[Q1.out.1] at s1
 rw[Q1.out.2]
 obtain⟨V1,t1,S1',g1⟩:=(S.out.below b1).tree s1
 have S1:Hid (RS w V1 h a1 n c1 l1 vo vf os (noted fs)):=S1'
 have k1:=S1'.tv.tld
 clear S s1 b1 S1' g1 lt hW Q1
 go_wp2_with fail
 refine (S13.x_e h a1 n c1 l1 (i:Int) V1 S1.out.sl HL.out.2.2).mono ?_
 rintro _ X2 ⟨a2,c2,rfl,s2,b2⟩
 rw[Q2.out.1] at s2
 rw[Q2.out.2]
 obtain⟨V2,t2,S2',g2⟩:=(S1.out.below b2).tree s2
 obtain⟨pb,po,rfl⟩:=S2'.sl.some' (by omega)
 have hi2:i<l2.length:=by rw[S2'.sl.len];exact hi
 have S2:Hid (RS w V2 h (some ⟨pb,po,none⟩) n c2 l2 vo vf os (noted fs)):=S2'
 have k2:=S2'.tv.t16
 have p2:=S2'.sl.ld (z_k hi2)
 clear S1 s2 b2 S2' g2 k1 t1 Q2
 obtain⟨pp,hpp⟩:∃z,gtP l2 i=z:=⟨_,rfl⟩
 rw[hpp] at p2 Q3
 clear hpp
 go_wp2_with fail
 refine (S14.z_fY pp V2).mono ?_
 rintro _ X3 ⟨rfl,b3⟩
 rw[Q3.out.1,Q3.out.2.1]
 obtain⟨V3,t3,r3,bV3,z3⟩:=y_b X3 q3
 obtain⟨z,hz⟩:∃z,X3.heap.size=z:=⟨_,rfl⟩
 rw[hz] at t3 r3
 have S3:Hid (RS w V3 h (some ⟨pb,po,none⟩) n c2 l2 vo vf os (noted fs)∧RvAt V3 z 74 q3.cs):=⟨(S2.out.below b3).below bV3,r3⟩
 have HZ:Hid (w.heap.size≤z):=by rw[←hz];exact Nat.le_trans S2.out.bel.size b3.size
 have k3:=S3.out.1.tv.tld
 have m3:=r3.pld
 clear S2 b3 bV3 z3 r3 k2 p2 t2
 go_wp2_with fail
 refine (z_o h (some ⟨pb,po,none⟩) n c2 l2 i q3 V3 S3.out.1.sl HL.out.2.2 hi).mono ?_
 rintro _ X4 ⟨ga,c3,rfl,hga,s4,b4⟩
 rw[Q3.out.2.2] at s4
 obtain⟨V4,t4,S4',g4⟩:=(S3.out.1.below b4).tree s4
 have S4:Hid (RS w V4 h (some ⟨ga,0,none⟩) n c3 l3 vo vf os (noted fs)∧RvAt V4 z 74 q3.cs):=⟨S4',(S3.out.2.below b4).keptBut g4 (by have:=z_L (S3.out.2.below b4) (S3.out.1.below b4).tv (by decide);simpa using this)⟩
 have HG:Hid (z<ga):=Nat.lt_of_lt_of_le S3.out.2.lt hga
 have k4:=S4'.tv.tld
 clear S3 hga s4 b4 S4' g4 k3 m3 t3 hz Q3
 go_wp2_with fail
 refine (S14.z_iP h (some ⟨ga,0,none⟩) n c3 l3 i V4 S4.out.1.sl HL.out.2.2 hi).mono ?_
 rintro _ X5 ⟨a4,c4,rfl,s5,b5,f5⟩
 rw[Q4.out.1] at s5
 rw[Q4.out.2.1]
 obtain⟨V5,t5,S5',g5⟩:=(S4.out.1.below b5).tree s5
 obtain⟨tb,tk,rfl⟩:=S5'.sl.some' (by omega)
 have HT:Hid (tb≠z):=by
  have h1:=HG.out
  have h2:=S4.out.2.lt
  rcases f5 with e | e
  ·cases e
   exact (show ga≠z by omega)
  ·have h3:V4.heap.size≤tb:=e _ rfl
   exact (show tb≠z by omega)
 have hi4:i<l4.length:=by rw[S5'.sl.len];exact hi
 have S5:Hid (RS w V5 h (some ⟨tb,tk,none⟩) n c4 l4 vo vf os (noted fs)∧RvAt V5 z 74 q3.cs):=⟨S5',(S4.out.2.below b5).keptBut g5 (by have:=z_L (S4.out.2.below b5) (S4.out.1.below b5).tv (by decide);simpa using this)⟩
 have k5:=S5'.tv.t16
 have m5:=S5'.sl.cell (z_k hi4) ((gtP l4 i).bit (j:=6) rfl) (by omega)
 rw[Q4.out.2.2] at m5
 clear S4 s5 b5 S5' g5 k4 t4 Q4
 go_upto_if 55 with fail
 go_cut [] from 56 to 70 (fun wx=>∃(a5:Option Addr) (c5:Nat) (vf5:Value),RS w wx h a5 n c5 l5 vo vf5 os (noted fs5))
 case first=>
  cases x5
  ·have F:Hid (RS w V5 h (some ⟨tb,tk,none⟩) n c4 l5 vo vf os (noted fs5)):=by
    have q1:l5=l4:=by rw[E5.out];rfl
    have q2:fs5=fs:=by rw[EX.out];rfl
    rw[q1,q2]
    exact S5.out.1
   clear S5 t5 k5 m5
   go_wp2_with fail
   go_meet
   exact⟨_,_,_,F.out⟩
  ·have p5:=S5.out.1.sl.ld (z_k hi4)
   obtain⟨p4,hp4⟩:∃z,gtP l4 i=z:=⟨_,rfl⟩
   have q1:l5=l4.set i (p4.setB 6 kf6 false):=by rw[E5.out,hp4];rfl
   have q2:noted fs5=noteL (noted fs) (i:Int):=by rw[EX.out];exact z_cl fs _
   rw[hp4] at p5
   obtain⟨U1,u1,w1,y1⟩:=S5.out.2.pst (q:=p4)
   obtain⟨U2,u2,w2,y2⟩:=w1.setB kf6 false
   have S6:Hid (RS w U2 h (some ⟨tb,tk,none⟩) n c4 l4 vo vf os (noted fs)∧RvAt U2 z 74 (p4.setB 6 kf6 false).cs∧l5=l4.set i (p4.setB 6 kf6 false)∧noted fs5=noteL (noted fs) (i:Int)):=⟨(S5.out.1.port S5.out.2 HT.out HZ.out y1).port w1 HT.out HZ.out y2,w2,q1,q2⟩
   have k6:=S6.out.1.tv.tld
   have m6:=w2.pld
   clear S5 q1 q2 hp4 w1 w2 y1 y2
   go_wp2_with fail
   refine (z_o h (some ⟨tb,tk,none⟩) n c4 l4 i (p4.setB 6 kf6 false) U2 S6.out.1.sl HL.out.2.2 hi).mono ?_
   rintro _ X6 ⟨ge,ce,rfl,hge,s6,b6⟩
   rw[←S6.out.2.2.1] at s6
   obtain⟨V6,t6,S7',g6⟩:=(S6.out.1.below b6).tree s6
   have S7:Hid (RS w V6 h (some ⟨ge,0,none⟩) n ce l5 vo vf os (noted fs)):=S7'
   have k7:=S7'.dv.cell 1 vf rfl
   have EN:Hid (noted fs5=noteL (noted fs) (i:Int)):=S6.out.2.2.2
   clear S6 hge s6 b6 S7' g6 k6 m6 u1 u2 p5 k5 m5 t5
   obtain⟨af,nf,cf,rfl,sf⟩:=S7.out.sf
   have NF:Hid (nf≤20000):=by have:=HL.out.2.1;have:=sf.len;exact (show nf≤20000 by omega)
   have SF:Hid (S16.SlAt eI V6 af nf cf (noted fs)):=sf
   clear sf
   go_wp2_with fail
   refine (z_dy af nf cf (noted fs) (i:Int) V6 SF.out NF.out (by omega)).mono ?_
   rintro _ X7 ⟨ag,ng,cg,rfl,sg,b7⟩
   rw[←EN.out] at sg
   obtain⟨V7,t7,S8',g7⟩:=(S7.out.below b7).flu (vf':=.slice ag ng cg) ⟨ag,ng,cg,rfl,sg⟩
   have S8:Hid (RS w V7 h (some ⟨ge,0,none⟩) n ce l5 vo (.slice ag ng cg) os (noted fs5)):=S8'
   clear S7 sg b7 S8' g7 k7 t6
   go_wp2_with fail
   go_meet
   exact⟨_,_,_,S8.out⟩
 case rest=>
  obtain⟨a5,c5,vf5,hS⟩:=hcut
  have R5:Hid (RS w wc h a5 n c5 l5 vo vf5 os (noted fs5)):=hS
  have k8:=hS.tv.tld
  clear S5 t5 k5 m5 E5 EX HT HZ HG hS
  go_wp2_with fail
  refine (S15.z_iR h a5 n c5 l5 i wc R5.out.sl HL.out.2.2 hi).mono ?_
  rintro _ X8 ⟨a6,c6,rfl,s8,b8⟩
  rw[Q6.out.1] at s8
  rw[Q6.out.2]
  obtain⟨V8,t8,R6',g8⟩:=(R5.out.below b8).tree s8
  have R6:Hid (RS w V8 h a6 n c6 l6 vo vf5 os (noted fs5)):=R6'
  have k9:=R6'.tv.tld
  clear R5 s8 b8 R6' g8 k8 Q6
  go_wp2_with fail
  refine (S15.z_iQ h a6 n c6 l6 i V8 R6.out.sl HL.out.2.2 hi).mono ?_
  rintro _ X9 ⟨a7,c7,v7,rfl,s9,o9,b9⟩
  rw[Q7.out.1] at s9
  rw[Q7.out.2.1]
  rw[Q7.out.2.2] at o9
  obtain⟨ao,mo,co,rfl,so9⟩:=z_if o9
  obtain⟨V9,t9,R7',g9⟩:=(R6.out.below b9).tree s9
  have so9':=so9.keptV (R6.out.below b9).tv (by decide) g9
  have k0:=R7'.dv.cell 0 vo rfl
  obtain⟨A,hA⟩:∃A,V9.alloc (.cells #[] 91)=A:=⟨_,rfl⟩
  have bA:Below V9.heap.size V9 A:=by rw[←hA];exact (Below.refl _ _).alloc (Nat.le_refl _) _
  have oA:S16.Own eO A V9.heap.size (.slice (some ⟨V9.heap.size,0,none⟩) 0 0) []:=by rw[←hA];exact x_H V9 _ (Nat.le_refl _)
  obtain⟨ap,np,cp,rfl,sp⟩:=R7'.so
  have d0:=(R7'.below bA).dv.cell 0 (.slice ap np cp) rfl
  obtain⟨vb,B,apB,oB,gB⟩:=oA.app kO (sp.below bA) (by have:=HL.out.1;simp;omega) bA.size 49
  have bB:Below V9.heap.size A B:=z_h gB bA.size (fun j e=>(oA.blk j e).1)
  obtain⟨vc,C,apC,oC,gC⟩:=oB.app kO ((so9'.below bA).keptBut gB (fun x hx h0 e=>by
   have h1:=(oA.blk _ e.symm).1
   obtain⟨cs,r⟩:=so9'.soft x hx h0
   have:=r.lt
   omega)) (by have:=HL.out.1;have:=z_aJ u7;simp;omega) (Nat.le_trans bA.size bB.size) 49
  have bC:Below V9.heap.size B C:=z_h gC (Nat.le_trans bA.size bB.size) (fun j e=>(oB.blk j e).1)
  have apB:(S16.apS 49 49 #[.slice (some ⟨V9.heap.size,0,none⟩) 0 0,.slice ap np cp]).run prog A=.ok vb B:=apB
  have apC:(S16.apS 49 49 #[vb,.slice ao mo co]).run prog B=.ok vc C:=apC
  have bVC:Below V9.heap.size V9 C:=(bA.trans bB).trans bC
  obtain⟨ar,cr,er,sr,_⟩:=oC.form
  rw[List.nil_append] at sr
  obtain⟨D,t10,R8',g10⟩:=(R7'.below bVC).out (vo':=vc) ⟨ar,_,cr,er,sr⟩
  have R8:Hid (RS w D h a7 n c7 l7 vc vf5 (os++opt u7) (noted fs5)):=R8'
  clear R6 s9 o9 b9 so9 so9' g9 bA oA sp oB gB bB oC gC bC bVC er sr R8' g10 k9 t8 Q7 R7'
  go_upto_region 15 with fail
  clear t9 t10 apB apC hA k0 d0
  obtain⟨X0,hX⟩:∃X0,World.drew D=X0:=⟨_,rfl⟩
  have bX:Below D.heap.size D X0:=by rw[←hX];exact (Below.refl _ _).drew
  have QU:=R8.out.below bX
  obtain⟨U,sU,rU,gU⟩:=QU.tt.tst (g:=h) (y:=.slice a7 n c7) rfl
  have dU:=QU.dd.keptBut gU (by simp)
  have sZ:=dU.st (ds:=#[vc,vf5]) rtE rfl rfl (by
   intro x hx
   simp only[List.mem_cons,List.not_mem_nil,or_false] at hx
   rcases hx with rfl | rfl
   ·exact QU.so.one
   ·exact QU.sf.one)
  have gZ:=z_m U (w.heap.size+3) #[vc,vf5]
  obtain⟨Z,hZ⟩:∃Z,U.setRow (w.heap.size+3) #[vc,vf5]=Z:=⟨_,rfl⟩
  rw[hZ] at sZ gZ
  have DD:Hid ((RvAt X0 w.heap.size 39 (trc h (.slice a7 n c7))∧RvAt X0 (w.heap.size+1) 53 #[vc,vf5])∧(RvAt U w.heap.size 39 (trc h (.slice a7 n c7))∧RvAt U (w.heap.size+1) 53 #[vc,vf5])∧(RvAt Z w.heap.size 39 (trc h (.slice a7 n c7))∧RvAt Z (w.heap.size+1) 53 #[vc,vf5])):=by
   have h1:=QU.tv.keptBut gU (by simp)
   have h2:=QU.dv.keptBut gU (by simp)
   exact⟨⟨QU.tv,QU.dv⟩,⟨h1,h2⟩,h1.keptBut gZ (by simp),h2.keptBut gZ (by simp)⟩
  have F:Hid (RvAt Z (w.heap.size+2) 39 (trc h (.slice a7 n c7))∧RvAt Z (w.heap.size+3) 53 #[vc,vf5]∧SlAt Z a7 n c7 l7∧isO Z vc (os++opt u7)∧isI Z vf5 (noted fs5)∧Below w.heap.size w Z):=by
   refine⟨rU.keptBut gZ (by simp),by rw[←hZ];exact dU.set,(QU.sl.keptT QU.tt gU).keptZ dU (by simp) gZ,(QU.so.row QU.tt (by decide) gU).row dU (by decide) gZ,(QU.sf.row QU.tt (by decide) gU).row dU (by decide) gZ,gro (gro QU.bel gU (by omega) QU.bel.size) gZ (by omega) (Nat.le_trans QU.bel.size gU.size)⟩
  clear bX QU rU gU dU gZ hZ R8
  refine wp_region_noPanic ?_
  refine wp_region_held_drew (S:=fun w'=>RvAt w' w.heap.size 39 (trc h (.slice a7 n c7))∧RvAt w' (w.heap.size+1) 53 #[vc,vf5]) (by kernel_rfl) (by rw[hX];exact DD.out.1) (fun hHeld=>?_)
  rw[hX] at hHeld ⊢
  clear hX
  cases x1
  rotate_left
  ·skip
   refine tkq (oi:=xq0) 0 _ rfl (fun W_ hSw_=>by have xt:=hSw_.1.tld;have xd:=hSw_.2.ld rtE rfl;clear hSw_;go_simp<;>with_reducible rfl) hHeld ?_
   refine tkq (oi:=xq1) 1 _ rfl (fun W_ hSw_=>by have xt:=hSw_.1.tld;have xd:=hSw_.2.ld rtE rfl;clear hSw_;go_simp<;>with_reducible rfl) hHeld ?_
   refine tkq (oi:=xq2) 2 _ rfl (fun W_ hSw_=>by have xt:=hSw_.1.tld;have xd:=hSw_.2.ld rtE rfl;clear hSw_;go_simp<;>with_reducible rfl) hHeld ?_
   try simp only[Act.put,zA,zB,zC]
   refine tkq (oi:=xq3) 3 _ rfl (fun W_ hSw_=>by have xt:=hSw_.1.tld;have xd:=hSw_.2.ld rtE rfl;clear hSw_;go_simp<;>with_reducible rfl) hHeld ?_
   refine wpAnyH_take (i:=4) (oi:=y_M) (v:=undef) rfl (by kernel_rfl) (by kernel_rfl) (by kernel_rfl) (fun _ _ _ h=>h) (Or.inr ⟨by rfl,rfl⟩) hHeld ?_
   refine tkq (oi:=xq5) 5 _ rfl (fun W_ hSw_=>by have xt:=hSw_.1.tld;have xd:=hSw_.2.ld rtE rfl;clear hSw_;go_simp<;>with_reducible rfl) hHeld ?_
   try simp only[Act.put,zA,zB,zC]
   refine tkq (oi:=xq6) 6 _ rfl (fun W_ hSw_=>by have xt:=hSw_.1.tld;have xd:=hSw_.2.ld rtE rfl;clear hSw_;go_simp<;>with_reducible rfl) hHeld ?_
   refine wpAnyH_take (i:=7) (oi:=y_J) (v:=undef) rfl (by kernel_rfl) (by kernel_rfl) (by kernel_rfl) (fun _ _ _ h=>h) (Or.inr ⟨by rfl,rfl⟩) hHeld ?_
   refine tkq (oi:=xq8) 8 _ rfl (fun W_ hSw_=>by have xt:=hSw_.1.tld;have xd:=hSw_.2.ld rtE rfl;clear hSw_;go_simp<;>with_reducible rfl) hHeld ?_
   try simp only[Act.put,zA,zB,zC]
   refine tkq (oi:=xq9) 9 _ rfl (fun W_ hSw_=>by have xt:=hSw_.1.tld;have xd:=hSw_.2.ld rtE rfl;clear hSw_;go_simp<;>with_reducible rfl) hHeld ?_
   refine wpAnyH_take (i:=10) (oi:=y_v) (v:=undef) rfl (by kernel_rfl) (by kernel_rfl) (by kernel_rfl) (fun _ _ _ h=>h) (Or.inr ⟨by rfl,rfl⟩) hHeld ?_
   refine tkq (oi:=xq11) 11 _ rfl (fun W_ hSw_=>by have xt:=hSw_.1.tld;have xd:=hSw_.2.ld rtE rfl;clear hSw_;go_simp<;>with_reducible rfl) hHeld ?_
   try simp only[Act.put,zA,zB,zC]
   refine tkq (oi:=xq12) 12 _ rfl (fun W_ hSw_=>by have xt:=hSw_.1.tld;have xd:=hSw_.2.ld rtE rfl;clear hSw_;go_simp<;>with_reducible rfl) hHeld ?_
   refine wpAnyH_take (i:=13) (oi:=y_s) (v:=undef) rfl (by kernel_rfl) (by kernel_rfl) (by kernel_rfl) (fun _ _ _ h=>h) (Or.inr ⟨by rfl,rfl⟩) hHeld ?_
   refine tkq (oi:=xq14) 14 _ rfl (fun W_ hSw_=>by have xt:=hSw_.1.tld;have xd:=hSw_.2.ld rtE rfl;clear hSw_;go_simp<;>with_reducible rfl) hHeld ?_
   try simp only[Act.put,zA,zB,zC]
   refine tkq (oi:=xq15) 15 _ rfl (fun W_ hSw_=>by have xt:=hSw_.1.tld;have xd:=hSw_.2.ld rtE rfl;clear hSw_;go_simp<;>with_reducible rfl) hHeld ?_
   refine wpAnyH_take (i:=16) (oi:=y_p) (v:=undef) rfl (by kernel_rfl) (by kernel_rfl) (by kernel_rfl) (fun _ _ _ h=>h) (Or.inr ⟨by rfl,rfl⟩) hHeld ?_
   refine tkq (oi:=xq17) 17 _ rfl (fun W_ hSw_=>by have xt:=hSw_.1.tld;have xd:=hSw_.2.ld rtE rfl;clear hSw_;go_simp<;>with_reducible rfl) hHeld ?_
   try simp only[Act.put,zA,zB,zC]
   refine tkq (oi:=xq18) 18 _ rfl (fun W_ hSw_=>by have xt:=hSw_.1.tld;have xd:=hSw_.2.ld rtE rfl;clear hSw_;go_simp<;>with_reducible rfl) hHeld ?_
   refine wpAnyH_take (i:=19) (oi:=y_m) (v:=undef) rfl (by kernel_rfl) (by kernel_rfl) (by kernel_rfl) (fun _ _ _ h=>h) (Or.inr ⟨by rfl,rfl⟩) hHeld ?_
   refine tkq (oi:=xq20) 20 _ rfl (fun W_ hSw_=>by have xt:=hSw_.1.tld;have xd:=hSw_.2.ld rtE rfl;clear hSw_;go_simp<;>with_reducible rfl) hHeld ?_
   try simp only[Act.put,zA,zB,zC]
   refine wpAnyH_ready (rs:=[21]) (by kernel_rfl) (by simp) ?_
   refine AllReadyH.cons (o:=y_k) rfl (fun K hK=>?_) AllReadyH.nil
   go_simp
   clear hHeld
   refine hK.out _ _ DD.out.2.1 (fun hHeld=>?_)
   clear hK K
   try simp only[Act.put,zA,zB,zC]
   refine wpAnyH_ready (rs:=[22]) (by kernel_rfl) (by simp) ?_
   refine AllReadyH.cons (o:=y_j) rfl (fun K hK=>?_) AllReadyH.nil
   go_simp
   clear hHeld
   refine hK.out _ _ DD.out.2.2 (fun hHeld=>?_)
   clear hK K
   refine tkq (oi:=xq23) 23 _ rfl (fun W_ hSw_=>by have xt:=hSw_.1.tld;have xd:=hSw_.2.ld rtE rfl;clear hSw_;go_simp<;>with_reducible rfl) hHeld ?_
   try simp only[Act.put,zA,zB,zC]
   refine wpAnyH_done (by kernel_rfl) ?_ _
   refine NoPanic.normal ?_
   clear hHeld
   clear sU sZ DD
   go_wp2
   refine bodyPost_ret (z_B rtE results58 _ _ _ _ _ _ _ _ rfl rfl F.out.1 F.out.2.1) rfl ?_
   exact⟨true,a7,c7,vc,vf5,rfl,by simp,F.out.2.2⟩
  cases x2
  rotate_left
  ·skip
   refine tkq (oi:=xq0) 0 _ rfl (fun W_ hSw_=>by have xt:=hSw_.1.tld;have xd:=hSw_.2.ld rtE rfl;clear hSw_;go_simp<;>with_reducible rfl) hHeld ?_
   refine tkq (oi:=xq1) 1 _ rfl (fun W_ hSw_=>by have xt:=hSw_.1.tld;have xd:=hSw_.2.ld rtE rfl;clear hSw_;go_simp<;>with_reducible rfl) hHeld ?_
   refine tkq (oi:=xq2) 2 _ rfl (fun W_ hSw_=>by have xt:=hSw_.1.tld;have xd:=hSw_.2.ld rtE rfl;clear hSw_;go_simp<;>with_reducible rfl) hHeld ?_
   try simp only[Act.put,zA,zB,zC]
   refine tkq (oi:=xq3) 3 _ rfl (fun W_ hSw_=>by have xt:=hSw_.1.tld;have xd:=hSw_.2.ld rtE rfl;clear hSw_;go_simp<;>with_reducible rfl) hHeld ?_
   refine tkq (oi:=xq4) 4 _ rfl (fun W_ hSw_=>by have xt:=hSw_.1.tld;have xd:=hSw_.2.ld rtE rfl;clear hSw_;go_simp<;>with_reducible rfl) hHeld ?_
   refine tkq (oi:=xq5) 5 _ rfl (fun W_ hSw_=>by have xt:=hSw_.1.tld;have xd:=hSw_.2.ld rtE rfl;clear hSw_;go_simp<;>with_reducible rfl) hHeld ?_
   try simp only[Act.put,zA,zB,zC]
   refine tkq (oi:=xq6) 6 _ rfl (fun W_ hSw_=>by have xt:=hSw_.1.tld;have xd:=hSw_.2.ld rtE rfl;clear hSw_;go_simp<;>with_reducible rfl) hHeld ?_
   refine wpAnyH_take (i:=7) (oi:=y_J) (v:=undef) rfl (by kernel_rfl) (by kernel_rfl) (by kernel_rfl) (fun _ _ _ h=>h) (Or.inr ⟨by rfl,rfl⟩) hHeld ?_
   refine tkq (oi:=xq8) 8 _ rfl (fun W_ hSw_=>by have xt:=hSw_.1.tld;have xd:=hSw_.2.ld rtE rfl;clear hSw_;go_simp<;>with_reducible rfl) hHeld ?_
   try simp only[Act.put,zA,zB,zC]
   refine tkq (oi:=xq9) 9 _ rfl (fun W_ hSw_=>by have xt:=hSw_.1.tld;have xd:=hSw_.2.ld rtE rfl;clear hSw_;go_simp<;>with_reducible rfl) hHeld ?_
   refine wpAnyH_take (i:=10) (oi:=y_v) (v:=undef) rfl (by kernel_rfl) (by kernel_rfl) (by kernel_rfl) (fun _ _ _ h=>h) (Or.inr ⟨by rfl,rfl⟩) hHeld ?_
   refine tkq (oi:=xq11) 11 _ rfl (fun W_ hSw_=>by have xt:=hSw_.1.tld;have xd:=hSw_.2.ld rtE rfl;clear hSw_;go_simp<;>with_reducible rfl) hHeld ?_
   try simp only[Act.put,zA,zB,zC]
   refine tkq (oi:=xq12) 12 _ rfl (fun W_ hSw_=>by have xt:=hSw_.1.tld;have xd:=hSw_.2.ld rtE rfl;clear hSw_;go_simp<;>with_reducible rfl) hHeld ?_
   refine wpAnyH_take (i:=13) (oi:=y_s) (v:=undef) rfl (by kernel_rfl) (by kernel_rfl) (by kernel_rfl) (fun _ _ _ h=>h) (Or.inr ⟨by rfl,rfl⟩) hHeld ?_
   refine tkq (oi:=xq14) 14 _ rfl (fun W_ hSw_=>by have xt:=hSw_.1.tld;have xd:=hSw_.2.ld rtE rfl;clear hSw_;go_simp<;>with_reducible rfl) hHeld ?_
   try simp only[Act.put,zA,zB,zC]
   refine tkq (oi:=xq15) 15 _ rfl (fun W_ hSw_=>by have xt:=hSw_.1.tld;have xd:=hSw_.2.ld rtE rfl;clear hSw_;go_simp<;>with_reducible rfl) hHeld ?_
   refine wpAnyH_take (i:=16) (oi:=y_p) (v:=undef) rfl (by kernel_rfl) (by kernel_rfl) (by kernel_rfl) (fun _ _ _ h=>h) (Or.inr ⟨by rfl,rfl⟩) hHeld ?_
   refine tkq (oi:=xq17) 17 _ rfl (fun W_ hSw_=>by have xt:=hSw_.1.tld;have xd:=hSw_.2.ld rtE rfl;clear hSw_;go_simp<;>with_reducible rfl) hHeld ?_
   try simp only[Act.put,zA,zB,zC]
   refine tkq (oi:=xq18) 18 _ rfl (fun W_ hSw_=>by have xt:=hSw_.1.tld;have xd:=hSw_.2.ld rtE rfl;clear hSw_;go_simp<;>with_reducible rfl) hHeld ?_
   refine wpAnyH_take (i:=19) (oi:=y_m) (v:=undef) rfl (by kernel_rfl) (by kernel_rfl) (by kernel_rfl) (fun _ _ _ h=>h) (Or.inr ⟨by rfl,rfl⟩) hHeld ?_
   refine tkq (oi:=xq20) 20 _ rfl (fun W_ hSw_=>by have xt:=hSw_.1.tld;have xd:=hSw_.2.ld rtE rfl;clear hSw_;go_simp<;>with_reducible rfl) hHeld ?_
   try simp only[Act.put,zA,zB,zC]
   refine wpAnyH_ready (rs:=[21]) (by kernel_rfl) (by simp) ?_
   refine AllReadyH.cons (o:=y_k) rfl (fun K hK=>?_) AllReadyH.nil
   go_simp
   clear hHeld
   refine hK.out _ _ DD.out.2.1 (fun hHeld=>?_)
   clear hK K
   try simp only[Act.put,zA,zB,zC]
   refine wpAnyH_ready (rs:=[22]) (by kernel_rfl) (by simp) ?_
   refine AllReadyH.cons (o:=y_j) rfl (fun K hK=>?_) AllReadyH.nil
   go_simp
   clear hHeld
   refine hK.out _ _ DD.out.2.2 (fun hHeld=>?_)
   clear hK K
   refine tkq (oi:=xq23) 23 _ rfl (fun W_ hSw_=>by have xt:=hSw_.1.tld;have xd:=hSw_.2.ld rtE rfl;clear hSw_;go_simp<;>with_reducible rfl) hHeld ?_
   try simp only[Act.put,zA,zB,zC]
   refine wpAnyH_done (by kernel_rfl) ?_ _
   refine NoPanic.normal ?_
   clear hHeld
   clear sU sZ DD
   go_wp2
   refine bodyPost_ret (z_B rtE results58 _ _ _ _ _ _ _ _ rfl rfl F.out.1 F.out.2.1) rfl ?_
   exact⟨true,a7,c7,vc,vf5,rfl,by simp,F.out.2.2⟩
  cases x3
  rotate_left
  ·skip
   refine tkq (oi:=xq0) 0 _ rfl (fun W_ hSw_=>by have xt:=hSw_.1.tld;have xd:=hSw_.2.ld rtE rfl;clear hSw_;go_simp<;>with_reducible rfl) hHeld ?_
   refine tkq (oi:=xq1) 1 _ rfl (fun W_ hSw_=>by have xt:=hSw_.1.tld;have xd:=hSw_.2.ld rtE rfl;clear hSw_;go_simp<;>with_reducible rfl) hHeld ?_
   refine tkq (oi:=xq2) 2 _ rfl (fun W_ hSw_=>by have xt:=hSw_.1.tld;have xd:=hSw_.2.ld rtE rfl;clear hSw_;go_simp<;>with_reducible rfl) hHeld ?_
   try simp only[Act.put,zA,zB,zC]
   refine tkq (oi:=xq3) 3 _ rfl (fun W_ hSw_=>by have xt:=hSw_.1.tld;have xd:=hSw_.2.ld rtE rfl;clear hSw_;go_simp<;>with_reducible rfl) hHeld ?_
   refine tkq (oi:=xq4) 4 _ rfl (fun W_ hSw_=>by have xt:=hSw_.1.tld;have xd:=hSw_.2.ld rtE rfl;clear hSw_;go_simp<;>with_reducible rfl) hHeld ?_
   refine tkq (oi:=xq5) 5 _ rfl (fun W_ hSw_=>by have xt:=hSw_.1.tld;have xd:=hSw_.2.ld rtE rfl;clear hSw_;go_simp<;>with_reducible rfl) hHeld ?_
   try simp only[Act.put,zA,zB,zC]
   refine tkq (oi:=xq6) 6 _ rfl (fun W_ hSw_=>by have xt:=hSw_.1.tld;have xd:=hSw_.2.ld rtE rfl;clear hSw_;go_simp<;>with_reducible rfl) hHeld ?_
   refine tkq (oi:=xq7) 7 _ rfl (fun W_ hSw_=>by have xt:=hSw_.1.tld;have xd:=hSw_.2.ld rtE rfl;clear hSw_;go_simp<;>with_reducible rfl) hHeld ?_
   refine tkq (oi:=xq8) 8 _ rfl (fun W_ hSw_=>by have xt:=hSw_.1.tld;have xd:=hSw_.2.ld rtE rfl;clear hSw_;go_simp<;>with_reducible rfl) hHeld ?_
   try simp only[Act.put,zA,zB,zC]
   refine tkq (oi:=xq9) 9 _ rfl (fun W_ hSw_=>by have xt:=hSw_.1.tld;have xd:=hSw_.2.ld rtE rfl;clear hSw_;go_simp<;>with_reducible rfl) hHeld ?_
   refine wpAnyH_take (i:=10) (oi:=y_v) (v:=undef) rfl (by kernel_rfl) (by kernel_rfl) (by kernel_rfl) (fun _ _ _ h=>h) (Or.inr ⟨by rfl,rfl⟩) hHeld ?_
   refine tkq (oi:=xq11) 11 _ rfl (fun W_ hSw_=>by have xt:=hSw_.1.tld;have xd:=hSw_.2.ld rtE rfl;clear hSw_;go_simp<;>with_reducible rfl) hHeld ?_
   try simp only[Act.put,zA,zB,zC]
   refine tkq (oi:=xq12) 12 _ rfl (fun W_ hSw_=>by have xt:=hSw_.1.tld;have xd:=hSw_.2.ld rtE rfl;clear hSw_;go_simp<;>with_reducible rfl) hHeld ?_
   refine wpAnyH_take (i:=13) (oi:=y_s) (v:=undef) rfl (by kernel_rfl) (by kernel_rfl) (by kernel_rfl) (fun _ _ _ h=>h) (Or.inr ⟨by rfl,rfl⟩) hHeld ?_
   refine tkq (oi:=xq14) 14 _ rfl (fun W_ hSw_=>by have xt:=hSw_.1.tld;have xd:=hSw_.2.ld rtE rfl;clear hSw_;go_simp<;>with_reducible rfl) hHeld ?_
   try simp only[Act.put,zA,zB,zC]
   refine tkq (oi:=xq15) 15 _ rfl (fun W_ hSw_=>by have xt:=hSw_.1.tld;have xd:=hSw_.2.ld rtE rfl;clear hSw_;go_simp<;>with_reducible rfl) hHeld ?_
   refine wpAnyH_take (i:=16) (oi:=y_p) (v:=undef) rfl (by kernel_rfl) (by kernel_rfl) (by kernel_rfl) (fun _ _ _ h=>h) (Or.inr ⟨by rfl,rfl⟩) hHeld ?_
   refine tkq (oi:=xq17) 17 _ rfl (fun W_ hSw_=>by have xt:=hSw_.1.tld;have xd:=hSw_.2.ld rtE rfl;clear hSw_;go_simp<;>with_reducible rfl) hHeld ?_
   try simp only[Act.put,zA,zB,zC]
   refine tkq (oi:=xq18) 18 _ rfl (fun W_ hSw_=>by have xt:=hSw_.1.tld;have xd:=hSw_.2.ld rtE rfl;clear hSw_;go_simp<;>with_reducible rfl) hHeld ?_
   refine wpAnyH_take (i:=19) (oi:=y_m) (v:=undef) rfl (by kernel_rfl) (by kernel_rfl) (by kernel_rfl) (fun _ _ _ h=>h) (Or.inr ⟨by rfl,rfl⟩) hHeld ?_
   refine tkq (oi:=xq20) 20 _ rfl (fun W_ hSw_=>by have xt:=hSw_.1.tld;have xd:=hSw_.2.ld rtE rfl;clear hSw_;go_simp<;>with_reducible rfl) hHeld ?_
   try simp only[Act.put,zA,zB,zC]
   refine wpAnyH_ready (rs:=[21]) (by kernel_rfl) (by simp) ?_
   refine AllReadyH.cons (o:=y_k) rfl (fun K hK=>?_) AllReadyH.nil
   go_simp
   clear hHeld
   refine hK.out _ _ DD.out.2.1 (fun hHeld=>?_)
   clear hK K
   try simp only[Act.put,zA,zB,zC]
   refine wpAnyH_ready (rs:=[22]) (by kernel_rfl) (by simp) ?_
   refine AllReadyH.cons (o:=y_j) rfl (fun K hK=>?_) AllReadyH.nil
   go_simp
   clear hHeld
   refine hK.out _ _ DD.out.2.2 (fun hHeld=>?_)
   clear hK K
   refine tkq (oi:=xq23) 23 _ rfl (fun W_ hSw_=>by have xt:=hSw_.1.tld;have xd:=hSw_.2.ld rtE rfl;clear hSw_;go_simp<;>with_reducible rfl) hHeld ?_
   try simp only[Act.put,zA,zB,zC]
   refine wpAnyH_done (by kernel_rfl) ?_ _
   refine NoPanic.normal ?_
   clear hHeld
   clear sU sZ DD
   go_wp2
   refine bodyPost_ret (z_B rtE results58 _ _ _ _ _ _ _ _ rfl rfl F.out.1 F.out.2.1) rfl ?_
   exact⟨true,a7,c7,vc,vf5,rfl,by simp,F.out.2.2⟩
  cases x4
  rotate_left
  ·skip
   refine tkq (oi:=xq0) 0 _ rfl (fun W_ hSw_=>by have xt:=hSw_.1.tld;have xd:=hSw_.2.ld rtE rfl;clear hSw_;go_simp<;>with_reducible rfl) hHeld ?_
   refine tkq (oi:=xq1) 1 _ rfl (fun W_ hSw_=>by have xt:=hSw_.1.tld;have xd:=hSw_.2.ld rtE rfl;clear hSw_;go_simp<;>with_reducible rfl) hHeld ?_
   refine tkq (oi:=xq2) 2 _ rfl (fun W_ hSw_=>by have xt:=hSw_.1.tld;have xd:=hSw_.2.ld rtE rfl;clear hSw_;go_simp<;>with_reducible rfl) hHeld ?_
   try simp only[Act.put,zA,zB,zC]
   refine tkq (oi:=xq3) 3 _ rfl (fun W_ hSw_=>by have xt:=hSw_.1.tld;have xd:=hSw_.2.ld rtE rfl;clear hSw_;go_simp<;>with_reducible rfl) hHeld ?_
   refine tkq (oi:=xq4) 4 _ rfl (fun W_ hSw_=>by have xt:=hSw_.1.tld;have xd:=hSw_.2.ld rtE rfl;clear hSw_;go_simp<;>with_reducible rfl) hHeld ?_
   refine tkq (oi:=xq5) 5 _ rfl (fun W_ hSw_=>by have xt:=hSw_.1.tld;have xd:=hSw_.2.ld rtE rfl;clear hSw_;go_simp<;>with_reducible rfl) hHeld ?_
   try simp only[Act.put,zA,zB,zC]
   refine tkq (oi:=xq6) 6 _ rfl (fun W_ hSw_=>by have xt:=hSw_.1.tld;have xd:=hSw_.2.ld rtE rfl;clear hSw_;go_simp<;>with_reducible rfl) hHeld ?_
   refine tkq (oi:=xq7) 7 _ rfl (fun W_ hSw_=>by have xt:=hSw_.1.tld;have xd:=hSw_.2.ld rtE rfl;clear hSw_;go_simp<;>with_reducible rfl) hHeld ?_
   refine tkq (oi:=xq8) 8 _ rfl (fun W_ hSw_=>by have xt:=hSw_.1.tld;have xd:=hSw_.2.ld rtE rfl;clear hSw_;go_simp<;>with_reducible rfl) hHeld ?_
   try simp only[Act.put,zA,zB,zC]
   refine tkq (oi:=xq9) 9 _ rfl (fun W_ hSw_=>by have xt:=hSw_.1.tld;have xd:=hSw_.2.ld rtE rfl;clear hSw_;go_simp<;>with_reducible rfl) hHeld ?_
   refine tkq (oi:=xq10) 10 _ rfl (fun W_ hSw_=>by have xt:=hSw_.1.tld;have xd:=hSw_.2.ld rtE rfl;clear hSw_;go_simp<;>with_reducible rfl) hHeld ?_
   refine tkq (oi:=xq11) 11 _ rfl (fun W_ hSw_=>by have xt:=hSw_.1.tld;have xd:=hSw_.2.ld rtE rfl;clear hSw_;go_simp<;>with_reducible rfl) hHeld ?_
   try simp only[Act.put,zA,zB,zC]
   refine tkq (oi:=xq12) 12 _ rfl (fun W_ hSw_=>by have xt:=hSw_.1.tld;have xd:=hSw_.2.ld rtE rfl;clear hSw_;go_simp<;>with_reducible rfl) hHeld ?_
   refine wpAnyH_take (i:=13) (oi:=y_s) (v:=undef) rfl (by kernel_rfl) (by kernel_rfl) (by kernel_rfl) (fun _ _ _ h=>h) (Or.inr ⟨by rfl,rfl⟩) hHeld ?_
   refine tkq (oi:=xq14) 14 _ rfl (fun W_ hSw_=>by have xt:=hSw_.1.tld;have xd:=hSw_.2.ld rtE rfl;clear hSw_;go_simp<;>with_reducible rfl) hHeld ?_
   try simp only[Act.put,zA,zB,zC]
   refine tkq (oi:=xq15) 15 _ rfl (fun W_ hSw_=>by have xt:=hSw_.1.tld;have xd:=hSw_.2.ld rtE rfl;clear hSw_;go_simp<;>with_reducible rfl) hHeld ?_
   refine wpAnyH_take (i:=16) (oi:=y_p) (v:=undef) rfl (by kernel_rfl) (by kernel_rfl) (by kernel_rfl) (fun _ _ _ h=>h) (Or.inr ⟨by rfl,rfl⟩) hHeld ?_
   refine tkq (oi:=xq17) 17 _ rfl (fun W_ hSw_=>by have xt:=hSw_.1.tld;have xd:=hSw_.2.ld rtE rfl;clear hSw_;go_simp<;>with_reducible rfl) hHeld ?_
   try simp only[Act.put,zA,zB,zC]
   refine tkq (oi:=xq18) 18 _ rfl (fun W_ hSw_=>by have xt:=hSw_.1.tld;have xd:=hSw_.2.ld rtE rfl;clear hSw_;go_simp<;>with_reducible rfl) hHeld ?_
   refine wpAnyH_take (i:=19) (oi:=y_m) (v:=undef) rfl (by kernel_rfl) (by kernel_rfl) (by kernel_rfl) (fun _ _ _ h=>h) (Or.inr ⟨by rfl,rfl⟩) hHeld ?_
   refine tkq (oi:=xq20) 20 _ rfl (fun W_ hSw_=>by have xt:=hSw_.1.tld;have xd:=hSw_.2.ld rtE rfl;clear hSw_;go_simp<;>with_reducible rfl) hHeld ?_
   try simp only[Act.put,zA,zB,zC]
   refine wpAnyH_ready (rs:=[21]) (by kernel_rfl) (by simp) ?_
   refine AllReadyH.cons (o:=y_k) rfl (fun K hK=>?_) AllReadyH.nil
   go_simp
   clear hHeld
   refine hK.out _ _ DD.out.2.1 (fun hHeld=>?_)
   clear hK K
   try simp only[Act.put,zA,zB,zC]
   refine wpAnyH_ready (rs:=[22]) (by kernel_rfl) (by simp) ?_
   refine AllReadyH.cons (o:=y_j) rfl (fun K hK=>?_) AllReadyH.nil
   go_simp
   clear hHeld
   refine hK.out _ _ DD.out.2.2 (fun hHeld=>?_)
   clear hK K
   refine tkq (oi:=xq23) 23 _ rfl (fun W_ hSw_=>by have xt:=hSw_.1.tld;have xd:=hSw_.2.ld rtE rfl;clear hSw_;go_simp<;>with_reducible rfl) hHeld ?_
   try simp only[Act.put,zA,zB,zC]
   refine wpAnyH_done (by kernel_rfl) ?_ _
   refine NoPanic.normal ?_
   clear hHeld
   clear sU sZ DD
   go_wp2
   refine bodyPost_ret (z_B rtE results58 _ _ _ _ _ _ _ _ rfl rfl F.out.1 F.out.2.1) rfl ?_
   exact⟨true,a7,c7,vc,vf5,rfl,by simp,F.out.2.2⟩
  cases x5
  rotate_left
  ·skip
   refine tkq (oi:=xq0) 0 _ rfl (fun W_ hSw_=>by have xt:=hSw_.1.tld;have xd:=hSw_.2.ld rtE rfl;clear hSw_;go_simp<;>with_reducible rfl) hHeld ?_
   refine tkq (oi:=xq1) 1 _ rfl (fun W_ hSw_=>by have xt:=hSw_.1.tld;have xd:=hSw_.2.ld rtE rfl;clear hSw_;go_simp<;>with_reducible rfl) hHeld ?_
   refine tkq (oi:=xq2) 2 _ rfl (fun W_ hSw_=>by have xt:=hSw_.1.tld;have xd:=hSw_.2.ld rtE rfl;clear hSw_;go_simp<;>with_reducible rfl) hHeld ?_
   try simp only[Act.put,zA,zB,zC]
   refine tkq (oi:=xq3) 3 _ rfl (fun W_ hSw_=>by have xt:=hSw_.1.tld;have xd:=hSw_.2.ld rtE rfl;clear hSw_;go_simp<;>with_reducible rfl) hHeld ?_
   refine tkq (oi:=xq4) 4 _ rfl (fun W_ hSw_=>by have xt:=hSw_.1.tld;have xd:=hSw_.2.ld rtE rfl;clear hSw_;go_simp<;>with_reducible rfl) hHeld ?_
   refine tkq (oi:=xq5) 5 _ rfl (fun W_ hSw_=>by have xt:=hSw_.1.tld;have xd:=hSw_.2.ld rtE rfl;clear hSw_;go_simp<;>with_reducible rfl) hHeld ?_
   try simp only[Act.put,zA,zB,zC]
   refine tkq (oi:=xq6) 6 _ rfl (fun W_ hSw_=>by have xt:=hSw_.1.tld;have xd:=hSw_.2.ld rtE rfl;clear hSw_;go_simp<;>with_reducible rfl) hHeld ?_
   refine tkq (oi:=xq7) 7 _ rfl (fun W_ hSw_=>by have xt:=hSw_.1.tld;have xd:=hSw_.2.ld rtE rfl;clear hSw_;go_simp<;>with_reducible rfl) hHeld ?_
   refine tkq (oi:=xq8) 8 _ rfl (fun W_ hSw_=>by have xt:=hSw_.1.tld;have xd:=hSw_.2.ld rtE rfl;clear hSw_;go_simp<;>with_reducible rfl) hHeld ?_
   try simp only[Act.put,zA,zB,zC]
   refine tkq (oi:=xq9) 9 _ rfl (fun W_ hSw_=>by have xt:=hSw_.1.tld;have xd:=hSw_.2.ld rtE rfl;clear hSw_;go_simp<;>with_reducible rfl) hHeld ?_
   refine tkq (oi:=xq10) 10 _ rfl (fun W_ hSw_=>by have xt:=hSw_.1.tld;have xd:=hSw_.2.ld rtE rfl;clear hSw_;go_simp<;>with_reducible rfl) hHeld ?_
   refine tkq (oi:=xq11) 11 _ rfl (fun W_ hSw_=>by have xt:=hSw_.1.tld;have xd:=hSw_.2.ld rtE rfl;clear hSw_;go_simp<;>with_reducible rfl) hHeld ?_
   try simp only[Act.put,zA,zB,zC]
   refine tkq (oi:=xq12) 12 _ rfl (fun W_ hSw_=>by have xt:=hSw_.1.tld;have xd:=hSw_.2.ld rtE rfl;clear hSw_;go_simp<;>with_reducible rfl) hHeld ?_
   refine tkq (oi:=xq13) 13 _ rfl (fun W_ hSw_=>by have xt:=hSw_.1.tld;have xd:=hSw_.2.ld rtE rfl;clear hSw_;go_simp<;>with_reducible rfl) hHeld ?_
   refine tkq (oi:=xq14) 14 _ rfl (fun W_ hSw_=>by have xt:=hSw_.1.tld;have xd:=hSw_.2.ld rtE rfl;clear hSw_;go_simp<;>with_reducible rfl) hHeld ?_
   try simp only[Act.put,zA,zB,zC]
   refine tkq (oi:=xq15) 15 _ rfl (fun W_ hSw_=>by have xt:=hSw_.1.tld;have xd:=hSw_.2.ld rtE rfl;clear hSw_;go_simp<;>with_reducible rfl) hHeld ?_
   refine wpAnyH_take (i:=16) (oi:=y_p) (v:=undef) rfl (by kernel_rfl) (by kernel_rfl) (by kernel_rfl) (fun _ _ _ h=>h) (Or.inr ⟨by rfl,rfl⟩) hHeld ?_
   refine tkq (oi:=xq17) 17 _ rfl (fun W_ hSw_=>by have xt:=hSw_.1.tld;have xd:=hSw_.2.ld rtE rfl;clear hSw_;go_simp<;>with_reducible rfl) hHeld ?_
   try simp only[Act.put,zA,zB,zC]
   refine tkq (oi:=xq18) 18 _ rfl (fun W_ hSw_=>by have xt:=hSw_.1.tld;have xd:=hSw_.2.ld rtE rfl;clear hSw_;go_simp<;>with_reducible rfl) hHeld ?_
   refine wpAnyH_take (i:=19) (oi:=y_m) (v:=undef) rfl (by kernel_rfl) (by kernel_rfl) (by kernel_rfl) (fun _ _ _ h=>h) (Or.inr ⟨by rfl,rfl⟩) hHeld ?_
   refine tkq (oi:=xq20) 20 _ rfl (fun W_ hSw_=>by have xt:=hSw_.1.tld;have xd:=hSw_.2.ld rtE rfl;clear hSw_;go_simp<;>with_reducible rfl) hHeld ?_
   try simp only[Act.put,zA,zB,zC]
   refine wpAnyH_ready (rs:=[21]) (by kernel_rfl) (by simp) ?_
   refine AllReadyH.cons (o:=y_k) rfl (fun K hK=>?_) AllReadyH.nil
   go_simp
   clear hHeld
   refine hK.out _ _ DD.out.2.1 (fun hHeld=>?_)
   clear hK K
   try simp only[Act.put,zA,zB,zC]
   refine wpAnyH_ready (rs:=[22]) (by kernel_rfl) (by simp) ?_
   refine AllReadyH.cons (o:=y_j) rfl (fun K hK=>?_) AllReadyH.nil
   go_simp
   clear hHeld
   refine hK.out _ _ DD.out.2.2 (fun hHeld=>?_)
   clear hK K
   refine tkq (oi:=xq23) 23 _ rfl (fun W_ hSw_=>by have xt:=hSw_.1.tld;have xd:=hSw_.2.ld rtE rfl;clear hSw_;go_simp<;>with_reducible rfl) hHeld ?_
   try simp only[Act.put,zA,zB,zC]
   refine wpAnyH_done (by kernel_rfl) ?_ _
   refine NoPanic.normal ?_
   clear hHeld
   clear sU sZ DD
   go_wp2
   refine bodyPost_ret (z_B rtE results58 _ _ _ _ _ _ _ _ rfl rfl F.out.1 F.out.2.1) rfl ?_
   exact⟨true,a7,c7,vc,vf5,rfl,by simp,F.out.2.2⟩
  cases x6
  rotate_left
  ·skip
   refine tkq (oi:=xq0) 0 _ rfl (fun W_ hSw_=>by have xt:=hSw_.1.tld;have xd:=hSw_.2.ld rtE rfl;clear hSw_;go_simp<;>with_reducible rfl) hHeld ?_
   refine tkq (oi:=xq1) 1 _ rfl (fun W_ hSw_=>by have xt:=hSw_.1.tld;have xd:=hSw_.2.ld rtE rfl;clear hSw_;go_simp<;>with_reducible rfl) hHeld ?_
   refine tkq (oi:=xq2) 2 _ rfl (fun W_ hSw_=>by have xt:=hSw_.1.tld;have xd:=hSw_.2.ld rtE rfl;clear hSw_;go_simp<;>with_reducible rfl) hHeld ?_
   try simp only[Act.put,zA,zB,zC]
   refine tkq (oi:=xq3) 3 _ rfl (fun W_ hSw_=>by have xt:=hSw_.1.tld;have xd:=hSw_.2.ld rtE rfl;clear hSw_;go_simp<;>with_reducible rfl) hHeld ?_
   refine tkq (oi:=xq4) 4 _ rfl (fun W_ hSw_=>by have xt:=hSw_.1.tld;have xd:=hSw_.2.ld rtE rfl;clear hSw_;go_simp<;>with_reducible rfl) hHeld ?_
   refine tkq (oi:=xq5) 5 _ rfl (fun W_ hSw_=>by have xt:=hSw_.1.tld;have xd:=hSw_.2.ld rtE rfl;clear hSw_;go_simp<;>with_reducible rfl) hHeld ?_
   try simp only[Act.put,zA,zB,zC]
   refine tkq (oi:=xq6) 6 _ rfl (fun W_ hSw_=>by have xt:=hSw_.1.tld;have xd:=hSw_.2.ld rtE rfl;clear hSw_;go_simp<;>with_reducible rfl) hHeld ?_
   refine tkq (oi:=xq7) 7 _ rfl (fun W_ hSw_=>by have xt:=hSw_.1.tld;have xd:=hSw_.2.ld rtE rfl;clear hSw_;go_simp<;>with_reducible rfl) hHeld ?_
   refine tkq (oi:=xq8) 8 _ rfl (fun W_ hSw_=>by have xt:=hSw_.1.tld;have xd:=hSw_.2.ld rtE rfl;clear hSw_;go_simp<;>with_reducible rfl) hHeld ?_
   try simp only[Act.put,zA,zB,zC]
   refine tkq (oi:=xq9) 9 _ rfl (fun W_ hSw_=>by have xt:=hSw_.1.tld;have xd:=hSw_.2.ld rtE rfl;clear hSw_;go_simp<;>with_reducible rfl) hHeld ?_
   refine tkq (oi:=xq10) 10 _ rfl (fun W_ hSw_=>by have xt:=hSw_.1.tld;have xd:=hSw_.2.ld rtE rfl;clear hSw_;go_simp<;>with_reducible rfl) hHeld ?_
   refine tkq (oi:=xq11) 11 _ rfl (fun W_ hSw_=>by have xt:=hSw_.1.tld;have xd:=hSw_.2.ld rtE rfl;clear hSw_;go_simp<;>with_reducible rfl) hHeld ?_
   try simp only[Act.put,zA,zB,zC]
   refine tkq (oi:=xq12) 12 _ rfl (fun W_ hSw_=>by have xt:=hSw_.1.tld;have xd:=hSw_.2.ld rtE rfl;clear hSw_;go_simp<;>with_reducible rfl) hHeld ?_
   refine tkq (oi:=xq13) 13 _ rfl (fun W_ hSw_=>by have xt:=hSw_.1.tld;have xd:=hSw_.2.ld rtE rfl;clear hSw_;go_simp<;>with_reducible rfl) hHeld ?_
   refine tkq (oi:=xq14) 14 _ rfl (fun W_ hSw_=>by have xt:=hSw_.1.tld;have xd:=hSw_.2.ld rtE rfl;clear hSw_;go_simp<;>with_reducible rfl) hHeld ?_
   try simp only[Act.put,zA,zB,zC]
   refine tkq (oi:=xq15) 15 _ rfl (fun W_ hSw_=>by have xt:=hSw_.1.tld;have xd:=hSw_.2.ld rtE rfl;clear hSw_;go_simp<;>with_reducible rfl) hHeld ?_
   refine tkq (oi:=xq16) 16 _ rfl (fun W_ hSw_=>by have xt:=hSw_.1.tld;have xd:=hSw_.2.ld rtE rfl;clear hSw_;go_simp<;>with_reducible rfl) hHeld ?_
   refine tkq (oi:=xq17) 17 _ rfl (fun W_ hSw_=>by have xt:=hSw_.1.tld;have xd:=hSw_.2.ld rtE rfl;clear hSw_;go_simp<;>with_reducible rfl) hHeld ?_
   try simp only[Act.put,zA,zB,zC]
   refine tkq (oi:=xq18) 18 _ rfl (fun W_ hSw_=>by have xt:=hSw_.1.tld;have xd:=hSw_.2.ld rtE rfl;clear hSw_;go_simp<;>with_reducible rfl) hHeld ?_
   refine wpAnyH_take (i:=19) (oi:=y_m) (v:=undef) rfl (by kernel_rfl) (by kernel_rfl) (by kernel_rfl) (fun _ _ _ h=>h) (Or.inr ⟨by rfl,rfl⟩) hHeld ?_
   refine tkq (oi:=xq20) 20 _ rfl (fun W_ hSw_=>by have xt:=hSw_.1.tld;have xd:=hSw_.2.ld rtE rfl;clear hSw_;go_simp<;>with_reducible rfl) hHeld ?_
   try simp only[Act.put,zA,zB,zC]
   refine wpAnyH_ready (rs:=[21]) (by kernel_rfl) (by simp) ?_
   refine AllReadyH.cons (o:=y_k) rfl (fun K hK=>?_) AllReadyH.nil
   go_simp
   clear hHeld
   refine hK.out _ _ DD.out.2.1 (fun hHeld=>?_)
   clear hK K
   try simp only[Act.put,zA,zB,zC]
   refine wpAnyH_ready (rs:=[22]) (by kernel_rfl) (by simp) ?_
   refine AllReadyH.cons (o:=y_j) rfl (fun K hK=>?_) AllReadyH.nil
   go_simp
   clear hHeld
   refine hK.out _ _ DD.out.2.2 (fun hHeld=>?_)
   clear hK K
   refine tkq (oi:=xq23) 23 _ rfl (fun W_ hSw_=>by have xt:=hSw_.1.tld;have xd:=hSw_.2.ld rtE rfl;clear hSw_;go_simp<;>with_reducible rfl) hHeld ?_
   try simp only[Act.put,zA,zB,zC]
   refine wpAnyH_done (by kernel_rfl) ?_ _
   refine NoPanic.normal ?_
   clear hHeld
   clear sU sZ DD
   go_wp2
   refine bodyPost_ret (z_B rtE results58 _ _ _ _ _ _ _ _ rfl rfl F.out.1 F.out.2.1) rfl ?_
   exact⟨true,a7,c7,vc,vf5,rfl,by simp,F.out.2.2⟩
  refine tkq (oi:=xq0) 0 _ rfl (fun W_ hSw_=>by have xt:=hSw_.1.tld;have xd:=hSw_.2.ld rtE rfl;clear hSw_;go_simp<;>with_reducible rfl) hHeld ?_
  refine tkq (oi:=xq1) 1 _ rfl (fun W_ hSw_=>by have xt:=hSw_.1.tld;have xd:=hSw_.2.ld rtE rfl;clear hSw_;go_simp<;>with_reducible rfl) hHeld ?_
  refine tkq (oi:=xq2) 2 _ rfl (fun W_ hSw_=>by have xt:=hSw_.1.tld;have xd:=hSw_.2.ld rtE rfl;clear hSw_;go_simp<;>with_reducible rfl) hHeld ?_
  try simp only[Act.put,zA,zB,zC]
  refine tkq (oi:=xq3) 3 _ rfl (fun W_ hSw_=>by have xt:=hSw_.1.tld;have xd:=hSw_.2.ld rtE rfl;clear hSw_;go_simp<;>with_reducible rfl) hHeld ?_
  refine tkq (oi:=xq4) 4 _ rfl (fun W_ hSw_=>by have xt:=hSw_.1.tld;have xd:=hSw_.2.ld rtE rfl;clear hSw_;go_simp<;>with_reducible rfl) hHeld ?_
  refine tkq (oi:=xq5) 5 _ rfl (fun W_ hSw_=>by have xt:=hSw_.1.tld;have xd:=hSw_.2.ld rtE rfl;clear hSw_;go_simp<;>with_reducible rfl) hHeld ?_
  try simp only[Act.put,zA,zB,zC]
  refine tkq (oi:=xq6) 6 _ rfl (fun W_ hSw_=>by have xt:=hSw_.1.tld;have xd:=hSw_.2.ld rtE rfl;clear hSw_;go_simp<;>with_reducible rfl) hHeld ?_
  refine tkq (oi:=xq7) 7 _ rfl (fun W_ hSw_=>by have xt:=hSw_.1.tld;have xd:=hSw_.2.ld rtE rfl;clear hSw_;go_simp<;>with_reducible rfl) hHeld ?_
  refine tkq (oi:=xq8) 8 _ rfl (fun W_ hSw_=>by have xt:=hSw_.1.tld;have xd:=hSw_.2.ld rtE rfl;clear hSw_;go_simp<;>with_reducible rfl) hHeld ?_
  try simp only[Act.put,zA,zB,zC]
  refine tkq (oi:=xq9) 9 _ rfl (fun W_ hSw_=>by have xt:=hSw_.1.tld;have xd:=hSw_.2.ld rtE rfl;clear hSw_;go_simp<;>with_reducible rfl) hHeld ?_
  refine tkq (oi:=xq10) 10 _ rfl (fun W_ hSw_=>by have xt:=hSw_.1.tld;have xd:=hSw_.2.ld rtE rfl;clear hSw_;go_simp<;>with_reducible rfl) hHeld ?_
  refine tkq (oi:=xq11) 11 _ rfl (fun W_ hSw_=>by have xt:=hSw_.1.tld;have xd:=hSw_.2.ld rtE rfl;clear hSw_;go_simp<;>with_reducible rfl) hHeld ?_
  try simp only[Act.put,zA,zB,zC]
  refine tkq (oi:=xq12) 12 _ rfl (fun W_ hSw_=>by have xt:=hSw_.1.tld;have xd:=hSw_.2.ld rtE rfl;clear hSw_;go_simp<;>with_reducible rfl) hHeld ?_
  refine tkq (oi:=xq13) 13 _ rfl (fun W_ hSw_=>by have xt:=hSw_.1.tld;have xd:=hSw_.2.ld rtE rfl;clear hSw_;go_simp<;>with_reducible rfl) hHeld ?_
  refine tkq (oi:=xq14) 14 _ rfl (fun W_ hSw_=>by have xt:=hSw_.1.tld;have xd:=hSw_.2.ld rtE rfl;clear hSw_;go_simp<;>with_reducible rfl) hHeld ?_
  try simp only[Act.put,zA,zB,zC]
  refine tkq (oi:=xq15) 15 _ rfl (fun W_ hSw_=>by have xt:=hSw_.1.tld;have xd:=hSw_.2.ld rtE rfl;clear hSw_;go_simp<;>with_reducible rfl) hHeld ?_
  refine tkq (oi:=xq16) 16 _ rfl (fun W_ hSw_=>by have xt:=hSw_.1.tld;have xd:=hSw_.2.ld rtE rfl;clear hSw_;go_simp<;>with_reducible rfl) hHeld ?_
  refine tkq (oi:=xq17) 17 _ rfl (fun W_ hSw_=>by have xt:=hSw_.1.tld;have xd:=hSw_.2.ld rtE rfl;clear hSw_;go_simp<;>with_reducible rfl) hHeld ?_
  try simp only[Act.put,zA,zB,zC]
  refine tkq (oi:=xq18) 18 _ rfl (fun W_ hSw_=>by have xt:=hSw_.1.tld;have xd:=hSw_.2.ld rtE rfl;clear hSw_;go_simp<;>with_reducible rfl) hHeld ?_
  refine tkq (oi:=xq19) 19 _ rfl (fun W_ hSw_=>by have xt:=hSw_.1.tld;have xd:=hSw_.2.ld rtE rfl;clear hSw_;go_simp<;>with_reducible rfl) hHeld ?_
  refine tkq (oi:=xq20) 20 _ rfl (fun W_ hSw_=>by have xt:=hSw_.1.tld;have xd:=hSw_.2.ld rtE rfl;clear hSw_;go_simp<;>with_reducible rfl) hHeld ?_
  try simp only[Act.put,zA,zB,zC]
  refine wpAnyH_ready (rs:=[21]) (by kernel_rfl) (by simp) ?_
  refine AllReadyH.cons (o:=y_k) rfl (fun K hK=>?_) AllReadyH.nil
  go_simp
  clear hHeld
  refine hK.out _ _ DD.out.2.1 (fun hHeld=>?_)
  clear hK K
  try simp only[Act.put,zA,zB,zC]
  refine wpAnyH_ready (rs:=[22]) (by kernel_rfl) (by simp) ?_
  refine AllReadyH.cons (o:=y_j) rfl (fun K hK=>?_) AllReadyH.nil
  go_simp
  clear hHeld
  refine hK.out _ _ DD.out.2.2 (fun hHeld=>?_)
  clear hK K
  refine tkq (oi:=xq23) 23 _ rfl (fun W_ hSw_=>by have xt:=hSw_.1.tld;have xd:=hSw_.2.ld rtE rfl;clear hSw_;go_simp<;>with_reducible rfl) hHeld ?_
  try simp only[Act.put,zA,zB,zC]
  refine wpAnyH_done (by kernel_rfl) ?_ _
  refine NoPanic.normal ?_
  clear hHeld
  clear sU sZ DD
  go_wp2
  refine bodyPost_ret (z_B rtE results58 _ _ _ _ _ _ _ _ rfl rfl F.out.1 F.out.2.1) rfl ?_
  exact⟨x7,a7,c7,vc,vf5,rfl,by simp,F.out.2.2⟩
end S17
end
end Go.Proofs.YtlchejbggnbccaaGreat
