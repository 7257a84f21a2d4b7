/-
  Vectors in memory, held against each other: the walks of parts, Compare, Better, each for every input. And what follows from it here.
-/
import Derived.Test.YtlchejbggnbccaaGreatPbb
import Derived.Test.YtlchejbggnbccaaGreatPba
import Derived.Laws.BitsAllLaws
namespace Go.Proofs.YtlchejbggnbccaaGreat
set_option linter.unusedVariables false
set_option linter.unusedSimpArgs false
set_option maxRecDepth 4000
set_option maxHeartbeats 40000000
open _root_.Go.Proofs.Tryz
section
namespace S11
open Go.RowKit
attribute [local go_sem ↓] ldV stV stQ
end S11
end
section
namespace S11
open Go.RowKit
theorem z_kA (p:Int) (hp:0≤p∧p≤65535):bits .and .u16 p 4095=p%4096:=by
 obtain⟨n,rfl⟩:=Int.eq_ofNat_of_zero_le hp.1;have h:=u16_and_nat n 4095 (by omega) (by omega);have e:n &&& 4095=n%4096:=Nat.and_two_pow_sub_one_eq_mod n 12;rw[e] at h;rw[show (4095:Int)=((4095:Nat):Int) from rfl,h];omega
theorem v_R (p:Int) (w:World) (hp:0≤p∧p≤65535) :
  Calls prog 311 #[.int .u16 p] w fun e w'=>e=.returned (.int .u16 (p%4096))∧Below w.heap.size w w':=by
 go_enter func311,ntmps311;go_wp2
 go_ret;exact⟨z_y (z_kA p hp),by go_grown⟩
end S11
end
section
namespace S11
open Go.RowKit
def sameN (p q:Int):Bool:=decide (p%4096=q%4096)
def supV (a b:V4):Bool:=betV a b || (sameA a.b b.b && sameN a.p b.p)
attribute [local go_sem ↓] ldV stV
theorem u_R (a b:V4) (w:World) (ha:a.wf) (hb:b.wf) :
  Calls prog 296 #[.agg a.cs,.agg b.cs] w fun e w'=>e=.returned (.bool (supV a b))∧Below w.heap.size w w':=by
 obtain⟨W,hW,va,vb,bW⟩:=w_Y w a b;have H:=hd1 bW;have la:=fun q:Later W=>(va.below q.below).ld;have lb:=fun q:Later W=>(vb.below q.below).ld;have a2:=fun q:Later W=>(va.below q.below).c2;have b2:=fun q:Later W=>(vb.below q.below).c2;have a3:=fun q:Later W=>(va.below q.below).c3;have b3:=fun q:Later W=>(vb.below q.below).c3;have P1:Hid (∀q:Later W,_):=fun q:Later W=>v_W a b q.val ha hb
 have P2:Hid (∀q:Later W,_):=fun q:Later W=>y_y a.b q.val ha.b;have P3:Hid (∀q:Later W,_):=fun q:Later W=>y_y b.b q.val hb.b;have P4:Hid (∀q:Later W,_):=fun q:Later W=>v_R a.p q.val ha.p;have P5:Hid (∀q:Later W,_):=fun q:Later W=>v_R b.p q.val hb.p;have he:=z_ip a.b b.b;clear va vb bW ha hb;cases h1:betV a b<;>cases h2:sameA a.b b.b
 all_goals
  rw[h1] at P1;rw[h2] at he;go_enter func296,ntmps296
  go_wp2_with fail
  refine wp_region_later (by kernel_rfl) (by kernel_rfl) ?_
  repeat (go_big_quiet_step (first
   | exact rfl
   | (go_at_call 256;with_reducible exact Calls.later_of (P1.out _))
   | (go_at_call 47;with_reducible exact Calls.later_of (P2.out _))
   | (go_at_call 47;with_reducible exact Calls.later_of (P3.out _))
   | (go_at_call 311;with_reducible exact Calls.later_of (P4.out _))
   | (go_at_call 311;with_reducible exact Calls.later_of (P5.out _))))
  refine wpQuiet_nil ?_;intro _ hw';obtain⟨x,rfl⟩:=hw';go_wp2
  go_ret;refine⟨z_r ?_,y_Z H.out x⟩;simp[supV,sameN,h1,h2]
  try rfl
end S11
end
section
namespace S11
open Go.RowKit
def sup (a b:Vc):Bool:=supV (v4 a) (v4 b)
theorem u_Q (a b:Vc) (w:World):Calls prog 296 #[.agg a.cs,.agg b.cs] w fun e w'=>e=.returned (.bool (sup a b))∧Below w.heap.size w w':=by
 rw[←x_X a,← x_X b];exact u_R _ _ w (u_P a) (u_P b)
end S11
end
section
namespace S11
open Go.RowKit
def propB (p:Pt):Bool:=decide (p.nm 48=3) && (decide (p.nm 55=4) && p.bt 51)
def propP (p:Pt):Pt:=if propB p=true then p.setB 12 kb12 true else p
def agrB (p:Pt):Bool:=decide (p.nm 48=3) && p.bt 54
def agrP (p:Pt):Pt:=if agrB p=true then (p.setB 4 kb4 true).setB 13 kb13 false else p.setB 4 kb4 false
def dispB (p:Pt):Bool:=decide (p.nm 48=3) && p.bt 52
def dispP (p:Pt):Pt:=if dispB p=true then (p.setB 5 kb5 true).setB 4 kb4 false else p
def tcP (p:Pt):Pt:=p.setB 17 kb17 (p.bt 17 || p.bt 49)
def ackP (p:Pt):Pt:=p.setB 18 kb18 (p.bt 18 || p.bt 50)
def flagP (p:Pt):Pt:=if p.nm 48=2 then p.setB 19 kb19 true else if p.nm 48=1 then tcP (ackP p) else if p.nm 48=3 then tcP p else p
def prioP (p:Pt):Pt:=p.put 36 (mV p) kq36 kl36
def timQ (p:Pt):Pt:=p.put 44 (mT p) kq44 kl44
def timP (p:Pt):Pt:=if p.nm 62=0 then (timQ p).setU 46 1 else timQ p
def whiN (p:Pt):Int:=if p.nm 44+1≤p.nm 45 then (if 3*p.nm 46≤255 then 3*p.nm 46 else 255) else 0
def whiP (p:Pt):Pt:=p.setU 69 (whiN p)
theorem z_kU {ks ks':List (Option IntKind)} (r:Row ks) (o:Nat) (s:Row ks') (h:(ks.drop o).take ks'.length=ks') (hl:o+ks'.length≤ks.length) {i:Nat} (hi:i<ks'.length):(r.put o s h hl).nm (o+i)=s.nm i:=y_C (by rw[r.put_get,if_pos (by omega),Nat.add_sub_cancel_left])
theorem z_cL (p:Pt):(timQ p).nm 46=p.nm 62:=by
 have:=z_kU p 44 (mT p) kq44 kl44 (i:=2) (by decide);rw[show timQ p=p.put 44 (mT p) kq44 kl44 from rfl,this];exact p.nm_sub 60 4 2 (by decide)
def Chg (F:Nat) (f:Pt→Pt):Prop:=∀(W:World) (b:Nat) (p:Pt),RvAt W b 74 p.cs →
 Calls prog F #[.pointer (some ⟨b,0,none⟩)] W fun r W'=>r=.returned (.tuple #[])∧RvAt W' b 74 (f p).cs∧W.grownBy W' (some b)
attribute [local go_sem ↓] ldP stP ldM stM ldTm stTm ldV stV stB stU
theorem z_hA:Chg 303 propP:=by
 intro W b p hp;have c48:=hp.num (j:=48) (k:=.i64) rfl;have c55:=hp.num (j:=55) (k:=.i64) rfl;have c51:=hp.bit (j:=51) rfl;obtain⟨V,s,hV,gV⟩:=hp.setB kb12 true;by_cases h1:p.nm 48=3
 ·by_cases h2:p.nm 55=4
  ·cases h3:p.bt 51
   ·have F:Hid (RvAt W b 74 (propP p).cs):=by
     show RvAt W b _ (propP p).cs
     rw[show propP p=p by simp[propP,propB,h3]];exact hp
    rw[h1] at c48;rw[h2] at c55;rw[h3] at c51;clear hp hV gV s h1 h2 h3;go_enter func303,ntmps303;go_wp2
    go_end0
    exact⟨rfl,F.out,World.grownBy.refl _ _⟩
   ·have F:Hid (RvAt V b 74 (propP p).cs∧W.grownBy V (some b)):=by
     show RvAt V b _ (propP p).cs∧_
     rw[show propP p=p.setB 12 kb12 true by simp[propP,propB,h1,h2,h3]];exact⟨hV,gV⟩
    rw[h1] at c48;rw[h2] at c55;rw[h3] at c51;clear hp hV gV h1 h2 h3;go_enter func303,ntmps303;go_wp2
    go_end0
    exact⟨rfl,F.out⟩
  ·have F:Hid (RvAt W b 74 (propP p).cs):=by
    show RvAt W b _ (propP p).cs
    rw[show propP p=p by simp[propP,propB,h2]];exact hp
   rw[h1] at c48;clear hp hV gV s h1;go_enter func303,ntmps303;go_wp2
   go_end0
   exact⟨rfl,F.out,World.grownBy.refl _ _⟩
 ·have F:Hid (RvAt W b 74 (propP p).cs):=by
   show RvAt W b _ (propP p).cs
   rw[show propP p=p by simp[propP,propB,h1]];exact hp
  clear hp hV gV s;go_enter func303,ntmps303;go_wp2
  go_end0
  exact⟨rfl,F.out,World.grownBy.refl _ _⟩
theorem z_kr:Chg 305 agrP:=by
 intro W b p hp;have c48:=hp.num (j:=48) (k:=.i64) rfl;have c54:=hp.bit (j:=54) rfl;by_cases h1:p.nm 48=3
 ·rw[h1] at c48;cases h2:p.bt 54
  ·rw[h2] at c54;obtain⟨V,s,hV,gV⟩:=hp.setB kb4 false;have d4:=hV.bit (j:=4) rfl;rw[y_h] at d4;have F:Hid (RvAt V b 74 (agrP p).cs∧W.grownBy V (some b)):=by
    show RvAt V b _ (agrP p).cs∧_
    rw[show agrP p=p.setB 4 kb4 false by simp[agrP,agrB,h2]];exact⟨hV,gV⟩
   clear hp hV gV h1 h2;go_enter func305,ntmps305;go_wp2
   go_end0
   exact⟨rfl,F.out⟩
  ·rw[h2] at c54;obtain⟨V,s,hV,gV⟩:=hp.setB kb4 true;have d4:=hV.bit (j:=4) rfl;rw[y_h] at d4;obtain⟨U,s2,hU,gU⟩:=hV.setB kb13 false;have F:Hid (RvAt U b 74 (agrP p).cs∧W.grownBy U (some b)):=by
    show RvAt U b _ (agrP p).cs∧_
    rw[show agrP p=(p.setB 4 kb4 true).setB 13 kb13 false by simp[agrP,agrB,h1,h2]];exact⟨hU,z_n gV gU⟩
   clear hp hV gV hU gU h1 h2;go_enter func305,ntmps305;go_wp2
   go_end0
   exact⟨rfl,F.out⟩
 ·obtain⟨V,s,hV,gV⟩:=hp.setB kb4 false;have d4:=hV.bit (j:=4) rfl;rw[y_h] at d4;have F:Hid (RvAt V b 74 (agrP p).cs∧W.grownBy V (some b)):=by
   show RvAt V b _ (agrP p).cs∧_
   rw[show agrP p=p.setB 4 kb4 false by simp[agrP,agrB,h1]];exact⟨hV,gV⟩
  clear hp hV gV;go_enter func305,ntmps305;go_wp2
  go_end0
  exact⟨rfl,F.out⟩
theorem z_hE:Chg 307 dispP:=by
 intro W b p hp;have c48:=hp.num (j:=48) (k:=.i64) rfl;have c52:=hp.bit (j:=52) rfl;by_cases h1:p.nm 48=3
 ·rw[h1] at c48;cases h2:p.bt 52
  ·rw[h2] at c52;have F:Hid (RvAt W b 74 (dispP p).cs∧W.grownBy W (some b)):=by
    show RvAt W b _ (dispP p).cs∧_
    rw[show dispP p=p by simp[dispP,dispB,h2]];exact⟨hp,World.grownBy.refl _ _⟩
   clear hp h1 h2;go_enter func307,ntmps307;go_wp2
   go_end0
   exact⟨rfl,F.out⟩
  ·rw[h2] at c52;obtain⟨V,s,hV,gV⟩:=hp.setB kb5 true;obtain⟨U,s2,hU,gU⟩:=hV.setB kb4 false;have F:Hid (RvAt U b 74 (dispP p).cs∧W.grownBy U (some b)):=by
    show RvAt U b _ (dispP p).cs∧_
    rw[show dispP p=(p.setB 5 kb5 true).setB 4 kb4 false by simp[dispP,dispB,h1,h2]];exact⟨hU,z_n gV gU⟩
   clear hp hV gV hU gU h1 h2;go_enter func307,ntmps307;go_wp2
   go_end0
   exact⟨rfl,F.out⟩
 ·skip
  have F:Hid (RvAt W b 74 (dispP p).cs∧W.grownBy W (some b)):=by
   show RvAt W b _ (dispP p).cs∧_
   rw[show dispP p=p by simp[dispP,dispB,h1]];exact⟨hp,World.grownBy.refl _ _⟩
  clear hp;go_enter func307,ntmps307;go_wp2
  go_end0
  exact⟨rfl,F.out⟩
theorem z_hC:Chg 304 flagP:=by
 intro W b p hp;have c48:=hp.num (j:=48) (k:=.i64) rfl;have c49:=hp.bit (j:=49) rfl;have c50:=hp.bit (j:=50) rfl;have c17:=hp.bit (j:=17) rfl;have c18:=hp.bit (j:=18) rfl;by_cases h1:p.nm 48=2
 ·rw[h1] at c48;obtain⟨V,s,hV,gV⟩:=hp.setB kb19 true;have F:Hid (RvAt V b 74 (flagP p).cs∧W.grownBy V (some b)):=by
   show RvAt V b _ (flagP p).cs∧_
   rw[show flagP p=p.setB 19 kb19 true by simp[flagP,h1]];exact⟨hV,gV⟩
  clear hp hV gV h1 c49 c50 c17 c18;go_enter func304,ntmps304;go_wp2
  go_end0
  exact⟨rfl,F.out⟩
 ·by_cases h2:p.nm 48=1
  ·rw[h2] at c48;obtain⟨x,hx⟩:∃x,(p.bt 18 || p.bt 50)=x:=⟨_,rfl⟩;obtain⟨y,hy⟩:∃y,(p.bt 17 || p.bt 49)=y:=⟨_,rfl⟩;obtain⟨V,s,hV,gV⟩:=hp.setB kb18 x;have d17:=hV.bit (j:=17) rfl;have d49:=hV.bit (j:=49) rfl;rw[z_N p kb18 x (i:=17) (by decide)] at d17;rw[z_N p kb18 x (i:=49) (by decide)] at d49;obtain⟨U,s2,hU,gU⟩:=hV.setB kb17 y;have F:Hid (RvAt U b 74 (flagP p).cs∧W.grownBy U (some b)):=by
    show RvAt U b _ (flagP p).cs∧_
    rw[show flagP p=(p.setB 18 kb18 x).setB 17 kb17 y by rw[flagP,if_neg h1,if_pos h2,tcP,ackP,z_N p kb18 _ (i:=17) (by decide),z_N p kb18 _ (i:=49) (by decide),hx,hy]];exact⟨hU,z_n gV gU⟩
   clear hp hV gV hU gU h1 h2;cases k18:p.bt 18<;>cases k17:p.bt 17
   all_goals
    rw[k18] at hx c18;rw[k17] at hy c17 d17;simp only[Bool.false_or,Bool.true_or] at hx hy;subst hx hy;clear k17 k18;go_enter func304,ntmps304;go_wp2
    go_end0
    exact⟨rfl,F.out⟩
  ·by_cases h3:p.nm 48=3
   ·rw[h3] at c48;obtain⟨y,hy⟩:∃y,(p.bt 17 || p.bt 49)=y:=⟨_,rfl⟩;obtain⟨U,s2,hU,gU⟩:=hp.setB kb17 y;have F:Hid (RvAt U b 74 (flagP p).cs∧W.grownBy U (some b)):=by
     show RvAt U b _ (flagP p).cs∧_
     rw[show flagP p=p.setB 17 kb17 y by rw[flagP,if_neg h1,if_neg h2,if_pos h3,tcP,hy]];exact⟨hU,gU⟩
    clear hp hU gU h1 h2 h3;cases k17:p.bt 17
    all_goals
     rw[k17] at hy c17;simp only[Bool.false_or,Bool.true_or] at hy;subst hy;clear k17;go_enter func304,ntmps304;go_wp2
     go_end0
     exact⟨rfl,F.out⟩
   ·skip
    have F:Hid (RvAt W b 74 (flagP p).cs∧W.grownBy W (some b)):=by
     show RvAt W b _ (flagP p).cs∧_
     rw[show flagP p=p by rw[flagP,if_neg h1,if_neg h2,if_neg h3]];exact⟨hp,World.grownBy.refl _ _⟩
    clear hp c49 c50 c17 c18;go_enter func304,ntmps304;go_wp2
    go_end0
    exact⟨rfl,F.out⟩
theorem z_hB:Chg 312 prioP:=by
 intro W b p hp;have lv:=hp.pmV;obtain⟨V,s,hV,gV⟩:=hp.putV (mV p);have F:=hd2 hV gV;clear hp hV gV;go_enter func312,ntmps312;go_wp2
 go_end0
 exact⟨rfl,F.out⟩
theorem z_ko:Chg 313 timP:=by
 intro W b p hp;have lt:=hp.pmT;obtain⟨V,s,hV0,gV⟩:=hp.putT (mT p);have hV:RvAt V b 74 (timQ p).cs:=hV0;have d46:=hV.num (j:=46) (k:=.u8) rfl;rw[z_cL] at d46;clear hV0;by_cases h1:p.nm 62=0
 ·rw[h1] at d46;obtain⟨U,s2,hU,gU⟩:=hV.setU (j:=46) rfl (n:=1) (by omega);have F:Hid (RvAt U b 74 (timP p).cs∧W.grownBy U (some b)):=by
   show RvAt U b _ (timP p).cs∧_
   rw[show timP p=(timQ p).setU 46 1 by rw[timP,if_pos h1]];exact⟨hU,z_n gV gU⟩
  clear hp hV gV hU gU h1;go_enter func313,ntmps313;go_wp2
  go_end0
  exact⟨rfl,F.out⟩
 ·skip
  have F:Hid (RvAt V b 74 (timP p).cs∧W.grownBy V (some b)):=by
   show RvAt V b _ (timP p).cs∧_
   rw[show timP p=timQ p by rw[timP,if_neg h1]];exact⟨hV,gV⟩
  clear hp hV gV;go_enter func313,ntmps313;go_wp2
  go_end0
  exact⟨rfl,F.out⟩
end S11
end
section
namespace S11
open Go.RowKit
theorem ku69:kdP[69]?=some (some .u8):=rfl
theorem setU_nm {ks:List (Option IntKind)} (r:Row ks) {i j:Nat} {n:Int} (h:ks[j]?=some (some .u8)) (hn:0≤n∧n≤255) (hi:i≠j):(r.setU j n).nm i=r.nm i:=y_C (by rw[r.setU_get h (wf8 hn),if_neg hi])
theorem w_v (p:Pt) {n:Int} (hn:0≤n∧n≤255):(p.setU 69 0).setU 69 n=p.setU 69 n:=by
 refine Row.same fun i _=>?_;rw[Row.setU_get _ ku69 (wf8 hn),Row.setU_get _ ku69 (wf8 hn),Row.setU_get _ ku69 (wf8 (by omega))]
 split<;>rfl
attribute [local go_sem ↓] ldP stP ldM stM ldTm stTm ldV stV stB stU
theorem z_kn:Chg 306 whiP:=by
 intro W b p hp;have u44:=p.u8 (j:=44) rfl;have u45:=p.u8 (j:=45) rfl;have u46:=p.u8 (j:=46) rfl;obtain⟨V,s,hV,gV⟩:=hp.setU ku69 (n:=0) (by omega);have d44:=fun q:Later V=>(hV.below q.below).num (j:=44) (k:=.u8) rfl;have d45:=fun q:Later V=>(hV.below q.below).num (j:=45) (k:=.u8) rfl
 simp only[setU_nm p ku69 (n:=0) (by omega) (i:=44) (by decide),setU_nm p ku69 (n:=0) (by omega) (i:=45) (by decide)] at d44 d45;have G:Hid (RvAt V b 74 (p.setU 69 0).cs∧W.grownBy V (some b)):=⟨hV,gV⟩;obtain⟨A,hA⟩:∃A,p.nm 44=A:=⟨_,rfl⟩;obtain⟨M,hM⟩:∃M,p.nm 45=M:=⟨_,rfl⟩;obtain⟨H,hH⟩:∃H,p.nm 46=H:=⟨_,rfl⟩
 have E:Hid (whiN p=if A+1≤M then (if 3*H≤255 then 3*H else 255) else 0):=show whiN p=_ by rw[whiN,hA,hM,hH]
 simp only[hA,hM] at d44 d45;rw[hA] at u44;rw[hM] at u45;rw[hH] at u46;have K:Hid (p.nm 46=H):=hH;clear hp hV gV hA hM hH;go_enter func306,ntmps306
 go_wp2_with fail
 refine wp_region_later (by kernel_rfl) (by kernel_rfl) ?_
 repeat (go_big_quiet_step (first|exact rfl))
 refine wpQuiet_nil ?_;intro _ hw';obtain⟨x,rfl⟩:=hw';have hx:=G.out.1.below x.below;have gx:W.grownBy x.val (some b):=z_n G.out.2 (z_q x.below _);by_cases h1:A+1≤M
 ·have e46:=hx.num (j:=46) (k:=.u8) rfl;rw[setU_nm p ku69 (n:=0) (by omega) (i:=46) (by decide),K.out] at e46;by_cases h2:3*H≤255
  ·obtain⟨U,s2,hU,gU⟩:=hx.setU ku69 (n:=3*H) (by omega);have F:Hid (RvAt U b 74 (whiP p).cs∧W.grownBy U (some b)):=by
    show RvAt U b _ (whiP p).cs∧_
    rw[whiP,E.out,if_pos h1,if_pos h2,← w_v p (by omega)];exact⟨hU,z_n gx gU⟩
   clear hx gx hU gU d44 d45 s;go_wp2
   go_end0
   exact⟨rfl,F.out⟩
  ·obtain⟨U,s2,hU,gU⟩:=hx.setU ku69 (n:=255) (by omega);have F:Hid (RvAt U b 74 (whiP p).cs∧W.grownBy U (some b)):=by
    show RvAt U b _ (whiP p).cs∧_
    rw[whiP,E.out,if_pos h1,if_neg h2,← w_v p (by omega)];exact⟨hU,z_n gx gU⟩
   clear hx gx hU gU d44 d45 s;go_wp2
   go_end0
   exact⟨rfl,F.out⟩
 ·have F:Hid (RvAt x.val b 74 (whiP p).cs∧W.grownBy x.val (some b)):=by
   show RvAt x.val b _ (whiP p).cs∧_
   rw[whiP,E.out,if_neg h1];exact⟨hx,gx⟩
  clear hx gx d44 d45 s;go_wp2
  go_end0
  exact⟨rfl,F.out⟩
attribute [local go_sem ↓] alP alM
attribute [local go_sem] z_l z_D
theorem z_t (F:Nat) (f:Pt→Pt) (hF:Chg F f) (hc:∀(x:Value) (V:World),(callFunc F #[x]).run prog V=.ok (.enter F #[x]) V) (p:Pt) (w:World) :
  Calls prog 89 #[.agg p.cs,.func (.func F) #[] #[]] w fun r w'=>r=.returned (.agg (f p).cs)∧Below w.heap.size w w':=by
 obtain⟨W,hW,r0,r1,bW,zW⟩:=x_y w p;have H:=hd4 r0 r1 bW zW;clear r0 r1 bW zW;go_enter func89,ntmps89
 go_wp2_with fail
 refine (hF W w.heap.size p H.out.1).mono ?_;rintro _ V ⟨rfl,hV,gV⟩;have lV:=hV.pld;obtain⟨U,sU,hU,gU⟩:=(H.out.2.1.keptBut gV (by simp)).pst (q:=f p);have G:Hid (RvAt U (w.heap.size+1) 74 (f p).cs∧Below w.heap.size w U):=⟨hU,gro (gro H.out.2.2.1 gV (Nat.le_refl _) (by have:=H.out.2.2.2;omega)) gU (by omega) (by have:=H.out.2.2.2;have:=gV.size;omega)⟩;clear hV gV hU gU hW
 go_wp2_with (with_reducible exact z_g results89 rfl rfl G.out.1 ⟨rfl,G.out.2⟩)
end S11
end
section
namespace S11
open Go.RowKit
theorem x_c {ks:List (Option IntKind)} (r:Row ks) {j:Nat} (h:ks[j]?=some none):r.setB j h (r.bt j)=r:=by
 refine Row.same fun i _=>?_;rw[r.setB_get]
 split
 ·rename_i e
  subst e;exact (r.bit h).symm
 ·rfl
theorem z_dg {ks:List (Option IntKind)} (r:Row ks) {i j:Nat} (hi:ks[i]?=some none) (hj:ks[j]?=some none) (x y:Bool) (hn:i≠j):(r.setB i hi x).setB j hj y=(r.setB j hj y).setB i hi x:=by
 refine Row.same fun k _=>?_;rw[Row.setB_get,Row.setB_get,Row.setB_get,Row.setB_get];by_cases h1:k=i
 ·subst h1;rw[if_neg hn,if_pos rfl,if_pos rfl]
 ·rw[if_neg h1,if_neg h1]
theorem v_r (p:Pt) {j:Nat} (hj:j<16):(msg p).nm j=p.nm (48+j):=p.nm_sub 48 16 j hj
theorem v_s (p:Pt) {j:Nat} (hj:j<16):(msg p).bt j=p.bt (48+j):=p.bt_sub 48 16 j hj
theorem z_I {w W X:World} {q:Pt} {b d:Nat} (r1:RvAt W d 74 zeroP.cs) (bW:Below w.heap.size w W) (hX:RvAt X b 74 q.cs) (g:W.grownBy X (some b)) (hb:w.heap.size≤b) (hd:w.heap.size≤d) (hn:d≠b) :
  (ldS 74 (.pointer (some ⟨b,0,none⟩))).run prog X=.ok (.agg q.cs) X∧∃U,(stS 74 (.pointer (some ⟨d,0,none⟩)) (.agg q.cs)).run prog X=.ok () U∧RvAt U d 74 q.cs∧Below w.heap.size w U:=by
 obtain⟨U,sU,hU,gU⟩:=(r1.keptBut g (by simpa using hn)).pst (q:=q);exact⟨hX.pld,U,sU,hU,gro (gro bW g hb bW.size) gU hd (Nat.le_trans bW.size g.size)⟩
attribute [local go_sem ↓] ldP stP ldM stM ldTm stTm ldV stV stB stU
attribute [local go_sem ↓] alP alM
attribute [local go_sem] z_l z_D
theorem u_U (p:Pt) (w:World) :
  Calls prog 195 #[.agg p.cs] w fun r w'=>r=.returned (.agg (propP p).cs)∧Below w.heap.size w w':=by
 obtain⟨W,hW,hp,r1,bW,zW⟩:=x_y w p;have H:Hid (RvAt W (w.heap.size+1) 74 zeroP.cs∧Below w.heap.size w W∧W.heap.size=w.heap.size+2):=⟨r1,bW,zW⟩;clear r1 bW zW;have c48:=hp.num (j:=48) (k:=.i64) rfl;have c55:=hp.num (j:=55) (k:=.i64) rfl;have c51:=hp.bit (j:=51) rfl;by_cases h1:p.nm 48=3
 ·rw[h1] at c48;by_cases h2:p.nm 55=4
  ·rw[h2] at c55;cases h3:p.bt 51
   ·rw[h3] at c51;obtain⟨lX,U,sU,hU,bU⟩:=z_I H.out.1 H.out.2.1 hp (World.grownBy.refl _ _) (Nat.le_refl _) (by omega) (by omega);have G:Hid (RvAt U (w.heap.size+1) 74 (propP p).cs∧Below w.heap.size w U):=by
     show RvAt U _ _ (propP p).cs∧_
     rw[show propP p=p by simp[propP,propB,h3]];exact⟨hU,bU⟩
    clear hp h1 h2 h3 hU bU;go_enter func195,ntmps195
    go_wp2_with (with_reducible exact z_g results195 (by with_unfolding_all rfl) (by with_unfolding_all rfl) G.out.1 ⟨rfl,G.out.2⟩)
   ·rw[h3] at c51;obtain⟨V,s,hV,gV⟩:=hp.setB kb12 true;obtain⟨lX,U,sU,hU,bU⟩:=z_I H.out.1 H.out.2.1 hV gV (Nat.le_refl _) (by omega) (by omega);have G:Hid (RvAt U (w.heap.size+1) 74 (propP p).cs∧Below w.heap.size w U):=by
     show RvAt U _ _ (propP p).cs∧_
     rw[show propP p=p.setB 12 kb12 true by simp[propP,propB,h1,h2,h3]];exact⟨hU,bU⟩
    clear hp hV gV h1 h2 h3 hU bU;go_enter func195,ntmps195
    go_wp2_with (with_reducible exact z_g results195 (by with_unfolding_all rfl) (by with_unfolding_all rfl) G.out.1 ⟨rfl,G.out.2⟩)
  ·skip
   obtain⟨lX,U,sU,hU,bU⟩:=z_I H.out.1 H.out.2.1 hp (World.grownBy.refl _ _) (Nat.le_refl _) (by omega) (by omega);have G:Hid (RvAt U (w.heap.size+1) 74 (propP p).cs∧Below w.heap.size w U):=by
    show RvAt U _ _ (propP p).cs∧_
    rw[show propP p=p by simp[propP,propB,h2]];exact⟨hU,bU⟩
   clear hp h1 hU bU;go_enter func195,ntmps195
   go_wp2_with (with_reducible exact z_g results195 (by with_unfolding_all rfl) (by with_unfolding_all rfl) G.out.1 ⟨rfl,G.out.2⟩)
 ·skip
  obtain⟨lX,U,sU,hU,bU⟩:=z_I H.out.1 H.out.2.1 hp (World.grownBy.refl _ _) (Nat.le_refl _) (by omega) (by omega);have G:Hid (RvAt U (w.heap.size+1) 74 (propP p).cs∧Below w.heap.size w U):=by
   show RvAt U _ _ (propP p).cs∧_
   rw[show propP p=p by simp[propP,propB,h1]];exact⟨hU,bU⟩
  clear hp hU bU;go_enter func195,ntmps195
  go_wp2_with (with_reducible exact z_g results195 (by with_unfolding_all rfl) (by with_unfolding_all rfl) G.out.1 ⟨rfl,G.out.2⟩)
theorem y_G (p:Pt) (w:World) :
  Calls prog 193 #[.agg p.cs] w fun r w'=>r=.returned (.agg (agrP p).cs)∧Below w.heap.size w w':=by
 obtain⟨W,hW,hp,r1,bW,zW⟩:=x_y w p;have H:Hid (RvAt W (w.heap.size+1) 74 zeroP.cs∧Below w.heap.size w W∧W.heap.size=w.heap.size+2):=⟨r1,bW,zW⟩;clear r1 bW zW;have c48:=hp.num (j:=48) (k:=.i64) rfl;have c54:=hp.bit (j:=54) rfl;by_cases h1:p.nm 48=3
 ·rw[h1] at c48;cases h2:p.bt 54
  ·rw[h2] at c54;obtain⟨V,s,hV,gV⟩:=hp.setB kb4 false;have d4:=hV.bit (j:=4) rfl;rw[y_h] at d4;obtain⟨lX,U,sU,hU,bU⟩:=z_I H.out.1 H.out.2.1 hV gV (Nat.le_refl _) (by omega) (by omega);have G:Hid (RvAt U (w.heap.size+1) 74 (agrP p).cs∧Below w.heap.size w U):=by
    show RvAt U _ _ (agrP p).cs∧_
    rw[show agrP p=p.setB 4 kb4 false by simp[agrP,agrB,h2]];exact⟨hU,bU⟩
   clear hp hV gV h1 h2 hU bU;go_enter func193,ntmps193
   go_wp2_with (with_reducible exact z_g results193 (by with_unfolding_all rfl) (by with_unfolding_all rfl) G.out.1 ⟨rfl,G.out.2⟩)
  ·rw[h2] at c54;obtain⟨V,s,hV,gV⟩:=hp.setB kb4 true;have d4:=hV.bit (j:=4) rfl;rw[y_h] at d4;obtain⟨Z,s2,hZ,gZ⟩:=hV.setB kb13 false;obtain⟨lX,U,sU,hU,bU⟩:=z_I H.out.1 H.out.2.1 hZ (z_n gV gZ) (Nat.le_refl _) (by omega) (by omega);have G:Hid (RvAt U (w.heap.size+1) 74 (agrP p).cs∧Below w.heap.size w U):=by
    show RvAt U _ _ (agrP p).cs∧_
    rw[show agrP p=(p.setB 4 kb4 true).setB 13 kb13 false by simp[agrP,agrB,h1,h2]];exact⟨hU,bU⟩
   clear hp hV gV hZ gZ h1 h2 hU bU;go_enter func193,ntmps193
   go_wp2_with (with_reducible exact z_g results193 (by with_unfolding_all rfl) (by with_unfolding_all rfl) G.out.1 ⟨rfl,G.out.2⟩)
 ·obtain⟨V,s,hV,gV⟩:=hp.setB kb4 false;have d4:=hV.bit (j:=4) rfl;rw[y_h] at d4;obtain⟨lX,U,sU,hU,bU⟩:=z_I H.out.1 H.out.2.1 hV gV (Nat.le_refl _) (by omega) (by omega);have G:Hid (RvAt U (w.heap.size+1) 74 (agrP p).cs∧Below w.heap.size w U):=by
   show RvAt U _ _ (agrP p).cs∧_
   rw[show agrP p=p.setB 4 kb4 false by simp[agrP,agrB,h1]];exact⟨hU,bU⟩
  clear hp hV gV hU bU;go_enter func193,ntmps193
  go_wp2_with (with_reducible exact z_g results193 (by with_unfolding_all rfl) (by with_unfolding_all rfl) G.out.1 ⟨rfl,G.out.2⟩)
theorem z_dz (p:Pt) (w:World) :
  Calls prog 196 #[.agg p.cs] w fun r w'=>r=.returned (.agg (dispP p).cs)∧Below w.heap.size w w':=by
 obtain⟨W,hW,hp,r1,bW,zW⟩:=x_y w p;have H:Hid (RvAt W (w.heap.size+1) 74 zeroP.cs∧Below w.heap.size w W∧W.heap.size=w.heap.size+2):=⟨r1,bW,zW⟩;clear r1 bW zW;have c48:=hp.num (j:=48) (k:=.i64) rfl;have c52:=hp.bit (j:=52) rfl;by_cases h1:p.nm 48=3
 ·rw[h1] at c48;cases h2:p.bt 52
  ·rw[h2] at c52;obtain⟨lX,U,sU,hU,bU⟩:=z_I H.out.1 H.out.2.1 hp (World.grownBy.refl _ _) (Nat.le_refl _) (by omega) (by omega);have G:Hid (RvAt U (w.heap.size+1) 74 (dispP p).cs∧Below w.heap.size w U):=by
    show RvAt U _ _ (dispP p).cs∧_
    rw[show dispP p=p by simp[dispP,dispB,h2]];exact⟨hU,bU⟩
   clear hp h1 h2 hU bU;go_enter func196,ntmps196
   go_wp2_with (with_reducible exact z_g results196 (by with_unfolding_all rfl) (by with_unfolding_all rfl) G.out.1 ⟨rfl,G.out.2⟩)
  ·rw[h2] at c52;obtain⟨V,s,hV,gV⟩:=hp.setB kb5 true;obtain⟨Z,s2,hZ,gZ⟩:=hV.setB kb4 false;obtain⟨lX,U,sU,hU,bU⟩:=z_I H.out.1 H.out.2.1 hZ (z_n gV gZ) (Nat.le_refl _) (by omega) (by omega);have G:Hid (RvAt U (w.heap.size+1) 74 (dispP p).cs∧Below w.heap.size w U):=by
    show RvAt U _ _ (dispP p).cs∧_
    rw[show dispP p=(p.setB 5 kb5 true).setB 4 kb4 false by simp[dispP,dispB,h1,h2]];exact⟨hU,bU⟩
   clear hp hV gV hZ gZ h1 h2 hU bU;go_enter func196,ntmps196
   go_wp2_with (with_reducible exact z_g results196 (by with_unfolding_all rfl) (by with_unfolding_all rfl) G.out.1 ⟨rfl,G.out.2⟩)
 ·skip
  obtain⟨lX,U,sU,hU,bU⟩:=z_I H.out.1 H.out.2.1 hp (World.grownBy.refl _ _) (Nat.le_refl _) (by omega) (by omega);have G:Hid (RvAt U (w.heap.size+1) 74 (dispP p).cs∧Below w.heap.size w U):=by
   show RvAt U _ _ (dispP p).cs∧_
   rw[show dispP p=p by simp[dispP,dispB,h1]];exact⟨hU,bU⟩
  clear hp hU bU;go_enter func196,ntmps196
  go_wp2_with (with_reducible exact z_g results196 (by with_unfolding_all rfl) (by with_unfolding_all rfl) G.out.1 ⟨rfl,G.out.2⟩)
theorem u_V (p:Pt) (w:World) :
  Calls prog 231 #[.agg p.cs] w fun r w'=>r=.returned (.agg (prioP p).cs)∧Below w.heap.size w w':=by
 obtain⟨W,hW,hp,r1,bW,zW⟩:=x_y w p;have H:Hid (RvAt W (w.heap.size+1) 74 zeroP.cs∧Below w.heap.size w W∧W.heap.size=w.heap.size+2):=⟨r1,bW,zW⟩;clear r1 bW zW;have lv:=hp.pmV;obtain⟨V,s,hV,gV⟩:=hp.putV (mV p);obtain⟨lX,U,sU,hU,bU⟩:=z_I H.out.1 H.out.2.1 hV gV (Nat.le_refl _) (by omega) (by omega);have G:Hid (RvAt U (w.heap.size+1) 74 (prioP p).cs∧Below w.heap.size w U):=by
  show RvAt U _ _ (prioP p).cs∧_
  rw[show prioP p=p.put 36 (mV p) kq36 kl36 by rfl];exact⟨hU,bU⟩
 clear hp hV gV hU bU;go_enter func231,ntmps231
 go_wp2_with (with_reducible exact z_g results231 (by with_unfolding_all rfl) (by with_unfolding_all rfl) G.out.1 ⟨rfl,G.out.2⟩)
theorem z_bn (p:Pt) (w:World) :
  Calls prog 230 #[.agg p.cs] w fun r w'=>r=.returned (.agg (timP p).cs)∧Below w.heap.size w w':=by
 obtain⟨W,hW,hp,r1,bW,zW⟩:=x_y w p;have H:Hid (RvAt W (w.heap.size+1) 74 zeroP.cs∧Below w.heap.size w W∧W.heap.size=w.heap.size+2):=⟨r1,bW,zW⟩;clear r1 bW zW;have lt:=hp.pmT;obtain⟨V,s,hV0,gV⟩:=hp.putT (mT p);have hV:RvAt V w.heap.size 74 (timQ p).cs:=hV0;have d46:=hV.num (j:=46) (k:=.u8) rfl;rw[z_cL] at d46;clear hV0;by_cases h1:p.nm 62=0
 ·rw[h1] at d46;obtain⟨Z,s2,hZ,gZ⟩:=hV.setU (j:=46) rfl (n:=1) (by omega);obtain⟨lX,U,sU,hU,bU⟩:=z_I H.out.1 H.out.2.1 hZ (z_n gV gZ) (Nat.le_refl _) (by omega) (by omega);have G:Hid (RvAt U (w.heap.size+1) 74 (timP p).cs∧Below w.heap.size w U):=by
   show RvAt U _ _ (timP p).cs∧_
   rw[show timP p=(timQ p).setU 46 1 by rw[timP,if_pos h1]];exact⟨hU,bU⟩
  clear hp hV gV hZ gZ h1 hU bU;go_enter func230,ntmps230
  go_wp2_with (with_reducible exact z_g results230 (by with_unfolding_all rfl) (by with_unfolding_all rfl) G.out.1 ⟨rfl,G.out.2⟩)
 ·skip
  obtain⟨lX,U,sU,hU,bU⟩:=z_I H.out.1 H.out.2.1 hV gV (Nat.le_refl _) (by omega) (by omega);have G:Hid (RvAt U (w.heap.size+1) 74 (timP p).cs∧Below w.heap.size w U):=by
   show RvAt U _ _ (timP p).cs∧_
   rw[show timP p=timQ p by rw[timP,if_neg h1]];exact⟨hU,bU⟩
  clear hp hV gV hU bU;go_enter func230,ntmps230
  go_wp2_with (with_reducible exact z_g results230 (by with_unfolding_all rfl) (by with_unfolding_all rfl) G.out.1 ⟨rfl,G.out.2⟩)
theorem u_e (p:Pt) (w:World) :
  Calls prog 192 #[.agg p.cs] w fun r w'=>r=.returned (.agg (whiP p).cs)∧Below w.heap.size w w':=by
 obtain⟨W,hW,hp,r1,bW,zW⟩:=x_y w p;have H:Hid (RvAt W (w.heap.size+1) 74 zeroP.cs∧Below w.heap.size w W∧W.heap.size=w.heap.size+2):=⟨r1,bW,zW⟩;clear r1 bW zW;have u44:=p.u8 (j:=44) rfl;have u45:=p.u8 (j:=45) rfl;have u46:=p.u8 (j:=46) rfl;obtain⟨V,s,hV,gV⟩:=hp.setU ku69 (n:=0) (by omega);have d44:=hV.num (j:=44) (k:=.u8) rfl;have d45:=hV.num (j:=45) (k:=.u8) rfl
 have d46:=hV.num (j:=46) (k:=.u8) rfl;rw[setU_nm p ku69 (n:=0) (by omega) (i:=44) (by decide)] at d44;rw[setU_nm p ku69 (n:=0) (by omega) (i:=45) (by decide)] at d45;rw[setU_nm p ku69 (n:=0) (by omega) (i:=46) (by decide)] at d46;obtain⟨A,hA⟩:∃A,p.nm 44=A:=⟨_,rfl⟩;obtain⟨M,hM⟩:∃M,p.nm 45=M:=⟨_,rfl⟩;obtain⟨K,hK⟩:∃K,p.nm 46=K:=⟨_,rfl⟩
 have E:Hid (whiN p=if A+1≤M then (if 3*K≤255 then 3*K else 255) else 0):=show whiN p=_ by rw[whiN,hA,hM,hK]
 rw[hA] at u44 d44;rw[hM] at u45 d45;rw[hK] at u46 d46;clear hA hM hK;by_cases h1:A+1≤M
 ·by_cases h2:3*K≤255
  ·obtain⟨Z,s2,hZ,gZ⟩:=hV.setU ku69 (n:=3*K) (by omega);obtain⟨lX,U,sU,hU,bU⟩:=z_I H.out.1 H.out.2.1 hZ (z_n gV gZ) (Nat.le_refl _) (by omega) (by omega);have G:Hid (RvAt U (w.heap.size+1) 74 (whiP p).cs∧Below w.heap.size w U):=by
    show RvAt U _ _ (whiP p).cs∧_
    rw[show whiP p=(p.setU 69 0).setU 69 (3*K) by rw[whiP,E.out,if_pos h1,if_pos h2,← w_v p (by omega)]];exact⟨hU,bU⟩
   clear hp hV gV hZ gZ hU bU;go_enter func192,ntmps192
   go_wp2_with (with_reducible exact z_g results192 (by with_unfolding_all rfl) (by with_unfolding_all rfl) G.out.1 ⟨rfl,G.out.2⟩)
  ·obtain⟨Z,s2,hZ,gZ⟩:=hV.setU ku69 (n:=255) (by omega);obtain⟨lX,U,sU,hU,bU⟩:=z_I H.out.1 H.out.2.1 hZ (z_n gV gZ) (Nat.le_refl _) (by omega) (by omega);have G:Hid (RvAt U (w.heap.size+1) 74 (whiP p).cs∧Below w.heap.size w U):=by
    show RvAt U _ _ (whiP p).cs∧_
    rw[show whiP p=(p.setU 69 0).setU 69 255 by rw[whiP,E.out,if_pos h1,if_neg h2,← w_v p (by omega)]];exact⟨hU,bU⟩
   clear hp hV gV hZ gZ hU bU;go_enter func192,ntmps192
   go_wp2_with (with_reducible exact z_g results192 (by with_unfolding_all rfl) (by with_unfolding_all rfl) G.out.1 ⟨rfl,G.out.2⟩)
 ·skip
  obtain⟨lX,U,sU,hU,bU⟩:=z_I H.out.1 H.out.2.1 hV gV (Nat.le_refl _) (by omega) (by omega);have G:Hid (RvAt U (w.heap.size+1) 74 (whiP p).cs∧Below w.heap.size w U):=by
   show RvAt U _ _ (whiP p).cs∧_
   rw[show whiP p=p.setU 69 0 by rw[whiP,E.out,if_neg h1]];exact⟨hU,bU⟩
  clear hp hV gV hU bU;go_enter func192,ntmps192
  go_wp2_with (with_reducible exact z_g results192 (by with_unfolding_all rfl) (by with_unfolding_all rfl) G.out.1 ⟨rfl,G.out.2⟩)
end S11
end
section
namespace S11
open Go.RowKit
def desM (m:Mg):Bool:=decide (m.nm 0=1) || (decide (m.nm 0=3) && decide (m.nm 7=4))
def othM (m:Mg):Bool:=decide (m.nm 0=3) && (decide (m.nm 7=3) || (decide (m.nm 7=1) || decide (m.nm 7=2)))
def samP (p:Pt):Bool:=(mV p).eq (pri p) && (mT p).eq (priT p)
def ofDes (p:Pt):Int:=if samP p=true then 2 else if sup (mV p) (pri p)=true then 1 else 3
def infP (p:Pt):Int:=if desM (msg p)=true then ofDes p else if othM (msg p)=true then (if bet (mV p) (pri p)=true then 0 else 4) else 0
def bosP (p:Pt) (is:Int):Bool:=if p.nm 29=is then (if is=3 then !bet (pri p) (mV p) else if is=2 then !bet (pri p) (dsg p) else false) else false
attribute [local go_sem ↓] ldP stP ldM stM ldTm stTm ldV stV stB stU eqgTm eqlTm eqgV eqlV
theorem z_fd (m:Mg) (w:World) :
  Calls prog 281 #[.agg m.cs] w fun r w'=>r=.returned (.bool (desM m))∧Below w.heap.size w w':=by
 obtain⟨W,hW,r0,bW,zW⟩:=z_jI w m;have m0:=r0.num (j:=0) (k:=.i64) rfl;have m7:=r0.num (j:=7) (k:=.i64) rfl;have H:=hd1 bW;obtain⟨K,hK⟩:∃K,m.nm 0=K:=⟨_,rfl⟩;obtain⟨R,hR⟩:∃R,m.nm 7=R:=⟨_,rfl⟩;have E:Hid (desM m=(decide (K=1) || (decide (K=3) && decide (R=4)))):=show desM m=_ by rw[desM,hK,hR]
 rw[hK] at m0;rw[hR] at m7;clear r0 bW zW hK hR;by_cases h3:K=3
 ·subst h3;by_cases h4:R=4
  ·subst h4;go_enter func281,ntmps281;go_wp2
   go_ret;exact⟨z_r (by rw[E.out];rfl),H.out⟩
  ·go_enter func281,ntmps281;go_wp2
   go_ret;exact⟨z_r (by rw[E.out];simp[h4]),H.out⟩
 ·by_cases h1:K=1
  ·subst h1;go_enter func281,ntmps281;go_wp2
   go_ret;exact⟨z_r (by rw[E.out];rfl),H.out⟩
  ·go_enter func281,ntmps281;go_wp2
   go_ret;exact⟨z_r (by rw[E.out];simp[h1,h3]),H.out⟩
theorem z_jE (m:Mg) (w:World) :
  Calls prog 283 #[.agg m.cs] w fun r w'=>r=.returned (.bool (othM m))∧Below w.heap.size w w':=by
 obtain⟨W,hW,r0,bW,zW⟩:=z_jI w m;have m0:=r0.num (j:=0) (k:=.i64) rfl;have m7:=r0.num (j:=7) (k:=.i64) rfl;have H:=hd1 bW;obtain⟨K,hK⟩:∃K,m.nm 0=K:=⟨_,rfl⟩;obtain⟨R,hR⟩:∃R,m.nm 7=R:=⟨_,rfl⟩;have E:Hid (othM m=(decide (K=3) && (decide (R=3) || (decide (R=1) || decide (R=2))))):=show othM m=_ by rw[othM,hK,hR]
 rw[hK] at m0;rw[hR] at m7;clear r0 bW zW hK hR;by_cases h3:K=3
 ·subst h3;by_cases r3:R=3
  ·subst r3;go_enter func283,ntmps283;go_wp2
   go_ret;exact⟨z_r (by rw[E.out];rfl),H.out⟩
  ·by_cases r1:R=1
   ·subst r1;go_enter func283,ntmps283;go_wp2
    go_ret;exact⟨z_r (by rw[E.out];rfl),H.out⟩
   ·by_cases r2:R=2
    ·subst r2;go_enter func283,ntmps283;go_wp2
     go_ret;exact⟨z_r (by rw[E.out];rfl),H.out⟩
    ·go_enter func283,ntmps283;go_wp2
     go_ret;exact⟨z_r (by rw[E.out];simp[r1,r2,r3]),H.out⟩
 ·go_enter func283,ntmps283;go_wp2
  go_ret;exact⟨z_r (by rw[E.out];simp[h3]),H.out⟩
theorem z_eq (p:Pt) (w:World) :
  Calls prog 282 #[.agg p.cs] w fun r w'=>r=.returned (.int .i64 (ofDes p))∧Below w.heap.size w w':=by
 obtain⟨W,hW,r0,bW,zW⟩:=y_T w p;have H:=hd1 bW;have lv:=r0.pmV;have lp:=r0.ppri;have lt:=r0.pmT;have lq:=r0.ppriT;have E:Hid (ofDes p=if ((mV p).eq (pri p) && (mT p).eq (priT p))=true then 2 else if sup (mV p) (pri p)=true then 1 else 3):=show ofDes p=_ from rfl;have P1:Hid (∀V:World,_):=fun V=>u_Q (mV p) (pri p) V;clear r0 bW zW;cases h1:(mV p).eq (pri p)
 ·cases h3:sup (mV p) (pri p)
  all_goals
   rw[h3] at P1;rw[h1,h3] at E;go_enter func282,ntmps282
   go_wp2_with fail
   refine (P1.out _).mono ?_;rintro _ V ⟨rfl,bV⟩;have H1:=hd1 (z_a H.out bV);clear bV;go_wp2
   go_ret;exact⟨z_y (by rw[E.out];rfl),H1.out⟩
 ·cases h2:(mT p).eq (priT p)
  ·cases h3:sup (mV p) (pri p)
   all_goals
    rw[h3] at P1;rw[h1,h2,h3] at E;go_enter func282,ntmps282
    go_wp2_with fail
    refine (P1.out _).mono ?_;rintro _ V ⟨rfl,bV⟩;have H1:=hd1 (z_a H.out bV);clear bV;go_wp2
    go_ret;exact⟨z_y (by rw[E.out];rfl),H1.out⟩
  ·rw[h1,h2] at E;go_enter func282,ntmps282;go_wp2
   go_ret;exact⟨z_y (by rw[E.out];rfl),H.out⟩
theorem z_aN (p:Pt) (w:World) :
  Calls prog 259 #[.agg p.cs] w fun r w'=>r=.returned (.int .i64 (infP p))∧Below w.heap.size w w':=by
 obtain⟨W,hW,r0,bW,zW⟩:=y_T w p;have H:=hd2 bW r0;have lm:=r0.pmsg;have E:Hid (infP p=if desM (msg p)=true then ofDes p else if othM (msg p)=true then (if bet (mV p) (pri p)=true then 0 else 4) else 0):=show infP p=_ from rfl;have P1:Hid (∀V:World,_):=fun V=>z_fd (msg p) V;have P2:Hid (∀V:World,_):=fun V=>z_jE (msg p) V;have P3:Hid (∀V:World,_):=fun V=>y_f (mV p) (pri p) V
 have P4:Hid (∀V:World,_):=fun V=>z_eq p V;clear r0 bW zW;cases h1:desM (msg p)
 ·rw[h1] at P1 E;go_enter func259,ntmps259
  go_wp2_with fail
  refine (P1.out _).mono ?_;rintro _ V ⟨rfl,bV⟩;have hV:=H.out.2.below bV;have H1:=hd2 (z_a H.out.1 bV) hV;have lm1:=hV.pmsg;clear bV hV lm hW;cases h2:othM (msg p)
  ·rw[h2] at P2 E
   go_wp2_with fail
   refine (P2.out _).mono ?_;rintro _ U ⟨rfl,bU⟩;have H2:=hd1 (z_a H1.out.1 bU);clear bU;go_wp2
   go_ret;exact⟨z_y (by rw[E.out];rfl),H2.out⟩
  ·rw[h2] at P2 E
   go_wp2_with fail
   refine (P2.out _).mono ?_;rintro _ U ⟨rfl,bU⟩;have hU:=H1.out.2.below bU;have H2:=hd1 (z_a H1.out.1 bU);have lv:=hU.pmV;have lp:=hU.ppri;clear bU hU lm1;cases h3:bet (mV p) (pri p)
   all_goals
    rw[h3] at P3 E
    go_wp2_with fail
    refine (P3.out _).mono ?_;rintro _ Z ⟨rfl,bZ⟩;have H3:=hd1 (z_a H2.out bZ);clear bZ;go_wp2
    go_ret;exact⟨z_y (by rw[E.out];rfl),H3.out⟩
 ·rw[h1] at P1 E;go_enter func259,ntmps259
  go_wp2_with fail
  refine (P1.out _).mono ?_;rintro _ V ⟨rfl,bV⟩;have hV:=H.out.2.below bV;have H1:=hd1 (z_a H.out.1 bV);have lp1:=hV.pld;clear bV hV lm hW
  go_wp2_with fail
  refine (P4.out _).mono ?_;rintro _ U ⟨rfl,bU⟩;have H2:=hd1 (z_a H1.out bU);clear bU;go_wp2
  go_ret;exact⟨z_y (by rw[E.out];rfl),H2.out⟩
theorem z_fs (p:Pt) (is:Int) (w:World) :
  Calls prog 258 #[.agg p.cs,.int .i64 is] w fun r w'=>r=.returned (.bool (bosP p is))∧Below w.heap.size w w':=by
 obtain⟨W,hW,r0,bW,zW⟩:=y_T w p;have H:=hd1 bW;have c29:=r0.num (j:=29) (k:=.i64) rfl;have lv:=r0.pmV;have lp:=r0.ppri;have ld:=r0.pdsg;have P1:Hid (∀V:World,_):=fun V=>y_f (pri p) (mV p) V;have P2:Hid (∀V:World,_):=fun V=>y_f (pri p) (dsg p) V;obtain⟨K,hK⟩:∃K,p.nm 29=K:=⟨_,rfl⟩
 have E:Hid (bosP p is=if K=is then (if is=3 then !bet (pri p) (mV p) else if is=2 then !bet (pri p) (dsg p) else false) else false):=show bosP p is=_ by rw[bosP,hK]
 rw[hK] at c29;clear r0 bW zW hK;by_cases h0:K=is
 ·subst h0;by_cases h3:K=3
  ·subst h3;go_enter func258,ntmps258
   go_wp2_with fail
   refine (P1.out _).mono ?_;rintro _ V ⟨rfl,bV⟩;have H1:=hd1 (z_a H.out bV);clear bV;go_wp2
   go_ret;exact⟨z_r (by rw[E.out];rfl),H1.out⟩
  ·by_cases h2:K=2
   ·subst h2;go_enter func258,ntmps258
    go_wp2_with fail
    refine (P2.out _).mono ?_;rintro _ V ⟨rfl,bV⟩;have H1:=hd1 (z_a H.out bV);clear bV;go_wp2
    go_ret;exact⟨z_r (by rw[E.out];rfl),H1.out⟩
   ·go_enter func258,ntmps258;go_wp2
    go_ret;exact⟨z_r (by rw[E.out];simp[h2,h3]),H.out⟩
 ·go_enter func258,ntmps258;go_wp2
  go_ret;exact⟨z_r (by rw[E.out];simp[h0]),H.out⟩
end S11
end
section
namespace S11
open Go.RowKit
attribute [local go_sem ↓] ldV stV
theorem v_Q (p:Int) (w:World) (hp:0≤p∧p≤65535) :
  Calls prog 257 #[.int .u16 p] w fun e w'=>e=.returned (.int .u16 (p%4096))∧Below w.heap.size w w':=by
 go_enter func257,ntmps257;go_wp2
 go_ret;exact⟨rfl,by go_grown⟩
theorem z_bZ (a b:V4) (w:World) (ha:a.wf) (hb:b.wf) :
  Calls prog 229 #[.agg a.cs,.agg b.cs] w fun e w'=>e=.returned (.bool (supV a b))∧Below w.heap.size w w':=by
 obtain⟨W,hW,va,vb,bW⟩:=w_Y w a b;have H:=hd1 bW;have la:=fun q:Later W=>(va.below q.below).ld;have lb:=fun q:Later W=>(vb.below q.below).ld;have a2:=fun q:Later W=>(va.below q.below).c2;have b2:=fun q:Later W=>(vb.below q.below).c2;have a3:=fun q:Later W=>(va.below q.below).c3;have b3:=fun q:Later W=>(vb.below q.below).c3;have P1:Hid (∀q:Later W,_):=fun q:Later W=>w_o a b q.val
 have P2:Hid (∀q:Later W,_):=fun q:Later W=>w_a a.b b.b q.val ha.b hb.b;have P4:Hid (∀q:Later W,_):=fun q:Later W=>v_Q a.p q.val ha.p;have P5:Hid (∀q:Later W,_):=fun q:Later W=>v_Q b.p q.val hb.p;clear va vb bW ha hb;cases h1:betV a b<;>cases h2:sameA a.b b.b
 all_goals
  rw[h1] at P1;rw[h2] at P2;go_enter func229,ntmps229
  go_wp2_with fail
  refine wp_region_later (by kernel_rfl) (by kernel_rfl) ?_
  repeat (go_big_quiet_step (first
   | exact rfl
   | (go_at_call 148;with_reducible exact Calls.later_of (P1.out _))
   | (go_at_call 149;with_reducible exact Calls.later_of (P2.out _))
   | (go_at_call 257;with_reducible exact Calls.later_of (P4.out _))
   | (go_at_call 257;with_reducible exact Calls.later_of (P5.out _))))
  refine wpQuiet_nil ?_;intro _ hw';obtain⟨x,rfl⟩:=hw';go_wp2
  go_ret;refine⟨z_r ?_,y_Z H.out x⟩;simp[supV,sameN,h1,h2]
  try rfl
end S11
end
section
namespace S11
open Go.RowKit
theorem x_E (a b:Vc) (w:World):Calls prog 148 #[.agg a.cs,.agg b.cs] w fun e w'=>e=.returned (.bool (bet a b))∧Below w.heap.size w w':=by
 rw[←x_X a,← x_X b];exact w_o _ _ w
theorem u_f (a b:Vc) (w:World):Calls prog 229 #[.agg a.cs,.agg b.cs] w fun e w'=>e=.returned (.bool (sup a b))∧Below w.heap.size w w':=by
 rw[←x_X a,← x_X b];exact z_bZ _ _ w (u_P a) (u_P b)
theorem z_lS (p:Pt):vOf (msg p)=mV p:=by
 refine Row.ext' ?_
 show (((p.cl.drop 48).take 16).drop 8).take 4=(p.cl.drop 56).take 4
 rw[List.drop_take,List.take_take,List.drop_drop];rfl
theorem z_lT (p:Pt):tOf (msg p)=mT p:=by
 refine Row.ext' ?_
 show (((p.cl.drop 48).take 16).drop 12).take 4=(p.cl.drop 60).take 4
 rw[List.drop_take,List.take_take,List.drop_drop];rfl
attribute [local go_sem ↓] ldP stP ldM stM ldTm stTm ldV stV stB stU eqgTm eqlTm eqgV eqlV
attribute [local go_sem ↓] alP alM
attribute [local go_sem] z_l z_D
theorem z_cj (m:Mg) (w:World) :
  Calls prog 228 #[.agg m.cs] w fun r w'=>r=.returned (.bool (desM m))∧Below w.heap.size w w':=by
 obtain⟨W,hW,r0,bW,zW⟩:=z_jI w m;have m0:=r0.num (j:=0) (k:=.i64) rfl;have m7:=r0.num (j:=7) (k:=.i64) rfl;have H:=hd1 bW;obtain⟨K,hK⟩:∃K,m.nm 0=K:=⟨_,rfl⟩;obtain⟨R,hR⟩:∃R,m.nm 7=R:=⟨_,rfl⟩;have E:Hid (desM m=(decide (K=1) || (decide (K=3) && decide (R=4)))):=show desM m=_ by rw[desM,hK,hR]
 rw[hK] at m0;rw[hR] at m7;clear r0 bW zW hK hR;by_cases h1:K=1
 ·subst h1;go_enter func228,ntmps228;go_wp2
  go_ret;exact⟨z_r (by rw[E.out];rfl),H.out⟩
 ·by_cases h3:K=3
  ·subst h3;go_enter func228,ntmps228;go_wp2
   go_ret;exact⟨z_r (by rw[E.out];by_cases h:R=4<;>simp[h]),H.out⟩
  ·go_enter func228,ntmps228;go_wp2
   go_ret;exact⟨z_r (by rw[E.out];simp[h1,h3]),H.out⟩
theorem z_bq (p:Pt) (is:Int) (w:World) :
  Calls prog 189 #[.agg p.cs,.int .i64 is] w fun r w'=>r=.returned (.bool (bosP p is))∧Below w.heap.size w w':=by
 obtain⟨W,hW,r0,bW,zW⟩:=y_T w p;have H:=hd1 bW;have c29:=r0.num (j:=29) (k:=.i64) rfl;have lv:=r0.pmV;have lp:=r0.ppri;have ld:=r0.pdsg;have P1:Hid (∀V:World,_):=fun V=>x_E (pri p) (mV p) V;have P2:Hid (∀V:World,_):=fun V=>x_E (pri p) (dsg p) V;obtain⟨K,hK⟩:∃K,p.nm 29=K:=⟨_,rfl⟩
 have E:Hid (bosP p is=if K=is then (if is=3 then !bet (pri p) (mV p) else if is=2 then !bet (pri p) (dsg p) else false) else false):=show bosP p is=_ by rw[bosP,hK]
 rw[hK] at c29;clear r0 bW zW hK;by_cases h3:is=3
 ·subst h3;by_cases h0:K=3
  ·subst h0;go_enter func189,ntmps189
   go_wp2_with fail
   refine (P1.out _).mono ?_;rintro _ V ⟨rfl,bV⟩;have H1:=hd1 (z_a H.out bV);clear bV;go_wp2
   go_ret;exact⟨z_r (by rw[E.out];rfl),H1.out⟩
  ·go_enter func189,ntmps189;go_wp2
   go_ret;exact⟨z_r (by rw[E.out];simp[h0]),H.out⟩
 ·by_cases h2:is=2
  ·subst h2;by_cases h0:K=2
   ·subst h0;go_enter func189,ntmps189
    go_wp2_with fail
    refine (P2.out _).mono ?_;rintro _ V ⟨rfl,bV⟩;have H1:=hd1 (z_a H.out bV);clear bV;go_wp2
    go_ret;exact⟨z_r (by rw[E.out];rfl),H1.out⟩
   ·go_enter func189,ntmps189;go_wp2
    go_ret;exact⟨z_r (by rw[E.out];simp[h0]),H.out⟩
  ·go_enter func189,ntmps189;go_wp2
   go_ret;exact⟨z_r (by rw[E.out];simp[h2,h3]),H.out⟩
theorem x_I (W:World) (m:Mg):∃W',(stS 46 (.pointer (some ⟨W.heap.size,0,none⟩)) (.agg m.cs)).run prog (W.alloc (.cells zeroM.cs 46))=.ok () W'∧RvAt W' W.heap.size 46 m.cs∧Below W.heap.size W W'∧W'.heap.size=W.heap.size+1:=
 z_E rtM W zeroM.cs m.cs (by rw[Row.csize,lenM]) (by rw[Row.csize,lenM]) m.one'
theorem z_ga (p:Pt) (w:World) :
  Calls prog 190 #[.agg p.cs] w fun r w'=>r=.returned (.int .i64 (infP p))∧Below w.heap.size w w':=by
 obtain⟨W,hW,hp,bW,zW⟩:=y_T w p;have l0:=hp.pmsg;obtain⟨X,s0,rX,bX,zX⟩:=x_I W (msg p);have E:Hid (infP p=if desM (msg p)=true then (if ((mV p).eq (pri p) && (mT p).eq (priT p))=true then 2 else if sup (mV p) (pri p)=true then 1 else 3) else if othM (msg p)=true then (if bet (mV p) (pri p)=true then 0 else 4) else 0):=show infP p=_ from rfl;have P1:Hid (∀V:World,_):=fun V=>z_cj (msg p) V
 have P3:Hid (∀V:World,_):=fun V=>x_E (mV p) (pri p) V;have P4:Hid (∀V:World,_):=fun V=>u_f (mV p) (pri p) V;have lm:=rX.mld;have H:Hid (RvAt X w.heap.size 74 p.cs∧RvAt X W.heap.size 46 (msg p).cs∧Below w.heap.size w X):=⟨hp.below bX,rX,z_a bW bX⟩;clear hp bW rX bX zX zW;obtain⟨d,hd⟩:∃d,W.heap.size=d:=⟨_,rfl⟩;rw[hd] at H lm s0;go_enter func190,ntmps190
 go_wp2_with fail
 refine (P1.out _).mono ?_;rintro _ V ⟨rfl,bV⟩;have hV:=H.out.1.below bV;have mW:=H.out.2.1.below bV;have B1:Hid (Below w.heap.size w V):=z_a H.out.2.2 bV;have lp:=hV.ppri;have lq:=hV.ppriT;have lv:=mW.mvof;have lt:=mW.mtof;rw[z_lS] at lv;rw[z_lT] at lt;have m0:=mW.num (j:=0) (k:=.i64) rfl;have m7:=mW.num (j:=7) (k:=.i64) rfl;clear bV hV mW hW l0 s0 lm hd H;cases h1:desM (msg p)
 ·rw[h1] at E;obtain⟨K,hK⟩:∃K,(msg p).nm 0=K:=⟨_,rfl⟩;obtain⟨R,hR⟩:∃R,(msg p).nm 7=R:=⟨_,rfl⟩;have O:Hid (othM (msg p)=(decide (K=3) && (decide (R=3) || (decide (R=1) || decide (R=2))))):=show othM (msg p)=_ by rw[othM,hK,hR]
  rw[hK] at m0;rw[hR] at m7;clear hK hR h1;by_cases h3:K=3
  ·subst h3;have e3:Hid (othM (msg p)=true→∀b:Bool,bet (mV p) (pri p)=b→infP p=if b=true then 0 else 4):=by
    intro ho b hb;rw[E.out,ho,hb];rfl
   have n3:Hid (othM (msg p)=false→infP p=0):=by
    intro ho;rw[E.out,ho];rfl
   clear E;by_cases r3:R=3
   ·subst r3;have ho:=e3.out O.out;cases hb:bet (mV p) (pri p)
    all_goals
     have F:Hid (infP p=_):=ho _ hb;rw[hb] at P3;clear ho e3 n3 hb
     go_wp2_with fail
     refine (P3.out _).mono ?_;rintro _ U ⟨rfl,bU⟩;have B2:Hid (Below w.heap.size w U):=z_a B1.out bU;clear bU;go_wp2
     go_ret;exact⟨z_y (by rw[F.out];rfl),B2.out⟩
   ·by_cases r1:R=1
    ·subst r1;have ho:=e3.out O.out;cases hb:bet (mV p) (pri p)
     all_goals
      have F:Hid (infP p=_):=ho _ hb;rw[hb] at P3;clear ho e3 n3 hb
      go_wp2_with fail
      refine (P3.out _).mono ?_;rintro _ U ⟨rfl,bU⟩;have B2:Hid (Below w.heap.size w U):=z_a B1.out bU;clear bU;go_wp2
      go_ret;exact⟨z_y (by rw[F.out];rfl),B2.out⟩
    ·by_cases r2:R=2
     ·subst r2;have ho:=e3.out O.out;cases hb:bet (mV p) (pri p)
      all_goals
       have F:Hid (infP p=_):=ho _ hb;rw[hb] at P3;clear ho e3 n3 hb
       go_wp2_with fail
       refine (P3.out _).mono ?_;rintro _ U ⟨rfl,bU⟩;have B2:Hid (Below w.heap.size w U):=z_a B1.out bU;clear bU;go_wp2
       go_ret;exact⟨z_y (by rw[F.out];rfl),B2.out⟩
     ·have F:Hid (infP p=0):=n3.out (by rw[O.out];simp[r1,r2,r3]);have q3:(R==3)=false:=by simp[r3]
      have q1:(R==1)=false:=by simp[r1]
      have q2:(R==2)=false:=by simp[r2]
      clear e3 n3;go_wp2
      go_ret;exact⟨z_y (by rw[F.out]),B1.out⟩
  ·have F:Hid (infP p=0):=by
    show infP p=0
    rw[E.out,O.out];simp[h3]
   have q3:(K==3)=false:=by simp[h3]
   by_cases r3:R=3
   ·subst r3;clear E O;go_wp2
    go_ret;exact⟨z_y (by rw[F.out]),B1.out⟩
   ·by_cases r1:R=1
    ·subst r1;clear E O;go_wp2
     go_ret;exact⟨z_y (by rw[F.out]),B1.out⟩
    ·clear E O;go_wp2
     go_ret;exact⟨z_y (by rw[F.out]),B1.out⟩
 ·rw[h1] at E;clear h1 m0 m7;cases h2:(mV p).eq (pri p)
  ·cases h3:sup (mV p) (pri p)
   all_goals
    rw[h3] at P4;rw[h2,h3] at E
    go_wp2_with fail
    refine (P4.out _).mono ?_;rintro _ U ⟨rfl,bU⟩;have B2:Hid (Below w.heap.size w U):=z_a B1.out bU;clear bU;go_wp2
    go_ret;exact⟨z_y (by rw[E.out];rfl),B2.out⟩
  ·cases h4:(mT p).eq (priT p)
   ·cases h3:sup (mV p) (pri p)
    all_goals
     rw[h3] at P4;rw[h2,h3,h4] at E
     go_wp2_with fail
     refine (P4.out _).mono ?_;rintro _ U ⟨rfl,bU⟩;have B2:Hid (Below w.heap.size w U):=z_a B1.out bU;clear bU;go_wp2
     go_ret;exact⟨z_y (by rw[E.out];rfl),B2.out⟩
   ·rw[h2,h4] at E;go_wp2
    go_ret;exact⟨z_y (by rw[E.out];rfl),B1.out⟩
end S11
end
end Go.Proofs.YtlchejbggnbccaaGreat
