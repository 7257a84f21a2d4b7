/-
  The definition of Flags: its walk, for every port. And what follows from it here.
-/
import Derived.Test.YtlchejbggnbccaaGreatPbb
import Derived.Test.YtlchejbggnbccaaGreatP11a
namespace Go.Proofs.YtlchejbggnbccaaGreat
set_option linter.unusedVariables false
set_option linter.unusedSimpArgs false
set_option maxRecDepth 4000
set_option maxHeartbeats 40000000
open _root_.Go.Proofs.Tryz
section
namespace S11
open Go.RowKit
theorem z_ca {ks:List (Option IntKind)} (r:Row ks) {j:Nat} (h:ks[j]?=some none) {b:Bool} (e:r.bt j=b):r.setB j h b=r:=by
 rw[←e,x_c]
theorem z_bM (p:Pt) (h:p.nm 48=1):flagP p=(p.setB 18 kb18 (p.bt 18 || p.bt 50)).setB 17 kb17 (p.bt 17 || p.bt 49):=by
 rw[flagP,if_neg (by omega),if_pos h,tcP,ackP,z_N p kb18 _ (i:=17) (by decide),z_N p kb18 _ (i:=49) (by decide)]
theorem z_in (p:Pt) (h:p.nm 48=3):flagP p=p.setB 17 kb17 (p.bt 17 || p.bt 49):=by
 rw[flagP,if_neg (by omega),if_neg (by omega),if_pos h,tcP]
theorem z_bL (p:Pt) (h:p.nm 48=2):flagP p=p.setB 19 kb19 true:=by
 rw[flagP,if_pos h]
theorem z_bN (p:Pt) (h1:¬ p.nm 48=1) (h2:¬ p.nm 48=2) (h3:¬ p.nm 48=3):flagP p=p:=by
 rw[flagP,if_neg h2,if_neg h1,if_neg h3]
theorem z_hc (p:Pt) (h:p.nm 48=1) (t:p.bt 49=true) (a:p.bt 50=true):flagP p=(p.setB 17 kb17 true).setB 18 kb18 true:=by
 rw[z_bM p h,t,a,Bool.or_true,Bool.or_true,z_dg p kb18 kb17 true true (by decide)]
theorem z_hd (p:Pt) (h:p.nm 48=1) (t:p.bt 49=true) (a:p.bt 50=false):flagP p=p.setB 17 kb17 true:=by
 rw[z_bM p h,t,a,Bool.or_true,Bool.or_false,x_c]
theorem z_he (p:Pt) (h:p.nm 48=1) (t:p.bt 49=false) (a:p.bt 50=true):flagP p=p.setB 18 kb18 true:=by
 rw[z_bM p h,t,a,Bool.or_true,Bool.or_false];exact z_ca _ kb17 (z_N p kb18 true (by decide))
theorem z_hf (p:Pt) (h:p.nm 48=1) (t:p.bt 49=false) (a:p.bt 50=false):flagP p=p:=by
 rw[z_bM p h,t,a,Bool.or_false,Bool.or_false,x_c,x_c]
theorem z_eK (p:Pt) (h:p.nm 48=3) (t:p.bt 49=true):flagP p=p.setB 17 kb17 true:=by
 rw[z_in p h,t,Bool.or_true]
theorem z_eL (p:Pt) (h:p.nm 48=3) (t:p.bt 49=false):flagP p=p:=by
 rw[z_in p h,t,Bool.or_false,x_c]
attribute [local go_sem ↓] ldP stP ldM stM ldTm stTm ldV stV stB stU
attribute [local go_sem ↓] alP alM
attribute [local go_sem] z_l z_D
theorem x_O (p:Pt) (w:World) :
  Calls prog 194 #[.agg p.cs] w fun r w'=>r=.returned (.agg (flagP p).cs)∧Below w.heap.size w w':=by
 obtain⟨W,hW,hp0,r1,bW,zW⟩:=x_y w p;have l0:=hp0.pmsg;obtain⟨X,s0,rX,bX,zX⟩:=x_I W (msg p);have hp:=hp0.below bX;have H:Hid (RvAt X (w.heap.size+1) 74 zeroP.cs∧Below w.heap.size w X):=⟨r1.below bX,z_a bW bX⟩;obtain⟨d,hd⟩:∃d,W.heap.size=d:=⟨_,rfl⟩;have hnd:Hid (d≠w.heap.size):=show d≠_ by omega
 rw[hd] at rX s0;clear hp0 r1 bW zW bX zX;have m0:=rX.num (j:=0) (k:=.i64) rfl;have m1:=rX.bit (j:=1) rfl;have m2:=rX.bit (j:=2) rfl;rw[v_r p (by decide)] at m0;rw[v_s p (by decide)] at m1 m2;simp only[Nat.reduceAdd,Nat.add_zero] at m0 m1 m2;cases t:p.bt 49<;>cases a:p.bt 50
 ·by_cases h1:p.nm 48=1
  ·rw[t] at m1;rw[a] at m2;rw[h1] at m0;obtain⟨lX,U,sU,hU,bU⟩:=z_I H.out.1 H.out.2 hp (World.grownBy.refl _ _) (Nat.le_refl _) (by omega) (by omega);have G:Hid (RvAt U (w.heap.size+1) 74 (flagP p).cs∧Below w.heap.size w U):=by
    show RvAt U _ _ (flagP p).cs∧_
    rw[z_hf p h1 t a];exact⟨hU,bU⟩
   clear hp rX hU bU h1 t a;go_enter func194,ntmps194
   go_wp2_with (with_reducible exact z_g results194 (by with_unfolding_all rfl) (by with_unfolding_all rfl) G.out.1 ⟨rfl,G.out.2⟩)
  ·by_cases h3:p.nm 48=3
   ·rw[t] at m1;rw[a] at m2;rw[h3] at m0;obtain⟨lX,U,sU,hU,bU⟩:=z_I H.out.1 H.out.2 hp (World.grownBy.refl _ _) (Nat.le_refl _) (by omega) (by omega);have G:Hid (RvAt U (w.heap.size+1) 74 (flagP p).cs∧Below w.heap.size w U):=by
     show RvAt U _ _ (flagP p).cs∧_
     rw[z_eL p h3 t];exact⟨hU,bU⟩
    clear hp rX hU bU h1 h3 t a;go_enter func194,ntmps194
    go_wp2_with (with_reducible exact z_g results194 (by with_unfolding_all rfl) (by with_unfolding_all rfl) G.out.1 ⟨rfl,G.out.2⟩)
   ·by_cases h2:p.nm 48=2
    ·obtain⟨V,s1,hV,gV⟩:=hp.setB kb19 true;rw[t] at m1;rw[a] at m2;rw[h2] at m0;obtain⟨lX,U,sU,hU,bU⟩:=z_I H.out.1 H.out.2 hV gV (Nat.le_refl _) (by omega) (by omega);have G:Hid (RvAt U (w.heap.size+1) 74 (flagP p).cs∧Below w.heap.size w U):=by
      show RvAt U _ _ (flagP p).cs∧_
      rw[z_bL p h2];exact⟨hU,bU⟩
     clear hp rX hU bU hV gV h1 h2 h3 t a;go_enter func194,ntmps194
     go_wp2_with (with_reducible exact z_g results194 (by with_unfolding_all rfl) (by with_unfolding_all rfl) G.out.1 ⟨rfl,G.out.2⟩)
    ·obtain⟨K,hK⟩:∃K,p.nm 48=K:=⟨_,rfl⟩;have E:Hid (flagP p=p):=z_bN p h1 h2 h3;rw[hK] at m0 h1 h2 h3;rw[t] at m1;rw[a] at m2;have e1:(K==1)=false:=by simp[h1]
     have e2:(K==2)=false:=by simp[h2]
     have e3:(K==3)=false:=by simp[h3]
     obtain⟨lX,U,sU,hU,bU⟩:=z_I H.out.1 H.out.2 hp (World.grownBy.refl _ _) (Nat.le_refl _) (by omega) (by omega);have G:Hid (RvAt U (w.heap.size+1) 74 (flagP p).cs∧Below w.heap.size w U):=by
      show RvAt U _ _ (flagP p).cs∧_
      rw[E.out];exact⟨hU,bU⟩
     clear hp rX hU bU hK t a;go_enter func194,ntmps194
     go_wp2_with (with_reducible exact z_g results194 (by with_unfolding_all rfl) (by with_unfolding_all rfl) G.out.1 ⟨rfl,G.out.2⟩)
 ·by_cases h1:p.nm 48=1
  ·obtain⟨V,s1,hV,gV⟩:=hp.setB kb18 true;have n0:=(rX.keptBut gV (by simpa using hnd.out)).num (j:=0) (k:=.i64) rfl;have n1:=(rX.keptBut gV (by simpa using hnd.out)).bit (j:=1) rfl;have n2:=(rX.keptBut gV (by simpa using hnd.out)).bit (j:=2) rfl;rw[v_r p (by decide)] at n0;rw[v_s p (by decide)] at n1 n2;simp only[Nat.reduceAdd,Nat.add_zero] at n0 n1 n2;rw[t] at m1 n1;rw[a] at m2 n2;rw[h1] at m0 n0
   obtain⟨lX,U,sU,hU,bU⟩:=z_I H.out.1 H.out.2 hV gV (Nat.le_refl _) (by omega) (by omega);have G:Hid (RvAt U (w.heap.size+1) 74 (flagP p).cs∧Below w.heap.size w U):=by
    show RvAt U _ _ (flagP p).cs∧_
    rw[z_he p h1 t a];exact⟨hU,bU⟩
   clear hp rX hU bU hV gV h1 t a;go_enter func194,ntmps194
   go_wp2_with (with_reducible exact z_g results194 (by with_unfolding_all rfl) (by with_unfolding_all rfl) G.out.1 ⟨rfl,G.out.2⟩)
  ·by_cases h3:p.nm 48=3
   ·rw[t] at m1;rw[a] at m2;rw[h3] at m0;obtain⟨lX,U,sU,hU,bU⟩:=z_I H.out.1 H.out.2 hp (World.grownBy.refl _ _) (Nat.le_refl _) (by omega) (by omega);have G:Hid (RvAt U (w.heap.size+1) 74 (flagP p).cs∧Below w.heap.size w U):=by
     show RvAt U _ _ (flagP p).cs∧_
     rw[z_eL p h3 t];exact⟨hU,bU⟩
    clear hp rX hU bU h1 h3 t a;go_enter func194,ntmps194
    go_wp2_with (with_reducible exact z_g results194 (by with_unfolding_all rfl) (by with_unfolding_all rfl) G.out.1 ⟨rfl,G.out.2⟩)
   ·by_cases h2:p.nm 48=2
    ·obtain⟨V,s1,hV,gV⟩:=hp.setB kb19 true;rw[t] at m1;rw[a] at m2;rw[h2] at m0;obtain⟨lX,U,sU,hU,bU⟩:=z_I H.out.1 H.out.2 hV gV (Nat.le_refl _) (by omega) (by omega);have G:Hid (RvAt U (w.heap.size+1) 74 (flagP p).cs∧Below w.heap.size w U):=by
      show RvAt U _ _ (flagP p).cs∧_
      rw[z_bL p h2];exact⟨hU,bU⟩
     clear hp rX hU bU hV gV h1 h2 h3 t a;go_enter func194,ntmps194
     go_wp2_with (with_reducible exact z_g results194 (by with_unfolding_all rfl) (by with_unfolding_all rfl) G.out.1 ⟨rfl,G.out.2⟩)
    ·obtain⟨K,hK⟩:∃K,p.nm 48=K:=⟨_,rfl⟩;have E:Hid (flagP p=p):=z_bN p h1 h2 h3;rw[hK] at m0 h1 h2 h3;rw[t] at m1;rw[a] at m2;have e1:(K==1)=false:=by simp[h1]
     have e2:(K==2)=false:=by simp[h2]
     have e3:(K==3)=false:=by simp[h3]
     obtain⟨lX,U,sU,hU,bU⟩:=z_I H.out.1 H.out.2 hp (World.grownBy.refl _ _) (Nat.le_refl _) (by omega) (by omega);have G:Hid (RvAt U (w.heap.size+1) 74 (flagP p).cs∧Below w.heap.size w U):=by
      show RvAt U _ _ (flagP p).cs∧_
      rw[E.out];exact⟨hU,bU⟩
     clear hp rX hU bU hK t a;go_enter func194,ntmps194
     go_wp2_with (with_reducible exact z_g results194 (by with_unfolding_all rfl) (by with_unfolding_all rfl) G.out.1 ⟨rfl,G.out.2⟩)
 ·by_cases h1:p.nm 48=1
  ·obtain⟨V,s1,hV,gV⟩:=hp.setB kb17 true;have n0:=(rX.keptBut gV (by simpa using hnd.out)).num (j:=0) (k:=.i64) rfl;have n1:=(rX.keptBut gV (by simpa using hnd.out)).bit (j:=1) rfl;have n2:=(rX.keptBut gV (by simpa using hnd.out)).bit (j:=2) rfl;rw[v_r p (by decide)] at n0;rw[v_s p (by decide)] at n1 n2;simp only[Nat.reduceAdd,Nat.add_zero] at n0 n1 n2;rw[t] at m1 n1;rw[a] at m2 n2;rw[h1] at m0 n0
   obtain⟨lX,U,sU,hU,bU⟩:=z_I H.out.1 H.out.2 hV gV (Nat.le_refl _) (by omega) (by omega);have G:Hid (RvAt U (w.heap.size+1) 74 (flagP p).cs∧Below w.heap.size w U):=by
    show RvAt U _ _ (flagP p).cs∧_
    rw[z_hd p h1 t a];exact⟨hU,bU⟩
   clear hp rX hU bU hV gV h1 t a;go_enter func194,ntmps194
   go_wp2_with (with_reducible exact z_g results194 (by with_unfolding_all rfl) (by with_unfolding_all rfl) G.out.1 ⟨rfl,G.out.2⟩)
  ·by_cases h3:p.nm 48=3
   ·obtain⟨V,s1,hV,gV⟩:=hp.setB kb17 true;have n0:=(rX.keptBut gV (by simpa using hnd.out)).num (j:=0) (k:=.i64) rfl;have n1:=(rX.keptBut gV (by simpa using hnd.out)).bit (j:=1) rfl;have n2:=(rX.keptBut gV (by simpa using hnd.out)).bit (j:=2) rfl;rw[v_r p (by decide)] at n0;rw[v_s p (by decide)] at n1 n2;simp only[Nat.reduceAdd,Nat.add_zero] at n0 n1 n2;rw[t] at m1 n1;rw[a] at m2 n2
    rw[h3] at m0 n0;obtain⟨lX,U,sU,hU,bU⟩:=z_I H.out.1 H.out.2 hV gV (Nat.le_refl _) (by omega) (by omega);have G:Hid (RvAt U (w.heap.size+1) 74 (flagP p).cs∧Below w.heap.size w U):=by
     show RvAt U _ _ (flagP p).cs∧_
     rw[z_eK p h3 t];exact⟨hU,bU⟩
    clear hp rX hU bU hV gV h1 h3 t a;go_enter func194,ntmps194
    go_wp2_with (with_reducible exact z_g results194 (by with_unfolding_all rfl) (by with_unfolding_all rfl) G.out.1 ⟨rfl,G.out.2⟩)
   ·by_cases h2:p.nm 48=2
    ·obtain⟨V,s1,hV,gV⟩:=hp.setB kb19 true;rw[t] at m1;rw[a] at m2;rw[h2] at m0;obtain⟨lX,U,sU,hU,bU⟩:=z_I H.out.1 H.out.2 hV gV (Nat.le_refl _) (by omega) (by omega);have G:Hid (RvAt U (w.heap.size+1) 74 (flagP p).cs∧Below w.heap.size w U):=by
      show RvAt U _ _ (flagP p).cs∧_
      rw[z_bL p h2];exact⟨hU,bU⟩
     clear hp rX hU bU hV gV h1 h2 h3 t a;go_enter func194,ntmps194
     go_wp2_with (with_reducible exact z_g results194 (by with_unfolding_all rfl) (by with_unfolding_all rfl) G.out.1 ⟨rfl,G.out.2⟩)
    ·obtain⟨K,hK⟩:∃K,p.nm 48=K:=⟨_,rfl⟩;have E:Hid (flagP p=p):=z_bN p h1 h2 h3;rw[hK] at m0 h1 h2 h3;rw[t] at m1;rw[a] at m2;have e1:(K==1)=false:=by simp[h1]
     have e2:(K==2)=false:=by simp[h2]
     have e3:(K==3)=false:=by simp[h3]
     obtain⟨lX,U,sU,hU,bU⟩:=z_I H.out.1 H.out.2 hp (World.grownBy.refl _ _) (Nat.le_refl _) (by omega) (by omega);have G:Hid (RvAt U (w.heap.size+1) 74 (flagP p).cs∧Below w.heap.size w U):=by
      show RvAt U _ _ (flagP p).cs∧_
      rw[E.out];exact⟨hU,bU⟩
     clear hp rX hU bU hK t a;go_enter func194,ntmps194
     go_wp2_with (with_reducible exact z_g results194 (by with_unfolding_all rfl) (by with_unfolding_all rfl) G.out.1 ⟨rfl,G.out.2⟩)
 ·by_cases h1:p.nm 48=1
  ·obtain⟨V,s1,hV,gV⟩:=hp.setB kb17 true;have n0:=(rX.keptBut gV (by simpa using hnd.out)).num (j:=0) (k:=.i64) rfl;have n1:=(rX.keptBut gV (by simpa using hnd.out)).bit (j:=1) rfl;have n2:=(rX.keptBut gV (by simpa using hnd.out)).bit (j:=2) rfl;rw[v_r p (by decide)] at n0;rw[v_s p (by decide)] at n1 n2;simp only[Nat.reduceAdd,Nat.add_zero] at n0 n1 n2;rw[t] at m1 n1;rw[a] at m2 n2;rw[h1] at m0 n0
   obtain⟨Z,s2,hZ,gZ⟩:=hV.setB kb18 true;have k0:=((rX.keptBut gV (by simpa using hnd.out)).keptBut gZ (by simpa using hnd.out)).num (j:=0) (k:=.i64) rfl;have k1:=((rX.keptBut gV (by simpa using hnd.out)).keptBut gZ (by simpa using hnd.out)).bit (j:=1) rfl;have k2:=((rX.keptBut gV (by simpa using hnd.out)).keptBut gZ (by simpa using hnd.out)).bit (j:=2) rfl;rw[v_r p (by decide)] at k0
   rw[v_s p (by decide)] at k1 k2;simp only[Nat.reduceAdd,Nat.add_zero] at k0 k1 k2;rw[h1] at k0;obtain⟨lX,U,sU,hU,bU⟩:=z_I H.out.1 H.out.2 hZ (z_n gV gZ) (Nat.le_refl _) (by omega) (by omega);have G:Hid (RvAt U (w.heap.size+1) 74 (flagP p).cs∧Below w.heap.size w U):=by
    show RvAt U _ _ (flagP p).cs∧_
    rw[z_hc p h1 t a];exact⟨hU,bU⟩
   clear hp rX hU bU hV gV hZ gZ h1 t a k1 k2;go_enter func194,ntmps194
   go_wp2_with (with_reducible exact z_g results194 (by with_unfolding_all rfl) (by with_unfolding_all rfl) G.out.1 ⟨rfl,G.out.2⟩)
  ·by_cases h3:p.nm 48=3
   ·obtain⟨V,s1,hV,gV⟩:=hp.setB kb17 true;have n0:=(rX.keptBut gV (by simpa using hnd.out)).num (j:=0) (k:=.i64) rfl;have n1:=(rX.keptBut gV (by simpa using hnd.out)).bit (j:=1) rfl;have n2:=(rX.keptBut gV (by simpa using hnd.out)).bit (j:=2) rfl;rw[v_r p (by decide)] at n0;rw[v_s p (by decide)] at n1 n2;simp only[Nat.reduceAdd,Nat.add_zero] at n0 n1 n2;rw[t] at m1 n1;rw[a] at m2 n2
    rw[h3] at m0 n0;obtain⟨lX,U,sU,hU,bU⟩:=z_I H.out.1 H.out.2 hV gV (Nat.le_refl _) (by omega) (by omega);have G:Hid (RvAt U (w.heap.size+1) 74 (flagP p).cs∧Below w.heap.size w U):=by
     show RvAt U _ _ (flagP p).cs∧_
     rw[z_eK p h3 t];exact⟨hU,bU⟩
    clear hp rX hU bU hV gV h1 h3 t a;go_enter func194,ntmps194
    go_wp2_with (with_reducible exact z_g results194 (by with_unfolding_all rfl) (by with_unfolding_all rfl) G.out.1 ⟨rfl,G.out.2⟩)
   ·by_cases h2:p.nm 48=2
    ·obtain⟨V,s1,hV,gV⟩:=hp.setB kb19 true;rw[t] at m1;rw[a] at m2;rw[h2] at m0;obtain⟨lX,U,sU,hU,bU⟩:=z_I H.out.1 H.out.2 hV gV (Nat.le_refl _) (by omega) (by omega);have G:Hid (RvAt U (w.heap.size+1) 74 (flagP p).cs∧Below w.heap.size w U):=by
      show RvAt U _ _ (flagP p).cs∧_
      rw[z_bL p h2];exact⟨hU,bU⟩
     clear hp rX hU bU hV gV h1 h2 h3 t a;go_enter func194,ntmps194
     go_wp2_with (with_reducible exact z_g results194 (by with_unfolding_all rfl) (by with_unfolding_all rfl) G.out.1 ⟨rfl,G.out.2⟩)
    ·obtain⟨K,hK⟩:∃K,p.nm 48=K:=⟨_,rfl⟩;have E:Hid (flagP p=p):=z_bN p h1 h2 h3;rw[hK] at m0 h1 h2 h3;rw[t] at m1;rw[a] at m2;have e1:(K==1)=false:=by simp[h1]
     have e2:(K==2)=false:=by simp[h2]
     have e3:(K==3)=false:=by simp[h3]
     obtain⟨lX,U,sU,hU,bU⟩:=z_I H.out.1 H.out.2 hp (World.grownBy.refl _ _) (Nat.le_refl _) (by omega) (by omega);have G:Hid (RvAt U (w.heap.size+1) 74 (flagP p).cs∧Below w.heap.size w U):=by
      show RvAt U _ _ (flagP p).cs∧_
      rw[E.out];exact⟨hU,bU⟩
     clear hp rX hU bU hK t a;go_enter func194,ntmps194
     go_wp2_with (with_reducible exact z_g results194 (by with_unfolding_all rfl) (by with_unfolding_all rfl) G.out.1 ⟨rfl,G.out.2⟩)
end S11
end
section
namespace S11
open Go.RowKit
attribute [local go_sem ↓] ldP stP ldM stM ldTm stTm ldV stV stB stU
attribute [local go_sem ↓] alP alM
attribute [local go_sem] z_l z_D
theorem z_hh (x:Value) (V:World):(callFunc 303 #[x]).run prog V=.ok (.enter 303 #[x]) V:=by go_simp
theorem z_gL (p:Pt) (w:World) :
  Calls prog 285 #[.agg p.cs] w fun r w'=>r=.returned (.agg (propP p).cs)∧Below w.heap.size w w':=by
 obtain⟨W,hW,r0,r1,bW,zW⟩:=x_y w p;have H:=hd3 r1 bW zW;have l0:=r0.pld;clear r0 r1 bW zW;go_enter func285,ntmps285
 go_wp2_with fail
 refine (z_t _ _ z_hA z_hh p W).mono ?_;rintro _ V ⟨rfl,bV⟩;obtain⟨U,sU,hU,gU⟩:=(H.out.1.below bV).pst (q:=propP p);have G:Hid (RvAt U (w.heap.size+1) 74 (propP p).cs∧Below w.heap.size w U):=⟨hU,gro (z_a H.out.2.1 bV) gU (by omega) (by have:=H.out.2.2;have:=bV.size;omega)⟩;clear bV hU gU hW l0
 go_wp2_with (with_reducible exact z_g results285 rfl rfl G.out.1 ⟨rfl,G.out.2⟩)
theorem z_ke (x:Value) (V:World):(callFunc 305 #[x]).run prog V=.ok (.enter 305 #[x]) V:=by go_simp
theorem z_kB (p:Pt) (w:World) :
  Calls prog 287 #[.agg p.cs] w fun r w'=>r=.returned (.agg (agrP p).cs)∧Below w.heap.size w w':=by
 obtain⟨W,hW,r0,r1,bW,zW⟩:=x_y w p;have H:=hd3 r1 bW zW;have l0:=r0.pld;clear r0 r1 bW zW;go_enter func287,ntmps287
 go_wp2_with fail
 refine (z_t _ _ z_kr z_ke p W).mono ?_;rintro _ V ⟨rfl,bV⟩;obtain⟨U,sU,hU,gU⟩:=(H.out.1.below bV).pst (q:=agrP p);have G:Hid (RvAt U (w.heap.size+1) 74 (agrP p).cs∧Below w.heap.size w U):=⟨hU,gro (z_a H.out.2.1 bV) gU (by omega) (by have:=H.out.2.2;have:=bV.size;omega)⟩;clear bV hU gU hW l0
 go_wp2_with (with_reducible exact z_g results287 rfl rfl G.out.1 ⟨rfl,G.out.2⟩)
theorem z_hk (x:Value) (V:World):(callFunc 307 #[x]).run prog V=.ok (.enter 307 #[x]) V:=by go_simp
theorem z_hn (p:Pt) (w:World) :
  Calls prog 289 #[.agg p.cs] w fun r w'=>r=.returned (.agg (dispP p).cs)∧Below w.heap.size w w':=by
 obtain⟨W,hW,r0,r1,bW,zW⟩:=x_y w p;have H:=hd3 r1 bW zW;have l0:=r0.pld;clear r0 r1 bW zW;go_enter func289,ntmps289
 go_wp2_with fail
 refine (z_t _ _ z_hE z_hk p W).mono ?_;rintro _ V ⟨rfl,bV⟩;obtain⟨U,sU,hU,gU⟩:=(H.out.1.below bV).pst (q:=dispP p);have G:Hid (RvAt U (w.heap.size+1) 74 (dispP p).cs∧Below w.heap.size w U):=⟨hU,gro (z_a H.out.2.1 bV) gU (by omega) (by have:=H.out.2.2;have:=bV.size;omega)⟩;clear bV hU gU hW l0
 go_wp2_with (with_reducible exact z_g results289 rfl rfl G.out.1 ⟨rfl,G.out.2⟩)
theorem z_hj (x:Value) (V:World):(callFunc 304 #[x]).run prog V=.ok (.enter 304 #[x]) V:=by go_simp
theorem z_bK (p:Pt) (w:World) :
  Calls prog 286 #[.agg p.cs] w fun r w'=>r=.returned (.agg (flagP p).cs)∧Below w.heap.size w w':=by
 obtain⟨W,hW,r0,r1,bW,zW⟩:=x_y w p;have H:=hd3 r1 bW zW;have l0:=r0.pld;clear r0 r1 bW zW;go_enter func286,ntmps286
 go_wp2_with fail
 refine (z_t _ _ z_hC z_hj p W).mono ?_;rintro _ V ⟨rfl,bV⟩;obtain⟨U,sU,hU,gU⟩:=(H.out.1.below bV).pst (q:=flagP p);have G:Hid (RvAt U (w.heap.size+1) 74 (flagP p).cs∧Below w.heap.size w U):=⟨hU,gro (z_a H.out.2.1 bV) gU (by omega) (by have:=H.out.2.2;have:=bV.size;omega)⟩;clear bV hU gU hW l0
 go_wp2_with (with_reducible exact z_g results286 rfl rfl G.out.1 ⟨rfl,G.out.2⟩)
theorem z_hi (x:Value) (V:World):(callFunc 312 #[x]).run prog V=.ok (.enter 312 #[x]) V:=by go_simp
theorem z_gM (p:Pt) (w:World) :
  Calls prog 300 #[.agg p.cs] w fun r w'=>r=.returned (.agg (prioP p).cs)∧Below w.heap.size w w':=by
 obtain⟨W,hW,r0,r1,bW,zW⟩:=x_y w p;have H:=hd3 r1 bW zW;have l0:=r0.pld;clear r0 r1 bW zW;go_enter func300,ntmps300
 go_wp2_with fail
 refine (z_t _ _ z_hB z_hi p W).mono ?_;rintro _ V ⟨rfl,bV⟩;obtain⟨U,sU,hU,gU⟩:=(H.out.1.below bV).pst (q:=prioP p);have G:Hid (RvAt U (w.heap.size+1) 74 (prioP p).cs∧Below w.heap.size w U):=⟨hU,gro (z_a H.out.2.1 bV) gU (by omega) (by have:=H.out.2.2;have:=bV.size;omega)⟩;clear bV hU gU hW l0
 go_wp2_with (with_reducible exact z_g results300 rfl rfl G.out.1 ⟨rfl,G.out.2⟩)
theorem z_kc (x:Value) (V:World):(callFunc 313 #[x]).run prog V=.ok (.enter 313 #[x]) V:=by go_simp
theorem z_iC (p:Pt) (w:World) :
  Calls prog 301 #[.agg p.cs] w fun r w'=>r=.returned (.agg (timP p).cs)∧Below w.heap.size w w':=by
 obtain⟨W,hW,r0,r1,bW,zW⟩:=x_y w p;have H:=hd3 r1 bW zW;have l0:=r0.pld;clear r0 r1 bW zW;go_enter func301,ntmps301
 go_wp2_with fail
 refine (z_t _ _ z_ko z_kc p W).mono ?_;rintro _ V ⟨rfl,bV⟩;obtain⟨U,sU,hU,gU⟩:=(H.out.1.below bV).pst (q:=timP p);have G:Hid (RvAt U (w.heap.size+1) 74 (timP p).cs∧Below w.heap.size w U):=⟨hU,gro (z_a H.out.2.1 bV) gU (by omega) (by have:=H.out.2.2;have:=bV.size;omega)⟩;clear bV hU gU hW l0
 go_wp2_with (with_reducible exact z_g results301 rfl rfl G.out.1 ⟨rfl,G.out.2⟩)
theorem z_kb (x:Value) (V:World):(callFunc 306 #[x]).run prog V=.ok (.enter 306 #[x]) V:=by go_simp
theorem z_iu (p:Pt) (w:World) :
  Calls prog 288 #[.agg p.cs] w fun r w'=>r=.returned (.agg (whiP p).cs)∧Below w.heap.size w w':=by
 obtain⟨W,hW,r0,r1,bW,zW⟩:=x_y w p;have H:=hd3 r1 bW zW;have l0:=r0.pld;clear r0 r1 bW zW;go_enter func288,ntmps288
 go_wp2_with fail
 refine (z_t _ _ z_kn z_kb p W).mono ?_;rintro _ V ⟨rfl,bV⟩;obtain⟨U,sU,hU,gU⟩:=(H.out.1.below bV).pst (q:=whiP p);have G:Hid (RvAt U (w.heap.size+1) 74 (whiP p).cs∧Below w.heap.size w U):=⟨hU,gro (z_a H.out.2.1 bV) gU (by omega) (by have:=H.out.2.2;have:=bV.size;omega)⟩;clear bV hU gU hW l0
 go_wp2_with (with_reducible exact z_g results288 rfl rfl G.out.1 ⟨rfl,G.out.2⟩)
end S11
end
section
namespace S11
open Go.RowKit
def rslP (p:Pt):Pt:=(p.setB 21 kb21 true).setB 22 kb22 false
def disQ (p:Pt):Pt:=(((((((p.setB 14 kb14 false).setB 13 kb13 false).setB 12 kb12 false).setB 3 kb3 false).setB 4 kb4 false).setU 69 0).setN 29 kn29 0 wi0).setN 72 kn72 1 wi1
def disP (p:Pt):Pt:=rslP (disQ p)
def agdQ (p:Pt):Pt:=(p.setN 29 kn29 1 wi1).setN 72 kn72 2 wi2
def agdP (p:Pt):Pt:=rslP (agdQ p)
def updA (p:Pt):Pt:=p.setB 4 kb4 (p.bt 4 && bosP p 2)
def synP (p:Pt):Pt:=p.setB 25 kb25 (p.bt 25 && p.bt 4)
def clrP (p:Pt):Pt:=(p.setB 13 kb13 false).setB 12 kb12 false
def ownP (p:Pt):Pt:=(p.put 36 (dsg p) kq36 kl36).put 44 (dsgT p) kq44 kl44
def updB (p:Pt):Pt:=ownP (clrP (synP (updA p)))
def curP (p:Pt):Pt:=(((p.setB 28 kb28 false).setB 11 kb11 true).setN 29 kn29 2 wi2).setN 72 kn72 3 wi3
def updP (p:Pt):Pt:=curP (updB p)
def d1P (p:Pt):Pt:=(p.setB 4 kb4 false).setB 13 kb13 false
def d2P (p:Pt):Pt:=p.setB 3 kb3 (p.bt 3 && bosP p 3)
def d4P (p:Pt):Pt:=rslP (p.setN 29 kn29 3 wi3)
def othP (p:Pt):Pt:=if p.nm 48=2 then flagP p else p
def supP (p:Pt):Pt:=d4P (whiP (timP (prioP (synP (agrP (d2P (flagP (propP (d1P p)))))))))
def recQ (p:Pt):Pt:=if infP p=1 then supP p else if infP p=2 then whiP (agrP (flagP (propP p))) else if infP p=3 then dispP p else if infP p=4 then flagP (agrP p) else othP p
def recP (p:Pt):Pt:=(recQ p).setB 14 kb14 false
def fdsO (p:Pt):Option Pt:=if p.bt 2=true then some (agdP p) else if p.bt 14=true then some (disP p) else none
def fagO (p:Pt):Option Pt:=if p.bt 22=true∧p.bt 28=true then some (updP p) else none
def fcuO (p:Pt):Option Pt:=if p.bt 14=true∧p.bt 28=false then some (recP p) else if p.bt 22=true∧p.bt 28=true then some (updP p) else if p.nm 29=3∧p.nm 69=0∧p.bt 28=false∧p.bt 14=false then some (agdP p) else none
def stepO (p:Pt):Option Pt:=if p.bt 2=false∧p.nm 29≠0 then some (disP p) else if p.nm 72=1 then fdsO p else if p.nm 72=2 then fagO p else if p.nm 72=3 then fcuO p else some (disP p)
def tellO (p:Pt) (o:Option Pt):Pt:=o.getD p
theorem stI (x y:Value):Instr.storeAt 71 x y=stS 71 x y:=rfl
theorem infoI:(prog.info? 71).map (·.size)=some 1:=by kernel_rfl
theorem _root_.Go.Proofs.YtlchejbggnbccaaGreat.RvAt.pdsT {W:World} {b:Nat} {p:Pt} (hb:RvAt W b 74 p.cs):(ldS 24 (.pointer (some ⟨b,40,none⟩))).run prog W=.ok (.agg (dsgT p).cs) W:=hb.part rfl rfl underlying24 rfl infoTm
theorem _root_.Go.Proofs.YtlchejbggnbccaaGreat.PS.putV {w W:World} {b d:Nat} {q:Pt} (s:PS w W b d q) (v:Vc):∃V,(stS 36 (.pointer (some ⟨b,36,none⟩)) (.agg v.cs)).run prog W=.ok () V∧PS w V b d (q.put 36 v kq36 kl36):=by
 obtain⟨V,e,h1,g⟩:=s.var.putV v;exact⟨V,e,s.go h1 g⟩
theorem _root_.Go.Proofs.YtlchejbggnbccaaGreat.PS.putT {w W:World} {b d:Nat} {q:Pt} (s:PS w W b d q) (v:Tm):∃V,(stS 24 (.pointer (some ⟨b,44,none⟩)) (.agg v.cs)).run prog W=.ok () V∧PS w V b d (q.put 44 v kq44 kl44):=by
 obtain⟨V,e,h1,g⟩:=s.var.putT v;exact⟨V,e,s.go h1 g⟩
theorem _root_.Go.Proofs.YtlchejbggnbccaaGreat.PS.st {w W:World} {b d:Nat} {q:Pt} (s:PS w W b d q) (r:Pt):∃V,(stS 74 (.pointer (some ⟨b,0,none⟩)) (.agg r.cs)).run prog W=.ok () V∧PS w V b d r:=by
 obtain⟨V,e,h1,g⟩:=s.var.pst (q:=r);exact⟨V,e,s.go h1 g⟩
theorem x_C {ks:List (Option IntKind)} (r:Row ks) {j:Nat} (h:ks[j]?=some none) {x y:Bool} (e:x=y):r.setB j h x=r.setB j h y:=by rw[e]
theorem u_H (p:Pt):((((((((((p.setB 14 kb14 false).setB 13 kb13 false).setB 12 kb12 false).setB 3 kb3 false).setB 4 kb4 false).setU 69 0).setN 29 kn29 0 wi0).setB 21 kb21 true).setB 22 kb22 false).setN 72 kn72 1 wi1)=disP p:=by
 refine Row.same fun k _=>?_;simp only[disP,disQ,rslP,Row.setB_get,Row.setN_get,Row.setU_get _ ku69 (wf8 (n:=0) (by omega))];by_cases h1:k=72
 ·subst h1;simp
 ·simp only[if_neg h1]
theorem z_kC (p:Pt):((((p.setN 29 kn29 1 wi1).setB 21 kb21 true).setB 22 kb22 false).setN 72 kn72 2 wi2)=agdP p:=by
 refine Row.same fun k _=>?_;simp only[agdP,agdQ,rslP,Row.setB_get,Row.setN_get];by_cases h1:k=72
 ·subst h1;simp
 ·simp only[if_neg h1]
theorem z_kl (p:Pt):((((p.setB 28 kb28 false).setN 29 kn29 2 wi2).setB 11 kb11 true).setN 72 kn72 3 wi3)=curP p:=by
 refine Row.same fun k _=>?_;simp only[curP,Row.setB_get,Row.setN_get];by_cases h1:k=11
 ·subst h1;simp
 ·simp only[if_neg h1]
end S11
end
section
namespace S11
open Go.RowKit
attribute [local go_sem ↓] ldP stP ldM stM ldTm stTm ldV stV stB stU stI stW
attribute [local go_sem ↓] alP alM
attribute [local go_sem] z_l z_D
theorem z_aA (p:Pt) (w:World) :
  Calls prog 232 #[.agg p.cs] w fun r w'=>r=.returned (.agg (rslP p).cs)∧Below w.heap.size w w':=by
 obtain⟨W0,hW,S0⟩:=PS.start w p;obtain⟨W1,s1,S1⟩:=S0.setB kb21 true;obtain⟨W2,s2,S2⟩:=S1.setB kb22 false;have lX:=S2.ld;obtain⟨U,sU,G0⟩:=S2.tell (rslP p);have G:=hd1 G0;clear G0 S0 S1 S2
 change (ldS 74 (.pointer (some ⟨w.heap.size,0,none⟩))).run prog W2=.ok (.agg (rslP p).cs) W2 at lX
 go_enter func232,ntmps232
 go_wp2_with (with_reducible exact z_g results232 rfl rfl G.out.1 ⟨rfl,G.out.2⟩)
theorem u_I (p:Pt) (w:World) :
  Calls prog 200 #[.agg p.cs] w fun r w'=>r=.returned (.agg (disP p).cs)∧Below w.heap.size w w':=by
 obtain⟨W0,hW,S0⟩:=PS.start w p;obtain⟨W1,s1,S1⟩:=S0.setB kb14 false;obtain⟨W2,s2,S2⟩:=S1.setB kb13 false;obtain⟨W3,s3,S3⟩:=S2.setB kb12 false;obtain⟨W4,s4,S4⟩:=S3.setB kb3 false;obtain⟨W5,s5,S5⟩:=S4.setB kb4 false;obtain⟨W6,s6,S6⟩:=S5.setU ku69 (n:=0) (by omega);obtain⟨W7,s7,S7⟩:=S6.setN infoI kn29 wi0;obtain⟨W8,s8,S8⟩:=S7.setN infoS kn72 wi1;have lX:=S8.ld;have S:=hd1 S8
 change (ldS 74 (.pointer (some ⟨w.heap.size,0,none⟩))).run prog W8=.ok (.agg (disQ p).cs) W8 at lX
 clear S0 S1 S2 S3 S4 S5 S6 S7 S8;go_enter func200,ntmps200
 go_wp2_with fail
 refine (z_aA (disQ p) W8).mono ?_;rintro _ V ⟨rfl,bV⟩;obtain⟨U,sU,G0⟩:=(S.out.below bV).tell (disP p);have G:=hd1 G0
 change (stS 74 (.pointer (some ⟨w.heap.size+1,0,none⟩)) (.agg (rslP (disQ p)).cs)).run prog V=.ok () U at sU
 clear G0 bV S lX s1 s2 s3 s4 s5 s6 s7 s8
 go_wp2_with (with_reducible exact z_g results200 rfl rfl G.out.1 ⟨rfl,G.out.2⟩)
theorem z_bb (p:Pt) (w:World) :
  Calls prog 233 #[.agg p.cs] w fun r w'=>r=.returned (.agg (agdP p).cs)∧Below w.heap.size w w':=by
 obtain⟨W0,hW,S0⟩:=PS.start w p;obtain⟨W1,s1,S1⟩:=S0.setN infoI kn29 wi1;obtain⟨W2,s2,S2⟩:=S1.setN infoS kn72 wi2;have lX:=S2.ld;have S:=hd1 S2
 change (ldS 74 (.pointer (some ⟨w.heap.size,0,none⟩))).run prog W2=.ok (.agg (agdQ p).cs) W2 at lX
 clear S0 S1 S2;go_enter func233,ntmps233
 go_wp2_with fail
 refine (z_aA (agdQ p) W2).mono ?_;rintro _ V ⟨rfl,bV⟩;obtain⟨U,sU,G0⟩:=(S.out.below bV).tell (agdP p);have G:=hd1 G0
 change (stS 74 (.pointer (some ⟨w.heap.size+1,0,none⟩)) (.agg (rslP (agdQ p)).cs)).run prog V=.ok () U at sU
 clear G0 bV S lX s1 s2
 go_wp2_with (with_reducible exact z_g results233 rfl rfl G.out.1 ⟨rfl,G.out.2⟩)
theorem z_lx (p:Pt) (w:World) :
  Calls prog 297 #[.agg p.cs] w fun r w'=>r=.returned (.agg (d1P p).cs)∧Below w.heap.size w w':=by
 obtain⟨W0,hW,S0⟩:=PS.start w p;obtain⟨W1,s1,S1⟩:=S0.setB kb4 false;obtain⟨W2,s2,S2⟩:=S1.setB kb13 false;have lX:=S2.ld;obtain⟨U,sU,G0⟩:=S2.tell (d1P p);have G:=hd1 G0;clear G0 S0 S1 S2
 change (ldS 74 (.pointer (some ⟨w.heap.size,0,none⟩))).run prog W2=.ok (.agg (d1P p).cs) W2 at lX
 go_enter func297,ntmps297
 go_wp2_with (with_reducible exact z_g results297 rfl rfl G.out.1 ⟨rfl,G.out.2⟩)
theorem z_lv (p:Pt) (w:World) :
  Calls prog 302 #[.agg p.cs] w fun r w'=>r=.returned (.agg (d4P p).cs)∧Below w.heap.size w w':=by
 obtain⟨W0,hW,S0⟩:=PS.start w p;obtain⟨W1,s1,S1⟩:=S0.setN infoI kn29 wi3;have lX:=S1.ld;have S:=hd1 S1
 change (ldS 74 (.pointer (some ⟨w.heap.size,0,none⟩))).run prog W1=.ok (.agg (p.setN 29 kn29 3 wi3).cs) W1 at lX
 clear S0 S1;go_enter func302,ntmps302
 go_wp2_with fail
 refine (z_aA (p.setN 29 kn29 3 wi3) W1).mono ?_;rintro _ V ⟨rfl,bV⟩;obtain⟨U,sU,G0⟩:=(S.out.below bV).tell (d4P p);have G:=hd1 G0
 change (stS 74 (.pointer (some ⟨w.heap.size+1,0,none⟩)) (.agg (rslP (p.setN 29 kn29 3 wi3)).cs)).run prog V=.ok () U at sU
 clear G0 bV S lX s1
 go_wp2_with (with_reducible exact z_g results302 rfl rfl G.out.1 ⟨rfl,G.out.2⟩)
theorem z_lw (p:Pt) (w:World) :
  Calls prog 298 #[.agg p.cs] w fun r w'=>r=.returned (.agg (d2P p).cs)∧Below w.heap.size w w':=by
 obtain⟨W0,hW,S0⟩:=PS.start w p;have c:=S0.var.bit (j:=3) rfl;cases h:p.bt 3
 ·rw[h] at c;obtain⟨W1,s1,S1⟩:=S0.setB kb3 false;have lX:=S1.ld;have e:d2P p=p.setB 3 kb3 false:=x_C p kb3 (by rw[h];rfl);obtain⟨U,sU,G0⟩:=S1.tell (p.setB 3 kb3 false);have G:=hd1 G0;rw[e];clear G0 S0 S1 h e;go_enter func298,ntmps298
  go_wp2_with (with_reducible exact z_g results298 rfl rfl G.out.1 ⟨rfl,G.out.2⟩)
 ·rw[h] at c;have l0:=S0.ld;have e:d2P p=p.setB 3 kb3 (bosP p 3):=x_C p kb3 (by rw[h];rfl);rw[e];have S:=hd1 S0;clear S0 h e;go_enter func298,ntmps298
  go_wp2_with fail
  refine (z_fs p 3 W0).mono ?_;rintro _ V ⟨rfl,bV⟩;obtain⟨W1,s1,S1⟩:=(S.out.below bV).setB kb3 (bosP p 3);have lX:=S1.ld;obtain⟨U,sU,G0⟩:=S1.tell (p.setB 3 kb3 (bosP p 3));have G:=hd1 G0;clear G0 bV S1 S l0 c
  go_wp2_with (with_reducible exact z_g results298 rfl rfl G.out.1 ⟨rfl,G.out.2⟩)
theorem z_iE (p:Pt) (w:World) :
  Calls prog 299 #[.agg p.cs] w fun r w'=>r=.returned (.agg (synP p).cs)∧Below w.heap.size w w':=by
 obtain⟨W0,hW,S0⟩:=PS.start w p;have c25:=S0.var.bit (j:=25) rfl;have c4:=S0.var.bit (j:=4) rfl;obtain⟨x,hx⟩:∃x,(p.bt 25 && p.bt 4)=x:=⟨_,rfl⟩;have e:synP p=p.setB 25 kb25 x:=x_C p kb25 hx;obtain⟨W1,s1,S1⟩:=S0.setB kb25 x;have lX:=S1.ld;obtain⟨U,sU,G0⟩:=S1.tell (p.setB 25 kb25 x);have G:=hd1 G0;rw[e];clear G0 S0 S1 e;cases h:p.bt 25
 all_goals
  rw[h] at c25 hx;simp only[Bool.false_and,Bool.true_and] at hx;subst hx;clear h;go_enter func299,ntmps299
  go_wp2_with (with_reducible exact z_g results299 rfl rfl G.out.1 ⟨rfl,G.out.2⟩)
theorem z_gP (p:Pt) (w:World) :
  Calls prog 290 #[.agg p.cs] w fun r w'=>r=.returned (.agg (othP p).cs)∧Below w.heap.size w w':=by
 obtain⟨W0,hW,S0⟩:=PS.start w p;have c48:=S0.var.num (j:=48) (k:=.i64) rfl;have l0:=S0.ld;by_cases h:p.nm 48=2
 ·rw[h] at c48;have e:othP p=flagP p:=if_pos h;rw[e];have S:=hd1 S0;clear S0 h e;go_enter func290,ntmps290
  go_wp2_with fail
  refine (z_bK p W0).mono ?_;rintro _ V ⟨rfl,bV⟩;obtain⟨U,sU,G0⟩:=(S.out.below bV).tell (flagP p);have G:=hd1 G0;clear G0 bV S l0 c48
  go_wp2_with (with_reducible exact z_g results290 rfl rfl G.out.1 ⟨rfl,G.out.2⟩)
 ·have e:othP p=p:=if_neg h;rw[e];obtain⟨U,sU,G0⟩:=S0.tell p;have G:=hd1 G0;clear G0 S0 e;go_enter func290,ntmps290
  go_wp2_with (with_reducible exact z_g results290 rfl rfl G.out.1 ⟨rfl,G.out.2⟩)
theorem z_as (p:Pt) (w:World) :
  Calls prog 234 #[.agg p.cs] w fun r w'=>r=.returned (.agg (updP p).cs)∧Below w.heap.size w w':=by
 obtain⟨W0,hW,S0⟩:=PS.start w p;have c4:=S0.var.bit (j:=4) rfl;have l0:=S0.ld;obtain⟨A,hA⟩:∃A,updA p=A:=⟨_,rfl⟩;obtain⟨B,hB⟩:∃B,synP A=B:=⟨_,rfl⟩;have e:updP p=curP (ownP (clrP B)):=by rw[←hB,← hA];rfl
 rw[e]
 have key:∀V,PS w V w.heap.size (w.heap.size+1) p→∃V1,(stS 4 (.pointer (some ⟨w.heap.size,4,none⟩)) (.bool (p.bt 4 && bosP p 2))).run prog V=.ok () V1∧V1.cell? ⟨w.heap.size,25,none⟩=some (.bool (A.bt 25))∧V1.cell? ⟨w.heap.size,4,none⟩=some (.bool (A.bt 4))∧∃V2,(stS 4 (.pointer (some ⟨w.heap.size,25,none⟩)) (.bool (A.bt 25 && A.bt 4))).run prog V1=.ok () V2∧PS w V2 w.heap.size (w.heap.size+1) B:=fun V S=>by
  obtain⟨V1,s1,S1⟩:=S.setB kb4 (p.bt 4 && bosP p 2);have S1':PS w V1 w.heap.size (w.heap.size+1) A:=by rw[←hA];exact S1
  obtain⟨V2,s2,S2⟩:=S1'.setB kb25 (A.bt 25 && A.bt 4);exact⟨V1,s1,S1'.var.bit rfl,S1'.var.bit rfl,V2,s2,by rw[←hB];exact S2⟩
 have fin:∀V2,PS w V2 w.heap.size (w.heap.size+1) B→∃V3 V4 V5 V6 V7 V8 V9 V10 U,(stS 4 (.pointer (some ⟨w.heap.size,13,none⟩)) (.bool false)).run prog V2=.ok () V3∧(stS 4 (.pointer (some ⟨w.heap.size,12,none⟩)) (.bool false)).run prog V3=.ok () V4 ∧
   (ldS 36 (.pointer (some ⟨w.heap.size,32,none⟩))).run prog V4=.ok (.agg (dsg (clrP B)).cs) V4∧(ldS 24 (.pointer (some ⟨w.heap.size,40,none⟩))).run prog V4=.ok (.agg (dsgT (clrP B)).cs) V4 ∧
   (stS 36 (.pointer (some ⟨w.heap.size,36,none⟩)) (.agg (dsg (clrP B)).cs)).run prog V4=.ok () V5∧(stS 24 (.pointer (some ⟨w.heap.size,44,none⟩)) (.agg (dsgT (clrP B)).cs)).run prog V5=.ok () V6 ∧
   (stS 4 (.pointer (some ⟨w.heap.size,28,none⟩)) (.bool false)).run prog V6=.ok () V7∧(stS 4 (.pointer (some ⟨w.heap.size,11,none⟩)) (.bool true)).run prog V7=.ok () V8∧(stS 71 (.pointer (some ⟨w.heap.size,29,none⟩)) (.int .i64 2)).run prog V8=.ok () V9∧(stS 72 (.pointer (some ⟨w.heap.size,72,none⟩)) (.int .i64 3)).run prog V9=.ok () V10∧
   (ldS 74 (.pointer (some ⟨w.heap.size,0,none⟩))).run prog V10=.ok (.agg (curP (ownP (clrP B))).cs) V10∧(stS 74 (.pointer (some ⟨w.heap.size+1,0,none⟩)) (.agg (curP (ownP (clrP B))).cs)).run prog V10=.ok () U∧RvAt U (w.heap.size+1) 74 (curP (ownP (clrP B))).cs∧Below w.heap.size w U:=fun V2 S2=>by
  obtain⟨V3,s3,S3⟩:=S2.setB kb13 false;obtain⟨V4,s4,S4'⟩:=S3.setB kb12 false;have S4:PS w V4 w.heap.size (w.heap.size+1) (clrP B):=S4';obtain⟨V5,s5,S5⟩:=S4.putV (dsg (clrP B));obtain⟨V6,s6,S6'⟩:=S5.putT (dsgT (clrP B));have S6:PS w V6 w.heap.size (w.heap.size+1) (ownP (clrP B)):=S6';obtain⟨V7,s7,S7⟩:=S6.setB kb28 false;obtain⟨V8,s8,S8⟩:=S7.setB kb11 true;obtain⟨V9,s9,S9⟩:=S8.setN infoI kn29 wi2
  obtain⟨V10,s10,S10'⟩:=S9.setN infoS kn72 wi3;have S10:PS w V10 w.heap.size (w.heap.size+1) (curP (ownP (clrP B))):=S10';obtain⟨U,sU,h1,h2⟩:=S10.tell (curP (ownP (clrP B)));exact⟨V3,V4,V5,V6,V7,V8,V9,V10,U,s3,s4,S4.var.pdsg,S4.var.pdsT,s5,s6,s7,s8,s9,s10,S10.ld,sU,h1,h2⟩
 have K:=hd1 key;have L:=hd1 fin;have S:=hd1 S0;have E:Hid (∀b:Bool,(p.bt 4 && bosP p 2)=b→A.bt 4=b):=fun b hb=>by rw[←hA,← hb];exact y_h p kb4 _
 clear key fin S0 e hA hB;go_enter func234,ntmps234;cases h:p.bt 4
 ·rw[h] at c4;obtain⟨V1,t1,d25,d4,V2,t2,S2⟩:=K.out W0 S.out;rw[h,Bool.false_and] at t1;have e4:=E.out false (by rw[h];rfl);rw[e4,Bool.and_false] at t2;rw[e4] at d4;obtain⟨V3,V4,V5,V6,V7,V8,V9,V10,U,s3,s4,l1,l2,s5,s6,s7,s8,s9,s10,l3,sU,G0⟩:=L.out V2 S2;have G:=hd1 G0;clear G0 S2 S K L E h e4;cases h25:A.bt 25
  all_goals
   rw[h25] at d25;clear h25
   go_wp2_with (with_reducible exact z_g results234 rfl rfl G.out.1 ⟨rfl,G.out.2⟩)
 ·rw[h] at c4
  go_wp2_with fail
  refine (z_fs p 2 W0).mono ?_;rintro _ V0 ⟨rfl,bV⟩;obtain⟨V1,t1,d25,d4,V2,t2,S2⟩:=K.out V0 (S.out.below bV);rw[h,Bool.true_and] at t1;have e4:=E.out _ rfl;rw[h,Bool.true_and] at e4;rw[e4] at d4 t2;obtain⟨V3,V4,V5,V6,V7,V8,V9,V10,U,s3,s4,l1,l2,s5,s6,s7,s8,s9,s10,l3,sU,G0⟩:=L.out V2 S2;have G:=hd1 G0;obtain⟨y,hy⟩:∃y,bosP p 2=y:=⟨_,rfl⟩;rw[hy] at t1 t2 d4 ⊢;clear G0 S2 S K L E h e4 bV l0 c4 hy
  cases h25:A.bt 25
  all_goals
   rw[h25] at d25 t2;simp only[Bool.false_and,Bool.true_and] at t2;clear h25
   go_wp2_with (with_reducible exact z_g results234 rfl rfl G.out.1 ⟨rfl,G.out.2⟩)
end S11
end
section
namespace S11
open Go.RowKit
def fv (F:Nat):Value:=.func (.func F) #[] #[]
def dsL:Nat→List (Nat×(Pt→Pt))
 | 0=>[(297,d1P),(285,propP),(286,flagP),(298,d2P),(287,agrP),(299,synP),(300,prioP),(301,timP),(288,whiP),(302,d4P)]
 | 1=>[(285,propP),(286,flagP),(287,agrP),(288,whiP)]
 | 2=>[(289,dispP)]
 | 3=>[(287,agrP),(286,flagP)]
 | _=>[(290,othP)]
def ofK:Nat→Int
 | 0=>1
 | 1=>2
 | 2=>3
 | 3=>4
 | _=>0
def dsC (k:Nat):Array Value:=((dsL k).map fun d=>fv d.1).toArray
def effC (s:Nat):Array Value:=#[.int .i64 1,.slice (some ⟨s,0,none⟩) 10 10,.int .i64 2,.slice (some ⟨s+1,0,none⟩) 4 4,.int .i64 3,.slice (some ⟨s+2,0,none⟩) 1 1,.int .i64 4,.slice (some ⟨s+3,0,none⟩) 2 2,.int .i64 0,.slice (some ⟨s+4,0,none⟩) 1 1]
structure Deed (F:Nat) (f:Pt→Pt):Prop where
 does:∀(p:Pt) (w:World),Calls prog F #[.agg p.cs] w fun r w'=>r=.returned (.agg (f p).cs)∧Below w.heap.size w w'
 enter:∀(x:Value) (V:World),(callFunc F #[x]).run prog V=.ok (.enter F #[x]) V
theorem z_ki:Deed 297 d1P:=⟨z_lx,fun x V=>by go_simp⟩
theorem z_kh:Deed 298 d2P:=⟨z_lw,fun x V=>by go_simp⟩
theorem z_hq:Deed 299 synP:=⟨z_iE,fun x V=>by go_simp⟩
theorem z_kg:Deed 302 d4P:=⟨z_lv,fun x V=>by go_simp⟩
theorem z_hr:Deed 290 othP:=⟨z_gP,fun x V=>by go_simp⟩
theorem z_ai:Deed 285 propP:=⟨z_gL,fun x V=>by go_simp⟩
theorem v_C:Deed 286 flagP:=⟨z_bK,fun x V=>by go_simp⟩
theorem u_J:Deed 287 agrP:=⟨z_kB,fun x V=>by go_simp⟩
theorem z_ff:Deed 300 prioP:=⟨z_gM,fun x V=>by go_simp⟩
theorem z_hp:Deed 301 timP:=⟨z_iC,fun x V=>by go_simp⟩
theorem z_bT:Deed 288 whiP:=⟨z_iu,fun x V=>by go_simp⟩
theorem z_fg:Deed 289 dispP:=⟨z_hn,fun x V=>by go_simp⟩
theorem deeds (k:Nat):∀d∈dsL k,Deed d.1 d.2:=by
 match k with
 | 0=>
  intro d hd;simp only[dsL,List.mem_cons,List.not_mem_nil,or_false] at hd;rcases hd with rfl | rfl | rfl | rfl | rfl | rfl | rfl | rfl | rfl | rfl
  ·exact z_ki
  ·exact z_ai
  ·exact v_C
  ·exact z_kh
  ·exact u_J
  ·exact z_hq
  ·exact z_ff
  ·exact z_hp
  ·exact z_bT
  ·exact z_kg
 | 1=>
  intro d hd;simp only[dsL,List.mem_cons,List.not_mem_nil,or_false] at hd;rcases hd with rfl | rfl | rfl | rfl
  ·exact z_ai
  ·exact v_C
  ·exact u_J
  ·exact z_bT
 | 2=>
  intro d hd;simp only[dsL,List.mem_cons,List.not_mem_nil,or_false] at hd;subst hd;exact z_fg
 | 3=>
  intro d hd;simp only[dsL,List.mem_cons,List.not_mem_nil,or_false] at hd;rcases hd with rfl | rfl
  ·exact u_J
  ·exact v_C
 | n+4=>
  intro d hd;simp only[dsL,List.mem_cons,List.not_mem_nil,or_false] at hd;subst hd;exact z_hr
def runTo (ds:List (Nat×(Pt→Pt))) (p:Pt) (i:Nat):Pt:=(ds.take i).foldl (fun q d=>d.2 q) p
theorem z_cc {ds:List (Nat×(Pt→Pt))} {p:Pt} {i:Nat} (h:i<ds.length):runTo ds p (i+1)=(ds[i]).2 (runTo ds p i):=by
 unfold runTo;rw[List.take_add_one,List.getElem?_eq_getElem h,List.foldl_append];rfl
def doneK (k:Nat) (p:Pt):Pt:=runTo (dsL k) p (dsL k).length
def posI (n:Int):Nat:=if n=1 then 0 else if n=2 then 1 else if n=3 then 2 else if n=4 then 3 else 4
theorem z_eg (n:Int):posI n≤4:=by
 unfold posI
 (repeat' split)<;>omega
theorem z_jy {n:Int} (h:n=0∨n=1∨n=2∨n=3∨n=4):ofK (posI n)=n:=by
 rcases h with rfl | rfl | rfl | rfl | rfl<;>rfl
theorem z_jz {n:Int} {k:Nat} (h:n=0∨n=1∨n=2∨n=3∨n=4) (hk:k<posI n):ofK k≠n:=by
 have:=z_eg n;rcases h with rfl | rfl | rfl | rfl | rfl
 ·have:k<4:=hk
  match k,this with
  | 0,_=>decide
  | 1,_=>decide
  | 2,_=>decide
  | 3,_=>decide
 ·exact absurd hk (by decide +revert)
 ·have:k<1:=hk
  match k,this with
  | 0,_=>decide
 ·have:k<2:=hk
  match k,this with
  | 0,_=>decide
  | 1,_=>decide
 ·have:k<3:=hk
  match k,this with
  | 0,_=>decide
  | 1,_=>decide
  | 2,_=>decide
theorem z_ey (p:Pt):infP p=0∨infP p=1∨infP p=2∨infP p=3∨infP p=4:=by
 unfold infP ofDes
 (repeat' split)<;>omega
theorem z_hm (p:Pt):doneK (posI (infP p)) p=recQ p:=by
 have key:∀k,doneK k p=(dsL k).foldl (fun q d=>d.2 q) p:=fun k=>by unfold doneK runTo;rw[List.take_length]
 rw[key];unfold recQ;rcases z_ey p with h | h | h | h | h
 ·rw[h,if_neg (by decide),if_neg (by decide),if_neg (by decide),if_neg (by decide)];simp only[show posI 0=4 from rfl,dsL,List.foldl_cons,List.foldl_nil]
 ·rw[h,if_pos rfl];simp only[show posI 1=0 from rfl,dsL,List.foldl_cons,List.foldl_nil,supP]
 ·rw[h,if_neg (by decide),if_pos rfl];simp only[show posI 2=1 from rfl,dsL,List.foldl_cons,List.foldl_nil]
 ·rw[h,if_neg (by decide),if_neg (by decide),if_pos rfl];simp only[show posI 3=2 from rfl,dsL,List.foldl_cons,List.foldl_nil]
 ·rw[h,if_neg (by decide),if_neg (by decide),if_neg (by decide),if_pos rfl];simp only[show posI 4=3 from rfl,dsL,List.foldl_cons,List.foldl_nil]
theorem z_fL (w:World) :
  Calls prog 284 #[] w fun r w'=>r=.returned (.slice (some ⟨w.heap.size,0,none⟩) 10 10)∧w'=w.alloc (.cells (dsC 0) 158):=by
 go_enter func284,ntmps284;go_wp2
 go_returns
 exact⟨rfl,rfl⟩
structure EffAt (W:World) (e s:Nat):Prop where
 row:RvAt W e 218 (effC s)
 ds:∀k,k<5→RvAt W (s+k) 158 (dsC k)
theorem EffAt.below {W V:World} {e s:Nat} (h:EffAt W e s) (k:Below W.heap.size W V):EffAt V e s:=⟨h.row.below k,fun j hj=>(h.ds j hj).below k⟩
theorem z_hl (w:World):∃W,((((((w.alloc (.cells (dsC 0) 158)).alloc (.cells (dsC 1) 158)).alloc (.cells (dsC 2) 158)).alloc (.cells (dsC 3) 158)).alloc (.cells (dsC 4) 158)).alloc (.cells (effC w.heap.size) 218))=W∧EffAt W (w.heap.size+5) w.heap.size∧Below w.heap.size w W:=by
 have new:∀(w:World) (cs:Array Value) (t:TypeId),∃W,w.alloc (.cells cs t)=W∧RvAt W w.heap.size t cs∧Below w.heap.size w W∧W.heap.size=w.heap.size+1:=fun w cs t=>⟨_,rfl,RvAt.new w _ _,(Below.refl _ _).alloc (Nat.le_refl _) _,by simp⟩;obtain⟨A,hA,rA,bA,zA⟩:=new w (dsC 0) 158;obtain⟨B,hB,rB,bB,zB⟩:=new A (dsC 1) 158;obtain⟨C,hC,rC,bC,zC⟩:=new B (dsC 2) 158;obtain⟨D,hD,rD,bD,zD⟩:=new C (dsC 3) 158
 obtain⟨E,hE,rE,bE,zE⟩:=new D (dsC 4) 158;obtain⟨F,hF,rF,bF,zF⟩:=new E (effC w.heap.size) 218;rw[zA] at rB;rw[zB,zA] at rC;rw[zC,zB,zA] at rD;rw[zD,zC,zB,zA] at rE;rw[zE,zD,zC,zB,zA] at rF;refine⟨F,by rw[hA,hB,hC,hD,hE,hF],⟨rF,fun k hk=>?_⟩,z_a (z_a (z_a (z_a (z_a bA bB) bC) bD) bE) bF⟩
 match k,hk with
 | 0,_=>exact ((((rA.below bB).below bC).below bD).below bE).below bF
 | 1,_=>exact (((rB.below bC).below bD).below bE).below bF
 | 2,_=>exact ((rC.below bD).below bE).below bF
 | 3,_=>exact (rD.below bE).below bF
 | 4,_=>exact rE.below bF
theorem z_kf (w:World) :
  Calls prog 260 #[] w fun r w'=>r=.returned (.slice (some ⟨w.heap.size+5,0,none⟩) 5 5)∧EffAt w' (w.heap.size+5) w.heap.size∧Below w.heap.size w w':=by
 obtain⟨W,hW,H0⟩:=z_hl w;have H:=hd1 H0;clear H0;have HW:=hd1 hW;clear hW;go_enter func260,ntmps260
 go_wp2_with fail
 refine (z_fL w).mono ?_;rintro _ V ⟨rfl,hV⟩;subst hV;go_wp2
 go_returns
 refine⟨rfl,?_⟩;have e:=HW.out;have h:=H.out;rw[←e] at h;exact h
end S11
end
section
namespace S11
open Go.RowKit
theorem infoE:(prog.info? 218).map (·.size)=some 2:=by kernel_rfl
theorem rtE:RowTy 218 2:=⟨infoE,_,underlying218,rfl⟩
theorem ldE (x:Value):Instr.loadAt 218 x=ldS 218 x:=rfl
theorem stE (x y:Value):Instr.storeAt 218 x y=stS 218 x y:=rfl
def eC (s k:Nat):Array Value:=#[.int .i64 (ofK k),.slice (some ⟨s+k,0,none⟩) (dsL k).length (dsL k).length]
theorem EffAt.ld {W:World} {e s k:Nat} (h:EffAt W e s) (hk:k<5):(ldS 218 (.pointer (some ⟨e,k*2,none⟩))).run prog W=.ok (.agg (eC s k)) W:=by
 refine run_loadAt_mid W e (k*2) 218 (eC s k).toList _ (fun j v hv=>h.row.cell _ _ ?_) underlying218 rfl infoE
 match k,hk,j,hv with
 | 0,_,0,hv=>exact hv
 | 0,_,1,hv=>exact hv
 | 1,_,0,hv=>exact hv
 | 1,_,1,hv=>exact hv
 | 2,_,0,hv=>exact hv
 | 2,_,1,hv=>exact hv
 | 3,_,0,hv=>exact hv
 | 3,_,1,hv=>exact hv
 | 4,_,0,hv=>exact hv
 | 4,_,1,hv=>exact hv
 | 0,_,j+2,hv=>simp[eC] at hv
 | 1,_,j+2,hv=>simp[eC] at hv
 | 2,_,j+2,hv=>simp[eC] at hv
 | 3,_,j+2,hv=>simp[eC] at hv
 | 4,_,j+2,hv=>simp[eC] at hv
theorem z_lr (s k:Nat):∀v∈(eC s k).toList,v.oneCell'=true:=by
 intro v hv;simp only[eC,List.mem_cons,List.not_mem_nil,or_false] at hv;rcases hv with rfl | rfl<;>rfl
attribute [local go_sem ↓] ldP stP stB stU stI stW ldE stE
attribute [local go_sem ↓] alP alM
attribute [local go_sem] z_l z_D
theorem z_iY (p:Pt) (w:World) :
  Calls prog 235 #[.agg p.cs] w fun r w'=>r=.returned (.agg (recP p).cs)∧Below w.heap.size w w':=by
 obtain⟨W0,hW,S0⟩:=PS.start w p;have l0:=S0.ld;have S:Hid (PS w W0 w.heap.size (w.heap.size+1) p):=S0;clear S0;go_enter func235,ntmps235
 go_wp2_with fail
 go_step3
 go_wp2_with fail
 refine (z_aN p W0).mono ?_;rintro _ W1 ⟨rfl,b1⟩;have S1:Hid (PS w W1 w.heap.size (w.heap.size+1) p):=S.out.below b1;clear b1 l0 S hW;obtain⟨N,hN⟩:∃N,infP p=N:=⟨_,rfl⟩;rw[hN];have IN:Hid (N=0∨N=1∨N=2∨N=3∨N=4):=by rw[←hN];exact z_ey p
 have DN:Hid (doneK (posI N) p=recQ p):=by rw[←hN];exact z_hm p
 clear hN
 go_wp2_with fail
 go_step3
 go_wp2_with fail
 refine (z_kf W1).mono ?_;rintro _ W2 ⟨rfl,E2,b2⟩;obtain⟨z,hz⟩:∃z,W1.heap.size=z:=⟨_,rfl⟩;rw[hz] at E2 ⊢;have G:Hid (PS w W2 w.heap.size (w.heap.size+1) p∧EffAt W2 (z+5) z):=⟨S1.out.below b2,E2⟩;clear S1 E2 b2 hz
 go_wp2_with fail
 go_loopw [12] (fun v12 wr=>∃k:Nat,k≤posI N∧v12=.int .i64 k∧PS w wr w.heap.size (w.heap.size+1) p∧EffAt wr (z+5) z) (fun v12 _=>5-(intOf v12).toNat)
 case atStart=>exact⟨0,by omega,rfl,G.out.1,G.out.2⟩
 case round=>
  obtain⟨k,hk,rfl,hS,hE⟩:=hrel;have hk4:=z_eg N;have hk5:k<5:=by omega
  have hin0:(0:Int)≤(k:Int):=by omega
  have hin1:(k:Int)<5:=by omega
  have le:=hE.ld hk5;obtain⟨V,sV,rV,bV,zV⟩:=z_E rtE wr #[.int .i64 0,.slice none 0 0] (eC z k) rfl rfl (z_lr z k);have c0:=rV.cell 0 (.int .i64 (ofK k)) rfl;have c1:=rV.cell 1 (.slice (some ⟨z+k,0,none⟩) (dsL k).length (dsL k).length) rfl;have J:Hid (PS w V w.heap.size (w.heap.size+1) p∧EffAt V (z+5) z∧RvAt V wr.heap.size 218 (eC z k)):=⟨hS.below bV,hE.below bV,rV⟩;clear hS hE rV bV zV
  by_cases hkp:k<posI N
  ·have hne:¬ ofK k=N:=z_jz IN.out hkp;go_wp2
   go_roundw
   case rel=>exact⟨k+1,by omega,by go_num,J.out.1,J.out.2.1⟩
   case measure=>simp[intOf];omega
  ·have hkN:k=posI N:=by omega
   have hof:ofK k=N:=by rw[hkN];exact z_jy IN.out
   have D2:Hid (runTo (dsL k) p (dsL k).length=recQ p):=by have:=DN.out;rw[←hkN] at this;exact this
   have R2:Hid (RvAt V (z+k) 158 (dsC k)):=J.out.2.1.ds k hk5;have Q2:Hid (∀d∈dsL k,Deed d.1 d.2):=deeds k;rw[hof] at c0;obtain⟨ds,hds⟩:∃ds,dsL k=ds:=⟨_,rfl⟩;have hdsc:dsC k=(ds.map fun d=>fv d.1).toArray:=by rw[←hds];rfl
   rw[hdsc] at R2;rw[hds] at c1 D2 Q2;obtain⟨n,hn⟩:∃n,ds.length=n:=⟨_,rfl⟩;rw[hn] at c1 D2;have HN:Hid (ds.length=n):=hn;have hn10:n≤10:=by
    rw[←hn,← hds]
    match k,hk5 with
    | 0,_=>decide
    | 1,_=>decide
    | 2,_=>decide
    | 3,_=>decide
    | 4,_=>decide
   clear hof hdsc hds hn hkN hkp;obtain⟨wo,rfl⟩:∃wo:World,wo=wr:=⟨_,rfl⟩
   go_wp2_with fail
   go_loopw [23] (fun v23 wr=>∃i:Nat,i≤n∧v23=.int .i64 i∧PS w wr w.heap.size (w.heap.size+1) (runTo ds p i)∧RvAt wr (z+k) 158 (ds.map fun d=>fv d.1).toArray) (fun v23 _=>n-(intOf v23).toNat)
   case atStart=>exact⟨0,by omega,rfl,J.out.1,R2.out⟩
   case round=>
    obtain⟨i,hi,rfl,hS,hR⟩:=hrel;have hi0:(0:Int)≤(i:Int):=by omega
    by_cases hit:i<n
    ·have hi1:(i:Int)<(n:Int):=by omega
     have hid:i<ds.length:=by rw[HN.out];exact hit
     have cf:=hR.cell i (fv (ds[i]).1) (by simp[List.getElem?_eq_getElem hid]);have dd:=Q2.out (ds[i]) (List.getElem_mem _);have hnx:runTo ds p (i+1)=(ds[i]).2 (runTo ds p i):=z_cc hid;obtain⟨F,hF⟩:∃F,(ds[i]).1=F:=⟨_,rfl⟩;obtain⟨f,hf⟩:∃f,(ds[i]).2=f:=⟨_,rfl⟩;rw[hF] at cf dd;rw[hf] at dd hnx;obtain⟨q,hq⟩:∃q,runTo ds p i=q:=⟨_,rfl⟩;rw[hq] at hS hnx;have lq:=hS.ld;have en:=dd.enter
     have DO:Hid (∀(p:Pt) (w:World),_):=dd.does;have M:Hid (PS w wr w.heap.size (w.heap.size+1) q∧RvAt wr (z+k) 158 (ds.map fun d=>fv d.1).toArray∧runTo ds p (i+1)=f q):=⟨hS,hR,hnx⟩;unfold fv at cf;clear hS hR hnx hq hf hF dd hid c0 c1 le sV
     go_wp2_with fail
     refine (DO.out q _).mono ?_;rintro _ X ⟨rfl,bX⟩;obtain⟨Y,sY,hY,gY⟩:=(M.out.1.below bX).var.pst (q:=f q);have SY:=(M.out.1.below bX).go hY gY;have T:Hid (PS w Y w.heap.size (w.heap.size+1) (runTo ds p (i+1))∧RvAt Y (z+k) 158 (ds.map fun d=>fv d.1).toArray):=by
      refine⟨by rw[M.out.2.2];exact SY,(M.out.2.1.below bX).keptBut gY ?_⟩;have:=(M.out.1.below bX).var.apart (M.out.2.1.below bX) (by decide);simpa using this.symm
     clear SY bX lq cf hY gY;go_wp2
     go_roundw
     case rel=>exact⟨i+1,by omega,by go_num,T.out.1,T.out.2⟩
     case measure=>simp[intOf];omega
    ·have hin:i=n:=by omega
     subst hin;have hi1:¬ (i:Int)<(i:Int):=by omega
     rw[D2.out] at hS;obtain⟨Y,sY,SY⟩:=hS.setB kb14 false;have lY:=SY.ld;obtain⟨U,sU,G0⟩:=SY.tell (recP p);have GG:Hid (RvAt U (w.heap.size+1) 74 (recP p).cs∧Below w.heap.size w U):=G0
     change (ldS 74 (.pointer (some ⟨w.heap.size,0,none⟩))).run prog Y=.ok (.agg (recP p).cs) Y at lY
     clear hS hR SY G0 c0 c1 le sV
     go_wp2_with (with_reducible exact z_g results235 (by with_unfolding_all rfl) (by with_unfolding_all rfl) GG.out.1 ⟨rfl,GG.out.2⟩)
end S11
end
end Go.Proofs.YtlchejbggnbccaaGreat
