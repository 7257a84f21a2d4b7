/-
  A bridge's questions of itself, its Up and its New: the walks, for every bridge. And what follows from it here.
-/
import Derived.Test.YtlchejbggnbccaaGreatN17b
import Derived.Test.YtlchejbggnbccaaGreatN9a
import Derived.Test.YtlchejbggnbccaaGreatNbb
import Derived.Test.YtlchejbggnbccaaGreatN15c
import Derived.Handy
import Derived.OpenShut
import Derived.ChangeSlices
import Derived.ShutString
import Derived.ChangeOld
import Derived.Deep.Slices
namespace Go.Proofs.YtlchejbggnbccaaGreat
set_option linter.unusedVariables false
set_option linter.unusedSimpArgs false
set_option maxRecDepth 4000
section
namespace S17
open Go.RowKit
open S14 (gtP gtP_at set_self)

abbrev BRes (W : World) (B n : Nat) (E : Ev) (r : Ending) (V : World) : Prop := ∃ v a' c', r = .returned (.tuple #[v, .int .i64 E.e]) ∧ BrAt V B E.h a' n c' E.l ∧ DnAt V v E.o E.f ∧ W.grownBy V (some B)
attribute [local go_sem ↓] ldT stT ldDn stDn
set_option maxHeartbeats 1000000 in
theorem made_any {W : World} {B n c : Nat} {h : Hd} {a : Option Addr} {l : List Pt} (s : BrAt W B h a n c l) :
    Calls Tryz.prog 45 #[.pointer (some ⟨B, 0, none⟩)] W fun r V => r = .returned (.bool (decide (0 < n))) ∧ V = W := by
  have c16 := b_16 s.var
  clear s
  by_cases h0 : 0 < n
  · have e : decide (0 < n) = true := by simp [h0]
    have h1 : (0 : Int) < (n : Int) := by omega
    rw [e]
    clear e
    go_enter Tryz.func45, Tryz.ntmps45
    go_wp2
    go_ret
    exact ⟨by simp [h1, h0], rfl⟩
  · have e : n = 0 := by omega
    subst e
    go_enter Tryz.func45, Tryz.ntmps45
    go_wp2
    go_ret
    exact ⟨by simp, rfl⟩
set_option maxHeartbeats 1000000 in
theorem made_nil (W : World) : Calls Tryz.prog 45 #[.pointer none] W fun r V => r = .returned (.bool false) ∧ V = W := by
  go_enter Tryz.func45, Tryz.ntmps45
  go_wp2
  go_ret
  exact ⟨rfl, rfl⟩
set_option maxHeartbeats 2000000 in
theorem there_any {W : World} {B n c : Nat} {h : Hd} {a : Option Addr} {l : List Pt} (s : BrAt W B h a n c l) (i : Int) (h0 : 0 < n) (hn : n ≤ 1000) :
    Calls Tryz.prog 65 #[.pointer (some ⟨B, 0, none⟩), .int .i64 i] W fun r V => r = .returned (.bool (decide (0 ≤ i) && decide (i < n))) ∧ V = W := by
  have c16 := b_16 s.var
  have P : Hid _ := made_any s
  rw [show decide (0 < n) = true by simp [h0]] at P
  clear s
  by_cases h1 : 0 ≤ i
  · by_cases h2 : i < (n : Int)
    · go_enter Tryz.func65, Tryz.ntmps65
      go_wp2_with fail
      refine Calls.mono P.out ?_
      rintro _ V ⟨rfl, rfl⟩
      go_wp2
      go_ret
      exact ⟨by simp [h1, h2], rfl⟩
    · go_enter Tryz.func65, Tryz.ntmps65
      go_wp2_with fail
      refine Calls.mono P.out ?_
      rintro _ V ⟨rfl, rfl⟩
      go_wp2
      go_ret
      exact ⟨by simp [h1, h2], rfl⟩
  · go_enter Tryz.func65, Tryz.ntmps65
    go_wp2_with fail
    refine Calls.mono P.out ?_
    rintro _ V ⟨rfl, rfl⟩
    go_wp2
    go_ret
    exact ⟨by have h1 : ¬ 0 ≤ i := by omega
              simp [h1], rfl⟩
def lackN (n : Nat) (i : Int) : Int := if 0 ≤ i ∧ i < (n : Int) then 0 else 5
set_option maxHeartbeats 2000000 in
theorem lacks_any {W : World} {B n c : Nat} {h : Hd} {a : Option Addr} {l : List Pt} (s : BrAt W B h a n c l) (i : Int) (h0 : 0 < n) (hn : n ≤ 1000) :
    Calls Tryz.prog 42 #[.pointer (some ⟨B, 0, none⟩), .int .i64 i] W fun r V => r = .returned (.int .i64 (lackN n i)) ∧ V = W := by
  have P : Hid _ := made_any s
  rw [show decide (0 < n) = true by simp [h0]] at P
  have Q : Hid _ := there_any s i h0 hn
  clear s
  by_cases hi : 0 ≤ i ∧ i < (n : Int)
  · have e : (decide (0 ≤ i) && decide (i < (n : Int))) = true := by simp [hi.1, hi.2]
    have e2 : lackN n i = 0 := if_pos hi
    rw [e] at Q
    rw [e2]
    clear e e2 hi
    go_enter Tryz.func42, Tryz.ntmps42
    go_wp2_with fail
    refine Calls.mono P.out ?_
    rintro _ V ⟨rfl, rfl⟩
    go_wp2_with fail
    refine Calls.mono Q.out ?_
    rintro _ V ⟨rfl, rfl⟩
    go_wp2
    go_ret
    exact ⟨rfl, rfl⟩
  · have e : (decide (0 ≤ i) && decide (i < (n : Int))) = false := by
      rcases Classical.em (0 ≤ i) with q | q
      · have : ¬ i < (n : Int) := fun z => hi ⟨q, z⟩
        simp [this]
      · simp [q]
    have e2 : lackN n i = 5 := if_neg hi
    rw [e] at Q
    rw [e2]
    clear e e2 hi
    go_enter Tryz.func42, Tryz.ntmps42
    go_wp2_with fail
    refine Calls.mono P.out ?_
    rintro _ V ⟨rfl, rfl⟩
    go_wp2_with fail
    refine Calls.mono Q.out ?_
    rintro _ V ⟨rfl, rfl⟩
    go_wp2
    go_ret
    exact ⟨rfl, rfl⟩
theorem one_dn (w : World) : ∃ W, w.alloc (.cells #[.slice none 0 0, .slice none 0 0] 52) = W ∧ RvAt W w.heap.size 52 #[.slice none 0 0, .slice none 0 0] ∧ Below w.heap.size w W := ⟨_, rfl, RvAt.new _ _ _, (Below.refl _ _).alloc (Nat.le_refl _) _⟩
theorem dn_nil (W : World) : DnAt W (.agg #[.slice none 0 0, .slice none 0 0]) [] [] := ⟨_, _, rfl, nilO W, nilI W⟩
theorem none_end {w W : World} {B n c : Nat} {h : Hd} {a : Option Addr} {l : List Pt} (s : BrAt W B h a n c l) (b : Below w.heap.size w W) (r : RvAt W w.heap.size 52 #[.slice none 0 0, .slice none 0 0]) (hB : B ≠ w.heap.size) :
    ∃ V, (stS 52 (.pointer (some ⟨w.heap.size, 0, none⟩)) (.agg #[.slice none 0 0, .slice none 0 0])).run Tryz.prog W = .ok () V ∧ RvAt V w.heap.size 52 #[.slice none 0 0, .slice none 0 0] ∧ BrAt V B h a n c l ∧ w.grownBy V (some B) := by
  have e := r.st (ds := #[.slice none 0 0, .slice none 0 0]) rtD rfl rfl (two_one rfl rfl)
  have g := grown_row W w.heap.size #[.slice none 0 0, .slice none 0 0]
  refine ⟨_, e, r.set, s.kept r (by decide) (by simp) g, ?_⟩
  have k := gro b g (Nat.le_refl _) b.size
  exact grown_of_below k _
theorem some_end {w W X : World} {B n c : Nat} {h : Hd} {a : Option Addr} {l : List Pt} {v : Value} {os : List Ot} {fs : List Int} (s : BrAt X B h a n c l) (b : Below w.heap.size w W) (g : W.grownBy X (some B)) (r : RvAt X w.heap.size 52 #[.slice none 0 0, .slice none 0 0]) (hB : B < w.heap.size) (d : DnAt X v os fs) :
    ∃ V vo vf, v = .agg #[vo, vf] ∧ (stS 52 (.pointer (some ⟨w.heap.size, 0, none⟩)) v).run Tryz.prog X = .ok () V ∧ RvAt V w.heap.size 52 #[vo, vf] ∧ BrAt V B h a n c l ∧ DnAt V v os fs ∧ w.grownBy V (some B) := by
  obtain ⟨vo, vf, rfl, o1, f1⟩ := d.out
  have e := r.st (ds := #[vo, vf]) rtD rfl rfl (two_one o1.one f1.one)
  have k := grown_row X w.heap.size #[vo, vf]
  refine ⟨_, vo, vf, rfl, e, r.set, s.kept r (by decide) (by simp) k, ⟨vo, vf, rfl, o1.row r (by decide) k, f1.row r (by decide) k⟩, ?_⟩
  have q : w.grownBy X (some B) := grown_self (grown_of_below b _) g
  refine ⟨k.os.trans q.os, k.tape.trans q.tape, k.output.trans q.output, Nat.le_trans q.size k.size, fun i hi hne => ?_⟩
  rw [k.block i (Nat.lt_of_lt_of_le hi q.size) (by simp; omega), q.block i hi hne]
theorem lack_in {n : Nat} {i : Int} (h : 0 ≤ i ∧ i < (n : Int)) : lackN n i = 0 := if_pos h
theorem lack_out {n : Nat} {i : Int} (h : ¬ (0 ≤ i ∧ i < (n : Int))) : lackN n i = 5 := if_neg h
set_option maxHeartbeats 4000000 in
theorem up_any {w : World} {B n c : Nat} {h : Hd} {a : Option Addr} {l : List Pt} (s : BrAt w B h a n c l) (i : Int) (on : Bool) (h0 : 0 < n) (hn : n ≤ 100) :
    Calls Tryz.prog 12 #[.pointer (some ⟨B, 0, none⟩), .int .i64 i, .bool on] w fun r V => BRes w B n (evUp h l i on) r V := by
  have hlen := s.sl.len
  obtain ⟨W, hW, rW, bW⟩ := one_dn w
  have S : Hid (BrAt W B h a n c l ∧ RvAt W w.heap.size 52 #[.slice none 0 0, .slice none 0 0] ∧ Below w.heap.size w W ∧ B < w.heap.size) := ⟨s.below bW, rW, bW, s.var.lt⟩
  have P : Hid _ := lacks_any (s.below bW) i h0 (by omega)
  clear s rW bW
  by_cases hi : 0 ≤ i ∧ i < (n : Int)
  rotate_left
  · rw [lack_out hi] at P
    have E : Hid (evUp h l i on = Ev.no h l 5) := evUp_out (fun q => hi ⟨q.1, by have := q.2; omega⟩)
    rw [E.out]
    obtain ⟨V, eV, rV, sV, gV⟩ := none_end S.out.1 S.out.2.2.1 S.out.2.1 (by have := S.out.2.2.2; omega)
    have F : Hid (RvAt V w.heap.size 52 #[.slice none 0 0, .slice none 0 0] ∧ BrAt V B h a n c l ∧ w.grownBy V (some B)) := ⟨rV, sV, gV⟩
    clear rV sV gV hi E
    go_enter Tryz.func12, Tryz.ntmps12
    go_wp2_with fail
    refine Calls.mono P.out ?_
    rintro _ V' ⟨rfl, rfl⟩
    go_wp2
    refine bodyPost_ret (results_rowtmp rtD Tryz.results12 _ _ _ _ rfl F.out.1 rfl) rfl ?_
    exact ⟨_, a, c, rfl, F.out.2.1, dn_nil _, F.out.2.2⟩
  rw [lack_in hi] at P
  obtain ⟨k, rfl⟩ : ∃ k : Nat, i = (k : Int) := ⟨i.toNat, by omega⟩
  have hkl : k < l.length := by omega
  have hi0 := hi.1
  have hi1 := hi.2
  clear hi
  obtain ⟨pb, po, rfl⟩ := S.out.1.sl.some' h0
  have c16 := b_16 S.out.1.var
  have c2 := S.out.1.sl.cell (gtP_at hkl) ((gtP l k).bit (j := 2) rfl) (by omega)
  obtain ⟨bb, hbb⟩ : ∃ z, (gtP l k).bt 2 = z := ⟨_, rfl⟩
  rw [hbb] at c2
  by_cases he : bb = on
  · have E : Hid (evUp h l (k : Int) on = Ev.no h l 0) := evUp_same hkl (by rw [hbb]; exact he)
    rw [E.out]
    obtain ⟨V, eV, rV, sV, gV⟩ := none_end S.out.1 S.out.2.2.1 S.out.2.1 (by have := S.out.2.2.2; omega)
    have F : Hid (RvAt V w.heap.size 52 #[.slice none 0 0, .slice none 0 0] ∧ BrAt V B h (some ⟨pb, po, none⟩) n c l ∧ w.grownBy V (some B)) := ⟨rV, sV, gV⟩
    clear rV sV gV E hbb
    subst he
    go_enter Tryz.func12, Tryz.ntmps12
    go_wp2_with fail
    refine Calls.mono P.out ?_
    rintro _ V' ⟨rfl, rfl⟩
    go_wp2
    refine bodyPost_ret (results_rowtmp rtD Tryz.results12 _ _ _ _ rfl F.out.1 rfl) rfl ?_
    exact ⟨_, _, c, rfl, F.out.2.1, dn_nil _, F.out.2.2⟩
  · have E : Hid (evUp h l (k : Int) on = Ev.of (runT h (S9.upL l (k : Int) on))) := evUp_go hkl (by rw [hbb]; exact he)
    rw [E.out]
    obtain ⟨ll, hll⟩ : ∃ z, S9.upL l (k : Int) on = z := ⟨_, rfl⟩
    have HLL : Hid (S9.upL l (k : Int) on = ll ∧ ll.length = n) := ⟨hll, by rw [← hll, ← hlen]; exact upL_len l (k : Int) on⟩
    rw [hll]
    have hx : (bb == on) = false := by simpa using he
    clear hll
    have lt := b_ld S.out.1.var
    clear E hbb he
    go_enter Tryz.func12, Tryz.ntmps12
    go_wp2_with fail
    refine Calls.mono P.out ?_
    rintro _ V' ⟨rfl, rfl⟩
    go_wp2_with fail
    refine (S9.up_any h (some ⟨pb, po, none⟩) n c l (k : Int) on V' S.out.1.sl (by omega)).mono ?_
    rintro _ X ⟨v, rfl, oX, bX⟩
    rw [HLL.out.1] at oX
    obtain ⟨a1, c1, hv, s1, _⟩ := oX.form
    rw [HLL.out.2] at hv s1
    subst hv
    have G : Hid (SlAt X a1 n c1 ll ∧ RvAt X B 94 (trc h (.slice (some ⟨pb, po, none⟩) n c)) ∧ RvAt X w.heap.size 52 #[.slice none 0 0, .slice none 0 0] ∧ Below w.heap.size w X ∧ B < w.heap.size) := ⟨s1, S.out.1.var.below bX, S.out.2.1.below bX, below_over S.out.2.2.1 bX, S.out.2.2.2⟩
    clear oX bX s1 S P c16 c2 lt
    go_wp2_with fail
    refine (lead_any h a1 ll G.out.2.1 G.out.1 hn).mono ?_
    rintro _ Y ⟨v, a2, c2, rfl, bY, dY, gY⟩
    obtain ⟨V, vo, vf, rfl, eV, rV, sV, dV, gV⟩ := some_end bY G.out.2.2.2.1 gY (G.out.2.2.1.keptBut gY (by have := G.out.2.2.2.2; simp; omega)) G.out.2.2.2.2 dY
    have F : Hid (RvAt V w.heap.size 52 #[vo, vf] ∧ BrAt V B (runT h ll).h a2 n c2 (runT h ll).s.l ∧ DnAt V (.agg #[vo, vf]) (runT h ll).s.o (noted (runT h ll).s.f) ∧ w.grownBy V (some B)) := ⟨rV, sV, dV, gV⟩
    clear bY dY gY rV sV dV gV G
    go_wp2
    refine bodyPost_ret (results_rowtmp rtD Tryz.results12 _ _ _ _ rfl F.out.1 rfl) rfl ?_
    exact ⟨_, a2, c2, rfl, F.out.2.1, F.out.2.2.1, F.out.2.2.2⟩
end S17
end
section
namespace S17
open Go.RowKit

def fdP (x : Value) (k : Nat) : Sem Value := Instr.field 74 x k
theorem fdPE (x : Value) (k : Nat) : Instr.field 74 x k = fdP x k := rfl
theorem fdP_30 (cs : Array Value) (v : Value) (h : cs[30]? = some v) (w : World) : (fdP (.agg cs) 30).run Tryz.prog w = .ok v w := by
  unfold fdP Instr.field
  simp [run_underlying Tryz.underlying74, part, asAgg, h, Tryz.isAgg44]
theorem fdP_8 (cs : Array Value) (v : Value) (h : cs[8]? = some v) (w : World) : (fdP (.agg cs) 8).run Tryz.prog w = .ok v w := by
  unfold fdP Instr.field
  simp [run_underlying Tryz.underlying74, part, asAgg, h, Tryz.isAgg4]
theorem fdP_10 (cs : Array Value) (v : Value) (h : cs[10]? = some v) (w : World) : (fdP (.agg cs) 10).run Tryz.prog w = .ok v w := by
  unfold fdP Instr.field
  simp [run_underlying Tryz.underlying74, part, asAgg, h, Tryz.isAgg4]
end S17
end
section
namespace S17
open Go.RowKit
open S14 (gtP gtP_at set_self)

def ptAt (l : List Pt) (i : Int) : Pt := @ite _ (inP l i) (inD l i) (gtP l i.toNat) zeroP
theorem ptAt_in {l : List Pt} {k : Nat} (h : k < l.length) : ptAt l (k : Int) = gtP l k := by
  have : ptAt l (k : Int) = _ := @if_pos _ (inD l k) ⟨by omega, by omega⟩ _ _ _
  rw [this, Int.toNat_natCast]
theorem ptAt_out {l : List Pt} {i : Int} (h : ¬ inP l i) : ptAt l i = zeroP := @if_neg _ (inD l i) h _ _ _
def bdPs (x : Array (Nat × Value)) : Sem Value := Instr.build 74 x
theorem bdPE (x : Array (Nat × Value)) : Instr.build 74 x = bdPs x := rfl
theorem bdP0 (w : World) : (bdPs #[(30, .int .i64 0)]).run Tryz.prog w = .ok (.agg zeroP.cs) w := by kernel_rfl
theorem results_tt {fn : Func} {k m : Nat} (hr : fn.results = #[.tmp k, .tmp m]) (tmps : Array Value) (w : World) : (results fn tmps).run Tryz.prog w = .ok (.tuple #[tmps.getD k undef, tmps.getD m undef]) w := by
  simp [results, hr]
attribute [local go_sem ↓] ldT stT ldDn stDn ldP stP alP fdPE bdPE
attribute [local go_sem] alP_run bdP0
set_option maxHeartbeats 1000000 in
theorem there_0 {W : World} {B c : Nat} {h : Hd} {a : Option Addr} {l : List Pt} (s : BrAt W B h a 0 c l) (i : Int) :
    Calls Tryz.prog 65 #[.pointer (some ⟨B, 0, none⟩), .int .i64 i] W fun r V => r = .returned (.bool false) ∧ V = W := by
  have P : Hid _ := made_any s
  clear s
  go_enter Tryz.func65, Tryz.ntmps65
  go_wp2_with fail
  refine Calls.mono P.out ?_
  rintro _ V ⟨rfl, rfl⟩
  go_wp2
  go_ret
  exact ⟨rfl, rfl⟩
theorem st_p {w W : World} (b : Below w.heap.size w W) (r : RvAt W w.heap.size 74 zeroP.cs) (p : Pt) : ∃ V, (stS 74 (.pointer (some ⟨w.heap.size, 0, none⟩)) (.agg p.cs)).run Tryz.prog W = .ok () V ∧ RvAt V w.heap.size 74 p.cs ∧ Below w.heap.size w V := by
  obtain ⟨V, e, r', g⟩ := r.pst (q := p)
  exact ⟨V, e, r', gro b g (Nat.le_refl _) b.size⟩
theorem one_p (w : World) : ∃ W, w.alloc (.cells zeroP.cs 74) = W ∧ RvAt W w.heap.size 74 zeroP.cs ∧ Below w.heap.size w W := ⟨_, rfl, RvAt.new _ _ _, (Below.refl _ _).alloc (Nat.le_refl _) _⟩
set_option maxHeartbeats 2000000 in
theorem port_no (b : Value) (i : Int) (w : World) (P : ∀ W, Below w.heap.size w W → Calls Tryz.prog 65 #[b, .int .i64 i] W fun r V => r = .returned (.bool false) ∧ V = W) :
    Calls Tryz.prog 53 #[b, .int .i64 i] w fun r V => r = .returned (.agg zeroP.cs) ∧ Below w.heap.size w V := by
  obtain ⟨W, hW, rW, bW⟩ := one_p w
  have Q : Hid _ := P W bW
  obtain ⟨V, eV, rV, bV⟩ := st_p bW rW zeroP
  have F : Hid (RvAt V w.heap.size 74 zeroP.cs ∧ Below w.heap.size w V) := ⟨rV, bV⟩
  clear P rW bW rV bV
  go_enter Tryz.func53, Tryz.ntmps53
  go_wp2_with fail
  refine Calls.mono Q.out ?_
  rintro _ V' ⟨rfl, rfl⟩
  go_wp2
  refine bodyPost_ret (results_row rtP Tryz.results53 _ _ _ _ rfl F.out.1 (by rw [Row.csize, lenP])) rfl ?_
  exact ⟨rfl, F.out.2⟩
set_option maxHeartbeats 2000000 in
theorem port_any {w : World} {B n c : Nat} {h : Hd} {a : Option Addr} {l : List Pt} (s : BrAt w B h a n c l) (i : Int) (hn : n ≤ 1000) :
    Calls Tryz.prog 53 #[.pointer (some ⟨B, 0, none⟩), .int .i64 i] w fun r V => r = .returned (.agg (ptAt l i).cs) ∧ Below w.heap.size w V := by
  have hlen := s.sl.len
  by_cases h0 : 0 < n
  rotate_left
  · have e : n = 0 := by omega
    subst e
    rw [ptAt_out (fun q => by have := q.1; have := q.2; omega)]
    exact port_no _ i w (fun W b => there_0 (s.below b) i)
  by_cases hi : 0 ≤ i ∧ i < (n : Int)
  rotate_left
  · rw [ptAt_out (fun q => hi ⟨q.1, by have := q.2; omega⟩)]
    refine port_no _ i w (fun W b => ?_)
    have := there_any (s.below b) i h0 hn
    have e : (decide (0 ≤ i) && decide (i < (n : Int))) = false := by
      rcases Classical.em (0 ≤ i) with q | q
      · have : ¬ i < (n : Int) := fun z => hi ⟨q, z⟩
        simp [this]
      · simp [q]
    rw [e] at this
    exact this
  obtain ⟨k, rfl⟩ : ∃ k : Nat, i = (k : Int) := ⟨i.toNat, by omega⟩
  have hkl : k < l.length := by omega
  rw [ptAt_in hkl]
  obtain ⟨W, hW, rW, bW⟩ := one_p w
  have sW := s.below bW
  have Q : Hid _ := there_any sW (k : Int) h0 hn
  rw [show (decide (0 ≤ (k : Int)) && decide ((k : Int) < (n : Int))) = true by simp; omega] at Q
  obtain ⟨pb, po, rfl⟩ := sW.sl.some' h0
  have c16 := b_16 sW.var
  have lp := sW.sl.ld (gtP_at hkl)
  obtain ⟨p, hp⟩ : ∃ z, gtP l k = z := ⟨_, rfl⟩
  rw [hp] at lp ⊢
  obtain ⟨V, eV, rV, bV⟩ := st_p bW rW p
  have F : Hid (RvAt V w.heap.size 74 p.cs ∧ Below w.heap.size w V) := ⟨rV, bV⟩
  have hi0 := hi.1
  have hi1 := hi.2
  clear s sW rW bW rV bV hp hi
  go_enter Tryz.func53, Tryz.ntmps53
  go_wp2_with fail
  refine Calls.mono Q.out ?_
  rintro _ V' ⟨rfl, rfl⟩
  go_wp2
  refine bodyPost_ret (results_row rtP Tryz.results53 _ _ _ _ rfl F.out.1 (by rw [Row.csize, lenP])) rfl ?_
  exact ⟨rfl, F.out.2⟩
theorem p_30 (p : Pt) (w : World) : (fdP (.agg p.cs) 30).run Tryz.prog w = .ok (.int .i64 (p.nm 30)) w := fdP_30 p.cs _ (by rw [Row.cget]; exact p.num (k := .i64) rfl) w
theorem p_8 (p : Pt) (w : World) : (fdP (.agg p.cs) 8).run Tryz.prog w = .ok (.bool (p.bt 8)) w := fdP_8 p.cs _ (by rw [Row.cget]; exact p.bit rfl) w
theorem p_10 (p : Pt) (w : World) : (fdP (.agg p.cs) 10).run Tryz.prog w = .ok (.bool (p.bt 10)) w := fdP_10 p.cs _ (by rw [Row.cget]; exact p.bit rfl) w
attribute [local go_sem] p_30 p_8 p_10
set_option maxHeartbeats 1000000 in
theorem role_of (b : Value) (p : Pt) (i : Int) (w : World) (P : Calls Tryz.prog 53 #[b, .int .i64 i] w fun r V => r = .returned (.agg p.cs) ∧ Below w.heap.size w V) :
    Calls Tryz.prog 29 #[b, .int .i64 i] w fun r V => r = .returned (.int .i64 (p.nm 30)) ∧ Below w.heap.size w V := by
  have Q : Hid _ := P
  clear P
  go_enter Tryz.func29, Tryz.ntmps29
  go_wp2_with fail
  refine Calls.mono Q.out ?_
  rintro _ V ⟨rfl, bV⟩
  have F : Hid (Below w.heap.size w V) := bV
  clear bV
  go_wp2
  go_ret
  exact ⟨rfl, F.out⟩
set_option maxHeartbeats 1000000 in
theorem forw_of (b : Value) (p : Pt) (i : Int) (w : World) (P : Calls Tryz.prog 53 #[b, .int .i64 i] w fun r V => r = .returned (.agg p.cs) ∧ Below w.heap.size w V) :
    Calls Tryz.prog 28 #[b, .int .i64 i] w fun r V => r = .returned (.bool (p.bt 8)) ∧ Below w.heap.size w V := by
  have Q : Hid _ := P
  clear P
  go_enter Tryz.func28, Tryz.ntmps28
  go_wp2_with fail
  refine Calls.mono Q.out ?_
  rintro _ V ⟨rfl, bV⟩
  have F : Hid (Below w.heap.size w V) := bV
  clear bV
  go_wp2
  go_ret
  exact ⟨rfl, F.out⟩
set_option maxHeartbeats 1000000 in
theorem lear_of (b : Value) (p : Pt) (i : Int) (w : World) (P : Calls Tryz.prog 53 #[b, .int .i64 i] w fun r V => r = .returned (.agg p.cs) ∧ Below w.heap.size w V) :
    Calls Tryz.prog 27 #[b, .int .i64 i] w fun r V => r = .returned (.bool (p.bt 10)) ∧ Below w.heap.size w V := by
  have Q : Hid _ := P
  clear P
  go_enter Tryz.func27, Tryz.ntmps27
  go_wp2_with fail
  refine Calls.mono Q.out ?_
  rintro _ V ⟨rfl, bV⟩
  have F : Hid (Below w.heap.size w V) := bV
  clear bV
  go_wp2
  go_ret
  exact ⟨rfl, F.out⟩
theorem one_tr (w : World) : ∃ W, w.alloc (.cells #[.int .u64 0, .int .u8 0, .int .u8 0, .int .u8 0, .int .u8 0, .int .u8 0, .bool false, .int .u16 0, .int .u64 0, .int .u32 0, .int .u64 0, .int .u16 0, .int .u8 0, .int .u8 0, .int .u8 0, .int .u8 0, .slice none 0 0] 39) = W ∧ RvAt W w.heap.size 39 (trc zeroH (.slice none 0 0)) ∧ Below w.heap.size w W := ⟨_, rfl, by rw [← zeroT_is]; exact RvAt.new _ _ _, (Below.refl _ _).alloc (Nat.le_refl _) _⟩
theorem new_brz (X : World) : ∃ Y, X.alloc (.cells #[.int .u64 0, .int .u8 0, .int .u8 0, .int .u8 0, .int .u8 0, .int .u8 0, .bool false, .int .u16 0, .int .u64 0, .int .u32 0, .int .u64 0, .int .u16 0, .int .u8 0, .int .u8 0, .int .u8 0, .int .u8 0, .slice none 0 0] 94) = Y ∧ RvAt Y X.heap.size 94 (trc zeroH (.slice none 0 0)) ∧ Below X.heap.size X Y := ⟨_, rfl, by rw [← zeroT_is]; exact RvAt.new _ _ _, (Below.refl _ _).alloc (Nat.le_refl _) _⟩
theorem one_cf (w : World) (c : Cf) (x : Value) : ∃ W, w.alloc (.cells (S9.cfc c x) 27) = W ∧ RvAt W w.heap.size 27 (S9.cfc c x) ∧ Below w.heap.size w W := ⟨_, rfl, RvAt.new _ _ _, (Below.refl _ _).alloc (Nat.le_refl _) _⟩
def newT (c : Cf) (l : List Int) : Ts := runT (S9.newH c) (S9.newPs l)
attribute [local go_sem ↓] ldC
set_option maxHeartbeats 4000000 in
theorem new_yes (c : Cf) (a : Option Addr) (n k : Nat) (l : List Int) (w : World) (hs : S9.CsAt w a n k l) (hn : n ≤ 100) (ok : S9.okC c l = true) :
    Calls Tryz.prog 9 #[.agg (S9.cfc c (.slice a n k))] w fun r V => ∃ B a' c', r = .returned (.tuple #[.pointer (some ⟨B, 0, none⟩), .int .i64 0]) ∧ BrAt V B (newT c l).h a' n c' (newT c l).s.l ∧ w.heap.size ≤ B ∧ Below w.heap.size w V := by
  obtain ⟨W, hW, rW, bW⟩ := one_cf w c (.slice a n k)
  have lc := rW.cld
  have P : Hid _ := S9.new_any c a n k l W (hs.below bW) (by omega)
  rw [ok] at P
  have B0 : Hid (Below w.heap.size w W ∧ l.length = n) := ⟨bW, hs.len⟩
  clear hs rW bW ok
  go_enter Tryz.func9, Tryz.ntmps9
  go_wp2_with fail
  refine Calls.mono P.out ?_
  rintro _ X ⟨v, rfl, oX, bX⟩
  have oX : Own X W.heap.size v (S9.newPs l) := oX
  obtain ⟨a1, c1, hv, s1, _⟩ := oX.form
  have hl : (S9.newPs l).length = n := by rw [← B0.out.2]; simp [S9.newPs]
  rw [hl] at hv s1
  subst hv
  obtain ⟨Y, sY, rY, bY, zY⟩ := new_tv X (S9.newH c) (.slice a1 n c1) rfl
  obtain ⟨z, hz⟩ : ∃ z, X.heap.size = z := ⟨_, rfl⟩
  rw [hz] at sY rY
  have sY : (stS 39 (.pointer (some ⟨z, 0, none⟩)) (.agg (trc (S9.hdN true c) (.slice a1 n c1)))).run Tryz.prog (X.alloc (.cells #[.int .u64 0, .int .u8 0, .int .u8 0, .int .u8 0, .int .u8 0, .int .u8 0, .bool false, .int .u16 0, .int .u64 0, .int .u32 0, .int .u64 0, .int .u16 0, .int .u8 0, .int .u8 0, .int .u8 0, .int .u8 0, .slice none 0 0] 39)) = .ok () Y := sY
  obtain ⟨U, hU, rU, bU⟩ := new_brz Y
  have ltU := (rY.below bU).tld
  have er : S9.erC true = 0 := rfl
  have G : Hid (SlAt U a1 n c1 (S9.newPs l) ∧ RvAt U Y.heap.size 94 (trc zeroH (.slice none 0 0)) ∧ Below w.heap.size w U ∧ w.heap.size ≤ Y.heap.size) := ⟨(s1.below bY).below bU, rU, below_over (below_over (below_over B0.out.1 bX) bY) bU, (below_over (below_over B0.out.1 bX) bY).size⟩
  obtain ⟨q, hq⟩ : ∃ q, Y.heap.size = q := ⟨_, rfl⟩
  rw [hq] at G
  clear lc P oX bX s1 hl rY bY zY rU bU
  go_wp2_with fail
  refine (lead_any (S9.newH c) a1 (S9.newPs l) G.out.2.1 G.out.1 hn).mono ?_
  rintro _ V ⟨v, a2, c2, rfl, bV, dV, gV⟩
  have F : Hid (BrAt V q (newT c l).h a2 n c2 (newT c l).s.l ∧ w.heap.size ≤ q ∧ Below w.heap.size w V) := ⟨bV, G.out.2.2.2, gro G.out.2.2.1 gV G.out.2.2.2 G.out.2.2.1.size⟩
  clear bV dV gV G
  go_wp2
  refine bodyPost_ret (results_tt Tryz.results9 _ _) rfl ?_
  exact ⟨q, a2, c2, rfl, F.out⟩
end S17
end
section
namespace S17
set_option maxRecDepth 100000
open Go.RowKit
open S14 (gtP gtP_at set_self)

def T0 : Ts := runT (S9.newH S15.cX) (S9.newPs [20000, 20000])
def E1 : Ev := evUp T0.h T0.s.l 0 true
end S17
end
section
namespace S17
set_option maxRecDepth 100000
open Go.RowKit
open S14 (gtP gtP_at set_self)

theorem cx_ok : S9.okC S15.cX [20000, 20000] = true := by kernel_rfl
theorem e1_at : (E1.o[1]?).map (fun r => (r.nm 0, r.nm 1, r.nm 8, r.bt 4)) = some (0, 3, 4, true) := by kernel_rfl
theorem e1_get : ∃ r : Ot, E1.o[1]? = some r ∧ r.cl[0]? = some (.int .i64 0) ∧ r.cl[1]? = some (.int .i64 3) ∧ r.cl[8]? = some (.int .i64 4) ∧ r.cl[4]? = some (.bool true) := by
  have h := e1_at
  cases hx : E1.o[1]? with
  | none => rw [hx] at h; cases h
  | some r =>
    rw [hx] at h
    simp only [Option.map_some, Option.some.injEq, Prod.mk.injEq] at h
    refine ⟨r, rfl, ?_, ?_, ?_, ?_⟩
    · rw [r.num (k := .i64) rfl, h.1]
    · rw [r.num (k := .i64) rfl, h.2.1]
    · rw [r.num (k := .i64) rfl, h.2.2.1]
    · rw [r.bit rfl, h.2.2.2]
theorem e1_e : E1.e = 0 := by kernel_rfl
theorem e1_l : E1.l.length = 2 := by kernel_rfl
theorem e1_n : E1.o.length = 2 := by kernel_rfl
theorem e1_r : (gtP E1.l 0).nm 30 = 4 := by kernel_rfl
theorem e1_f : (gtP E1.l 0).bt 8 = false := by kernel_rfl
theorem var_dn (W : World) (vo vf : Value) (h1 : vo.oneCell' = true) (h2 : vf.oneCell' = true) : ∃ W', (stS 52 (.pointer (some ⟨W.heap.size, 0, none⟩)) (.agg #[vo, vf])).run Tryz.prog (W.alloc (.cells #[.slice none 0 0, .slice none 0 0] 52)) = .ok () W' ∧ RvAt W' W.heap.size 52 #[vo, vf] ∧ Below W.heap.size W W' ∧ W'.heap.size = W.heap.size + 1 := row_new rtD W _ _ rfl rfl (two_one h1 h2)
attribute [local go_sem ↓] ldDn stDn
set_option maxHeartbeats 8000000 in
theorem awake_any (w : World) : Calls Tryz.prog 11 #[] w fun r V => r = .returned (.bool true) ∧ Below w.heap.size w V := by
  have K1 : Hid (newT S15.cX [20000, 20000] = T0) := rfl
  have K2 : Hid (evUp T0.h T0.s.l 0 true = E1) := rfl
  have K3 : Hid (E1.e = 0 ∧ E1.l.length = 2 ∧ E1.o.length = 2 ∧ (gtP E1.l 0).nm 30 = 4 ∧ (gtP E1.l 0).bt 8 = false) := ⟨e1_e, e1_l, e1_n, e1_r, e1_f⟩
  have K4 : Hid (∃ r : Ot, E1.o[1]? = some r ∧ r.cl[0]? = some (.int .i64 0) ∧ r.cl[1]? = some (.int .i64 3) ∧ r.cl[8]? = some (.int .i64 4) ∧ r.cl[4]? = some (.bool true)) := e1_get
  obtain ⟨t0, ht0⟩ : ∃ z, T0 = z := ⟨_, rfl⟩
  rw [ht0] at K1 K2
  obtain ⟨e1, he1⟩ : ∃ z, E1 = z := ⟨_, rfl⟩
  rw [he1] at K2 K3 K4
  clear ht0 he1
  go_enter Tryz.func11, Tryz.ntmps11
  go_wp2_with fail
  refine (S15.conf_any w).mono ?_
  rintro _ W1 ⟨a0, k0, rfl, s0, b0⟩
  have N1 : Hid _ := new_yes S15.cX a0 2 k0 [20000, 20000] W1 s0 (by omega) cx_ok
  rw [K1.out] at N1
  have B1 : Hid (Below w.heap.size w W1) := b0
  clear s0 b0
  go_wp2_with fail
  refine Calls.mono N1.out ?_
  rintro _ W2 ⟨B, a1, c1, rfl, s1, hB, b1⟩
  have U1 : Hid _ := up_any s1 0 true (by omega) (by omega)
  rw [K2.out] at U1
  have B2 : Hid (Below w.heap.size w W2 ∧ w.heap.size ≤ B) := ⟨below_over B1.out b1, Nat.le_trans B1.out.size hB⟩
  clear s1 hB b1 N1
  go_wp2_with fail
  refine Calls.mono U1.out ?_
  rintro _ W3 ⟨v3, a2, c2, rfl, s2, d2, g2⟩
  rw [K3.out.1]
  obtain ⟨vo, vf, rfl, o2, f2⟩ := d2.out
  obtain ⟨ao, co, rfl, so⟩ := o2.len
  rw [K3.out.2.2.1] at so
  rw [K3.out.2.2.1]
  obtain ⟨W4, e4, r4, b4, z4⟩ := var_dn W3 (.slice ao 2 co) vf rfl f2.one
  obtain ⟨z, hz⟩ : ∃ z, W3.heap.size = z := ⟨_, rfl⟩
  rw [hz] at e4 r4
  have E2 : Hid (evUp e1.h e1.l 2 true = Ev.no e1.h e1.l 5) := evUp_out (fun q => by have := q.2; have := K3.out.2.1; omega)
  have U2 : Hid _ := up_any (s2.below b4) 2 true (by omega) (by omega)
  rw [E2.out] at U2
  obtain ⟨xb, hxb⟩ : ∃ x, (Value.slice a2 2 c2) = x := ⟨_, rfl⟩
  have G : Hid (RvAt W4 z 52 #[.slice ao 2 co, vf] ∧ S16.SlAt eO W4 ao 2 co e1.o ∧ Below w.heap.size w W4 ∧ RvAt W4 B 94 (trc e1.h xb)) := by
    have hlt := (s2.below b4).var
    rw [hxb] at hlt
    exact ⟨r4, so.below b4, below_over (gro B2.out.1 g2 B2.out.2 B2.out.1.size) b4, hlt⟩
  clear s2 d2 g2 o2 f2 so r4 b4 z4 U1 E2 hxb
  go_wp2_with fail
  refine Calls.mono U2.out ?_
  rintro _ W5 ⟨v5, a3, c3, rfl, s3, d3, g3⟩
  obtain ⟨wo, wf, rfl, o3, f3⟩ := d3.out
  obtain ⟨W6, e6, r6, b6, z6⟩ := var_dn W5 wo wf o3.one f3.one
  have S6 : Hid (BrAt W6 B e1.h a3 2 c3 e1.l) := s3.below b6
  have r6' := (G.out.1.keptBut g3 (by have := ne_type G.out.1 G.out.2.2.2 (by decide); simpa using this)).below b6
  have sG := (G.out.2.1.keptV G.out.2.2.2 (by decide) g3).below b6
  have B6 : Hid (Below w.heap.size w W6) := below_over (gro G.out.2.2.1 g3 B2.out.2 G.out.2.2.1.size) b6
  obtain ⟨ob, oo, rfl⟩ := sG.some' (by omega)
  obtain ⟨x, hx, x0, x1, x8, x4⟩ := K4.out
  have d0 := r6'.cell 0 _ rfl
  have m0 : W6.cell? ⟨ob, oo + 17, none⟩ = some (.int .i64 0) := sG.cell kO (j := 0) hx (by show x.cs[0]? = _; rw [Row.cget]; exact x0) (by simp [eO])
  have m1 : W6.cell? ⟨ob, oo + 17 + 1, none⟩ = some (.int .i64 3) := sG.cell kO (j := 1) hx (by show x.cs[1]? = _; rw [Row.cget]; exact x1) (by simp [eO])
  have m8 : W6.cell? ⟨ob, oo + 17 + 1 + 7, none⟩ = some (.int .i64 4) := sG.cell kO (j := 8) hx (by show x.cs[8]? = _; rw [Row.cget]; exact x8) (by simp [eO])
  have m4 : W6.cell? ⟨ob, oo + 17 + 1 + 3, none⟩ = some (.bool true) := sG.cell kO (j := 4) hx (by show x.cs[4]? = _; rw [Row.cget]; exact x4) (by simp [eO])
  have P30 : Hid _ := role_of _ _ 0 W6 (port_any S6.out 0 (by omega))
  have P8 : Hid (∀ V, Below W6.heap.size W6 V → _) := fun V b => forw_of _ _ 0 V (port_any (S6.out.below b) 0 (by omega))
  have hpt : ptAt e1.l 0 = gtP e1.l 0 := ptAt_in (k := 0) (by rw [K3.out.2.1]; omega)
  rw [hpt, K3.out.2.2.2.1] at P30
  rw [hpt, K3.out.2.2.2.2] at P8
  clear hpt s3 d3 g3 o3 f3 r6 b6 z6 r6' sG hx x0 x1 x8 x4 G U2
  go_wp2_with fail
  refine Calls.mono P30.out ?_
  rintro _ V1 ⟨rfl, q1⟩
  have B7 : Hid (Below w.heap.size w V1) := below_over B6.out q1
  have Q8 : Hid _ := P8.out V1 q1
  clear q1 P8 P30
  go_wp2_with fail
  refine Calls.mono Q8.out ?_
  rintro _ V2 ⟨rfl, q2⟩
  have F : Hid (Below w.heap.size w V2) := below_over B7.out q2
  clear q2
  go_wp2
  go_ret
  exact ⟨rfl, F.out⟩
end S17
end
section
namespace S17
open Go.RowKit
open S14 (gtP gtP_at set_self)

def Un (w : World) (b : Value) : Prop := ∀ W, Below w.heap.size w W → Calls Tryz.prog 45 #[b] W fun r V => r = .returned (.bool false) ∧ V = W
theorem Un.below {w W : World} {b : Value} (u : Un w b) (k : Below w.heap.size w W) : Un W b := fun V q => u V (below_over k q)
abbrev dnz : Value := .agg #[.slice none 0 0, .slice none 0 0]
attribute [local go_sem ↓] ldT stT ldDn stDn ldM stM
set_option maxHeartbeats 1000000 in
theorem lacks_un {w : World} {b : Value} (u : Un w b) (i : Int) : Calls Tryz.prog 42 #[b, .int .i64 i] w fun r V => r = .returned (.int .i64 4) ∧ V = w := by
  have P : Hid _ := u w (Below.refl _ _)
  clear u
  go_enter Tryz.func42, Tryz.ntmps42
  go_wp2_with fail
  refine Calls.mono P.out ?_
  rintro _ V ⟨rfl, rfl⟩
  go_wp2
  go_ret
  exact ⟨rfl, rfl⟩
set_option maxHeartbeats 1000000 in
theorem there_un {w : World} {b : Value} (u : Un w b) (i : Int) : Calls Tryz.prog 65 #[b, .int .i64 i] w fun r V => r = .returned (.bool false) ∧ V = w := by
  have P : Hid _ := u w (Below.refl _ _)
  clear u
  go_enter Tryz.func65, Tryz.ntmps65
  go_wp2_with fail
  refine Calls.mono P.out ?_
  rintro _ V ⟨rfl, rfl⟩
  go_wp2
  go_ret
  exact ⟨rfl, rfl⟩
theorem st_dn {w W : World} (b : Below w.heap.size w W) {d : Nat} (hd : w.heap.size ≤ d) (r : RvAt W d 52 #[.slice none 0 0, .slice none 0 0]) : ∃ V, (stS 52 (.pointer (some ⟨d, 0, none⟩)) dnz).run Tryz.prog W = .ok () V ∧ RvAt V d 52 #[.slice none 0 0, .slice none 0 0] ∧ Below w.heap.size w V := by
  have e := r.st (ds := #[.slice none 0 0, .slice none 0 0]) rtD rfl rfl (two_one rfl rfl)
  exact ⟨_, e, r.set, gro b (grown_row W d _) hd b.size⟩
set_option maxHeartbeats 1000000 in
theorem up_un {w : World} {b : Value} (u : Un w b) (i : Int) (on : Bool) : Calls Tryz.prog 12 #[b, .int .i64 i, .bool on] w fun r V => r = .returned (.tuple #[dnz, .int .i64 4]) ∧ Below w.heap.size w V := by
  obtain ⟨W, hW, rW, bW⟩ := one_dn w
  obtain ⟨V, eV, rV, bV⟩ := st_dn bW (Nat.le_refl _) rW
  have F : Hid (RvAt V w.heap.size 52 #[.slice none 0 0, .slice none 0 0] ∧ Below w.heap.size w V) := ⟨rV, bV⟩
  have P : Hid _ := lacks_un (u.below bW) i
  clear u rW bW rV bV
  go_enter Tryz.func12, Tryz.ntmps12
  go_wp2_with fail
  refine Calls.mono P.out ?_
  rintro _ V' ⟨rfl, rfl⟩
  go_wp2
  refine bodyPost_ret (results_rowtmp rtD Tryz.results12 _ _ _ _ rfl F.out.1 rfl) rfl ?_
  exact ⟨rfl, F.out.2⟩
set_option maxHeartbeats 1000000 in
theorem hear_un {w : World} {b : Value} (u : Un w b) (i : Int) (m : Mg) : Calls Tryz.prog 14 #[b, .int .i64 i, .agg m.cs] w fun r V => r = .returned (.tuple #[dnz, .int .i64 4]) ∧ Below w.heap.size w V := by
  obtain ⟨A, hA⟩ : ∃ A, w.alloc (.cells m.cs 46) = A := ⟨_, rfl⟩
  have bA : Below w.heap.size w A := by rw [← hA]; exact (Below.refl _ _).alloc (Nat.le_refl _) _
  have zA : A.heap.size = w.heap.size + 1 := by rw [← hA]; simp
  obtain ⟨W, hW, rW, bW'⟩ := one_dn A
  have bW := below_over bA bW'
  rw [zA] at rW
  obtain ⟨V, eV, rV, bV⟩ := st_dn bW (by omega) rW
  have F : Hid (RvAt V (w.heap.size + 1) 52 #[.slice none 0 0, .slice none 0 0] ∧ Below w.heap.size w V) := ⟨rV, bV⟩
  have P : Hid _ := lacks_un (u.below bW) i
  clear u rW bW rV bV bW' bA
  go_enter Tryz.func14, Tryz.ntmps14
  go_wp2_with fail
  refine Calls.mono P.out ?_
  rintro _ V' ⟨rfl, rfl⟩
  go_wp2
  refine bodyPost_ret (results_rowtmp rtD Tryz.results14 _ _ _ _ rfl F.out.1 rfl) rfl ?_
  exact ⟨rfl, F.out.2⟩
set_option maxHeartbeats 1000000 in
theorem tick_un {w : World} {b : Value} (u : Un w b) : Calls Tryz.prog 16 #[b] w fun r V => r = .returned (.tuple #[dnz, .int .i64 4]) ∧ Below w.heap.size w V := by
  obtain ⟨W, hW, rW, bW⟩ := one_dn w
  obtain ⟨V, eV, rV, bV⟩ := st_dn bW (Nat.le_refl _) rW
  have F : Hid (RvAt V w.heap.size 52 #[.slice none 0 0, .slice none 0 0] ∧ Below w.heap.size w V) := ⟨rV, bV⟩
  have P : Hid _ := u W bW
  clear u rW bW rV bV
  go_enter Tryz.func16, Tryz.ntmps16
  go_wp2_with fail
  refine Calls.mono P.out ?_
  rintro _ V' ⟨rfl, rfl⟩
  go_wp2
  refine bodyPost_ret (results_rowtmp rtD Tryz.results16 _ _ _ _ rfl F.out.1 rfl) rfl ?_
  exact ⟨rfl, F.out.2⟩
set_option maxHeartbeats 1000000 in
theorem setid_un {w : World} {b : Value} (u : Un w b) (x : Int) : Calls Tryz.prog 18 #[b, .int .u64 x] w fun r V => r = .returned (.tuple #[dnz, .int .i64 4]) ∧ Below w.heap.size w V := by
  obtain ⟨W, hW, rW, bW⟩ := one_dn w
  obtain ⟨V, eV, rV, bV⟩ := st_dn bW (Nat.le_refl _) rW
  have F : Hid (RvAt V w.heap.size 52 #[.slice none 0 0, .slice none 0 0] ∧ Below w.heap.size w V) := ⟨rV, bV⟩
  have P : Hid _ := u W bW
  clear u rW bW rV bV
  go_enter Tryz.func18, Tryz.ntmps18
  go_wp2_with fail
  refine Calls.mono P.out ?_
  rintro _ V' ⟨rfl, rfl⟩
  go_wp2
  refine bodyPost_ret (results_rowtmp rtD Tryz.results18 _ _ _ _ rfl F.out.1 rfl) rfl ?_
  exact ⟨rfl, F.out.2⟩
set_option maxHeartbeats 1000000 in
theorem setcost_un {w : World} {b : Value} (u : Un w b) (i x : Int) : Calls Tryz.prog 20 #[b, .int .i64 i, .int .u32 x] w fun r V => r = .returned (.tuple #[dnz, .int .i64 4]) ∧ Below w.heap.size w V := by
  obtain ⟨W, hW, rW, bW⟩ := one_dn w
  obtain ⟨V, eV, rV, bV⟩ := st_dn bW (Nat.le_refl _) rW
  have F : Hid (RvAt V w.heap.size 52 #[.slice none 0 0, .slice none 0 0] ∧ Below w.heap.size w V) := ⟨rV, bV⟩
  have P : Hid _ := lacks_un (u.below bW) i
  clear u rW bW rV bV
  go_enter Tryz.func20, Tryz.ntmps20
  go_wp2_with fail
  refine Calls.mono P.out ?_
  rintro _ V' ⟨rfl, rfl⟩
  go_wp2
  refine bodyPost_ret (results_rowtmp rtD Tryz.results20 _ _ _ _ rfl F.out.1 rfl) rfl ?_
  exact ⟨rfl, F.out.2⟩
set_option maxHeartbeats 1000000 in
theorem tree_un {w : World} {b : Value} (u : Un w b) : Calls Tryz.prog 25 #[b] w fun r V => r = .returned (.agg (trc zeroH (.slice none 0 0))) ∧ Below w.heap.size w V := by
  obtain ⟨W, hW, rW, bW⟩ := one_tr w
  obtain ⟨V, eV, rV, gV⟩ := rW.tst (g := zeroH) (y := .slice none 0 0) rfl
  rw [← zeroT_is] at eV
  unfold zeroT at eV
  have F : Hid (RvAt V w.heap.size 39 (trc zeroH (.slice none 0 0)) ∧ Below w.heap.size w V) := ⟨rV, gro bW gV (Nat.le_refl _) bW.size⟩
  have P : Hid _ := u W bW
  clear u rW bW rV gV
  go_enter Tryz.func25, Tryz.ntmps25
  go_wp2_with fail
  refine Calls.mono P.out ?_
  rintro _ V' ⟨rfl, rfl⟩
  go_wp2
  refine bodyPost_ret (results_row rtT Tryz.results25 _ _ _ _ rfl F.out.1 (trc_size _ _)) rfl ?_
  exact ⟨rfl, F.out.2⟩
set_option maxHeartbeats 1000000 in
theorem fork_un {w : World} {b : Value} (u : Un w b) : Calls Tryz.prog 22 #[b] w fun r V => r = .returned (.pointer none) ∧ V = w := by
  have P : Hid _ := u w (Below.refl _ _)
  clear u
  go_enter Tryz.func22, Tryz.ntmps22
  go_wp2_with fail
  refine Calls.mono P.out ?_
  rintro _ V ⟨rfl, rfl⟩
  go_wp2
  go_ret
  exact ⟨rfl, rfl⟩
theorem port_un {w : World} {b : Value} (u : Un w b) (i : Int) : Calls Tryz.prog 53 #[b, .int .i64 i] w fun r V => r = .returned (.agg zeroP.cs) ∧ Below w.heap.size w V := port_no b i w (fun W k => there_un (u.below k) i)
def kdQ : List (Option IntKind) := [some .i64, some .i64, none] ++ kdM ++ [some .u64, some .u32]
abbrev Qr := Row kdQ
def zeroQ : Qr := zeroR kdQ
theorem plainQ : PlainTy 48 kdQ := ⟨by kernel_rfl, by kernel_rfl, ⟨_, Tryz.underlying48⟩, by kernel_rfl⟩
def mOf (q : Qr) : Mg := ⟨(q.cl.drop 3).take 16, (q.sub 3 16).ok⟩
theorem q_msg {W : World} {b : Nat} {q : Qr} (r : RvAt W b 48 q.cs) : (ldS 46 (.pointer (some ⟨b, 3, none⟩))).run Tryz.prog W = .ok (.agg (mOf q).cs) W :=
  run_loadAt_mid W b 3 46 (mOf q).cl _ (fun j v hv => by
    refine r.cell (3 + j) v ?_
    rw [Row.cget]
    have hj : j < 16 := by
      have := (List.getElem?_eq_some_iff.1 hv).1
      rw [Row.len, lenM] at this
      exact this
    have : (mOf q).cl[j]? = q.cl[3 + j]? := by
      show ((q.cl.drop 3).take 16)[j]? = _
      rw [List.getElem?_take, if_pos hj, List.getElem?_drop]
    rw [← this]
    exact hv) Tryz.underlying46 rfl (by rw [Row.len, lenM]; exact infoM)
theorem one_op (w : World) (q : Qr) : ∃ W, w.alloc (.cells q.cs 48) = W ∧ RvAt W w.heap.size 48 q.cs ∧ Below w.heap.size w W := ⟨_, rfl, RvAt.new _ _ _, (Below.refl _ _).alloc (Nat.le_refl _) _⟩
attribute [local go_sem ↓] ldDn stDn ldM ldT
set_option maxHeartbeats 16000000 in
theorem RstpNobody_walk (q : Qr) (w : World) : Calls Tryz.prog 8 #[.agg q.cs] w fun r V => r = .returned (.bool true) ∧ Below w.heap.size w V := by
  obtain ⟨W, hW, rW, bW⟩ := one_op w q
  obtain ⟨A, hA, rA, bA⟩ := new_brz W
  obtain ⟨C, hC⟩ : ∃ C, A.alloc (.cells #[.pointer none, .pointer (some ⟨W.heap.size, 0, none⟩)] 29) = C := ⟨_, rfl⟩
  have rC : RvAt C A.heap.size 29 #[.pointer none, .pointer (some ⟨W.heap.size, 0, none⟩)] := by rw [← hC]; exact RvAt.new _ _ _
  have bC : Below A.heap.size A C := by rw [← hC]; exact (Below.refl _ _).alloc (Nat.le_refl _) _
  obtain ⟨zb, hzb⟩ : ∃ z, W.heap.size = z := ⟨_, rfl⟩
  obtain ⟨zs, hzs⟩ : ∃ z, A.heap.size = z := ⟨_, rfl⟩
  rw [hzb] at rA rC hC
  rw [hzs] at rC
  have K : Hid (RvAt C w.heap.size 48 q.cs ∧ RvAt C zs 29 #[.pointer none, .pointer (some ⟨zb, 0, none⟩)] ∧ Below w.heap.size w C ∧ Un C (.pointer none) ∧ Un C (.pointer (some ⟨zb, 0, none⟩))) := by
    refine ⟨(rW.below bA).below bC, rC, below_over (below_over bW bA) bC, fun V _ => made_nil V, fun V k => ?_⟩
    have s : BrAt V zb zeroH none 0 0 [] := ⟨(rA.below bC).below k, SlAt.none' V⟩
    exact made_any s
  clear rW bW rA bA rC bC
  go_enter Tryz.func8, Tryz.ntmps8
  go_wp2_with fail
  go_loopw [21] (fun v21 wr => ∃ j : Nat, j ≤ 2 ∧ v21 = .int .i64 j ∧ Below C.heap.size C wr) (fun v21 _ => 2 - (intOf v21).toNat)
  case atStart => exact ⟨0, by omega, rfl, Below.refl _ _⟩
  case round =>
    obtain ⟨j, hj, rfl, hb⟩ := hrel
    clear hW hA hC hzb hzs
    obtain ⟨V0, rfl⟩ : ∃ V, V = wr := ⟨_, rfl⟩
    have B0 : Hid (Below C.heap.size C V0) := hb
    clear hb
    rcases (show j = 0 ∨ j = 1 ∨ j = 2 by omega) with rfl | rfl | rfl
    · have c0 := (K.out.2.1.below B0.out).cell 0 _ rfl
      have rq := K.out.1.below B0.out
      have q1 := rq.cell 1 _ (by rw [Row.cget]; exact q.num (k := .i64) rfl)
      have q2 := rq.cell 2 _ (by rw [Row.cget]; exact q.bit rfl)
      clear rq
      go_wp2_with fail
      refine (up_un (K.out.2.2.2.1.below B0.out) (q.nm 1) (q.bt 2)).mono ?_
      rintro _ X0 ⟨rfl, b0⟩
      obtain ⟨Y0, e0, r0, d0, z0⟩ := var_dn X0 (.slice none 0 0) (.slice none 0 0) rfl rfl
      obtain ⟨t0, ht0⟩ : ∃ z, X0.heap.size = z := ⟨_, rfl⟩
      rw [ht0] at e0 r0
      have C0 : Hid (Below C.heap.size C Y0) := below_over (below_over B0.out b0) d0
      have R0_0 : Hid (RvAt Y0 t0 52 #[.slice none 0 0, .slice none 0 0]) := r0
      clear r0 b0 d0 z0 c0 q1 q2
      have rq := K.out.1.below C0.out
      have q1 := rq.cell 1 _ (by rw [Row.cget]; exact q.num (k := .i64) rfl)
      have qm := q_msg rq
      clear rq
      go_wp2_with fail
      refine (hear_un (K.out.2.2.2.1.below C0.out) (q.nm 1) (mOf q)).mono ?_
      rintro _ X1 ⟨rfl, b1⟩
      obtain ⟨Y1, e1, r1, d1, z1⟩ := var_dn X1 (.slice none 0 0) (.slice none 0 0) rfl rfl
      obtain ⟨t1, ht1⟩ : ∃ z, X1.heap.size = z := ⟨_, rfl⟩
      rw [ht1] at e1 r1
      have C1 : Hid (Below C.heap.size C Y1) := below_over (below_over C0.out b1) d1
      have R1_0 : Hid (RvAt Y1 t0 52 #[.slice none 0 0, .slice none 0 0]) := (R0_0.out.below b1).below d1
      have R1_1 : Hid (RvAt Y1 t1 52 #[.slice none 0 0, .slice none 0 0]) := r1
      clear r1 b1 d1 z1 q1 qm
      have rq := K.out.1.below C1.out
      clear rq
      go_wp2_with fail
      refine (tick_un (K.out.2.2.2.1.below C1.out) ).mono ?_
      rintro _ X2 ⟨rfl, b2⟩
      obtain ⟨Y2, e2, r2, d2, z2⟩ := var_dn X2 (.slice none 0 0) (.slice none 0 0) rfl rfl
      obtain ⟨t2, ht2⟩ : ∃ z, X2.heap.size = z := ⟨_, rfl⟩
      rw [ht2] at e2 r2
      have C2 : Hid (Below C.heap.size C Y2) := below_over (below_over C1.out b2) d2
      have R2_0 : Hid (RvAt Y2 t0 52 #[.slice none 0 0, .slice none 0 0]) := (R1_0.out.below b2).below d2
      have R2_1 : Hid (RvAt Y2 t1 52 #[.slice none 0 0, .slice none 0 0]) := (R1_1.out.below b2).below d2
      have R2_2 : Hid (RvAt Y2 t2 52 #[.slice none 0 0, .slice none 0 0]) := r2
      clear r2 b2 d2 z2 
      have rq := K.out.1.below C2.out
      have q19 := rq.cell 19 _ (by rw [Row.cget]; exact q.num (k := .u64) rfl)
      clear rq
      go_wp2_with fail
      refine (setid_un (K.out.2.2.2.1.below C2.out) (q.nm 19)).mono ?_
      rintro _ X3 ⟨rfl, b3⟩
      obtain ⟨Y3, e3, r3, d3, z3⟩ := var_dn X3 (.slice none 0 0) (.slice none 0 0) rfl rfl
      obtain ⟨t3, ht3⟩ : ∃ z, X3.heap.size = z := ⟨_, rfl⟩
      rw [ht3] at e3 r3
      have C3 : Hid (Below C.heap.size C Y3) := below_over (below_over C2.out b3) d3
      have R3_0 : Hid (RvAt Y3 t0 52 #[.slice none 0 0, .slice none 0 0]) := (R2_0.out.below b3).below d3
      have R3_1 : Hid (RvAt Y3 t1 52 #[.slice none 0 0, .slice none 0 0]) := (R2_1.out.below b3).below d3
      have R3_2 : Hid (RvAt Y3 t2 52 #[.slice none 0 0, .slice none 0 0]) := (R2_2.out.below b3).below d3
      have R3_3 : Hid (RvAt Y3 t3 52 #[.slice none 0 0, .slice none 0 0]) := r3
      clear r3 b3 d3 z3 q19
      have rq := K.out.1.below C3.out
      have q1 := rq.cell 1 _ (by rw [Row.cget]; exact q.num (k := .i64) rfl)
      have q20 := rq.cell 20 _ (by rw [Row.cget]; exact q.num (k := .u32) rfl)
      clear rq
      go_wp2_with fail
      refine (setcost_un (K.out.2.2.2.1.below C3.out) (q.nm 1) (q.nm 20)).mono ?_
      rintro _ X4 ⟨rfl, b4⟩
      obtain ⟨Y4, e4, r4, d4, z4⟩ := var_dn X4 (.slice none 0 0) (.slice none 0 0) rfl rfl
      obtain ⟨t4, ht4⟩ : ∃ z, X4.heap.size = z := ⟨_, rfl⟩
      rw [ht4] at e4 r4
      have C4 : Hid (Below C.heap.size C Y4) := below_over (below_over C3.out b4) d4
      have R4_0 : Hid (RvAt Y4 t0 52 #[.slice none 0 0, .slice none 0 0]) := (R3_0.out.below b4).below d4
      have R4_1 : Hid (RvAt Y4 t1 52 #[.slice none 0 0, .slice none 0 0]) := (R3_1.out.below b4).below d4
      have R4_2 : Hid (RvAt Y4 t2 52 #[.slice none 0 0, .slice none 0 0]) := (R3_2.out.below b4).below d4
      have R4_3 : Hid (RvAt Y4 t3 52 #[.slice none 0 0, .slice none 0 0]) := (R3_3.out.below b4).below d4
      have R4_4 : Hid (RvAt Y4 t4 52 #[.slice none 0 0, .slice none 0 0]) := r4
      clear r4 b4 d4 z4 q1 q20
      have o0 := R4_0.out.cell 0 _ rfl
      have o1 := R4_1.out.cell 0 _ rfl
      have o2 := R4_2.out.cell 0 _ rfl
      have o3 := R4_3.out.cell 0 _ rfl
      have o4 := R4_4.out.cell 0 _ rfl
      go_wp2_with fail
      refine (tree_un (K.out.2.2.2.1.below C4.out)).mono ?_
      rintro _ X5 ⟨rfl, b5⟩
      have B5 : Hid (Below C.heap.size C X5) := below_over C4.out b5
      clear b5 o0 o1 o2 o3 o4 e0 e1 e2 e3 e4 ht0 ht1 ht2 ht3 ht4
      have P : Hid _ := S15.rsame_any zeroH zeroH none none 0 0 0 0 [] [] X5 (SlAt.none' X5) (SlAt.none' X5) (by omega) (by omega)
      rw [S15.sameT_self, ← zeroT_is] at P
      unfold zeroT at P
      rw [← zeroT_is]
      unfold zeroT
      go_wp2_with fail
      refine Calls.mono P.out ?_
      rintro _ X6 ⟨rfl, b6⟩
      have B6 : Hid (Below C.heap.size C X6) := below_over B5.out b6
      clear b6 P
      go_wp2_with fail
      refine (lear_of _ zeroP 0 X6 (port_un (K.out.2.2.2.1.below B6.out) 0)).mono ?_
      rintro _ X7 ⟨rfl, b7⟩
      have B7 : Hid (Below C.heap.size C X7) := below_over B6.out b7
      clear b7
      rw [show zeroP.bt 10 = false from rfl]
      go_wp2_with fail
      refine (forw_of _ zeroP 0 X7 (port_un (K.out.2.2.2.1.below B7.out) 0)).mono ?_
      rintro _ X8 ⟨rfl, b8⟩
      have B8 : Hid (Below C.heap.size C X8) := below_over B7.out b8
      clear b8
      rw [show zeroP.bt 8 = false from rfl]
      go_wp2_with fail
      refine (role_of _ zeroP 0 X8 (port_un (K.out.2.2.2.1.below B8.out) 0)).mono ?_
      rintro _ X9 ⟨rfl, b9⟩
      have B9 : Hid (Below C.heap.size C X9) := below_over B8.out b9
      clear b9
      rw [show zeroP.nm 30 = 0 from rfl]
      go_wp2_with fail
      refine (fork_un (K.out.2.2.2.1.below B9.out)).mono ?_
      rintro _ X10 ⟨rfl, rfl⟩
      go_wp2
      go_roundw
      case rel => exact ⟨1, by omega, by go_num, B9.out⟩
      case measure => simp [intOf]
    · have c0 := (K.out.2.1.below B0.out).cell 1 _ rfl
      have rq := K.out.1.below B0.out
      have q1 := rq.cell 1 _ (by rw [Row.cget]; exact q.num (k := .i64) rfl)
      have q2 := rq.cell 2 _ (by rw [Row.cget]; exact q.bit rfl)
      clear rq
      go_wp2_with fail
      refine (up_un (K.out.2.2.2.2.below B0.out) (q.nm 1) (q.bt 2)).mono ?_
      rintro _ X0 ⟨rfl, b0⟩
      obtain ⟨Y0, e0, r0, d0, z0⟩ := var_dn X0 (.slice none 0 0) (.slice none 0 0) rfl rfl
      obtain ⟨t0, ht0⟩ : ∃ z, X0.heap.size = z := ⟨_, rfl⟩
      rw [ht0] at e0 r0
      have C0 : Hid (Below C.heap.size C Y0) := below_over (below_over B0.out b0) d0
      have R0_0 : Hid (RvAt Y0 t0 52 #[.slice none 0 0, .slice none 0 0]) := r0
      clear r0 b0 d0 z0 c0 q1 q2
      have rq := K.out.1.below C0.out
      have q1 := rq.cell 1 _ (by rw [Row.cget]; exact q.num (k := .i64) rfl)
      have qm := q_msg rq
      clear rq
      go_wp2_with fail
      refine (hear_un (K.out.2.2.2.2.below C0.out) (q.nm 1) (mOf q)).mono ?_
      rintro _ X1 ⟨rfl, b1⟩
      obtain ⟨Y1, e1, r1, d1, z1⟩ := var_dn X1 (.slice none 0 0) (.slice none 0 0) rfl rfl
      obtain ⟨t1, ht1⟩ : ∃ z, X1.heap.size = z := ⟨_, rfl⟩
      rw [ht1] at e1 r1
      have C1 : Hid (Below C.heap.size C Y1) := below_over (below_over C0.out b1) d1
      have R1_0 : Hid (RvAt Y1 t0 52 #[.slice none 0 0, .slice none 0 0]) := (R0_0.out.below b1).below d1
      have R1_1 : Hid (RvAt Y1 t1 52 #[.slice none 0 0, .slice none 0 0]) := r1
      clear r1 b1 d1 z1 q1 qm
      have rq := K.out.1.below C1.out
      clear rq
      go_wp2_with fail
      refine (tick_un (K.out.2.2.2.2.below C1.out) ).mono ?_
      rintro _ X2 ⟨rfl, b2⟩
      obtain ⟨Y2, e2, r2, d2, z2⟩ := var_dn X2 (.slice none 0 0) (.slice none 0 0) rfl rfl
      obtain ⟨t2, ht2⟩ : ∃ z, X2.heap.size = z := ⟨_, rfl⟩
      rw [ht2] at e2 r2
      have C2 : Hid (Below C.heap.size C Y2) := below_over (below_over C1.out b2) d2
      have R2_0 : Hid (RvAt Y2 t0 52 #[.slice none 0 0, .slice none 0 0]) := (R1_0.out.below b2).below d2
      have R2_1 : Hid (RvAt Y2 t1 52 #[.slice none 0 0, .slice none 0 0]) := (R1_1.out.below b2).below d2
      have R2_2 : Hid (RvAt Y2 t2 52 #[.slice none 0 0, .slice none 0 0]) := r2
      clear r2 b2 d2 z2 
      have rq := K.out.1.below C2.out
      have q19 := rq.cell 19 _ (by rw [Row.cget]; exact q.num (k := .u64) rfl)
      clear rq
      go_wp2_with fail
      refine (setid_un (K.out.2.2.2.2.below C2.out) (q.nm 19)).mono ?_
      rintro _ X3 ⟨rfl, b3⟩
      obtain ⟨Y3, e3, r3, d3, z3⟩ := var_dn X3 (.slice none 0 0) (.slice none 0 0) rfl rfl
      obtain ⟨t3, ht3⟩ : ∃ z, X3.heap.size = z := ⟨_, rfl⟩
      rw [ht3] at e3 r3
      have C3 : Hid (Below C.heap.size C Y3) := below_over (below_over C2.out b3) d3
      have R3_0 : Hid (RvAt Y3 t0 52 #[.slice none 0 0, .slice none 0 0]) := (R2_0.out.below b3).below d3
      have R3_1 : Hid (RvAt Y3 t1 52 #[.slice none 0 0, .slice none 0 0]) := (R2_1.out.below b3).below d3
      have R3_2 : Hid (RvAt Y3 t2 52 #[.slice none 0 0, .slice none 0 0]) := (R2_2.out.below b3).below d3
      have R3_3 : Hid (RvAt Y3 t3 52 #[.slice none 0 0, .slice none 0 0]) := r3
      clear r3 b3 d3 z3 q19
      have rq := K.out.1.below C3.out
      have q1 := rq.cell 1 _ (by rw [Row.cget]; exact q.num (k := .i64) rfl)
      have q20 := rq.cell 20 _ (by rw [Row.cget]; exact q.num (k := .u32) rfl)
      clear rq
      go_wp2_with fail
      refine (setcost_un (K.out.2.2.2.2.below C3.out) (q.nm 1) (q.nm 20)).mono ?_
      rintro _ X4 ⟨rfl, b4⟩
      obtain ⟨Y4, e4, r4, d4, z4⟩ := var_dn X4 (.slice none 0 0) (.slice none 0 0) rfl rfl
      obtain ⟨t4, ht4⟩ : ∃ z, X4.heap.size = z := ⟨_, rfl⟩
      rw [ht4] at e4 r4
      have C4 : Hid (Below C.heap.size C Y4) := below_over (below_over C3.out b4) d4
      have R4_0 : Hid (RvAt Y4 t0 52 #[.slice none 0 0, .slice none 0 0]) := (R3_0.out.below b4).below d4
      have R4_1 : Hid (RvAt Y4 t1 52 #[.slice none 0 0, .slice none 0 0]) := (R3_1.out.below b4).below d4
      have R4_2 : Hid (RvAt Y4 t2 52 #[.slice none 0 0, .slice none 0 0]) := (R3_2.out.below b4).below d4
      have R4_3 : Hid (RvAt Y4 t3 52 #[.slice none 0 0, .slice none 0 0]) := (R3_3.out.below b4).below d4
      have R4_4 : Hid (RvAt Y4 t4 52 #[.slice none 0 0, .slice none 0 0]) := r4
      clear r4 b4 d4 z4 q1 q20
      have o0 := R4_0.out.cell 0 _ rfl
      have o1 := R4_1.out.cell 0 _ rfl
      have o2 := R4_2.out.cell 0 _ rfl
      have o3 := R4_3.out.cell 0 _ rfl
      have o4 := R4_4.out.cell 0 _ rfl
      go_wp2_with fail
      refine (tree_un (K.out.2.2.2.2.below C4.out)).mono ?_
      rintro _ X5 ⟨rfl, b5⟩
      have B5 : Hid (Below C.heap.size C X5) := below_over C4.out b5
      clear b5 o0 o1 o2 o3 o4 e0 e1 e2 e3 e4 ht0 ht1 ht2 ht3 ht4
      have P : Hid _ := S15.rsame_any zeroH zeroH none none 0 0 0 0 [] [] X5 (SlAt.none' X5) (SlAt.none' X5) (by omega) (by omega)
      rw [S15.sameT_self, ← zeroT_is] at P
      unfold zeroT at P
      rw [← zeroT_is]
      unfold zeroT
      go_wp2_with fail
      refine Calls.mono P.out ?_
      rintro _ X6 ⟨rfl, b6⟩
      have B6 : Hid (Below C.heap.size C X6) := below_over B5.out b6
      clear b6 P
      go_wp2_with fail
      refine (lear_of _ zeroP 0 X6 (port_un (K.out.2.2.2.2.below B6.out) 0)).mono ?_
      rintro _ X7 ⟨rfl, b7⟩
      have B7 : Hid (Below C.heap.size C X7) := below_over B6.out b7
      clear b7
      rw [show zeroP.bt 10 = false from rfl]
      go_wp2_with fail
      refine (forw_of _ zeroP 0 X7 (port_un (K.out.2.2.2.2.below B7.out) 0)).mono ?_
      rintro _ X8 ⟨rfl, b8⟩
      have B8 : Hid (Below C.heap.size C X8) := below_over B7.out b8
      clear b8
      rw [show zeroP.bt 8 = false from rfl]
      go_wp2_with fail
      refine (role_of _ zeroP 0 X8 (port_un (K.out.2.2.2.2.below B8.out) 0)).mono ?_
      rintro _ X9 ⟨rfl, b9⟩
      have B9 : Hid (Below C.heap.size C X9) := below_over B8.out b9
      clear b9
      rw [show zeroP.nm 30 = 0 from rfl]
      go_wp2_with fail
      refine (fork_un (K.out.2.2.2.2.below B9.out)).mono ?_
      rintro _ X10 ⟨rfl, rfl⟩
      go_wp2
      go_roundw
      case rel => exact ⟨2, by omega, by go_num, B9.out⟩
      case measure => simp [intOf]
    · go_wp2_with fail
      refine (awake_any V0).mono ?_
      rintro _ X ⟨rfl, b1⟩
      have F : Hid (Below w.heap.size w X) := below_over (below_over K.out.2.2.1 B0.out) b1
      clear b1
      go_wp2
      go_ret
      exact ⟨rfl, F.out⟩
end S17
end
section
open Go.ChangeShapes Go.WideShapes Go.ChangeAt Go.RowKit

theorem laidOut : laidOutB Tryz.prog = true := by kernel_rfl
theorem own : ownKnob Tryz.prog.godebug = none := by kernel_rfl
theorem open_row {H : Type} {enc : TypeId × Value → H} {W : World} {base : Nat} {v : Value} {dd : DataW H} {pl : List MemPlace} {t : TypeId} {ks : List (Option IntKind)} (pt : PlainTy t ks)
    (hv : Value.okWide Tryz.prog W .any base t v) (h : DataW.Trod enc Tryz.prog W 0 (fun _ => true) true t v dd pl) : ∃ p : Row ks, v = .agg p.cs := by
  obtain ⟨fs, hu⟩ := pt.form
  obtain ⟨cs, rfl, hsz, _⟩ : ∃ cs, v = .agg cs ∧ cs.size = Tryz.prog.cellsOf t ∧ Row.okWide Tryz.prog W .any base t cs := by
    simpa [Value.okWide, hu] using hv
  obtain ⟨fuel, hf⟩ := h
  exact ⟨⟨cs.toList, fits_of_trod enc Tryz.prog W 0 _ 6 fuel _ ks cs.toList _ pt.kinds hf⟩, by simp [Row.cs]⟩
end
end Go.Proofs.YtlchejbggnbccaaGreat
