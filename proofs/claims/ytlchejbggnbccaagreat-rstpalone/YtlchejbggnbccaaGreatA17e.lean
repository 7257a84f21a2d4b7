/-
  The definition's Run, and what lets a bridge have another tree: the walks, for every tree. And what follows from it here.
-/
import Derived.Test.YtlchejbggnbccaaGreatA17d
import Derived.Test.YtlchejbggnbccaaGreatA17a
import Derived.Test.YtlchejbggnbccaaGreatA9a
import Derived.Test.YtlchejbggnbccaaGreatAbb
import Derived.Test.YtlchejbggnbccaaGreatA15c
import Derived.Test.YtlchejbggnbccaaGreatA17c
import Derived.Handy
import Derived.OpenShut
import Derived.ChangeSlices
import Derived.ShutString
import Derived.ChangeOld
import Derived.Deep.Slices
namespace Go.Proofs.YtlchejbggnbccaaGreat
set_option linter.unusedVariables false
set_option linter.unusedSimpArgs false
set_option maxRecDepth 4000
section
namespace S17
open Go.RowKit
open S14 (gtP gtP_at set_self)
attribute [local go_sem ↓] ldT stT ldEn stEn ldDn stDn
/-! ### a bridge -/
theorem b_ld {W : World} {B : Nat} {h : Hd} {x : Value} (r : RvAt W B 94 (trc h x)) : (ldS 39 (.pointer (some ⟨B, 0, none⟩))).run Tryz.prog W = .ok (.agg (trc h x)) W :=
  run_loadAt_mid W B 0 39 (trc h x).toList _ (fun j v hv => by
    rw [Nat.zero_add]
    exact r.cell j v (by simpa using hv)) Tryz.underlying39 rfl (by rw [Array.length_toList, trc_size]; exact infoT)
theorem b_16 {W : World} {B : Nat} {h : Hd} {x : Value} (r : RvAt W B 94 (trc h x)) : W.cell? ⟨B, 16, none⟩ = some x := r.cell 16 _ (trc_16 h x)
theorem b_st {W : World} {B : Nat} {h g : Hd} {x y : Value} (r : RvAt W B 94 (trc h x)) (hy : y.oneCell' = true) : ∃ V, (stS 39 (.pointer (some ⟨B, 0, none⟩)) (.agg (trc g y))).run Tryz.prog W = .ok () V ∧ RvAt V B 94 (trc g y) ∧ W.grownBy V (some B) := by
  have hs := store_cells (ty := 39) (o := 0) (cs := trc g y) r (by rw [trc_size]; exact infoT) (by rw [trc_size, trc_size]; omega) (trc_one hy)
  have e : ((trc h x).toList.take 0 ++ (trc g y).toList ++ (trc h x).toList.drop (0 + (trc g y).size)).toArray = trc g y := by
    rw [List.drop_eq_nil_of_le (by rw [Array.length_toList, trc_size, trc_size]; omega)]
    simp
  rw [e] at hs
  exact ⟨_, hs, r.set, grown_row _ _ _⟩
structure BrAt (W : World) (B : Nat) (h : Hd) (a : Option Addr) (n c : Nat) (l : List Pt) : Prop where
  var : RvAt W B 94 (trc h (.slice a n c))
  sl : SlAt W a n c l
theorem BrAt.below {W V : World} {B n c : Nat} {h : Hd} {a : Option Addr} {l : List Pt} (s : BrAt W B h a n c l) (k : Below W.heap.size W V) : BrAt V B h a n c l := ⟨s.var.below k, s.sl.below k⟩
theorem BrAt.kept {W V : World} {B n c b : Nat} {h : Hd} {a : Option Addr} {l : List Pt} {t : TypeId} {cs : Array Value} (s : BrAt W B h a n c l) (r : RvAt W b t cs) (h1 : t ≠ 94) (h2 : cs.size ≤ 76) (g : W.grownBy V (some b)) : BrAt V B h a n c l :=
  ⟨s.var.keptBut g (by have := ne_type s.var r (Ne.symm h1); simpa using this), s.sl.keptZ r h2 g⟩
theorem lead_td (w : World) (h : Hd) (x : Value) : ∃ W, ((w.alloc (.cells (trc h x) 39)).alloc (.cells #[.slice none 0 0, .slice none 0 0] 52)).alloc (.cells #[.slice none 0 0, .slice none 0 0] 52) = W ∧ RvAt W w.heap.size 39 (trc h x) ∧ RvAt W (w.heap.size + 1) 52 #[.slice none 0 0, .slice none 0 0] ∧ RvAt W (w.heap.size + 2) 52 #[.slice none 0 0, .slice none 0 0] ∧ Below w.heap.size w W ∧ W.heap.size = w.heap.size + 3 := by
  refine ⟨_, rfl, ?_⟩
  obtain ⟨A, hA⟩ : ∃ A, w.alloc (.cells (trc h x) 39) = A := ⟨_, rfl⟩
  have rA : RvAt A w.heap.size 39 (trc h x) := by rw [← hA]; exact RvAt.new _ _ _
  have bA : Below w.heap.size w A := by rw [← hA]; exact (Below.refl _ _).alloc (Nat.le_refl _) _
  have zA : A.heap.size = w.heap.size + 1 := by rw [← hA]; simp
  rw [hA]
  obtain ⟨B, hB⟩ : ∃ B, A.alloc (.cells #[.slice none 0 0, .slice none 0 0] 52) = B := ⟨_, rfl⟩
  have rB : RvAt B (w.heap.size + 1) 52 #[.slice none 0 0, .slice none 0 0] := by rw [← hB, ← zA]; exact RvAt.new _ _ _
  have bB : Below A.heap.size A B := by rw [← hB]; exact (Below.refl _ _).alloc (Nat.le_refl _) _
  have zB : B.heap.size = w.heap.size + 2 := by rw [← hB]; simp [zA]
  rw [hB]
  have b : Below B.heap.size B (B.alloc (.cells #[.slice none 0 0, .slice none 0 0] 52)) := (Below.refl _ _).alloc (Nat.le_refl _) _
  refine ⟨(rA.below bB).below b, rB.below b, ?_, below_over (below_over bA bB) b, by simp [zB]⟩
  have := RvAt.new B 52 #[.slice none 0 0, .slice none 0 0]
  rw [zB] at this
  exact this
theorem own_isO {W : World} {B : Nat} {v : Value} {l : List Ot} (o : S16.Own eO W B v l) : isO W v l := by
  obtain ⟨a, c, e, s, _⟩ := o.form
  exact ⟨a, _, c, e, s⟩
theorem own_isI {W : World} {B : Nat} {v : Value} {l : List Int} (o : S16.Own eI W B v l) : isI W v l := by
  obtain ⟨a, c, e, s, _⟩ := o.form
  exact ⟨a, _, c, e, s⟩
set_option maxHeartbeats 4000000 in
theorem lead_any {W : World} {B n c : Nat} {h0 : Hd} {x0 : Value} (h : Hd) (a : Option Addr) (l : List Pt) (rb : RvAt W B 94 (trc h0 x0)) (hs : SlAt W a n c l) (hn : n ≤ 100) :
    Calls Tryz.prog 40 #[.pointer (some ⟨B, 0, none⟩), .agg (trc h (.slice a n c))] W fun r V => ∃ v a' c', r = .returned v ∧ BrAt V B (runT h l).h a' n c' (runT h l).s.l ∧ DnAt V v (runT h l).s.o (noted (runT h l).s.f) ∧ W.grownBy V (some B) := by
  obtain ⟨A, hA, r0, r1, r2, bA, zA⟩ := lead_td W h (.slice a n c)
  have l0 := r0.tld
  have P : Hid _ := run_any h a n c l A (hs.below bA) hn
  have H : Hid (RvAt A (W.heap.size + 1) 52 #[.slice none 0 0, .slice none 0 0] ∧ RvAt A (W.heap.size + 2) 52 #[.slice none 0 0, .slice none 0 0] ∧ RvAt A B 94 (trc h0 x0) ∧ Below W.heap.size W A ∧ B < W.heap.size) := ⟨r1, r2, rb.below bA, bA, rb.lt⟩
  obtain ⟨T, hT⟩ : ∃ z, runT h l = z := ⟨_, rfl⟩
  rw [hT] at P ⊢
  clear hT hs rb r0 r1 r2 bA zA
  go_enter Tryz.func40, Tryz.ntmps40
  go_wp2_with fail
  refine Calls.mono P.out ?_
  rintro _ X ⟨a1, c1, vo, vf, rfl, s1, n1, o1, f1, b1⟩
  have rX := H.out.2.2.1.below b1
  obtain ⟨V, eV, rV, gV⟩ := b_st (g := T.h) (y := .slice a1 n c1) rX rfl
  have hB := H.out.2.2.2.2
  have d1 := (H.out.1.below b1).keptBut gV (by simp; omega)
  have d2 := (H.out.2.1.below b1).keptBut gV (by simp; omega)
  have sV := s1.keptZ rX (by rw [trc_size]; omega) gV
  have oV := (own_isO o1).row rX (by decide) gV
  have fV := (own_isI f1).row rX (by decide) gV
  have sU := d2.st (ds := #[vo, vf]) rtD rfl rfl (two_one oV.one fV.one)
  have gU := grown_row V (W.heap.size + 2) #[vo, vf]
  obtain ⟨U, hU⟩ : ∃ U, V.setRow (W.heap.size + 2) #[vo, vf] = U := ⟨_, rfl⟩
  rw [hU] at sU gU
  have dU : RvAt U (W.heap.size + 2) 52 #[vo, vf] := by rw [← hU]; exact d2.set
  have lU := dU.ld rtD rfl
  have e1 := d1.keptBut gU (by simp)
  have sZ := e1.st (ds := #[vo, vf]) rtD rfl rfl (two_one oV.one fV.one)
  have gZ := grown_row U (W.heap.size + 1) #[vo, vf]
  obtain ⟨Z, hZ⟩ : ∃ Z, U.setRow (W.heap.size + 1) #[vo, vf] = Z := ⟨_, rfl⟩
  rw [hZ] at sZ gZ
  have F : Hid (RvAt Z (W.heap.size + 1) 52 #[vo, vf] ∧ BrAt Z B T.h a1 n c1 T.s.l ∧ isO Z vo T.s.o ∧ isI Z vf (noted T.s.f) ∧ W.grownBy Z (some B)) := by
    have b2 : BrAt U B T.h a1 n c1 T.s.l := BrAt.kept ⟨rV, sV⟩ d2 (by decide) (by simp) gU
    refine ⟨by rw [← hZ]; exact e1.set, b2.kept e1 (by decide) (by simp) gZ, (oV.row d2 (by decide) gU).row e1 (by decide) gZ, (fV.row d2 (by decide) gU).row e1 (by decide) gZ, ?_⟩
    have k1 : W.grownBy V (some B) := grown_self (grown_of_below (below_over H.out.2.2.2.1 b1) _) gV
    refine ⟨gZ.os.trans (gU.os.trans k1.os), gZ.tape.trans (gU.tape.trans k1.tape), gZ.output.trans (gU.output.trans k1.output), Nat.le_trans k1.size (Nat.le_trans gU.size gZ.size), fun i hi hne => ?_⟩
    rw [gZ.block i (Nat.lt_of_lt_of_le hi (Nat.le_trans k1.size gU.size)) (by simp; omega), gU.block i (Nat.lt_of_lt_of_le hi k1.size) (by simp; omega), k1.block i hi hne]
  clear l0 P s1 n1 o1 f1 b1 rX rV gV d1 d2 sV oV fV gU hU dU e1 gZ hZ hB
  go_wp2
  refine bodyPost_ret (results_row rtD Tryz.results40 _ _ _ _ rfl F.out.1 rfl) rfl ?_
  exact ⟨.agg #[vo, vf], a1, c1, rfl, F.out.2.1, ⟨vo, vf, rfl, F.out.2.2.1, F.out.2.2.2.1⟩, F.out.2.2.2.2⟩
end S17
end
section
namespace S17
open Go.RowKit
open S14 (gtP gtP_at set_self)

abbrev BRes (W : World) (B n : Nat) (E : Ev) (r : Ending) (V : World) : Prop := ∃ v a' c', r = .returned (.tuple #[v, .int .i64 E.e]) ∧ BrAt V B E.h a' n c' E.l ∧ DnAt V v E.o E.f ∧ W.grownBy V (some B)
attribute [local go_sem ↓] ldT stT ldDn stDn
set_option maxHeartbeats 1000000 in
theorem made_any {W : World} {B n c : Nat} {h : Hd} {a : Option Addr} {l : List Pt} (s : BrAt W B h a n c l) :
    Calls Tryz.prog 45 #[.pointer (some ⟨B, 0, none⟩)] W fun r V => r = .returned (.bool (decide (0 < n))) ∧ V = W := by
  have c16 := b_16 s.var
  clear s
  by_cases h0 : 0 < n
  · have e : decide (0 < n) = true := by simp [h0]
    have h1 : (0 : Int) < (n : Int) := by omega
    rw [e]
    clear e
    go_enter Tryz.func45, Tryz.ntmps45
    go_wp2
    go_ret
    exact ⟨by simp [h1, h0], rfl⟩
  · have e : n = 0 := by omega
    subst e
    go_enter Tryz.func45, Tryz.ntmps45
    go_wp2
    go_ret
    exact ⟨by simp, rfl⟩
set_option maxHeartbeats 2000000 in
theorem there_any {W : World} {B n c : Nat} {h : Hd} {a : Option Addr} {l : List Pt} (s : BrAt W B h a n c l) (i : Int) (h0 : 0 < n) (hn : n ≤ 1000) :
    Calls Tryz.prog 65 #[.pointer (some ⟨B, 0, none⟩), .int .i64 i] W fun r V => r = .returned (.bool (decide (0 ≤ i) && decide (i < n))) ∧ V = W := by
  have c16 := b_16 s.var
  have P : Hid _ := made_any s
  rw [show decide (0 < n) = true by simp [h0]] at P
  clear s
  by_cases h1 : 0 ≤ i
  · by_cases h2 : i < (n : Int)
    · go_enter Tryz.func65, Tryz.ntmps65
      go_wp2_with fail
      refine Calls.mono P.out ?_
      rintro _ V ⟨rfl, rfl⟩
      go_wp2
      go_ret
      exact ⟨by simp [h1, h2], rfl⟩
    · go_enter Tryz.func65, Tryz.ntmps65
      go_wp2_with fail
      refine Calls.mono P.out ?_
      rintro _ V ⟨rfl, rfl⟩
      go_wp2
      go_ret
      exact ⟨by simp [h1, h2], rfl⟩
  · go_enter Tryz.func65, Tryz.ntmps65
    go_wp2_with fail
    refine Calls.mono P.out ?_
    rintro _ V ⟨rfl, rfl⟩
    go_wp2
    go_ret
    exact ⟨by have h1 : ¬ 0 ≤ i := by omega
              simp [h1], rfl⟩
def lackN (n : Nat) (i : Int) : Int := if 0 ≤ i ∧ i < (n : Int) then 0 else 5
set_option maxHeartbeats 2000000 in
theorem lacks_any {W : World} {B n c : Nat} {h : Hd} {a : Option Addr} {l : List Pt} (s : BrAt W B h a n c l) (i : Int) (h0 : 0 < n) (hn : n ≤ 1000) :
    Calls Tryz.prog 42 #[.pointer (some ⟨B, 0, none⟩), .int .i64 i] W fun r V => r = .returned (.int .i64 (lackN n i)) ∧ V = W := by
  have P : Hid _ := made_any s
  rw [show decide (0 < n) = true by simp [h0]] at P
  have Q : Hid _ := there_any s i h0 hn
  clear s
  by_cases hi : 0 ≤ i ∧ i < (n : Int)
  · have e : (decide (0 ≤ i) && decide (i < (n : Int))) = true := by simp [hi.1, hi.2]
    have e2 : lackN n i = 0 := if_pos hi
    rw [e] at Q
    rw [e2]
    clear e e2 hi
    go_enter Tryz.func42, Tryz.ntmps42
    go_wp2_with fail
    refine Calls.mono P.out ?_
    rintro _ V ⟨rfl, rfl⟩
    go_wp2_with fail
    refine Calls.mono Q.out ?_
    rintro _ V ⟨rfl, rfl⟩
    go_wp2
    go_ret
    exact ⟨rfl, rfl⟩
  · have e : (decide (0 ≤ i) && decide (i < (n : Int))) = false := by
      rcases Classical.em (0 ≤ i) with q | q
      · have : ¬ i < (n : Int) := fun z => hi ⟨q, z⟩
        simp [this]
      · simp [q]
    have e2 : lackN n i = 5 := if_neg hi
    rw [e] at Q
    rw [e2]
    clear e e2 hi
    go_enter Tryz.func42, Tryz.ntmps42
    go_wp2_with fail
    refine Calls.mono P.out ?_
    rintro _ V ⟨rfl, rfl⟩
    go_wp2_with fail
    refine Calls.mono Q.out ?_
    rintro _ V ⟨rfl, rfl⟩
    go_wp2
    go_ret
    exact ⟨rfl, rfl⟩
theorem one_dn (w : World) : ∃ W, w.alloc (.cells #[.slice none 0 0, .slice none 0 0] 52) = W ∧ RvAt W w.heap.size 52 #[.slice none 0 0, .slice none 0 0] ∧ Below w.heap.size w W := ⟨_, rfl, RvAt.new _ _ _, (Below.refl _ _).alloc (Nat.le_refl _) _⟩
theorem dn_nil (W : World) : DnAt W (.agg #[.slice none 0 0, .slice none 0 0]) [] [] := ⟨_, _, rfl, nilO W, nilI W⟩
theorem none_end {w W : World} {B n c : Nat} {h : Hd} {a : Option Addr} {l : List Pt} (s : BrAt W B h a n c l) (b : Below w.heap.size w W) (r : RvAt W w.heap.size 52 #[.slice none 0 0, .slice none 0 0]) (hB : B ≠ w.heap.size) :
    ∃ V, (stS 52 (.pointer (some ⟨w.heap.size, 0, none⟩)) (.agg #[.slice none 0 0, .slice none 0 0])).run Tryz.prog W = .ok () V ∧ RvAt V w.heap.size 52 #[.slice none 0 0, .slice none 0 0] ∧ BrAt V B h a n c l ∧ w.grownBy V (some B) := by
  have e := r.st (ds := #[.slice none 0 0, .slice none 0 0]) rtD rfl rfl (two_one rfl rfl)
  have g := grown_row W w.heap.size #[.slice none 0 0, .slice none 0 0]
  refine ⟨_, e, r.set, s.kept r (by decide) (by simp) g, ?_⟩
  have k := gro b g (Nat.le_refl _) b.size
  exact grown_of_below k _
theorem some_end {w W X : World} {B n c : Nat} {h : Hd} {a : Option Addr} {l : List Pt} {v : Value} {os : List Ot} {fs : List Int} (s : BrAt X B h a n c l) (b : Below w.heap.size w W) (g : W.grownBy X (some B)) (r : RvAt X w.heap.size 52 #[.slice none 0 0, .slice none 0 0]) (hB : B < w.heap.size) (d : DnAt X v os fs) :
    ∃ V vo vf, v = .agg #[vo, vf] ∧ (stS 52 (.pointer (some ⟨w.heap.size, 0, none⟩)) v).run Tryz.prog X = .ok () V ∧ RvAt V w.heap.size 52 #[vo, vf] ∧ BrAt V B h a n c l ∧ DnAt V v os fs ∧ w.grownBy V (some B) := by
  obtain ⟨vo, vf, rfl, o1, f1⟩ := d.out
  have e := r.st (ds := #[vo, vf]) rtD rfl rfl (two_one o1.one f1.one)
  have k := grown_row X w.heap.size #[vo, vf]
  refine ⟨_, vo, vf, rfl, e, r.set, s.kept r (by decide) (by simp) k, ⟨vo, vf, rfl, o1.row r (by decide) k, f1.row r (by decide) k⟩, ?_⟩
  have q : w.grownBy X (some B) := grown_self (grown_of_below b _) g
  refine ⟨k.os.trans q.os, k.tape.trans q.tape, k.output.trans q.output, Nat.le_trans q.size k.size, fun i hi hne => ?_⟩
  rw [k.block i (Nat.lt_of_lt_of_le hi q.size) (by simp; omega), q.block i hi hne]
theorem lack_in {n : Nat} {i : Int} (h : 0 ≤ i ∧ i < (n : Int)) : lackN n i = 0 := if_pos h
theorem lack_out {n : Nat} {i : Int} (h : ¬ (0 ≤ i ∧ i < (n : Int))) : lackN n i = 5 := if_neg h
set_option maxHeartbeats 4000000 in
theorem up_any {w : World} {B n c : Nat} {h : Hd} {a : Option Addr} {l : List Pt} (s : BrAt w B h a n c l) (i : Int) (on : Bool) (h0 : 0 < n) (hn : n ≤ 100) :
    Calls Tryz.prog 12 #[.pointer (some ⟨B, 0, none⟩), .int .i64 i, .bool on] w fun r V => BRes w B n (evUp h l i on) r V := by
  have hlen := s.sl.len
  obtain ⟨W, hW, rW, bW⟩ := one_dn w
  have S : Hid (BrAt W B h a n c l ∧ RvAt W w.heap.size 52 #[.slice none 0 0, .slice none 0 0] ∧ Below w.heap.size w W ∧ B < w.heap.size) := ⟨s.below bW, rW, bW, s.var.lt⟩
  have P : Hid _ := lacks_any (s.below bW) i h0 (by omega)
  clear s rW bW
  by_cases hi : 0 ≤ i ∧ i < (n : Int)
  rotate_left
  · rw [lack_out hi] at P
    have E : Hid (evUp h l i on = Ev.no h l 5) := evUp_out (fun q => hi ⟨q.1, by have := q.2; omega⟩)
    rw [E.out]
    obtain ⟨V, eV, rV, sV, gV⟩ := none_end S.out.1 S.out.2.2.1 S.out.2.1 (by have := S.out.2.2.2; omega)
    have F : Hid (RvAt V w.heap.size 52 #[.slice none 0 0, .slice none 0 0] ∧ BrAt V B h a n c l ∧ w.grownBy V (some B)) := ⟨rV, sV, gV⟩
    clear rV sV gV hi E
    go_enter Tryz.func12, Tryz.ntmps12
    go_wp2_with fail
    refine Calls.mono P.out ?_
    rintro _ V' ⟨rfl, rfl⟩
    go_wp2
    refine bodyPost_ret (results_rowtmp rtD Tryz.results12 _ _ _ _ rfl F.out.1 rfl) rfl ?_
    exact ⟨_, a, c, rfl, F.out.2.1, dn_nil _, F.out.2.2⟩
  rw [lack_in hi] at P
  obtain ⟨k, rfl⟩ : ∃ k : Nat, i = (k : Int) := ⟨i.toNat, by omega⟩
  have hkl : k < l.length := by omega
  have hi0 := hi.1
  have hi1 := hi.2
  clear hi
  obtain ⟨pb, po, rfl⟩ := S.out.1.sl.some' h0
  have c16 := b_16 S.out.1.var
  have c2 := S.out.1.sl.cell (gtP_at hkl) ((gtP l k).bit (j := 2) rfl) (by omega)
  obtain ⟨bb, hbb⟩ : ∃ z, (gtP l k).bt 2 = z := ⟨_, rfl⟩
  rw [hbb] at c2
  by_cases he : bb = on
  · have E : Hid (evUp h l (k : Int) on = Ev.no h l 0) := evUp_same hkl (by rw [hbb]; exact he)
    rw [E.out]
    obtain ⟨V, eV, rV, sV, gV⟩ := none_end S.out.1 S.out.2.2.1 S.out.2.1 (by have := S.out.2.2.2; omega)
    have F : Hid (RvAt V w.heap.size 52 #[.slice none 0 0, .slice none 0 0] ∧ BrAt V B h (some ⟨pb, po, none⟩) n c l ∧ w.grownBy V (some B)) := ⟨rV, sV, gV⟩
    clear rV sV gV E hbb
    subst he
    go_enter Tryz.func12, Tryz.ntmps12
    go_wp2_with fail
    refine Calls.mono P.out ?_
    rintro _ V' ⟨rfl, rfl⟩
    go_wp2
    refine bodyPost_ret (results_rowtmp rtD Tryz.results12 _ _ _ _ rfl F.out.1 rfl) rfl ?_
    exact ⟨_, _, c, rfl, F.out.2.1, dn_nil _, F.out.2.2⟩
  · have E : Hid (evUp h l (k : Int) on = Ev.of (runT h (S9.upL l (k : Int) on))) := evUp_go hkl (by rw [hbb]; exact he)
    rw [E.out]
    obtain ⟨ll, hll⟩ : ∃ z, S9.upL l (k : Int) on = z := ⟨_, rfl⟩
    have HLL : Hid (S9.upL l (k : Int) on = ll ∧ ll.length = n) := ⟨hll, by rw [← hll, ← hlen]; exact upL_len l (k : Int) on⟩
    rw [hll]
    have hx : (bb == on) = false := by simpa using he
    clear hll
    have lt := b_ld S.out.1.var
    clear E hbb he
    go_enter Tryz.func12, Tryz.ntmps12
    go_wp2_with fail
    refine Calls.mono P.out ?_
    rintro _ V' ⟨rfl, rfl⟩
    go_wp2_with fail
    refine (S9.up_any h (some ⟨pb, po, none⟩) n c l (k : Int) on V' S.out.1.sl (by omega)).mono ?_
    rintro _ X ⟨v, rfl, oX, bX⟩
    rw [HLL.out.1] at oX
    obtain ⟨a1, c1, hv, s1, _⟩ := oX.form
    rw [HLL.out.2] at hv s1
    subst hv
    have G : Hid (SlAt X a1 n c1 ll ∧ RvAt X B 94 (trc h (.slice (some ⟨pb, po, none⟩) n c)) ∧ RvAt X w.heap.size 52 #[.slice none 0 0, .slice none 0 0] ∧ Below w.heap.size w X ∧ B < w.heap.size) := ⟨s1, S.out.1.var.below bX, S.out.2.1.below bX, below_over S.out.2.2.1 bX, S.out.2.2.2⟩
    clear oX bX s1 S P c16 c2 lt
    go_wp2_with fail
    refine (lead_any h a1 ll G.out.2.1 G.out.1 hn).mono ?_
    rintro _ Y ⟨v, a2, c2, rfl, bY, dY, gY⟩
    obtain ⟨V, vo, vf, rfl, eV, rV, sV, dV, gV⟩ := some_end bY G.out.2.2.2.1 gY (G.out.2.2.1.keptBut gY (by have := G.out.2.2.2.2; simp; omega)) G.out.2.2.2.2 dY
    have F : Hid (RvAt V w.heap.size 52 #[vo, vf] ∧ BrAt V B (runT h ll).h a2 n c2 (runT h ll).s.l ∧ DnAt V (.agg #[vo, vf]) (runT h ll).s.o (noted (runT h ll).s.f) ∧ w.grownBy V (some B)) := ⟨rV, sV, dV, gV⟩
    clear bY dY gY rV sV dV gV G
    go_wp2
    refine bodyPost_ret (results_rowtmp rtD Tryz.results12 _ _ _ _ rfl F.out.1 rfl) rfl ?_
    exact ⟨_, a2, c2, rfl, F.out.2.1, F.out.2.2.1, F.out.2.2.2⟩
end S17
end
section
namespace S17
open Go.RowKit
open S14 (gtP gtP_at set_self)
attribute [local go_sem ↓] ldT stT ldDn stDn
set_option maxHeartbeats 4000000 in
theorem tick_any {w : World} {B n c : Nat} {h : Hd} {a : Option Addr} {l : List Pt} (s : BrAt w B h a n c l) (h0 : 0 < n) (hn : n ≤ 100) :
    Calls Tryz.prog 16 #[.pointer (some ⟨B, 0, none⟩)] w fun r V => BRes w B n (evTick h l) r V := by
  have hlen := s.sl.len
  obtain ⟨W, hW, rW, bW⟩ := one_dn w
  have S : Hid (BrAt W B h a n c l ∧ RvAt W w.heap.size 52 #[.slice none 0 0, .slice none 0 0] ∧ Below w.heap.size w W ∧ B < w.heap.size) := ⟨s.below bW, rW, bW, s.var.lt⟩
  have P : Hid _ := made_any (s.below bW)
  rw [decide_eq_true h0] at P
  clear s rW bW
  have E : evTick h l = Ev.of (runT h (l.map S9.tickP)) := rfl
  rw [E]
  clear E
  obtain ⟨ll, hll⟩ : ∃ z, l.map S9.tickP = z := ⟨_, rfl⟩
  have HLL : Hid (l.map S9.tickP = ll ∧ ll.length = n) := ⟨hll, by rw [← hll, ← hlen]; simp⟩
  rw [hll]
  clear hll
  have lt := b_ld S.out.1.var
  go_enter Tryz.func16, Tryz.ntmps16
  go_wp2_with fail
  refine Calls.mono P.out ?_
  rintro _ V' ⟨rfl, rfl⟩
  go_wp2_with fail
  refine (S9.tick_any h a n c l V' S.out.1.sl (by omega)).mono ?_
  rintro _ X ⟨v, rfl, oX, bX⟩
  rw [HLL.out.1] at oX
  obtain ⟨a1, c1, hv, s1, _⟩ := oX.form
  rw [HLL.out.2] at hv s1
  subst hv
  have G : Hid (SlAt X a1 n c1 ll ∧ RvAt X B 94 (trc h (.slice a n c)) ∧ RvAt X w.heap.size 52 #[.slice none 0 0, .slice none 0 0] ∧ Below w.heap.size w X ∧ B < w.heap.size) := ⟨s1, S.out.1.var.below bX, S.out.2.1.below bX, below_over S.out.2.2.1 bX, S.out.2.2.2⟩
  clear oX bX s1 S P lt
  go_wp2_with fail
  refine (lead_any h a1 ll G.out.2.1 G.out.1 hn).mono ?_
  rintro _ Y ⟨v, a2, c2, rfl, bY, dY, gY⟩
  obtain ⟨V, vo, vf, rfl, eV, rV, sV, dV, gV⟩ := some_end bY G.out.2.2.2.1 gY (G.out.2.2.1.keptBut gY (by have := G.out.2.2.2.2; simp; omega)) G.out.2.2.2.2 dY
  have F : Hid (RvAt V w.heap.size 52 #[vo, vf] ∧ BrAt V B (runT h ll).h a2 n c2 (runT h ll).s.l ∧ DnAt V (.agg #[vo, vf]) (runT h ll).s.o (noted (runT h ll).s.f) ∧ w.grownBy V (some B)) := ⟨rV, sV, dV, gV⟩
  clear bY dY gY rV sV dV gV G
  go_wp2
  refine bodyPost_ret (results_rowtmp rtD Tryz.results16 _ _ _ _ rfl F.out.1 rfl) rfl ?_
  exact ⟨_, a2, c2, rfl, F.out.2.1, F.out.2.2.1, F.out.2.2.2⟩
attribute [local go_sem ↓] ldM stM
end S17
end
section
namespace S17
open Go.RowKit

def fdP (x : Value) (k : Nat) : Sem Value := Instr.field 74 x k
theorem fdPE (x : Value) (k : Nat) : Instr.field 74 x k = fdP x k := rfl
theorem fdP_30 (cs : Array Value) (v : Value) (h : cs[30]? = some v) (w : World) : (fdP (.agg cs) 30).run Tryz.prog w = .ok v w := by
  unfold fdP Instr.field
  simp [run_underlying Tryz.underlying74, part, asAgg, h, Tryz.isAgg44]
theorem fdP_8 (cs : Array Value) (v : Value) (h : cs[8]? = some v) (w : World) : (fdP (.agg cs) 8).run Tryz.prog w = .ok v w := by
  unfold fdP Instr.field
  simp [run_underlying Tryz.underlying74, part, asAgg, h, Tryz.isAgg4]
theorem fdP_10 (cs : Array Value) (v : Value) (h : cs[10]? = some v) (w : World) : (fdP (.agg cs) 10).run Tryz.prog w = .ok v w := by
  unfold fdP Instr.field
  simp [run_underlying Tryz.underlying74, part, asAgg, h, Tryz.isAgg4]
end S17
end
section
namespace S17
open Go.RowKit
open S14 (gtP gtP_at set_self)

def ptAt (l : List Pt) (i : Int) : Pt := @ite _ (inP l i) (inD l i) (gtP l i.toNat) zeroP
theorem ptAt_in {l : List Pt} {k : Nat} (h : k < l.length) : ptAt l (k : Int) = gtP l k := by
  have : ptAt l (k : Int) = _ := @if_pos _ (inD l k) ⟨by omega, by omega⟩ _ _ _
  rw [this, Int.toNat_natCast]
theorem ptAt_out {l : List Pt} {i : Int} (h : ¬ inP l i) : ptAt l i = zeroP := @if_neg _ (inD l i) h _ _ _
def bdPs (x : Array (Nat × Value)) : Sem Value := Instr.build 74 x
theorem bdPE (x : Array (Nat × Value)) : Instr.build 74 x = bdPs x := rfl
theorem bdP0 (w : World) : (bdPs #[(30, .int .i64 0)]).run Tryz.prog w = .ok (.agg zeroP.cs) w := by kernel_rfl
theorem results_tt {fn : Func} {k m : Nat} (hr : fn.results = #[.tmp k, .tmp m]) (tmps : Array Value) (w : World) : (results fn tmps).run Tryz.prog w = .ok (.tuple #[tmps.getD k undef, tmps.getD m undef]) w := by
  simp [results, hr]
attribute [local go_sem ↓] ldT stT ldDn stDn ldP stP alP fdPE bdPE
attribute [local go_sem] alP_run bdP0
set_option maxHeartbeats 1000000 in
theorem there_0 {W : World} {B c : Nat} {h : Hd} {a : Option Addr} {l : List Pt} (s : BrAt W B h a 0 c l) (i : Int) :
    Calls Tryz.prog 65 #[.pointer (some ⟨B, 0, none⟩), .int .i64 i] W fun r V => r = .returned (.bool false) ∧ V = W := by
  have P : Hid _ := made_any s
  clear s
  go_enter Tryz.func65, Tryz.ntmps65
  go_wp2_with fail
  refine Calls.mono P.out ?_
  rintro _ V ⟨rfl, rfl⟩
  go_wp2
  go_ret
  exact ⟨rfl, rfl⟩
theorem st_p {w W : World} (b : Below w.heap.size w W) (r : RvAt W w.heap.size 74 zeroP.cs) (p : Pt) : ∃ V, (stS 74 (.pointer (some ⟨w.heap.size, 0, none⟩)) (.agg p.cs)).run Tryz.prog W = .ok () V ∧ RvAt V w.heap.size 74 p.cs ∧ Below w.heap.size w V := by
  obtain ⟨V, e, r', g⟩ := r.pst (q := p)
  exact ⟨V, e, r', gro b g (Nat.le_refl _) b.size⟩
theorem one_p (w : World) : ∃ W, w.alloc (.cells zeroP.cs 74) = W ∧ RvAt W w.heap.size 74 zeroP.cs ∧ Below w.heap.size w W := ⟨_, rfl, RvAt.new _ _ _, (Below.refl _ _).alloc (Nat.le_refl _) _⟩
set_option maxHeartbeats 2000000 in
theorem port_no (b : Value) (i : Int) (w : World) (P : ∀ W, Below w.heap.size w W → Calls Tryz.prog 65 #[b, .int .i64 i] W fun r V => r = .returned (.bool false) ∧ V = W) :
    Calls Tryz.prog 53 #[b, .int .i64 i] w fun r V => r = .returned (.agg zeroP.cs) ∧ Below w.heap.size w V := by
  obtain ⟨W, hW, rW, bW⟩ := one_p w
  have Q : Hid _ := P W bW
  obtain ⟨V, eV, rV, bV⟩ := st_p bW rW zeroP
  have F : Hid (RvAt V w.heap.size 74 zeroP.cs ∧ Below w.heap.size w V) := ⟨rV, bV⟩
  clear P rW bW rV bV
  go_enter Tryz.func53, Tryz.ntmps53
  go_wp2_with fail
  refine Calls.mono Q.out ?_
  rintro _ V' ⟨rfl, rfl⟩
  go_wp2
  refine bodyPost_ret (results_row rtP Tryz.results53 _ _ _ _ rfl F.out.1 (by rw [Row.csize, lenP])) rfl ?_
  exact ⟨rfl, F.out.2⟩
set_option maxHeartbeats 2000000 in
theorem port_any {w : World} {B n c : Nat} {h : Hd} {a : Option Addr} {l : List Pt} (s : BrAt w B h a n c l) (i : Int) (hn : n ≤ 1000) :
    Calls Tryz.prog 53 #[.pointer (some ⟨B, 0, none⟩), .int .i64 i] w fun r V => r = .returned (.agg (ptAt l i).cs) ∧ Below w.heap.size w V := by
  have hlen := s.sl.len
  by_cases h0 : 0 < n
  rotate_left
  · have e : n = 0 := by omega
    subst e
    rw [ptAt_out (fun q => by have := q.1; have := q.2; omega)]
    exact port_no _ i w (fun W b => there_0 (s.below b) i)
  by_cases hi : 0 ≤ i ∧ i < (n : Int)
  rotate_left
  · rw [ptAt_out (fun q => hi ⟨q.1, by have := q.2; omega⟩)]
    refine port_no _ i w (fun W b => ?_)
    have := there_any (s.below b) i h0 hn
    have e : (decide (0 ≤ i) && decide (i < (n : Int))) = false := by
      rcases Classical.em (0 ≤ i) with q | q
      · have : ¬ i < (n : Int) := fun z => hi ⟨q, z⟩
        simp [this]
      · simp [q]
    rw [e] at this
    exact this
  obtain ⟨k, rfl⟩ : ∃ k : Nat, i = (k : Int) := ⟨i.toNat, by omega⟩
  have hkl : k < l.length := by omega
  rw [ptAt_in hkl]
  obtain ⟨W, hW, rW, bW⟩ := one_p w
  have sW := s.below bW
  have Q : Hid _ := there_any sW (k : Int) h0 hn
  rw [show (decide (0 ≤ (k : Int)) && decide ((k : Int) < (n : Int))) = true by simp; omega] at Q
  obtain ⟨pb, po, rfl⟩ := sW.sl.some' h0
  have c16 := b_16 sW.var
  have lp := sW.sl.ld (gtP_at hkl)
  obtain ⟨p, hp⟩ : ∃ z, gtP l k = z := ⟨_, rfl⟩
  rw [hp] at lp ⊢
  obtain ⟨V, eV, rV, bV⟩ := st_p bW rW p
  have F : Hid (RvAt V w.heap.size 74 p.cs ∧ Below w.heap.size w V) := ⟨rV, bV⟩
  have hi0 := hi.1
  have hi1 := hi.2
  clear s sW rW bW rV bV hp hi
  go_enter Tryz.func53, Tryz.ntmps53
  go_wp2_with fail
  refine Calls.mono Q.out ?_
  rintro _ V' ⟨rfl, rfl⟩
  go_wp2
  refine bodyPost_ret (results_row rtP Tryz.results53 _ _ _ _ rfl F.out.1 (by rw [Row.csize, lenP])) rfl ?_
  exact ⟨rfl, F.out.2⟩
theorem p_30 (p : Pt) (w : World) : (fdP (.agg p.cs) 30).run Tryz.prog w = .ok (.int .i64 (p.nm 30)) w := fdP_30 p.cs _ (by rw [Row.cget]; exact p.num (k := .i64) rfl) w
theorem p_8 (p : Pt) (w : World) : (fdP (.agg p.cs) 8).run Tryz.prog w = .ok (.bool (p.bt 8)) w := fdP_8 p.cs _ (by rw [Row.cget]; exact p.bit rfl) w
theorem p_10 (p : Pt) (w : World) : (fdP (.agg p.cs) 10).run Tryz.prog w = .ok (.bool (p.bt 10)) w := fdP_10 p.cs _ (by rw [Row.cget]; exact p.bit rfl) w
attribute [local go_sem] p_30 p_8 p_10
set_option maxHeartbeats 1000000 in
theorem role_of (b : Value) (p : Pt) (i : Int) (w : World) (P : Calls Tryz.prog 53 #[b, .int .i64 i] w fun r V => r = .returned (.agg p.cs) ∧ Below w.heap.size w V) :
    Calls Tryz.prog 29 #[b, .int .i64 i] w fun r V => r = .returned (.int .i64 (p.nm 30)) ∧ Below w.heap.size w V := by
  have Q : Hid _ := P
  clear P
  go_enter Tryz.func29, Tryz.ntmps29
  go_wp2_with fail
  refine Calls.mono Q.out ?_
  rintro _ V ⟨rfl, bV⟩
  have F : Hid (Below w.heap.size w V) := bV
  clear bV
  go_wp2
  go_ret
  exact ⟨rfl, F.out⟩
set_option maxHeartbeats 1000000 in
theorem forw_of (b : Value) (p : Pt) (i : Int) (w : World) (P : Calls Tryz.prog 53 #[b, .int .i64 i] w fun r V => r = .returned (.agg p.cs) ∧ Below w.heap.size w V) :
    Calls Tryz.prog 28 #[b, .int .i64 i] w fun r V => r = .returned (.bool (p.bt 8)) ∧ Below w.heap.size w V := by
  have Q : Hid _ := P
  clear P
  go_enter Tryz.func28, Tryz.ntmps28
  go_wp2_with fail
  refine Calls.mono Q.out ?_
  rintro _ V ⟨rfl, bV⟩
  have F : Hid (Below w.heap.size w V) := bV
  clear bV
  go_wp2
  go_ret
  exact ⟨rfl, F.out⟩
set_option maxHeartbeats 1000000 in
theorem lear_of (b : Value) (p : Pt) (i : Int) (w : World) (P : Calls Tryz.prog 53 #[b, .int .i64 i] w fun r V => r = .returned (.agg p.cs) ∧ Below w.heap.size w V) :
    Calls Tryz.prog 27 #[b, .int .i64 i] w fun r V => r = .returned (.bool (p.bt 10)) ∧ Below w.heap.size w V := by
  have Q : Hid _ := P
  clear P
  go_enter Tryz.func27, Tryz.ntmps27
  go_wp2_with fail
  refine Calls.mono Q.out ?_
  rintro _ V ⟨rfl, bV⟩
  have F : Hid (Below w.heap.size w V) := bV
  clear bV
  go_wp2
  go_ret
  exact ⟨rfl, F.out⟩
theorem one_tr (w : World) : ∃ W, w.alloc (.cells #[.int .u64 0, .int .u8 0, .int .u8 0, .int .u8 0, .int .u8 0, .int .u8 0, .bool false, .int .u16 0, .int .u64 0, .int .u32 0, .int .u64 0, .int .u16 0, .int .u8 0, .int .u8 0, .int .u8 0, .int .u8 0, .slice none 0 0] 39) = W ∧ RvAt W w.heap.size 39 (trc zeroH (.slice none 0 0)) ∧ Below w.heap.size w W := ⟨_, rfl, by rw [← zeroT_is]; exact RvAt.new _ _ _, (Below.refl _ _).alloc (Nat.le_refl _) _⟩
set_option maxHeartbeats 2000000 in
theorem tree_any {w : World} {B n c : Nat} {h : Hd} {a : Option Addr} {l : List Pt} (s : BrAt w B h a n c l) (h0 : 0 < n) (hn : n ≤ 1000) :
    Calls Tryz.prog 25 #[.pointer (some ⟨B, 0, none⟩)] w fun r V => ∃ a' c', r = .returned (.agg (trc h (.slice a' n c'))) ∧ SlAt V a' n c' l ∧ Nw w a' ∧ Below w.heap.size w V := by
  obtain ⟨W, hW, rW, bW⟩ := one_tr w
  have S : Hid (BrAt W B h a n c l ∧ RvAt W w.heap.size 39 (trc zeroH (.slice none 0 0)) ∧ Below w.heap.size w W ∧ l.length = n) := ⟨s.below bW, rW, bW, s.sl.len⟩
  have Q : Hid _ := made_any S.out.1
  rw [show decide (0 < n) = true by simp [h0]] at Q
  have lt := b_ld S.out.1.var
  clear s rW bW
  go_enter Tryz.func25, Tryz.ntmps25
  go_wp2_with fail
  refine Calls.mono Q.out ?_
  rintro _ V' ⟨rfl, rfl⟩
  go_wp2_with fail
  refine (copy_any h a n c l V' S.out.1.sl hn).mono ?_
  rintro _ X ⟨v, rfl, oX, bX⟩
  obtain ⟨a1, c1, hv, s1, p1⟩ := oX.form
  rw [S.out.2.2.2] at hv s1
  subst hv
  obtain ⟨U, sU, rU, gU⟩ := (S.out.2.1.below bX).tst (g := h) (y := .slice a1 n c1) rfl
  have F : Hid (RvAt U w.heap.size 39 (trc h (.slice a1 n c1)) ∧ SlAt U a1 n c1 l ∧ Nw w a1 ∧ Below w.heap.size w U) := ⟨rU, s1.keptT (S.out.2.1.below bX) gU, fun x hx => Nat.le_trans S.out.2.2.1.size (p1 x hx).1, gro (below_over S.out.2.2.1 bX) gU (Nat.le_refl _) (below_over S.out.2.2.1 bX).size⟩
  clear oX bX s1 p1 rU gU S Q lt
  go_wp2
  refine bodyPost_ret (results_row rtT Tryz.results25 _ _ _ _ rfl F.out.1 (trc_size _ _)) rfl ?_
  exact ⟨a1, c1, rfl, F.out.2⟩
theorem new_brz (X : World) : ∃ Y, X.alloc (.cells #[.int .u64 0, .int .u8 0, .int .u8 0, .int .u8 0, .int .u8 0, .int .u8 0, .bool false, .int .u16 0, .int .u64 0, .int .u32 0, .int .u64 0, .int .u16 0, .int .u8 0, .int .u8 0, .int .u8 0, .int .u8 0, .slice none 0 0] 94) = Y ∧ RvAt Y X.heap.size 94 (trc zeroH (.slice none 0 0)) ∧ Below X.heap.size X Y := ⟨_, rfl, by rw [← zeroT_is]; exact RvAt.new _ _ _, (Below.refl _ _).alloc (Nat.le_refl _) _⟩
theorem one_cf (w : World) (c : Cf) (x : Value) : ∃ W, w.alloc (.cells (S9.cfc c x) 27) = W ∧ RvAt W w.heap.size 27 (S9.cfc c x) ∧ Below w.heap.size w W := ⟨_, rfl, RvAt.new _ _ _, (Below.refl _ _).alloc (Nat.le_refl _) _⟩
def newT (c : Cf) (l : List Int) : Ts := runT (S9.newH c) (S9.newPs l)
attribute [local go_sem ↓] ldC
set_option maxHeartbeats 4000000 in
theorem new_yes (c : Cf) (a : Option Addr) (n k : Nat) (l : List Int) (w : World) (hs : S9.CsAt w a n k l) (hn : n ≤ 100) (ok : S9.okC c l = true) :
    Calls Tryz.prog 9 #[.agg (S9.cfc c (.slice a n k))] w fun r V => ∃ B a' c', r = .returned (.tuple #[.pointer (some ⟨B, 0, none⟩), .int .i64 0]) ∧ BrAt V B (newT c l).h a' n c' (newT c l).s.l ∧ w.heap.size ≤ B ∧ Below w.heap.size w V := by
  obtain ⟨W, hW, rW, bW⟩ := one_cf w c (.slice a n k)
  have lc := rW.cld
  have P : Hid _ := S9.new_any c a n k l W (hs.below bW) (by omega)
  rw [ok] at P
  have B0 : Hid (Below w.heap.size w W ∧ l.length = n) := ⟨bW, hs.len⟩
  clear hs rW bW ok
  go_enter Tryz.func9, Tryz.ntmps9
  go_wp2_with fail
  refine Calls.mono P.out ?_
  rintro _ X ⟨v, rfl, oX, bX⟩
  have oX : Own X W.heap.size v (S9.newPs l) := oX
  obtain ⟨a1, c1, hv, s1, _⟩ := oX.form
  have hl : (S9.newPs l).length = n := by rw [← B0.out.2]; simp [S9.newPs]
  rw [hl] at hv s1
  subst hv
  obtain ⟨Y, sY, rY, bY, zY⟩ := new_tv X (S9.newH c) (.slice a1 n c1) rfl
  obtain ⟨z, hz⟩ : ∃ z, X.heap.size = z := ⟨_, rfl⟩
  rw [hz] at sY rY
  have sY : (stS 39 (.pointer (some ⟨z, 0, none⟩)) (.agg (trc (S9.hdN true c) (.slice a1 n c1)))).run Tryz.prog (X.alloc (.cells #[.int .u64 0, .int .u8 0, .int .u8 0, .int .u8 0, .int .u8 0, .int .u8 0, .bool false, .int .u16 0, .int .u64 0, .int .u32 0, .int .u64 0, .int .u16 0, .int .u8 0, .int .u8 0, .int .u8 0, .int .u8 0, .slice none 0 0] 39)) = .ok () Y := sY
  obtain ⟨U, hU, rU, bU⟩ := new_brz Y
  have ltU := (rY.below bU).tld
  have er : S9.erC true = 0 := rfl
  have G : Hid (SlAt U a1 n c1 (S9.newPs l) ∧ RvAt U Y.heap.size 94 (trc zeroH (.slice none 0 0)) ∧ Below w.heap.size w U ∧ w.heap.size ≤ Y.heap.size) := ⟨(s1.below bY).below bU, rU, below_over (below_over (below_over B0.out.1 bX) bY) bU, (below_over (below_over B0.out.1 bX) bY).size⟩
  obtain ⟨q, hq⟩ : ∃ q, Y.heap.size = q := ⟨_, rfl⟩
  rw [hq] at G
  clear lc P oX bX s1 hl rY bY zY rU bU
  go_wp2_with fail
  refine (lead_any (S9.newH c) a1 (S9.newPs l) G.out.2.1 G.out.1 hn).mono ?_
  rintro _ V ⟨v, a2, c2, rfl, bV, dV, gV⟩
  have F : Hid (BrAt V q (newT c l).h a2 n c2 (newT c l).s.l ∧ w.heap.size ≤ q ∧ Below w.heap.size w V) := ⟨bV, G.out.2.2.2, gro G.out.2.2.1 gV G.out.2.2.2 G.out.2.2.1.size⟩
  clear bV dV gV G
  go_wp2
  refine bodyPost_ret (results_tt Tryz.results9 _ _) rfl ?_
  exact ⟨q, a2, c2, rfl, F.out⟩
set_option maxHeartbeats 4000000 in
theorem new_no (c : Cf) (a : Option Addr) (n k : Nat) (l : List Int) (w : World) (hs : S9.CsAt w a n k l) (hn : n ≤ 100) (ok : S9.okC c l = false) :
    Calls Tryz.prog 9 #[.agg (S9.cfc c (.slice a n k))] w fun r V => r = .returned (.tuple #[.pointer none, .int .i64 90]) ∧ Below w.heap.size w V := by
  obtain ⟨W, hW, rW, bW⟩ := one_cf w c (.slice a n k)
  have lc := rW.cld
  have P : Hid _ := S9.new_any c a n k l W (hs.below bW) (by omega)
  rw [ok] at P
  have B0 : Hid (Below w.heap.size w W) := bW
  clear hs rW bW ok
  go_enter Tryz.func9, Tryz.ntmps9
  go_wp2_with fail
  refine Calls.mono P.out ?_
  rintro _ X ⟨v, rfl, oX, bX⟩
  obtain ⟨a1, c1, hv, s1, _⟩ := oX.form
  have hl : (S9.psN false l).length = 0 := rfl
  rw [hl] at hv s1
  subst hv
  obtain ⟨Y, sY, rY, bY, zY⟩ := new_tv X (S9.hdN false c) (.slice a1 0 c1) rfl
  obtain ⟨z, hz⟩ : ∃ z, X.heap.size = z := ⟨_, rfl⟩
  rw [hz] at sY rY
  have er : S9.erC false = 90 := rfl
  have F : Hid (Below w.heap.size w Y) := below_over (below_over B0.out bX) bY
  clear lc P oX bX s1 hl rY bY zY
  go_wp2
  refine bodyPost_ret (results_tt Tryz.results9 _ _) rfl ?_
  exact ⟨rfl, F.out⟩
end S17
end
section
namespace S17
set_option maxRecDepth 100000
open Go.RowKit
open S14 (gtP gtP_at set_self)

def T0 : Ts := runT (S9.newH S15.cX) (S9.newPs [20000, 20000])
def E1 : Ev := evUp T0.h T0.s.l 0 true
end S17
end
section
namespace S17
set_option maxRecDepth 100000
open Go.RowKit
open S14 (gtP gtP_at set_self)

theorem cx_ok : S9.okC S15.cX [20000, 20000] = true := by kernel_rfl
theorem e1_at : (E1.o[1]?).map (fun r => (r.nm 0, r.nm 1, r.nm 8, r.bt 4)) = some (0, 3, 4, true) := by kernel_rfl
theorem e1_get : ∃ r : Ot, E1.o[1]? = some r ∧ r.cl[0]? = some (.int .i64 0) ∧ r.cl[1]? = some (.int .i64 3) ∧ r.cl[8]? = some (.int .i64 4) ∧ r.cl[4]? = some (.bool true) := by
  have h := e1_at
  cases hx : E1.o[1]? with
  | none => rw [hx] at h; cases h
  | some r =>
    rw [hx] at h
    simp only [Option.map_some, Option.some.injEq, Prod.mk.injEq] at h
    refine ⟨r, rfl, ?_, ?_, ?_, ?_⟩
    · rw [r.num (k := .i64) rfl, h.1]
    · rw [r.num (k := .i64) rfl, h.2.1]
    · rw [r.num (k := .i64) rfl, h.2.2.1]
    · rw [r.bit rfl, h.2.2.2]
theorem e1_e : E1.e = 0 := by kernel_rfl
theorem e1_l : E1.l.length = 2 := by kernel_rfl
theorem e1_n : E1.o.length = 2 := by kernel_rfl
theorem e1_r : (gtP E1.l 0).nm 30 = 4 := by kernel_rfl
theorem e1_f : (gtP E1.l 0).bt 8 = false := by kernel_rfl
theorem var_dn (W : World) (vo vf : Value) (h1 : vo.oneCell' = true) (h2 : vf.oneCell' = true) : ∃ W', (stS 52 (.pointer (some ⟨W.heap.size, 0, none⟩)) (.agg #[vo, vf])).run Tryz.prog (W.alloc (.cells #[.slice none 0 0, .slice none 0 0] 52)) = .ok () W' ∧ RvAt W' W.heap.size 52 #[vo, vf] ∧ Below W.heap.size W W' ∧ W'.heap.size = W.heap.size + 1 := row_new rtD W _ _ rfl rfl (two_one h1 h2)
attribute [local go_sem ↓] ldDn stDn
set_option maxHeartbeats 8000000 in
theorem awake_any (w : World) : Calls Tryz.prog 11 #[] w fun r V => r = .returned (.bool true) ∧ Below w.heap.size w V := by
  have K1 : Hid (newT S15.cX [20000, 20000] = T0) := rfl
  have K2 : Hid (evUp T0.h T0.s.l 0 true = E1) := rfl
  have K3 : Hid (E1.e = 0 ∧ E1.l.length = 2 ∧ E1.o.length = 2 ∧ (gtP E1.l 0).nm 30 = 4 ∧ (gtP E1.l 0).bt 8 = false) := ⟨e1_e, e1_l, e1_n, e1_r, e1_f⟩
  have K4 : Hid (∃ r : Ot, E1.o[1]? = some r ∧ r.cl[0]? = some (.int .i64 0) ∧ r.cl[1]? = some (.int .i64 3) ∧ r.cl[8]? = some (.int .i64 4) ∧ r.cl[4]? = some (.bool true)) := e1_get
  obtain ⟨t0, ht0⟩ : ∃ z, T0 = z := ⟨_, rfl⟩
  rw [ht0] at K1 K2
  obtain ⟨e1, he1⟩ : ∃ z, E1 = z := ⟨_, rfl⟩
  rw [he1] at K2 K3 K4
  clear ht0 he1
  go_enter Tryz.func11, Tryz.ntmps11
  go_wp2_with fail
  refine (S15.conf_any w).mono ?_
  rintro _ W1 ⟨a0, k0, rfl, s0, b0⟩
  have N1 : Hid _ := new_yes S15.cX a0 2 k0 [20000, 20000] W1 s0 (by omega) cx_ok
  rw [K1.out] at N1
  have B1 : Hid (Below w.heap.size w W1) := b0
  clear s0 b0
  go_wp2_with fail
  refine Calls.mono N1.out ?_
  rintro _ W2 ⟨B, a1, c1, rfl, s1, hB, b1⟩
  have U1 : Hid _ := up_any s1 0 true (by omega) (by omega)
  rw [K2.out] at U1
  have B2 : Hid (Below w.heap.size w W2 ∧ w.heap.size ≤ B) := ⟨below_over B1.out b1, Nat.le_trans B1.out.size hB⟩
  clear s1 hB b1 N1
  go_wp2_with fail
  refine Calls.mono U1.out ?_
  rintro _ W3 ⟨v3, a2, c2, rfl, s2, d2, g2⟩
  rw [K3.out.1]
  obtain ⟨vo, vf, rfl, o2, f2⟩ := d2.out
  obtain ⟨ao, co, rfl, so⟩ := o2.len
  rw [K3.out.2.2.1] at so
  rw [K3.out.2.2.1]
  obtain ⟨W4, e4, r4, b4, z4⟩ := var_dn W3 (.slice ao 2 co) vf rfl f2.one
  obtain ⟨z, hz⟩ : ∃ z, W3.heap.size = z := ⟨_, rfl⟩
  rw [hz] at e4 r4
  have E2 : Hid (evUp e1.h e1.l 2 true = Ev.no e1.h e1.l 5) := evUp_out (fun q => by have := q.2; have := K3.out.2.1; omega)
  have U2 : Hid _ := up_any (s2.below b4) 2 true (by omega) (by omega)
  rw [E2.out] at U2
  obtain ⟨xb, hxb⟩ : ∃ x, (Value.slice a2 2 c2) = x := ⟨_, rfl⟩
  have G : Hid (RvAt W4 z 52 #[.slice ao 2 co, vf] ∧ S16.SlAt eO W4 ao 2 co e1.o ∧ Below w.heap.size w W4 ∧ RvAt W4 B 94 (trc e1.h xb)) := by
    have hlt := (s2.below b4).var
    rw [hxb] at hlt
    exact ⟨r4, so.below b4, below_over (gro B2.out.1 g2 B2.out.2 B2.out.1.size) b4, hlt⟩
  clear s2 d2 g2 o2 f2 so r4 b4 z4 U1 E2 hxb
  go_wp2_with fail
  refine Calls.mono U2.out ?_
  rintro _ W5 ⟨v5, a3, c3, rfl, s3, d3, g3⟩
  obtain ⟨wo, wf, rfl, o3, f3⟩ := d3.out
  obtain ⟨W6, e6, r6, b6, z6⟩ := var_dn W5 wo wf o3.one f3.one
  have S6 : Hid (BrAt W6 B e1.h a3 2 c3 e1.l) := s3.below b6
  have r6' := (G.out.1.keptBut g3 (by have := ne_type G.out.1 G.out.2.2.2 (by decide); simpa using this)).below b6
  have sG := (G.out.2.1.keptV G.out.2.2.2 (by decide) g3).below b6
  have B6 : Hid (Below w.heap.size w W6) := below_over (gro G.out.2.2.1 g3 B2.out.2 G.out.2.2.1.size) b6
  obtain ⟨ob, oo, rfl⟩ := sG.some' (by omega)
  obtain ⟨x, hx, x0, x1, x8, x4⟩ := K4.out
  have d0 := r6'.cell 0 _ rfl
  have m0 : W6.cell? ⟨ob, oo + 17, none⟩ = some (.int .i64 0) := sG.cell kO (j := 0) hx (by show x.cs[0]? = _; rw [Row.cget]; exact x0) (by simp [eO])
  have m1 : W6.cell? ⟨ob, oo + 17 + 1, none⟩ = some (.int .i64 3) := sG.cell kO (j := 1) hx (by show x.cs[1]? = _; rw [Row.cget]; exact x1) (by simp [eO])
  have m8 : W6.cell? ⟨ob, oo + 17 + 1 + 7, none⟩ = some (.int .i64 4) := sG.cell kO (j := 8) hx (by show x.cs[8]? = _; rw [Row.cget]; exact x8) (by simp [eO])
  have m4 : W6.cell? ⟨ob, oo + 17 + 1 + 3, none⟩ = some (.bool true) := sG.cell kO (j := 4) hx (by show x.cs[4]? = _; rw [Row.cget]; exact x4) (by simp [eO])
  have P30 : Hid _ := role_of _ _ 0 W6 (port_any S6.out 0 (by omega))
  have P8 : Hid (∀ V, Below W6.heap.size W6 V → _) := fun V b => forw_of _ _ 0 V (port_any (S6.out.below b) 0 (by omega))
  have hpt : ptAt e1.l 0 = gtP e1.l 0 := ptAt_in (k := 0) (by rw [K3.out.2.1]; omega)
  rw [hpt, K3.out.2.2.2.1] at P30
  rw [hpt, K3.out.2.2.2.2] at P8
  clear hpt s3 d3 g3 o3 f3 r6 b6 z6 r6' sG hx x0 x1 x8 x4 G U2
  go_wp2_with fail
  refine Calls.mono P30.out ?_
  rintro _ V1 ⟨rfl, q1⟩
  have B7 : Hid (Below w.heap.size w V1) := below_over B6.out q1
  have Q8 : Hid _ := P8.out V1 q1
  clear q1 P8 P30
  go_wp2_with fail
  refine Calls.mono Q8.out ?_
  rintro _ V2 ⟨rfl, q2⟩
  have F : Hid (Below w.heap.size w V2) := below_over B7.out q2
  clear q2
  go_wp2
  go_ret
  exact ⟨rfl, F.out⟩
end S17
end
section
namespace S17
open Go.RowKit
open S14 (gtP gtP_at set_self)

def slCS (x : Value) (lo hi mx : Option Value) : Sem Value := Instr.sliceAt 25 x lo hi mx
theorem slC (x : Value) (lo hi mx : Option Value) : Instr.sliceAt 25 x lo hi mx = slCS x lo hi mx := rfl
theorem slc_cut (a : Option Addr) (n c m : Nat) (hm : m ≤ n) (hc : n ≤ c) (V : World) : (slCS (.slice a n c) none (some (.int .i64 m)) none).run Tryz.prog V = .ok (.slice a m c) V := by
  have hin : (m : Int) ≤ (c : Int) := by omega
  have hz := Tryz.sizeOf34
  have hu : Tryz.prog.underlying 25 = some (.slice 34) := Tryz.underlying25
  unfold slCS
  simp only [Instr.sliceAt, Sem.run_bind, run_underlying hu, Result.andThen_ok]
  simp only [Instr.slice, Sem.run_bind, run_underlying hu, Result.andThen_ok, Instr.sliceBounds, Sem.run_pure]
  rw [run_sliceBound V .i64 (m : Int) c _ (by omega) hin]
  simp only [Result.andThen_ok, Sem.run_pure, hz V, Int.toNat_natCast]
  cases a <;> simp [Addr.add]
theorem cf_set {W : World} {b : Nat} {c : Cf} {x y : Value} (hb : RvAt W b 27 (S9.cfc c x)) (hy : y.oneCell' = true) :
    ∃ W', (stS 25 (.pointer (some ⟨b, 6, none⟩)) y).run Tryz.prog W = .ok () W' ∧ RvAt W' b 27 (S9.cfc c y) ∧ W.grownBy W' (some b) := by
  refine ⟨_, hb.st1 info1.2.2.2.2.2 (by rw [S9.cfc_size]; omega) hy, ?_, ⟨rfl, rfl, rfl, by simp, fun i hi hne => setRow_other W b i _ (fun e => hne (by rw [e]))⟩⟩
  rw [S9.cfc_set]
  exact hb.set
structure AS (w W : World) (B : Nat) (cf : Cf) (v : Value) (s : Hd × List Pt) (n : Nat) : Prop where
  cf : RvAt W w.heap.size 27 (S9.cfc cf v)
  br : ∃ a c, BrAt W B s.1 a n c s.2
  bel : Below w.heap.size w W
  at' : w.heap.size < B
theorem AS.grown {w W V : World} {B n c : Nat} {a : Option Addr} {cf : Cf} {v : Value} {s s' : Hd × List Pt} (x : AS w W B cf v s n) (g : W.grownBy V (some B)) (b : BrAt V B s'.1 a n c s'.2) : AS w V B cf v s' n :=
  ⟨x.cf.keptBut g (by have := x.at'; simp; omega), ⟨a, c, b⟩, gro x.bel g (by have := x.at'; omega) x.bel.size, x.at'⟩
theorem AS.below {w W V : World} {B n : Nat} {cf : Cf} {v : Value} {s : Hd × List Pt} (x : AS w W B cf v s n) (k : Below W.heap.size W V) : AS w V B cf v s n := by
  obtain ⟨a, c, b⟩ := x.br
  exact ⟨x.cf.below k, ⟨a, c, b.below k⟩, below_over x.bel k, x.at'⟩
def btB (x : Int) (i : Nat) : Bool := (bits BinOp.and IntKind.u8 (x / 2 ^ min i 8) 1 == 1)
attribute [local go_sem ↓] ldT stT ldC stC slC st25
set_option maxHeartbeats 8000000 in
theorem RstpAlone_walk (cf : Cf) (a : Option Addr) (n k : Nat) (l : List Int) (ups : Int) (w : World) (hs : S9.CsAt w a n k l) (hu : 0 ≤ ups ∧ ups ≤ 255) :
    Calls Tryz.prog 6 #[.agg (S9.cfc cf (.slice a n k)), .int .u8 ups] w fun r w' => r = .returned (.bool true) ∧ Below w.heap.size w w' := by
  obtain ⟨m, hm, e20, hml⟩ : ∃ m : Nat, m ≤ n ∧ min (n : Int) 12 = (m : Int) ∧ m ≤ 12 := ⟨min n 12, by omega, by omega, by omega⟩
  obtain ⟨W, hW, r0, bW, zW⟩ := S9.one_c w cf (.slice a n k)
  have c6 := r0.c6
  obtain ⟨W1, s1, r1, g1⟩ := cf_set (y := .slice a m k) r0 rfl
  have sl := slc_cut a n k m hm hs.cap
  have b1 : Below w.heap.size w W1 := gro bW g1 (Nat.le_refl _) (by omega)
  have h1 : S9.CsAt W1 a m k (l.take m) := (hs.cut hm).below b1
  obtain ⟨ls, hls⟩ : ∃ ls, l.take m = ls := ⟨_, rfl⟩
  rw [hls] at h1
  have l1 := r1.cld
  have G : Hid (S9.CsAt W1 a m k ls ∧ m ≤ 12 ∧ RvAt W1 w.heap.size 27 (S9.cfc cf (.slice a m k)) ∧ Below w.heap.size w W1 ∧ ls.length = m) := ⟨h1, hml, r1, b1, h1.len⟩
  clear hs hm r0 bW zW r1 g1 b1 h1 hls
  cases hok : S9.okC cf ls with
  | false =>
    have P : Hid _ := new_no cf a m k ls W1 G.out.1 (by omega) hok
    have OK : Hid (S9.okC cf ls = false) := hok
    clear hok
    go_enter Tryz.func6, Tryz.ntmps6
    go_wp2_with fail
    refine Calls.mono P.out ?_
    rintro _ W2 ⟨rfl, b2⟩
    have G2 : Hid (S9.CsAt W2 a m k ls ∧ Below w.heap.size w W2) := ⟨G.out.1.below b2, below_over G.out.2.2.2.1 b2⟩
    have l2 := (G.out.2.2.1.below b2).cld
    clear b2 P s1 sl c6 hW l1
    go_wp2_with fail
    refine (S9.isconf_any cf a m k ls W2 G2.out.1 (by omega)).mono ?_
    rintro _ W3 ⟨rfl, b3⟩
    rw [OK.out]
    have G3 : Hid (Below w.heap.size w W3) := below_over G2.out.2 b3
    clear b3 G2 l2
    go_wp2_with fail
    refine (awake_any W3).mono ?_
    rintro _ W4 ⟨rfl, b4⟩
    have G4 : Hid (Below w.heap.size w W4) := below_over G3.out b4
    clear b4 G3
    go_wp2
    go_ret
    exact ⟨rfl, G4.out⟩
  | true =>
    have P : Hid _ := new_yes cf a m k ls W1 G.out.1 (by omega) hok
    have OK : Hid (S9.okC cf ls = true) := hok
    have hm0 : 0 < m := by
      have := (of_decide_eq_true hok).2.2.2.2.2.1
      have := G.out.2.2.2.2
      omega
    clear hok
    go_enter Tryz.func6, Tryz.ntmps6
    go_wp2_with fail
    refine Calls.mono P.out ?_
    rintro _ W2 ⟨B, a2, c2, rfl, br, hB, b2⟩
    have X0 : Hid (AS w W2 B cf (.slice a m k) ((runT (S9.newH cf) (S9.newPs ls)).h, (runT (S9.newH cf) (S9.newPs ls)).s.l) m) := ⟨G.out.2.2.1.below b2, ⟨a2, c2, br⟩, below_over G.out.2.2.2.1 b2, Nat.lt_of_lt_of_le G.out.2.2.1.lt hB⟩
    have HL : Hid (ls.length = m) := G.out.2.2.2.2
    clear br hB b2 P s1 sl c6 hW l1 G
    obtain ⟨S0, hS0⟩ : ∃ z, ((runT (S9.newH cf) (S9.newPs ls)).h, (runT (S9.newH cf) (S9.newPs ls)).s.l) = z := ⟨_, rfl⟩
    have HS : Hid (((runT (S9.newH cf) (S9.newPs ls)).h, (runT (S9.newH cf) (S9.newPs ls)).s.l) = S0) := hS0
    rw [hS0] at X0
    clear hS0
    go_wp2_with fail
    go_loopw [7] (fun v7 wr => ∃ i : Nat, i ≤ m ∧ v7 = .int .i64 i ∧ AS w wr B cf (.slice a m k) (upN (btB ups) S0 i) m) (fun v7 _ => m - (intOf v7).toNat)
    case atStart => exact ⟨0, by omega, rfl, X0.out⟩
    case round =>
      obtain ⟨i, hi, rfl, hx⟩ := hrel
      have c6 := hx.cf.c6
      have HX : Hid (AS w wr B cf (.slice a m k) (upN (btB ups) S0 i) m) := hx
      clear hx X0
      by_cases him : i < m
      · have hin0 : (0 : Int) ≤ (i : Int) := by omega
        have hin1 : (i : Int) < (m : Int) := by omega
        cases hq : (bits BinOp.and IntKind.u8 (ups / 2 ^ min i 8) 1 == 1)
        · have E : Hid (upN (btB ups) S0 (i + 1) = upN (btB ups) S0 i) := if_neg (by unfold btB; rw [hq]; decide)
          go_wp2
          go_roundw
          case rel => exact ⟨i + 1, by omega, by go_num, by rw [E.out]; exact HX.out⟩
          case measure => simp [intOf]; omega
        · obtain ⟨U, hU⟩ : ∃ z, upN (btB ups) S0 i = z := ⟨_, rfl⟩
          have E : Hid (upN (btB ups) S0 (i + 1) = ((evUp U.1 U.2 (i : Nat) true).h, (evUp U.1 U.2 (i : Nat) true).l)) := by
            show upN (btB ups) S0 (i + 1) = _
            unfold upN
            rw [if_pos (show btB ups i = true from hq), hU]
          rw [hU] at HX
          clear hU
          obtain ⟨a3, c3, br⟩ := HX.out.br
          have P : Hid _ := up_any br (i : Int) true hm0 (by omega)
          clear br
          go_wp2_with fail
          refine Calls.mono P.out ?_
          rintro _ V ⟨v, a4, c4, rfl, bV, dV, gV⟩
          have Y : Hid (AS w V B cf (.slice a m k) (upN (btB ups) S0 (i + 1)) m) := by rw [E.out]; exact HX.out.grown gV bV
          clear bV dV gV P HX E
          go_wp2
          go_roundw
          case rel => exact ⟨i + 1, by omega, by go_num, Y.out⟩
          case measure => simp [intOf]; omega
      · obtain rfl : i = m := by omega
        have hk1 : ¬ (i : Int) < (i : Int) := by omega
        obtain ⟨S1, hS1⟩ : ∃ z, upN (btB ups) S0 i = z := ⟨_, rfl⟩
        have H1 : Hid (upN (btB ups) S0 i = S1) := hS1
        rw [hS1] at HX
        clear hS1 him
        have d8 := cf.u8 (j := 4) rfl
        obtain ⟨K, hK⟩ : ∃ K : Nat, (K : Int) = 2 * cf.nm 4 + 8 := ⟨(2 * cf.nm 4 + 8).toNat, by omega⟩
        have HK : Hid ((K : Int) = 2 * cf.nm 4 + 8) := hK
        obtain ⟨D, hD⟩ : ∃ z, cf.nm 4 = z := ⟨_, rfl⟩
        rw [hD] at hK d8
        have HD : Hid (cf.nm 4 = D) := hD
        have w1 : IntKind.i64.wrap D = D := IntWalk.i64_in _ (by omega)
        clear hD
        go_wp2_with fail
        go_loopw [8] (fun v8 wr => ∃ t : Nat, t ≤ K ∧ v8 = .int .i64 t ∧ AS w wr B cf (.slice a i k) (tiN S1 t) i) (fun v8 _ => K - (intOf v8).toNat)
        case atStart => exact ⟨0, by omega, rfl, HX.out⟩
        case round =>
          clear HX c6
          obtain ⟨t, ht, rfl, hx⟩ := hrel
          have c4 := hx.cf.cnum (j := 4) (k := .u8) rfl
          rw [HD.out] at c4
          obtain ⟨S2, hS2⟩ : ∃ z, tiN S1 t = z := ⟨_, rfl⟩
          have H2 : Hid (tiN S1 t = S2) := hS2
          rw [hS2] at hx
          clear hS2
          by_cases htk : t < K
          · have hin1 : (t : Int) < 2 * D + 8 := by omega
            obtain ⟨a3, c3, br⟩ := hx.br
            have P : Hid _ := tick_any br hm0 (by omega)
            have HX : Hid (AS w wr B cf (.slice a i k) S2 i) := hx
            clear br hx
            go_wp2_with fail
            refine Calls.mono P.out ?_
            rintro _ V ⟨v, a4, c4, rfl, bV, dV, gV⟩
            have Y : Hid (AS w V B cf (.slice a i k) (tiN S1 (t + 1)) i) := by
              have e : tiN S1 (t + 1) = ((evTick S2.1 S2.2).h, (evTick S2.1 S2.2).l) := by unfold tiN; rw [H2.out]
              rw [e]
              exact HX.out.grown gV bV
            clear bV dV gV P HX
            go_wp2
            go_roundw
            case rel => exact ⟨t + 1, by omega, by go_num, Y.out⟩
            case measure => simp [intOf]; omega
          · obtain rfl : t = K := by omega
            have hin1 : ¬ (t : Int) < 2 * D + 8 := by omega
            have AL : Hid (S2.1.nm 7 = 0 ∧ S2.1.nm 8 = cf.nm 0 ∧ S2.2.length = ls.length ∧ ∀ j, j < ls.length → (gtP S2.2 j).bt 8 = btB ups j ∧ (gtP S2.2 j).bt 10 = btB ups j ∧ (decide ((gtP S2.2 j).nm 30 = 4)) = btB ups j) := by
              have := all_alone cf ls (btB ups) OK.out t HK.out
              simp only at this
              rw [HS.out, HL.out, H1.out, H2.out] at this
              rw [HL.out]
              exact this
            obtain ⟨a3, c3, br⟩ := hx.br
            have P : Hid _ := tree_any br hm0 (by omega)
            have HX : Hid (AS w wr B cf (.slice a i k) S2 i) := hx
            have l4 := br.sl.len
            clear br hx
            go_wp2_with fail
            refine Calls.mono P.out ?_
            rintro _ V ⟨a5, c5, rfl, s5, n5, b5⟩
            obtain ⟨Y, sY, rY, bY, zY⟩ := new_tv V S2.1 (.slice a5 i c5) rfl
            obtain ⟨z, hz⟩ : ∃ z, V.heap.size = z := ⟨_, rfl⟩
            rw [hz] at sY rY
            have t7 := rY.tnum (j := 7) (k := .u16) rfl
            have t8 := rY.tnum (j := 8) (k := .u64) rfl
            have t16 := rY.t16
            have X5 : Hid (AS w Y B cf (.slice a i k) S2 i) := (HX.out.below b5).below bY
            have d0 := X5.out.cf.cnum (j := 0) (k := .u64) rfl
            have d6 := X5.out.cf.c6
            rw [AL.out.1] at t7
            rw [AL.out.2.1] at t8
            clear s5 n5 b5 rY bY zY HX P c4
            go_wp2_with fail
            go_loopw [10, 11] (fun v10 v11 wr => ∃ j : Nat, j ≤ i ∧ v10 = .int .i64 j ∧ AS w wr B cf (.slice a i k) S2 i) (fun v10 _ _ => i - (intOf v10).toNat)
            case atStart => exact ⟨0, by omega, rfl, X5.out⟩
            case round =>
              clear X5 t7 t8 t16 d0 d6
              obtain ⟨j, hj, rfl, hx⟩ := hrel
              have c6 := hx.cf.c6
              have HX : Hid (AS w wr B cf (.slice a i k) S2 i) := hx
              by_cases hji : j < i
              · have hin0 : (0 : Int) ≤ (j : Int) := by omega
                have hin1 : (j : Int) < (i : Int) := by omega
                obtain ⟨a6, c6_, br⟩ := hx.br
                have A3 := AL.out.2.2.2 j (by rw [HL.out]; exact hji)
                have ep : ptAt S2.2 (j : Int) = gtP S2.2 j := ptAt_in (by rw [AL.out.2.2.1, HL.out]; exact hji)
                obtain ⟨p, hp⟩ : ∃ z, gtP S2.2 j = z := ⟨_, rfl⟩
                rw [hp] at A3 ep
                obtain ⟨q, hq⟩ : ∃ z, (bits BinOp.and IntKind.u8 (ups / 2 ^ min j 8) 1 == 1) = z := ⟨_, rfl⟩
                have eb : btB ups j = q := hq
                rw [eb] at A3
                have e1 := A3.1
                have e2 := A3.2.1
                have e3 : (p.nm 30 == 4) = q := by rw [← A3.2.2]; rfl
                have P1 : Hid (∀ V, Below wr.heap.size wr V → Calls Tryz.prog 53 #[.pointer (some ⟨B, 0, none⟩), .int .i64 (j : Int)] V fun r X => r = .returned (.agg p.cs) ∧ Below V.heap.size V X) := fun V k => by
                  have := port_any (br.below k) (j : Int) (by omega)
                  rw [ep] at this
                  exact this
                clear br hx A3 ep hp eb
                go_wp2_with fail
                refine (forw_of _ p (j : Int) wr (P1.out wr (Below.refl _ _))).mono ?_
                rintro _ R1 ⟨rfl, k1⟩
                rw [e1]
                have K1 : Hid (Below wr.heap.size wr R1) := k1
                clear k1
                go_wp2_with fail
                refine (lear_of _ p (j : Int) R1 (P1.out R1 K1.out)).mono ?_
                rintro _ R2 ⟨rfl, k2⟩
                rw [e2]
                have K2 : Hid (Below wr.heap.size wr R2) := below_over K1.out k2
                clear k2
                go_wp2_with fail
                refine (role_of _ p (j : Int) R2 (P1.out R2 K2.out)).mono ?_
                rintro _ R3 ⟨rfl, k3⟩
                have K3 : Hid (Below wr.heap.size wr R3) := below_over K2.out k3
                clear k3
                go_wp2
                go_roundw
                case rel => exact ⟨j + 1, by omega, by go_num, HX.out.below K3.out⟩
                case measure => simp [intOf]; omega
              · obtain rfl : j = i := by omega
                have hk1 : ¬ (j : Int) < (j : Int) := by omega
                have B9 : Hid (Below w.heap.size w wr) := hx.bel
                clear hx
                go_wp2_with fail
                refine (awake_any wr).mono ?_
                rintro _ Y2 ⟨rfl, b9⟩
                have B8 : Hid (Below w.heap.size w Y2) := below_over B9.out b9
                clear b9
                go_wp2
                go_ret
                exact ⟨rfl, B8.out⟩
end S17
end
section
open Go.ChangeShapes Go.WideShapes Go.ChangeAt Go.RowKit

theorem laidOut : laidOutB Tryz.prog = true := by kernel_rfl
theorem own : ownKnob Tryz.prog.godebug = none := by kernel_rfl
theorem head_fits {H : Type} {enc : TypeId × Value → H} {W : World} {b fuel : Nat} {sp : Nat → Bool} {t : TypeId} {fs : Array Field} {ks : List (Option IntKind)} {cs : List Value} {c : Value} {r : DataW H × List MemPlace} (k : Nat) (hu : Tryz.prog.underlying t = some (.struct fs))
    (hk : fieldKinds Tryz.prog (kindsOf Tryz.prog 5) 0 (fs.toList.take k) = some ks) (hs : cs.length = ks.length) (hall : ∀ f ∈ fs.toList.take k, f.offset + Tryz.prog.cellsOf f.type ≤ ks.length)
    (hf : DataW.trod enc Tryz.prog W b sp true fuel t (cs ++ [c]) = some r) : Fits ks cs := by
  obtain ⟨xs, m, _, _, _, hl, hg⟩ := DataW.trod_struct hu hf
  have := trodFields enc Tryz.prog W b sp m (kindsOf Tryz.prog 5) (fun t ks cs r => fits_of_trod enc Tryz.prog W b sp 5 m t ks cs r) cs (fs.toList.take k) 0 ks hk (by rw [hs]; omega) (fun f hf' => by
    obtain ⟨i, hi, e⟩ := List.mem_iff_getElem.1 (List.mem_of_mem_take hf')
    have hi' : i < fs.size := by simpa using hi
    have q := hg i f (by rw [Array.getElem?_eq_getElem hi']; simpa using e)
    rw [List.getElem?_eq_getElem (by omega)] at q
    have hb := hall f hf'
    have e1 : ((cs ++ [c]).drop f.offset).take (Tryz.prog.cellsOf f.type) = (cs.drop f.offset).take (Tryz.prog.cellsOf f.type) := by
      rw [List.drop_append_of_le_length (by omega), List.take_append_of_le_length (by rw [List.length_drop]; omega)]
    rw [e1] at q
    exact ⟨_, q⟩)
  rw [List.drop_zero] at this
  exact this
end
section
open Go.ChangeShapes Go.WideShapes Go.ChangeAt Go.RowKit

theorem cellsC : Tryz.prog.cellsOf 27 = 7 := by kernel_rfl
theorem open_costs {H : Type} {enc : TypeId × Value → H} {W : World} {fuel : Nat} {v : Value} {r : DataW H × List MemPlace} (hf : DataW.trod enc Tryz.prog W 0 (fun _ => true) true fuel 25 [v] = some r) :
    ∃ (a : Option Addr) (n c : Nat) (l : List Int), v = .slice a n c ∧ S9.CsAt W a n c l := by
  rcases open_ints Tryz.underlying25 Tryz.underlying34 (by kernel_rfl) hf with ⟨hcs, _⟩ | ⟨x, l, c, zs, hcs, _, hl, hm, hz, _, hcell, hwz⟩
  · simp at hcs
    exact ⟨none, 0, 0, [], hcs, ⟨rfl, Nat.le_refl _, by simp, (fun h => by omega), (fun x hx => by cases hx), fun b o e => by cases e⟩⟩
  · simp at hcs
    have hz' : zs.length = c := by simpa using hz
    have ht : (zs.take l).length = l := by simp; omega
    have key : ∀ j v, (zs.take l)[j]? = some v → W.cell? (x.add j) = some (.int .u32 v) := fun j v hj => by
      have hj' : j < l := by
        have := (List.getElem?_eq_some_iff.1 hj).1
        omega
      rw [hcell j (by omega)]
      rw [List.getElem?_take_of_lt hj'] at hj
      simp [List.getD, hj]
    refine ⟨some x, l, c, zs.take l, hcs, ⟨ht, hl, hm, ?_, ?_, ?_⟩⟩
    · intro hn
      have h0 := key 0 _ (List.getElem?_eq_getElem (by omega))
      obtain ⟨b, o, sp⟩ := x
      have hsp : sp = none := by simpa [Addr.add] using World.cell?_spot h0
      subst hsp
      exact ⟨b, o, rfl⟩
    · intro y hy
      exact hwz y (List.mem_of_mem_take hy)
    · intro b o e j v hj
      cases e
      have := key j v hj
      rwa [Addr.add_lit] at this
theorem open_conf {H : Type} {enc : TypeId × Value → H} {W : World} {base : Nat} {v : Value} {dd : DataW H} {pl : List MemPlace}
    (hv : Value.okWide Tryz.prog W .any base 27 v) (h : DataW.Trod enc Tryz.prog W 0 (fun _ => true) true 27 v dd pl) :
    ∃ (g : Cf) (a : Option Addr) (n c : Nat) (l : List Int), v = .agg (S9.cfc g (.slice a n c)) ∧ S9.CsAt W a n c l := by
  obtain ⟨cs, rfl, hsz, _⟩ : ∃ cs, v = .agg cs ∧ cs.size = Tryz.prog.cellsOf 27 ∧ Row.okWide Tryz.prog W .any base 27 cs := by
    simpa [Value.okWide, Tryz.underlying27] using hv
  rw [cellsC] at hsz
  obtain ⟨l⟩ := cs
  obtain ⟨fuel, hf⟩ := h
  match l, hsz with
  | [c0, c1, c2, c3, c4, c5, c6], _ =>
    have hf' : DataW.trod enc Tryz.prog W 0 (fun _ => true) true fuel 27 ([c0, c1, c2, c3, c4, c5] ++ [c6]) = some (dd, pl) := hf
    have hh := head_fits (ks := kdC) 3 Tryz.underlying27 (by kernel_rfl) rfl (by decide +kernel) hf'
    obtain ⟨xs, m, _, _, _, hl, hg⟩ := DataW.trod_struct Tryz.underlying27 hf'
    have hl' : xs.length = 4 := hl
    have g3 : DataW.trod enc Tryz.prog W 0 (fun _ => true) true m 25 ((([c0, c1, c2, c3, c4, c5] ++ [c6]).drop 6).take (Tryz.prog.cellsOf 25)) = xs[3]? := hg 3 _ rfl
    rw [List.getElem?_eq_getElem (by omega)] at g3
    have g3' : DataW.trod enc Tryz.prog W 0 (fun _ => true) true m 25 [c6] = some xs[3] := by
      rw [show Tryz.prog.cellsOf 25 = 1 by kernel_rfl] at g3
      exact g3
    obtain ⟨a, n, c, ps, rfl, hs⟩ := open_costs g3'
    exact ⟨⟨[c0, c1, c2, c3, c4, c5], hh⟩, a, n, c, ps, rfl, hs⟩
end
end Go.Proofs.YtlchejbggnbccaaGreat
