/-
  The page's example: its walk.
-/
import Derived.Test.YtcejfkkhmlebdaaCut
namespace Go.Proofs.Ytcejfkkhmlebdaa
set_option linter.unusedVariables false
set_option maxRecDepth 4000
set_option linter.unusedSimpArgs false
open Go.RowKit
attribute [local go_sem ↓] ldM stM ldC stC ldB stB ldP stP apI bsI ldF stF ldG stG bsB bsC bdG bdO bdB bdC bdP bdF bdT bdI
attribute [local go_sem] bsI2_is bdG_is bdG_z bdB_is bdC_is bsB_is bsC_is

/-- Rows in a new block. -/
theorem lits_new {α : Type} {e : El α} (k : e.Ok) (W : World) (l : List α) (cs : Array Value) (hc : cs.toList = e.fl l) (h0 : 0 < l.length) (hm : l.length ≤ 1000) : SlAt e (W.alloc (.cells cs e.ty)) (some ⟨W.heap.size, 0, none⟩) l.length l.length l := by
  refine ⟨rfl, Nat.le_refl _, by unfold maxLen; omega, (fun e => by cases e), fun y e' _ => ?_⟩
  cases e'
  refine ⟨_, _, rfl, fun j u hj => ?_⟩
  rw [Nat.zero_add]
  refine RvAt.cell (RvAt.new W e.ty cs) j u ?_
  rw [← hc] at hj
  rw [← Array.getElem?_toList]
  exact hj
theorem bsI3_is (x y z : Int) (w : World) : (bsS 59 3 #[(0, .int .i64 x), (1, .int .i64 y), (2, .int .i64 z)]).run Try.prog w = .ok (.slice (some ⟨w.heap.size, 0, none⟩) 3 3) (w.alloc (.cells #[.int .i64 x, .int .i64 y, .int .i64 z] 3)) := by kernel_rfl
theorem bsG (n : Nat) (ps : Array (Nat × Value)) : Instr.buildSlice 32 n ps = bsS 32 n ps := rfl
def oG : Gt := ⟨true, true⟩
theorem bsG4_is (w : World) : (bsS 32 4 #[(0, .agg zG.cs), (1, .agg oG.cs), (2, .agg oG.cs), (3, .agg oG.cs)]).run Try.prog w = .ok (.slice (some ⟨w.heap.size, 0, none⟩) 4 4) (w.alloc (.cells #[.bool false, .bool false, .bool true, .bool true, .bool true, .bool true, .bool true, .bool true] 37)) := by kernel_rfl
def o2 : O6 := ⟨2, 0, 0, 0, 0, 0⟩
def o4 : O6 := ⟨4, 0, 0, 0, 0, 0⟩
def o6 : O6 := ⟨6, 0, 0, 0, 0, 0⟩
theorem bdO2 (w : World) : (bdS 42 #[(0, .int .u8 2)]).run Try.prog w = .ok (.agg o2.cs) w := by kernel_rfl
theorem bdO4 (w : World) : (bdS 42 #[(0, .int .u8 4)]).run Try.prog w = .ok (.agg o4.cs) w := by kernel_rfl
theorem bdO6 (w : World) : (bdS 42 #[(0, .int .u8 6)]).run Try.prog w = .ok (.agg o6.cs) w := by kernel_rfl
theorem bdT_is (w : World) : (bdS 50 #[(2, .int .i64 10)]).run Try.prog w = .ok (.agg #[.int .i64 0, .bool false, .int .i64 10]) w := by kernel_rfl
theorem bdI_is (w : World) : (bdS 52 #[(3, .int .i64 5)]).run Try.prog w = .ok (.agg #[.int .i64 0, .bool false, .bool false, .int .i64 5, .int .u8 0, .int .u8 0, .int .u8 0, .int .u8 0, .int .u8 0, .int .u8 0, .int .u8 0, .int .u8 0, .int .u8 0, .int .u8 0, .int .u8 0, .int .u8 0]) w := by kernel_rfl
def fA : Bf := ⟨o4, o6, 0, false, 10, 0, false, false, 5, zO, zO, .slice none 0 0⟩
theorem bdF_is (w : World) : (bdS 55 #[(0, .agg o4.cs), (1, .agg o6.cs), (2, .agg #[.int .i64 0, .bool false, .int .i64 10]), (3, .agg #[.int .i64 0, .bool false, .bool false, .int .i64 5, .int .u8 0, .int .u8 0, .int .u8 0, .int .u8 0, .int .u8 0, .int .u8 0, .int .u8 0, .int .u8 0, .int .u8 0, .int .u8 0, .int .u8 0, .int .u8 0])]).run Try.prog w = .ok (.agg fA.cs) w := by kernel_rfl
theorem bdF_z (w : World) : (bdS 55 #[]).run Try.prog w = .ok (.agg zF.cs) w := by kernel_rfl
theorem bdP_is (a b : Option Addr) (n c m d : Nat) (w : World) : (bdS 48 #[(0, .agg o2.cs), (4, .slice a n c), (3, .slice b m d)]).run Try.prog w = .ok (.agg (Pr.mk o2 (.slice none 0 0) (.slice none 0 0) (.slice b m d) (.slice a n c)).cs) w := by kernel_rfl
attribute [local go_sem ↓] bsG
attribute [local go_sem] bsI3_is bsG4_is bdO2 bdO4 bdO6 bdT_is bdI_is bdF_is bdF_z bdP_is
theorem PrAt.put (W : World) (x : Pr) (hx : ∀ v ∈ x.cs.toList, v.oneCell' = true) : ∃ V, (stS 48 (.pointer (some ⟨W.heap.size, 0, none⟩)) (.agg x.cs)).run Try.prog (W.alloc (.cells #[.int .u8 0, .int .u8 0, .int .u8 0, .int .u8 0, .int .u8 0, .int .u8 0, .slice none 0 0, .slice none 0 0, .slice none 0 0, .slice none 0 0] 48)) = .ok () V ∧ PrAt V W.heap.size x ∧ Below W.heap.size W V := by
  obtain ⟨V, h1, h2, h3, _⟩ := row_new rtP W #[.int .u8 0, .int .u8 0, .int .u8 0, .int .u8 0, .int .u8 0, .int .u8 0, .slice none 0 0, .slice none 0 0, .slice none 0 0, .slice none 0 0] x.cs rfl rfl hx
  exact ⟨V, h1, h2, h3⟩
theorem GtAt.ld {W : World} {b : Nat} {x : Gt} (h : GtAt W b x) : (ldS 37 (.pointer (some ⟨b, 0, none⟩))).run Try.prog W = .ok (.agg x.cs) W := RvAt.ld rtG h rfl
def pA : Pv := ⟨o2, [], [], [⟨5, 10⟩], [⟨10, [1, 2, 3]⟩]⟩
def gA : List Gt := [zG, oG, oG, oG]
theorem szA : ∀ m ∈ pA.bs, m.ps.length ≤ 1000 := fun m hm => by simp [pA] at hm; subst hm; decide
theorem okA : fA.ok := ⟨⟨by decide, by decide⟩, ⟨by decide, by decide⟩, rfl⟩
theorem aw_out : outL pA gA 2 fA 0 false = [1, 3] := by kernel_rfl
theorem aw_own : outB pA 2 fA = false := by kernel_rfl
theorem aw_in : inC pA gA 2 fA = 0 := by kernel_rfl
theorem aw_in0 : inC pA gA 0 fA = 8 := by kernel_rfl
theorem aw_lr : lrC pA gA 2 fA = true := by kernel_rfl
theorem aw_ac : acC pA fA = 0 := by kernel_rfl
theorem aw_ac0 : acC pA zF = 7 := by kernel_rfl
set_option maxHeartbeats 8000000 in
theorem awake_any (w : World) : Calls Try.prog 8 #[] w fun r w' => r = .returned (.bool true) ∧ Below w.heap.size w w' := by
  obtain ⟨W1, hW1⟩ : ∃ z, w.alloc (.cells #[.int .i64 1, .int .i64 2, .int .i64 3] 3) = z := ⟨_, rfl⟩
  obtain ⟨W2, hW2⟩ : ∃ z, W1.alloc (.cells (Mr.mk 10 (some ⟨w.heap.size, 0, none⟩) 3 3).cs 68) = z := ⟨_, rfl⟩
  obtain ⟨W3, hW3⟩ : ∃ z, W2.alloc (.cells (Cr.mk 5 10).cs 70) = z := ⟨_, rfl⟩
  have b1 : Below w.heap.size w W1 := by rw [← hW1]; exact (Below.refl _ _).alloc (Nat.le_refl _) _
  have b2 : Below W1.heap.size W1 W2 := by rw [← hW2]; exact (Below.refl _ _).alloc (Nat.le_refl _) _
  have b3 : Below W2.heap.size W2 W3 := by rw [← hW3]; exact (Below.refl _ _).alloc (Nat.le_refl _) _
  have s1 : SlAt eI W1 (some ⟨w.heap.size, 0, none⟩) 3 3 [1, 2, 3] := by rw [← hW1]; exact lits_new kI w [1, 2, 3] _ rfl (by decide) (by decide)
  have s2 : SlAt eB W2 (some ⟨W1.heap.size, 0, none⟩) 1 1 [⟨10, some ⟨w.heap.size, 0, none⟩, 3, 3⟩] := by rw [← hW2]; exact one_new W1 _ kB
  have s3 : SlAt eC W3 (some ⟨W2.heap.size, 0, none⟩) 1 1 [⟨5, 10⟩] := by rw [← hW3]; exact one_new W2 _ kC
  have hp3 : IsPv W3 ⟨o2, .slice none 0 0, .slice none 0 0, .slice (some ⟨W2.heap.size, 0, none⟩) 1 1, .slice (some ⟨W1.heap.size, 0, none⟩) 1 1⟩ pA :=
    ⟨rfl, ⟨by decide, by decide⟩, SlV.none' _, SlV.none' _, s3.slv, [⟨10, some ⟨w.heap.size, 0, none⟩, 3, 3⟩], (s2.below b3).slv, Mem.one rfl ((s1.below b2).below b3)⟩
  obtain ⟨W4, t4, r4, b4⟩ := PrAt.put W3 _ hp3.one
  obtain ⟨W5, t5, r5, b5, e5⟩ := GtAt.put W4 oG
  clear e5
  obtain ⟨W6, hW6⟩ : ∃ z, W5.alloc (.cells #[.bool false, .bool false, .bool true, .bool true, .bool true, .bool true, .bool true, .bool true] 37) = z := ⟨_, rfl⟩
  have b6 : Below W5.heap.size W5 W6 := by rw [← hW6]; exact (Below.refl _ _).alloc (Nat.le_refl _) _
  have s6 : SlAt eG W6 (some ⟨W5.heap.size, 0, none⟩) 4 4 gA := by rw [← hW6]; exact lits_new kG W5 gA _ rfl (by decide) (by decide)
  obtain ⟨W7, t7, r7, b7, e7⟩ := FrAt.put W6 fA okA
  clear e7
  have bd : Below W3.heap.size W3 W7 := below_over b4 (below_over b5 (below_over b6 b7))
  have D : Hid (IsPv W7 ⟨o2, .slice none 0 0, .slice none 0 0, .slice (some ⟨W2.heap.size, 0, none⟩) 1 1, .slice (some ⟨W1.heap.size, 0, none⟩) 1 1⟩ pA ∧ SlAt eG W7 (some ⟨W5.heap.size, 0, none⟩) 4 4 gA ∧ PrAt W7 W3.heap.size ⟨o2, .slice none 0 0, .slice none 0 0, .slice (some ⟨W2.heap.size, 0, none⟩) 1 1, .slice (some ⟨W1.heap.size, 0, none⟩) 1 1⟩ ∧ FrAt W7 W6.heap.size fA ∧ Below w.heap.size w W7) :=
    ⟨hp3.below bd, s6.below b7, r4.below (below_over b5 (below_over b6 b7)), r7, below_over b1 (below_over b2 (below_over b3 bd))⟩
  obtain ⟨X, hX⟩ : ∃ z : Pr, z = ⟨o2, .slice none 0 0, .slice none 0 0, .slice (some ⟨W2.heap.size, 0, none⟩) 1 1, .slice (some ⟨W1.heap.size, 0, none⟩) 1 1⟩ := ⟨_, rfl⟩
  rw [← hX] at D t4
  have bp : ∀ q : World, (bdS 48 #[(0, .agg o2.cs), (4, .slice (some ⟨W1.heap.size, 0, none⟩) 1 1), (3, .slice (some ⟨W2.heap.size, 0, none⟩) 1 1)]).run Try.prog q = .ok (.agg X.cs) q := fun q => by rw [hX]; exact bdP_is _ _ _ _ _ _ q
  have bg : ∀ q : World, (bdS 37 #[(0, .bool true), (1, .bool true)]).run Try.prog q = .ok (.agg oG.cs) q := fun q => bdG_is true true q
  have lg := r5.ld
  have l0 := D.out.2.2.1.ld
  have l1 := D.out.2.2.2.1.ld
  have z1 := bsB_is (Mr.mk 10 (some ⟨w.heap.size, 0, none⟩) 3 3) W1
  have z2 := bsC_is (Cr.mk 5 10) W2
  clear b1 b2 b3 s1 s2 s3 hp3 r4 b4 r5 b5 b6 s6 r7 b7 bd hX
  go_enter Try.func8, Try.ntmps8
  go_wp2_with fail
  refine (out_any X pA _ 4 4 gA 2 fA 0 false W7 D.out.1 szA D.out.2.1 (by decide) okA).mono ?_
  rw [aw_out, aw_own]
  rintro _ Y1 ⟨⟨v, rfl, oY⟩, bY⟩
  obtain ⟨va, vc, rfl, sY, _⟩ := oY.form
  rw [show ([1, 3] : List Int).length = 2 from rfl] at sY ⊢
  obtain ⟨Y2, hY2⟩ : ∃ z, Y1.alloc (.cells #[.int .i64 1, .int .i64 3] 3) = z := ⟨_, rfl⟩
  have c2 : Below Y1.heap.size Y1 Y2 := by rw [← hY2]; exact (Below.refl _ _).alloc (Nat.le_refl _) _
  have u2 : SlAt eI Y2 (some ⟨Y1.heap.size, 0, none⟩) 2 2 [1, 3] := by rw [← hY2]; exact two_new' Y1 1 3 kI
  have D2 : Hid (SlAt eI Y2 va 2 vc [1, 3] ∧ SlAt eI Y2 (some ⟨Y1.heap.size, 0, none⟩) 2 2 [1, 3] ∧ Below W7.heap.size W7 Y2) := ⟨sY.below c2, u2, below_over bY c2⟩
  clear sY oY bY c2 u2 l0 l1 t4 t5 t7 bp bg lg z1 z2
  go_wp2_with fail
  refine (ret_b (rints_b va 2 vc [1, 3] _ 2 2 [1, 3] Y2 D2.out.1 D2.out.2.1) (eqIs_self _)).mono ?_
  rintro _ Y3 ⟨rfl, b3⟩
  have D3 : Hid (Below W7.heap.size W7 Y3) := below_over D2.out.2.2 b3
  have l0 := (D.out.2.2.1.below D3.out).ld
  have l1 := (D.out.2.2.2.1.below D3.out).ld
  clear b3
  go_wp2_with fail
  refine (ret_i (in_any X pA _ 4 4 gA 2 fA Y3 (D.out.1.below D3.out) szA (D.out.2.1.below D3.out) okA) aw_in).mono ?_
  rintro _ Y4 ⟨rfl, b4⟩
  have D4 : Hid (Below W7.heap.size W7 Y4) := below_over D3.out b4
  clear b4 l0 l1
  have l0 := (D.out.2.2.1.below D4.out).ld
  have l1 := (D.out.2.2.2.1.below D4.out).ld
  go_wp2_with fail
  refine (ret_i (in_any X pA _ 4 4 gA 0 fA Y4 (D.out.1.below D4.out) szA (D.out.2.1.below D4.out) okA) aw_in0).mono ?_
  rintro _ Y5 ⟨rfl, b5⟩
  have D5 : Hid (Below W7.heap.size W7 Y5) := below_over D4.out b5
  clear b5 l0 l1
  have l0 := (D.out.2.2.1.below D5.out).ld
  have l1 := (D.out.2.2.2.1.below D5.out).ld
  go_wp2_with fail
  refine (ret_b (learns_any X pA _ 4 4 gA 2 fA Y5 (D.out.1.below D5.out) szA (D.out.2.1.below D5.out) okA) aw_lr).mono ?_
  rintro _ Y6 ⟨rfl, b6⟩
  have D6 : Hid (Below W7.heap.size W7 Y6) := below_over D5.out b6
  clear b6 l0 l1
  have l0 := (D.out.2.2.1.below D6.out).ld
  have l1 := (D.out.2.2.2.1.below D6.out).ld
  go_wp2_with fail
  refine (ret_i (accept_any X pA fA Y6 (D.out.1.below D6.out)) aw_ac).mono ?_
  rintro _ Y7 ⟨rfl, b7⟩
  have D7 : Hid (Below W7.heap.size W7 Y7) := below_over D6.out b7
  clear b7 l0 l1
  have l0 := (D.out.2.2.1.below D7.out).ld
  go_wp2_with fail
  refine (ret_i (accept_any X pA zF Y7 (D.out.1.below D7.out)) aw_ac0).mono ?_
  rintro _ Y8 ⟨rfl, b8⟩
  have D8 : Hid (Below w.heap.size w Y8) := below_over D.out.2.2.2.2 (below_over D7.out b8)
  clear b8 l0
  go_wp2
  go_ret
  exact ⟨rfl, D8.out⟩
end Go.Proofs.Ytcejfkkhmlebdaa
