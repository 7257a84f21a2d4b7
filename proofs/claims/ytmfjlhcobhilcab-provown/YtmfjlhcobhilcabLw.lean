/-
  The statements' own helpers: walks of begun, Short, the page's example, each for every input.
-/
import Derived.Test.YtmfjlhcobhilcabDoc
namespace Go.Proofs.Ytmfjlhcobhilcab
set_option linter.unusedVariables false
set_option maxRecDepth 4000
set_option linter.unusedSimpArgs false
open Go.RowKit
attribute [local go_sem ↓] ldM stM ldC stC ldB stB ldP stP apI bsI
attribute [local go_sem] bsI_is bsI2_is

attribute [local go_sem ↓] stIs stKs stMs stCs stBs ldD stD ldO bsK slI
/-- Structs, built: sealed. -/
def bdS (t : TypeId) (ps : Array (Nat × Value)) : Sem Value := Instr.build t ps
theorem bdO (ps : Array (Nat × Value)) : Instr.build 23 ps = bdS 23 ps := rfl
theorem bdP (ps : Array (Nat × Value)) : Instr.build 29 ps = bdS 29 ps := rfl
theorem bdB (ps : Array (Nat × Value)) : Instr.build 38 ps = bdS 38 ps := rfl
theorem bdC (ps : Array (Nat × Value)) : Instr.build 42 ps = bdS 42 ps := rfl
theorem bdM (ps : Array (Nat × Value)) : Instr.build 40 ps = bdS 40 ps := rfl
theorem bdD (ps : Array (Nat × Value)) : Instr.build 48 ps = bdS 48 ps := rfl
attribute [local go_sem ↓] bdO bdP bdB bdC bdM bdD
def o1 : O6 := ⟨2, 0, 0, 0, 0, 1⟩
theorem bdO_is (w : World) : (bdS 23 #[(0, .int .u8 2), (1, .int .u8 0), (2, .int .u8 0), (3, .int .u8 0), (4, .int .u8 0), (5, .int .u8 1)]).run Try.prog w = .ok (.agg o1.cs) w := by kernel_rfl
theorem bdP_is (a : Option Addr) (n c : Nat) (w : World) : (bdS 29 #[(0, .agg o1.cs), (1, .slice a n c)]).run Try.prog w = .ok (.agg (Pr.mk o1 (.slice a n c) (.slice none 0 0) (.slice none 0 0) (.slice none 0 0)).cs) w := by kernel_rfl
theorem bdB_is (v : Int) (a : Option Addr) (n c : Nat) (w : World) : (bdS 38 #[(0, .int .i64 v), (1, .slice a n c)]).run Try.prog w = .ok (.agg (Mr.mk v a n c).cs) w := by kernel_rfl
theorem bdC_is (s v : Int) (w : World) : (bdS 42 #[(0, .int .i64 s), (1, .int .i64 v)]).run Try.prog w = .ok (.agg (Cr.mk s v).cs) w := by kernel_rfl
theorem bdM_is (v s : Int) (w : World) : (bdS 40 #[(1, .int .i64 v), (2, .int .i64 s)]).run Try.prog w = .ok (.agg (Mp.mk 0 v s).cs) w := by kernel_rfl
theorem bdM3_is (p v s : Int) (w : World) : (bdS 40 #[(0, .int .i64 p), (1, .int .i64 v), (2, .int .i64 s)]).run Try.prog w = .ok (.agg (Mp.mk p v s).cs) w := by kernel_rfl
def zT : Ct := ⟨0, 0, 0, 0, 0, 0, 0, 0, false, 0, 0, 0, 0⟩
theorem bdDB_is (k : Int) (b : Mr) (w : World) : (bdS 48 #[(0, .int .i64 k), (3, .agg b.cs)]).run Try.prog w = .ok (.agg (Cm.mk k ⟨0, 0, 0⟩ ⟨0, 0⟩ b zT).cs) w := by kernel_rfl
theorem bdDC_is (k : Int) (c : Cr) (w : World) : (bdS 48 #[(0, .int .i64 k), (2, .agg c.cs)]).run Try.prog w = .ok (.agg (Cm.mk k ⟨0, 0, 0⟩ c ⟨0, none, 0, 0⟩ zT).cs) w := by kernel_rfl
theorem bdDM_is (k : Int) (m : Mp) (w : World) : (bdS 48 #[(0, .int .i64 k), (1, .agg m.cs)]).run Try.prog w = .ok (.agg (Cm.mk k m ⟨0, 0⟩ ⟨0, none, 0, 0⟩ zT).cs) w := by kernel_rfl
attribute [local go_sem] bdO_is bdP_is bdB_is bdC_is bdM_is bdDB_is bdDC_is bdDM_is
theorem bsK2_is (x y : Int) (w : World) : (bsS 24 2 #[(0, .int .i64 x), (1, .int .i64 y)]).run Try.prog w = .ok (.slice (some ⟨w.heap.size, 0, none⟩) 2 2) (w.alloc (.cells #[.int .i64 x, .int .i64 y] 31)) := by kernel_rfl
attribute [local go_sem] bsK2_is
def bgP (ks : List Int) : Pv := ⟨o1, ks, [], [], []⟩
theorem bg_is {W : World} {a : Option Addr} {n c : Nat} {ks : List Int} (h : SlAt eK W a n c ks) : IsPv W (Pr.mk o1 (.slice a n c) (.slice none 0 0) (.slice none 0 0) (.slice none 0 0)) (bgP ks) := ⟨rfl, (show O6.wf o1 from ⟨by decide, by decide⟩), h.slv, SlV.none' _, SlV.none' _, ⟨[], SlV.none' _, Mem.nil _⟩⟩
theorem begun_any (a : Option Addr) (n c : Nat) (ks : List Int) (w : World) (h : SlAt eK w a n c ks) :
    Calls Try.prog 5 #[.slice a n c] w fun r w' => (∃ x : Pr, r = .returned (.agg x.cs) ∧ IsPv w' x (bgP ks)) ∧ Below w.heap.size w w' := by
  obtain ⟨V, hV, m0, bV, zV⟩ := PrAt.zero w
  obtain ⟨Z, sZ, pZ, gZ⟩ := m0.st (y := Pr.mk o1 (.slice a n c) (.slice none 0 0) (.slice none 0 0) (.slice none 0 0)) (bg_is h).one
  have bZ : Below w.heap.size w Z := gro bV gZ (Nat.le_refl _) bV.size
  have G : Hid (PrAt Z w.heap.size (Pr.mk o1 (.slice a n c) (.slice none 0 0) (.slice none 0 0) (.slice none 0 0)) ∧ IsPv Z (Pr.mk o1 (.slice a n c) (.slice none 0 0) (.slice none 0 0) (.slice none 0 0)) (bgP ks) ∧ Below w.heap.size w Z) := ⟨pZ, bg_is (h.below bZ), bZ⟩
  clear h m0 bV zV pZ gZ bZ
  go_enter Try.func5, Try.ntmps5
  go_wp2
  refine bodyPost_ret (results_row rtP Try.results5 _ _ _ _ rfl G.out.1 rfl) rfl ?_
  exact ⟨⟨_, rfl, G.out.2.1⟩, G.out.2.2⟩
/-- A member of not many more ports than there may be. -/
def shM (z : Mb) : Mb := ⟨z.v, z.ps.take 10⟩
set_option maxHeartbeats 2000000 in
theorem short_any (y : Mr) (l : List Int) (w : World) (hs : SlAt eI w y.a y.n y.c l) :
    Calls Try.prog 9 #[.agg y.cs] w fun r w' => (∃ z : Mr, r = .returned (.agg z.cs) ∧ z.v = y.v ∧ ∀ U, SlAt eI U y.a y.n y.c l → SlAt eI U z.a z.n z.c (l.take 10)) ∧ Below w.heap.size w w' := by
  obtain ⟨W, hW, m0, bW, zW⟩ := MrAt.new w y
  obtain ⟨V, hV, m1, bV, zV⟩ := MrAt.zero W
  have k1 := (m0.below bV).c1
  have hnn := hs.int
  have M : Hid (MrAt V w.heap.size y ∧ MrAt V W.heap.size zR ∧ Below w.heap.size w V ∧ W.heap.size = w.heap.size + 1) := ⟨m0.below bV, m1, below_over bW bV, zW⟩
  by_cases hn : y.n ≤ 10
  · have d1 : decide ((y.n : Int) > 10) = false := by simp; omega
    have d2 : decide ((10 : Int) < (y.n : Int)) = false := by simp; omega
    have l0 := M.out.1.ld
    obtain ⟨Z, sZ, mZ, gZ⟩ := M.out.2.1.st y
    have bZ : Below w.heap.size w Z := gro M.out.2.2.1 gZ (by rw [M.out.2.2.2]; omega) M.out.2.2.1.size
    have G : Hid (MrAt Z W.heap.size y ∧ (∀ U, SlAt eI U y.a y.n y.c l → SlAt eI U y.a y.n y.c (l.take 10)) ∧ Below w.heap.size w Z) := ⟨mZ, fun U hU => by rw [List.take_of_length_le (by rw [hs.len]; exact hn)]; exact hU, bZ⟩
    clear hs m0 m1 bW bV zW zV hn mZ gZ bZ
    go_enter Try.func9, Try.ntmps9
    go_wp2
    refine bodyPost_ret (results_row rtB Try.results9 _ _ _ _ rfl G.out.1 rfl) rfl ?_
    exact ⟨⟨_, rfl, rfl, G.out.2.1⟩, G.out.2.2⟩
  · have d1 : decide ((y.n : Int) > 10) = true := by simp; omega
    have d2 : decide ((10 : Int) < (y.n : Int)) = true := by simp; omega
    have sl : ∀ Z : World, (slS 36 (.slice y.a y.n y.c) none (some (.int .i64 10)) none).run Try.prog Z = .ok (.slice y.a 10 y.c) Z := slI_cut y.a y.n y.c 10 (by omega) hs.cap
    obtain ⟨Y, sY, mY, gY⟩ := M.out.1.stP y.a 10 y.c
    have l0 := mY.ld
    have m2 := M.out.2.1.keptBut gY (by rw [M.out.2.2.2]; simp)
    obtain ⟨Z, sZ, mZ, gZ⟩ := m2.st ⟨y.v, y.a, 10, y.c⟩
    have bY : Below w.heap.size w Y := gro M.out.2.2.1 gY (Nat.le_refl _) M.out.2.2.1.size
    have bZ : Below w.heap.size w Z := gro bY gZ (by rw [M.out.2.2.2]; omega) bY.size
    have G : Hid (MrAt Z W.heap.size ⟨y.v, y.a, 10, y.c⟩ ∧ (∀ U, SlAt eI U y.a y.n y.c l → SlAt eI U y.a 10 y.c (l.take 10)) ∧ Below w.heap.size w Z) := ⟨mZ, fun U hU => hU.cut kI (by omega), bZ⟩
    clear hs m0 m1 bW bV zW zV hn mZ gZ bZ mY gY m2 bY
    go_enter Try.func9, Try.ntmps9
    go_wp2
    refine bodyPost_ret (results_row rtB Try.results9 _ _ _ _ rfl G.out.1 rfl) rfl ?_
    exact ⟨⟨_, rfl, rfl, G.out.2.1⟩, G.out.2.2⟩
/-! ### the page's example -/
def aw0 : Pv := bgP [1, 2]
def aw1 : Pv := { aw0 with bs := [⟨10, [1]⟩] }
def aw2 : Pv := { aw1 with cs := [⟨5000, 10⟩] }
def aw3 : Pv := { aw2 with ms := [⟨0, 100, 5000⟩] }
def ac1 : Cd := ⟨5, ⟨0, 0, 0⟩, ⟨0, 0⟩, ⟨10, [1]⟩⟩
def ac2 : Cd := ⟨3, ⟨0, 0, 0⟩, ⟨5000, 10⟩, ⟨0, []⟩⟩
def ac3 : Cd := ⟨1, ⟨0, 100, 5000⟩, ⟨0, 0⟩, ⟨0, []⟩⟩
theorem aw_1 : doC aw0 ac1 = (aw1, 0) := by kernel_rfl
theorem aw_2 : doC aw1 ac2 = (aw2, 0) := by kernel_rfl
theorem aw_3 : doC aw2 ac3 = (aw3, 0) := by kernel_rfl
theorem aw_s : svc aw3 0 100 = (5000, true) := by kernel_rfl
theorem aw_c : chk aw3 = true := by kernel_rfl
theorem sz0 : Sz aw0 := ⟨by decide, by decide, by decide, by decide, fun m hm => by cases hm⟩
theorem sz1 : Sz aw1 := ⟨by decide, by decide, by decide, by decide, fun m hm => by simp [aw1] at hm; subst hm; decide⟩
theorem sz2 : Sz aw2 := ⟨by decide, by decide, by decide, by decide, fun m hm => by simp [aw2, aw1] at hm; subst hm; decide⟩
theorem sz3 : Sz aw3 := ⟨by decide, by decide, by decide, by decide, fun m hm => by simp [aw3, aw2, aw1] at hm; subst hm; decide⟩
theorem do_is {w : World} {p q : Pv} {c : Cd} {e : Int} {x : Pr} {y : Cm} (h : IsPv w x p) (hz : Sz p) (hc : IsCm w y c) (hcl : c.b.ps.length ≤ 1000) (hd : doC p c = (q, e)) :
    Calls Try.prog 6 #[.agg x.cs, .agg y.cs] w fun r w' => (∃ x' : Pr, r = .returned (.tuple #[.agg x'.cs, .int .i64 e]) ∧ IsOwn w' w.heap.size x' q) ∧ Below w.heap.size w w' := by
  have := do_any x p y c w h hz hc hcl
  rw [hd] at this
  exact this
theorem PrAt.put (W : World) (x : Pr) (hx : ∀ v ∈ x.cs.toList, v.oneCell' = true) : ∃ V, (stS 29 (.pointer (some ⟨W.heap.size, 0, none⟩)) (.agg x.cs)).run Try.prog (W.alloc (.cells #[.int .u8 0, .int .u8 0, .int .u8 0, .int .u8 0, .int .u8 0, .int .u8 0, .slice none 0 0, .slice none 0 0, .slice none 0 0, .slice none 0 0] 29)) = .ok () V ∧ PrAt V W.heap.size x ∧ Below W.heap.size W V := by
  obtain ⟨V, h1, h2, h3, _⟩ := row_new rtP W #[.int .u8 0, .int .u8 0, .int .u8 0, .int .u8 0, .int .u8 0, .int .u8 0, .slice none 0 0, .slice none 0 0, .slice none 0 0, .slice none 0 0] x.cs rfl rfl hx
  exact ⟨V, h1, h2, h3⟩
set_option maxHeartbeats 8000000 in
theorem awake_any (w : World) : Calls Try.prog 7 #[] w fun r w' => r = .returned (.bool true) ∧ Below w.heap.size w w' := by
  obtain ⟨W, hW⟩ : ∃ z, w.alloc (.cells #[.int .i64 1, .int .i64 2] 31) = z := ⟨_, rfl⟩
  have B0 : Hid (Below w.heap.size w W ∧ SlAt eK W (some ⟨w.heap.size, 0, none⟩) 2 2 [1, 2]) := by
    rw [← hW]
    exact ⟨(Below.refl _ _).alloc (Nat.le_refl _) _, two_new' w 1 2 kK⟩
  go_enter Try.func7, Try.ntmps7
  go_wp2_with fail
  refine (begun_any _ 2 2 [1, 2] W B0.out.2).mono ?_
  rintro _ V ⟨⟨x0, rfl, hx0⟩, bV⟩
  obtain ⟨U, hU⟩ : ∃ z, V.alloc (.cells #[.int .i64 1] 3) = z := ⟨_, rfl⟩
  have bU : Below V.heap.size V U := by rw [← hU]; exact (Below.refl _ _).alloc (Nat.le_refl _) _
  have sU : SlAt eI U (some ⟨V.heap.size, 0, none⟩) 1 1 [1] := by rw [← hU]; exact one_new V 1 kI
  have B1 : Hid (Below w.heap.size w U ∧ IsPv U x0 aw0 ∧ SlAt eI U (some ⟨V.heap.size, 0, none⟩) 1 1 [1]) := ⟨below_over B0.out.1 (below_over bV bU), hx0.below bU, sU⟩
  clear hx0 bV bU sU
  go_wp2_with fail
  refine (do_is (y := Cm.mk 5 ⟨0, 0, 0⟩ ⟨0, 0⟩ ⟨10, some ⟨V.heap.size, 0, none⟩, 1, 1⟩ zT) B1.out.2.1 sz0 ⟨rfl, rfl, rfl, rfl, B1.out.2.2⟩ (by decide) aw_1).mono ?_
  rintro _ X1 ⟨⟨x1, rfl, h1⟩, b1⟩
  obtain ⟨X2, s2, m2, b2⟩ := PrAt.put X1 x1 h1.pv.one
  have B2 : Hid (Below w.heap.size w X2 ∧ IsPv X2 x1 aw1) := ⟨below_over B1.out.1 (below_over b1 b2), h1.pv.below b2⟩
  have l2 := m2.ld
  clear h1 b1 m2 b2
  go_wp2_with fail
  refine (do_is (y := Cm.mk 3 ⟨0, 0, 0⟩ ⟨5000, 10⟩ ⟨0, none, 0, 0⟩ zT) B2.out.2 sz1 ⟨rfl, rfl, rfl, rfl, SlAt.none' _⟩ (by decide) aw_2).mono ?_
  rintro _ X3 ⟨⟨x3, rfl, h1⟩, b1⟩
  obtain ⟨X4, s4, m2, b2⟩ := PrAt.put X3 x3 h1.pv.one
  have B3 : Hid (Below w.heap.size w X4 ∧ IsPv X4 x3 aw2) := ⟨below_over B2.out.1 (below_over b1 b2), h1.pv.below b2⟩
  have l4 := m2.ld
  clear h1 b1 m2 b2
  go_wp2_with fail
  refine (do_is (y := Cm.mk 1 ⟨0, 100, 5000⟩ ⟨0, 0⟩ ⟨0, none, 0, 0⟩ zT) B3.out.2 sz2 ⟨rfl, rfl, rfl, rfl, SlAt.none' _⟩ (by decide) aw_3).mono ?_
  rintro _ X5 ⟨⟨x5, rfl, h1⟩, b1⟩
  obtain ⟨X6, s6, m2, b2⟩ := PrAt.put X5 x5 h1.pv.one
  have B4 : Hid (Below w.heap.size w X6 ∧ IsPv X6 x5 aw3 ∧ PrAt X6 X5.heap.size x5) := ⟨below_over B3.out.1 (below_over b1 b2), h1.pv.below b2, m2⟩
  have l6 := m2.ld
  clear h1 b1 m2 b2
  go_wp2_with fail
  refine (Calls.ret_eq (by rw [aw_s]) (svc_any x5 aw3 0 100 X6 B4.out.2.1)).mono ?_
  rintro _ X7 ⟨rfl, b7⟩
  have B5 : Hid (Below w.heap.size w X7 ∧ IsPv X7 x5 aw3) := ⟨below_over B4.out.1 b7, B4.out.2.1.below b7⟩
  have l7 := (B4.out.2.2.below b7).ld
  clear b7
  go_wp2_with fail
  refine (ret_i (chk_any x5 aw3 X7 B5.out.2 sz3.2.2.2.2) (by rw [aw_c])).mono ?_
  rintro _ X8 ⟨rfl, b8⟩
  rw [erC_yes]
  have B6 : Hid (Below w.heap.size w X8) := below_over B5.out.1 b8
  clear b8
  go_wp2
  go_ret
  exact ⟨rfl, B6.out⟩
end Go.Proofs.Ytmfjlhcobhilcab
