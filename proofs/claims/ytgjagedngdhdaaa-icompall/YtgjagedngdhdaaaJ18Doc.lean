/-
  A command done: the walk of Do of the code, for every input. The statements' own helpers: walks of begun, Short, the page's example, each for every input.
-/
import Derived.Test.YtgjagedngdhdaaaJ17Ref
namespace Go.Proofs.Ytgjagedngdhdaaa

section
set_option linter.unusedVariables false
set_option maxRecDepth 4000
set_option linter.unusedSimpArgs false
open Go.RowKit
attribute [local go_sem ↓] ldM stM ldC stC ldB stB ldP stP apI bsI
attribute [local go_sem] bsI_is bsI2_is

attribute [local go_sem ↓] stIs stKs stMs stCs stBs ldD stD
/-- Do's variables. -/
structure DoS (w V : World) (x : Pr) (y : Cm) : Prop where
  var : PrAt V w.heap.size x
  cmd : CmAt V (w.heap.size + 1) y
  res : PrAt V (w.heap.size + 2) zP
  bel : Below w.heap.size w V
  siz : w.heap.size + 3 ≤ V.heap.size
theorem DoS.below {w V V' : World} {x : Pr} {y : Cm} (h : DoS w V x y) (hb : Below V.heap.size V V') : DoS w V' x y := ⟨h.var.below hb, h.cmd.below hb, h.res.below hb, below_over h.bel hb, Nat.le_trans h.siz hb.size⟩
theorem DoS.set {w V V' : World} {x x' : Pr} {y : Cm} (h : DoS w V x y) (hy : PrAt V' w.heap.size x') (hg : V.grownBy V' (some w.heap.size)) : DoS w V' x' y := ⟨hy, h.cmd.keptBut hg (by simp), h.res.keptBut hg (by simp), gro h.bel hg (Nat.le_refl _) h.bel.size, Nat.le_trans h.siz hg.size⟩
theorem DoS.new (w : World) (x : Pr) (y : Cm) : ∃ W V U, w.alloc (.cells x.cs 29) = W ∧ W.alloc (.cells y.cs 108) = V ∧ V.alloc (.cells #[.int .u8 0, .int .u8 0, .int .u8 0, .int .u8 0, .int .u8 0, .int .u8 0, .slice none 0 0, .slice none 0 0, .slice none 0 0, .slice none 0 0] 29) = U ∧ DoS w U x y ∧ W.heap.size = w.heap.size + 1 ∧ V.heap.size = w.heap.size + 2 ∧ U.heap.size = w.heap.size + 3 := by
  obtain ⟨W, hW, m0, bW, zW⟩ := PrAt.new w x
  obtain ⟨V, hV, m1, bV, zV⟩ := CmAt.new W y
  obtain ⟨U, hU, m2, bU, zU⟩ := PrAt.zero V
  rw [zW] at m1
  rw [zV, zW] at m2
  refine ⟨W, V, U, hW, hV, hU, ⟨(m0.below bV).below bU, m1.below bU, m2, below_over bW (below_over bV bU), ?_⟩, zW, ?_, ?_⟩
  all_goals (rw [zW] at zV; rw [zV] at zU; omega)
/-- What Do tells. -/
def DoT (w : World) (q : Pv × Int) (r : Ending) (w' : World) : Prop := (∃ x : Pr, r = .returned (.tuple #[.agg x.cs, .int .i64 q.2]) ∧ IsOwn w' w.heap.size x q.1) ∧ Below w.heap.size w w'
theorem DoS.tell {w V : World} {x : Pr} {y : Cm} {q : Pv} (h : DoS w V x y) (ho : IsOwn V (w.heap.size + 3) x q) : ∃ Z, (stS 29 (.pointer (some ⟨w.heap.size + 2, 0, none⟩)) (.agg x.cs)).run Try.prog V = .ok () Z ∧ PrAt Z (w.heap.size + 2) x ∧ IsOwn Z w.heap.size x q ∧ Below w.heap.size w Z := by
  obtain ⟨Z, sZ, pZ, gZ⟩ := h.res.st ho.pv.one
  exact ⟨Z, sZ, pZ, (ho.kept gZ (by omega)).mono (by omega), gro h.bel gZ (by omega) h.bel.size⟩
theorem erC_no : erC false = 180 := rfl
theorem erC_yes : erC true = 0 := rfl
end

section
set_option linter.unusedVariables false
set_option maxRecDepth 4000
set_option linter.unusedSimpArgs false
open Go.RowKit
attribute [local go_sem ↓] ldM stM ldC stC ldB stB ldP stP apI bsI
attribute [local go_sem] bsI_is bsI2_is

attribute [local go_sem ↓] stIs stKs stMs stCs stBs ldD stD ldO bsK slI
/-- Structs, built: sealed. -/
def bdS (t : TypeId) (ps : Array (Nat × Value)) : Sem Value := Instr.build t ps
theorem bdO (ps : Array (Nat × Value)) : Instr.build 23 ps = bdS 23 ps := rfl
theorem bdP (ps : Array (Nat × Value)) : Instr.build 29 ps = bdS 29 ps := rfl
theorem bdB (ps : Array (Nat × Value)) : Instr.build 76 ps = bdS 76 ps := rfl
theorem bdC (ps : Array (Nat × Value)) : Instr.build 102 ps = bdS 102 ps := rfl
theorem bdM (ps : Array (Nat × Value)) : Instr.build 100 ps = bdS 100 ps := rfl
theorem bdD (ps : Array (Nat × Value)) : Instr.build 108 ps = bdS 108 ps := rfl
attribute [local go_sem ↓] bdO bdP bdB bdC bdM bdD
def o1 : O6 := ⟨2, 0, 0, 0, 0, 1⟩
theorem bdO_is (w : World) : (bdS 23 #[(0, .int .u8 2), (1, .int .u8 0), (2, .int .u8 0), (3, .int .u8 0), (4, .int .u8 0), (5, .int .u8 1)]).run Try.prog w = .ok (.agg o1.cs) w := by kernel_rfl
theorem bdP_is (a : Option Addr) (n c : Nat) (w : World) : (bdS 29 #[(0, .agg o1.cs), (1, .slice a n c)]).run Try.prog w = .ok (.agg (Pr.mk o1 (.slice a n c) (.slice none 0 0) (.slice none 0 0) (.slice none 0 0)).cs) w := by kernel_rfl
theorem bdB_is (v : Int) (a : Option Addr) (n c : Nat) (w : World) : (bdS 76 #[(0, .int .i64 v), (1, .slice a n c)]).run Try.prog w = .ok (.agg (Mr.mk v a n c).cs) w := by kernel_rfl
theorem bdC_is (s v : Int) (w : World) : (bdS 102 #[(0, .int .i64 s), (1, .int .i64 v)]).run Try.prog w = .ok (.agg (Cr.mk s v).cs) w := by kernel_rfl
theorem bdM_is (v s : Int) (w : World) : (bdS 100 #[(1, .int .i64 v), (2, .int .i64 s)]).run Try.prog w = .ok (.agg (Mp.mk 0 v s).cs) w := by kernel_rfl
theorem bdM3_is (p v s : Int) (w : World) : (bdS 100 #[(0, .int .i64 p), (1, .int .i64 v), (2, .int .i64 s)]).run Try.prog w = .ok (.agg (Mp.mk p v s).cs) w := by kernel_rfl
def zT : Ct := ⟨0, 0, 0, 0, 0, 0, 0, 0, false, 0, 0, 0, 0⟩
theorem bdDB_is (k : Int) (b : Mr) (w : World) : (bdS 108 #[(0, .int .i64 k), (3, .agg b.cs)]).run Try.prog w = .ok (.agg (Cm.mk k ⟨0, 0, 0⟩ ⟨0, 0⟩ b zT).cs) w := by kernel_rfl
theorem bdDC_is (k : Int) (c : Cr) (w : World) : (bdS 108 #[(0, .int .i64 k), (2, .agg c.cs)]).run Try.prog w = .ok (.agg (Cm.mk k ⟨0, 0, 0⟩ c ⟨0, none, 0, 0⟩ zT).cs) w := by kernel_rfl
theorem bdDM_is (k : Int) (m : Mp) (w : World) : (bdS 108 #[(0, .int .i64 k), (1, .agg m.cs)]).run Try.prog w = .ok (.agg (Cm.mk k m ⟨0, 0⟩ ⟨0, none, 0, 0⟩ zT).cs) w := by kernel_rfl
attribute [local go_sem] bdO_is bdP_is bdB_is bdC_is bdM_is bdDB_is bdDC_is bdDM_is
theorem bsK2_is (x y : Int) (w : World) : (bsS 24 2 #[(0, .int .i64 x), (1, .int .i64 y)]).run Try.prog w = .ok (.slice (some ⟨w.heap.size, 0, none⟩) 2 2) (w.alloc (.cells #[.int .i64 x, .int .i64 y] 95)) := by kernel_rfl
attribute [local go_sem] bsK2_is
def bgP (ks : List Int) : Pv := ⟨o1, ks, [], [], []⟩
theorem bg_is {W : World} {a : Option Addr} {n c : Nat} {ks : List Int} (h : SlAt eK W a n c ks) : IsPv W (Pr.mk o1 (.slice a n c) (.slice none 0 0) (.slice none 0 0) (.slice none 0 0)) (bgP ks) := ⟨rfl, (show O6.wf o1 from by unfold O6.wf; decide), h.slv, SlV.none' _, SlV.none' _, ⟨[], SlV.none' _, Mem.nil _⟩⟩
theorem begun_any (a : Option Addr) (n c : Nat) (ks : List Int) (w : World) (h : SlAt eK w a n c ks) :
    Calls Try.prog 47 #[.slice a n c] w fun r w' => (∃ x : Pr, r = .returned (.agg x.cs) ∧ IsPv w' x (bgP ks)) ∧ Below w.heap.size w w' := by
  obtain ⟨V, hV, m0, bV, zV⟩ := PrAt.zero w
  obtain ⟨Z, sZ, pZ, gZ⟩ := m0.st (y := Pr.mk o1 (.slice a n c) (.slice none 0 0) (.slice none 0 0) (.slice none 0 0)) (bg_is h).one
  have bZ : Below w.heap.size w Z := gro bV gZ (Nat.le_refl _) bV.size
  have G : Hid (PrAt Z w.heap.size (Pr.mk o1 (.slice a n c) (.slice none 0 0) (.slice none 0 0) (.slice none 0 0)) ∧ IsPv Z (Pr.mk o1 (.slice a n c) (.slice none 0 0) (.slice none 0 0) (.slice none 0 0)) (bgP ks) ∧ Below w.heap.size w Z) := ⟨pZ, bg_is (h.below bZ), bZ⟩
  clear h m0 bV zV pZ gZ bZ
  go_enter Try.func47, Try.ntmps47
  go_wp2
  refine bodyPost_ret (results_row rtP Try.results47 _ _ _ _ rfl G.out.1 rfl) rfl ?_
  exact ⟨⟨_, rfl, G.out.2.1⟩, G.out.2.2⟩
/-- A member of not many more ports than there may be. -/
def shM (z : Mb) : Mb := ⟨z.v, z.ps.take 10⟩
set_option maxHeartbeats 2000000 in
theorem short_any (y : Mr) (l : List Int) (w : World) (hs : SlAt eI w y.a y.n y.c l) :
    Calls Try.prog 31 #[.agg y.cs] w fun r w' => (∃ z : Mr, r = .returned (.agg z.cs) ∧ z.v = y.v ∧ ∀ U, SlAt eI U y.a y.n y.c l → SlAt eI U z.a z.n z.c (l.take 10)) ∧ Below w.heap.size w w' := by
  obtain ⟨W, hW, m0, bW, zW⟩ := MrAt.new w y
  obtain ⟨V, hV, m1, bV, zV⟩ := MrAt.zero W
  have k1 := (m0.below bV).c1
  have hnn := hs.int
  have M : Hid (MrAt V w.heap.size y ∧ MrAt V W.heap.size zR ∧ Below w.heap.size w V ∧ W.heap.size = w.heap.size + 1) := ⟨m0.below bV, m1, below_over bW bV, zW⟩
  by_cases hn : y.n ≤ 10
  · have d1 : decide ((y.n : Int) > 10) = false := by simp; omega
    have d2 : decide ((10 : Int) < (y.n : Int)) = false := by simp; omega
    have l0 := M.out.1.ld
    obtain ⟨Z, sZ, mZ, gZ⟩ := M.out.2.1.st y
    have bZ : Below w.heap.size w Z := gro M.out.2.2.1 gZ (by rw [M.out.2.2.2]; omega) M.out.2.2.1.size
    have G : Hid (MrAt Z W.heap.size y ∧ (∀ U, SlAt eI U y.a y.n y.c l → SlAt eI U y.a y.n y.c (l.take 10)) ∧ Below w.heap.size w Z) := ⟨mZ, fun U hU => by rw [List.take_of_length_le (by rw [hs.len]; exact hn)]; exact hU, bZ⟩
    clear hs m0 m1 bW bV zW zV hn mZ gZ bZ
    go_enter Try.func31, Try.ntmps31
    go_wp2
    refine bodyPost_ret (results_row rtB Try.results31 _ _ _ _ rfl G.out.1 rfl) rfl ?_
    exact ⟨⟨_, rfl, rfl, G.out.2.1⟩, G.out.2.2⟩
  · have d1 : decide ((y.n : Int) > 10) = true := by simp; omega
    have d2 : decide ((10 : Int) < (y.n : Int)) = true := by simp; omega
    have sl : ∀ Z : World, (slS 61 (.slice y.a y.n y.c) none (some (.int .i64 10)) none).run Try.prog Z = .ok (.slice y.a 10 y.c) Z := slI_cut y.a y.n y.c 10 (by omega) hs.cap
    obtain ⟨Y, sY, mY, gY⟩ := M.out.1.stP y.a 10 y.c
    have l0 := mY.ld
    have m2 := M.out.2.1.keptBut gY (by rw [M.out.2.2.2]; simp)
    obtain ⟨Z, sZ, mZ, gZ⟩ := m2.st ⟨y.v, y.a, 10, y.c⟩
    have bY : Below w.heap.size w Y := gro M.out.2.2.1 gY (Nat.le_refl _) M.out.2.2.1.size
    have bZ : Below w.heap.size w Z := gro bY gZ (by rw [M.out.2.2.2]; omega) bY.size
    have G : Hid (MrAt Z W.heap.size ⟨y.v, y.a, 10, y.c⟩ ∧ (∀ U, SlAt eI U y.a y.n y.c l → SlAt eI U y.a 10 y.c (l.take 10)) ∧ Below w.heap.size w Z) := ⟨mZ, fun U hU => hU.cut kI (by omega), bZ⟩
    clear hs m0 m1 bW bV zW zV hn mZ gZ bZ mY gY m2 bY
    go_enter Try.func31, Try.ntmps31
    go_wp2
    refine bodyPost_ret (results_row rtB Try.results31 _ _ _ _ rfl G.out.1 rfl) rfl ?_
    exact ⟨⟨_, rfl, rfl, G.out.2.1⟩, G.out.2.2⟩
/-! ### the page's example -/
def aw0 : Pv := bgP [1, 2]
def aw1 : Pv := { aw0 with bs := [⟨10, [1]⟩] }
def aw2 : Pv := { aw1 with cs := [⟨5000, 10⟩] }
def aw3 : Pv := { aw2 with ms := [⟨0, 100, 5000⟩] }
def ac1 : Cd := ⟨5, ⟨0, 0, 0⟩, ⟨0, 0⟩, ⟨10, [1]⟩⟩
def ac2 : Cd := ⟨3, ⟨0, 0, 0⟩, ⟨5000, 10⟩, ⟨0, []⟩⟩
def ac3 : Cd := ⟨1, ⟨0, 100, 5000⟩, ⟨0, 0⟩, ⟨0, []⟩⟩
theorem aw_1 : doC aw0 ac1 = (aw1, 0) := by kernel_rfl
theorem aw_2 : doC aw1 ac2 = (aw2, 0) := by kernel_rfl
theorem aw_3 : doC aw2 ac3 = (aw3, 0) := by kernel_rfl
theorem aw_s : svc aw3 0 100 = (5000, true) := by kernel_rfl
theorem aw_c : chk aw3 = true := by kernel_rfl
theorem sz0 : Sz aw0 := ⟨by decide, by decide, by decide, by decide, fun m hm => by cases hm⟩
theorem sz1 : Sz aw1 := ⟨by decide, by decide, by decide, by decide, fun m hm => by simp [aw1] at hm; subst hm; decide⟩
theorem sz2 : Sz aw2 := ⟨by decide, by decide, by decide, by decide, fun m hm => by simp [aw2, aw1] at hm; subst hm; decide⟩
theorem sz3 : Sz aw3 := ⟨by decide, by decide, by decide, by decide, fun m hm => by simp [aw3, aw2, aw1] at hm; subst hm; decide⟩
theorem PrAt.put (W : World) (x : Pr) (hx : ∀ v ∈ x.cs.toList, v.oneCell' = true) : ∃ V, (stS 29 (.pointer (some ⟨W.heap.size, 0, none⟩)) (.agg x.cs)).run Try.prog (W.alloc (.cells #[.int .u8 0, .int .u8 0, .int .u8 0, .int .u8 0, .int .u8 0, .int .u8 0, .slice none 0 0, .slice none 0 0, .slice none 0 0, .slice none 0 0] 29)) = .ok () V ∧ PrAt V W.heap.size x ∧ Below W.heap.size W V := by
  obtain ⟨V, h1, h2, h3, _⟩ := row_new rtP W #[.int .u8 0, .int .u8 0, .int .u8 0, .int .u8 0, .int .u8 0, .int .u8 0, .slice none 0 0, .slice none 0 0, .slice none 0 0, .slice none 0 0] x.cs rfl rfl hx
  exact ⟨V, h1, h2, h3⟩
end

end Go.Proofs.Ytgjagedngdhdaaa
