/-
  A member cut, and stored where it was: what is provisioned stays so.
-/
import Derived.Test.YtmfjlhcobhilcabSwp
import Derived.Test.YtmfjlhcobhilcabMad
namespace Go.Proofs.Ytmfjlhcobhilcab
set_option linter.unusedVariables false
set_option maxRecDepth 4000
set_option linter.unusedSimpArgs false
open Go.RowKit
attribute [local go_sem ↓] ldM stM ldC stC ldB stB ldP stP apI bsI
attribute [local go_sem] bsI_is bsI2_is

attribute [local go_sem ↓] stIs stKs stMs stCs stBs ldD stD apK bsK slI
attribute [local go_sem] bsK_is
set_option maxHeartbeats 2000000 in
theorem short_all (y : Mr) (l : List Int) (w : World) (hs : SlAt eI w y.a y.n y.c l) :
    Calls Try.prog 9 #[.agg y.cs] w fun r w' => (∃ z : Mr, r = .returned (.agg z.cs) ∧ z.v = y.v ∧ ∀ U (l : List Int), SlAt eI U y.a y.n y.c l → SlAt eI U z.a z.n z.c (l.take 10)) ∧ Below w.heap.size w w' := by
  obtain ⟨W, hW, m0, bW, zW⟩ := MrAt.new w y
  obtain ⟨V, hV, m1, bV, zV⟩ := MrAt.zero W
  have k1 := (m0.below bV).c1
  have hnn := hs.int
  have M : Hid (MrAt V w.heap.size y ∧ MrAt V W.heap.size zR ∧ Below w.heap.size w V ∧ W.heap.size = w.heap.size + 1) := ⟨m0.below bV, m1, below_over bW bV, zW⟩
  by_cases hn : y.n ≤ 10
  · have d1 : decide ((y.n : Int) > 10) = false := by simp; omega
    have d2 : decide ((10 : Int) < (y.n : Int)) = false := by simp; omega
    have l0 := M.out.1.ld
    obtain ⟨Z, sZ, mZ, gZ⟩ := M.out.2.1.st y
    have bZ : Below w.heap.size w Z := gro M.out.2.2.1 gZ (by rw [M.out.2.2.2]; omega) M.out.2.2.1.size
    have G : Hid (MrAt Z W.heap.size y ∧ (∀ U (l : List Int), SlAt eI U y.a y.n y.c l → SlAt eI U y.a y.n y.c (l.take 10)) ∧ Below w.heap.size w Z) := ⟨mZ, fun U l hU => by rw [List.take_of_length_le (by rw [hU.len]; exact hn)]; exact hU, bZ⟩
    clear hs m0 m1 bW bV zW zV hn mZ gZ bZ
    go_enter Try.func9, Try.ntmps9
    go_wp2
    refine bodyPost_ret (results_row rtB Try.results9 _ _ _ _ rfl G.out.1 rfl) rfl ?_
    exact ⟨⟨_, rfl, rfl, G.out.2.1⟩, G.out.2.2⟩
  · have d1 : decide ((y.n : Int) > 10) = true := by simp; omega
    have d2 : decide ((10 : Int) < (y.n : Int)) = true := by simp; omega
    have sl : ∀ Z : World, (slS 36 (.slice y.a y.n y.c) none (some (.int .i64 10)) none).run Try.prog Z = .ok (.slice y.a 10 y.c) Z := slI_cut y.a y.n y.c 10 (by omega) hs.cap
    obtain ⟨Y, sY, mY, gY⟩ := M.out.1.stP y.a 10 y.c
    have l0 := mY.ld
    have m2 := M.out.2.1.keptBut gY (by rw [M.out.2.2.2]; simp)
    obtain ⟨Z, sZ, mZ, gZ⟩ := m2.st ⟨y.v, y.a, 10, y.c⟩
    have bY : Below w.heap.size w Y := gro M.out.2.2.1 gY (Nat.le_refl _) M.out.2.2.1.size
    have bZ : Below w.heap.size w Z := gro bY gZ (by rw [M.out.2.2.2]; omega) bY.size
    have G : Hid (MrAt Z W.heap.size ⟨y.v, y.a, 10, y.c⟩ ∧ (∀ U (l : List Int), SlAt eI U y.a y.n y.c l → SlAt eI U y.a 10 y.c (l.take 10)) ∧ Below w.heap.size w Z) := ⟨mZ, fun U l hU => hU.cut kI (by omega), bZ⟩
    clear hs m0 m1 bW bV zW zV hn mZ gZ bZ mY gY m2 bY
    go_enter Try.func9, Try.ntmps9
    go_wp2
    refine bodyPost_ret (results_row rtB Try.results9 _ _ _ _ rfl G.out.1 rfl) rfl ?_
    exact ⟨⟨_, rfl, rfl, G.out.2.1⟩, G.out.2.2⟩
/-- .. where a variable's slice is replaced. -/
theorem PvS.swap {w W W' : World} {b g q : Nat} {x : Pr} {p : Pv} {r r' : Option Addr} {m d m' d' : Nat} (h : PvS w W b x p) (sw : Swap W W' g q (.slice r m d) (.slice r' m' d')) (hs : ∀ ps : List Int, ps.length ≤ 8 → SlAt eI W r m d ps → SlAt eI W' r' m' d' ps) (hl : ∀ b ∈ p.bs, b.ps.length ≤ 8) (hg : W.grownBy W' (some g)) (hn : b ≠ g) (hlo : w.heap.size ≤ g) : PvS w W' b x p := ⟨gro h.bel hg hlo h.bel.size, h.var.keptBut hg (by simpa using hn), h.pv.swap sw hs hl, h.lo⟩
theorem chk_eight {p : Pv} (h : chk p = true) : ∀ b ∈ p.bs, b.ps.length ≤ 8 := by
  have h' := (chk_iff p).1 h
  have h2 := h'.2.1
  unfold gK at h2
  simp only [Bool.and_eq_true, decide_eq_true_eq] at h2
  exact fun m hm => okB_len h2.2.1 (((gB_iff p).1 h'.2.2.2.1).1 m hm)
theorem mr_swap {W W' : World} {g : Nat} {y z : Mr} (h : MrAt W g y) (h' : MrAt W' g z) (hg : W.grownBy W' (some g)) (hv : z.v = y.v) : Swap W W' g 1 (.slice y.a y.n y.c) (.slice z.a z.n z.c) :=
  Swap.of h h' hg rfl rfl fun j hj => by
    match j, hj with
    | 0, _ => show some (Value.int .i64 z.v) = some (Value.int .i64 y.v); rw [hv]
    | j + 2, _ => rfl
theorem cut_swap {W W' : World} {g q : Nat} {r r' : Option Addr} {m d m' d' : Nat} (sw : Swap W W' g q (.slice r m d) (.slice r' m' d')) (hs : ∀ (U : World) (l : List Int), SlAt eI U r m d l → SlAt eI U r' m' d' (l.take 10)) : ∀ ps : List Int, ps.length ≤ 8 → SlAt eI W r m d ps → SlAt eI W' r' m' d' ps := fun ps hp h => by
  have h1 := hs W ps h
  rw [List.take_of_length_le (by omega)] at h1
  exact h1.swap kI int_I sw
end Go.Proofs.Ytmfjlhcobhilcab
