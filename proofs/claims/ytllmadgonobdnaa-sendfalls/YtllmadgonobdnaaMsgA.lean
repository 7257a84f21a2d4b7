/-
  What a port says: the walks of kindOf, toldRole, hasVoice and message, each for every port.
-/
import Derived.Test.YtllmadgonobdnaaPur
import Derived.Test.YtllmadgonobdnaaPh
namespace Go.Proofs.Ytllmadgonobdnaa
set_option linter.unusedVariables false
set_option maxRecDepth 4000
set_option linter.unusedSimpArgs false
open Go.RowKit

/-- Sealed: a message built. -/
def bdM (ps : Array (Nat × Value)) : Sem Value := Instr.build 43 ps
theorem bdMs (ps : Array (Nat × Value)) : Instr.build 43 ps = bdM ps := rfl
theorem bdM_kind {k : Int} (hk : (Lit.int .i64 k).wf = true) (w : World) : (bdM #[(0, .int .i64 k)]).run Try.prog w = .ok (.agg (zeroM.setN 0 km0 k hk).cs) w := by
  have h : (bdM #[(0, .int .i64 k)]).run Try.prog w = .ok (.agg (zeroM.cl.set 0 (.int .i64 k)).toArray) w := by kernel_rfl
  rw [h]
  rfl
attribute [local go_sem ↓] ldP stP stB stU stW ldT stT st32 alP alM ldM stM ldV stV ldTm stTm bdMs
attribute [local go_sem] alP_run alM_run
theorem kin_any (p : Pt) (w : World) : Calls Try.prog 39 #[.agg p.cs] w fun r w' => r = .returned (.int .i64 (kinN p)) ∧ Below w.heap.size w w' := by
  obtain ⟨W, hW, r0, bW, zW⟩ := new_p w p
  have c23 := r0.bit (j := 23) rfl
  have c30 := r0.num (j := 30) (k := .i64) rfl
  have H : Hid (Below w.heap.size w W) := bW
  obtain ⟨K, hK⟩ : ∃ z, kinN p = z := ⟨_, rfl⟩
  rw [hK]
  have E : Hid (kinN p = K) := hK
  clear r0 bW zW hK
  cases h23 : p.bt 23
  · rw [h23] at c23
    by_cases h4 : p.nm 30 = 4
    · have E2 : Hid (K = 1) := by rw [← E.out]; unfold kinN; rw [if_neg (by rw [h23]; decide), if_pos h4]; exact rfl
      rw [h4] at c30
      clear E h23 h4
      go_enter Try.func39, Try.ntmps39
      go_wp2
      go_ret
      exact ⟨by rw [E2.out]; rfl, H.out⟩
    · have E2 : Hid (K = 2) := by rw [← E.out]; unfold kinN; rw [if_neg (by rw [h23]; decide), if_neg h4]; exact rfl
      have x4 : (p.nm 30 == 4) = false := beq_eq_false_iff_ne.2 h4
      clear E h23 h4
      go_enter Try.func39, Try.ntmps39
      go_wp2
      go_ret
      exact ⟨by rw [E2.out]; rfl, H.out⟩
  · have E2 : Hid (K = 3) := by rw [← E.out]; unfold kinN; rw [if_pos h23]; exact rfl
    rw [h23] at c23
    clear E h23
    go_enter Try.func39, Try.ntmps39
    go_wp2
    go_ret
    exact ⟨by rw [E2.out]; rfl, H.out⟩
theorem tro_any (r : Int) (w : World) : Calls Try.prog 40 #[.int .i64 r] w fun e w' => e = .returned (.int .i64 (rolN r)) ∧ Below w.heap.size w w' := by
  by_cases h2 : r = 2
  · subst h2
    rw [show rolN 2 = 1 from rfl]
    go_enter Try.func40, Try.ntmps40
    go_wp2
    go_ret
    exact ⟨rfl, Below.refl _ _⟩
  have x2 : (r == 2) = false := beq_eq_false_iff_ne.2 h2
  by_cases h1 : r = 1
  · subst h1
    clear x2 h2
    rw [show rolN 1 = 1 from rfl]
    go_enter Try.func40, Try.ntmps40
    go_wp2
    go_ret
    exact ⟨rfl, Below.refl _ _⟩
  have x1 : (r == 1) = false := beq_eq_false_iff_ne.2 h1
  by_cases h3 : r = 3
  · subst h3
    clear x2 h2
    clear x1 h1
    rw [show rolN 3 = 3 from rfl]
    go_enter Try.func40, Try.ntmps40
    go_wp2
    go_ret
    exact ⟨rfl, Below.refl _ _⟩
  have x3 : (r == 3) = false := beq_eq_false_iff_ne.2 h3
  by_cases h4 : r = 4
  · subst h4
    clear x2 h2
    clear x1 h1
    clear x3 h3
    rw [show rolN 4 = 4 from rfl]
    go_enter Try.func40, Try.ntmps40
    go_wp2
    go_ret
    exact ⟨rfl, Below.refl _ _⟩
  have x4 : (r == 4) = false := beq_eq_false_iff_ne.2 h4
  have e0 : rolN r = 0 := by unfold rolN; rw [if_neg h2, if_neg (by rintro (h | h | h) <;> contradiction)]
  rw [e0]
  clear h1 h2 h3 h4 e0
  go_enter Try.func40, Try.ntmps40
  go_wp2
  go_ret
  exact ⟨rfl, Below.refl _ _⟩
theorem rro_any (r : Int) (w : World) : Calls Try.prog 32 #[.int .i64 r] w fun e w' => e = .returned (.int .i64 (rolN r)) ∧ Below w.heap.size w w' := by
  by_cases h1 : r = 1
  · subst h1
    rw [show rolN 1 = 1 from rfl]
    go_enter Try.func32, Try.ntmps32
    go_wp2
    go_ret
    exact ⟨rfl, Below.refl _ _⟩
  have x1 : (r == 1) = false := beq_eq_false_iff_ne.2 h1
  by_cases h2 : r = 2
  · subst h2
    clear x1 h1
    rw [show rolN 2 = 1 from rfl]
    go_enter Try.func32, Try.ntmps32
    go_wp2
    go_ret
    exact ⟨rfl, Below.refl _ _⟩
  have x2 : (r == 2) = false := beq_eq_false_iff_ne.2 h2
  by_cases h3 : r = 3
  · subst h3
    clear x1 h1
    clear x2 h2
    rw [show rolN 3 = 3 from rfl]
    go_enter Try.func32, Try.ntmps32
    go_wp2
    go_ret
    exact ⟨rfl, Below.refl _ _⟩
  have x3 : (r == 3) = false := beq_eq_false_iff_ne.2 h3
  by_cases h4 : r = 4
  · subst h4
    clear x1 h1
    clear x2 h2
    clear x3 h3
    rw [show rolN 4 = 4 from rfl]
    go_enter Try.func32, Try.ntmps32
    go_wp2
    go_ret
    exact ⟨rfl, Below.refl _ _⟩
  have x4 : (r == 4) = false := beq_eq_false_iff_ne.2 h4
  have e0 : rolN r = 0 := by unfold rolN; rw [if_neg h2, if_neg (by rintro (h | h | h) <;> contradiction)]
  rw [e0]
  clear h1 h2 h3 h4 e0
  go_enter Try.func32, Try.ntmps32
  go_wp2
  go_ret
  exact ⟨rfl, Below.refl _ _⟩
theorem voi_any (p : Pt) (w : World) : Calls Try.prog 27 #[.agg p.cs] w fun r w' => r = .returned (.bool (voiB p)) ∧ Below w.heap.size w w' := by
  obtain ⟨W, hW, r0, bW, zW⟩ := new_p w p
  have c23 := r0.bit (j := 23) rfl
  have c30 := r0.num (j := 30) (k := .i64) rfl
  have H : Hid (Below w.heap.size w W) := bW
  obtain ⟨K, hK⟩ : ∃ z, voiB p = z := ⟨_, rfl⟩
  rw [hK]
  obtain ⟨b, hb⟩ : ∃ z, p.bt 23 = z := ⟨_, rfl⟩
  obtain ⟨N, hN⟩ : ∃ z, p.nm 30 = z := ⟨_, rfl⟩
  have E : Hid ((b || (N == 3) || (N == 4)) = K) := by rw [← hb, ← hN]; exact hK
  rw [hb] at c23
  rw [hN] at c30
  clear r0 bW zW hK hb hN
  cases b
  · by_cases h3 : N = 3
    · subst h3
      go_enter Try.func27, Try.ntmps27
      go_wp2
      go_ret
      exact ⟨by rw [← E.out]; rfl, H.out⟩
    · have x3 : (N == 3) = false := beq_eq_false_iff_ne.2 h3
      clear h3
      go_enter Try.func27, Try.ntmps27
      go_wp2
      go_ret
      exact ⟨by rw [← E.out, x3]; rfl, H.out⟩
  · go_enter Try.func27, Try.ntmps27
    go_wp2
    go_ret
    exact ⟨by rw [← E.out]; rfl, H.out⟩
/-- A port's variable, the result's and a message's. -/
structure MS (w W : World) (b d z : Nat) (p : Pt) (m : Mg) : Prop where
  pv : RvAt W b 53 p.cs
  out : RvAt W d 43 zeroM.cs
  mv : RvAt W z 43 m.cs
  bel : Below w.heap.size w W
  hd : w.heap.size ≤ d
  hz : w.heap.size ≤ z
  ne : d ≠ z
theorem MS.below {w W V : World} {b d z : Nat} {p : Pt} {m : Mg} (s : MS w W b d z p m) (k : Below W.heap.size W V) : MS w V b d z p m := ⟨s.pv.below k, s.out.below k, s.mv.below k, below_over s.bel k, s.hd, s.hz, s.ne⟩
theorem MS.drew' {w W V : World} {b d z : Nat} {p : Pt} {m : Mg} (s : MS w W b d z p m) (h : World.drew W = V) : MS w V b d z p m := by rw [← h]; exact s.below (Below.refl _ _).drew
theorem MS.go {w W V : World} {b d z : Nat} {p : Pt} {m m' : Mg} (s : MS w W b d z p m) (r : RvAt V z 43 m'.cs) (g : W.grownBy V (some z)) : MS w V b d z p m' :=
  have n1 : b ≠ z := s.pv.apart s.mv (by decide)
  ⟨s.pv.keptBut g (by simpa using n1), s.out.keptBut g (by have := s.ne; simpa using this), r, gro s.bel g s.hz s.bel.size, s.hd, s.hz, s.ne⟩
theorem MS.setB {w W : World} {b d z j : Nat} {p : Pt} {m : Mg} (s : MS w W b d z p m) (hk : kdM[j]? = some none) (x : Bool) : ∃ V, (stS 4 (.pointer (some ⟨z, j, none⟩)) (.bool x)).run Try.prog W = .ok () V ∧ MS w V b d z p (m.setB j hk x) := by
  obtain ⟨V, e, h1, g⟩ := s.mv.setB hk x
  exact ⟨V, e, s.go h1 g⟩
theorem MS.setN {w W : World} {b d z j : Nat} {p : Pt} {m : Mg} (s : MS w W b d z p m) {t : TypeId} (ht : (Try.prog.info? t).map (·.size) = some 1) (hk : kdM[j]? = some (some .i64)) {x : Int} (hx : (Lit.int .i64 x).wf = true) : ∃ V, (stS t (.pointer (some ⟨z, j, none⟩)) (.int .i64 x)).run Try.prog W = .ok () V ∧ MS w V b d z p (m.setN j hk x hx) := by
  obtain ⟨V, e, h1, g⟩ := s.mv.rset (v := .int .i64 x) ht (List.getElem?_eq_some_iff.1 hk).1 rfl (fit_num hk hx)
  exact ⟨V, e, s.go h1 g⟩
theorem MS.putV {w W : World} {b d z : Nat} {p : Pt} {m : Mg} (s : MS w W b d z p m) (v : Vc) : ∃ V, (stS 28 (.pointer (some ⟨z, 8, none⟩)) (.agg v.cs)).run Try.prog W = .ok () V ∧ MS w V b d z p (m.put 8 v mq8 ml8) := by
  obtain ⟨V, e, h1, g⟩ := s.mv.rput v mq8 ml8 infoV
  exact ⟨V, e, s.go h1 g⟩
theorem MS.putT {w W : World} {b d z : Nat} {p : Pt} {m : Mg} (s : MS w W b d z p m) (v : Tm) : ∃ V, (stS 24 (.pointer (some ⟨z, 12, none⟩)) (.agg v.cs)).run Try.prog W = .ok () V ∧ MS w V b d z p (m.put 12 v mq12 ml12) := by
  obtain ⟨V, e, h1, g⟩ := s.mv.rput v mq12 ml12 infoTm
  exact ⟨V, e, s.go h1 g⟩
theorem mst {W : World} {b : Nat} {m r : Mg} (hb : RvAt W b 43 m.cs) : ∃ V, (stS 43 (.pointer (some ⟨b, 0, none⟩)) (.agg r.cs)).run Try.prog W = .ok () V ∧ RvAt V b 43 r.cs ∧ W.grownBy V (some b) :=
  ⟨W.setRow b r.cs, hb.st rtM (by rw [Row.csize, lenM]) (by rw [Row.csize, lenM]) r.one', hb.set, grown_row _ _ _⟩
theorem MS.tell {w W : World} {b d z : Nat} {p : Pt} {m : Mg} (s : MS w W b d z p m) (r : Mg) : ∃ U, (stS 43 (.pointer (some ⟨d, 0, none⟩)) (.agg r.cs)).run Try.prog W = .ok () U ∧ RvAt U d 43 r.cs ∧ Below w.heap.size w U := by
  obtain ⟨U, e, h1, g⟩ := mst (r := r) s.out
  exact ⟨U, e, h1, gro s.bel g s.hd s.bel.size⟩
theorem var_m (W : World) (m : Mg) : ∃ W', (stS 43 (.pointer (some ⟨W.heap.size, 0, none⟩)) (.agg m.cs)).run Try.prog (W.alloc (.cells zeroM.cs 43)) = .ok () W' ∧ RvAt W' W.heap.size 43 m.cs ∧ Below W.heap.size W W' ∧ W'.heap.size = W.heap.size + 1 :=
  row_new rtM W _ _ (by rw [Row.csize, lenM]) (by rw [Row.csize, lenM]) m.one'
theorem new_pm (w : World) (p : Pt) : ∃ W, (w.alloc (.cells p.cs 53)).alloc (.cells zeroM.cs 43) = W ∧ RvAt W w.heap.size 53 p.cs ∧ RvAt W (w.heap.size + 1) 43 zeroM.cs ∧ Below w.heap.size w W ∧ W.heap.size = w.heap.size + 2 := by
  obtain ⟨A, hA, rA, bA, zA⟩ := new_p w p
  have rC := RvAt.new A 43 zeroM.cs
  have bC : Below A.heap.size A (A.alloc (.cells zeroM.cs 43)) := (Below.refl _ _).alloc (Nat.le_refl _) _
  rw [zA] at rC
  refine ⟨_, rfl, ?_⟩
  rw [hA]
  exact ⟨rA.below bC, rC, below_over bA bC, by simp; omega⟩
end Go.Proofs.Ytllmadgonobdnaa
