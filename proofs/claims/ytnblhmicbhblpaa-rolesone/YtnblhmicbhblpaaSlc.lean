/-
  Select: its walk, for every tree.
-/
import Derived.Test.YtnblhmicbhblpaaAsg
import Derived.Test.YtnblhmicbhblpaaRoot
import Derived.Test.YtnblhmicbhblpaaClo
namespace Go.Proofs.Ytnblhmicbhblpaa
set_option linter.unusedVariables false
set_option maxRecDepth 4000
set_option linter.unusedSimpArgs false
open Go.RowKit

theorem w16 : (Lit.int .u16 0).wf = true := by decide
/-- The head, at first. -/
def hdA (h : Hd) (v : Vc) : Hd := ((h.put 8 v hq8 hl8).setH 7 0).put 12 (tOfH h) hq12 hl12
theorem hdA_own {h : Hd} {l : List Pt} (e : rooK h l = -1) : hdA h (rooV h l) = hdS h l := by
  unfold hdA hdS
  rw [show ridN h l = 0 by simp [ridN, e], show rtmT h l = tOfH h by simp [rtmT, e]]
theorem hdA_port {h : Hd} {l : List Pt} {k : Nat} (e : rooK h l = (k : Int)) : ((hdA h (rooV h l)).setH 7 ((gtP l k).nm 0)).put 12 (oldT (priT (gtP l k))) hq12 hl12 = hdS h l := by
  have hw : (Lit.int .u16 ((gtP l k).nm 0)).wf = true := (gtP l k).nwf (j := 0) rfl
  have hk : ¬ ((k : Int) = -1) := by omega
  unfold hdA hdS
  rw [show ridN h l = (gtP l k).nm 0 by simp [ridN, e], show rtmT h l = oldT (priT (gtP l k)) by simp [rtmT, e]]
  refine Row.same fun i _ => ?_
  rw [Row.put_get, Row.setH_get _ kh7 hw, Row.put_get, Row.setH_get _ kh7 w16, Row.put_get, Row.put_get, Row.setH_get _ kh7 hw, Row.put_get, lenT, lenV]
  by_cases h1 : 12 ≤ i ∧ i < 12 + 4
  · simp only [if_pos h1]
  · by_cases h2 : i = 7
    · simp only [if_neg h1, if_pos h2]
    · simp only [if_neg h1, if_neg h2]
theorem sel_map (H : Hd) (k : Int) (l : List Pt) : ((l.map (telP H)).mapIdx fun i p => asgP H (isK k i) p) = l.mapIdx fun i p => selP H (isK k i) p := by
  refine List.ext_getElem? fun j => ?_
  rw [List.getElem?_mapIdx, List.getElem?_mapIdx, List.getElem?_map, Option.map_map]
  rfl
/-- The variables of Select. -/
structure QS (w W : World) (h : Hd) (x : Value) : Prop where
  var : RvAt W w.heap.size 31 (trc h x)
  out : RvAt W (w.heap.size + 1) 31 (trc zeroH (.slice none 0 0))
  bel : Below w.heap.size w W
theorem QS.below {w W V : World} {h : Hd} {x : Value} (s : QS w W h x) (k : Below W.heap.size W V) : QS w V h x := ⟨s.var.below k, s.out.below k, below_over s.bel k⟩
theorem QS.go {w W V : World} {h h' : Hd} {x x' : Value} (s : QS w W h x) (r : RvAt V w.heap.size 31 (trc h' x')) (g : W.grownBy V (some w.heap.size)) : QS w V h' x' :=
  ⟨r, s.out.keptBut g (by simp), gro s.bel g (Nat.le_refl _) s.bel.size⟩
theorem QS.put {w W : World} {h : Hd} {x : Value} {o : Nat} {tv : TypeId} {ks' : List (Option IntKind)} (s : QS w W h x) (r : Row ks') (hk : (kdH.drop o).take ks'.length = ks') (hl : o + ks'.length ≤ kdH.length) (hi : (Try.prog.info? tv).map (·.size) = some ks'.length) :
    ∃ V, (stS tv (.pointer (some ⟨w.heap.size, o, none⟩)) (.agg r.cs)).run Try.prog W = .ok () V ∧ QS w V (h.put o r hk hl) x ∧ W.grownBy V (some w.heap.size) := by
  obtain ⟨V, e, rV, g⟩ := s.var.tput r hk hl hi
  exact ⟨V, e, s.go rV g, g⟩
theorem QS.setH {w W : World} {h : Hd} {x : Value} (s : QS w W h x) {n : Int} (hw : (Lit.int .u16 n).wf = true) :
    ∃ V, (stS 25 (.pointer (some ⟨w.heap.size, 7, none⟩)) (.int .u16 n)).run Try.prog W = .ok () V ∧ QS w V (h.setH 7 n) x ∧ W.grownBy V (some w.heap.size) := by
  obtain ⟨V, e, rV, g⟩ := s.var.tsetH hw
  exact ⟨V, e, s.go rV g, g⟩
/-- The head stored into, and the ports beside it. -/
structure QA (w W : World) (h : Hd) (a : Option Addr) (n c : Nat) (l : List Pt) : Prop where
  q : QS w W h (.slice a n c)
  sl : SlAt W a n c l
theorem QA.put {w W : World} {h : Hd} {a : Option Addr} {n c : Nat} {l : List Pt} {o : Nat} {tv : TypeId} {ks' : List (Option IntKind)} (s : QA w W h a n c l) (r : Row ks') (hk : (kdH.drop o).take ks'.length = ks') (hl : o + ks'.length ≤ kdH.length) (hi : (Try.prog.info? tv).map (·.size) = some ks'.length) :
    ∃ V, (stS tv (.pointer (some ⟨w.heap.size, o, none⟩)) (.agg r.cs)).run Try.prog W = .ok () V ∧ QA w V (h.put o r hk hl) a n c l ∧ W.grownBy V (some w.heap.size) := by
  obtain ⟨V, e, rV, g⟩ := s.q.put r hk hl hi
  exact ⟨V, e, ⟨rV, s.sl.keptT s.q.var g⟩, g⟩
theorem QA.setH {w W : World} {h : Hd} {a : Option Addr} {n c : Nat} {l : List Pt} (s : QA w W h a n c l) {m : Int} (hw : (Lit.int .u16 m).wf = true) :
    ∃ V, (stS 25 (.pointer (some ⟨w.heap.size, 7, none⟩)) (.int .u16 m)).run Try.prog W = .ok () V ∧ QA w V (h.setH 7 m) a n c l ∧ W.grownBy V (some w.heap.size) := by
  obtain ⟨V, e, rV, g⟩ := s.q.setH hw
  exact ⟨V, e, ⟨rV, s.sl.keptT s.q.var g⟩, g⟩
theorem QA.below {w W V : World} {h : Hd} {a : Option Addr} {n c : Nat} {l : List Pt} (s : QA w W h a n c l) (k : Below W.heap.size W V) : QA w V h a n c l := ⟨s.q.below k, s.sl.below k⟩
/-- The ports, told and given roles: what stays. -/
theorem QS.ports {w W V : World} {h : Hd} {x : Value} (s : QS w W h x) {a : Option Addr} (g : W.grownBy V (blk a)) (hg : ∀ b, blk a = some b → w.heap.size + 2 ≤ b) : QS w V h x := by
  refine ⟨s.var.keptBut g (fun e => ?_), s.out.keptBut g (fun e => ?_), s.bel.trans (below_of_grown g s.bel.size (fun j e => by have := hg j e; omega))⟩
  · have := hg _ e.symm; omega
  · have := hg _ e.symm; omega
attribute [local go_sem ↓] ldP stP ldT stT ldV stV ldTm stTm st16 st32
set_option maxHeartbeats 8000000 in
theorem select_any (h : Hd) (a : Option Addr) (n c : Nat) (l : List Pt) (w : World) (hs : SlAt w a n c l) (hn : n ≤ 1000) :
    Calls Try.prog 14 #[.agg (trc h (.slice a n c))] w fun r w' => ∃ a' c', r = .returned (.agg (trc (hdS h l) (.slice a' n c'))) ∧ SlAt w' a' n c' (selL h l) ∧ Below w.heap.size w w' := by
  obtain ⟨W, hW, r0, r1, bW, zW⟩ := two_t w h (.slice a n c)
  have l0 := r0.tld
  have H : Hid (QA w W h a n c l ∧ W.heap.size = w.heap.size + 2 ∧ l.length = n) := ⟨⟨⟨r0, r1, bW⟩, hs.below bW⟩, zW, hs.len⟩
  clear hs r0 r1 bW zW
  have E1 : Hid (rooK h l = -1 → hdA h (rooV h l) = hdS h l) := hdA_own
  have E2 : Hid (∀ k : Nat, rooK h l = (k : Int) → ((hdA h (rooV h l)).setH 7 ((gtP l k).nm 0)).put 12 (oldT (priT (gtP l k))) hq12 hl12 = hdS h l) := fun k => hdA_port
  have E3 : Hid (((l.map (telP (hdS h l))).mapIdx fun i p => asgP (hdS h l) (isK (rooK h l) i) p) = selL h l) := sel_map _ _ _
  have KR : Hid (-1 ≤ rooK h l ∧ rooK h l < n) := by have := rtF_range h l l.length; rw [← H.out.2.2]; exact this
  have C : Hid _ := rootof_any h a n c l W H.out.1.sl hn
  obtain ⟨K, hK⟩ : ∃ z, rooK h l = z := ⟨_, rfl⟩
  obtain ⟨v, hv⟩ : ∃ z, rooV h l = z := ⟨_, rfl⟩
  obtain ⟨hS, hhS⟩ : ∃ z, hdS h l = z := ⟨_, rfl⟩
  obtain ⟨lS, hlS⟩ : ∃ z, selL h l = z := ⟨_, rfl⟩
  rw [hK, hv, hhS] at E1 E2
  rw [hK, hhS, hlS] at E3
  rw [hK] at KR
  rw [hK, hv] at C
  rw [hhS, hlS]
  clear hK hv hhS hlS
  go_enter Try.func14, Try.ntmps14
  go_wp2_with fail
  refine Calls.mono C.out ?_
  rintro _ W1 ⟨rfl, b1⟩
  obtain ⟨W2, s2, r2, b2, z2⟩ := new_v W1 v
  have lv := r2.vld
  have Q2 := (H.out.1.below b1).below b2
  have tT := Q2.q.var.tT
  obtain ⟨V1, e1, Q3, g3⟩ := Q2.put (tv := 28) v hq8 hl8 infoV
  obtain ⟨V2, e2, Q4, g4⟩ := Q3.setH w16
  obtain ⟨V3, e3, Q5, g5⟩ := Q4.put (tv := 24) (tOfH h) hq12 hl12 infoTm
  change QA w V3 (hdA h v) a n c l at Q5
  have Q : Hid (QA w V3 (hdA h v) a n c l ∧ w.heap.size + 2 ≤ V3.heap.size ∧ l.length = n) := ⟨Q5, by have := b1.size; have := b2.size; have := g3.size; have := g4.size; have := g5.size; have := H.out.2.1; omega, H.out.2.2⟩
  clear r2 b2 z2 b1 Q2 Q3 g3 Q4 g4 Q5 g5 H C l0 hW
  by_cases hk : K = -1
  · have EH := E1.out hk
    rw [EH] at Q
    subst hk
    have d16 := Q.out.1.q.var.t16
    clear EH
    go_wp2_with fail
    refine (clone_any a n c l V3 Q.out.1.sl hn).mono ?_
    rintro _ X1 ⟨x, rfl, o1, b1⟩
    obtain ⟨a', c', hx, PAx, hga⟩ := PA.of o1
    rw [Q.out.2.2] at hx PAx
    subst hx
    obtain ⟨X2, t2, rX2, gX2⟩ := (Q.out.1.q.below b1).var.tset (y := .slice a' n c') rfl
    have G2 : Hid (QS w X2 hS (.slice a' n c') ∧ PA X2 a' n c' l ∧ ∀ b, blk a' = some b → w.heap.size + 2 ≤ b) := by
      refine ⟨(Q.out.1.q.below b1).go rX2 gX2, PAx.kept gX2 (fun b hb => ?_), fun b hb => ?_⟩
      · have := hga b hb; have := Q.out.2.1; simp; omega
      · have := hga b hb; have := Q.out.2.1; omega
    have lX := G2.out.1.var.tld
    clear o1 b1 PAx hga rX2 gX2 Q d16
    go_wp2_with fail
    refine (tell_any hS a' n c' l X2 G2.out.2.1 hn).mono ?_
    rintro _ X3 ⟨rfl, pa3, g3⟩
    have G3 : Hid (QS w X3 hS (.slice a' n c') ∧ PA X3 a' n c' (l.map (telP hS)) ∧ ∀ b, blk a' = some b → w.heap.size + 2 ≤ b) := ⟨G2.out.1.ports g3 G2.out.2.2, pa3, G2.out.2.2⟩
    have lX3 := G3.out.1.var.tld
    clear pa3 g3 G2 lX t2
    go_wp2_with fail
    refine (assign_any hS a' n c' _ (l.map (telP hS)) X3 G3.out.2.1 hn).mono ?_
    rintro _ X4 ⟨rfl, pa4, g4⟩
    rw [E3.out] at pa4
    have S4 := G3.out.1.ports g4 G3.out.2.2
    have lX4 := S4.var.tld
    obtain ⟨U, sU, rU, gU⟩ := S4.out.tst (g := hS) (y := .slice a' n c') rfl
    have F : Hid (RvAt U (w.heap.size + 1) 31 (trc hS (.slice a' n c')) ∧ SlAt U a' n c' lS ∧ Below w.heap.size w U) := ⟨rU, pa4.sl.keptT S4.out gU, gro S4.bel gU (by omega) S4.bel.size⟩
    clear pa4 g4 S4 rU gU G3 lX3
    go_wp2
    refine bodyPost_ret (results_row rtT Try.results14 _ _ _ _ rfl F.out.1 (trc_size _ _)) rfl ?_
    exact ⟨a', c', rfl, F.out.2.1, F.out.2.2⟩
  · have hk0 : 0 ≤ K := by have := KR.out; omega
    have hkb : (K == -1) = false := by simpa using hk
    obtain ⟨k, rfl⟩ := Int.eq_ofNat_of_zero_le hk0
    have hkn : k < n := by have := KR.out; omega
    have hk1 : (k : Int) < (n : Int) := by omega
    have EH : Hid _ := E2.out k rfl
    obtain ⟨b, o, rfl⟩ := Q.out.1.sl.some' (by omega)
    have hlk := gtP_at (l := l) (i := k) (by rw [Q.out.2.2]; exact hkn)
    obtain ⟨p, hp⟩ : ∃ p, gtP l k = p := ⟨_, rfl⟩
    rw [hp] at hlk EH
    have f16 := fun z : Later V3 => (Q.out.1.q.var.below z.below).t16
    have f0 := fun z : Later V3 => (Q.out.1.sl.below z.below).cell hlk (p.num (j := 0) (k := .u16) rfl) (by omega)
    simp only [Nat.add_zero] at f0
    have f44 := fun z : Later V3 => (Q.out.1.sl.below z.below).part (q := priT p) (j := 44) hlk rfl rfl (by omega) Try.underlying24 rfl infoTm
    have P1 : Hid (∀ z : Later V3, _) := fun z : Later V3 => older_any (priT p) z.val
    clear hp hlk
    go_wp2_with fail
    clear lv tT e1 e2 e3 s2
    refine wp_region_later_tail 14 (by kernel_rfl) (by kernel_rfl) ?_
    simp only [List.take_succ_cons, List.take_zero]
    repeat (go_big_quiet_step (first | exact rfl | (go_at_call 25; with_reducible exact Calls.later_of (P1.out _))))
    refine wpQuiet_nil ?_
    intro z
    simp only [List.drop_succ_cons, List.drop_zero]
    clear f16 f0 f44 P1
    have R0 := Q.out.1.below z.below
    obtain ⟨V4, e4, R4, g4⟩ := R0.setH (m := p.nm 0) (p.nwf (j := 0) rfl)
    obtain ⟨V5, e5, R5, g5⟩ := R4.put (tv := 24) (oldT (priT p)) hq12 hl12 infoTm
    rw [EH.out] at R5
    have d16 := R5.q.var.t16
    have Q' : Hid (QA w V5 hS (some ⟨b, o, none⟩) n c l ∧ w.heap.size + 2 ≤ V5.heap.size ∧ l.length = n) := ⟨R5, by have := z.below.size; have := g4.size; have := g5.size; have := Q.out.2.1; omega, Q.out.2.2⟩
    clear R0 R4 g4 R5 g5 Q EH
    go_wp2_with fail
    refine (clone_any (some ⟨b, o, none⟩) n c l V5 Q'.out.1.sl hn).mono ?_
    rintro _ X1 ⟨x, rfl, o1, b1⟩
    have Q := Q'
    clear Q'
    obtain ⟨a', c', hx, PAx, hga⟩ := PA.of o1
    rw [Q.out.2.2] at hx PAx
    subst hx
    obtain ⟨X2, t2, rX2, gX2⟩ := (Q.out.1.q.below b1).var.tset (y := .slice a' n c') rfl
    have G2 : Hid (QS w X2 hS (.slice a' n c') ∧ PA X2 a' n c' l ∧ ∀ b, blk a' = some b → w.heap.size + 2 ≤ b) := by
      refine ⟨(Q.out.1.q.below b1).go rX2 gX2, PAx.kept gX2 (fun b hb => ?_), fun b hb => ?_⟩
      · have := hga b hb; have := Q.out.2.1; simp; omega
      · have := hga b hb; have := Q.out.2.1; omega
    have lX := G2.out.1.var.tld
    clear o1 b1 PAx hga rX2 gX2 Q d16
    go_wp2_with fail
    refine (tell_any hS a' n c' l X2 G2.out.2.1 hn).mono ?_
    rintro _ X3 ⟨rfl, pa3, g3⟩
    have G3 : Hid (QS w X3 hS (.slice a' n c') ∧ PA X3 a' n c' (l.map (telP hS)) ∧ ∀ b, blk a' = some b → w.heap.size + 2 ≤ b) := ⟨G2.out.1.ports g3 G2.out.2.2, pa3, G2.out.2.2⟩
    have lX3 := G3.out.1.var.tld
    clear pa3 g3 G2 lX t2
    go_wp2_with fail
    refine (assign_any hS a' n c' _ (l.map (telP hS)) X3 G3.out.2.1 hn).mono ?_
    rintro _ X4 ⟨rfl, pa4, g4⟩
    rw [E3.out] at pa4
    have S4 := G3.out.1.ports g4 G3.out.2.2
    have lX4 := S4.var.tld
    obtain ⟨U, sU, rU, gU⟩ := S4.out.tst (g := hS) (y := .slice a' n c') rfl
    have F : Hid (RvAt U (w.heap.size + 1) 31 (trc hS (.slice a' n c')) ∧ SlAt U a' n c' lS ∧ Below w.heap.size w U) := ⟨rU, pa4.sl.keptT S4.out gU, gro S4.bel gU (by omega) S4.bel.size⟩
    clear pa4 g4 S4 rU gU G3 lX3
    go_wp2
    refine bodyPost_ret (results_row rtT Try.results14 _ _ _ _ rfl F.out.1 (trc_size _ _)) rfl ?_
    exact ⟨a', c', rfl, F.out.2.1, F.out.2.2⟩
end Go.Proofs.Ytnblhmicbhblpaa
