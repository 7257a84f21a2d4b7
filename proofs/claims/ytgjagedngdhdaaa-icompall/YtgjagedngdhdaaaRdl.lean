/-
  What the definition does with a command that deletes: walks of delMap, delCarry, delMember, each for every input.
-/
import Derived.Test.YtgjagedngdhdaaaRch
import Derived.Test.YtgjagedngdhdaaaJ27RAsk
import Derived.Test.YtgjagedngdhdaaaJ17Ref
import Derived.Test.YtgjagedngdhdaaaJ06Put
namespace Go.Proofs.Ytgjagedngdhdaaa
set_option linter.unusedVariables false
set_option maxRecDepth 4000
set_option linter.unusedSimpArgs false
open Go.RowKit
attribute [local go_sem ↓] ldM stM ldC stC ldB stB ldP stP apI bsI
attribute [local go_sem] bsI_is bsI2_is

attribute [local go_sem ↓] stIs stKs stMs stCs stBs ldD stD eqgM eqgC neqM neqC eqlM eqlC apM apC apB bsM bsC bsB
attribute [local go_sem] bsM_is bsC_is bsB_is
/-- Variables of the definition's functions: what is provisioned, what is named, what is told. -/
structure RdS (w V : World) (x : Pr) (ty : TypeId) (cs : Array Value) : Prop where
  var : PrAt V w.heap.size x
  arg : RvAt V (w.heap.size + 1) ty cs
  res : PrAt V (w.heap.size + 2) zP
  bel : Below w.heap.size w V
  siz : w.heap.size + 3 ≤ V.heap.size
theorem RdS.below {w V V' : World} {x : Pr} {ty : TypeId} {cs : Array Value} (h : RdS w V x ty cs) (hb : Below V.heap.size V V') : RdS w V' x ty cs := ⟨h.var.below hb, h.arg.below hb, h.res.below hb, below_over h.bel hb, Nat.le_trans h.siz hb.size⟩
theorem RdS.set {w V V' : World} {x x' : Pr} {ty : TypeId} {cs : Array Value} (h : RdS w V x ty cs) (hy : PrAt V' w.heap.size x') (hg : V.grownBy V' (some w.heap.size)) : RdS w V' x' ty cs := ⟨hy, h.arg.keptBut hg (by simp), h.res.keptBut hg (by simp), gro h.bel hg (Nat.le_refl _) h.bel.size, Nat.le_trans h.siz hg.size⟩
theorem RdS.seta {w V V' : World} {x : Pr} {ty : TypeId} {cs cs' : Array Value} (h : RdS w V x ty cs) (hy : RvAt V' (w.heap.size + 1) ty cs') (hg : V.grownBy V' (some (w.heap.size + 1))) : RdS w V' x ty cs' := ⟨h.var.keptBut hg (by simp), hy, h.res.keptBut hg (by simp), gro h.bel hg (by omega) h.bel.size, Nat.le_trans h.siz hg.size⟩
theorem RdS.new (w : World) (x : Pr) (ty : TypeId) (cs : Array Value) : ∃ W V U, w.alloc (.cells x.cs 29) = W ∧ W.alloc (.cells cs ty) = V ∧ V.alloc (.cells #[.int .u8 0, .int .u8 0, .int .u8 0, .int .u8 0, .int .u8 0, .int .u8 0, .slice none 0 0, .slice none 0 0, .slice none 0 0, .slice none 0 0] 29) = U ∧ RdS w U x ty cs ∧ W.heap.size = w.heap.size + 1 ∧ V.heap.size = w.heap.size + 2 := by
  obtain ⟨W, hW, m0, bW, zW⟩ := PrAt.new w x
  obtain ⟨V, hV, m1, bV, zV⟩ : ∃ V, W.alloc (.cells cs ty) = V ∧ RvAt V W.heap.size ty cs ∧ Below W.heap.size W V ∧ V.heap.size = W.heap.size + 1 := ⟨_, rfl, RvAt.new W _ _, (Below.refl _ _).alloc (Nat.le_refl _) _, by simp⟩
  obtain ⟨U, hU, m2, bU, zU⟩ := PrAt.zero V
  rw [zW] at m1
  rw [zV, zW] at m2
  refine ⟨W, V, U, hW, hV, hU, ⟨(m0.below bV).below bU, m1.below bU, m2, below_over bW (below_over bV bU), ?_⟩, zW, ?_⟩
  all_goals (rw [zW] at zV; rw [zV] at zU; omega)
/-- What the definition tells. -/
def RdT (w : World) (q : Pv × Int) (r : Ending) (w' : World) : Prop := (∃ x : Pr, r = .returned (.tuple #[.agg x.cs, .int .i64 q.2]) ∧ IsPv w' x q.1) ∧ Below w.heap.size w w'
theorem RdS.tell {w V : World} {x : Pr} {ty : TypeId} {cs : Array Value} (h : RdS w V x ty cs) (hx : ∀ v ∈ x.cs.toList, v.oneCell' = true) : ∃ Z, (stS 29 (.pointer (some ⟨w.heap.size + 2, 0, none⟩)) (.agg x.cs)).run Try.prog V = .ok () Z ∧ PrAt Z (w.heap.size + 2) x ∧ V.grownBy Z (some (w.heap.size + 2)) ∧ Below w.heap.size w Z := by
  obtain ⟨Z, sZ, pZ, gZ⟩ := h.res.st hx
  exact ⟨Z, sZ, pZ, gZ, gro h.bel gZ (by omega) h.bel.size⟩
/-- .. without one that is named. -/
structure RdU (w V : World) (x : Pr) : Prop where
  var : PrAt V w.heap.size x
  res : PrAt V (w.heap.size + 1) zP
  bel : Below w.heap.size w V
  siz : w.heap.size + 2 ≤ V.heap.size
theorem RdU.below {w V V' : World} {x : Pr} (h : RdU w V x) (hb : Below V.heap.size V V') : RdU w V' x := ⟨h.var.below hb, h.res.below hb, below_over h.bel hb, Nat.le_trans h.siz hb.size⟩
theorem RdU.set {w V V' : World} {x x' : Pr} (h : RdU w V x) (hy : PrAt V' w.heap.size x') (hg : V.grownBy V' (some w.heap.size)) : RdU w V' x' := ⟨hy, h.res.keptBut hg (by simp), gro h.bel hg (Nat.le_refl _) h.bel.size, Nat.le_trans h.siz hg.size⟩
theorem RdU.tell {w V : World} {x : Pr} (h : RdU w V x) (hx : ∀ v ∈ x.cs.toList, v.oneCell' = true) : ∃ Z, (stS 29 (.pointer (some ⟨w.heap.size + 1, 0, none⟩)) (.agg x.cs)).run Try.prog V = .ok () Z ∧ PrAt Z (w.heap.size + 1) x ∧ V.grownBy Z (some (w.heap.size + 1)) ∧ Below w.heap.size w Z := by
  obtain ⟨Z, sZ, pZ, gZ⟩ := h.res.st hx
  exact ⟨Z, sZ, pZ, gZ, gro h.bel gZ (by omega) h.bel.size⟩
theorem mem_al {w : World} : ∀ {r : List Mr} {l : List Mb}, Mem w r l → Al (fun x y => x.v = y.v ∧ SlAt eI w x.a x.n x.c y.ps) r l
  | [], [], _ => trivial
  | x :: r, y :: l, h => ⟨h.at' 0 x y rfl rfl, mem_al ⟨by have := h.len; simpa using this, fun i a b ha hb => h.at' (i + 1) a b (by simpa using ha) (by simpa using hb)⟩⟩
  | [], _ :: _, h => by have := h.len; simp at this
  | _ :: _, [], h => by have := h.len; simp at this
theorem al_mem {w : World} {r : List Mr} {l : List Mb} (h : Al (fun x y => x.v = y.v ∧ SlAt eI w x.a x.n x.c y.ps) r l) : Mem w r l := ⟨h.len, fun i x y hx hy => h.at' i x y hx hy⟩
theorem al_fil {w : World} {r : List Mr} {l : List Mb} {c : Mr → Bool} {d : Mb → Bool} (h : Mem w r l) (hc : ∀ a b, a.v = b.v → c a = d b) : Mem w (r.filter c) (l.filter d) := al_mem ((mem_al h).fil fun a b h => hc a b h.1)
theorem al_len {w : World} {r : List Mr} {l : List Mb} {c : Mr → Bool} {d : Mb → Bool} (h : Mem w r l) (hc : ∀ a b, a.v = b.v → c a = d b) : (r.filter c).length = (l.filter d).length := (al_fil h hc).len
set_option maxHeartbeats 4000000 in
theorem rdelM_any (x : Pr) (p : Pv) (y : Mp) (w : World) (h : IsPv w x p) (hz : Sz p) :
    Calls Try.prog 75 #[.agg x.cs, .agg y.cs] w fun r w' => RdT w (whn p { p with ms := p.ms.filter (fun y_ => !eqM y_ y) } (rdM p y)) r w' := by
  obtain ⟨a, n, c, hv, hs⟩ := h.m
  obtain ⟨W, V, U, hW, hV, hU, S0, zW, zV⟩ := RdS.new w x 100 y.cs
  have T0 : Hid (RdS w U x 100 y.cs) := S0
  have H : Hid (IsPv w x p ∧ SlAt eM w a n c p.ms ∧ p.ms.length = n ∧ x.m = .slice a n c ∧ Sz p) := ⟨h, hs, hs.len, hv, hz⟩
  clear S0
  have hnn := hs.int
  have hn100 : n ≤ 100 := by rw [← hs.len]; exact hz.2.1
  obtain ⟨R, hR⟩ : ∃ z, p.ms.filter (fun y_ => !eqM y_ y) = z := ⟨_, rfl⟩
  have HR : Hid (R = [] ++ (p.ms.drop 0).filter (fun y_ => !eqM y_ y) ∧ p.ms.filter (fun y_ => !eqM y_ y) = R) := ⟨hR.symm, hR⟩
  have c0 := T0.out.var.m
  rw [hv] at c0
  clear h hs hv hz hR
  go_enter Try.func75, Try.ntmps75
  go_wp2_with fail
  clear c0
  go_loopw [6, 7] (fun u v wr => ∃ (i : Nat) (acc : List Mp), i ≤ n ∧ v = .int .i64 i ∧ R = acc ++ (p.ms.drop i).filter (fun y_ => !eqM y_ y) ∧ acc.length ≤ i ∧ Own eM wr U.heap.size u acc ∧ Below U.heap.size U wr) (fun u v _ => n - (intOf v).toNat)
  case atStart => exact ⟨0, [], by omega, rfl, HR.out.1, Nat.le_refl _, Own.nil _ _, Below.refl _ _⟩
  case round =>
    obtain ⟨i, acc, hi, rfl, hf, ha, hO, hB⟩ := hrel
    have J : Hid (R = acc ++ (p.ms.drop i).filter (fun y_ => !eqM y_ y) ∧ acc.length ≤ i ∧ Own eM wr U.heap.size u6 acc ∧ Below U.heap.size U wr) := ⟨hf, ha, hO, hB⟩
    have TJ := T0.out.below hB
    have TJ : Hid _ := TJ
    have hi0 : (0 : Int) ≤ (i : Int) := by omega
    have c1 := TJ.out.var.m
    rw [H.out.2.2.2.1] at c1
    clear hf ha hO hB
    by_cases hit : i < n
    · have hi1 : (i : Int) < (n : Int) := by omega
      obtain ⟨b, o, rfl⟩ := H.out.2.1.some' (by omega)
      obtain ⟨u, hu⟩ := lt_nth (l := p.ms) (i := i) (by rw [H.out.2.2.1]; exact hit)
      have HX : Hid (p.ms[i]? = some u) := hu
      clear hu
      have k0 := fun q : Later wr => lM ((H.out.2.1.below TJ.out.bel).below q.below) HX.out
      have k1 := fun q : Later wr => ((show MpAt wr (w.heap.size + 1) y from TJ.out.arg).below q.below).ld
      have k2 := fun q : Later wr => (TJ.out.below q.below).var.m
      rw [H.out.2.2.2.1] at k2
      by_cases e0 : u = y
      · have e1 : eqM u y = true := eqM_iff.2 e0
        have E : Hid (R = acc ++ (p.ms.drop (i + 1)).filter (fun y_ => !eqM y_ y)) := by rw [J.out.1, drop_at HX.out, List.filter_cons, if_neg (by show ¬ ((!eqM u y) = true); rw [e1]; decide)]; exact rfl
        clear e0
        go_wp2_with fail
        clear c1
        refine wp_region_later (by kernel_rfl) (by kernel_rfl) ?_
        repeat (go_big_quiet_step (first | exact rfl))
        refine wpQuiet_nil ?_
        intro _ hw'
        obtain ⟨q, rfl⟩ := hw'
        clear k0 k1 k2
        go_wp2
        go_roundw
        case rel => exact ⟨i + 1, acc, by omega, by go_num, E.out, by have := J.out.2.1; omega, (J.out.2.2.1.below q.below), (below_over J.out.2.2.2 q.below)⟩
        case measure => simp [intOf]; omega
      · have e1 : eqM u y = false := eqM_no e0
        have E : Hid (R = (acc ++ [u]) ++ (p.ms.drop (i + 1)).filter (fun y_ => !eqM y_ y)) := by rw [J.out.1, drop_at HX.out, List.filter_cons, if_pos (by show (!eqM u y) = true; rw [e1] <;> rfl), List.append_assoc]; exact rfl
        clear e0
        go_wp2_with fail
        clear c1
        refine wp_region_later (by kernel_rfl) (by kernel_rfl) ?_
        repeat (go_big_quiet_step (first | exact rfl))
        refine wpQuiet_nil ?_
        intro _ hw'
        obtain ⟨q, rfl⟩ := hw'
        clear k0 k1 k2
        have c1 := (TJ.out.below q.below).var.m
        rw [H.out.2.2.2.1] at c1
        have k0 := lM (H.out.2.1.below (TJ.out.below q.below).bel) HX.out
        obtain ⟨v', X, aX, oX, bX⟩ := nM (J.out.2.2.1.below q.below) (below_over J.out.2.2.2 q.below).size (by have := J.out.2.1; omega) u
        have G : Hid (Own eM X U.heap.size v' (acc ++ [u]) ∧ Below U.heap.size U X) := ⟨oX, (below_over J.out.2.2.2 q.below).trans bX⟩
        clear oX bX
        go_wp2
        go_roundw
        case rel => exact ⟨i + 1, _, by omega, by go_num, E.out, by have := J.out.2.1; simp; omega, G.out.1, G.out.2⟩
        case measure => simp [intOf]; omega
    · have hi1 : ¬ (i : Int) < (n : Int) := by omega
      have ER : Hid (acc = R) := by rw [J.out.1, drop_end (by rw [H.out.2.2.1]; omega), List.filter_nil, List.append_nil]; exact rfl
      clear hit hi
      obtain ⟨V5, hV5⟩ : ∃ z, wr = z := ⟨_, rfl⟩
      rw [hV5] at J TJ c1
      rw [hV5]
      have O5 : Hid (Own eM V5 U.heap.size u6 R) := by rw [← ER.out]; exact J.out.2.2.1
      obtain ⟨ua, uc, rfl, us, _⟩ := O5.out.form
      obtain ⟨m, hm⟩ : ∃ z, R.length = z := ⟨_, rfl⟩
      rw [hm] at O5 us
      rw [hm]
      have hmm := us.int
      have HM : Hid ((p.ms.filter (fun y_ => !eqM y_ y)).length = m) := by rw [HR.out.2]; exact hm
      clear J hV5 us hm
      by_cases h1 : m = n
      · have g1 : ((m : Int) == (n : Int)) = true := by simp [h1]
        have ED : Hid (rdM p y = 182) := by unfold rdM; rw [if_pos (by rw [HM.out, H.out.2.2.1]; exact h1)]; exact rfl
        have E : Hid (whn p { p with ms := p.ms.filter (fun y_ => !eqM y_ y) } (rdM p y) = (p, 182)) := by rw [ED.out]; exact rfl
        clear h1
        obtain ⟨Z, sZ, pZ, gZ, bZ⟩ := TJ.out.tell H.out.1.one
        have G : Hid (PrAt Z (w.heap.size + 2) x ∧ IsPv Z x p ∧ Below w.heap.size w Z) := ⟨pZ, H.out.1.below bZ, bZ⟩
        clear pZ gZ bZ
        have l9 := TJ.out.var.ld
        go_wp2
        exact ret_pe Try.results75 rfl rfl rfl G.out.1 (by show RdT w _ _ _; rw [E.out]; exact ⟨⟨_, rfl, G.out.2.1⟩, G.out.2.2⟩)
      · have g1 : ((m : Int) == (n : Int)) = false := by simp; omega
        have E : Hid (whn p { p with ms := p.ms.filter (fun y_ => !eqM y_ y) } (rdM p y) = ({ p with ms := p.ms.filter (fun y_ => !eqM y_ y) }, 0)) := by rw [show rdM p y = 0 by unfold rdM; rw [if_neg (by rw [HM.out, H.out.2.2.1]; exact h1)]]; exact rfl
        clear h1
        obtain ⟨V6, s6, q6, g6⟩ := TJ.out.var.stM (.slice ua m uc) O5.out.slv.one
        have T6 := TJ.out.set q6 g6
        have b6 : Below w.heap.size w V6 := T6.bel
        have o6 := O5.out.kept g6 (by have := T0.out.siz; omega)
        have i6 : IsPv V6 { x with m := (.slice ua m uc) } { p with ms := p.ms.filter (fun y_ => !eqM y_ y) } := ⟨H.out.1.o, H.out.1.wf, (H.out.1.below b6).k, (show SlV eM V6 (.slice ua m uc) (p.ms.filter (fun y_ => !eqM y_ y)) from by rw [HR.out.2]; exact o6.slv), (H.out.1.below b6).c, (H.out.1.below b6).b⟩
        obtain ⟨Z, sZ, pZ, gZ, bZ⟩ := T6.tell i6.one
        have o7 := o6.kept gZ (by have := T0.out.siz; omega)
        have G : Hid (PrAt Z (w.heap.size + 2) { x with m := (.slice ua m uc) } ∧ IsPv Z { x with m := (.slice ua m uc) } { p with ms := p.ms.filter (fun y_ => !eqM y_ y) } ∧ Below w.heap.size w Z) := ⟨pZ, ⟨H.out.1.o, H.out.1.wf, (H.out.1.below bZ).k, (show SlV eM Z (.slice ua m uc) (p.ms.filter (fun y_ => !eqM y_ y)) from by rw [HR.out.2]; exact o7.slv), (H.out.1.below bZ).c, (H.out.1.below bZ).b⟩, bZ⟩
        have l9 := T6.var.ld
        clear q6 g6 T6 b6 o6 i6 pZ gZ bZ o7
        go_wp2
        exact ret_pe Try.results75 rfl rfl rfl G.out.1 (by show RdT w _ _ _; rw [E.out]; exact ⟨⟨_, rfl, G.out.2.1⟩, G.out.2.2⟩)
set_option maxHeartbeats 4000000 in
theorem rdelC_any (x : Pr) (p : Pv) (y : Cr) (w : World) (h : IsPv w x p) (hz : Sz p) :
    Calls Try.prog 77 #[.agg x.cs, .agg y.cs] w fun r w' => RdT w (whn p { p with cs := p.cs.filter (fun y_ => !eqC y_ y) } (rdC p y)) r w' := by
  obtain ⟨a, n, c, hv, hs⟩ := h.c
  obtain ⟨W, V, U, hW, hV, hU, S0, zW, zV⟩ := RdS.new w x 102 y.cs
  have T0 : Hid (RdS w U x 102 y.cs) := S0
  have H : Hid (IsPv w x p ∧ SlAt eC w a n c p.cs ∧ p.cs.length = n ∧ x.c = .slice a n c ∧ Sz p) := ⟨h, hs, hs.len, hv, hz⟩
  clear S0
  have hnn := hs.int
  have hn100 : n ≤ 100 := by rw [← hs.len]; exact hz.2.2.1
  obtain ⟨R, hR⟩ : ∃ z, p.cs.filter (fun y_ => !eqC y_ y) = z := ⟨_, rfl⟩
  have HR : Hid (R = [] ++ (p.cs.drop 0).filter (fun y_ => !eqC y_ y) ∧ p.cs.filter (fun y_ => !eqC y_ y) = R) := ⟨hR.symm, hR⟩
  have c0 := T0.out.var.c
  rw [hv] at c0
  clear h hs hv hz hR
  go_enter Try.func77, Try.ntmps77
  go_wp2_with fail
  clear c0
  go_loopw [6, 7] (fun u v wr => ∃ (i : Nat) (acc : List Cr), i ≤ n ∧ v = .int .i64 i ∧ R = acc ++ (p.cs.drop i).filter (fun y_ => !eqC y_ y) ∧ acc.length ≤ i ∧ Own eC wr U.heap.size u acc ∧ Below U.heap.size U wr) (fun u v _ => n - (intOf v).toNat)
  case atStart => exact ⟨0, [], by omega, rfl, HR.out.1, Nat.le_refl _, Own.nil _ _, Below.refl _ _⟩
  case round =>
    obtain ⟨i, acc, hi, rfl, hf, ha, hO, hB⟩ := hrel
    have J : Hid (R = acc ++ (p.cs.drop i).filter (fun y_ => !eqC y_ y) ∧ acc.length ≤ i ∧ Own eC wr U.heap.size u6 acc ∧ Below U.heap.size U wr) := ⟨hf, ha, hO, hB⟩
    have TJ := T0.out.below hB
    have TJ : Hid _ := TJ
    have hi0 : (0 : Int) ≤ (i : Int) := by omega
    have c1 := TJ.out.var.c
    rw [H.out.2.2.2.1] at c1
    clear hf ha hO hB
    by_cases hit : i < n
    · have hi1 : (i : Int) < (n : Int) := by omega
      obtain ⟨b, o, rfl⟩ := H.out.2.1.some' (by omega)
      obtain ⟨u, hu⟩ := lt_nth (l := p.cs) (i := i) (by rw [H.out.2.2.1]; exact hit)
      have HX : Hid (p.cs[i]? = some u) := hu
      clear hu
      have k0 := fun q : Later wr => lC ((H.out.2.1.below TJ.out.bel).below q.below) HX.out
      have k1 := fun q : Later wr => ((show CrAt wr (w.heap.size + 1) y from TJ.out.arg).below q.below).ld
      have k2 := fun q : Later wr => (TJ.out.below q.below).var.c
      rw [H.out.2.2.2.1] at k2
      by_cases e0 : u = y
      · have e1 : eqC u y = true := eqC_iff.2 e0
        have E : Hid (R = acc ++ (p.cs.drop (i + 1)).filter (fun y_ => !eqC y_ y)) := by rw [J.out.1, drop_at HX.out, List.filter_cons, if_neg (by show ¬ ((!eqC u y) = true); rw [e1]; decide)]; exact rfl
        clear e0
        go_wp2_with fail
        clear c1
        refine wp_region_later (by kernel_rfl) (by kernel_rfl) ?_
        repeat (go_big_quiet_step (first | exact rfl))
        refine wpQuiet_nil ?_
        intro _ hw'
        obtain ⟨q, rfl⟩ := hw'
        clear k0 k1 k2
        go_wp2
        go_roundw
        case rel => exact ⟨i + 1, acc, by omega, by go_num, E.out, by have := J.out.2.1; omega, (J.out.2.2.1.below q.below), (below_over J.out.2.2.2 q.below)⟩
        case measure => simp [intOf]; omega
      · have e1 : eqC u y = false := eqC_no e0
        have E : Hid (R = (acc ++ [u]) ++ (p.cs.drop (i + 1)).filter (fun y_ => !eqC y_ y)) := by rw [J.out.1, drop_at HX.out, List.filter_cons, if_pos (by show (!eqC u y) = true; rw [e1] <;> rfl), List.append_assoc]; exact rfl
        clear e0
        go_wp2_with fail
        clear c1
        refine wp_region_later (by kernel_rfl) (by kernel_rfl) ?_
        repeat (go_big_quiet_step (first | exact rfl))
        refine wpQuiet_nil ?_
        intro _ hw'
        obtain ⟨q, rfl⟩ := hw'
        clear k0 k1 k2
        have c1 := (TJ.out.below q.below).var.c
        rw [H.out.2.2.2.1] at c1
        have k0 := lC (H.out.2.1.below (TJ.out.below q.below).bel) HX.out
        obtain ⟨v', X, aX, oX, bX⟩ := nC (J.out.2.2.1.below q.below) (below_over J.out.2.2.2 q.below).size (by have := J.out.2.1; omega) u
        have G : Hid (Own eC X U.heap.size v' (acc ++ [u]) ∧ Below U.heap.size U X) := ⟨oX, (below_over J.out.2.2.2 q.below).trans bX⟩
        clear oX bX
        go_wp2
        go_roundw
        case rel => exact ⟨i + 1, _, by omega, by go_num, E.out, by have := J.out.2.1; simp; omega, G.out.1, G.out.2⟩
        case measure => simp [intOf]; omega
    · have hi1 : ¬ (i : Int) < (n : Int) := by omega
      have ER : Hid (acc = R) := by rw [J.out.1, drop_end (by rw [H.out.2.2.1]; omega), List.filter_nil, List.append_nil]; exact rfl
      clear hit hi
      obtain ⟨V5, hV5⟩ : ∃ z, wr = z := ⟨_, rfl⟩
      rw [hV5] at J TJ c1
      rw [hV5]
      have O5 : Hid (Own eC V5 U.heap.size u6 R) := by rw [← ER.out]; exact J.out.2.2.1
      obtain ⟨ua, uc, rfl, us, _⟩ := O5.out.form
      obtain ⟨m, hm⟩ : ∃ z, R.length = z := ⟨_, rfl⟩
      rw [hm] at O5 us
      rw [hm]
      have hmm := us.int
      have HM : Hid ((p.cs.filter (fun y_ => !eqC y_ y)).length = m) := by rw [HR.out.2]; exact hm
      clear J hV5 us hm
      by_cases h1 : m = n
      · have g1 : ((m : Int) == (n : Int)) = true := by simp [h1]
        have ED : Hid (rdC p y = 182) := by unfold rdC; rw [if_pos (by rw [HM.out, H.out.2.2.1]; exact h1)]; exact rfl
        have E : Hid (whn p { p with cs := p.cs.filter (fun y_ => !eqC y_ y) } (rdC p y) = (p, 182)) := by rw [ED.out]; exact rfl
        clear h1
        obtain ⟨Z, sZ, pZ, gZ, bZ⟩ := TJ.out.tell H.out.1.one
        have G : Hid (PrAt Z (w.heap.size + 2) x ∧ IsPv Z x p ∧ Below w.heap.size w Z) := ⟨pZ, H.out.1.below bZ, bZ⟩
        clear pZ gZ bZ
        have l9 := TJ.out.var.ld
        go_wp2
        exact ret_pe Try.results77 rfl rfl rfl G.out.1 (by show RdT w _ _ _; rw [E.out]; exact ⟨⟨_, rfl, G.out.2.1⟩, G.out.2.2⟩)
      · have g1 : ((m : Int) == (n : Int)) = false := by simp; omega
        have f5 := TJ.out.var.ld
        obtain ⟨nn, hn⟩ : ∃ zz, (att p y.s).length = zz := ⟨_, rfl⟩
        by_cases h2 : 0 < nn
        · have ED : Hid (rdC p y = 183) := by unfold rdC; rw [if_neg (by rw [HM.out, H.out.2.2.1]; exact h1), if_pos (by rw [hn]; exact h2)]; exact rfl
          have HN : Hid ((att p y.s).length = nn) := hn
          clear hn h1
          have f6 := (show CrAt V5 (w.heap.size + 1) y from TJ.out.arg).c0
          go_wp2_with fail
          refine (ratt_any x p y.s V5 (H.out.1.below TJ.out.bel) H.out.2.2.2.2.2.1).mono ?_
          rintro _ V7 ⟨⟨vv, rfl, ov⟩, hb⟩
          obtain ⟨va, vc, rfl, _, _⟩ := ov.form
          rw [HN.out]
          have T7 := TJ.out.below hb
          have T7 : Hid _ := T7
          have O7 : Hid (Own eC V7 U.heap.size (.slice ua m uc) R) := O5.out.below hb
          clear hb ov
          have E : Hid (whn p { p with cs := p.cs.filter (fun y_ => !eqC y_ y) } (rdC p y) = (p, 183)) := by rw [ED.out]; exact rfl
          obtain ⟨Z, sZ, pZ, gZ, bZ⟩ := T7.out.tell H.out.1.one
          have G : Hid (PrAt Z (w.heap.size + 2) x ∧ IsPv Z x p ∧ Below w.heap.size w Z) := ⟨pZ, H.out.1.below bZ, bZ⟩
          clear pZ gZ bZ
          have l9 := T7.out.var.ld
          go_wp2
          exact ret_pe Try.results77 rfl rfl rfl G.out.1 (by show RdT w _ _ _; rw [E.out]; exact ⟨⟨_, rfl, G.out.2.1⟩, G.out.2.2⟩)
        · have ED : Hid (rdC p y = 0) := by unfold rdC; rw [if_neg (by rw [HM.out, H.out.2.2.1]; exact h1), if_neg (by rw [hn]; exact h2)]; exact rfl
          have hz0 : nn = 0 := by omega
          subst hz0
          have HN : Hid ((att p y.s).length = 0) := hn
          clear hn h1
          have f6 := (show CrAt V5 (w.heap.size + 1) y from TJ.out.arg).c0
          go_wp2_with fail
          refine (ratt_any x p y.s V5 (H.out.1.below TJ.out.bel) H.out.2.2.2.2.2.1).mono ?_
          rintro _ V7 ⟨⟨vv, rfl, ov⟩, hb⟩
          obtain ⟨va, vc, rfl, _, _⟩ := ov.form
          rw [HN.out]
          have T7 := TJ.out.below hb
          have T7 : Hid _ := T7
          have O7 : Hid (Own eC V7 U.heap.size (.slice ua m uc) R) := O5.out.below hb
          clear hb ov
          have E : Hid (whn p { p with cs := p.cs.filter (fun y_ => !eqC y_ y) } (rdC p y) = ({ p with cs := p.cs.filter (fun y_ => !eqC y_ y) }, 0)) := by rw [ED.out]; exact rfl
          obtain ⟨V6, s6, q6, g6⟩ := T7.out.var.stC (.slice ua m uc) O7.out.slv.one
          have T6 := T7.out.set q6 g6
          have b6 : Below w.heap.size w V6 := T6.bel
          have o6 := O7.out.kept g6 (by have := T0.out.siz; omega)
          have i6 : IsPv V6 { x with c := (.slice ua m uc) } { p with cs := p.cs.filter (fun y_ => !eqC y_ y) } := ⟨H.out.1.o, H.out.1.wf, (H.out.1.below b6).k, (H.out.1.below b6).m, (show SlV eC V6 (.slice ua m uc) (p.cs.filter (fun y_ => !eqC y_ y)) from by rw [HR.out.2]; exact o6.slv), (H.out.1.below b6).b⟩
          obtain ⟨Z, sZ, pZ, gZ, bZ⟩ := T6.tell i6.one
          have o7 := o6.kept gZ (by have := T0.out.siz; omega)
          have G : Hid (PrAt Z (w.heap.size + 2) { x with c := (.slice ua m uc) } ∧ IsPv Z { x with c := (.slice ua m uc) } { p with cs := p.cs.filter (fun y_ => !eqC y_ y) } ∧ Below w.heap.size w Z) := ⟨pZ, ⟨H.out.1.o, H.out.1.wf, (H.out.1.below bZ).k, (H.out.1.below bZ).m, (show SlV eC Z (.slice ua m uc) (p.cs.filter (fun y_ => !eqC y_ y)) from by rw [HR.out.2]; exact o7.slv), (H.out.1.below bZ).b⟩, bZ⟩
          have l9 := T6.var.ld
          clear q6 g6 T6 b6 o6 i6 pZ gZ bZ o7
          go_wp2
          exact ret_pe Try.results77 rfl rfl rfl G.out.1 (by show RdT w _ _ _; rw [E.out]; exact ⟨⟨_, rfl, G.out.2.1⟩, G.out.2.2⟩)
set_option maxHeartbeats 4000000 in
theorem rdelB_any (x : Pr) (p : Pv) (y : Int) (w : World) (h : IsPv w x p) (hz : Sz p) :
    Calls Try.prog 79 #[.agg x.cs, .int .i64 y] w fun r w' => RdT w (whn p { p with bs := p.bs.filter (fun y_ : Mb => y_.v != y) } (rdB p y)) r w' := by
  obtain ⟨rr, ⟨a, n, c, hv, hs⟩, bm⟩ := h.b
  obtain ⟨W, hW, m0, bW, zW⟩ := PrAt.new w x
  obtain ⟨U, hU, m1, bU, zU⟩ := PrAt.zero W
  rw [zW] at m1
  have T0 : Hid (RdU w U x) := ⟨m0.below bU, m1, below_over bW bU, by rw [zU, zW]; omega⟩
  have H : Hid (IsPv w x p ∧ SlAt eB w a n c rr ∧ rr.length = n ∧ x.b = .slice a n c ∧ Sz p ∧ Mem w rr p.bs ∧ p.bs.length = n) := ⟨h, hs, hs.len, hv, hz, bm, by rw [← bm.len]; exact hs.len⟩
  clear m0 m1 bW bU zU bm
  have hnn := hs.int
  have hn100 : n ≤ 100 := by rw [← H.out.2.2.2.2.2.2]; exact hz.2.2.2.1
  obtain ⟨R, hR⟩ : ∃ z, rr.filter (fun y_ : Mr => y_.v != y) = z := ⟨_, rfl⟩
  have HR : Hid (R = [] ++ (rr.drop 0).filter (fun y_ : Mr => y_.v != y) ∧ rr.filter (fun y_ : Mr => y_.v != y) = R) := ⟨hR.symm, hR⟩
  have c0 := T0.out.var.b
  rw [hv] at c0
  clear h hs hv hz hR
  go_enter Try.func79, Try.ntmps79
  go_wp2_with fail
  clear c0
  go_loopw [6, 7] (fun u v wr => ∃ (i : Nat) (acc : List Mr), i ≤ n ∧ v = .int .i64 i ∧ R = acc ++ (rr.drop i).filter (fun y_ : Mr => y_.v != y) ∧ acc.length ≤ i ∧ Own eB wr U.heap.size u acc ∧ Below U.heap.size U wr) (fun u v _ => n - (intOf v).toNat)
  case atStart => exact ⟨0, [], by omega, rfl, HR.out.1, Nat.le_refl _, Own.nil _ _, Below.refl _ _⟩
  case round =>
    obtain ⟨i, acc, hi, rfl, hf, ha, hO, hB⟩ := hrel
    have J : Hid (R = acc ++ (rr.drop i).filter (fun y_ : Mr => y_.v != y) ∧ acc.length ≤ i ∧ Own eB wr U.heap.size u6 acc ∧ Below U.heap.size U wr) := ⟨hf, ha, hO, hB⟩
    have TJ := T0.out.below hB
    have TJ : Hid _ := TJ
    have hi0 : (0 : Int) ≤ (i : Int) := by omega
    have c1 := TJ.out.var.b
    rw [H.out.2.2.2.1] at c1
    clear hf ha hO hB
    by_cases hit : i < n
    · have hi1 : (i : Int) < (n : Int) := by omega
      obtain ⟨b, o, rfl⟩ := H.out.2.1.some' (by omega)
      obtain ⟨u, hu⟩ := lt_nth (l := rr) (i := i) (by rw [H.out.2.2.1]; exact hit)
      have HX : Hid (rr[i]? = some u) := hu
      clear hu
      have k0 := lB0 (H.out.2.1.below TJ.out.bel) HX.out
      have k1 := lB (H.out.2.1.below TJ.out.bel) HX.out
      by_cases e0 : u.v = y
      · have e1 : (u.v != y) = false := by simp [e0]
        have E : Hid (R = acc ++ (rr.drop (i + 1)).filter (fun y_ : Mr => y_.v != y)) := by rw [J.out.1, drop_at HX.out, List.filter_cons, if_neg (by show ¬ ((u.v != y) = true); rw [e1]; decide)]; exact rfl
        clear e0
        go_wp2
        go_roundw
        case rel => exact ⟨i + 1, acc, by omega, by go_num, E.out, by have := J.out.2.1; omega, J.out.2.2.1, J.out.2.2.2⟩
        case measure => simp [intOf]; omega
      · have e1 : (u.v != y) = true := by simp [e0]
        have E : Hid (R = (acc ++ [u]) ++ (rr.drop (i + 1)).filter (fun y_ : Mr => y_.v != y)) := by rw [J.out.1, drop_at HX.out, List.filter_cons, if_pos (by show (u.v != y) = true; rw [e1] <;> rfl), List.append_assoc]; exact rfl
        clear e0
        obtain ⟨v', X, aX, oX, bX⟩ := nB J.out.2.2.1 J.out.2.2.2.size (by have := J.out.2.1; omega) u
        have G : Hid (Own eB X U.heap.size v' (acc ++ [u]) ∧ Below U.heap.size U X) := ⟨oX, J.out.2.2.2.trans bX⟩
        clear oX bX
        go_wp2
        go_roundw
        case rel => exact ⟨i + 1, _, by omega, by go_num, E.out, by have := J.out.2.1; simp; omega, G.out.1, G.out.2⟩
        case measure => simp [intOf]; omega
    · have hi1 : ¬ (i : Int) < (n : Int) := by omega
      have ER : Hid (acc = R) := by rw [J.out.1, drop_end (by rw [H.out.2.2.1]; omega), List.filter_nil, List.append_nil]; exact rfl
      clear hit hi
      obtain ⟨V5, hV5⟩ : ∃ z, wr = z := ⟨_, rfl⟩
      rw [hV5] at J TJ c1
      rw [hV5]
      have O5 : Hid (Own eB V5 U.heap.size u6 R) := by rw [← ER.out]; exact J.out.2.2.1
      obtain ⟨ua, uc, rfl, us, _⟩ := O5.out.form
      obtain ⟨m, hm⟩ : ∃ z, R.length = z := ⟨_, rfl⟩
      rw [hm] at O5 us
      rw [hm]
      have hmm := us.int
      have HM : Hid ((rr.filter (fun y_ : Mr => y_.v != y)).length = m ∧ (p.bs.filter (fun y_ : Mb => y_.v != y)).length = m) := ⟨by rw [HR.out.2]; exact hm, by rw [← hm, ← HR.out.2]; exact (al_len H.out.2.2.2.2.2.1 fun a b h => by show (a.v != y) = (b.v != y); rw [h]).symm⟩
      clear J hV5 us hm
      by_cases h1 : m = n
      · have g1 : ((m : Int) == (n : Int)) = true := by simp [h1]
        have ED : Hid (rdB p y = 182) := by unfold rdB; rw [if_pos (by rw [HM.out.2, H.out.2.2.2.2.2.2]; exact h1)]; exact rfl
        have E : Hid (whn p { p with bs := p.bs.filter (fun y_ : Mb => y_.v != y) } (rdB p y) = (p, 182)) := by rw [ED.out]; exact rfl
        clear h1
        obtain ⟨Z, sZ, pZ, gZ, bZ⟩ := TJ.out.tell H.out.1.one
        have G : Hid (PrAt Z (w.heap.size + 1) x ∧ IsPv Z x p ∧ Below w.heap.size w Z) := ⟨pZ, H.out.1.below bZ, bZ⟩
        clear pZ gZ bZ
        have l9 := TJ.out.var.ld
        go_wp2
        exact ret_pe Try.results79 rfl rfl rfl G.out.1 (by show RdT w _ _ _; rw [E.out]; exact ⟨⟨_, rfl, G.out.2.1⟩, G.out.2.2⟩)
      · have g1 : ((m : Int) == (n : Int)) = false := by simp; omega
        have MB : ∀ Y : World, Below w.heap.size w Y → Mem Y R (p.bs.filter (fun y_ : Mb => y_.v != y)) := fun Y hY => by rw [← HR.out.2]; exact (al_fil H.out.2.2.2.2.2.1 fun a b h => by show (a.v != y) = (b.v != y); rw [h]).below hY
        have f5 := TJ.out.var.ld
        obtain ⟨nn, hn⟩ : ∃ zz, (svs p y).length = zz := ⟨_, rfl⟩
        by_cases h2 : 0 < nn
        · have ED : Hid (rdB p y = 183) := by unfold rdB; rw [if_neg (by rw [HM.out.2, H.out.2.2.2.2.2.2]; exact h1), if_pos (by rw [hn]; exact h2)]; exact rfl
          have HN : Hid ((svs p y).length = nn) := hn
          clear hn h1
          go_wp2_with fail
          refine (rsvs_any x p y V5 (H.out.1.below TJ.out.bel) H.out.2.2.2.2.1.2.2.1).mono ?_
          rintro _ V7 ⟨⟨vv, rfl, ov⟩, hb⟩
          obtain ⟨va, vc, rfl, _, _⟩ := ov.form
          rw [HN.out]
          have T7 := TJ.out.below hb
          have T7 : Hid _ := T7
          have O7 : Hid (Own eB V7 U.heap.size (.slice ua m uc) R) := O5.out.below hb
          clear hb ov
          have E : Hid (whn p { p with bs := p.bs.filter (fun y_ : Mb => y_.v != y) } (rdB p y) = (p, 183)) := by rw [ED.out]; exact rfl
          obtain ⟨Z, sZ, pZ, gZ, bZ⟩ := T7.out.tell H.out.1.one
          have G : Hid (PrAt Z (w.heap.size + 1) x ∧ IsPv Z x p ∧ Below w.heap.size w Z) := ⟨pZ, H.out.1.below bZ, bZ⟩
          clear pZ gZ bZ
          have l9 := T7.out.var.ld
          go_wp2
          exact ret_pe Try.results79 rfl rfl rfl G.out.1 (by show RdT w _ _ _; rw [E.out]; exact ⟨⟨_, rfl, G.out.2.1⟩, G.out.2.2⟩)
        · have ED : Hid (rdB p y = 0) := by unfold rdB; rw [if_neg (by rw [HM.out.2, H.out.2.2.2.2.2.2]; exact h1), if_neg (by rw [hn]; exact h2)]; exact rfl
          have hz0 : nn = 0 := by omega
          subst hz0
          have HN : Hid ((svs p y).length = 0) := hn
          clear hn h1
          go_wp2_with fail
          refine (rsvs_any x p y V5 (H.out.1.below TJ.out.bel) H.out.2.2.2.2.1.2.2.1).mono ?_
          rintro _ V7 ⟨⟨vv, rfl, ov⟩, hb⟩
          obtain ⟨va, vc, rfl, _, _⟩ := ov.form
          rw [HN.out]
          have T7 := TJ.out.below hb
          have T7 : Hid _ := T7
          have O7 : Hid (Own eB V7 U.heap.size (.slice ua m uc) R) := O5.out.below hb
          clear hb ov
          have E : Hid (whn p { p with bs := p.bs.filter (fun y_ : Mb => y_.v != y) } (rdB p y) = ({ p with bs := p.bs.filter (fun y_ : Mb => y_.v != y) }, 0)) := by rw [ED.out]; exact rfl
          obtain ⟨V6, s6, q6, g6⟩ := T7.out.var.stB (.slice ua m uc) O7.out.slv.one
          have T6 := T7.out.set q6 g6
          have b6 : Below w.heap.size w V6 := T6.bel
          have o6 := O7.out.kept g6 (by have := T0.out.siz; omega)
          have i6 : IsPv V6 { x with b := (.slice ua m uc) } { p with bs := p.bs.filter (fun y_ : Mb => y_.v != y) } := ⟨H.out.1.o, H.out.1.wf, (H.out.1.below b6).k, (H.out.1.below b6).m, (H.out.1.below b6).c, ⟨R, o6.slv, MB V6 b6⟩⟩
          obtain ⟨Z, sZ, pZ, gZ, bZ⟩ := T6.tell i6.one
          have o7 := o6.kept gZ (by have := T0.out.siz; omega)
          have G : Hid (PrAt Z (w.heap.size + 1) { x with b := (.slice ua m uc) } ∧ IsPv Z { x with b := (.slice ua m uc) } { p with bs := p.bs.filter (fun y_ : Mb => y_.v != y) } ∧ Below w.heap.size w Z) := ⟨pZ, ⟨H.out.1.o, H.out.1.wf, (H.out.1.below bZ).k, (H.out.1.below bZ).m, (H.out.1.below bZ).c, ⟨R, o7.slv, MB Z bZ⟩⟩, bZ⟩
          have l9 := T6.var.ld
          clear q6 g6 T6 b6 o6 i6 pZ gZ bZ o7
          go_wp2
          exact ret_pe Try.results79 rfl rfl rfl G.out.1 (by show RdT w _ _ _; rw [E.out]; exact ⟨⟨_, rfl, G.out.2.1⟩, G.out.2.2⟩)
end Go.Proofs.Ytgjagedngdhdaaa
