/-
  What is looked at of what is handed in: the walks of Few and cut, for every input.
-/
import Derived.Test.YtcejfkkhmlebdaaOt
namespace Go.Proofs.Ytcejfkkhmlebdaa
set_option linter.unusedVariables false
set_option maxRecDepth 4000
set_option linter.unusedSimpArgs false
open Go.RowKit
attribute [local go_sem ↓] ldM stM ldC stC ldB stB ldP stP apI bsI stIs stKs stMs stCs stBs slK slM slC slI apB bsB bdB
attribute [local go_sem] bsI_is bsB_is

def shM (z : Mb) : Mb := ⟨z.v, z.ps.take 10⟩
def fewP (p : Pv) : Pv := ⟨p.o, p.ks.take 10, p.ms.take 12, p.cs.take 12, (p.bs.take 12).map shM⟩
theorem sz_few (p : Pv) : Sz (fewP p) := by
  refine ⟨?_, ?_, ?_, ?_, fun m hm => ?_⟩
  · exact Nat.le_trans (List.length_take_le ..) (by decide)
  · exact Nat.le_trans (List.length_take_le ..) (by decide)
  · exact Nat.le_trans (List.length_take_le ..) (by decide)
  · show ((p.bs.take 12).map shM).length ≤ 100
    rw [List.length_map]
    exact Nat.le_trans (List.length_take_le ..) (by decide)
  · obtain ⟨z, _, rfl⟩ := List.mem_map.1 hm
    exact Nat.le_trans (List.length_take_le ..) (by decide)
theorem few_next {l : List Mb} {i : Nat} {z : Mb} (h : l[i]? = some z) : (l.take (i + 1)).map shM = (l.take i).map shM ++ [shM z] := by
  rw [take_one h, List.map_append]
  rfl
theorem SlAt.cutM {α : Type} {e : El α} (k : e.Ok) {W : World} {a : Option Addr} {n c : Nat} {l : List α} (h : SlAt e W a n c l) (m : Nat) : SlAt e W a (min n m) c (l.take m) := by
  have := h.cut k (m := min n m) (Nat.min_le_left ..)
  have e' : l.take (min n m) = l.take m := by
    by_cases hm : n ≤ m
    · rw [Nat.min_eq_left hm, List.take_of_length_le (by rw [h.len]; exact Nat.le_refl _), List.take_of_length_le (by rw [h.len]; exact hm)]
    · rw [Nat.min_eq_right (by omega)]
  rw [e'] at this
  exact this
theorem slK_min (a : Option Addr) (n c : Nat) (hc : n ≤ c) (V : World) : (slS 43 (.slice a n c) none (some (.int .i64 (min (n : Int) 10))) none).run Try.prog V = .ok (.slice a (min n 10) c) V := by
  have := slK_cut a n c (min n 10) (Nat.min_le_left ..) hc V
  rw [show ((min n 10 : Nat) : Int) = min (n : Int) 10 by omega] at this
  exact this
theorem slM_min (a : Option Addr) (n c : Nat) (hc : n ≤ c) (V : World) : (slS 44 (.slice a n c) none (some (.int .i64 (min (n : Int) 12))) none).run Try.prog V = .ok (.slice a (min n 12) c) V := by
  have := slM_cut a n c (min n 12) (Nat.min_le_left ..) hc V
  rw [show ((min n 12 : Nat) : Int) = min (n : Int) 12 by omega] at this
  exact this
theorem slC_min (a : Option Addr) (n c : Nat) (hc : n ≤ c) (V : World) : (slS 45 (.slice a n c) none (some (.int .i64 (min (n : Int) 12))) none).run Try.prog V = .ok (.slice a (min n 12) c) V := by
  have := slC_cut a n c (min n 12) (Nat.min_le_left ..) hc V
  rw [show ((min n 12 : Nat) : Int) = min (n : Int) 12 by omega] at this
  exact this
theorem slI_min (a : Option Addr) (n c : Nat) (hc : n ≤ c) (V : World) : (slS 59 (.slice a n c) none (some (.int .i64 (min (n : Int) 10))) none).run Try.prog V = .ok (.slice a (min n 10) c) V := by
  have := slI_cut a n c (min n 10) (Nat.min_le_left ..) hc V
  rw [show ((min n 10 : Nat) : Int) = min (n : Int) 10 by omega] at this
  exact this
/-- What Few tells: its rows' places are those handed in, but the members' row, which is its own. -/
structure FewK (w0 W : World) (B : Nat) (y : Pr) (q : Pv) : Prop where
  o : y.o = q.o
  wf : q.o.wf
  k : SlV eK w0 y.k q.ks
  m : SlV eM w0 y.m q.ms
  c : SlV eC w0 y.c q.cs
  b : ∃ rr, Own eB W B y.b rr ∧ Mem w0 rr q.bs
theorem FewK.pv {w0 W : World} {B : Nat} {y : Pr} {q : Pv} (h : FewK w0 W B y q) (hb : Below w0.heap.size w0 W) : IsPv W y q := by
  obtain ⟨rr, h1, h2⟩ := h.b
  exact ⟨h.o, h.wf, h.k.below hb, h.m.below hb, h.c.below hb, rr, h1.slv, h2.below hb⟩
theorem FewK.below {w0 W W' : World} {B : Nat} {y : Pr} {q : Pv} (h : FewK w0 W B y q) (hb : Below W.heap.size W W') : FewK w0 W' B y q := by
  obtain ⟨rr, h1, h2⟩ := h.b
  exact ⟨h.o, h.wf, h.k, h.m, h.c, rr, h1.below hb, h2⟩
theorem FewK.kept {w0 W W' : World} {B g : Nat} {y : Pr} {q : Pv} (h : FewK w0 W B y q) (hg : W.grownBy W' (some g)) (hl : g < B) : FewK w0 W' B y q := by
  obtain ⟨rr, h1, h2⟩ := h.b
  exact ⟨h.o, h.wf, h.k, h.m, h.c, rr, h1.kept hg hl, h2⟩
/-- A member cut. -/
def cuM (y : Mr) : Mr := ⟨y.v, y.a, min y.n 10, y.c⟩
set_option maxHeartbeats 16000000 in
theorem few_at (x : Pr) (p : Pv) (w0 w : World) (h : IsPv w0 x p) (hb0 : Below w0.heap.size w0 w) :
    Calls Try.prog 9 #[.agg x.cs] w fun r w' => (∃ y : Pr, r = .returned (.agg y.cs) ∧ FewK w0 w' w.heap.size y (fewP p)) ∧ Below w.heap.size w w' := by
  have HB : Hid (Below w0.heap.size w0 w) := hb0
  obtain ⟨ka, kn, kc, kv, ks⟩ := h.k
  obtain ⟨ma, mn, mc, mv, ms⟩ := h.m
  obtain ⟨ca, cn, cc, cv, cs⟩ := h.c
  obtain ⟨rr, ⟨ba, bn, bc, bv, bs⟩, bm⟩ := h.b
  obtain ⟨W, hW, m0, bW, zW⟩ := PrAt.new w x
  obtain ⟨V0, hV, m1, bV, zV⟩ := PrAt.zero W
  have T0 : Hid (TwS w V0 x) := ⟨m0.below bV, by rw [zW] at m1; exact m1, below_over bW bV, by rw [zV, zW]; omega⟩
  have H : Hid (SlAt eK w0 ka kn kc p.ks ∧ SlAt eM w0 ma mn mc p.ms ∧ SlAt eC w0 ca cn cc p.cs ∧ SlAt eB w0 ba bn bc rr ∧ Mem w0 rr p.bs) := ⟨ks, ms, cs, bs, bm⟩
  have HV : Hid (x.k = .slice ka kn kc ∧ x.m = .slice ma mn mc ∧ x.c = .slice ca cn cc ∧ x.b = .slice ba bn bc) := ⟨kv, mv, cv, bv⟩
  have HO : Hid (x.o = p.o ∧ p.o.wf) := ⟨h.o, h.wf⟩
  have HL : Hid (rr.length = bn ∧ p.bs.length = bn) := ⟨bs.len, by rw [← bm.len]; exact bs.len⟩
  have i0 := ks.int
  have i1 := ms.int
  have i2 := cs.int
  have i3 := bs.int
  clear hb0 h ks ms cs bs bm kv mv cv bv m0 m1 bW bV zV
  have c0 : V0.cell? ⟨w.heap.size, 6, none⟩ = some x.k := T0.out.var.k
  rw [HV.out.1] at c0
  obtain ⟨V1, s0, v0, g0⟩ := T0.out.var.stK (.slice ka (min kn 10) kc) rfl
  have T1 : Hid (TwS w V1 _) := T0.out.set v0 g0
  have c1 : V1.cell? ⟨w.heap.size, 7, none⟩ = some x.m := T1.out.var.m
  rw [HV.out.2.1] at c1
  obtain ⟨V2, s1, v1, g1⟩ := T1.out.var.stM (.slice ma (min mn 12) mc) rfl
  have T2 : Hid (TwS w V2 _) := T1.out.set v1 g1
  have c2 : V2.cell? ⟨w.heap.size, 8, none⟩ = some x.c := T2.out.var.c
  rw [HV.out.2.2.1] at c2
  obtain ⟨V3, s2, v2, g2⟩ := T2.out.var.stC (.slice ca (min cn 12) cc) rfl
  have T3 : Hid (TwS w V3 _) := T2.out.set v2 g2
  clear v0 g0 v1 g1 v2 g2
  have TT : Hid (TwS w V3 ⟨x.o, .slice ka (min kn 10) kc, .slice ma (min mn 12) mc, .slice ca (min cn 12) cc, x.b⟩) := T3.out
  clear T1 T2 T3
  have n0 := slK_cut ka kn kc (min kn 10) (Nat.min_le_left ..) H.out.1.cap
  have n1 := slM_cut ma mn mc (min mn 12) (Nat.min_le_left ..) H.out.2.1.cap
  have n2 := slC_cut ca cn cc (min cn 12) (Nat.min_le_left ..) H.out.2.2.1.cap
  obtain ⟨k0, hk0⟩ : ∃ z, min kn 10 = z := ⟨_, rfl⟩
  obtain ⟨k1, hk1⟩ : ∃ z, min mn 12 = z := ⟨_, rfl⟩
  obtain ⟨k2, hk2⟩ : ∃ z, min cn 12 = z := ⟨_, rfl⟩
  have HK : Hid (min kn 10 = k0 ∧ min mn 12 = k1 ∧ min cn 12 = k2) := ⟨hk0, hk1, hk2⟩
  have m0 : min (kn : Int) 10 = (k0 : Int) := by omega
  have m1 : min (mn : Int) 12 = (k1 : Int) := by omega
  have m2 : min (cn : Int) 12 = (k2 : Int) := by omega
  have m0' : (if (10 : Int) < (kn : Int) then (10 : Int) else (kn : Int)) = (k0 : Int) := by split <;> omega
  have m1' : (if (12 : Int) < (mn : Int) then (12 : Int) else (mn : Int)) = (k1 : Int) := by split <;> omega
  have m2' : (if (12 : Int) < (cn : Int) then (12 : Int) else (cn : Int)) = (k2 : Int) := by split <;> omega
  rw [hk0] at n0 s0 TT
  rw [hk1] at n1 s1 TT
  rw [hk2] at n2 s2 TT
  clear hk0 hk1 hk2
  go_enter Try.func9, Try.ntmps9
  go_wp2_with fail
  clear c0 c1 c2 s0 s1 s2 n0 n1 n2 m0 m1 m2 m0' m1' m2'
  go_loopw [3, 4] (fun u v wr => ∃ (i : Nat) (acc : List Mr), i ≤ bn ∧ i ≤ 12 ∧ v = .int .i64 i ∧ acc.length = i ∧ Own eB wr V3.heap.size u acc ∧ Mem w0 acc ((p.bs.take i).map shM) ∧ Below V3.heap.size V3 wr) (fun u v _ => bn - (intOf v).toNat)
  case atStart => exact ⟨0, [], by omega, by omega, rfl, rfl, Own.nil _ _, Mem.nil _, Below.refl _ _⟩
  case round =>
    obtain ⟨i, acc, hi, hj, rfl, ha, hO, hM, hB⟩ := hrel
    have J : Hid (acc.length = i ∧ Own eB wr V3.heap.size u3 acc ∧ Mem w0 acc ((p.bs.take i).map shM) ∧ Below V3.heap.size V3 wr ∧ TwS w wr ⟨x.o, .slice ka (k0) kc, .slice ma (k1) mc, .slice ca (k2) cc, x.b⟩) := ⟨ha, hO, hM, hB, TT.out.below hB⟩
    have hi0 : (0 : Int) ≤ (i : Int) := by omega
    have c9 : wr.cell? ⟨w.heap.size, 9, none⟩ = some x.b := J.out.2.2.2.2.var.b
    rw [HV.out.2.2.2] at c9
    clear ha hO hM hB
    by_cases hit : i < bn ∧ i < 12
    · have hi1 : (i : Int) < (bn : Int) := by omega
      have hi2 : (i : Int) < 12 := by omega
      obtain ⟨b, o, rfl⟩ := H.out.2.2.2.1.some' (by omega)
      obtain ⟨y, z, hy, hz, hvz, hps⟩ := H.out.2.2.2.2.get (i := i) (by rw [HL.out.2]; exact hit.1)
      have d9 := fun q : Later V3 => (TT.out.var.below q.below).b
      rw [HV.out.2.2.2] at d9
      have l0 := fun q : Later V3 => lB0 (H.out.2.2.2.1.below (below_later (below_over HB.out TT.out.bel) q)) hy
      have l1 := fun q : Later V3 => lB1 (H.out.2.2.2.1.below (below_later (below_over HB.out TT.out.bel) q)) hy
      have X : Hid (p.bs[i]? = some z ∧ y.v = z.v ∧ SlAt eI w0 y.a y.n y.c z.ps) := ⟨hz, hvz, hps⟩
      have n3 := slI_cut y.a y.n y.c (min y.n 10) (Nat.min_le_left ..) X.out.2.2.cap
      obtain ⟨k3, hk3⟩ : ∃ z, min y.n 10 = z := ⟨_, rfl⟩
      have HK3 : Hid (min y.n 10 = k3) := hk3
      have m3 : min (y.n : Int) 10 = (k3 : Int) := by omega
      have m3' : (if (10 : Int) < (y.n : Int) then (10 : Int) else (y.n : Int)) = (k3 : Int) := by split <;> omega
      rw [hk3] at n3
      have ecu : Hid (cuM y = ⟨y.v, y.a, k3, y.c⟩) := by unfold cuM; rw [hk3]; exact rfl
      have bb : ∀ q : World, (bdS 68 #[(0, .int .i64 y.v), (1, .slice y.a k3 y.c)]).run Try.prog q = .ok (.agg (cuM y).cs) q := fun q => by rw [ecu.out]; exact bdB_is y.v y.a k3 y.c q
      clear hk3
      have hyn := X.out.2.2.int
      have HI : Hid (i < bn ∧ i < 12) := hit
      clear hy hz hvz hps hit
      go_wp2_with fail
      obtain ⟨Y, hY⟩ : ∃ X0, World.drew wr = X0 := ⟨_, rfl⟩
      have bY : Below wr.heap.size wr Y := by rw [← hY]; exact (Below.refl _ _).drew
      obtain ⟨v', U, aU, oU, bU⟩ := nB (J.out.2.1.below bY) (below_over J.out.2.2.2.1 bY).size (by rw [J.out.1]; omega) (cuM y)
      have G : Hid (Own eB U V3.heap.size v' (acc ++ [cuM y]) ∧ Mem w0 (acc ++ [cuM y]) ((p.bs.take (i + 1)).map shM) ∧ Below V3.heap.size V3 U) := by
        refine ⟨oU, ?_, (below_over J.out.2.2.2.1 bY).trans bU⟩
        rw [few_next X.out.1]
        exact J.out.2.2.1.app (Mem.one X.out.2.1 (X.out.2.2.cutM kI 10))
      have B0 : Hid (Below V3.heap.size V3 Y) := below_over J.out.2.2.2.1 bY
      refine wp_region_noPanic ?_
      refine wp_region_held_drew (S := fun w' => ∃ x : Later V3, w' = x.val) (by kernel_rfl) (by rw [hY]; exact ⟨⟨_, B0.out⟩, rfl⟩) (fun hHeld => ?_)
      rw [hY] at hHeld ⊢
      clear hY oU bU bY c9
      refine wpAnyH_take (i := 0) (oi := { dst := some 40, op := Op.move (Operand.tmp 3), type := 46, pos := "law.go:18", after := #[], guard := none }) (v := ?_) rfl (by kernel_rfl) (by kernel_rfl) (by kernel_rfl) (fun _ _ _ h => h) (Or.inl ⟨by rfl, ?_⟩) hHeld ?_
      rotate_left
      · intro W_ hSw_
        obtain ⟨q, rfl⟩ := hSw_
        first | (go_simp; done) | (go_simp; with_reducible rfl)
      rotate_left
      try simp only [Act.put, List.setIfInBounds_toArray, List.set_cons_zero, List.set_cons_succ]
      refine wpAnyH_take (i := 1) (oi := { dst := some 41, op := Op.fieldAddr 48 (Operand.tmp 1) 4, type := 0, pos := "law.go:18", after := #[], guard := none }) (v := ?_) rfl (by kernel_rfl) (by kernel_rfl) (by kernel_rfl) (fun _ _ _ h => h) (Or.inl ⟨by rfl, ?_⟩) hHeld ?_
      rotate_left
      · intro W_ hSw_
        obtain ⟨q, rfl⟩ := hSw_
        first | (go_simp; done) | (go_simp; with_reducible rfl)
      rotate_left
      try simp only [Act.put, List.setIfInBounds_toArray, List.set_cons_zero, List.set_cons_succ]
      refine wpAnyH_take (i := 2) (oi := { dst := some 42, op := Op.load 46 (Operand.tmp 41), type := 46, pos := "law.go:18", after := #[{ on := 1, ground := Ground.data }], guard := none }) (v := ?_) rfl (by kernel_rfl) (by kernel_rfl) (by kernel_rfl) (fun _ _ _ h => h) (Or.inl ⟨by rfl, ?_⟩) hHeld ?_
      rotate_left
      · intro W_ hSw_
        obtain ⟨q, rfl⟩ := hSw_
        first | (go_simp; done) | (go_simp; with_reducible rfl)
      rotate_left
      try simp only [Act.put, List.setIfInBounds_toArray, List.set_cons_zero, List.set_cons_succ]
      refine wpAnyH_take (i := 3) (oi := { dst := some 43, op := Op.move (Operand.tmp 4), type := 3, pos := "law.go:18", after := #[], guard := none }) (v := ?_) rfl (by kernel_rfl) (by kernel_rfl) (by kernel_rfl) (fun _ _ _ h => h) (Or.inl ⟨by rfl, ?_⟩) hHeld ?_
      rotate_left
      · intro W_ hSw_
        obtain ⟨q, rfl⟩ := hSw_
        first | (go_simp; done) | (go_simp; with_reducible rfl)
      rotate_left
      try simp only [Act.put, List.setIfInBounds_toArray, List.set_cons_zero, List.set_cons_succ]
      refine wpAnyH_take (i := 4) (oi := { dst := some 44, op := Op.indexAddr 46 (Operand.tmp 42) (Operand.tmp 43), type := 0, pos := "law.go:18", after := #[{ on := 2, ground := Ground.data }, { on := 3, ground := Ground.data }], guard := none }) (v := ?_) rfl (by kernel_rfl) (by kernel_rfl) (by kernel_rfl) (fun _ _ _ h => h) (Or.inl ⟨by rfl, ?_⟩) hHeld ?_
      rotate_left
      · intro W_ hSw_
        obtain ⟨q, rfl⟩ := hSw_
        first | (go_simp; done) | (go_simp; with_reducible rfl)
      rotate_left
      try simp only [Act.put, List.setIfInBounds_toArray, List.set_cons_zero, List.set_cons_succ]
      refine wpAnyH_take (i := 5) (oi := { dst := some 45, op := Op.fieldAddr 68 (Operand.tmp 44) 0, type := 0, pos := "law.go:18", after := #[{ on := 4, ground := Ground.data }], guard := none }) (v := ?_) rfl (by kernel_rfl) (by kernel_rfl) (by kernel_rfl) (fun _ _ _ h => h) (Or.inl ⟨by rfl, ?_⟩) hHeld ?_
      rotate_left
      · intro W_ hSw_
        obtain ⟨q, rfl⟩ := hSw_
        first | (go_simp; done) | (go_simp; with_reducible rfl)
      rotate_left
      try simp only [Act.put, List.setIfInBounds_toArray, List.set_cons_zero, List.set_cons_succ]
      refine wpAnyH_take (i := 6) (oi := { dst := some 46, op := Op.load 3 (Operand.tmp 45), type := 3, pos := "law.go:18", after := #[{ on := 5, ground := Ground.data }], guard := none }) (v := ?_) rfl (by kernel_rfl) (by kernel_rfl) (by kernel_rfl) (fun _ _ _ h => h) (Or.inl ⟨by rfl, ?_⟩) hHeld ?_
      rotate_left
      · intro W_ hSw_
        obtain ⟨q, rfl⟩ := hSw_
        first | (go_simp; done) | (go_simp; with_reducible rfl)
      rotate_left
      try simp only [Act.put, List.setIfInBounds_toArray, List.set_cons_zero, List.set_cons_succ]
      refine wpAnyH_take (i := 7) (oi := { dst := some 47, op := Op.fieldAddr 48 (Operand.tmp 1) 4, type := 0, pos := "law.go:18", after := #[], guard := none }) (v := ?_) rfl (by kernel_rfl) (by kernel_rfl) (by kernel_rfl) (fun _ _ _ h => h) (Or.inl ⟨by rfl, ?_⟩) hHeld ?_
      rotate_left
      · intro W_ hSw_
        obtain ⟨q, rfl⟩ := hSw_
        first | (go_simp; done) | (go_simp; with_reducible rfl)
      rotate_left
      try simp only [Act.put, List.setIfInBounds_toArray, List.set_cons_zero, List.set_cons_succ]
      refine wpAnyH_take (i := 8) (oi := { dst := some 48, op := Op.load 46 (Operand.tmp 47), type := 46, pos := "law.go:18", after := #[{ on := 7, ground := Ground.data }], guard := none }) (v := ?_) rfl (by kernel_rfl) (by kernel_rfl) (by kernel_rfl) (fun _ _ _ h => h) (Or.inl ⟨by rfl, ?_⟩) hHeld ?_
      rotate_left
      · intro W_ hSw_
        obtain ⟨q, rfl⟩ := hSw_
        first | (go_simp; done) | (go_simp; with_reducible rfl)
      rotate_left
      try simp only [Act.put, List.setIfInBounds_toArray, List.set_cons_zero, List.set_cons_succ]
      refine wpAnyH_take (i := 9) (oi := { dst := some 49, op := Op.move (Operand.tmp 4), type := 3, pos := "law.go:18", after := #[], guard := none }) (v := ?_) rfl (by kernel_rfl) (by kernel_rfl) (by kernel_rfl) (fun _ _ _ h => h) (Or.inl ⟨by rfl, ?_⟩) hHeld ?_
      rotate_left
      · intro W_ hSw_
        obtain ⟨q, rfl⟩ := hSw_
        first | (go_simp; done) | (go_simp; with_reducible rfl)
      rotate_left
      try simp only [Act.put, List.setIfInBounds_toArray, List.set_cons_zero, List.set_cons_succ]
      refine wpAnyH_take (i := 10) (oi := { dst := some 50, op := Op.indexAddr 46 (Operand.tmp 48) (Operand.tmp 49), type := 0, pos := "law.go:18", after := #[{ on := 8, ground := Ground.data }, { on := 9, ground := Ground.data }], guard := none }) (v := ?_) rfl (by kernel_rfl) (by kernel_rfl) (by kernel_rfl) (fun _ _ _ h => h) (Or.inl ⟨by rfl, ?_⟩) hHeld ?_
      rotate_left
      · intro W_ hSw_
        obtain ⟨q, rfl⟩ := hSw_
        first | (go_simp; done) | (go_simp; with_reducible rfl)
      rotate_left
      try simp only [Act.put, List.setIfInBounds_toArray, List.set_cons_zero, List.set_cons_succ]
      refine wpAnyH_take (i := 11) (oi := { dst := some 51, op := Op.fieldAddr 68 (Operand.tmp 50) 1, type := 0, pos := "law.go:18", after := #[{ on := 10, ground := Ground.data }], guard := none }) (v := ?_) rfl (by kernel_rfl) (by kernel_rfl) (by kernel_rfl) (fun _ _ _ h => h) (Or.inl ⟨by rfl, ?_⟩) hHeld ?_
      rotate_left
      · intro W_ hSw_
        obtain ⟨q, rfl⟩ := hSw_
        first | (go_simp; done) | (go_simp; with_reducible rfl)
      rotate_left
      try simp only [Act.put, List.setIfInBounds_toArray, List.set_cons_zero, List.set_cons_succ]
      refine wpAnyH_take (i := 12) (oi := { dst := some 52, op := Op.load 59 (Operand.tmp 51), type := 59, pos := "law.go:18", after := #[{ on := 11, ground := Ground.data }], guard := none }) (v := ?_) rfl (by kernel_rfl) (by kernel_rfl) (by kernel_rfl) (fun _ _ _ h => h) (Or.inl ⟨by rfl, ?_⟩) hHeld ?_
      rotate_left
      · intro W_ hSw_
        obtain ⟨q, rfl⟩ := hSw_
        first | (go_simp; done) | (go_simp; with_reducible rfl)
      rotate_left
      try simp only [Act.put, List.setIfInBounds_toArray, List.set_cons_zero, List.set_cons_succ]
      refine wpAnyH_take (i := 13) (oi := { dst := some 53, op := Op.fieldAddr 48 (Operand.tmp 1) 4, type := 0, pos := "law.go:18", after := #[], guard := none }) (v := ?_) rfl (by kernel_rfl) (by kernel_rfl) (by kernel_rfl) (fun _ _ _ h => h) (Or.inl ⟨by rfl, ?_⟩) hHeld ?_
      rotate_left
      · intro W_ hSw_
        obtain ⟨q, rfl⟩ := hSw_
        first | (go_simp; done) | (go_simp; with_reducible rfl)
      rotate_left
      try simp only [Act.put, List.setIfInBounds_toArray, List.set_cons_zero, List.set_cons_succ]
      refine wpAnyH_take (i := 14) (oi := { dst := some 54, op := Op.load 46 (Operand.tmp 53), type := 46, pos := "law.go:18", after := #[{ on := 13, ground := Ground.data }], guard := none }) (v := ?_) rfl (by kernel_rfl) (by kernel_rfl) (by kernel_rfl) (fun _ _ _ h => h) (Or.inl ⟨by rfl, ?_⟩) hHeld ?_
      rotate_left
      · intro W_ hSw_
        obtain ⟨q, rfl⟩ := hSw_
        first | (go_simp; done) | (go_simp; with_reducible rfl)
      rotate_left
      try simp only [Act.put, List.setIfInBounds_toArray, List.set_cons_zero, List.set_cons_succ]
      refine wpAnyH_take (i := 15) (oi := { dst := some 55, op := Op.move (Operand.tmp 4), type := 3, pos := "law.go:18", after := #[], guard := none }) (v := ?_) rfl (by kernel_rfl) (by kernel_rfl) (by kernel_rfl) (fun _ _ _ h => h) (Or.inl ⟨by rfl, ?_⟩) hHeld ?_
      rotate_left
      · intro W_ hSw_
        obtain ⟨q, rfl⟩ := hSw_
        first | (go_simp; done) | (go_simp; with_reducible rfl)
      rotate_left
      try simp only [Act.put, List.setIfInBounds_toArray, List.set_cons_zero, List.set_cons_succ]
      refine wpAnyH_take (i := 16) (oi := { dst := some 56, op := Op.indexAddr 46 (Operand.tmp 54) (Operand.tmp 55), type := 0, pos := "law.go:18", after := #[{ on := 14, ground := Ground.data }, { on := 15, ground := Ground.data }], guard := none }) (v := ?_) rfl (by kernel_rfl) (by kernel_rfl) (by kernel_rfl) (fun _ _ _ h => h) (Or.inl ⟨by rfl, ?_⟩) hHeld ?_
      rotate_left
      · intro W_ hSw_
        obtain ⟨q, rfl⟩ := hSw_
        first | (go_simp; done) | (go_simp; with_reducible rfl)
      rotate_left
      try simp only [Act.put, List.setIfInBounds_toArray, List.set_cons_zero, List.set_cons_succ]
      refine wpAnyH_take (i := 17) (oi := { dst := some 57, op := Op.fieldAddr 68 (Operand.tmp 56) 1, type := 0, pos := "law.go:18", after := #[{ on := 16, ground := Ground.data }], guard := none }) (v := ?_) rfl (by kernel_rfl) (by kernel_rfl) (by kernel_rfl) (fun _ _ _ h => h) (Or.inl ⟨by rfl, ?_⟩) hHeld ?_
      rotate_left
      · intro W_ hSw_
        obtain ⟨q, rfl⟩ := hSw_
        first | (go_simp; done) | (go_simp; with_reducible rfl)
      rotate_left
      try simp only [Act.put, List.setIfInBounds_toArray, List.set_cons_zero, List.set_cons_succ]
      refine wpAnyH_take (i := 18) (oi := { dst := some 58, op := Op.load 59 (Operand.tmp 57), type := 59, pos := "law.go:18", after := #[{ on := 17, ground := Ground.data }], guard := none }) (v := ?_) rfl (by kernel_rfl) (by kernel_rfl) (by kernel_rfl) (fun _ _ _ h => h) (Or.inl ⟨by rfl, ?_⟩) hHeld ?_
      rotate_left
      · intro W_ hSw_
        obtain ⟨q, rfl⟩ := hSw_
        first | (go_simp; done) | (go_simp; with_reducible rfl)
      rotate_left
      try simp only [Act.put, List.setIfInBounds_toArray, List.set_cons_zero, List.set_cons_succ]
      refine wpAnyH_take (i := 19) (oi := { dst := some 59, op := Op.call { callee := Callee.builtin Builtin.len, args := #[Operand.tmp 58], argTypes := #[59] }, type := 3, pos := "law.go:18", after := #[{ on := 18, ground := Ground.data }], guard := none }) (v := ?_) rfl (by kernel_rfl) (by kernel_rfl) (by kernel_rfl) (fun _ _ _ h => h) (Or.inl ⟨by rfl, ?_⟩) hHeld ?_
      rotate_left
      · intro W_ hSw_
        obtain ⟨q, rfl⟩ := hSw_
        first | (go_simp; done) | (go_simp; with_reducible rfl)
      rotate_left
      try simp only [Act.put, List.setIfInBounds_toArray, List.set_cons_zero, List.set_cons_succ]
      refine wpAnyH_take (i := 20) (oi := { dst := some 60, op := Op.call { callee := Callee.builtin Builtin.min, args := #[Operand.tmp 59, Operand.const (Value.int IntKind.i64 10)], argTypes := #[3, 3] }, type := 3, pos := "law.go:18", after := #[{ on := 19, ground := Ground.data }], guard := none }) (v := ?_) rfl (by kernel_rfl) (by kernel_rfl) (by kernel_rfl) (fun _ _ _ h => h) (Or.inl ⟨by rfl, ?_⟩) hHeld ?_
      rotate_left
      · intro W_ hSw_
        obtain ⟨q, rfl⟩ := hSw_
        first | (go_simp; done) | (go_simp; with_reducible rfl)
      rotate_left
      try simp only [Act.put, List.setIfInBounds_toArray, List.set_cons_zero, List.set_cons_succ]
      refine wpAnyH_take (i := 21) (oi := { dst := some 61, op := Op.slice 59 (Operand.tmp 52) none (some (Operand.tmp 60)) none, type := 59, pos := "law.go:18", after := #[{ on := 12, ground := Ground.data }, { on := 20, ground := Ground.data }], guard := none }) (v := ?_) rfl (by kernel_rfl) (by kernel_rfl) (by kernel_rfl) (fun _ _ _ h => h) (Or.inl ⟨by rfl, ?_⟩) hHeld ?_
      rotate_left
      · intro W_ hSw_
        obtain ⟨q, rfl⟩ := hSw_
        first | (go_simp; done) | (go_simp; with_reducible rfl)
      rotate_left
      try simp only [Act.put, List.setIfInBounds_toArray, List.set_cons_zero, List.set_cons_succ]
      refine wpAnyH_take (i := 22) (oi := { dst := some 62, op := Op.build 68 #[(0, Operand.tmp 46), (1, Operand.tmp 61)], type := 68, pos := "law.go:18", after := #[{ on := 6, ground := Ground.data }, { on := 21, ground := Ground.data }], guard := none }) (v := ?_) rfl (by kernel_rfl) (by kernel_rfl) (by kernel_rfl) (fun _ _ _ h => h) (Or.inl ⟨by rfl, ?_⟩) hHeld ?_
      rotate_left
      · intro W_ hSw_
        obtain ⟨q, rfl⟩ := hSw_
        first | (go_simp; done) | (go_simp; with_reducible rfl)
      rotate_left
      try simp only [Act.put, List.setIfInBounds_toArray, List.set_cons_zero, List.set_cons_succ]
      refine wpAnyH_ready (rs := [23]) (by kernel_rfl) (by simp) ?_
      refine AllReadyH.cons (o := { dst := some 63, op := Op.buildSlice 46 1 #[(0, Operand.tmp 62)], type := 46, pos := "law.go:18", after := #[{ on := 22, ground := Ground.data }], guard := none }) rfl (fun K hK => ?_) AllReadyH.nil
      have bs0 := bsB_is (cuM y) Y
      go_simp
      clear hHeld
      refine hK.out _ _ ⟨⟨_, B0.out.alloc B0.out.size _⟩, rfl⟩ (fun hHeld => ?_)
      clear hK K
      try simp only [Act.put, List.setIfInBounds_toArray, List.set_cons_zero, List.set_cons_succ]
      refine wpAnyH_ready (rs := [24]) (by kernel_rfl) (by simp) ?_
      refine AllReadyH.cons (o := { dst := some 64, op := Op.call { callee := Callee.builtin Builtin.append, args := #[Operand.tmp 40, Operand.tmp 63], argTypes := #[46, 46] }, type := 46, pos := "law.go:18", after := #[{ on := 0, ground := Ground.data }, { on := 23, ground := Ground.data }], guard := none }) rfl (fun K hK => ?_) AllReadyH.nil
      go_simp
      clear hHeld
      refine hK.out _ _ ⟨⟨_, G.out.2.2⟩, rfl⟩ (fun hHeld => ?_)
      clear hK K
      try simp only [Act.put, List.setIfInBounds_toArray, List.set_cons_zero, List.set_cons_succ]
      refine wpAnyH_take (i := 25) (oi := { dst := some 3, op := Op.assign (Operand.tmp 64), type := 46, pos := "law.go:18", after := #[{ on := 24, ground := Ground.data }, { on := 24, ground := Ground.chain }, { on := 0, ground := Ground.phase }, { on := 1, ground := Ground.phase }, { on := 2, ground := Ground.phase }, { on := 3, ground := Ground.phase }, { on := 4, ground := Ground.phase }, { on := 5, ground := Ground.phase }, { on := 6, ground := Ground.phase }, { on := 7, ground := Ground.phase }, { on := 8, ground := Ground.phase }, { on := 9, ground := Ground.phase }, { on := 10, ground := Ground.phase }, { on := 11, ground := Ground.phase }, { on := 12, ground := Ground.phase }, { on := 13, ground := Ground.phase }, { on := 14, ground := Ground.phase }, { on := 15, ground := Ground.phase }, { on := 16, ground := Ground.phase }, { on := 17, ground := Ground.phase }, { on := 18, ground := Ground.phase }, { on := 19, ground := Ground.phase }, { on := 20, ground := Ground.phase }, { on := 21, ground := Ground.phase }, { on := 22, ground := Ground.phase }, { on := 23, ground := Ground.phase }, { on := 24, ground := Ground.phase }], guard := none }) (v := ?_) rfl (by kernel_rfl) (by kernel_rfl) (by kernel_rfl) (fun _ _ _ h => h) (Or.inl ⟨by rfl, ?_⟩) hHeld ?_
      rotate_left
      · intro W_ hSw_
        obtain ⟨q, rfl⟩ := hSw_
        first | (go_simp; done) | (go_simp; with_reducible rfl)
      rotate_left
      try simp only [Act.put, List.setIfInBounds_toArray, List.set_cons_zero, List.set_cons_succ]
      refine wpAnyH_done (by kernel_rfl) ?_ _
      refine NoPanic.normal ?_
      clear hHeld
      clear d9 l0 l1 n3 bb m3 m3' aU
      go_wp2
      go_roundw
      case rel => exact ⟨i + 1, acc ++ [cuM y], by have := HI.out; omega, by have := HI.out; omega, by go_num, by rw [List.length_append, J.out.1]; rfl, G.out.1, G.out.2.1, G.out.2.2⟩
      case measure => have := HI.out; simp [intOf]; omega
    · have E : Hid ((p.bs.take i).map shM = (p.bs.take 12).map shM) := by
        by_cases h6 : i < 12
        · have hl := HL.out.2
          rw [List.take_of_length_le (l := p.bs) (i := i) (by omega), List.take_of_length_le (l := p.bs) (i := 12) (by omega)]
          exact rfl
        · have : i = 12 := by omega
          subst this
          exact rfl
      obtain ⟨V4, s4, g4v, g4⟩ := J.out.2.2.2.2.var.stB u3 J.out.2.1.slv.one
      have T4 : Hid (TwS w V4 ⟨x.o, .slice ka (k0) kc, .slice ma (k1) mc, .slice ca (k2) cc, u3⟩) := J.out.2.2.2.2.set g4v g4
      have l4 := T4.out.var.ld
      have hsz : w.heap.size + 2 ≤ V3.heap.size := TT.out.siz
      have O4 : Hid (Own eB V4 V3.heap.size u3 acc) := J.out.2.1.kept g4 (by omega)
      have one4 : ∀ v ∈ (Pr.mk x.o (.slice ka (k0) kc) (.slice ma (k1) mc) (.slice ca (k2) cc) u3).cs.toList, v.oneCell' = true := by
        have i : ∀ k n, (Value.int k n).oneCell' = true := fun _ _ => rfl
        have j : ∀ a n c, (Value.slice a n c).oneCell' = true := fun _ _ _ => rfl
        refine one_of ?_
        simp [Pr.cs, i, j, J.out.2.1.slv.one]
      obtain ⟨Z, sZ, pZ, gZ⟩ := T4.out.res.st (y := ⟨x.o, .slice ka (k0) kc, .slice ma (k1) mc, .slice ca (k2) cc, u3⟩) one4
      have bZ : Below w.heap.size w Z := gro T4.out.bel gZ (by omega) T4.out.bel.size
      have OZ : Own eB Z V3.heap.size u3 acc := O4.out.kept gZ (by omega)
      have G : Hid (PrAt Z (w.heap.size + 1) ⟨x.o, .slice ka k0 kc, .slice ma k1 mc, .slice ca k2 cc, u3⟩ ∧ FewK w0 Z w.heap.size ⟨x.o, .slice ka k0 kc, .slice ma k1 mc, .slice ca k2 cc, u3⟩ (fewP p) ∧ Below w.heap.size w Z) :=
        ⟨pZ, ⟨HO.out.1, HO.out.2, (by rw [← HK.out.1]; exact (H.out.1.cutM kK 10).slv), (by rw [← HK.out.2.1]; exact (H.out.2.1.cutM kM 12).slv), (by rw [← HK.out.2.2]; exact (H.out.2.2.1.cutM kC 12).slv), acc, OZ.mono (by omega), by show Mem w0 acc ((p.bs.take 12).map shM); rw [← E.out]; exact J.out.2.2.1⟩, bZ⟩
      clear g4v g4 pZ gZ bZ OZ one4 hsz
      by_cases h1 : i < bn
      · have hi1 : (i : Int) < (bn : Int) := by omega
        have hi2 : ¬ (i : Int) < 12 := by omega
        clear hit
        go_wp2
        refine bodyPost_ret (results_row rtP Try.results9 _ _ _ _ rfl G.out.1 rfl) rfl ?_
        exact ⟨⟨_, rfl, G.out.2.1⟩, G.out.2.2⟩
      · have hi1 : ¬ (i : Int) < (bn : Int) := by omega
        clear hit
        go_wp2
        refine bodyPost_ret (results_row rtP Try.results9 _ _ _ _ rfl G.out.1 rfl) rfl ?_
        exact ⟨⟨_, rfl, G.out.2.1⟩, G.out.2.2⟩
theorem few_any (x : Pr) (p : Pv) (w : World) (h : IsPv w x p) :
    Calls Try.prog 9 #[.agg x.cs] w fun r w' => (∃ y : Pr, r = .returned (.agg y.cs) ∧ IsPv w' y (fewP p)) ∧ Below w.heap.size w w' :=
  (few_at x p w w h (Below.refl _ _)).mono fun r w' ⟨⟨y, hr, hy⟩, hb⟩ => ⟨⟨y, hr, hy.pv hb⟩, hb⟩
end Go.Proofs.Ytcejfkkhmlebdaa
