/-
  What stands besides: variables stored into, parts of slices, rows the same, rows copied, what is asked. Walks, each for every input.
-/
import Derived.Test.YtcejfkkhmlebdaaPd
namespace Go.Proofs.Ytcejfkkhmlebdaa
set_option linter.unusedVariables false
set_option maxRecDepth 4000
set_option linter.unusedSimpArgs false
open Go.RowKit
attribute [local go_sem ↓] ldM stM ldC stC ldB stB ldP stP apI bsI
attribute [local go_sem] bsI_is bsI2_is

theorem Calls.ret_eq {P : Program} {f : FuncId} {args : Array Value} {w : World} {u v : Value} {Q : World → Prop} (e : u = v) (h : Calls P f args w fun r w' => r = .returned u ∧ Q w') : Calls P f args w fun r w' => r = .returned v ∧ Q w' := by subst e; exact h
theorem ret_b {P : Program} {f : FuncId} {args : Array Value} {w : World} {u v : Bool} {Q : World → Prop} (h : Calls P f args w fun r w' => r = .returned (.bool u) ∧ Q w') (e : u = v) : Calls P f args w fun r w' => r = .returned (.bool v) ∧ Q w' := Calls.ret_eq (congrArg Value.bool e) h
theorem ret_i {P : Program} {f : FuncId} {args : Array Value} {w : World} {u v : Int} {Q : World → Prop} (h : Calls P f args w fun r w' => r = .returned (.int .i64 u) ∧ Q w') (e : u = v) : Calls P f args w fun r w' => r = .returned (.int .i64 v) ∧ Q w' := Calls.ret_eq (congrArg (Value.int .i64) e) h
theorem Own.zero {α : Type} {e : El α} (k : e.Ok) (w : World) : Own e (w.alloc (.cells #[] e.ty)) w.heap.size (.slice (some ⟨w.heap.size, 0, none⟩) 0 0) [] := by
  have h : PAt e (w.alloc (.cells #[] e.ty)) w.heap.size 0 ([] : List α) := ⟨#[], RvAt.new _ _ _, Nat.le_refl _, by unfold maxLen; omega, by simp, by simp [El.fl]⟩
  exact h.own k (Nat.le_refl _)
theorem nyI (w : World) : (binOp .eql 59 (.slice none 0 0) (.slice none 0 0)).run Try.prog w = .ok (.bool true) w := by kernel_rfl
theorem nnI (x : Addr) (n c : Nat) (w : World) : (binOp .eql 59 (.slice (some x) n c) (.slice none 0 0)).run Try.prog w = .ok (.bool false) w := by kernel_rfl
theorem bzI (w : World) : (bsS 59 0 #[]).run Try.prog w = .ok (.slice (some ⟨w.heap.size, 0, none⟩) 0 0) (w.alloc (.cells #[] 3)) := by kernel_rfl
section
attribute [local go_sem] nyI nnI bzI
set_option maxHeartbeats 2000000 in
theorem cloneI_any (a : Option Addr) (n c : Nat) (l : List Int) (w : World) (hs : SlAt eI w a n c l) (hn : n ≤ 1000) :
    Calls Try.prog 40 #[.slice a n c] w fun r w' => ∃ v, r = .returned v ∧ Own eI w' w.heap.size v l ∧ Below w.heap.size w w' := by
  cases a with
  | none =>
    obtain ⟨rfl, rfl⟩ := hs.nil rfl
    have hl : l = [] := List.eq_nil_of_length_eq_zero hs.len
    subst hl
    go_enter Try.func40, Try.ntmps40
    go_wp2
    go_ret
    exact ⟨_, rfl, Own.nil _ _, Below.refl _ _⟩
  | some x =>
    obtain ⟨W1, hW1⟩ : ∃ W1, w.alloc (.cells #[] 3) = W1 := ⟨_, rfl⟩
    have b1 : Below w.heap.size w W1 := by rw [← hW1]; exact (Below.refl _ _).alloc (Nat.le_refl _) _
    have o1 : Own eI W1 w.heap.size (.slice (some ⟨w.heap.size, 0, none⟩) 0 0) [] := by rw [← hW1]; exact Own.zero kI w
    obtain ⟨v, W2, ap0, o2, g2⟩ := o1.app kI (hs.below b1) (by have := hs.len; simp; omega) b1.size 59
    have ap : (apS 59 59 #[.slice (some ⟨w.heap.size, 0, none⟩) 0 0, .slice (some x) n c]).run Try.prog W1 = .ok v W2 := ap0
    rw [List.nil_append] at o2
    have b2 : Below w.heap.size w W2 := b1.trans (below_of_grown g2 b1.size (fun j e => by cases e; exact Nat.le_refl _))
    have F : Hid (Own eI W2 w.heap.size v l ∧ Below w.heap.size w W2) := ⟨o2, b2⟩
    clear hs b1 o1 o2 g2 b2 hn ap0
    go_enter Try.func40, Try.ntmps40
    go_wp2
    go_ret
    exact ⟨v, rfl, F.out.1, F.out.2⟩
end
set_option maxHeartbeats 2000000 in
theorem pts_any (x : Pr) (p : Pv) (vid : Int) (w : World) (h : IsPv w x p) (hl : ∀ m ∈ p.bs, m.ps.length ≤ 1000) :
    Calls Try.prog 29 #[.agg x.cs, .int .i64 vid] w fun r w' => ∃ v, r = .returned (.tuple #[v, .bool (pts p vid).isSome]) ∧ Own eI w' w.heap.size v ((pts p vid).getD []) ∧ Below w.heap.size w w' := by
  obtain ⟨rr, ⟨a, n, c, hv, hs⟩, hm⟩ := h.b
  obtain ⟨W, hW, r0, bW, zW⟩ := PrAt.new w x
  have c7 := r0.b
  rw [hv] at c7
  have hnn := hs.int
  obtain ⟨R, hR⟩ : ∃ z, pts p vid = z := ⟨_, rfl⟩
  have H : Hid (SlAt eB W a n c rr ∧ Mem W rr p.bs ∧ rr.length = n ∧ Below w.heap.size w W ∧ PrAt W w.heap.size x ∧ x.b = .slice a n c ∧ ∀ m ∈ p.bs, m.ps.length ≤ 1000) := ⟨hs.below bW, hm.below bW, hs.len, bW, r0, hv, hl⟩
  have HR : Hid (pts p vid = R) := hR
  rw [hR]
  clear hs bW zW r0 h hv hR hm hl
  go_enter Try.func29, Try.ntmps29
  go_wp2_with fail
  go_loopw [11] (fun v wr => ∃ i : Nat, i ≤ n ∧ v = .int .i64 i ∧ R = ptl vid (p.bs.drop i) ∧ Below W.heap.size W wr) (fun v _ => n - (intOf v).toNat)
  case atStart => exact ⟨0, by omega, rfl, HR.out.symm, Below.refl _ _⟩
  case round =>
    obtain ⟨i, hi, rfl, hf, hB⟩ := hrel
    have J : Hid (R = ptl vid (p.bs.drop i) ∧ Below W.heap.size W wr) := ⟨hf, hB⟩
    have hi0 : (0 : Int) ≤ (i : Int) := by omega
    clear c7
    have c7 := (H.out.2.2.2.2.1.below hB).b
    rw [H.out.2.2.2.2.2.1] at c7
    by_cases hit : i < n
    · have hi1 : (i : Int) < (n : Int) := by omega
      obtain ⟨b, o, rfl⟩ := H.out.1.some' (by omega)
      obtain ⟨y, z, hy, hz, hvz, hps⟩ := H.out.2.1.get (i := i) (by rw [← H.out.2.1.len, H.out.2.2.1]; exact hit)
      have l1 := lB (H.out.1.below hB) hy
      obtain ⟨V, sV, mV, bV⟩ := MrAt.put wr y
      have k0 := mV.c0
      have k1 := mV.c1
      have HX : Hid (p.bs[i]? = some z ∧ y.v = z.v ∧ SlAt eI V y.a y.n y.c z.ps ∧ Below W.heap.size W V) := ⟨hz, hvz, (hps.below J.out.2).below bV, below_over J.out.2 bV⟩
      clear hf hB hy hz hvz hps mV bV
      by_cases e0 : y.v = vid
      · have q0 : (y.v == vid) = true := by simp [e0]
        have E : Hid (R = some z.ps) := by rw [J.out.1, ptl_yes HX.out.1 (by rw [← HX.out.2.1]; exact e0)]; exact rfl
        have hn : y.n ≤ 1000 := by rw [← HX.out.2.2.1.len]; exact H.out.2.2.2.2.2.2 z (List.mem_of_getElem? HX.out.1)
        clear e0
        go_wp2_with fail
        refine (cloneI_any y.a y.n y.c z.ps _ HX.out.2.2.1 hn).mono ?_
        rintro _ X ⟨v, rfl, oX, bX⟩
        have K : Hid (Own eI X V.heap.size v z.ps ∧ Below V.heap.size V X) := ⟨oX, bX⟩
        clear oX bX hn
        go_wp2
        go_returns
        exact ⟨_, by rw [E.out]; rfl, by rw [E.out]; exact K.out.1.mono (below_over H.out.2.2.2.1 HX.out.2.2.2).size, below_over H.out.2.2.2.1 (below_over HX.out.2.2.2 K.out.2)⟩
      · have q0 : (y.v == vid) = false := by simp [e0]
        have E : Hid (R = ptl vid (p.bs.drop (i + 1))) := by rw [J.out.1, ptl_no HX.out.1 (by rw [← HX.out.2.1]; exact e0)]; exact rfl
        clear e0
        go_wp2
        go_roundw
        case rel => exact ⟨i + 1, by omega, by go_num, E.out, HX.out.2.2.2⟩
        case measure => simp [intOf]; omega
    · have hin : i = n := by omega
      subst hin
      have hi1 : ¬ (i : Int) < (i : Int) := by omega
      have E : Hid (R = none) := by rw [J.out.1, ptl_end (by rw [← H.out.2.1.len, H.out.2.2.1]; exact Nat.le_refl _)]; exact rfl
      clear hf hB
      go_wp2
      go_returns
      exact ⟨_, by rw [E.out]; rfl, by rw [E.out]; exact Own.nil _ _, below_over H.out.2.2.2.1 J.out.2⟩
set_option maxHeartbeats 2000000 in
theorem car_any (x : Pr) (p : Pv) (isid : Int) (w : World) (h : IsPv w x p) :
    Calls Try.prog 28 #[.agg x.cs, .int .i64 isid] w fun r w' => r = .returned (.tuple #[.int .i64 (car p isid).1, .bool (car p isid).2]) ∧ Below w.heap.size w w' := by
  obtain ⟨a, n, c, hv, hs⟩ := h.c
  obtain ⟨W, hW, r0, bW, zW⟩ := PrAt.new w x
  have c7 := r0.c
  rw [hv] at c7
  have hnn := hs.int
  obtain ⟨R, hR⟩ : ∃ z, car p isid = z := ⟨_, rfl⟩
  have H : Hid (SlAt eC W a n c p.cs ∧ p.cs.length = n ∧ Below w.heap.size w W ∧ PrAt W w.heap.size x ∧ x.c = .slice a n c) := ⟨hs.below bW, hs.len, bW, r0, hv⟩
  have HR : Hid (car p isid = R) := hR
  rw [hR]
  clear hs bW zW r0 h hv hR
  go_enter Try.func28, Try.ntmps28
  go_wp2_with fail
  go_loopw [11] (fun v13 wr => ∃ i : Nat, i ≤ n ∧ v13 = .int .i64 i ∧ R = fnd (fun m => m.s == isid) (fun m => m.v) (p.cs.drop i) ∧ Below W.heap.size W wr) (fun v13 _ => n - (intOf v13).toNat)
  case atStart => exact ⟨0, by omega, rfl, HR.out.symm, Below.refl _ _⟩
  case round =>
    obtain ⟨i, hi, rfl, hf, hB⟩ := hrel
    have J : Hid (R = fnd (fun m => m.s == isid) (fun m => m.v) (p.cs.drop i) ∧ Below W.heap.size W wr) := ⟨hf, hB⟩
    have hi0 : (0 : Int) ≤ (i : Int) := by omega
    clear c7
    have c7 := (H.out.2.2.2.1.below hB).c
    rw [H.out.2.2.2.2] at c7
    by_cases hit : i < n
    · have hi1 : (i : Int) < (n : Int) := by omega
      obtain ⟨b, o, rfl⟩ := H.out.1.some' (by omega)
      obtain ⟨y, hx⟩ := lt_nth (l := p.cs) (i := i) (by rw [H.out.2.1]; exact hit)
      have l1 := lC (H.out.1.below hB) hx
      obtain ⟨V, sV, mV, bV⟩ := CrAt.put wr y
      have k0 := mV.c0
      have k1 := mV.c1
      have HX : Hid (p.cs[i]? = some y) := hx
      clear hf hB hx mV
      by_cases e0 : y.s = isid
      · have q0 : (y.s == isid) = true := by simp [e0]
        have Q0 : Hid (y.s = isid) := e0
        clear e0
        have E : Hid (R = (y.v, true)) := by rw [J.out.1, fnd_yes HX.out (by simp [Q0.out])]; exact rfl
        go_wp2
        go_returns
        exact ⟨by rw [E.out]; rfl, below_over H.out.2.2.1 (below_over J.out.2 bV)⟩
      · have q0 : (y.s == isid) = false := by simp [e0]
        have Q0 : Hid (¬ y.s = isid) := e0
        clear e0
        have E : Hid (R = fnd (fun m => m.s == isid) (fun m => m.v) (p.cs.drop (i + 1))) := by rw [J.out.1, fnd_no HX.out (by simp [Q0.out])]; exact rfl
        go_wp2
        go_roundw
        case rel => exact ⟨i + 1, by omega, by go_num, E.out, (below_over J.out.2 bV)⟩
        case measure => simp [intOf]; omega
    · have hin : i = n := by omega
      subst hin
      have hi1 : ¬ (i : Int) < (i : Int) := by omega
      have E : Hid (R = (0, false)) := by rw [J.out.1, fnd_end (by rw [H.out.2.1]; exact Nat.le_refl _)]; exact rfl
      clear hf hB
      go_wp2
      go_returns
      exact ⟨by rw [E.out]; rfl, below_over H.out.2.2.1 J.out.2⟩
/-- A part of a slice. -/
def slS (t : TypeId) (x : Value) (lo hi mx : Option Value) : Sem Value := Instr.sliceAt t x lo hi mx
theorem SlAt.cut {α : Type} {e : El α} (k : e.Ok) {W : World} {a : Option Addr} {n c : Nat} {l : List α} (h : SlAt e W a n c l) {m : Nat} (hm : m ≤ n) : SlAt e W a m c (l.take m) := by
  refine ⟨by rw [List.length_take, h.len]; omega, by have := h.cap; omega, h.max, fun e => ⟨by have := (h.nil e).1; omega, (h.nil e).2⟩, fun x hx h0 => ?_⟩
  obtain ⟨b, o, e', hc⟩ := h.cells x hx (by omega)
  refine ⟨b, o, e', fun j u hj => hc j u ?_⟩
  rw [El.fl_get k] at hj ⊢
  rw [List.getElem?_take] at hj
  split at hj
  · exact hj
  · cases hj
theorem slI (x : Value) (lo hi mx : Option Value) : Instr.sliceAt 59 x lo hi mx = slS 59 x lo hi mx := rfl
theorem slI_cut (a : Option Addr) (n c m : Nat) (hm : m ≤ n) (hc : n ≤ c) (V : World) : (slS 59 (.slice a n c) none (some (.int .i64 m)) none).run Try.prog V = .ok (.slice a m c) V := by
  have hin : (m : Int) ≤ (c : Int) := by omega
  have hz := Try.sizeOf3
  have hu : Try.prog.underlying 59 = some (.slice 3) := Try.underlying59
  unfold slS
  simp only [Instr.sliceAt, Sem.run_bind, run_underlying hu, Result.andThen_ok]
  simp only [Instr.slice, Sem.run_bind, run_underlying hu, Result.andThen_ok, Instr.sliceBounds, Sem.run_pure]
  rw [run_sliceBound V .i64 (m : Int) c _ (by omega) hin]
  simp only [Result.andThen_ok, Sem.run_pure, hz V, Int.toNat_natCast]
  cases a <;> simp [Addr.add]
theorem slK (x : Value) (lo hi mx : Option Value) : Instr.sliceAt 43 x lo hi mx = slS 43 x lo hi mx := rfl
theorem slK_cut (a : Option Addr) (n c m : Nat) (hm : m ≤ n) (hc : n ≤ c) (V : World) : (slS 43 (.slice a n c) none (some (.int .i64 m)) none).run Try.prog V = .ok (.slice a m c) V := by
  have hin : (m : Int) ≤ (c : Int) := by omega
  have hz := Try.sizeOf91
  have hu : Try.prog.underlying 43 = some (.slice 91) := Try.underlying43
  unfold slS
  simp only [Instr.sliceAt, Sem.run_bind, run_underlying hu, Result.andThen_ok]
  simp only [Instr.slice, Sem.run_bind, run_underlying hu, Result.andThen_ok, Instr.sliceBounds, Sem.run_pure]
  rw [run_sliceBound V .i64 (m : Int) c _ (by omega) hin]
  simp only [Result.andThen_ok, Sem.run_pure, hz V, Int.toNat_natCast]
  cases a <;> simp [Addr.add]
theorem slM (x : Value) (lo hi mx : Option Value) : Instr.sliceAt 44 x lo hi mx = slS 44 x lo hi mx := rfl
theorem slM_cut (a : Option Addr) (n c m : Nat) (hm : m ≤ n) (hc : n ≤ c) (V : World) : (slS 44 (.slice a n c) none (some (.int .i64 m)) none).run Try.prog V = .ok (.slice a m c) V := by
  have hin : (m : Int) ≤ (c : Int) := by omega
  have hz := Try.sizeOf100
  have hu : Try.prog.underlying 44 = some (.slice 100) := Try.underlying44
  unfold slS
  simp only [Instr.sliceAt, Sem.run_bind, run_underlying hu, Result.andThen_ok]
  simp only [Instr.slice, Sem.run_bind, run_underlying hu, Result.andThen_ok, Instr.sliceBounds, Sem.run_pure]
  rw [run_sliceBound V .i64 (m : Int) c _ (by omega) hin]
  simp only [Result.andThen_ok, Sem.run_pure, hz V, Int.toNat_natCast]
  cases a <;> simp [Addr.add]
theorem slC (x : Value) (lo hi mx : Option Value) : Instr.sliceAt 45 x lo hi mx = slS 45 x lo hi mx := rfl
theorem slC_cut (a : Option Addr) (n c m : Nat) (hm : m ≤ n) (hc : n ≤ c) (V : World) : (slS 45 (.slice a n c) none (some (.int .i64 m)) none).run Try.prog V = .ok (.slice a m c) V := by
  have hin : (m : Int) ≤ (c : Int) := by omega
  have hz := Try.sizeOf70
  have hu : Try.prog.underlying 45 = some (.slice 70) := Try.underlying45
  unfold slS
  simp only [Instr.sliceAt, Sem.run_bind, run_underlying hu, Result.andThen_ok]
  simp only [Instr.slice, Sem.run_bind, run_underlying hu, Result.andThen_ok, Instr.sliceBounds, Sem.run_pure]
  rw [run_sliceBound V .i64 (m : Int) c _ (by omega) hin]
  simp only [Result.andThen_ok, Sem.run_pure, hz V, Int.toNat_natCast]
  cases a <;> simp [Addr.add]
theorem Own.kept {α : Type} {e : El α} {W W' : World} {B g : Nat} {v : Value} {l : List α} (h : Own e W B v l) (hg : W.grownBy W' (some g)) (hl : g < B) : Own e W' B v l := by
  refine h.keptBut hg ?_
  cases hv : v.ownBlock with
  | none => exact Or.inl rfl
  | some k =>
    refine Or.inr fun e => ?_
    cases e
    have := (h.blk g hv).1
    omega
theorem PrAt.stK {W : World} {b : Nat} {x : Pr} (h : PrAt W b x) (v : Value) (hv : v.oneCell' = true) : ∃ V, (stS 43 (.pointer (some ⟨b, 6, none⟩)) v).run Try.prog W = .ok () V ∧ PrAt V b { x with k := v } ∧ W.grownBy V (some b) := ⟨_, RvAt.st1 h infoKs (by show 6 < 10; omega) hv, RvAt.set h, grown_row _ _ _⟩
theorem PrAt.stM {W : World} {b : Nat} {x : Pr} (h : PrAt W b x) (v : Value) (hv : v.oneCell' = true) : ∃ V, (stS 44 (.pointer (some ⟨b, 7, none⟩)) v).run Try.prog W = .ok () V ∧ PrAt V b { x with m := v } ∧ W.grownBy V (some b) := ⟨_, RvAt.st1 h infoMs (by show 7 < 10; omega) hv, RvAt.set h, grown_row _ _ _⟩
theorem PrAt.stC {W : World} {b : Nat} {x : Pr} (h : PrAt W b x) (v : Value) (hv : v.oneCell' = true) : ∃ V, (stS 45 (.pointer (some ⟨b, 8, none⟩)) v).run Try.prog W = .ok () V ∧ PrAt V b { x with c := v } ∧ W.grownBy V (some b) := ⟨_, RvAt.st1 h infoCs (by show 8 < 10; omega) hv, RvAt.set h, grown_row _ _ _⟩
theorem PrAt.stB {W : World} {b : Nat} {x : Pr} (h : PrAt W b x) (v : Value) (hv : v.oneCell' = true) : ∃ V, (stS 46 (.pointer (some ⟨b, 9, none⟩)) v).run Try.prog W = .ok () V ∧ PrAt V b { x with b := v } ∧ W.grownBy V (some b) := ⟨_, RvAt.st1 h infoBs (by show 9 < 10; omega) hv, RvAt.set h, grown_row _ _ _⟩
theorem PrAt.st {W : World} {b : Nat} {x y : Pr} (h : PrAt W b x) (hy : ∀ v ∈ y.cs.toList, v.oneCell' = true) : ∃ V, (stS 48 (.pointer (some ⟨b, 0, none⟩)) (.agg y.cs)).run Try.prog W = .ok () V ∧ PrAt V b y ∧ W.grownBy V (some b) := ⟨_, RvAt.st rtP h rfl rfl hy, RvAt.set h, grown_row _ _ _⟩
theorem MrAt.stP {W : World} {b : Nat} {x : Mr} (h : MrAt W b x) (a : Option Addr) (n c : Nat) : ∃ V, (stS 59 (.pointer (some ⟨b, 1, none⟩)) (.slice a n c)).run Try.prog W = .ok () V ∧ MrAt V b ⟨x.v, a, n, c⟩ ∧ W.grownBy V (some b) := ⟨_, RvAt.st1 h infoIs (by show 1 < 2; omega) rfl, RvAt.set h, grown_row _ _ _⟩
theorem MrAt.st {W : World} {b : Nat} {x : Mr} (h : MrAt W b x) (y : Mr) : ∃ V, (stS 68 (.pointer (some ⟨b, 0, none⟩)) (.agg y.cs)).run Try.prog W = .ok () V ∧ MrAt V b y ∧ W.grownBy V (some b) := ⟨_, RvAt.st rtB h rfl rfl (one_of rfl), RvAt.set h, grown_row _ _ _⟩
theorem MrAt.keptBut {W W' : World} {b : Nat} {x : Mr} {row : Option Nat} (h : MrAt W b x) (hg : W.grownBy W' row) (hn : some b ≠ row) : MrAt W' b x := RvAt.keptBut h hg hn
theorem PrAt.keptBut {W W' : World} {b : Nat} {x : Pr} {row : Option Nat} (h : PrAt W b x) (hg : W.grownBy W' row) (hn : some b ≠ row) : PrAt W' b x := RvAt.keptBut h hg hn
def zR : Mr := ⟨0, none, 0, 0⟩
theorem MrAt.zero (W : World) : ∃ V, W.alloc (.cells #[.int .i64 0, .slice none 0 0] 68) = V ∧ MrAt V W.heap.size zR ∧ Below W.heap.size W V ∧ V.heap.size = W.heap.size + 1 := MrAt.new W zR
def zP : Pr := ⟨⟨0, 0, 0, 0, 0, 0⟩, .slice none 0 0, .slice none 0 0, .slice none 0 0, .slice none 0 0⟩
theorem PrAt.zero (W : World) : ∃ V, W.alloc (.cells #[.int .u8 0, .int .u8 0, .int .u8 0, .int .u8 0, .int .u8 0, .int .u8 0, .slice none 0 0, .slice none 0 0, .slice none 0 0, .slice none 0 0] 48) = V ∧ PrAt V W.heap.size zP ∧ Below W.heap.size W V ∧ V.heap.size = W.heap.size + 1 := PrAt.new W zP
/-- What is not too much to be copied. -/
def Sz (p : Pv) : Prop := p.ks.length ≤ 100 ∧ p.ms.length ≤ 100 ∧ p.cs.length ≤ 100 ∧ p.bs.length ≤ 100 ∧ ∀ m ∈ p.bs, m.ps.length ≤ 1000
/-- twin's variables. -/
structure TwS (w V : World) (x : Pr) : Prop where
  var : PrAt V w.heap.size x
  res : PrAt V (w.heap.size + 1) zP
  bel : Below w.heap.size w V
  siz : w.heap.size + 2 ≤ V.heap.size
theorem TwS.below {w V V' : World} {x : Pr} (h : TwS w V x) (hb : Below V.heap.size V V') : TwS w V' x := ⟨h.var.below hb, h.res.below hb, below_over h.bel hb, Nat.le_trans h.siz hb.size⟩
theorem TwS.set {w V V' : World} {x y : Pr} (h : TwS w V x) (hy : PrAt V' w.heap.size y) (hg : V.grownBy V' (some w.heap.size)) : TwS w V' y := ⟨hy, h.res.keptBut hg (by simp), gro h.bel hg (Nat.le_refl _) h.bel.size, Nat.le_trans h.siz hg.size⟩
theorem take_one {l : List Mb} {i : Nat} {z : Mb} (h : l[i]? = some z) : l.take (i + 1) = l.take i ++ [z] := by rw [List.take_add_one, h]; rfl
/-- A bool is told: is it so? -/
def TellB (r : Ending) (P : Prop) : Prop := ∃ R, r = .returned (.bool R) ∧ (R = true ↔ P)
theorem TellB.yes {P : Prop} (h : P) : TellB (.returned (.bool true)) P := ⟨true, rfl, fun _ => h, fun _ => rfl⟩
theorem TellB.no {P : Prop} (h : ¬ P) : TellB (.returned (.bool false)) P := ⟨false, rfl, (fun e => by cases e), fun e => absurd e h⟩
theorem take_next {α : Type} {l m : List α} {i : Nat} {x y : α} (h : l.take i = m.take i) (hx : l[i]? = some x) (hy : m[i]? = some y) (e : x = y) : l.take (i + 1) = m.take (i + 1) := by
  rw [List.take_add_one, List.take_add_one, h, hx, hy, e]
theorem ne_at {α : Type} {l m : List α} {i : Nat} {x y : α} (hx : l[i]? = some x) (hy : m[i]? = some y) (e : ¬ x = y) : ¬ l = m := fun h => by
  subst h
  rw [hx] at hy
  exact e (by simpa using hy)
theorem eq_end {α : Type} {l m : List α} {i : Nat} (h : l.take i = m.take i) (h1 : l.length = i) (h2 : m.length = i) : l = m := by
  rw [List.take_of_length_le (by omega), List.take_of_length_le (by omega)] at h
  exact h
def eqO (a b : O6) : Bool := eq6 a.a a.b a.c a.d a.e a.f b.a b.b b.c b.d b.e b.f
theorem eqO_iff {a b : O6} : eqO a b = true ↔ a = b := by
  unfold eqO
  rw [eq6_iff]
  cases a; cases b
  simp
theorem eqlO0 (a b : O6) (w : World) : (Op.equalIn 10000 42 (.agg a.cs) (.agg b.cs)).run Try.prog w = .ok (eqO a b) w := eqMac ..
theorem ldO (x : Value) : Instr.loadAt 42 x = ldS 42 x := rfl
theorem PrAt.own' {W : World} {b : Nat} {x : Pr} (h : PrAt W b x) : (ldS 42 (.pointer (some ⟨b, 0, none⟩))).run Try.prog W = .ok (.agg x.o.cs) W := h.own
def erC (b : Bool) : Int := if b then 0 else 180
theorem erC_no : erC false = 180 := rfl
theorem erC_yes : erC true = 0 := rfl
set_option maxHeartbeats 2000000 in
theorem rints_any (a : Option Addr) (n c : Nat) (l : List Int) (a' : Option Addr) (n' c' : Nat) (m : List Int) (w : World) (hs : SlAt eI w a n c l) (ht : SlAt eI w a' n' c' m) :
    Calls Try.prog 14 #[.slice a n c, .slice a' n' c'] w fun r w' => TellB r (l = m) ∧ Below w.heap.size w w' := by
  have hnn := hs.int
  have hn2 := ht.int
  by_cases hl : n = n'
  · subst hl
    have H : Hid (SlAt eI w a n c l ∧ SlAt eI w a' n c' m ∧ l.length = n ∧ m.length = n) := ⟨hs, ht, hs.len, ht.len⟩
    clear hs ht hn2
    go_enter Try.func14, Try.ntmps14
    go_wp2_with fail
    go_loopw [5] (fun v wr => ∃ i : Nat, i ≤ n ∧ v = .int .i64 i ∧ l.take i = m.take i ∧ Below w.heap.size w wr) (fun v _ => n - (intOf v).toNat)
    case atStart => exact ⟨0, by omega, rfl, rfl, Below.refl _ _⟩
    case round =>
      obtain ⟨i, hi, rfl, hf, hB⟩ := hrel
      have J : Hid (l.take i = m.take i ∧ Below w.heap.size w wr) := ⟨hf, hB⟩
      have hi0 : (0 : Int) ≤ (i : Int) := by omega
      by_cases hit : i < n
      · have hi1 : (i : Int) < (n : Int) := by omega
        obtain ⟨b, o, rfl⟩ := H.out.1.some' (by omega)
        obtain ⟨b', o', rfl⟩ := H.out.2.1.some' (by omega)
        obtain ⟨x, hx⟩ := lt_nth (l := l) (i := i) (by rw [H.out.2.2.1]; exact hit)
        obtain ⟨y, hy⟩ := lt_nth (l := m) (i := i) (by rw [H.out.2.2.2]; exact hit)
        have l0 := fun q : Later wr => lI ((H.out.1.below J.out.2).below q.below) hx
        have l1 := fun q : Later wr => lI ((H.out.2.1.below J.out.2).below q.below) hy
        have HX : Hid (l[i]? = some x ∧ m[i]? = some y) := ⟨hx, hy⟩
        clear hf hB hx hy
        by_cases e0 : x = y
        · have e1 : (x != y) = false := by simp [e0]
          have E : Hid (l.take (i + 1) = m.take (i + 1)) := take_next J.out.1 HX.out.1 HX.out.2 e0
          clear e0
          go_wp2_with fail
          refine wp_region_later (by kernel_rfl) (by kernel_rfl) ?_
          repeat (go_big_quiet_step (first | exact rfl))
          refine wpQuiet_nil ?_
          intro _ hw'
          obtain ⟨q, rfl⟩ := hw'
          clear l0 l1
          go_wp2
          go_roundw
          case rel => exact ⟨i + 1, by omega, by go_num, E.out, below_later J.out.2 q⟩
          case measure => simp [intOf]; omega
        · have e1 : (x != y) = true := by simp [e0]
          have E : Hid (¬ l = m) := ne_at HX.out.1 HX.out.2 e0
          clear e0
          go_wp2_with fail
          refine wp_region_later (by kernel_rfl) (by kernel_rfl) ?_
          repeat (go_big_quiet_step (first | exact rfl))
          refine wpQuiet_nil ?_
          intro _ hw'
          obtain ⟨q, rfl⟩ := hw'
          clear l0 l1
          go_wp2
          go_ret
          exact ⟨TellB.no E.out, below_later J.out.2 q⟩
      · have hin : i = n := by omega
        subst hin
        have hi1 : ¬ (i : Int) < (i : Int) := by omega
        have E : Hid (l = m) := eq_end J.out.1 H.out.2.2.1 H.out.2.2.2
        clear hf hB
        go_wp2
        go_ret
        exact ⟨TellB.yes E.out, J.out.2⟩
  · have e1 : ((n : Int) != (n' : Int)) = true := by simp; omega
    have E : Hid (¬ l = m) := fun h => hl (by rw [← hs.len, ← ht.len, h])
    clear hl hs ht
    go_enter Try.func14, Try.ntmps14
    go_wp2
    go_ret
    exact ⟨TellB.no E.out, Below.refl _ _⟩
theorem gdO : Try.prog.eqGuardType Try.prog.depth 42 = false := by kernel_rfl
theorem eqgO (op : BinOp) (x y : Operand) (a b : O6) (w : World) : (eqGuard op 42 x y (.agg a.cs) (.agg b.cs)).run Try.prog w = .ok () w := run_eqGuard_agg w op _ x y _ _ gdO
theorem neqO (a b : O6) (w : World) : (binOp .neq 42 (.agg a.cs) (.agg b.cs)).run Try.prog w = .ok (.bool (!(eqO a b))) w := by
  rw [run_neq_struct, eqlO0]
  rfl
theorem eqlO (a b : O6) (w : World) : (binOp .eql 42 (.agg a.cs) (.agg b.cs)).run Try.prog w = .ok (.bool (eqO a b)) w := by
  rw [run_eql_struct, eqlO0]
  rfl
/-- Two rows of numbers, the same? -/
def eqIs : List Int → List Int → Bool
  | [], [] => true
  | x :: l, y :: m => x == y && eqIs l m
  | _, _ => false
theorem eqIs_iff : ∀ {l m : List Int}, eqIs l m = true ↔ l = m
  | [], [] => by simp [eqIs]
  | [], y :: m => by simp [eqIs]
  | x :: l, [] => by simp [eqIs]
  | x :: l, y :: m => by rw [eqIs, Bool.and_eq_true, eqIs_iff]; simp
theorem eqIs_no {l m : List Int} (h : ¬ l = m) : eqIs l m = false := by
  cases hh : eqIs l m with
  | false => rfl
  | true => exact absurd (eqIs_iff.1 hh) h
theorem rints_b (a : Option Addr) (n c : Nat) (l : List Int) (a' : Option Addr) (n' c' : Nat) (m : List Int) (w : World) (hs : SlAt eI w a n c l) (ht : SlAt eI w a' n' c' m) :
    Calls Try.prog 14 #[.slice a n c, .slice a' n' c'] w fun r w' => r = .returned (.bool (eqIs l m)) ∧ Below w.heap.size w w' :=
  (rints_any a n c l a' n' c' m w hs ht).mono fun r y ⟨⟨R, hr, hR⟩, hy⟩ => ⟨by rw [hr]; exact ret_bool (by rw [Bool.eq_iff_iff, hR, eqIs_iff]), hy⟩
theorem RvAt.get {W : World} {b : Nat} {ty : TypeId} {cs : Array Value} (h : RvAt W b ty cs) (k : Nat) : W.cell? ⟨b, k, none⟩ = cs[k]? := by
  have h' : W.heap[b]? = some (.cells cs ty (0, 0)) := h
  simp [World.cell?, h']
theorem SlAt.keptV {α : Type} {e : El α} (k : e.Ok) (hf : ∀ u : α, ∃ v, (e.f u)[0]? = some (.int .i64 v)) {W W' : World} {a : Option Addr} {n c g : Nat} {l : List α} {ty : TypeId} {cs : Array Value} (h : SlAt e W a n c l) (hr : RvAt W g ty cs) (hcs : ∀ (j : Nat) (v : Int), cs[j]? ≠ some (.int .i64 v)) (hg : W.grownBy W' (some g)) : SlAt e W' a n c l := by
  refine ⟨h.len, h.cap, h.max, h.nil, fun y hy h0 => ?_⟩
  obtain ⟨b, o, e', hc⟩ := h.cells y hy h0
  have hl : 0 < l.length := by rw [h.len]; exact h0
  obtain ⟨v, hv⟩ := hf l[0]
  have h1 := El.fl_at k (i := 0) (j := 0) (List.getElem?_eq_getElem hl) hv
  rw [Nat.zero_mul, Nat.zero_add] at h1
  have h2 := hc 0 _ h1
  have hne : b ≠ g := by
    intro e2
    subst e2
    rw [hr.get] at h2
    exact hcs _ _ h2
  refine ⟨b, o, e', fun j u hj => ?_⟩
  have h3 := hc j u hj
  have hb : b < W.heap.size := by
    rcases Nat.lt_or_ge b W.heap.size with h4 | h4
    · exact h4
    · simp [World.cell?, Array.getElem?_eq_none h4] at h3
  have hb2 := hg.block b hb (by simpa using hne)
  rw [← h3]
  unfold World.cell?
  rw [hb2]
theorem pr_no {W : World} {z : Pr} {pz : Pv} (h : IsPv W z pz) : ∀ (j : Nat) (v : Int), z.cs[j]? ≠ some (.int .i64 v) := by
  obtain ⟨_, _, _, h1, _⟩ := h.k
  obtain ⟨_, _, _, h2, _⟩ := h.m
  obtain ⟨_, _, _, h3, _⟩ := h.c
  obtain ⟨_, ⟨_, _, _, h4, _⟩, _⟩ := h.b
  intro j v hj
  have hl : j < 10 := (Array.getElem?_eq_some_iff.1 hj).1
  match j, hl, hj with
  | 0, _, hj => simp [Pr.cs] at hj
  | 1, _, hj => simp [Pr.cs] at hj
  | 2, _, hj => simp [Pr.cs] at hj
  | 3, _, hj => simp [Pr.cs] at hj
  | 4, _, hj => simp [Pr.cs] at hj
  | 5, _, hj => simp [Pr.cs] at hj
  | 6, _, hj => simp [Pr.cs, h1] at hj
  | 7, _, hj => simp [Pr.cs, h2] at hj
  | 8, _, hj => simp [Pr.cs, h3] at hj
  | 9, _, hj => simp [Pr.cs, h4] at hj
theorem IsPv.keptV {W W' : World} {x z : Pr} {p pz : Pv} {g : Nat} (h : IsPv W x p) (hr : PrAt W g z) (hz : IsPv W z pz) (hg : W.grownBy W' (some g)) : IsPv W' x p := by
  have hn := pr_no hz
  obtain ⟨a1, n1, c1, e1, s1⟩ := h.k
  obtain ⟨a2, n2, c2, e2, s2⟩ := h.m
  obtain ⟨a3, n3, c3, e3, s3⟩ := h.c
  obtain ⟨r, ⟨a4, n4, c4, e4, s4⟩, m4⟩ := h.b
  exact ⟨h.o, h.wf, ⟨a1, n1, c1, e1, s1.keptV kK (fun u => ⟨u, rfl⟩) hr hn hg⟩, ⟨a2, n2, c2, e2, s2.keptV kM (fun u => ⟨u.p, rfl⟩) hr hn hg⟩, ⟨a3, n3, c3, e3, s3.keptV kC (fun u => ⟨u.s, rfl⟩) hr hn hg⟩, r, ⟨a4, n4, c4, e4, s4.keptV kB (fun u => ⟨u.v, rfl⟩) hr hn hg⟩, m4.len, fun i a b ha hb => ⟨(m4.at' i a b ha hb).1, (m4.at' i a b ha hb).2.keptV kI (fun u => ⟨u, rfl⟩) hr hn hg⟩⟩
theorem eqIs_self (l : List Int) : eqIs l l = true := eqIs_iff.2 rfl
end Go.Proofs.Ytcejfkkhmlebdaa
