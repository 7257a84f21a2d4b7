/-
  Calls and what is asked of: variables of calls, few. What the law of runs has. Plain laws.
-/
import Derived.Test.YtammaaiknjgjbaaTx
namespace Go.Proofs.Ytammaaiknjgjbaa
set_option linter.unusedVariables false
set_option maxRecDepth 4000
set_option linter.unusedSimpArgs false
open Go.RowKit
def slS (t : TypeId) (x : Value) (lo hi mx : Option Value) : Sem Value := Instr.sliceAt t x lo hi mx
theorem slW (x : Value) (lo hi mx : Option Value) : Instr.sliceAt 23 x lo hi mx = slS 23 x lo hi mx := rfl
attribute [local go_sem ↓] apI bsI ldT stT stI ldA stA bsW slW
theorem slW_cut (a : Option Addr) (n c m : Nat) (hm : m ≤ n) (hc : n ≤ c) (V : World) : (slS 23 (.slice a n c) none (some (.int .i64 m)) none).run Try.prog V = .ok (.slice a m c) V := by
  have hin : (m : Int) ≤ (c : Int) := by omega
  have hz := Try.sizeOf32
  have hu : Try.prog.underlying 23 = some (.slice 32) := Try.underlying23
  unfold slS
  simp only [Instr.sliceAt, Sem.run_bind, run_underlying hu, Result.andThen_ok]
  simp only [Instr.slice, Sem.run_bind, run_underlying hu, Result.andThen_ok, Instr.sliceBounds, Sem.run_pure]
  rw [run_sliceBound V .i64 (m : Int) c _ (by omega) hin]
  simp only [Result.andThen_ok, Sem.run_pure, hz V, Int.toNat_natCast]
  cases a <;> simp [Addr.add]
theorem sl_takeW {W : World} {a : Option Addr} {n c : Nat} {l : List Int} (h : SlAt eW W a n c l) {m : Nat} (hm : m ≤ n) : SlAt eW W a m c (l.take m) := by
  refine ⟨by rw [List.length_take, h.len]; omega, Nat.le_trans hm h.cap, h.max, fun e => ?_, fun x hx h0 => ?_⟩
  · have := h.nil e
    omega
  · obtain ⟨b, o, e, hc⟩ := h.cells x hx (by omega)
    refine ⟨b, o, e, fun j u hj => hc j u ?_⟩
    rw [El.fl_get kW] at hj ⊢
    have hK : eW.K = 1 := rfl
    rw [hK, Nat.div_one, Nat.mod_one] at hj ⊢
    rw [List.getElem?_take] at hj
    split at hj
    · exact hj
    · cases hj
set_option maxHeartbeats 2000000 in
theorem few_any {W : World} {a : Option Addr} {n c : Nat} {l : List Int} (h : SlAt eW W a n c l) : Calls Try.prog 8 #[.slice a n c] W fun e W' => ∃ m, m ≤ 30 ∧ e = .returned (.slice a m c) ∧ SlAt eW W a m c (l.take m) ∧ W = W' := by
  have H : Hid (SlAt eW W a n c l) := h
  have hn := h.int
  by_cases h1 : 30 < n
  · have h1' : (30 : Int) < (n : Int) := by omega
    have f : ∀ V : World, (slS 23 (.slice a n c) none (some (.int .i64 30)) none).run Try.prog V = .ok (.slice a 30 c) V := fun V => slW_cut a n c 30 (by omega) H.out.cap V
    have HK : Hid (SlAt eW W a 30 c (l.take 30)) := sl_takeW h (by omega)
    clear h h1
    go_enter Try.func8, Try.ntmps8
    go_wp2
    go_ret
    exact ⟨30, by omega, rfl, HK.out, rfl⟩
  · have h1' : ¬ (30 : Int) < (n : Int) := by omega
    have HK : Hid (SlAt eW W a n c (l.take n) ∧ n ≤ 30) := ⟨sl_takeW h (Nat.le_refl _), by omega⟩
    clear h h1
    go_enter Try.func8, Try.ntmps8
    go_wp2
    go_ret
    exact ⟨n, HK.out.2, rfl, HK.out.1, rfl⟩
theorem infoO : (Try.prog.info? 34).map (·.size) = some 3 := by kernel_rfl
theorem rtO : RowTy 34 3 := ⟨infoO, _, Try.underlying34, rfl⟩
theorem ldO (x : Value) : Instr.loadAt 34 x = ldS 34 x := rfl
theorem stO (x y : Value) : Instr.storeAt 34 x y = stS 34 x y := rfl
abbrev OpAt (W : World) (b : Nat) (x : Opt) : Prop := RvAt W b 34 (Opt.cs x)
theorem OpAt.put (W : World) (x : Opt) : ∃ W', (stS 34 (.pointer (some ⟨W.heap.size, 0, none⟩)) (.agg #[.int .u8 x.d, .int .i64 x.w, .int .i64 x.n])).run Try.prog (W.alloc (.cells #[.int .u8 0, .int .i64 0, .int .i64 0] 34)) = .ok () W' ∧ OpAt W' W.heap.size x ∧ Below W.heap.size W W' ∧ W'.heap.size = W.heap.size + 1 := row_new rtO W _ (Opt.cs x) rfl rfl (kO.one x)
theorem RtAt.put (W : World) (z : Value) (hz : z.oneCell' = true) : ∃ W', (stS 29 (.pointer (some ⟨W.heap.size, 0, none⟩)) (.agg #[z])).run Try.prog (W.alloc (.cells #[.slice none 0 0] 29)) = .ok () W' ∧ RtAt W' W.heap.size z ∧ Below W.heap.size W W' ∧ W'.heap.size = W.heap.size + 1 := row_new rtR W _ #[z] rfl rfl (one1 hz)
/-- Both tallies; the definition's in block r. -/
structure RuS (w W : World) (g r : Nat) (N : List Int) (a : Option Addr) (c : Nat) : Prop where
  t : TyS w W g N
  v : RtAt W r (.slice a 15 c)
  s : SlAt eI W a 15 c N
  ne : ∀ z, a = some z → z.block ≠ g ∧ z.block ≠ r
  gr : g ≠ r
  lo : w.heap.size ≤ r
theorem RuS.below {w W W' : World} {g r : Nat} {N : List Int} {a : Option Addr} {c : Nat} (h : RuS w W g r N a c) (hb : Below W.heap.size W W') : RuS w W' g r N a c := ⟨h.t.below hb, h.v.below hb, h.s.below hb, h.ne, h.gr, h.lo⟩
theorem RuS.lt {w W : World} {g r : Nat} {N : List Int} {a : Option Addr} {c : Nat} (h : RuS w W g r N a c) : ∀ z, a = some z → z.block < W.heap.size := fun z hz => by
  subst hz
  obtain ⟨b, o, e⟩ := h.s.some' (by omega)
  cases e
  exact h.s.lt kI (by omega)
theorem infoV : (Try.prog.info? 27).map (·.size) = some 1 := by kernel_rfl
end Go.Proofs.Ytammaaiknjgjbaa
