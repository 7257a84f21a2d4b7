/-
  The definition's Take and Same; rows cut: walks, each for every input.
-/
import Derived.Test.YtoojoiindfgoeaaQr
namespace Go.Proofs.Ytoojoiindfgoeaa
set_option linter.unusedVariables false
set_option maxRecDepth 4000
set_option linter.unusedSimpArgs false
open Go.RowKit
def slS (t : TypeId) (x : Value) (lo hi mx : Option Value) : Sem Value := Instr.sliceAt t x lo hi mx
theorem slL (x : Value) (lo hi mx : Option Value) : Instr.sliceAt 27 x lo hi mx = slS 27 x lo hi mx := rfl
theorem slU (x : Value) (lo hi mx : Option Value) : Instr.sliceAt 33 x lo hi mx = slS 33 x lo hi mx := rfl
attribute [local go_sem ↓] apU apL bsU bsL ldQ stQ stL slL slU
attribute [local go_sem] bzU bzL b1S
theorem slU_cut (a : Option Addr) (n c m : Nat) (hm : m ≤ n) (hc : n ≤ c) (V : World) : (slS 33 (.slice a n c) none (some (.int .i64 m)) none).run Try.prog V = .ok (.slice a m c) V := by
  have hin : (m : Int) ≤ (c : Int) := by omega
  have hz := Try.sizeOf5
  have hu : Try.prog.underlying 33 = some (.slice 5) := Try.underlying33
  unfold slS
  simp only [Instr.sliceAt, Sem.run_bind, run_underlying hu, Result.andThen_ok]
  simp only [Instr.slice, Sem.run_bind, run_underlying hu, Result.andThen_ok, Instr.sliceBounds, Sem.run_pure]
  rw [run_sliceBound V .i64 (m : Int) c _ (by omega) hin]
  simp only [Result.andThen_ok, Sem.run_pure, hz V, Int.toNat_natCast]
  cases a <;> simp [Addr.add]
theorem slL_suf (a : Option Addr) (n c i : Nat) (hi : i ≤ n) (V : World) : (slS 27 (.slice a n c) (some (.int .i64 i)) none none).run Try.prog V = .ok (.slice (if c = i then a else a.map (·.add (i * eS.K))) (n - i) (c - i)) V := by
  have hin : (i : Int) ≤ (n : Int) := by omega
  have hz := Try.sizeOf33
  have hu : Try.prog.underlying 27 = some (.slice 33) := Try.underlying27
  unfold slS
  simp only [Instr.sliceAt, Sem.run_bind, run_underlying hu, Result.andThen_ok]
  simp only [Instr.slice, Sem.run_bind, run_underlying hu, Result.andThen_ok, Instr.sliceBounds, Sem.run_pure]
  rw [run_sliceBound V .i64 (i : Int) n _ (by omega) hin]
  simp only [Result.andThen_ok, Sem.run_pure, hz V, Int.toNat_natCast]
  rfl
/-- A row but for its first member. -/
theorem row_tail {W : World} {a : Option Addr} {n c : Nat} {x : Sl} {tt : List Sl} (h : SlAt eS W a n c (x :: tt)) :
    ∃ a', (∀ V : World, (slS 27 (.slice a n c) (some (.int .i64 1)) none none).run Try.prog V = .ok (.slice a' (n - 1) (c - 1)) V) ∧ SlAt eS W a' (n - 1) (c - 1) tt ∧ ∀ y, a' = some y → ∃ z, a = some z ∧ z.block = y.block := by
  have hn : n = tt.length + 1 := by rw [← h.len]; rfl
  obtain ⟨b, o, rfl⟩ := h.some' (by omega)
  have hc := h.cap
  have hm := h.max
  refine ⟨if c = 1 then some ⟨b, o, none⟩ else some ⟨b, o + 1, none⟩, fun V => ?_, ⟨by omega, by omega, by omega, fun e => ?_, fun y hy h0 => ?_⟩, fun y hy => ?_⟩
  · have := slL_suf (some ⟨b, o, none⟩) n c 1 (by omega) V
    rw [show ((1 : Nat) : Int) = 1 from rfl] at this
    rw [this]
    have e : (⟨b, o, none⟩ : Addr).add (1 * eS.K) = ⟨b, o + 1, none⟩ := by
      show (⟨b, o, none⟩ : Addr).add 1 = _
      rw [Addr.add_lit]
    rw [Option.map_some, e]
  · split at e <;> cases e
  · have hc1 : ¬ c = 1 := by omega
    rw [if_neg hc1] at hy
    cases hy
    obtain ⟨b', o', e', hcl⟩ := h.cells _ rfl (by omega)
    cases e'
    refine ⟨b, o + 1, rfl, fun j u hj => ?_⟩
    have : (eS.fl (x :: tt))[j + 1]? = some u := by
      unfold El.fl at hj ⊢
      rw [List.flatMap_cons]
      exact hj
    have := hcl (j + 1) u this
    rw [show o + 1 + j = o + (j + 1) by omega]
    exact this
  · split at hy <;> (cases hy; exact ⟨_, rfl, rfl⟩)
/-- What Take answers. -/
structure RtOut (W : World) (cap : Nat) (ra : Option Addr) (rn rc : Nat) (L : List (List Int)) (e : Ending) (W' : World) : Prop where
  none : L = [] → e = .returned (.tuple #[.agg #[.int .i64 cap, .slice ra rn rc], .slice none 0 0, .bool false])
  some : ∀ l L', L = l :: L' → ∃ v x, e = .returned (.tuple #[v, Sl.v x, .bool true]) ∧ RqIs W W' ra v cap L' ∧ SrcS W' x l
  bel : Below W.heap.size W W'
theorem ret_q3 {fn : Func} {k i j : Nat} (hr : fn.results = #[.cell k 29, .tmp i, .tmp j]) {R : Ending → World → Prop} {a : Act} {w : World} {b : Nat} {n : Int} {x y e : Value} (hd : a.defers = []) (h2 : a.tmps.getD k undef = .pointer (some ⟨b, 0, none⟩)) (h4 : a.tmps.getD i undef = y) (h3 : a.tmps.getD j undef = e) (h : RqAt w b n x)
    (hR : R (.returned (.tuple #[.agg (qcs n x), y, e])) w) : bodyPost Try.prog fn R .ret a w := by
  have hl : (loadVar 29 ⟨b, 0, none⟩).run Try.prog w = .ok (.agg (qcs n x)) w := run_loadVar_row (P := Try.prog) w b 29 29 (qcs n x) (0, 0) _ h Try.underlying29 rfl infoQ
  have h2' : a.tmps[k]?.getD undef = .pointer (some ⟨b, 0, none⟩) := by simpa using h2
  have h3' : a.tmps[j]?.getD undef = e := by simpa using h3
  have h4' : a.tmps[i]?.getD undef = y := by simpa using h4
  exact ⟨hd, _, by simp [results, hr, asAddr, hl, h2', h3', h4'], hR⟩
set_option maxHeartbeats 4000000 in
theorem rtake_any {W : World} {cap : Nat} {L : List (List Int)} {ra : Option Addr} {rn rc : Nat} (h : RowsS W ra rn rc L) (hl : rn ≤ 500) :
    Calls Try.prog 12 #[.agg #[.int .i64 cap, .slice ra rn rc]] W fun e W' => RtOut W cap ra rn rc L e W' := by
  obtain ⟨V1, hV1, r1, b1, z1⟩ := RqAt.new W cap (.slice ra rn rc)
  obtain ⟨V, hV, r2, b2, z2⟩ := RqAt.new V1 0 (.slice none 0 0)
  have hrn := h.int
  have H : Hid (RqAt V W.heap.size cap (.slice ra rn rc) ∧ RqAt V V1.heap.size 0 (.slice none 0 0) ∧ Below W.heap.size W V ∧ V1.heap.size = W.heap.size + 1 ∧ V.heap.size = W.heap.size + 2) := ⟨r1.below b2, r2, below_over b1 b2, z1, by omega⟩
  have HL : Hid (L.length = rn ∧ RowsS W ra rn rc L) := ⟨h.len, h⟩
  have l0 := H.out.1.ld
  have c1 : V.cell? ⟨W.heap.size, 1, none⟩ = some (.slice ra rn rc) := H.out.1.cell 1 _ rfl
  clear r1 r2 b1 b2 z1 z2
  cases L with
  | nil =>
    have h0 : rn = 0 := HL.out.1.symm
    subst h0
    obtain ⟨Z, sZ, mZ, gZ⟩ := H.out.2.1.st cap (.slice ra 0 rc) rfl
    have G : Hid (RqAt Z V1.heap.size cap (.slice ra 0 rc) ∧ Below W.heap.size W Z) := ⟨mZ, gro H.out.2.2.1 gZ (by have := H.out.2.2.2; omega) H.out.2.2.1.size⟩
    clear mZ gZ h
    go_enter Try.func12, Try.ntmps12
    go_wp2
    refine ret_q3 Try.results12 rfl rfl rfl rfl G.out.1 ?_
    exact ⟨fun _ => rfl, fun l L' e => (by cases e), G.out.2⟩
  | cons l L =>
    obtain ⟨tt, hs1, hs2⟩ := h
    cases tt with
    | nil => exact absurd hs2.len (by simp)
    | cons x tt =>
      have e0 : ((rn : Int) == 0) = false := by simp; have := HL.out.1; simp at this; omega
      have hp : (0 : Int) < (rn : Int) := by have := HL.out.1; simp at this; omega
      obtain ⟨rb, ro, rfl⟩ := hs1.some' (by omega)
      have lx : V.cell? ⟨rb, ro, none⟩ = some x.v := by have := lS (hs1.below H.out.2.2.1) (i := 0) rfl; exact this
      obtain ⟨a', st, s2, _⟩ := row_tail hs1
      obtain ⟨Vz, hVz⟩ : ∃ e, V.alloc (.cells #[] 33) = e := ⟨_, rfl⟩
      have cz : Vz.cell? ⟨W.heap.size, 1, none⟩ = some (.slice (some ⟨rb, ro, none⟩) rn rc) := (H.out.1.below (by rw [← hVz]; exact (Below.refl _ _).alloc (Nat.le_refl _) _)).cell 1 _ rfl
      obtain ⟨v1, X1, ap1, o1, b1⟩ := rows_copy (s2.below H.out.2.2.1) (by omega) 27
      rw [hVz] at ap1
      obtain ⟨a3, c3, rfl, s3, hbk⟩ := o1.form
      obtain ⟨N, hN⟩ : ∃ e, tt.length = e := ⟨_, rfl⟩
      rw [hN] at s3 ap1
      obtain ⟨Y1, t1, m1, k1⟩ := RqAt.stL (H.out.1.below b1) (.slice a3 N c3) rfl
      have l1 := m1.ld
      obtain ⟨Y2, t2, m2, k2⟩ := RqAt.st (RvAt.keptBut (H.out.2.1.below b1) k1 (by have := H.out.2.2.2; simp; omega)) cap (.slice a3 N c3) rfl
      have G : Hid (RqAt Y2 V1.heap.size cap (.slice a3 N c3) ∧ Below W.heap.size W Y2 ∧ RowsS Y2 a3 N c3 L ∧ SrcS Y2 x l ∧ ∀ y, a3 = some y → W.heap.size ≤ y.block) := by
        have hv := H.out.2.2.2
        have h0 := below_over H.out.2.2.1 b1
        have h1 := gro h0 k1 (Nat.le_refl _) h0.size
        have h2 := gro h1 k2 (by omega) h1.size
        refine ⟨m2, h2, ⟨_, (s3.keptBut k1 ?_).keptBut k2 ?_, hs2.2.mono fun _ _ hh => hh.below h2⟩, hs2.1.below h2, fun y hy => by have := (hbk y hy).1; omega⟩
        · intro y hy _
          have := (hbk y hy).1
          simp
          omega
        · intro y hy _
          have := (hbk y hy).1
          simp
          omega
      clear m1 k1 m2 k2 o1 s3 hbk b1 s2 hs1 hs2 hN
      go_enter Try.func12, Try.ntmps12
      go_wp2
      refine ret_q3 Try.results12 rfl rfl rfl rfl G.out.1 ?_
      exact ⟨fun e => (by cases e), fun l' L' e => by
        cases e
        exact ⟨_, x, rfl, ⟨a3, _, c3, rfl, G.out.2.2.1, .inr G.out.2.2.2.2⟩, G.out.2.2.2.1⟩, G.out.2.1⟩
set_option maxHeartbeats 4000000 in
/-- Rows that lead to the same are the same. -/
theorem rsame_yes {W : World} {L : List (List Int)} {a a' : Option Addr} {n c n' c' : Nat} (h1 : RowsS W a n c L) (h2 : RowsS W a' n' c' L) :
    Calls Try.prog 17 #[.slice a n c, .slice a' n' c'] W fun e W' => e = .returned (.bool true) ∧ Below W.heap.size W W' := by
  obtain rfl : n = n' := by rw [← h1.len, ← h2.len]
  obtain ⟨tt, s1, al1⟩ := h1
  obtain ⟨uu, s2, al2⟩ := h2
  have hn := s1.int
  have H : Hid (SlAt eS W a n c tt ∧ Al (SrcS W) tt L ∧ SlAt eS W a' n c' uu ∧ Al (SrcS W) uu L) := ⟨s1, al1, s2, al2⟩
  have nn : ((n : Int) != (n : Int)) = false := by simp
  clear s1 al1 s2 al2
  go_enter Try.func17, Try.ntmps17
  go_wp2_with fail
  go_loopw [5] (fun v wr => ∃ i : Nat, i ≤ n ∧ v = .int .i64 i ∧ Below W.heap.size W wr) (fun v _ => n - (intOf v).toNat)
  case atStart => exact ⟨0, by omega, rfl, Below.refl _ _⟩
  case round =>
    obtain ⟨i, hi, rfl, hB⟩ := hrel
    have J : Hid (Below W.heap.size W wr) := hB
    have hi0 : (0 : Int) ≤ (i : Int) := by omega
    clear hB nn
    by_cases hit : i < n
    · have hi1 : (i : Int) < (n : Int) := by omega
      obtain ⟨b1, o1, rfl⟩ := H.out.1.some' (by omega)
      obtain ⟨b2, o2, rfl⟩ := H.out.2.2.1.some' (by omega)
      obtain ⟨x, hx⟩ : ∃ t, tt[i]? = some t := ⟨_, List.getElem?_eq_getElem (by rw [H.out.1.len]; exact hit)⟩
      obtain ⟨y, hy⟩ : ∃ t, uu[i]? = some t := ⟨_, List.getElem?_eq_getElem (by rw [H.out.2.2.1.len]; exact hit)⟩
      obtain ⟨l, hl⟩ : ∃ t, L[i]? = some t := ⟨_, List.getElem?_eq_getElem (by rw [← H.out.2.1.len, H.out.1.len]; exact hit)⟩
      have sx := (H.out.2.1.at' i x l hx hl).below J.out
      have sy := (H.out.2.2.2.at' i y l hy hl).below J.out
      obtain ⟨B, hB⟩ : ∃ e, bs l = e := ⟨_, rfl⟩
      have f0 : ∀ q : Later wr, q.val.cell? ⟨b1, o1 + i, none⟩ = some x.v := fun q => lS ((H.out.1.below J.out).below q.below) hx
      have f1 : ∀ q : Later wr, q.val.cell? ⟨b2, o2 + i, none⟩ = some y.v := fun q => lS ((H.out.2.2.1.below J.out).below q.below) hy
      have f2 : ∀ q : Later wr, (convert 33 9 x.v).run Try.prog q.val = .ok (.string B) q.val := fun q => by rw [← hB]; exact str_sl (SlAt.below sx q.below)
      have f3 : ∀ q : Later wr, (convert 33 9 y.v).run Try.prog q.val = .ok (.string B) q.val := fun q => by rw [← hB]; exact str_sl (SlAt.below sy q.below)
      clear hx hy hl sx sy hB
      go_wp2_with fail
      refine wp_region_later (by kernel_rfl) (by kernel_rfl) ?_
      repeat (go_big_quiet_step (first | exact rfl))
      refine wpQuiet_nil ?_
      intro _ hw'
      obtain ⟨q, rfl⟩ := hw'
      obtain ⟨X1, hX1⟩ : ∃ e, q.val = e := ⟨_, rfl⟩
      have K1 : Hid (Below W.heap.size W X1) := by rw [← hX1]; exact below_over J.out q.below
      rw [hX1]
      clear hX1 f0 f1 f2 f3 J
      go_wp2
      go_roundw
      case rel => exact ⟨i + 1, by omega, by go_num, K1.out⟩
      case measure => simp [intOf]; omega
    · obtain rfl : i = n := by omega
      have hi1 : ¬ (i : Int) < (i : Int) := by omega
      clear hit
      go_wp2
      go_ret
      exact ⟨rfl, J.out⟩
end Go.Proofs.Ytoojoiindfgoeaa
