/-
  Whole service's tags, loaded and stored; what taking one answers.
-/
import Derived.Test.YteljcgdenagcmaaTake
import Derived.Laws.CopyRow
import Derived.Laws.Tables
import Derived.Laws.CopyOwn
namespace Go.Proofs.Yteljcgdenagcmaa
set_option linter.unusedVariables false
set_option maxRecDepth 4000
set_option linter.unusedSimpArgs false
open Go.RowKit

/-- A whole service's tag, stored. -/
def stS27 (x y : Value) : Sem Unit := Instr.storeAt 27 x y
theorem stS27_eq (x y : Value) : Instr.storeAt 27 x y = stS27 x y := rfl

theorem store27 {w : World} {g : Nat} {cur cs : Array Value} (h : w.heap[g]? = some (.cells cur 27 (0, 0))) (h1 : cur.size = 16) (h2 : cs.size = 16) (h3 : ∀ v ∈ cs.toList, v.oneCell' = true) :
    (stS27 (.pointer (some ⟨g, 0, none⟩)) (.agg cs)).run Try.prog w = .ok () (w.setRow g cs) := by
  have hs := run_storeCells_at Try.prog g 0 27 cs.toList 0 cur w h (by simp; omega) h3
  have hi : ∃ i, Try.prog.info? 27 = some i ∧ i.size = 16 := by
    have := info27
    cases hq : Try.prog.info? 27 with
    | none => rw [hq] at this; cases this
    | some i => rw [hq] at this; exact ⟨i, rfl, by simpa using this⟩
  obtain ⟨i, hi1, hi2⟩ := hi
  have e : (cur.toList.take (0 + 0) ++ cs.toList ++ cur.toList.drop (0 + 0 + cs.toList.length)).toArray = cs := by
    have : cur.toList.drop (0 + 0 + cs.toList.length) = [] := List.drop_eq_nil_of_le (by simp; omega)
    rw [this]
    simp
  rw [e] at hs
  unfold stS27
  simp [Instr.storeAt, Instr.sureAddr, storeVar, sizeOf, typeInfo, hi1, hi2, Value.cells, h2, hs]

theorem loadrow27 {w : World} {b : Nat} {cs : Array Value} (h : w.heap[b]? = some (.cells cs 27 (0, 0))) (h2 : cs.size = 16) :
    (ldS27 (.pointer (some ⟨b, 0, none⟩))).run Try.prog w = .ok (.agg cs) w := by
  unfold ldS27
  have := run_loadVar_row (P := Try.prog) w b 27 27 cs (0, 0) _ h Try.underlying27 rfl (by rw [h2]; exact info27)
  simp only [Instr.loadAt, Instr.sureAddr, Sem.run_bind, Sem.run_pure, Result.andThen_ok, this]

theorem loadvar27 {w : World} {b : Nat} {cs : Array Value} (h : w.heap[b]? = some (.cells cs 27 (0, 0))) (h2 : cs.size = 16) :
    (loadVar 27 ⟨b, 0, none⟩).run Try.prog w = .ok (.agg cs) w :=
  run_loadVar_row (P := Try.prog) w b 27 27 cs (0, 0) _ h Try.underlying27 rfl (by rw [h2]; exact info27)

/-- What a call answers whose first result lies in a variable of type 27, the others in slots. -/
theorem results27 {fn : Func} (hr : fn.results = #[.cell 2 27, .tmp 3, .tmp 4]) (tmps : Array Value) (w : World) (b : Nat) (cs : Array Value) (v e : Value) (h2 : tmps.getD 2 undef = .pointer (some ⟨b, 0, none⟩)) (h3 : tmps.getD 3 undef = v) (h4 : tmps.getD 4 undef = e)
    (h : w.heap[b]? = some (.cells cs 27 (0, 0))) (hc : cs.size = 16) : (results fn tmps).run Try.prog w = .ok (.tuple #[.agg cs, v, e]) w := by
  have hl := loadvar27 h hc
  have h2' : tmps[2]?.getD undef = .pointer (some ⟨b, 0, none⟩) := by simpa using h2
  have h3' : tmps[3]?.getD undef = v := by simpa using h3
  have h4' : tmps[4]?.getD undef = e := by simpa using h4
  simp [results, hr, asAddr, hl, h2', h3', h4']

/-- The error of taking a service's tag. -/
def tiE (l : List Int) : Int := if l.length < 16 then 6 else if l.getD 0 0 % 8 = 0 then 0 else 20
def tiP (l : List Int) : Int := if tiE l = 0 then l.getD 0 0 / 32 else 0
def tiD (l : List Int) : Bool := if tiE l = 0 then l.getD 0 0 / 16 % 2 == 1 else false
def tiU (l : List Int) : Bool := if tiE l = 0 then l.getD 0 0 / 8 % 2 == 1 else false
def tiI (l : List Int) : Int := if tiE l = 0 then l.getD 1 0 * 65536 + l.getD 2 0 * 256 + l.getD 3 0 else 0
def tiX (l : List Int) (k : Nat) : Int := if tiE l = 0 then l.getD k 0 else 0
/-- What stands behind the tag. -/
def tiR (l : List Int) : List Int := if tiE l = 0 then l.drop 16 else []

/-- What taking a service's tag answers. -/
def TiOut (w : World) (l : List Int) (r : Ending) (w' : World) : Prop :=
  ∃ s, r = .returned (.tuple #[.agg #[.int .i64 (tiP l), .bool (tiD l), .bool (tiU l), .int .i64 (tiI l), .int .u8 (tiX l 4), .int .u8 (tiX l 5), .int .u8 (tiX l 6), .int .u8 (tiX l 7), .int .u8 (tiX l 8), .int .u8 (tiX l 9), .int .u8 (tiX l 10), .int .u8 (tiX l 11), .int .u8 (tiX l 12), .int .u8 (tiX l 13), .int .u8 (tiX l 14), .int .u8 (tiX l 15)], s, .int .i64 (tiE l)]) ∧ Own w' w.heap.size s (tiR l) ∧ Below w.heap.size w w'

theorem ti_out_err {w w' : World} {l : List Int} (e : Int) (he : tiE l = e) (h0 : e ≠ 0) (hb : Below w.heap.size w w') :
    TiOut w l (.returned (.tuple #[.agg #[.int .i64 0, .bool false, .bool false, .int .i64 0, .int .u8 0, .int .u8 0, .int .u8 0, .int .u8 0, .int .u8 0, .int .u8 0, .int .u8 0, .int .u8 0, .int .u8 0, .int .u8 0, .int .u8 0, .int .u8 0], .slice none 0 0, .int .i64 e])) w' := by
  have h : ¬ tiE l = 0 := by rw [he]; exact h0
  refine ⟨.slice none 0 0, ?_, ?_, hb⟩
  · unfold tiP tiD tiU tiI tiX
    simp only [he, if_neg h0]
  · unfold tiR
    rw [if_neg h]
    exact own_nil _ _

/-- A reading, met in the walk: the world behind it is a letter. -/
theorem Calls.on_rd {args : Array Value} {w W : World} {b o L c x g n N k k' B2 B5 : Nat} {v : Value} {o2 o5 : Obj} {K : Ending → World → Prop} (S : RdSt w W b o L c x g n N k)
    (h : Calls Try.prog 73 args W fun r w' => r = .returned v ∧ RBt W w' g k') (T2 : W.heap[B2]? = some o2) (T5 : W.heap[B5]? = some o5) (h2 : B2 ≠ g) (h5 : B5 ≠ g)
    (kk : ∀ W', RdSt w W' b o L c x g n N k' → W'.heap[B2]? = some o2 → W'.heap[B5]? = some o5 → K (.returned v) W') : Calls Try.prog 73 args W K :=
  h.mono fun _ w' ⟨he, hb⟩ => by
    subst he
    exact kk w' (S.but ⟨w', hb.os, hb.tape, hb.output, hb.size, hb.rest⟩ hb.at_) ((hb.rest _ h2).trans T2) ((hb.rest _ h5).trans T5)

theorem cell_at {w : World} {b : Nat} {cs : Array Value} {t : TypeId} (h : w.heap[b]? = some (.cells cs t (0, 0))) (k : Nat) (v : Value) (hk : cs[k]? = some v) : w.cell? ⟨b, k, none⟩ = some v := by simp [World.cell?, h, hk]
theorem slS_mid (b o n c : Nat) (hk : 16 ≤ n) (hc : n ≤ c) (hm : c ≤ maxLen) (w : World) : (slS (.slice (some ⟨b, o, none⟩) n c) (some (.int .i64 4)) (some (.int .i64 16)) none).run Try.prog w = .ok (.slice (some ⟨b, o + 4, none⟩) 12 (c - 4)) w := by
  unfold slS maxLen at *
  have h1 : (16 : Int) ≤ (n : Int) := by omega
  have h2 : (n : Int) ≤ (c : Int) := by omega
  have h3 : (16 : Int) ≤ (c : Int) := by omega
  have h4 : ¬ c = 4 := by omega
  go_simp

theorem slS_mid2 (b o n c : Nat) (hk : 16 ≤ n) (hc : n ≤ c) (hm : c ≤ maxLen) (w : World) : (slS (.slice (some ⟨b, o + 4, none⟩) 12 (c - 4)) (some (.int .i64 6)) none none).run Try.prog w = .ok (.slice (some ⟨b, o + 4 + 6, none⟩) 6 (c - 4 - 6)) w := by
  have h := slS_drop b (o + 4) 12 (c - 4) 6 (by omega) (by omega) (by omega) w
  have e : dropV b (o + 4) 12 (c - 4) 6 = .slice (some ⟨b, o + 4 + 6, none⟩) 6 (c - 4 - 6) := by unfold dropV; rw [if_neg (by omega)]
  rw [e] at h
  exact h

/-- Byte k. -/
def gt (l : List Int) (k : Nat) : Int := l.getD k 0

theorem src_six {W : World} {b o : Nat} {l : List Int} (h : ∀ j, j < l.length → W.cell? ⟨b, o + j, none⟩ = some (.int .u8 (l.getD j 0))) (k : Nat) (hk : k + 6 ≤ l.length) :
    ∀ j v, ([Value.int .u8 (gt l k), .int .u8 (gt l (k + 1)), .int .u8 (gt l (k + 2)), .int .u8 (gt l (k + 3)), .int .u8 (gt l (k + 4)), .int .u8 (gt l (k + 5))] : List Value)[j]? = some v → W.cell? ((⟨b, o + k, none⟩ : Addr).add j) = some v := by
  intro j v hv
  rw [Addr.add_lit, Nat.add_assoc]
  have hj : j < 6 := by
    rcases Nat.lt_or_ge j 6 with h | h
    · exact h
    · rw [List.getElem?_eq_none (by simpa using h)] at hv; cases hv
  rw [h (k + j) (by omega)]
  have hj' : j = 0 ∨ j = 1 ∨ j = 2 ∨ j = 3 ∨ j = 4 ∨ j = 5 := by omega
  rcases hj' with rfl | rfl | rfl | rfl | rfl | rfl <;> simpa [gt] using hv

/-- Six bytes, copied into a variable of type 27. -/
theorem copy_six {w W : World} {t t' off b so sl sc : Nat} {pre mid post news : List Value} {o2 : Obj} (C : W.heap[t]? = some (.cells (pre ++ mid ++ post).toArray 27 (0, 0))) (A : W.heap[t']? = some o2) (hne : t' ≠ t) (hwt : w.heap.size ≤ t)
    (h1 : pre.length = off) (h2 : mid.length = 6) (h3 : news.length = 6) (hsl : 6 ≤ sl)
    (hsrc : ∀ j v, news[j]? = some v → W.cell? ((⟨b, so, none⟩ : Addr).add j) = some v) (hb : Below w.heap.size w W) (hone : ∀ v ∈ news, v.oneCell' = true) :
    ∃ W', (∀ ty, (Builtin.copy_ #[28, 28] ty #[.slice (some ⟨t, off, none⟩) 6 6, .slice (some ⟨b, so, none⟩) sl sc]).run Try.prog W = .ok (goInt 6) W') ∧ (∀ i k, i ≠ t → W'.cell? ⟨i, k, none⟩ = W.cell? ⟨i, k, none⟩) ∧
      W'.heap[t]? = some (.cells (pre ++ news ++ post).toArray 27 (0, 0)) ∧ W'.heap[t']? = some o2 ∧ Below w.heap.size w W' := by
  refine ⟨W.setRow t (pre ++ news ++ post).toArray, fun ty => ?_, fun i k hi => cell_setRow_other _ _ _ _ hi, setRow_heap _ _ _ _ _ _ C, (setRow_other _ _ _ _ hne).trans A, below_setRow hb hwt _⟩
  have := run_copy_row (P := Try.prog) W 28 28 ty 5 t off 6 6 ⟨b, so, none⟩ sl sc (pre ++ mid ++ post).toArray 27 news Try.underlying28 (by kernel_rfl) C (by rw [h3]; exact (Nat.min_eq_right hsl).symm) hsrc (by simp; omega) hone
  rw [this, h3]
  congr 2
  subst h1
  simp [List.drop_append, h2, h3, List.take_append]

end Go.Proofs.Yteljcgdenagcmaa
