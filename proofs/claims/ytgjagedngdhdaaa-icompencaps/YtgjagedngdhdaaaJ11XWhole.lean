/-
  Whole service's tags, loaded and stored; what taking one answers. The walks of putting a type ahead of parts, for every number and all parts. The walk of taking a tag by definition, for all bytes.
-/
import Derived.Test.YtgjagedngdhdaaaJ10XPutAny
import Derived.Laws.CopyRow
import Derived.Laws.Tables
import Derived.Laws.CopyOwn
import Derived.Test.YtgjagedngdhdaaaJ08XBytes
namespace Go.Proofs.Ytgjagedngdhdaaa

section
namespace S4
set_option linter.unusedVariables false
set_option maxRecDepth 4000
set_option linter.unusedSimpArgs false
open Go.RowKit

/-- A whole service's tag, stored. -/
def stS_ITag (x y : Value) : Sem Unit := Instr.storeAt 47 x y
theorem stS27_eq (x y : Value) : Instr.storeAt 47 x y = stS_ITag x y := rfl

theorem store27 {w : World} {g : Nat} {cur cs : Array Value} (h : w.heap[g]? = some (.cells cur 47 (0, 0))) (h1 : cur.size = 16) (h2 : cs.size = 16) (h3 : ∀ v ∈ cs.toList, v.oneCell' = true) :
    (stS_ITag (.pointer (some ⟨g, 0, none⟩)) (.agg cs)).run Try.prog w = .ok () (w.setRow g cs) := by
  have hs := run_storeCells_at Try.prog g 0 47 cs.toList 0 cur w h (by simp; omega) h3
  have hi : ∃ i, Try.prog.info? 47 = some i ∧ i.size = 16 := by
    have := info_ITag
    cases hq : Try.prog.info? 47 with
    | none => rw [hq] at this; cases this
    | some i => rw [hq] at this; exact ⟨i, rfl, by simpa using this⟩
  obtain ⟨i, hi1, hi2⟩ := hi
  have e : (cur.toList.take (0 + 0) ++ cs.toList ++ cur.toList.drop (0 + 0 + cs.toList.length)).toArray = cs := by
    have : cur.toList.drop (0 + 0 + cs.toList.length) = [] := List.drop_eq_nil_of_le (by simp; omega)
    rw [this]
    simp
  rw [e] at hs
  unfold stS_ITag
  simp [Instr.storeAt, Instr.sureAddr, storeVar, sizeOf, typeInfo, hi1, hi2, Value.cells, h2, hs]

theorem loadrow27 {w : World} {b : Nat} {cs : Array Value} (h : w.heap[b]? = some (.cells cs 47 (0, 0))) (h2 : cs.size = 16) :
    (ldS_ITag (.pointer (some ⟨b, 0, none⟩))).run Try.prog w = .ok (.agg cs) w := by
  unfold ldS_ITag
  have := run_loadVar_row (P := Try.prog) w b 47 47 cs (0, 0) _ h Try.underlying47 rfl (by rw [h2]; exact info_ITag)
  simp only [Instr.loadAt, Instr.sureAddr, Sem.run_bind, Sem.run_pure, Result.andThen_ok, this]

theorem loadvar27 {w : World} {b : Nat} {cs : Array Value} (h : w.heap[b]? = some (.cells cs 47 (0, 0))) (h2 : cs.size = 16) :
    (loadVar 47 ⟨b, 0, none⟩).run Try.prog w = .ok (.agg cs) w :=
  run_loadVar_row (P := Try.prog) w b 47 47 cs (0, 0) _ h Try.underlying47 rfl (by rw [h2]; exact info_ITag)

/-- What a call answers whose first result lies in a variable of type 27, the others in slots. -/
theorem results27 {fn : Func} (hr : fn.results = #[.cell 2 47, .tmp 3, .tmp 4]) (tmps : Array Value) (w : World) (b : Nat) (cs : Array Value) (v e : Value) (h2 : tmps.getD 2 undef = .pointer (some ⟨b, 0, none⟩)) (h3 : tmps.getD 3 undef = v) (h4 : tmps.getD 4 undef = e)
    (h : w.heap[b]? = some (.cells cs 47 (0, 0))) (hc : cs.size = 16) : (results fn tmps).run Try.prog w = .ok (.tuple #[.agg cs, v, e]) w := by
  have hl := loadvar27 h hc
  have h2' : tmps[2]?.getD undef = .pointer (some ⟨b, 0, none⟩) := by simpa using h2
  have h3' : tmps[3]?.getD undef = v := by simpa using h3
  have h4' : tmps[4]?.getD undef = e := by simpa using h4
  simp [results, hr, asAddr, hl, h2', h3', h4']

/-- The error of taking a service's tag. -/
def tiE (l : List Int) : Int := if l.length < 16 then 6 else if l.getD 0 0 % 8 = 0 then 0 else 20
def tiP (l : List Int) : Int := if tiE l = 0 then l.getD 0 0 / 32 else 0
def tiD (l : List Int) : Bool := if tiE l = 0 then l.getD 0 0 / 16 % 2 == 1 else false
def tiU (l : List Int) : Bool := if tiE l = 0 then l.getD 0 0 / 8 % 2 == 1 else false
def tiI (l : List Int) : Int := if tiE l = 0 then l.getD 1 0 * 65536 + l.getD 2 0 * 256 + l.getD 3 0 else 0
def tiX (l : List Int) (k : Nat) : Int := if tiE l = 0 then l.getD k 0 else 0
/-- What stands behind the tag. -/
def tiR (l : List Int) : List Int := if tiE l = 0 then l.drop 16 else []

/-- What taking a service's tag answers. -/
def TiOut (w : World) (l : List Int) (r : Ending) (w' : World) : Prop :=
  ∃ s, r = .returned (.tuple #[.agg #[.int .i64 (tiP l), .bool (tiD l), .bool (tiU l), .int .i64 (tiI l), .int .u8 (tiX l 4), .int .u8 (tiX l 5), .int .u8 (tiX l 6), .int .u8 (tiX l 7), .int .u8 (tiX l 8), .int .u8 (tiX l 9), .int .u8 (tiX l 10), .int .u8 (tiX l 11), .int .u8 (tiX l 12), .int .u8 (tiX l 13), .int .u8 (tiX l 14), .int .u8 (tiX l 15)], s, .int .i64 (tiE l)]) ∧ Own w' w.heap.size s (tiR l) ∧ Below w.heap.size w w'

theorem ti_out_err {w w' : World} {l : List Int} (e : Int) (he : tiE l = e) (h0 : e ≠ 0) (hb : Below w.heap.size w w') :
    TiOut w l (.returned (.tuple #[.agg #[.int .i64 0, .bool false, .bool false, .int .i64 0, .int .u8 0, .int .u8 0, .int .u8 0, .int .u8 0, .int .u8 0, .int .u8 0, .int .u8 0, .int .u8 0, .int .u8 0, .int .u8 0, .int .u8 0, .int .u8 0], .slice none 0 0, .int .i64 e])) w' := by
  have h : ¬ tiE l = 0 := by rw [he]; exact h0
  refine ⟨.slice none 0 0, ?_, ?_, hb⟩
  · unfold tiP tiD tiU tiI tiX
    simp only [he, if_neg h0]
  · unfold tiR
    rw [if_neg h]
    exact own_nil _ _

/-- A reading, met in the walk: the world behind it is a letter. -/
theorem Calls.on_rd {args : Array Value} {w W : World} {b o L c x g n N k k' B2 B5 : Nat} {v : Value} {o2 o5 : Obj} {K : Ending → World → Prop} (S : RdSt w W b o L c x g n N k)
    (h : Calls Try.prog 113 args W fun r w' => r = .returned v ∧ RBt W w' g k') (T2 : W.heap[B2]? = some o2) (T5 : W.heap[B5]? = some o5) (h2 : B2 ≠ g) (h5 : B5 ≠ g)
    (kk : ∀ W', RdSt w W' b o L c x g n N k' → W'.heap[B2]? = some o2 → W'.heap[B5]? = some o5 → K (.returned v) W') : Calls Try.prog 113 args W K :=
  h.mono fun _ w' ⟨he, hb⟩ => by
    subst he
    exact kk w' (S.but ⟨w', hb.os, hb.tape, hb.output, hb.size, hb.rest⟩ hb.at_) ((hb.rest _ h2).trans T2) ((hb.rest _ h5).trans T5)

theorem cell_at {w : World} {b : Nat} {cs : Array Value} {t : TypeId} (h : w.heap[b]? = some (.cells cs t (0, 0))) (k : Nat) (v : Value) (hk : cs[k]? = some v) : w.cell? ⟨b, k, none⟩ = some v := by simp [World.cell?, h, hk]
theorem slS_mid (b o n c : Nat) (hk : 16 ≤ n) (hc : n ≤ c) (hm : c ≤ maxLen) (w : World) : (slS (.slice (some ⟨b, o, none⟩) n c) (some (.int .i64 4)) (some (.int .i64 16)) none).run Try.prog w = .ok (.slice (some ⟨b, o + 4, none⟩) 12 (c - 4)) w := by
  unfold slS maxLen at *
  have h1 : (16 : Int) ≤ (n : Int) := by omega
  have h2 : (n : Int) ≤ (c : Int) := by omega
  have h3 : (16 : Int) ≤ (c : Int) := by omega
  have h4 : ¬ c = 4 := by omega
  go_simp

theorem slS_mid2 (b o n c : Nat) (hk : 16 ≤ n) (hc : n ≤ c) (hm : c ≤ maxLen) (w : World) : (slS (.slice (some ⟨b, o + 4, none⟩) 12 (c - 4)) (some (.int .i64 6)) none none).run Try.prog w = .ok (.slice (some ⟨b, o + 4 + 6, none⟩) 6 (c - 4 - 6)) w := by
  have h := slS_drop b (o + 4) 12 (c - 4) 6 (by omega) (by omega) (by omega) w
  have e : dropV b (o + 4) 12 (c - 4) 6 = .slice (some ⟨b, o + 4 + 6, none⟩) 6 (c - 4 - 6) := by unfold dropV; rw [if_neg (by omega)]
  rw [e] at h
  exact h

/-- Byte k. -/
def gt (l : List Int) (k : Nat) : Int := l.getD k 0

theorem src_six {W : World} {b o : Nat} {l : List Int} (h : ∀ j, j < l.length → W.cell? ⟨b, o + j, none⟩ = some (.int .u8 (l.getD j 0))) (k : Nat) (hk : k + 6 ≤ l.length) :
    ∀ j v, ([Value.int .u8 (gt l k), .int .u8 (gt l (k + 1)), .int .u8 (gt l (k + 2)), .int .u8 (gt l (k + 3)), .int .u8 (gt l (k + 4)), .int .u8 (gt l (k + 5))] : List Value)[j]? = some v → W.cell? ((⟨b, o + k, none⟩ : Addr).add j) = some v := by
  intro j v hv
  rw [Addr.add_lit, Nat.add_assoc]
  have hj : j < 6 := by
    rcases Nat.lt_or_ge j 6 with h | h
    · exact h
    · rw [List.getElem?_eq_none (by simpa using h)] at hv; cases hv
  rw [h (k + j) (by omega)]
  have hj' : j = 0 ∨ j = 1 ∨ j = 2 ∨ j = 3 ∨ j = 4 ∨ j = 5 := by omega
  rcases hj' with rfl | rfl | rfl | rfl | rfl | rfl <;> simpa [gt] using hv

/-- Six bytes, copied into a variable of type 27. -/
theorem copy_six {w W : World} {t t' off b so sl sc : Nat} {pre mid post news : List Value} {o2 : Obj} (C : W.heap[t]? = some (.cells (pre ++ mid ++ post).toArray 47 (0, 0))) (A : W.heap[t']? = some o2) (hne : t' ≠ t) (hwt : w.heap.size ≤ t)
    (h1 : pre.length = off) (h2 : mid.length = 6) (h3 : news.length = 6) (hsl : 6 ≤ sl)
    (hsrc : ∀ j v, news[j]? = some v → W.cell? ((⟨b, so, none⟩ : Addr).add j) = some v) (hb : Below w.heap.size w W) (hone : ∀ v ∈ news, v.oneCell' = true) :
    ∃ W', (∀ ty, (Builtin.copy_ #[30, 30] ty #[.slice (some ⟨t, off, none⟩) 6 6, .slice (some ⟨b, so, none⟩) sl sc]).run Try.prog W = .ok (goInt 6) W') ∧ (∀ i k, i ≠ t → W'.cell? ⟨i, k, none⟩ = W.cell? ⟨i, k, none⟩) ∧
      W'.heap[t]? = some (.cells (pre ++ news ++ post).toArray 47 (0, 0)) ∧ W'.heap[t']? = some o2 ∧ Below w.heap.size w W' := by
  refine ⟨W.setRow t (pre ++ news ++ post).toArray, fun ty => ?_, fun i k hi => cell_setRow_other _ _ _ _ hi, setRow_heap _ _ _ _ _ _ C, (setRow_other _ _ _ _ hne).trans A, below_setRow hb hwt _⟩
  have := run_copy_row (P := Try.prog) W 30 30 ty 5 t off 6 6 ⟨b, so, none⟩ sl sc (pre ++ mid ++ post).toArray 47 news Try.underlying30 (by kernel_rfl) C (by rw [h3]; exact (Nat.min_eq_right hsl).symm) hsrc (by simp; omega) hone
  rw [this, h3]
  congr 2
  subst h1
  simp [List.drop_append, h2, h3, List.take_append]

end S4
end

section
namespace S4
set_option linter.unusedVariables false
set_option linter.unusedSimpArgs false
open Go.RowKit

/-- Parts, one by one: slice j leads to the bytes lf j. -/
def Parts (W : World) (pb k : Nat) (vf : Nat → Value) (lf : Nat → List Int) : Prop := ∀ j, j < k → W.cell? ⟨pb, j, none⟩ = some (vf j) ∧ Src W (vf j) (lf j) ∧ (lf j).length ≤ 2000
/-- A head, and j parts behind it. -/
def joined (hd : List Int) (lf : Nat → List Int) : Nat → List Int
  | 0 => hd
  | j + 1 => joined hd lf j ++ lf j

theorem Parts.below {W W' : World} {pb k : Nat} {vf : Nat → Value} {lf : Nat → List Int} (h : Parts W pb k vf lf) (hb : Below W.heap.size W W') : Parts W' pb k vf lf := fun j hj =>
  have h' := h j hj
  ⟨(hb.cell (p := ⟨pb, j, none⟩) (World.block_lt_of_cell? W _ h'.1)).trans h'.1, h'.2.1.below hb, h'.2.2⟩

theorem joined_len {W : World} {pb k : Nat} {vf : Nat → Value} {lf : Nat → List Int} (h : Parts W pb k vf lf) (hd : List Int) : ∀ j, j ≤ k → (joined hd lf j).length ≤ hd.length + 2000 * j
  | 0, _ => by simp [joined]
  | j + 1, hj => by
    have := joined_len h hd j (by omega)
    have h2 := (h j (by omega)).2.2
    simp only [joined, List.length_append]
    omega

/-- A type's bytes. -/
def typeL (n : Int) : List Int := [n / 256, n % 256]
/-- May a type be? -/
def typeOk (n : Int) : Bool := decide (0 ≤ n ∧ n ≤ 65535)

set_option maxHeartbeats 400000 in
theorem ptype_no (n : Int) (x : Value) (w : World) (h : n < 0 ∨ 65535 < n) :
    Calls Try.prog 115 #[.int .i64 n, x] w fun r w' => r = .returned (.tuple #[.slice none 0 0, .int .i64 1]) ∧ Below w.heap.size w w' := by
  by_cases h1 : n < 0
  all_goals
    go_enter Try.func115, Try.ntmps115
    go_wp2
    go_ret2
    exact ⟨rfl, Below.refl _ _⟩

set_option maxHeartbeats 800000 in
theorem ptype_nat (n pb k c : Nat) (vf : Nat → Value) (lf : Nat → List Int) (w : World) (hn : n ≤ 65535) (hk : k ≤ 2) (hkc : k ≤ c) (hP : Parts w pb k vf lf) :
    Calls Try.prog 115 #[.int .i64 n, .slice (some ⟨pb, 0, none⟩) k c] w fun r w' => ∃ s, r = .returned (.tuple #[s, .int .i64 0]) ∧ Own w' w.heap.size s (joined [byN 2 n 0, byN 2 n 1] lf k) ∧ Below w.heap.size w w' := by
  have hm := make2
  have hn1 : ¬ (n : Int) < 0 := by omega
  have hn2 : ¬ (65535 : Int) < (n : Int) := by omega
  have HP : Hid (Parts w pb k vf lf) := hP
  clear hP
  go_enter Try.func115, Try.ntmps115
  go_wp2_with fail
  refine Calls.on_writer (writer_any w _ _ 2 2 ((Below.refl _ _).alloc (Nat.le_refl _) _) (Nat.le_refl _) (RowAt.new _ _ 2 _ rfl (by intro j hj; match j, hj with | 0, _ => rfl | 1, _ => rfl))) ?_
  intro y1 x g h1
  have H1 : Hid (WAt _ _ _ _ _ _ _ _ _) := h1
  clear h1
  go_wp2_with fail
  refine Calls.on_write (write_any 16 n 0 2 2 _ g x 0 _ w (by omega) (by omega) (by omega) (by omega) (by omega) (by simp) H1.out) ?_
  clear H1 y1
  intro y2 h2
  have e4 : 0 + n * 2 ^ (8 * 2 - 0 - 16) = n := by simp
  rw [e4] at h2
  have ho : Hid (Own y2.val w.heap.size (.slice (some ⟨w.heap.size, 0, none⟩) 2 2) [byN 2 n 0, byN 2 n 1]) := h2.row.own w.heap.size 2 (Nat.le_refl _) (by omega) (by unfold maxLen; omega)
  have hb2 : Hid (Below w.heap.size w y2.val) := y2.below
  clear h2 e4
  obtain ⟨W2, hW2⟩ : ∃ W2, y2.val = W2 := ⟨_, rfl⟩
  rw [hW2] at ho hb2 ⊢
  clear hW2 y2
  go_wp2
  go_loopw [6, 24] (fun v6 v24 wr => ∃ j : Nat, j ≤ k ∧ v24 = .int .i64 j ∧ Own wr w.heap.size v6 (joined [byN 2 n 0, byN 2 n 1] lf j) ∧ Below w.heap.size w wr) (fun _ v24 _ => k - (intOf v24).toNat)
  case atStart => exact ⟨0, by omega, rfl, ho.out, hb2.out⟩
  case round =>
    obtain ⟨j, hj, rfl, hoj, hbj⟩ := hrel
    by_cases hlt : j < k
    · have hp := HP.out.below hbj
      have hpj := hp j hlt
      have hc1 := hpj.1
      have hlen : (joined [byN 2 n 0, byN 2 n 1] lf j).length + (lf j).length ≤ 100000 := by
        have := joined_len hp [byN 2 n 0, byN 2 n 1] j (by omega)
        have h2 := hpj.2.2
        simp at this
        omega
      have hS : Hid (Src _ (vf j) (lf j)) := hpj.2.1
      have HO : Hid (Own _ _ _ _) := hoj
      have HB : Hid (Below w.heap.size w _) := hbj
      have hj1 : (j : Int) < (k : Int) := by omega
      have hj0 : (0 : Int) ≤ (j : Int) := by omega
      clear hp hpj hoj hbj
      go_wp2_with (at_builtin; refine wpList_app rfl _ _ rfl (by rfl) (by rfl) HO.out hS.out hlen HB.out.size ?_)
      intro v7 w7 ho7 hg7 hat7
      have HO7 : Hid (Own w7 w.heap.size v7 (joined [byN 2 n 0, byN 2 n 1] lf (j + 1))) := ho7
      have HB7 : Hid (Below w.heap.size w w7) := HB.out.trans (grown_below HO.out hg7 HB.out.size)
      clear ho7 hg7 hat7 HO HB hS hc1 hlen
      go_wp2
      go_roundw
      case rel => exact ⟨j + 1, by omega, by go_num, HO7.out, HB7.out⟩
      case measure => simp [intOf]; omega
    · have : j = k := by omega
      subst this
      have HO : Hid (Own _ _ _ _) := hoj
      have HB : Hid (Below w.heap.size w _) := hbj
      clear hoj hbj
      go_wp2
      go_ret2
      exact ⟨_, rfl, HO.out, HB.out⟩

theorem ptype_yes (n : Int) (pb k c : Nat) (vf : Nat → Value) (lf : Nat → List Int) (w : World) (hn : 0 ≤ n ∧ n ≤ 65535) (hk : k ≤ 2) (hkc : k ≤ c) (hP : Parts w pb k vf lf) :
    Calls Try.prog 115 #[.int .i64 n, .slice (some ⟨pb, 0, none⟩) k c] w fun r w' => ∃ s, r = .returned (.tuple #[s, .int .i64 0]) ∧ Own w' w.heap.size s (joined (typeL n) lf k) ∧ Below w.heap.size w w' := by
  obtain ⟨N, rfl⟩ := Int.eq_ofNat_of_zero_le hn.1
  have := ptype_nat N pb k c vf lf w (by omega) hk hkc hP
  have e : [byN 2 N 0, byN 2 N 1] = typeL N := by
    unfold typeL byN
    simp
    omega
  rw [e] at this
  exact this
end S4
end

section
namespace S4
set_option linter.unusedVariables false
open Go.RowKit

attribute [local go_sem ↓] slS_eq

set_option maxHeartbeats 400000 in
theorem takeref_short (a : Option Addr) (n c : Nat) (l : List Int) (w : World) (h : Src w (.slice a n c) l) (hs : l.length < 2) :
    Calls Try.prog 60 #[.slice a n c] w fun r w' => TkOut w l r w' := by
  obtain ⟨hn, hc, hm⟩ := src_short h
  clear h
  have hn2 : n < 2 := by omega
  have hn3 : (n : Int) < 2 := by omega
  have hE : Hid (tkE l = 6) := by unfold tkE; rw [if_pos hs]; rfl
  clear hn hs
  go_enter Try.func60, Try.ntmps60
  go_wp2
  go_returns
  exact tk_out_err 6 hE.out (by decide) (by go_grown)

theorem own_empty (W : World) (B : Nat) (hB : B ≤ W.heap.size) : Own (W.alloc (.cells #[] 5)) B (.slice (some ⟨W.heap.size, 0, none⟩) 0 0) [] := own_new W [] _ _ #[] rfl rfl hB (by simp)

set_option maxHeartbeats 800000 in
theorem takeref_long (b o n c N : Nat) (l : List Int) (w : World) (h : Src w (.slice (some ⟨b, o, none⟩) n c) l) (h2 : 2 ≤ l.length) (hl : l.length ≤ 2000) (hN : N < 65536) (x0 x1 : Int) (hx0 : 0 ≤ x0 ∧ x0 ≤ 255) (hx1 : 0 ≤ x1 ∧ x1 ≤ 255) (hx : x0 * 256 + x1 = N)
    (hr0 : w.cell? ⟨b, o, none⟩ = some (.int .u8 x0)) (hr1 : w.cell? ⟨b, o + 1, none⟩ = some (.int .u8 x1))
    (hE : tagOk ((N : Int) / 8192) ((N : Int) % 4096) = false → tkE l = 20)
    (hY : tagOk ((N : Int) / 8192) ((N : Int) % 4096) = true → tkE l = 0 ∧ tkP l = ((N : Int) / 8192) ∧ tkD l = ((N : Int) / 4096 % 2 == 1) ∧ tkV l = ((N : Int) % 4096)) :
    Calls Try.prog 60 #[.slice (some ⟨b, o, none⟩) n c] w fun r w' => TkOut w l r w' := by
  obtain ⟨hn, hc, hm⟩ := src_short h
  have hbw : b < w.heap.size := World.block_lt_of_cell? _ _ hr0
  have hn2 : 2 ≤ n := by omega
  have hn4 : n ≤ 2000 := by omega
  have hn3 : ¬ (n : Int) < 2 := by omega
  have i0 : (0 : Int) < (n : Int) := by omega
  have i1 : (1 : Int) < (n : Int) := by omega
  have hH : Hid (Src w (.slice (some ⟨b, o, none⟩) n c) l) := h
  have hlL : l.length ≤ 2002 := by omega
  clear h hn h2 hl
  go_enter Try.func60, Try.ntmps60
  go_wp2
  go_quiet (fail)
  go_wp2_with fail
  by_cases hk : tagOk ((N : Int) / 8192) ((N : Int) % 4096) = true
  · refine Calls.on_later (is_any _ _ _ _) ?_
    intro y
    have By : Hid (Below w.heap.size w y.val) := below_later ((below_dn ((Below.refl _ _).alloc (Nat.le_refl _) _) nq).alloc (by simp) _) y
    have t2 : y.val.heap[w.heap.size]? = some (.cells #[.int .i64 0, .bool false, .int .i64 0] 32 (0, 0)) := by
      rw [y.below.block _ (by simp; omega), Below.heap_alloc _ _ _ (by simp)]
      exact alloc_at w _
    have t5 : y.val.heap[w.heap.size + 1]? = some (.cells #[.int .i64 ((N : Int) / 8192), .bool ((N : Int) / 4096 % 2 == 1), .int .i64 ((N : Int) % 4096)] 32 (0, 0)) := by
      rw [y.below.block _ (by simp)]
      have := alloc_at ((w.alloc (.cells #[.int .i64 0, .bool false, .int .i64 0] 32)).drewN nq) (.cells #[.int .i64 ((N : Int) / 8192), .bool ((N : Int) / 4096 % 2 == 1), .int .i64 ((N : Int) % 4096)] 32)
      simpa using this
    obtain ⟨Wy, hWy⟩ : ∃ Wy, y.val = Wy := ⟨_, rfl⟩
    rw [hWy] at t2 t5 By ⊢
    clear hWy y
    have t50 := cell3_0 t5
    have t51 := cell3_1 t5
    have t52 := cell3_2 t5
    have c20 := cell3_0 t2
    have c21 := cell3_1 t2
    have c22 := cell3_2 t2
    have f2 := frozen3 t2
    have s0 := set3_0 t2
    have s1 := set3_1 t2
    have s2 := set3_2 t2
    have hD : Hid (∀ W, Below Wy.heap.size Wy W → Src W (dropV b o n c 2) (l.drop 2)) := fun W hW => (src_dropV (hH.out.below By.out) 2 hn2).below hW
    have hO : Hid (Own (Wy.alloc (.cells #[] 5)).drew Wy.heap.size (.slice (some ⟨Wy.heap.size, 0, none⟩) 0 0) []) := own_empty Wy _ (Nat.le_refl _)
    have hA : Hid (Below Wy.heap.size Wy (Wy.alloc (.cells #[] 5)).drew) := ((Below.refl _ _).alloc (Nat.le_refl _) _).drew
    have hB0 := hA.out.size
    have hlD' : ([] : List Int).length + (l.drop 2).length ≤ 100000 := by simp; omega
    have hsl : ∀ W, (slS (.slice (some ⟨b, o, none⟩) n c) (some (.int .i64 2)) none none).run Try.prog W = .ok (dropV b o n c 2) W := fun W => slS_drop b o n c 2 hn2 hc hm W
    have hlt := lt_of_block t2
    have hlt5 := lt_of_block t5
    clear t5
    go_wp2
    go_region_held3 (fun w' => w'.cell? ⟨w.heap.size + 1, 0, none⟩ = some (.int .i64 ((N : Int) / 8192)) ∧ w'.cell? ⟨w.heap.size + 1, 1, none⟩ = some (.bool ((N : Int) / 4096 % 2 == 1)) ∧ w'.cell? ⟨w.heap.size + 1, 2, none⟩ = some (.int .i64 ((N : Int) % 4096))) (go_keep) ((refine step_app (by rfl) _ _ (by rfl) (by rfl) (by rfl) hO.out (hD.out _ hA.out) hlD' hB0 ?_; intro s7 w7 ho7 hg7 hat7; have hb7 := hA.out.trans ((grown_below hO.out hg7 hB0).mono (Nat.le_refl _)); have t7 := (hb7.block _ hlt).trans t2; have k0 := (hb7.cell (p := ⟨w.heap.size + 1, 0, none⟩) hlt5).trans t50; have k1 := (hb7.cell (p := ⟨w.heap.size + 1, 1, none⟩) hlt5).trans t51; have k2 := (hb7.cell (p := ⟨w.heap.size + 1, 2, none⟩) hlt5).trans t52; have d0 := cell3_0 t7; have d1 := cell3_1 t7; have d2 := cell3_2 t7; have f7 := frozen3 t7))
    have r0 := set3_0 t7
    have r1 := set3_1 t7
    have r2 := set3_2 t7
    have HO : Hid (Own w7 Wy.heap.size s7 (l.drop 2)) := ho7
    have HB : Hid (Below w.heap.size w w7) := By.out.trans (hb7.mono (Nat.le_of_lt hlt))
    clear ho7 hg7 hat7 hb7 d0 d1 d2 f7 k0 k1 k2 t7 hD hsl
    go_wp2
    refine bodyPost_ret (v := .tuple #[.agg #[.int .i64 ((N : Int) / 8192), .bool ((N : Int) / 4096 % 2 == 1), .int .i64 ((N : Int) % 4096)], s7, .int .i64 0]) (by simp [results, Try.results60, go_sem, r0, r1, r2]) rfl ?_
    obtain ⟨y1, y2, y3, y4⟩ := hY hk
    refine ⟨s7, by rw [y1, y2, y3, y4], ?_, ((HB.out.setCell (by simp) _).setCell (by simp) _).setCell (by simp) _⟩
    have e : tkR l = l.drop 2 := by unfold tkR; rw [if_pos y1]
    rw [e]
    exact Own.base (ownsRow_setCell_below (ownsRow_setCell_below (ownsRow_setCell_below HO.out (by simpa using hlt) _) (by simpa using hlt) _) (by simpa using hlt) _) (Nat.le_of_lt hlt)
  · have hk' : tagOk ((N : Int) / 8192) ((N : Int) % 4096) = false := by simpa using hk
    clear hk
    refine Calls.on_later (is_any _ _ _ _) ?_
    intro y
    have By : Hid (Below w.heap.size w y.val) := below_later ((below_dn ((Below.refl _ _).alloc (Nat.le_refl _) _) nq).alloc (by simp) _) y
    have t2 : y.val.heap[w.heap.size]? = some (.cells #[.int .i64 0, .bool false, .int .i64 0] 32 (0, 0)) := by
      rw [y.below.block _ (by simp; omega), Below.heap_alloc _ _ _ (by simp)]
      exact alloc_at w _
    have t5 : y.val.heap[w.heap.size + 1]? = some (.cells #[.int .i64 ((N : Int) / 8192), .bool ((N : Int) / 4096 % 2 == 1), .int .i64 ((N : Int) % 4096)] 32 (0, 0)) := by
      rw [y.below.block _ (by simp)]
      have := alloc_at ((w.alloc (.cells #[.int .i64 0, .bool false, .int .i64 0] 32)).drewN nq) (.cells #[.int .i64 ((N : Int) / 8192), .bool ((N : Int) / 4096 % 2 == 1), .int .i64 ((N : Int) % 4096)] 32)
      simpa using this
    obtain ⟨Wy, hWy⟩ : ∃ Wy, y.val = Wy := ⟨_, rfl⟩
    rw [hWy] at t2 t5 By ⊢
    clear hWy y
    have t50 := cell3_0 t5
    have t51 := cell3_1 t5
    have t52 := cell3_2 t5
    have c20 := cell3_0 t2
    have c21 := cell3_1 t2
    have c22 := cell3_2 t2
    have f2 := frozen3 t2
    have s0 := set3_0 t2
    have s1 := set3_1 t2
    have s2 := set3_2 t2
    go_wp2
    refine bodyPost_ret (v := .tuple #[.agg #[.int .i64 0, .bool false, .int .i64 0], .slice none 0 0, .int .i64 20]) (by simp [results, Try.results60, go_sem, s0, s1, s2]) rfl ?_
    refine tk_out_err 20 (hE hk') (by decide) ?_
    exact ((By.out.setCell (by simp) _).setCell (by simp) _).setCell (by simp) _

theorem takeref_any (a : Option Addr) (n c : Nat) (l : List Int) (w : World) (h : Src w (.slice a n c) l) (hl : l.length ≤ 2000) (hb : ∀ x ∈ l, 0 ≤ x ∧ x ≤ 255) :
    Calls Try.prog 60 #[.slice a n c] w fun r w' => TkOut w l r w' := by
  by_cases h2 : l.length < 2
  · exact takeref_short a n c l w h h2
  · obtain ⟨b, o, rfl, _, hj⟩ := src_some h (by omega)
    obtain ⟨N, hN, hN2, hby⟩ := two_bytes (by omega) hb
    have hx0 : 0 ≤ l.getD 0 0 ∧ l.getD 0 0 ≤ 255 := by
      have := byN_bd 2 N 0
      rw [hby 0 (by omega)] at this
      omega
    have hx1 : 0 ≤ l.getD 1 0 ∧ l.getD 1 0 ≤ 255 := by
      have := byN_bd 2 N 1
      rw [hby 1 (by omega)] at this
      omega
    refine takeref_long b o n c N l w h (by omega) hl hN2 (l.getD 0 0) (l.getD 1 0) hx0 hx1 hN (hj 0 (by omega)) (hj 1 (by omega)) ?_ ?_
    · intro hk
      rw [← hN] at hk
      unfold tkE
      rw [if_neg h2, hk]
      rfl
    · intro hk
      rw [← hN] at hk
      have h0 : tkE l = 0 := by unfold tkE; rw [if_neg h2, hk]; rfl
      unfold tkP tkD tkV
      rw [h0, ← hN]
      exact ⟨rfl, if_pos rfl, if_pos rfl, if_pos rfl⟩
end S4
end

end Go.Proofs.Ytgjagedngdhdaaa
