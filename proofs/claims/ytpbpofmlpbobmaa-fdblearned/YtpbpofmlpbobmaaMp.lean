/-
  The map of entries: what its block holds, as a list in order; look-up, store, delete, length, range. Plain laws over the program's types.
-/
import Derived.Test.YtpbpofmlpbobmaaRv
import Derived.Test.YtpbpofmlpbobmaaPure
import Derived.Maps.RangeWalk
import Derived.Maps.Ext
import Derived.DeepKeys4
namespace Go.Proofs.Ytpbpofmlpbobmaa
set_option linter.unusedVariables false
set_option maxRecDepth 4000
set_option linter.unusedSimpArgs false
open Go.RowKit Go.Maps

def Ky.cs (k : Ky) : Array Value := #[.int .i64 k.vid, .int .u8 k.a, .int .u8 k.b, .int .u8 k.c, .int .u8 k.d, .int .u8 k.e, .int .u8 k.f]
def En.pc (x : En) : Array Value := #[.int .i64 x.port, .bool x.st, .int .i64 x.seen]
theorem Ky.cs_inj {k q : Ky} (h : k.cs = q.cs) : k = q := by
  obtain ⟨v, a, b, c, d, e, f⟩ := k
  obtain ⟨v', a', b', c', d', e', f'⟩ := q
  simp [Ky.cs] at h
  obtain ⟨rfl, rfl, rfl, rfl, rfl, rfl, rfl⟩ := h
  rfl
/-- How a place reads. -/
def Rp (v : Value) : Option (DataW Unit × List MemPlace) :=
  match v with
  | .agg cs => match cs.toList with
    | [.int .i64 p, .bool s, .int .i64 t] => some (.agg [.lit (.int .i64 p), .lit (.bool s), .lit (.int .i64 t)], [])
    | _ => none
  | _ => none
/-- What an entry's place reads as. -/
def En.dt (x : En) : DataW Unit := .agg [.lit (.int .i64 x.port), .lit (.bool x.st), .lit (.int .i64 x.seen)]
theorem Rp_mk (x : En) : Rp (.agg x.pc) = some (x.dt, []) := rfl
theorem Rp_inv {v : Value} {d : DataW Unit} {ps : List MemPlace} (h : Rp v = some (d, ps)) {x : En} (e : d = x.dt) : v = .agg x.pc := by
  subst e
  unfold Rp at h
  split at h
  · rename_i cs
    split at h
    · rename_i p s t hl
      simp only [Option.some.injEq, Prod.mk.injEq, En.dt] at h
      obtain ⟨h1, _⟩ := h
      simp at h1
      obtain ⟨rfl, rfl, rfl⟩ := h1
      have : cs = (#[.int .i64 x.port, .bool x.st, .int .i64 x.seen] : Array Value) := by
        apply Array.ext'
        rw [hl]
      rw [this]
      rfl
    · cases h
  · cases h
theorem laidOut : laidOutB Try.prog = true := by kernel_rfl
theorem keyWide : (match Try.prog.underlying 68 with | some (.array _ _) | some (.struct _) => true | _ => false) = true := by rw [Try.underlying68]
theorem law : Keyed Try.prog 68 := Keyed.of_law (deep_law_laid laidOut (m := 3) (by omega) (by decide +kernel) (by kernel_rfl) keyWide)
theorem keyT : Try.prog.keyType 68 = true := by kernel_rfl
theorem keyCells : Try.prog.cellsOf 68 = 7 := by kernel_rfl
theorem macCells : Try.prog.cellsOf 34 = 6 := by kernel_rfl
theorem intCells : Try.prog.cellsOf 3 = 1 := by kernel_rfl
theorem u8Cells : Try.prog.cellsOf 5 = 1 := by kernel_rfl
theorem wf_u8 {n : Int} (h : 0 ≤ n ∧ n ≤ 255) : (Lit.int .u8 n).wf = true := by simp [Lit.wf, IntKind.min, IntKind.max, IntKind.signed, IntKind.bits]; omega
theorem wf_i64' {n : Int} (h : -9223372036854775808 ≤ n ∧ n ≤ 9223372036854775807) : (Lit.int .i64 n).wf = true := by simp [Lit.wf, IntKind.min, IntKind.max, IntKind.signed, IntKind.bits]; omega
theorem lit_u8 (d : Nat) {n : Int} (h : 0 ≤ n ∧ n ≤ 255) : Try.prog.keyLits (d + 1) 5 [.int .u8 n] = some [.int .u8 n] := by
  simp only [Program.keyLits, Try.underlying5, wf_u8 h, and_self, if_true]
theorem lits_array {P : Program} {d n : Nat} {t e : TypeId} {cs : List Value} (h : P.underlying t = some (.array n e)) (hc : cs.length = P.cellsOf t) :
    P.keyLits (d + 1) t cs = ((List.range n).mapM fun i => P.keyLits d e ((cs.drop (i * P.cellsOf e)).take (P.cellsOf e))).map List.flatten := by
  simp only [Program.keyLits, h, hc, if_true]
theorem lits_struct {P : Program} {d : Nat} {t : TypeId} {fs : Array Field} {cs : List Value} (h : P.underlying t = some (.struct fs)) (hc : cs.length = P.cellsOf t) (hf : fs.all (·.name != "_") = true) :
    P.keyLits (d + 1) t cs = (fs.toList.mapM fun f => P.keyLits d f.type ((cs.drop f.offset).take (P.cellsOf f.type))).map List.flatten := by
  simp only [Program.keyLits, h, hc, hf, and_self, if_true]
theorem lit_mac (D : Nat) (k : Ky) (h : k.wf) : Try.prog.keyLits (D + 2) 34 [.int .u8 k.a, .int .u8 k.b, .int .u8 k.c, .int .u8 k.d, .int .u8 k.e, .int .u8 k.f] = some [.int .u8 k.a, .int .u8 k.b, .int .u8 k.c, .int .u8 k.d, .int .u8 k.e, .int .u8 k.f] := by
  obtain ⟨_, h1, h2, h3, h4, h5, h6⟩ := h
  rw [lits_array Try.underlying34 (by rw [macCells]; rfl)]
  simp only [u8Cells, Nat.mul_one, show List.range 6 = [0, 1, 2, 3, 4, 5] from rfl, List.mapM_cons, List.mapM_nil, List.drop_zero, List.drop_succ_cons, List.take_succ_cons, List.take_zero, lit_u8 D h1, lit_u8 D h2, lit_u8 D h3, lit_u8 D h4, lit_u8 D h5, lit_u8 D h6]
  rfl
theorem lit_key (D : Nat) (k : Ky) (h : k.wf) : ∃ L, Try.prog.keyLits (D + 3) 68 k.cs.toList = some L := by
  have hm := lit_mac D k h
  have hi : Try.prog.keyLits (D + 2) 3 [.int .i64 k.vid] = some [.int .i64 k.vid] := by
    have hv := wf_i64' h.vid
    rw [show D + 2 = (D + 1) + 1 from rfl]
    simp only [Program.keyLits, Try.underlying3, hv, and_self, if_true]
  rw [lits_struct Try.underlying68 (by rw [keyCells]; rfl) (by kernel_rfl)]
  unfold Ky.cs
  simp only [List.mapM_cons, List.mapM_nil, intCells, macCells, List.drop_zero, List.drop_succ_cons, List.take_succ_cons, List.take_zero, hi, hm]
  exact ⟨_, rfl⟩
theorem key_of (k : Ky) (h : k.wf) : ∃ l, keyOf Try.prog 68 (.agg k.cs) = some l := by
  obtain ⟨L, hL⟩ := lit_key 133 k h
  unfold keyOf
  rw [Try.underlying68]
  have hf : (Value.agg k.cs).formed Try.prog 68 = true := by simp [Value.formed, Try.underlying68, keyCells, Ky.cs]
  have hs : Try.prog.types.size + 1 = 133 + 3 := by kernel_rfl
  simp only [keyT, hf, Bool.and_self, if_true, hs]
  exact ⟨_, by rw [show (Value.agg k.cs).cells.toList = k.cs.toList from rfl, hL]; rfl⟩
/-- What a key reads as. -/
def klP (P : Program) (k : Ky) : Lit := (keyOf P 68 (.agg k.cs)).getD (.bool false)
theorem kl_eq {k : Ky} (h : k.wf) : keyOf Try.prog 68 (.agg k.cs) = some ((klP Try.prog) k) := by
  obtain ⟨l, hl⟩ := key_of k h
  unfold klP
  rw [hl]
  rfl
theorem kl_inj {k q : Ky} (h : k.wf) (g : q.wf) (e : (klP Try.prog) k = (klP Try.prog) q) : k = q := by
  have h1 := kl_eq h
  rw [e] at h1
  have := law.inj h1 (kl_eq g)
  exact Ky.cs_inj (by simpa using this)
theorem kl_lit {k : Ky} (h : k.wf) : WideAt.IsKeyLit ((klP Try.prog) k) := law.key (kl_eq h)
theorem kl_ne {k q : Ky} (h : k.wf) (g : q.wf) (e : k.rk ≠ q.rk) : (klP Try.prog) k ≠ (klP Try.prog) q := fun e' => e (by rw [kl_inj h g e'])
/-- A datum that holds just the entries l. -/
structure Rep (D : DataW Unit) (l : List En) : Prop where
  at_ : ∀ x ∈ l, ∀ z, D.atKey ((klP Try.prog) x.k) z = x.dt
  of : ∀ s, Maps.has D s = true → ∃ x ∈ l, (klP Try.prog) x.k = s
  size : Maps.size D = l.length
theorem Rep.has {D : DataW Unit} {l : List En} (h : Rep D l) (hs : Srt l) (hw : Wfs l) {k : Ky} (hk : k.wf) : Maps.has D ((klP Try.prog) k) = (look l k.rk).isSome := by
  cases hl : look l k.rk with
  | none =>
    cases hh : Maps.has D ((klP Try.prog) k) with
    | false => rfl
    | true =>
      obtain ⟨x, hx, e⟩ := h.of _ hh
      have := kl_inj (hw x hx).k hk e
      exact absurd (congrArg Ky.rk this) (look_none.1 hl x hx)
  | some x =>
    obtain ⟨hx, e⟩ := look_mem hl
    rw [← Ky.inj (hw x hx).k hk e]
    exact Maps.has_true_of_atKey (h.at_ x hx)
/-- The cells of a look-up's answer. -/
def plOf : Option En → Array Value
  | some x => x.pc
  | none => #[.int .i64 0, .bool false, .int .i64 0]
theorem Rep.lookv {D : DataW Unit} {l : List En} (h : Rep D l) (hs : Srt l) (hw : Wfs l) {k : Ky} (hk : k.wf) {v : Value} {ps : List MemPlace} (hv : Rp v = some (D.atKey ((klP Try.prog) k) (En.dt ⟨k, 0, false, 0⟩), ps)) : v = .agg (plOf (look l k.rk)) := by
  have hh := h.has hs hw hk
  cases hl : look l k.rk with
  | none =>
    rw [hl] at hh
    rw [Maps.atKey_of_not_has hh] at hv
    exact Rp_inv hv rfl
  | some x =>
    obtain ⟨hx, e⟩ := look_mem hl
    have ek := Ky.inj (hw x hx).k hk e
    rw [← ek, h.at_ x hx] at hv
    exact Rp_inv hv rfl
theorem Rep.put {D : DataW Unit} {l : List En} (h : Rep D l) (hm : Maps.Tidy D) (hs : Srt l) (hw : Wfs l) {e : En} (he : e.wf) : Rep (D.put ((klP Try.prog) e.k) e.dt) (put l e) := by
  refine ⟨fun x hx z => ?_, fun s hh => ?_, ?_⟩
  · rcases (mem_put hs).1 hx with rfl | ⟨hx, hne⟩
    · exact Maps.atKey_put_same hm.isMap (kl_lit he.k) _ _
    · rw [Maps.atKey_put_other (kl_ne (hw x hx).k he.k hne), h.at_ x hx]
  · by_cases es : s = (klP Try.prog) e.k
    · exact ⟨e, (mem_put hs).2 (.inl rfl), es.symm⟩
    · rw [Maps.has_put_other es] at hh
      obtain ⟨x, hx, e1⟩ := h.of s hh
      refine ⟨x, (mem_put hs).2 (.inr ⟨hx, fun er => es ?_⟩), e1⟩
      rw [← e1, Ky.inj (hw x hx).k he.k er]
  · rw [Maps.size_put hm, h.has hs hw he.k, length_put hs, h.size]
    rfl
theorem Rep.del {D : DataW Unit} {l : List En} (h : Rep D l) (hm : Maps.Tidy D) (hs : Srt l) (hw : Wfs l) {k : Ky} (hk : k.wf) : Rep (D.del ((klP Try.prog) k)) (del l k.rk) := by
  refine ⟨fun x hx z => ?_, fun s hh => ?_, ?_⟩
  · obtain ⟨hx, hne⟩ := mem_del.1 hx
    rw [Maps.atKey_del_other (kl_ne (hw x hx).k hk hne), h.at_ x hx]
  · by_cases es : s = (klP Try.prog) k
    · rw [es, Maps.has_del_same] at hh; cases hh
    · rw [Maps.has_del_other es] at hh
      obtain ⟨x, hx, e1⟩ := h.of s hh
      refine ⟨x, mem_del.2 ⟨hx, fun er => es ?_⟩, e1⟩
      rw [← e1, Ky.inj (hw x hx).k hk er]
  · have := Maps.size_del (k := (klP Try.prog) k) hm
    rw [h.has hs hw hk, h.size] at this
    cases hl : Go.Proofs.Ytpbpofmlpbobmaa.look l k.rk with
    | none =>
      rw [hl] at this
      rw [del_none hl]
      simpa using this
    | some x =>
      rw [hl] at this
      obtain ⟨hx, e⟩ := look_mem hl
      have h2 := length_del hs hx
      rw [e] at h2
      simp at this
      omega
theorem tight {W : World} {b n : Nat} {D : DataW Unit} (h : W.ownsMap Try.prog 68 Rp b n D) {m : Nat} (hm : Maps.size D ≤ m) : W.ownsMap Try.prog 68 Rp b m D := by
  obtain ⟨es, clock, hb, F, hs, rfl⟩ := h
  exact ⟨es, clock, hb, F, by simpa [Maps.size, length_sorted] using hm, rfl⟩
/-- Block b is a map that holds the entries l. -/
def MapIs (W : World) (b : Nat) (l : List En) : Prop := Srt l ∧ Wfs l ∧ ∃ D, W.ownsMap Try.prog 68 Rp b l.length D ∧ Rep D l
theorem MapIs.lt {W : World} {b : Nat} {l : List En} (h : MapIs W b l) : b < W.heap.size := by
  obtain ⟨_, _, D, ho, _⟩ := h
  exact ho.lt
theorem MapIs.kept {W W' : World} {b : Nat} {l : List En} {row : Option Nat} (h : MapIs W b l) (hg : W.grownBy W' row) (hne : some b ≠ row) : MapIs W' b l := by
  obtain ⟨h1, h2, D, ho, hr⟩ := h
  exact ⟨h1, h2, D, ho.kept hg hne, hr⟩
theorem grown_of_below {W W' : World} (h : Below W.heap.size W W') (row : Option Nat) : W.grownBy W' row := ⟨h.os, h.tape, h.output, h.size, fun i hi _ => h.block i hi⟩
theorem below_of_grown {W W' : World} {row : Option Nat} (h : W.grownBy W' row) {B : Nat} (hB : B ≤ W.heap.size) (hr : ∀ j, row = some j → B ≤ j) : Below B W W' :=
  ⟨h.os, h.tape, h.output, h.size, fun i hi => h.block i (by omega) (fun e => by have := hr i e.symm; omega)⟩
theorem MapIs.below {W W' : World} {b : Nat} {l : List En} (h : MapIs W b l) (hb : Below W.heap.size W W') : MapIs W' b l := h.kept (grown_of_below hb none) (by simp)
theorem MapIs.made (W : World) : MapIs (W.alloc (.map #[] 0)) W.heap.size [] := by
  refine ⟨List.Pairwise.nil, (fun x hx => by cases hx), .map [], World.ownsMap_made _ _ _ _, ?_⟩
  exact ⟨(fun x hx => by cases hx), (fun s hs => by cases hs), rfl⟩
theorem zeroPl (w : World) : (zeroValue 71).run Try.prog w = .ok (.agg #[.int .i64 0, .bool false, .int .i64 0]) w := by kernel_rfl
theorem MapIs.look2 {W : World} {b : Nat} {l : List En} (h : MapIs W b l) {k : Ky} (hk : k.wf) :
    (Instr.lookup 60 (.map (some b)) (.agg k.cs) true).run Try.prog W = .ok (.tuple #[.agg (plOf (look l k.rk)), .bool (look l k.rk).isSome]) W := by
  obtain ⟨h1, h2, D, ho, hr⟩ := h
  obtain ⟨v, ps, hrun, hv⟩ := ho.look_ok law Try.underlying60 (zeroPl W) (zd := En.dt ⟨k, 0, false, 0⟩) (zp := []) rfl (kl_eq hk)
  rw [hrun, hr.has h1 h2 hk, hr.lookv h1 h2 hk hv]
theorem MapIs.look1 {W : World} {b : Nat} {l : List En} (h : MapIs W b l) {k : Ky} (hk : k.wf) :
    (Instr.lookup 60 (.map (some b)) (.agg k.cs) false).run Try.prog W = .ok (.agg (plOf (look l k.rk))) W := by
  obtain ⟨h1, h2, D, ho, hr⟩ := h
  obtain ⟨v, ps, hrun, hv⟩ := ho.lookup law Try.underlying60 (zeroPl W) (zd := En.dt ⟨k, 0, false, 0⟩) (zp := []) rfl (kl_eq hk)
  rw [hrun, hr.lookv h1 h2 hk hv]
theorem MapIs.len {W : World} {b : Nat} {l : List En} (h : MapIs W b l) (ty : TypeId) : (Builtin.len_ #[60] ty #[.map (some b)]).run Try.prog W = .ok (.int .i64 l.length) W := by
  obtain ⟨h1, h2, D, ho, hr⟩ := h
  rw [ho.len Try.underlying60 ty, hr.size]
theorem turned_size {W W' : World} {b : Nat} (h : W.mapTurned W' b) : W'.heap.size = W.heap.size := by
  obtain ⟨es, clock, es', clock', hb, rfl⟩ := h
  simp [ChangeMaps.setBlock]
theorem MapIs.store {W : World} {b : Nat} {l : List En} (h : MapIs W b l) (hn : l.length ≤ 1000) {e : En} (he : e.wf) :
    ∃ W', (Instr.mapUpdate 60 (.map (some b)) (.agg e.k.cs) (.agg e.pc)).run Try.prog W = .ok () W' ∧ MapIs W' b (put l e) ∧ W.grownBy W' (some b) ∧ W'.heap.size = W.heap.size := by
  obtain ⟨h1, h2, D, ho, hr⟩ := h
  obtain ⟨W', hrun, ho', ht⟩ := ho.store law Try.underlying60 (by unfold maxLen; omega) (kl_eq he.k) (Rp_mk e)
  have hr' := hr.put (ho.tidy law) h1 h2 he
  exact ⟨W', hrun, ⟨h1.put e, h2.put h1 he, _, tight ho' (by rw [hr'.size]; exact Nat.le_refl _), hr'⟩, ht.grown, turned_size ht⟩
theorem MapIs.drop {W : World} {b : Nat} {l : List En} (h : MapIs W b l) {k : Ky} (hk : k.wf) (ty : TypeId) :
    ∃ W', (Builtin.delete_ #[60, 68] ty #[.map (some b), .agg k.cs]).run Try.prog W = .ok (.tuple #[]) W' ∧ MapIs W' b (del l k.rk) ∧ W.grownBy W' (some b) ∧ W'.heap.size = W.heap.size := by
  obtain ⟨h1, h2, D, ho, hr⟩ := h
  obtain ⟨W', hrun, ho', ht⟩ := ho.drop law Try.underlying60 (kl_eq hk) ty
  have hr' := hr.del (ho.tidy law) h1 h2 hk
  exact ⟨W', hrun, ⟨h1.del _, h2.del _, _, tight ho' (by rw [hr'.size]; exact Nat.le_refl _), hr'⟩, ht.grown, turned_size ht⟩
/-- Block r goes through the map in block b, which holds l; the entries todo are still to come. -/
def RgIs (W : World) (b r : Nat) (l todo : List En) : Prop :=
  Srt l ∧ Wfs l ∧ Srt todo ∧ (∀ x ∈ todo, x ∈ l) ∧ ∃ D n lft cnt, W.ranges Try.prog 68 Rp b r n D lft cnt ∧ Rep D l ∧ ∀ s, lft s = true ↔ ∃ x ∈ todo, (klP Try.prog) x.k = s
theorem RgIs.map {W : World} {b r : Nat} {l todo : List En} (h : RgIs W b r l todo) : MapIs W b l := by
  obtain ⟨h1, h2, _, _, D, n, lft, cnt, hr, hp, _⟩ := h
  exact ⟨h1, h2, D, tight hr.owns (by rw [hp.size]; exact Nat.le_refl _), hp⟩
theorem RgIs.kept {W W' : World} {b r : Nat} {l todo : List En} {row : Option Nat} (h : RgIs W b r l todo) (hg : W.grownBy W' row) (hb : some b ≠ row) (hr : some r ≠ row) : RgIs W' b r l todo ∧ W'.rangeLeft b r = W.rangeLeft b r := by
  obtain ⟨h1, h2, h3, h4, D, n, lft, cnt, hR, hp, hl⟩ := h
  have := hR.kept hg hb hr
  exact ⟨⟨h1, h2, h3, h4, D, n, lft, cnt, this, hp, hl⟩, by rw [this.left_eq, hR.left_eq]⟩
theorem RgIs.lt {W : World} {b r : Nat} {l todo : List En} (h : RgIs W b r l todo) : b < W.heap.size ∧ r < W.heap.size ∧ r ≠ b := by
  obtain ⟨_, _, _, _, D, n, lft, cnt, hR, _⟩ := h
  exact ⟨hR.owns.lt, hR.lt, hR.ne⟩
theorem MapIs.range {W : World} {b : Nat} {l : List En} (h : MapIs W b l) :
    ∃ W', (Instr.range 60 (.map (some b))).run Try.prog W = .ok (.pointer (some ⟨W.heap.size, 0, none⟩)) W' ∧ RgIs W' b W.heap.size l l ∧ Below W.heap.size W W' ∧ W'.heap.size = W.heap.size + 1 := by
  obtain ⟨h1, h2, D, ho, hr⟩ := h
  obtain ⟨W', hrun, hR, hg, hz⟩ := ho.range law Try.underlying60
  refine ⟨W', hrun, ⟨h1, h2, h1, fun x hx => hx, D, _, _, _, hR, hr, fun s => ⟨hr.of s, ?_⟩⟩, below_of_grown hg (Nat.le_refl _) (fun j e => by cases e), hz⟩
  rintro ⟨x, hx, rfl⟩
  rw [hr.has h1 h2 (h2 x hx).k]
  have := h1.look hx
  unfold En.rk at this
  rw [this]
  rfl
theorem RgIs.next {W : World} {b r : Nat} {l todo : List En} (h : RgIs W b r l todo) (ty : TypeId) :
    (todo = [] ∧ (Instr.next (.pointer (some ⟨r, 0, none⟩)) false ty).run Try.prog W = .ok (.tuple #[.bool false]) W) ∨
    ∃ x W', x ∈ todo ∧ (Instr.next (.pointer (some ⟨r, 0, none⟩)) false ty).run Try.prog W = .ok (.tuple #[.bool true, .agg x.k.cs, .agg x.pc]) W' ∧ RgIs W' b r l (del todo x.rk) ∧ W'.rangeLeft b r < W.rangeLeft b r ∧
      W.grownBy W' (some r) ∧ W'.heap.size = W.heap.size ∧ (Instr.entry (.pointer (some ⟨r, 0, none⟩))).run Try.prog W' = .ok (.tuple #[.agg x.k.cs, .agg x.pc]) W' := by
  obtain ⟨h1, h2, h3, h4, D, n, lft, cnt, hR, hp, hl⟩ := h
  rcases hR.next law ty with ⟨_, hn, hrun⟩ | ⟨key, v, s, y, W', cnt', hkey, hls, hv, hat, hrun, hR', hlt, hg, hz, hen⟩
  · refine .inl ⟨?_, hrun⟩
    cases todo with
    | nil => rfl
    | cons x r =>
      have := (hl ((klP Try.prog) x.k)).2 ⟨x, by simp, rfl⟩
      rw [hn] at this
      cases this
  · obtain ⟨x, hx, rfl⟩ := (hl s).1 hls
    have hw := h2 x (h4 x hx)
    obtain rfl : key = .agg x.k.cs := law.inj hkey (kl_eq hw.k)
    obtain rfl : v = .agg x.pc := by
      obtain ⟨d, ps⟩ := y
      refine Rp_inv hv ?_
      exact (hat .nil).symm.trans (hp.at_ x (h4 x hx) _)
    refine .inr ⟨x, W', hx, hrun, ⟨h1, h2, h3.del _, fun z hz => h4 z (mem_del.1 hz).1, D, n, _, _, hR', hp, fun s => ?_⟩, by rw [hR'.left_eq, hR.left_eq]; exact hlt, hg, hz, hen⟩
    simp only [Bool.and_eq_true, Bool.not_eq_true']
    rw [hl s]
    constructor
    · rintro ⟨⟨z, hz, rfl⟩, hne⟩
      refine ⟨z, mem_del.2 ⟨hz, fun e => ?_⟩, rfl⟩
      rw [Ky.inj (h2 z (h4 z hz)).k hw.k e, WideAt.sameKey_self (kl_lit hw.k)] at hne
      cases hne
    · rintro ⟨z, hz, rfl⟩
      obtain ⟨hz, hne⟩ := mem_del.1 hz
      exact ⟨⟨z, hz, rfl⟩, Maps.sameKey_ne (kl_ne (h2 z (h4 z hz)).k hw.k hne)⟩
theorem RgIs.drop {W : World} {b r : Nat} {l todo : List En} (h : RgIs W b r l todo) {k : Ky} (hk : k.wf) (hno : look todo k.rk = none) (ty : TypeId) :
    ∃ W', (Builtin.delete_ #[60, 68] ty #[.map (some b), .agg k.cs]).run Try.prog W = .ok (.tuple #[]) W' ∧ RgIs W' b r (del l k.rk) todo ∧ W'.rangeLeft b r ≤ W.rangeLeft b r ∧ W.grownBy W' (some b) ∧ W'.heap.size = W.heap.size := by
  obtain ⟨h1, h2, h3, h4, D, n, lft, cnt, hR, hp, hl⟩ := h
  obtain ⟨W', cnt', hrun, hR', hle, ht⟩ := hR.drop law Try.underlying60 (kl_eq hk) ty
  refine ⟨W', hrun, ⟨h1.del _, h2.del _, h3, fun z hz => mem_del.2 ⟨h4 z hz, fun e => look_none.1 hno z hz e⟩, _, n, _, _, hR', hp.del (hR.owns.tidy law) h1 h2 hk, fun s => ?_⟩, by rw [hR'.left_eq, hR.left_eq]; exact hle, ht.grown, turned_size ht⟩
  simp only [Bool.and_eq_true, Bool.not_eq_true']
  rw [hl s]
  constructor
  · exact fun h => h.1
  · rintro ⟨z, hz, rfl⟩
    exact ⟨⟨z, hz, rfl⟩, Maps.sameKey_ne (kl_ne (h2 z (h4 z hz)).k hk (fun e => look_none.1 hno z hz e))⟩
end Go.Proofs.Ytpbpofmlpbobmaa
