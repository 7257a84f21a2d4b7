/-
  A slice of one port, built; a new port's variable, stored into. Plain laws over the program's types.
-/
import Derived.Test.YtnblhmicbhblpaaPsv
namespace Go.Proofs.Ytnblhmicbhblpaa
set_option linter.unusedVariables false
set_option maxRecDepth 4000
set_option linter.unusedSimpArgs false
open Go.RowKit

def bsP (n : Nat) (ps : Array (Nat × Value)) : Sem Value := Instr.buildSlice 29 n ps
theorem bs32 (n : Nat) (ps : Array (Nat × Value)) : Instr.buildSlice 29 n ps = bsP n ps := rfl
/-- A row into which another of the same length is laid is that other. -/
theorem fill_all : ∀ (l m : List Value) (k : Nat) (pre : List Value), l.length = m.length → pre.length = k → ((l.zipIdx k).foldl (fun (cs : Array Value) (x : Value × Nat) => cs.setIfInBounds (0 + x.2) x.1) (pre ++ m).toArray) = (pre ++ l).toArray
  | [], [], k, pre, _, _ => by simp
  | x :: l, y :: m, k, pre, h, hp => by
    rw [List.zipIdx_cons, List.foldl_cons]
    have e : ((pre ++ y :: m).toArray.setIfInBounds (0 + k) x) = ((pre ++ [x]) ++ m).toArray := by
      rw [Nat.zero_add, List.setIfInBounds_toArray, List.set_append_right _ _ (by omega), hp, Nat.sub_self, List.set_cons_zero]
      simp
    simp only
    rw [e, fill_all l m (k + 1) (pre ++ [x]) (by simpa using h) (by simp [hp])]
    simp
theorem bsP_is (p : Pt) (w : World) : (bsP 1 #[(0, .agg p.cs)]).run Try.prog w = .ok (.slice (some ⟨w.heap.size, 0, none⟩) 1 1) (w.alloc (.cells p.cs 47)) := by
  have hz : ∀ V : World, (sizeOf 47).run Try.prog V = .ok 77 V := Try.sizeOf47
  have hv : (zeroValue 47).run Try.prog w = .ok (.agg zeroP.cs) w := by kernel_rfl
  have hu : Try.prog.underlying 29 = some (.slice 47) := Try.underlying29
  have hf : Instr.fill (fun i => some (i * 77, 77)) ((Array.range (1 * 77)).map (zeroP.cs[· % zeroP.cs.size]!)) [(0, .agg p.cs)] = some p.cs := by
    have hps : p.cs.size = 77 := by rw [Row.csize, lenP]
    have e : ((Array.range (1 * 77)).map (zeroP.cs[· % zeroP.cs.size]!)).size = 77 := by simp
    unfold Instr.fill
    simp only [Value.cells, hps, e]
    rw [if_neg (by simp)]
    unfold Instr.fill
    have q := fill_all p.cl ((Array.range (1 * 77)).map (zeroP.cs[· % zeroP.cs.size]!)).toList 0 [] (by rw [Array.length_toList, e, Pt.len]) rfl
    simp only [List.nil_append, Array.toArray_toList] at q
    have e2 : p.cs = p.cl.toArray := rfl
    have e3 : p.cs.zipIdx.toList = p.cl.zipIdx := by rw [e2]; simp
    rw [← Array.foldl_toList, e3, e2, Nat.zero_mul]
    exact congrArg some q
  unfold bsP Instr.buildSlice
  simp only [Sem.run_bind, run_underlying hu, Result.andThen_ok, hz]
  simp [hv, hf, Value.cells]
  rfl
/-- A port's variable that is new. -/
structure PN (w W : World) (b : Nat) (q : Pt) : Prop where
  var : RvAt W b 47 q.cs
  bel : Below w.heap.size w W
  hb : w.heap.size ≤ b
theorem PN.go {w W V : World} {b : Nat} {q r : Pt} (s : PN w W b q) (h : RvAt V b 47 r.cs) (g : W.grownBy V (some b)) : PN w V b r := ⟨h, gro s.bel g s.hb s.bel.size, s.hb⟩
theorem PN.below {w W V : World} {b : Nat} {q : Pt} (s : PN w W b q) (k : Below W.heap.size W V) : PN w V b q := ⟨s.var.below k, below_over s.bel k, s.hb⟩
theorem PN.setB {w W : World} {b j : Nat} {q : Pt} (s : PN w W b q) (h : kdP[j]? = some none) (x : Bool) : ∃ V, (stS 4 (.pointer (some ⟨b, j, none⟩)) (.bool x)).run Try.prog W = .ok () V ∧ PN w V b (q.setB j h x) := by
  obtain ⟨V, e, h1, g⟩ := s.var.setB h x
  exact ⟨V, e, s.go h1 g⟩
theorem PN.setU {w W : World} {b j : Nat} {q : Pt} (s : PN w W b q) (h : kdP[j]? = some (some .u8)) {n : Int} (hn : 0 ≤ n ∧ n ≤ 255) : ∃ V, (stS 5 (.pointer (some ⟨b, j, none⟩)) (.int .u8 n)).run Try.prog W = .ok () V ∧ PN w V b (q.setU j n) := by
  obtain ⟨V, e, h1, g⟩ := s.var.setU h hn
  exact ⟨V, e, s.go h1 g⟩
theorem PN.setN {w W : World} {b j : Nat} {q : Pt} (s : PN w W b q) {t : TypeId} (ht : (Try.prog.info? t).map (·.size) = some 1) (h : kdP[j]? = some (some .i64)) {n : Int} (hn : (Lit.int .i64 n).wf = true) : ∃ V, (stS t (.pointer (some ⟨b, j, none⟩)) (.int .i64 n)).run Try.prog W = .ok () V ∧ PN w V b (q.setN j h n hn) := by
  obtain ⟨V, e, h1, g⟩ := s.var.rset (v := .int .i64 n) ht (List.getElem?_eq_some_iff.1 h).1 rfl (fit_num h hn)
  exact ⟨V, e, s.go h1 g⟩
theorem PN.put {w W : World} {b o : Nat} {q : Pt} {tv : TypeId} {ks' : List (Option IntKind)} (s : PN w W b q) (r : Row ks') (h : (kdP.drop o).take ks'.length = ks') (hl : o + ks'.length ≤ kdP.length) (hi : (Try.prog.info? tv).map (·.size) = some ks'.length) : ∃ V, (stS tv (.pointer (some ⟨b, o, none⟩)) (.agg r.cs)).run Try.prog W = .ok () V ∧ PN w V b (q.put o r h hl) := by
  obtain ⟨V, e, h1, g⟩ := s.var.rput r h hl hi
  exact ⟨V, e, s.go h1 g⟩
theorem PN.st {w W : World} {b : Nat} {q : Pt} (s : PN w W b q) (r : Pt) : ∃ V, (stS 47 (.pointer (some ⟨b, 0, none⟩)) (.agg r.cs)).run Try.prog W = .ok () V ∧ PN w V b r := by
  obtain ⟨V, e, h1, g⟩ := s.var.pst (q := r)
  exact ⟨V, e, s.go h1 g⟩
theorem PN.new (W : World) (p : Pt) : ∃ V, (stS 47 (.pointer (some ⟨W.heap.size, 0, none⟩)) (.agg p.cs)).run Try.prog (W.alloc (.cells zeroP.cs 47)) = .ok () V ∧ PN W V W.heap.size p := by
  obtain ⟨V, e, r, b, z⟩ := new_pv W p
  exact ⟨V, e, r, b, Nat.le_refl _⟩
theorem RvAt.belowB {W V : World} {b B : Nat} {ty : TypeId} {cs : Array Value} (h : RvAt W b ty cs) (hb : Below B W V) (hlt : b < B) : RvAt V b ty cs := (hb.block b hlt).trans h
/-- A port appended to ports of one's own. -/
theorem Own.next {W : World} {B : Nat} {v : Value} {l : List Pt} (o : Own W B v l) (hB : B ≤ W.heap.size) (hl : l.length ≤ 1000) (p : Pt) :
    ∃ v' W', (apS 29 #[v, .slice (some ⟨W.heap.size, 0, none⟩) 1 1]).run Try.prog (W.alloc (.cells p.cs 47)) = .ok v' W' ∧ Own W' B v' (l ++ [p]) ∧ Below B W W' := by
  have bA : Below W.heap.size W (W.alloc (.cells p.cs 47)) := (Below.refl _ _).alloc (Nat.le_refl _) _
  obtain ⟨v', W', ap, o2, g2⟩ := (o.below bA).app (one_new W p) (by simp; omega) (Nat.le_trans hB bA.size) 29
  refine ⟨v', W', ap, o2, (bA.mono hB).trans (below_of_grown g2 (Nat.le_trans hB bA.size) (fun j e => ?_))⟩
  rcases o.pat with ⟨rfl, rfl⟩ | ⟨g, c, rfl, hg, _⟩
  · cases e
  · cases e; exact hg
end Go.Proofs.Ytnblhmicbhblpaa
