/-
  Static entries stay; the order by bytes is that by numbers; two entries laid in an open order. Plain laws.
-/
import Derived.Test.YtpbpofmlpbobmaaOpen
import Derived.Test.YtpbpofmlpbobmaaAllW
import Derived.Laws.BytesArg
namespace Go.Proofs.Ytpbpofmlpbobmaa
set_option linter.unusedVariables false
set_option maxRecDepth 4000
set_option linter.unusedSimpArgs false
open Go.RowKit

theorem putS_stays {room : Int} {l : List En} (hs : Srt l) {e x : En} (hx : x ∈ l) (hst : x.st = true) (hne : x.rk ≠ e.rk) : x ∈ (putS room l e).1 := by
  unfold putS
  split
  · exact (mem_put hs).2 (.inr ⟨hx, hne⟩)
  · cases h : eld l with
    | none => exact hx
    | some z =>
      have ho := eld_old h
      have hz : x.rk ≠ z.rk := fun e => by
        have := hs.inj hx ho.mem e
        rw [this, ho.st] at hst
        cases hst
      exact (mem_put (hs.del _)).2 (.inr ⟨mem_del.2 ⟨hx, hz⟩, hne⟩)
theorem learnS_stays {c : Cf} {l : List En} (hs : Srt l) {x : En} (hx : x ∈ l) (hst : x.st = true) (k : Ky) (port tick : Int) : x ∈ (learnS c l k port tick).1 := by
  unfold learnS
  split
  · exact hx
  · split
    · exact hx
    · rename_i h
      refine putS_stays hs hx hst (fun e => h ?_)
      have h1 : look l k.rk = some x := by
        have : x.rk = k.rk := e
        rw [← this]
        exact hs.look hx
      unfold stOf
      rw [h1]
      exact hst
theorem doS_stays {c : Cf} {l : List En} (hs : Srt l) {x : En} (hx : x ∈ l) (hst : x.st = true) {o : Oq} (h2 : ¬ o.kind = 2) (h3 : ¬ o.kind = 3) (h7 : ¬ o.kind = 7) : x ∈ doS c l o := by
  unfold doS
  rw [if_neg h2, if_neg h3, if_neg h7]
  split
  · exact learnS_stays hs hx hst _ _ _
  · split
    · exact List.mem_filter.2 ⟨hx, by simp [ageSh, hst]⟩
    · split
      · exact List.mem_filter.2 ⟨hx, by simp [flushSh, hst]⟩
      · exact hx
theorem bl_cons {a b : Int} (ha : 0 ≤ a ∧ a ≤ 255) (hb : 0 ≤ b ∧ b ≤ 255) (xs ys : List UInt8) :
    Op.bytesLess (UInt8.ofNat a.toNat :: xs) (UInt8.ofNat b.toNat :: ys) = (decide (a < b) || (decide (a = b) && Op.bytesLess xs ys)) := by
  have h1 : (UInt8.ofNat a.toNat < UInt8.ofNat b.toNat) ↔ a < b := by
    rw [UInt8.lt_iff_toNat_lt, UInt8.toNat_ofNat', UInt8.toNat_ofNat']
    omega
  have h2 : (UInt8.ofNat a.toNat = UInt8.ofNat b.toNat) ↔ a = b := by
    rw [← UInt8.toNat_inj, UInt8.toNat_ofNat', UInt8.toNat_ofNat']
    omega
  show (decide (UInt8.ofNat a.toNat < UInt8.ofNat b.toNat) || (UInt8.ofNat a.toNat == UInt8.ofNat b.toNat && Op.bytesLess xs ys)) = _
  congr 1
  · exact decide_eq_decide.2 h1
  · congr 1
    by_cases h : a = b
    · rw [decide_eq_true h]; simpa using h2.2 h
    · rw [decide_eq_false h]
      exact beq_eq_false_iff_ne.2 (fun e => h (h2.1 e))
theorem Ky.less {x y : Ky} (hx : x.wf) (hy : y.wf) (h : x.num < y.num) :
    Op.bytesLess ([x.a, x.b, x.c, x.d, x.e, x.f].map fun n => UInt8.ofNat n.toNat) ([y.a, y.b, y.c, y.d, y.e, y.f].map fun n => UInt8.ofNat n.toNat) = true := by
  obtain ⟨_, a1, b1, c1, d1, e1, f1⟩ := hx
  obtain ⟨_, a2, b2, c2, d2, e2, f2⟩ := hy
  simp only [List.map_cons, List.map_nil]
  rw [bl_cons a1 a2, bl_cons b1 b2, bl_cons c1 c2, bl_cons d1 d2, bl_cons e1 e2, bl_cons f1 f2]
  unfold Ky.num at h
  simp only [Bool.or_eq_true, Bool.and_eq_true, decide_eq_true_eq]
  omega
def bsM (k : Ky) : List Int := [k.a, k.b, k.c, k.d, k.e, k.f]
theorem less_list {x y : Ky} (hx : x.wf) (hy : y.wf) (h : x.num < y.num) : Op.bytesLess (strOfNums (bsM x)).toList (strOfNums (bsM y)).toList = true := by
  rw [Lib.toList_data, Lib.toList_data]
  exact Ky.less hx hy h
theorem RvAt.estr {W : World} {b : Nat} {x : En} (h : RvAt W b 55 x.cs) : (convert 56 9 (.slice (some ⟨b, 1, none⟩) 6 6)).run Try.prog W = .ok (.string (strOfNums (bsM x.k))) W :=
  run_convert_bytes_arg W 56 5 Try.underlying56 Try.underlying5 b 1 6 6 (bsM x.k) rfl (fun i hi => by
    refine h.cell (1 + i) _ ?_
    match i, hi with
    | 0, _ => rfl
    | 1, _ => rfl
    | 2, _ => rfl
    | 3, _ => rfl
    | 4, _ => rfl
    | 5, _ => rfl) 9 Try.underlying9
/-- Two entries' variables, laid in whatever order. -/
theorem two_en (X : World) (z : Array Value) (hz : z.size = 10) (x y : En) (q r : Nat) (hqr : (q = X.heap.size ∧ r = X.heap.size + 1) ∨ (q = X.heap.size + 1 ∧ r = X.heap.size)) :
    ∃ W1 W2, (stS 55 (.pointer (some ⟨q, 0, none⟩)) (.agg x.cs)).run Try.prog ((X.alloc (.cells z 55)).alloc (.cells z 55)) = .ok () W1 ∧ (stS 55 (.pointer (some ⟨r, 0, none⟩)) (.agg y.cs)).run Try.prog W1 = .ok () W2 ∧
      RvAt W2 q 55 x.cs ∧ RvAt W2 r 55 y.cs ∧ Below X.heap.size X W1 ∧ Below X.heap.size X W2 := by
  have h1 : RvAt (X.alloc (.cells z 55)) X.heap.size 55 z := RvAt.new X _ _
  have h2 : RvAt ((X.alloc (.cells z 55)).alloc (.cells z 55)) (X.heap.size + 1) 55 z := by
    have := RvAt.new (X.alloc (.cells z 55)) 55 z
    simpa using this
  have h1' : RvAt ((X.alloc (.cells z 55)).alloc (.cells z 55)) X.heap.size 55 z := h1.below ((Below.refl _ _).alloc (Nat.le_refl _) _)
  have b2 : Below X.heap.size X ((X.alloc (.cells z 55)).alloc (.cells z 55)) := ((Below.refl _ _).alloc (Nat.le_refl _) _).alloc (by simp) _
  obtain ⟨B, hB⟩ : ∃ B, (X.alloc (.cells z 55)).alloc (.cells z 55) = B := ⟨_, rfl⟩
  rw [hB] at h2 h1' b2 ⊢
  have hq : RvAt B q 55 z := by rcases hqr with ⟨rfl, _⟩ | ⟨rfl, _⟩ <;> assumption
  have hr : RvAt B r 55 z := by rcases hqr with ⟨_, rfl⟩ | ⟨_, rfl⟩ <;> assumption
  have hne : r ≠ q := by omega
  have hr' : RvAt (B.setRow q x.cs) r 55 z := (setRow_other B q r x.cs hne).trans hr
  have hq2 : RvAt ((B.setRow q x.cs).setRow r y.cs) q 55 x.cs := (setRow_other _ r q y.cs (Ne.symm hne)).trans (RvAt.set hq)
  exact ⟨_, _, hq.st rtE hz (En.csize x) (En.one x), hr'.st rtE hz (En.csize y) (En.one y), hq2, hr'.set, below_setRow b2 (by omega) _, below_setRow (below_setRow b2 (by omega) _) (by omega) _⟩
end Go.Proofs.Ytpbpofmlpbobmaa
