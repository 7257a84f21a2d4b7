/-
  What several stages say of the base. And what follows from it here.
-/
import Derived.Test.YtlchejbggnbccaaGreatBba
import Derived.StillTail
namespace Go.Proofs.YtlchejbggnbccaaGreat
set_option linter.unusedVariables false
set_option linter.unusedSimpArgs false
set_option maxRecDepth 4000
section
open Go.RowKit
theorem Row.setU_ne {ks : List (Option IntKind)} (r : Row ks) {j i : Nat} {n : Int} (h : j ≠ i) : (r.setU j n).cl[i]? = r.cl[i]? := by
  unfold Row.setU
  split
  · show (r.cl.set j (.int .u8 n))[i]? = _
    rw [List.getElem?_set, if_neg h]
  · rfl
theorem Row.setU_nm {ks : List (Option IntKind)} (r : Row ks) {j i : Nat} {n : Int} (h : j ≠ i) : (r.setU j n).nm i = r.nm i := by
  unfold Row.nm
  rw [r.setU_ne h]
theorem RvAt.apart {W : World} {b d : Nat} {ty ty' : TypeId} {cs ds : Array Value} (h : RvAt W b ty cs) (k : RvAt W d ty' ds) (hn : ty ≠ ty') : b ≠ d := by
  rintro rfl
  have := h.symm.trans k
  simp only [Option.some.injEq, Obj.cells.injEq] at this
  exact hn this.2.1
def Row.setN {ks : List (Option IntKind)} (r : Row ks) (j : Nat) (h : ks[j]? = some (some .i64)) (n : Int) (hw : (Lit.int .i64 n).wf = true) : Row ks := r.set j (.int .i64 n) (fit_num h hw)
theorem Row.setN_get {ks : List (Option IntKind)} (r : Row ks) {j : Nat} (h : ks[j]? = some (some .i64)) (n : Int) (hw : (Lit.int .i64 n).wf = true) (i : Nat) : (r.setN j h n hw).cl[i]? = if i = j then some (.int .i64 n) else r.cl[i]? := r.set_get _ (List.getElem?_eq_some_iff.1 h).1 i
theorem SlAt.off {W : World} {b n c : Nat} {h : Hd} {x : Value} {a : Option Addr} {l : List Pt} (s : SlAt W a n c l) (r : RvAt W b 39 (trc h x)) (hn : 0 < n) : ∀ y, a = some y → y.block ≠ b := by
  intro y hy e
  obtain ⟨b', o, e', hc⟩ := s.cells y hy hn
  subst e'
  simp only at e
  subst e
  have hl := s.len
  have hf := hc 76 _ (List.getElem?_eq_getElem (by rw [flat_len]; omega))
  have hsz := trc_size h x
  unfold World.cell? at hf
  rw [show W.heap[b']? = some (.cells (trc h x) 39 (0, 0)) from r] at hf
  simp only at hf
  rw [Array.getElem?_eq_none (by omega)] at hf
  simp at hf
theorem SlAt.keptT {W V : World} {b n c : Nat} {h : Hd} {x : Value} {a : Option Addr} {l : List Pt} (s : SlAt W a n c l) (r : RvAt W b 39 (trc h x)) (g : W.grownBy V (some b)) : SlAt V a n c l := by
  by_cases hn : 0 < n
  · exact s.keptBut g (fun y hy e => s.off r hn y hy (by simpa using e))
  · exact ⟨⟨s.len, s.cap, s.max, s.nil, fun y _ h1 => absurd h1 hn⟩, fun y _ h1 => absurd h1 hn⟩
theorem SlAt.offZ {W : World} {b n c : Nat} {ty : TypeId} {cs : Array Value} {a : Option Addr} {l : List Pt} (s : SlAt W a n c l) (r : RvAt W b ty cs) (hz : cs.size ≤ 76) (hn : 0 < n) : ∀ y, a = some y → y.block ≠ b := by
  intro y hy e
  obtain ⟨b', o, e', hc⟩ := s.cells y hy hn
  subst e'
  simp only at e
  subst e
  have hl := s.len
  have hf := hc 76 _ (List.getElem?_eq_getElem (by rw [flat_len]; omega))
  unfold World.cell? at hf
  rw [show W.heap[b']? = some (.cells cs ty (0, 0)) from r] at hf
  simp only at hf
  rw [Array.getElem?_eq_none (by omega)] at hf
  simp at hf
theorem SlAt.keptZ {W V : World} {b n c : Nat} {ty : TypeId} {cs : Array Value} {a : Option Addr} {l : List Pt} (s : SlAt W a n c l) (r : RvAt W b ty cs) (hz : cs.size ≤ 76) (g : W.grownBy V (some b)) : SlAt V a n c l := by
  by_cases hn : 0 < n
  · exact s.keptBut g (fun y hy e => s.offZ r hz hn y hy (by simpa using e))
  · exact ⟨⟨s.len, s.cap, s.max, s.nil, fun y _ h1 => absurd h1 hn⟩, fun y _ h1 => absurd h1 hn⟩
theorem SlAt.low {W : World} {g o n c : Nat} {l : List Pt} (hs : SlAt W (some ⟨g, o, none⟩) n c l) (hn : 0 < n) : g < W.heap.size := by
  obtain ⟨b, o', e, hc⟩ := hs.cells _ rfl hn
  cases e
  have hl := hs.len
  exact World.block_lt_of_cell? W _ (hc 0 _ (List.getElem?_eq_getElem (by rw [flat_len]; omega)))
def Nw (w : World) (a : Option Addr) : Prop := ∀ x, a = some x → w.heap.size ≤ x.block
def Fro (w : World) (a a' : Option Addr) : Prop := a' = a ∨ Nw w a'
theorem Nw.up {w W : World} {a : Option Addr} (h : Nw W a) (s : w.heap.size ≤ W.heap.size) : Nw w a := fun x hx => Nat.le_trans s (h x hx)
theorem Nw.of {w : World} {g o : Nat} (h : w.heap.size ≤ g) : Nw w (some ⟨g, o, none⟩) := fun x hx => by cases hx; exact h
theorem Fro.up {w W : World} {a a' : Option Addr} (h : Fro W a a') (s : w.heap.size ≤ W.heap.size) : Fro w a a' := h.imp id fun q => q.up s
end
section
open Go.RowKit

theorem results_rowtmp {fn : Func} {k n t : Nat} {ty : TypeId} (T : RowTy ty n) (hr : fn.results = #[.cell k ty, .tmp t]) (tmps : Array Value) (w : World) (b : Nat) (cs : Array Value) (h2 : tmps.getD k undef = .pointer (some ⟨b, 0, none⟩)) (h : RvAt w b ty cs) (hn : cs.size = n) :
    (results fn tmps).run Tryz.prog w = .ok (.tuple #[.agg cs, tmps.getD t undef]) w := by
  have hl := h.lv T hn
  have h2' : tmps[k]?.getD undef = .pointer (some ⟨b, 0, none⟩) := by simpa using h2
  simp [results, hr, asAddr, hl, h2']
theorem new_tv (W : World) (h : Hd) (v : Value) (hv : v.oneCell' = true) : ∃ W', (stS 39 (.pointer (some ⟨W.heap.size, 0, none⟩)) (.agg (trc h v))).run Tryz.prog (W.alloc (.cells #[.int .u64 0, .int .u8 0, .int .u8 0, .int .u8 0, .int .u8 0, .int .u8 0, .bool false, .int .u16 0, .int .u64 0, .int .u32 0, .int .u64 0, .int .u16 0, .int .u8 0, .int .u8 0, .int .u8 0, .int .u8 0, .slice none 0 0] 39)) = .ok () W' ∧ RvAt W' W.heap.size 39 (trc h v) ∧ Below W.heap.size W W' ∧ W'.heap.size = W.heap.size + 1 :=
  row_new rtT W zeroT _ rfl (trc_size _ _) (trc_one hv)
end
section
open Go.RowKit

def HeadAny (P : Program) (md : Region.Mode) (ops : Array Oper) (C : World → Prop) (n : Nat) (L : Array Bool → Act → Prop) : Nat → Array Bool → Act → Prop
  | 0, listed, a => L listed a
  | f + 1, listed, a => Region.ready md ops listed ≠ [] ∧ ∀ i ∈ Region.ready md ops listed, i < n ∧ qOp P ops C i (HeadAny P md ops C n L f (listed.setIfInBounds i true)) a
theorem HeadAny.any {P : Program} {ops : Array Oper} {md : Region.Mode} {C : World → Prop} {n g : Nat} {L : Array Bool → Act → Prop} {Q : Exit → Act → World → Prop} (hL : ∀ listed a w, C w → L listed a → wpAny P md ops Q g listed a w) :
    ∀ (f : Nat) (listed : Array Bool) (a : Act) (w : World), C w → HeadAny P md ops C n L f listed a → wpAny P md ops Q (f + g) listed a w := by
  intro f
  induction f with
  | zero => intro listed a w hw h; rw [Nat.zero_add]; exact hL _ _ _ hw h
  | succ f ih =>
    intro listed a w hw h
    rw [show f + 1 + g = (f + g) + 1 by omega]
    exact ⟨fun h0 => absurd h0 h.1, fun i hi => wpOp_of_qOp hw (fun a' w' hw' h' => ih _ a' w' hw' h') (h.2 i hi).2⟩
theorem HeadAny.take {P : Program} {ops : Array Oper} {md : Region.Mode} {C : World → Prop} {n i : Nat} {oi : Oper} {v : Value} {L : Array Bool → Act → Prop} (hi : ops[i]? = some oi) (hsel : Region.noSelect ops = true)
    (hs : Region.sinkB md ops n = true) (hc : Region.chainB md ops n = true) (hn : n < ops.size) (hin : i < n) (hdone : ∀ listed a, L listed a → ∀ j ∈ Region.ready md ops listed, n ≤ j) :
    ∀ (f : Nat) (listed : Array Bool) (a : Act), HeadInv md ops n listed →
      (∀ j oj, ops[j]? = some oj → j ≠ i → listed.getD j true = false → (∀ e ∈ oj.after, Region.binds md e = true → e.on ≠ i) → oi.apart ops oj = true) →
      i ∈ Region.ready md ops listed → YieldsIn P ops C oi v a →
      HeadAny P md ops C n L f (listed.setIfInBounds i true) (a.put oi.dst v) → HeadAny P md ops C n L (f + 1) listed a := by
  have sel := Region.noSelect_spec hsel
  have low : ∀ (listed : Array Bool), HeadInv md ops n listed → listed.getD i true = false → ∀ j ∈ Region.ready md ops listed, j < n := fun listed inv hun j hj => by
    rcases Nat.lt_or_ge j n with h | h
    · exact h
    · exact absurd hj (tail_waits hs hc hn inv _ i rfl hin hun j h)
  intro f
  induction f with
  | zero =>
    intro listed a inv _ hr hy H
    refine ⟨fun h => (by rw [h] at hr; cases hr), fun j hj => ⟨low listed inv (mem_ready.1 hr).1 j hj, ?_⟩⟩
    by_cases hji : j = i
    · subst hji; exact hy.qOp hi H
    · have h1 := hdone _ _ H j (ready_mono hj hji)
      have h2 := low listed inv (mem_ready.1 hr).1 j hj
      omega
  | succ f ih =>
    intro listed a inv hfree hr hy H
    have hun := (mem_ready.1 hr).1
    refine ⟨fun h => (by rw [h] at hr; cases hr), fun j hj => ?_⟩
    have hjn := low listed inv hun j hj
    refine ⟨hjn, ?_⟩
    by_cases hji : j = i
    · subst hji; exact hy.qOp hi H
    · obtain ⟨hjun, oj, hoj, hall⟩ := mem_ready.1 hj
      have hnot : ∀ e ∈ oj.after, Region.binds md e = true → e.on ≠ i := fun e he hb heq => by
        have h1 := hall e he hb
        rw [heq, getD_both hun] at h1
        cases h1
      have h2 := qOp_put hoj (hfree j oj hoj hji hjun hnot) (fun cs b => sel i oi cs b hi) (fun cs b => sel j oj cs b hoj) hy (H.2 j (ready_mono hj hji)).2
      refine qOp_mono (fun a' h3 => ih (listed.setIfInBounds j true) a' (inv.set hj hjn) (fun k ok hk hki hun' hno => hfree k ok hk hki ?_ hno) (ready_mono hr (Ne.symm hji)) h3.1 ?_) h2
      · by_cases hjk : j = k
        · subst hjk; exact hjun
        · rw [getD_set_ne true hjk] at hun'; exact hun'
      · rw [Array.setIfInBounds_comm _ _ hji]
        exact h3.2
theorem HeadAny.lex {P : Program} {ops : Array Oper} {md : Region.Mode} {C : World → Prop} {n g : Nat} {K : Act → Prop} (hsel : Region.noSelect ops = true) (hs : Region.sinkB md ops n = true) (hc : Region.chainB md ops n = true) (hn : n < ops.size) :
    ∀ (l : List Oper) (k : Nat) (listed : Array Bool) (a : Act), (∀ j, j < l.length → l[j]? = ops[k + j]?) → k + l.length = n → HeadInv md ops n listed →
    Region.lexHead md ops g l.length k listed = true → wpQuiet P ops C K l a →
    HeadAny P md ops C n (fun listed' a' => Region.seqB md ops g n listed' = true ∧ K a') l.length listed a := by
  intro l
  induction l with
  | nil =>
    intro k listed a _ hk _ hB h
    have : k = n := by simpa using hk
    subst this
    exact ⟨by simpa [Region.lexHead] using hB, h⟩
  | cons o l ih =>
    intro k listed a hl hk inv hB h
    have h0 : ops[k]? = some o := by simpa using (hl 0 (by simp)).symm
    simp only [List.length_cons, Region.lexHead, Bool.and_eq_true] at hB
    obtain ⟨⟨hr, hf⟩, hB'⟩ := hB
    have hkn : k < n := by simp only [List.length_cons] at hk; omega
    have hr' : k ∈ Region.ready md ops listed := by simpa using hr
    have hst : qOp P ops C k (wpQuiet P ops C K l) a := by unfold qOp; simp only [h0]; exact h
    obtain ⟨v, hy, hK⟩ := yieldsIn_of_qOp h0 hst
    exact HeadAny.take h0 hsel hs hc hn hkn (fun listed' a' hL => seqB_ready hL.1) l.length listed a inv (Region.free_spec h0 hf) hr' hy
      (ih (k + 1) _ _ (fun j hj => by have := hl (j + 1) (by simp; omega); simpa [Nat.add_assoc, Nat.add_comm 1 j] using this) (by simp only [List.length_cons] at hk; omega) (inv.set hr' hkn) hB' hK)
theorem wp_region_later_tail {P : Program} {id : Nat} {Q : Exit → Act → World → Prop} {a : Act} {w : World} {l : List Oper} (n : Nat) (hm : P.follows .mixedOrders = true) (hB : Region.lexTailB .any l.toArray n = true)
    (h : wpQuiet P l.toArray (fun w' => ∃ x : Later w, w' = x.val) (fun a' => ∀ x : Later w, wpList P l.toArray Q (l.drop n) a' x.val) (l.take n) a) : (Code.region id l.toArray true).wp P Q a w := by
  simp only [Region.lexTailB, Bool.and_eq_true, decide_eq_true_eq] at hB
  obtain ⟨⟨⟨⟨hsel, hn⟩, hs⟩, hc⟩, hlex⟩ := hB
  have htl : (l.take n).length = n := by have : n < l.length := by simpa using hn
                                         simp; omega
  have hdl : (l.drop n).length = l.toArray.size - n := by simp
  have inv0 : HeadInv .any l.toArray n (Array.replicate l.toArray.size false) :=
    ⟨by simp, fun j oj _ hl => (by rw [getD_replicate_false] at hl; cases hl), fun t _ ht => getD_in (by simpa using ht) (getD_replicate_false _ _)⟩
  have H := HeadAny.lex (md := .any) (g := l.toArray.size - n) hsel hs hc hn (l.take n) 0 _ a (fun j hj => by
    have hj' : j < n := by rw [htl] at hj; exact hj
    simp [hj']) (by simpa using htl) inv0 (by rw [htl]; exact hlex) h
  refine wp_region_any hm ?_
  have := HeadAny.any (Q := Q) (g := l.toArray.size - n) (fun listed a' w' hw' hL => by
    obtain ⟨x, rfl⟩ := hw'
    have := wpAny_of_seq (md := .any) (Q' := Q) (l.drop n) n listed a' x.val (fun j => by simp [List.getElem?_drop]) (by rw [hdl]; exact hL.1) (hL.2 x)
    rwa [hdl] at this) _ _ _ _ ⟨Later.mk _ (Below.refl _ w).drew, rfl⟩ H
  rw [htl, show n + (l.toArray.size - n) = l.toArray.size by omega] at this
  exact this
end
end Go.Proofs.YtlchejbggnbccaaGreat
