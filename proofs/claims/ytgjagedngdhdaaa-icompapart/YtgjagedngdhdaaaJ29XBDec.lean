/-
  What bytes decode to, and the walk: for every bytes. What hiding a customer's frame answers, and the walk: for every frame.
-/
import Derived.Test.YtgjagedngdhdaaaJ28Grp
namespace Go.Proofs.Ytgjagedngdhdaaa

section
namespace S4
set_option linter.unusedVariables false
set_option maxRecDepth 4000
set_option linter.unusedSimpArgs false
open Go.RowKit

/-- The frame that bytes would be: part by part. -/
def rb1 (l : List Int) : Bf := ⟨bm6 l 0, ⟨0, 0, 0, 0, 0, 0⟩, 0, false, 0, 0, false, false, 0, ⟨0, 0, 0, 0, 0, 0⟩, ⟨0, 0, 0, 0, 0, 0⟩⟩
def rb2 (l : List Int) : Bf := ⟨bm6 l 0, bm6 l 6, 0, false, 0, 0, false, false, 0, ⟨0, 0, 0, 0, 0, 0⟩, ⟨0, 0, 0, 0, 0, 0⟩⟩
def rb3 (l : List Int) : Bf := ⟨bm6 l 0, bm6 l 6, tkP (l.drop 14), tkD (l.drop 14), tkV (l.drop 14), 0, false, false, 0, ⟨0, 0, 0, 0, 0, 0⟩, ⟨0, 0, 0, 0, 0, 0⟩⟩
def rawB (l : List Int) : Bf := ⟨bm6 l 0, bm6 l 6, tkP (l.drop 14), tkD (l.drop 14), tkV (l.drop 14), tiP (l.drop 18), tiD (l.drop 18), tiU (l.drop 18), tiI (l.drop 18), ⟨tiX (l.drop 18) 4, tiX (l.drop 18) 5, tiX (l.drop 18) 6, tiX (l.drop 18) 7, tiX (l.drop 18) 8, tiX (l.drop 18) 9⟩, ⟨tiX (l.drop 18) 10, tiX (l.drop 18) 11, tiX (l.drop 18) 12, tiX (l.drop 18) 13, tiX (l.drop 18) 14, tiX (l.drop 18) 15⟩⟩
/-- Are types or tags wrong? -/
def wrongB (l : List Int) : Bool := (tyN (l.drop 12) != 34984) || ((tkE (l.drop 14) != 0) || ((tyN (l.drop 16) != 35047) || (tiE (l.drop 18) != 0)))
/-- The error of decoding. -/
def bdE (l : List Int) : Int := if l.length < 36 then 6 else if 1536 < l.length then 2 else if wrongB l || (chkB (rawB l) (l.drop 34) != 0) then 40 else 0
def bdF (l : List Int) : Bf := if bdE l = 0 then rawB l else zeroB
def bdR (l : List Int) : List Int := if bdE l = 0 then l.drop 34 else []
def BdOut (l : List Int) (w : World) (r : Ending) (w' : World) : Prop :=
  ∃ s, r = .returned (.tuple #[.agg (bcs (bdF l) s), .int .i64 (bdE l)]) ∧ Own w' w.heap.size s (bdR l) ∧ Below w.heap.size w w'
theorem bd_err {l : List Int} {w w' : World} (e : Int) (he : bdE l = e) (h0 : ¬ e = 0) (hb : Below w.heap.size w w') : BdOut l w (.returned (.tuple #[.agg (bcs zeroB (.slice none 0 0)), .int .i64 e])) w' := by
  refine ⟨.slice none 0 0, ?_, ?_, hb⟩
  · unfold bdF; rw [he, if_neg h0]
  · unfold bdR; rw [he, if_neg h0]; exact own_nil _ _
theorem bd_ok {l : List Int} {w w' : World} {s : Value} (he : bdE l = 0) (ho : Own w' w.heap.size s (l.drop 34)) (hb : Below w.heap.size w w') : BdOut l w (.returned (.tuple #[.agg (bcs (rawB l) s), .int .i64 0])) w' := by
  refine ⟨s, ?_, ?_, hb⟩
  · unfold bdF; rw [he, if_pos rfl]
  · unfold bdR; rw [he, if_pos rfl]; exact ho

theorem tiX_ok {l : List Int} (hb : ∀ x ∈ l, 0 ≤ x ∧ x ≤ 255) (k : Nat) : 0 ≤ tiX l k ∧ tiX l k ≤ 255 := by
  unfold tiX
  split
  · exact bgt_ok hb k
  · omega
theorem rawB_ok {l : List Int} (hb : ∀ x ∈ l, 0 ≤ x ∧ x ≤ 255) : (rawB l).ok := by
  have h18 : ∀ x ∈ l.drop 18, 0 ≤ x ∧ x ≤ 255 := fun x hx => hb x (List.mem_of_mem_drop hx)
  refine ⟨bm6_ok hb 0, bm6_ok hb 6, ?_, ?_⟩
  all_goals
    intro x hx
    simp only [M6.l, rawB, List.mem_cons, List.not_mem_nil, or_false] at hx
    rcases hx with rfl | rfl | rfl | rfl | rfl | rfl <;> exact tiX_ok h18 _

theorem ty_take {l : List Int} (h : 2 ≤ l.length) : tyN (l.take 2) = tyN l := by
  match l, h with
  | x :: y :: r, _ => rfl
theorem btk_take {l : List Int} (h : 2 ≤ l.length) : tkE (l.take 2) = tkE l ∧ tkP (l.take 2) = tkP l ∧ tkD (l.take 2) = tkD l ∧ tkV (l.take 2) = tkV l := by
  have hn : tkN (l.take 2) = tkN l := by
    match l, h with
    | x :: y :: r, _ => rfl
  have he : tkE (l.take 2) = tkE l := by
    have h1 : ¬ (l.take 2).length < 2 := by simp; omega
    have h2 : ¬ l.length < 2 := by omega
    unfold tkE
    rw [hn, if_neg h1, if_neg h2]
  unfold tkP tkD tkV
  rw [hn, he]
  exact ⟨rfl, rfl, rfl, rfl⟩
theorem getD_take {l : List Int} {k j : Nat} (h : j < k) : (l.take k).getD j 0 = l.getD j 0 := by
  rw [List.getD_eq_getElem?_getD, List.getD_eq_getElem?_getD, List.getElem?_take_of_lt h]
theorem ti_take {l : List Int} (h : 16 ≤ l.length) : tiE (l.take 16) = tiE l ∧ tiP (l.take 16) = tiP l ∧ tiD (l.take 16) = tiD l ∧ tiU (l.take 16) = tiU l ∧ tiI (l.take 16) = tiI l ∧ ∀ k, k < 16 → tiX (l.take 16) k = tiX l k := by
  have he : tiE (l.take 16) = tiE l := by
    have h1 : ¬ (l.take 16).length < 16 := by simp; omega
    have h2 : ¬ l.length < 16 := by omega
    unfold tiE
    rw [if_neg h1, if_neg h2, getD_take (by omega)]
  refine ⟨he, ?_, ?_, ?_, ?_, ?_⟩
  · unfold tiP; rw [he, getD_take (by omega)]
  · unfold tiD; rw [he, getD_take (by omega)]
  · unfold tiU; rw [he, getD_take (by omega)]
  · unfold tiI; rw [he, getD_take (by omega), getD_take (by omega), getD_take (by omega)]
  · intro k hk; unfold tiX; rw [he, getD_take hk]
theorem m6_drop (l : List Int) (i k : Nat) : bm6 (l.drop i) k = bm6 l (i + k) := by
  have e : ∀ j, gt (l.drop i) j = gt l (i + j) := fun j => by
    unfold gt
    rw [List.getD_eq_getElem?_getD, List.getD_eq_getElem?_getD, List.getElem?_drop]
  unfold bm6
  rw [e, e, e, e, e, e]
  simp [Nat.add_assoc]

theorem results_btwo {fn : Func} {k j : Nat} (hr : fn.results = #[.cell k 49, .tmp j]) (tmps : Array Value) (w : World) (b : Nat) (f : Bf) (x e : Value) (h2 : tmps.getD k undef = .pointer (some ⟨b, 0, none⟩)) (h3 : tmps.getD j undef = e) (h : BfAt w b f x) :
    (results fn tmps).run Try.prog w = .ok (.tuple #[.agg (bcs f x), e]) w := by
  have hl := h.lv
  have h2' : tmps[k]?.getD undef = .pointer (some ⟨b, 0, none⟩) := by simpa using h2
  have h3' : tmps[j]?.getD undef = e := by simpa using h3
  simp [results, hr, asAddr, hl, h2', h3']
theorem zeroB_new (W : World) : BfAt (W.alloc (.cells #[.int .u8 0, .int .u8 0, .int .u8 0, .int .u8 0, .int .u8 0, .int .u8 0, .int .u8 0, .int .u8 0, .int .u8 0, .int .u8 0, .int .u8 0, .int .u8 0, .int .i64 0, .bool false, .int .i64 0, .int .i64 0, .bool false, .bool false, .int .i64 0, .int .u8 0, .int .u8 0, .int .u8 0, .int .u8 0, .int .u8 0, .int .u8 0, .int .u8 0, .int .u8 0, .int .u8 0, .int .u8 0, .int .u8 0, .int .u8 0, .slice none 0 0] 49)) W.heap.size zeroB (.slice none 0 0) := BfAt.new W zeroB _
theorem BfAt.zst {W : World} {b : Nat} {f : Bf} {x : Value} (h : BfAt W b f x) : (stS 49 (.pointer (some ⟨b, 0, none⟩)) (.agg #[.int .u8 0, .int .u8 0, .int .u8 0, .int .u8 0, .int .u8 0, .int .u8 0, .int .u8 0, .int .u8 0, .int .u8 0, .int .u8 0, .int .u8 0, .int .u8 0, .int .i64 0, .bool false, .int .i64 0, .int .i64 0, .bool false, .bool false, .int .i64 0, .int .u8 0, .int .u8 0, .int .u8 0, .int .u8 0, .int .u8 0, .int .u8 0, .int .u8 0, .int .u8 0, .int .u8 0, .int .u8 0, .int .u8 0, .int .u8 0, .slice none 0 0])).run Try.prog W = .ok () (W.setRow b (bcs zeroB (.slice none 0 0))) := h.st (g := zeroB) (y := .slice none 0 0) rfl

attribute [local go_sem ↓] slS_eq ldS_MAC ldS_Tag ldI27 ldS_BFrame stS_BFrame stS_MAC stS_Tag stI27

end S4
end

section
namespace S4
set_option linter.unusedVariables false
set_option maxRecDepth 4000
set_option linter.unusedSimpArgs false
open Go.RowKit

/-- The frame that carries a customer's. -/
def hidF (f : Fr) (isid vid : Int) (own to : M6) : Bf := ⟨to, own, f.p, f.e, vid, f.p, f.e, true, isid, f.d, f.s⟩
theorem hidF_ok {f : Fr} {isid vid : Int} {own to : M6} (hf : f.ok) (ho : own.ok) (ht : to.ok) : (hidF f isid vid own to).ok := ⟨ht, ho, hf.1, hf.2⟩
/-- The error of hiding. -/
def hdE (f : Fr) (l : List Int) (isid vid : Int) (own to : M6) : Int := if chkF f l = 0 then (if f.t then chkB (hidF f isid vid own to) l else 30) else chkF f l
def hdB (f : Fr) (l : List Int) (isid vid : Int) (own to : M6) : Bf := if hdE f l isid vid own to = 0 then hidF f isid vid own to else zeroB
def hdR (f : Fr) (l : List Int) (isid vid : Int) (own to : M6) : List Int := if hdE f l isid vid own to = 0 then l else []
def HdOut (f : Fr) (l : List Int) (isid vid : Int) (own to : M6) (w : World) (r : Ending) (w' : World) : Prop :=
  ∃ s, r = .returned (.tuple #[.agg (bcs (hdB f l isid vid own to) s), .int .i64 (hdE f l isid vid own to)]) ∧ Own w' w.heap.size s (hdR f l isid vid own to) ∧ Below w.heap.size w w'
theorem hd_err {f : Fr} {l : List Int} {isid vid : Int} {own to : M6} {w w' : World} (e : Int) (he : hdE f l isid vid own to = e) (h0 : ¬ e = 0) (hb : Below w.heap.size w w') : HdOut f l isid vid own to w (.returned (.tuple #[.agg (bcs zeroB (.slice none 0 0)), .int .i64 e])) w' := by
  refine ⟨.slice none 0 0, ?_, ?_, hb⟩
  · unfold hdB; rw [he, if_neg h0]
  · unfold hdR; rw [he, if_neg h0]; exact own_nil _ _
theorem hd_ok {f : Fr} {l : List Int} {isid vid : Int} {own to : M6} {w w' : World} {s : Value} (he : hdE f l isid vid own to = 0) (ho : Own w' w.heap.size s l) (hb : Below w.heap.size w w') : HdOut f l isid vid own to w (.returned (.tuple #[.agg (bcs (hidF f isid vid own to) s), .int .i64 0])) w' := by
  refine ⟨s, ?_, ?_, hb⟩
  · unfold hdB; rw [he, if_pos rfl]
  · unfold hdR; rw [he, if_pos rfl]; exact ho

/-- The variables of hiding: the frame's, the addresses', the answer's. -/
structure Hst (w W : World) (f : Fr) (x : Value) (own to : M6) : Prop where
  fr : FrAt W w.heap.size f x
  ow : RvAt W (w.heap.size + 1) 23 #[.int .u8 own.a, .int .u8 own.b, .int .u8 own.c, .int .u8 own.d, .int .u8 own.e, .int .u8 own.f]
  to' : RvAt W (w.heap.size + 2) 23 #[.int .u8 to.a, .int .u8 to.b, .int .u8 to.c, .int .u8 to.d, .int .u8 to.e, .int .u8 to.f]
  z : BfAt W (w.heap.size + 3) zeroB (.slice none 0 0)
  below : Below w.heap.size w W
theorem Hst.later {w W W' : World} {f : Fr} {x : Value} {own to : M6} (h : Hst w W f x own to) (hb : Below W.heap.size W W') : Hst w W' f x own to := ⟨h.fr.below hb, h.ow.below hb, h.to'.below hb, h.z.below hb, below_over h.below hb⟩
theorem Hst.zat {w W : World} {f : Fr} {x : Value} {own to : M6} (h : Hst w W f x own to) (h' : Bf) (y : Value) : BfAt (W.setRow (w.heap.size + 3) (bcs h' y)) (w.heap.size + 3) h' y ∧ Below w.heap.size w (W.setRow (w.heap.size + 3) (bcs h' y)) := ⟨h.z.set, below_setRow h.below (by omega) _⟩
theorem Hst.new (w : World) (f : Fr) (x : Value) (own to : M6) : Hst w ((((w.alloc (.cells (fcs f x) 34)).alloc (.cells #[.int .u8 own.a, .int .u8 own.b, .int .u8 own.c, .int .u8 own.d, .int .u8 own.e, .int .u8 own.f] 23)).alloc (.cells #[.int .u8 to.a, .int .u8 to.b, .int .u8 to.c, .int .u8 to.d, .int .u8 to.e, .int .u8 to.f] 23)).alloc (.cells #[.int .u8 0, .int .u8 0, .int .u8 0, .int .u8 0, .int .u8 0, .int .u8 0, .int .u8 0, .int .u8 0, .int .u8 0, .int .u8 0, .int .u8 0, .int .u8 0, .int .i64 0, .bool false, .int .i64 0, .int .i64 0, .bool false, .bool false, .int .i64 0, .int .u8 0, .int .u8 0, .int .u8 0, .int .u8 0, .int .u8 0, .int .u8 0, .int .u8 0, .int .u8 0, .int .u8 0, .int .u8 0, .int .u8 0, .int .u8 0, .slice none 0 0] 49)) f x own to := by
  have b1 : Below w.heap.size w (w.alloc (.cells (fcs f x) 34)) := (Below.refl _ _).alloc (Nat.le_refl _) _
  obtain ⟨W1, h1⟩ : ∃ W, w.alloc (.cells (fcs f x) 34) = W := ⟨_, rfl⟩
  have f1 := FrAt.new w f x
  have s1 : W1.heap.size = w.heap.size + 1 := by rw [← h1]; simp
  rw [h1] at f1 b1 ⊢
  have b2 : Below W1.heap.size W1 (W1.alloc (.cells #[.int .u8 own.a, .int .u8 own.b, .int .u8 own.c, .int .u8 own.d, .int .u8 own.e, .int .u8 own.f] 23)) := (Below.refl _ _).alloc (Nat.le_refl _) _
  have o2 : RvAt (W1.alloc (.cells #[.int .u8 own.a, .int .u8 own.b, .int .u8 own.c, .int .u8 own.d, .int .u8 own.e, .int .u8 own.f] 23)) W1.heap.size 23 #[.int .u8 own.a, .int .u8 own.b, .int .u8 own.c, .int .u8 own.d, .int .u8 own.e, .int .u8 own.f] := alloc_at W1 _
  obtain ⟨W2, h2⟩ : ∃ W, W1.alloc (.cells #[.int .u8 own.a, .int .u8 own.b, .int .u8 own.c, .int .u8 own.d, .int .u8 own.e, .int .u8 own.f] 23) = W := ⟨_, rfl⟩
  have s2 : W2.heap.size = w.heap.size + 2 := by rw [← h2]; simp [s1]
  rw [h2] at b2 o2 ⊢
  have b3 : Below W2.heap.size W2 (W2.alloc (.cells #[.int .u8 to.a, .int .u8 to.b, .int .u8 to.c, .int .u8 to.d, .int .u8 to.e, .int .u8 to.f] 23)) := (Below.refl _ _).alloc (Nat.le_refl _) _
  have t3 : RvAt (W2.alloc (.cells #[.int .u8 to.a, .int .u8 to.b, .int .u8 to.c, .int .u8 to.d, .int .u8 to.e, .int .u8 to.f] 23)) W2.heap.size 23 #[.int .u8 to.a, .int .u8 to.b, .int .u8 to.c, .int .u8 to.d, .int .u8 to.e, .int .u8 to.f] := alloc_at W2 _
  obtain ⟨W3, h3⟩ : ∃ W, W2.alloc (.cells #[.int .u8 to.a, .int .u8 to.b, .int .u8 to.c, .int .u8 to.d, .int .u8 to.e, .int .u8 to.f] 23) = W := ⟨_, rfl⟩
  have s3 : W3.heap.size = w.heap.size + 3 := by rw [← h3]; simp [s2]
  rw [h3] at b3 t3 ⊢
  have b4 : Below W3.heap.size W3 (W3.alloc (.cells #[.int .u8 0, .int .u8 0, .int .u8 0, .int .u8 0, .int .u8 0, .int .u8 0, .int .u8 0, .int .u8 0, .int .u8 0, .int .u8 0, .int .u8 0, .int .u8 0, .int .i64 0, .bool false, .int .i64 0, .int .i64 0, .bool false, .bool false, .int .i64 0, .int .u8 0, .int .u8 0, .int .u8 0, .int .u8 0, .int .u8 0, .int .u8 0, .int .u8 0, .int .u8 0, .int .u8 0, .int .u8 0, .int .u8 0, .int .u8 0, .slice none 0 0] 49)) := (Below.refl _ _).alloc (Nat.le_refl _) _
  have z4 := zeroB_new W3
  rw [s1] at o2
  rw [s2] at t3
  rw [s3] at z4
  exact ⟨((f1.below b2).below b3).below b4, (o2.below b3).below b4, t3.below b4, z4, below_over (below_over (below_over b1 b2) b3) b4⟩

/-- A frame of the backbone, stored into a new variable. -/
theorem bstore_new (W : World) (g : Bf) (y : Value) (hy : y.oneCell' = true) :
    ∃ W', (stS 49 (.pointer (some ⟨W.heap.size, 0, none⟩)) (.agg (bcs g y))).run Try.prog (W.alloc (.cells #[.int .u8 0, .int .u8 0, .int .u8 0, .int .u8 0, .int .u8 0, .int .u8 0, .int .u8 0, .int .u8 0, .int .u8 0, .int .u8 0, .int .u8 0, .int .u8 0, .int .i64 0, .bool false, .int .i64 0, .int .i64 0, .bool false, .bool false, .int .i64 0, .int .u8 0, .int .u8 0, .int .u8 0, .int .u8 0, .int .u8 0, .int .u8 0, .int .u8 0, .int .u8 0, .int .u8 0, .int .u8 0, .int .u8 0, .int .u8 0, .slice none 0 0] 49)) = .ok () W' ∧ BfAt W' W.heap.size g y ∧ Below W.heap.size W W' :=
  ⟨_, (zeroB_new W).st hy, (zeroB_new W).set, below_setRow ((Below.refl _ _).alloc (Nat.le_refl _) _) (Nat.le_refl _) _⟩

attribute [local go_sem ↓] slS_eq ldS_MAC ldS_Tag ldI27 ldS_BFrame ldS_Frame stS_Frame stS_BFrame stS_Tag

set_option maxHeartbeats 1000000 in
theorem hide_no (f : Fr) (a : Option Addr) (n c : Nat) (l : List Int) (isid vid : Int) (own to : M6) (w : World) (h : Src w (.slice a n c) l) (hb : ∀ x ∈ l, 0 ≤ x ∧ x ≤ 255) (hf : f.ok) (he : ¬ chkF f l = 0) :
    Calls Try.prog 43 #[.agg (fcs f (.slice a n c)), .int .i64 isid, .int .i64 vid, .agg #[.int .u8 own.a, .int .u8 own.b, .int .u8 own.c, .int .u8 own.d, .int .u8 own.e, .int .u8 own.f], .agg #[.int .u8 to.a, .int .u8 to.b, .int .u8 to.c, .int .u8 to.d, .int .u8 to.e, .int .u8 to.f]] w fun r w' => HdOut f l isid vid own to w r w' := by
  have h0 := Hst.new w f (.slice a n c) own to
  obtain ⟨V, hV⟩ : ∃ V, ((((w.alloc (.cells (fcs f (.slice a n c)) 34)).alloc (.cells #[.int .u8 own.a, .int .u8 own.b, .int .u8 own.c, .int .u8 own.d, .int .u8 own.e, .int .u8 own.f] 23)).alloc (.cells #[.int .u8 to.a, .int .u8 to.b, .int .u8 to.c, .int .u8 to.d, .int .u8 to.e, .int .u8 to.f] 23)).alloc (.cells #[.int .u8 0, .int .u8 0, .int .u8 0, .int .u8 0, .int .u8 0, .int .u8 0, .int .u8 0, .int .u8 0, .int .u8 0, .int .u8 0, .int .u8 0, .int .u8 0, .int .i64 0, .bool false, .int .i64 0, .int .i64 0, .bool false, .bool false, .int .i64 0, .int .u8 0, .int .u8 0, .int .u8 0, .int .u8 0, .int .u8 0, .int .u8 0, .int .u8 0, .int .u8 0, .int .u8 0, .int .u8 0, .int .u8 0, .int .u8 0, .slice none 0 0] 49)) = V := ⟨_, rfl⟩
  rw [hV] at h0
  have ld := h0.fr.ld
  have HH : Hid (Hst w V f (.slice a n c) own to) := h0
  have HK : Hid _ := check_fr f (.slice a n c) l V (h.below h0.below) hb hf
  have HE : Hid (hdE f l isid vid own to = chkF f l) := by unfold hdE; rw [if_neg he]; rfl
  obtain ⟨E, hE⟩ : ∃ E, chkF f l = E := ⟨_, rfl⟩
  rw [hE] at he HE HK
  have he' : (E != 0) = true := by simpa using he
  clear h hb hf h0 hE
  go_enter Try.func43, Try.ntmps43
  go_wp2_with fail
  refine Calls.mono HK.out ?_
  rintro _ W ⟨rfl, hW⟩
  have h1 := HH.out.later hW
  have zs := h1.z.zst
  have HZ : Hid _ := h1.zat zeroB (.slice none 0 0)
  clear hW ld h1 HK HH hV
  go_wp2
  refine bodyPost_ret (results_btwo Try.results43 _ _ _ _ _ _ rfl rfl HZ.out.1) rfl ?_
  exact hd_err E HE.out he HZ.out.2

set_option maxHeartbeats 1000000 in
theorem hide_plain (f : Fr) (a : Option Addr) (n c : Nat) (l : List Int) (isid vid : Int) (own to : M6) (w : World) (h : Src w (.slice a n c) l) (hb : ∀ x ∈ l, 0 ≤ x ∧ x ≤ 255) (hf : f.ok) (he : chkF f l = 0) (ht : f.t = false) :
    Calls Try.prog 43 #[.agg (fcs f (.slice a n c)), .int .i64 isid, .int .i64 vid, .agg #[.int .u8 own.a, .int .u8 own.b, .int .u8 own.c, .int .u8 own.d, .int .u8 own.e, .int .u8 own.f], .agg #[.int .u8 to.a, .int .u8 to.b, .int .u8 to.c, .int .u8 to.d, .int .u8 to.e, .int .u8 to.f]] w fun r w' => HdOut f l isid vid own to w r w' := by
  have h0 := Hst.new w f (.slice a n c) own to
  obtain ⟨V, hV⟩ : ∃ V, ((((w.alloc (.cells (fcs f (.slice a n c)) 34)).alloc (.cells #[.int .u8 own.a, .int .u8 own.b, .int .u8 own.c, .int .u8 own.d, .int .u8 own.e, .int .u8 own.f] 23)).alloc (.cells #[.int .u8 to.a, .int .u8 to.b, .int .u8 to.c, .int .u8 to.d, .int .u8 to.e, .int .u8 to.f] 23)).alloc (.cells #[.int .u8 0, .int .u8 0, .int .u8 0, .int .u8 0, .int .u8 0, .int .u8 0, .int .u8 0, .int .u8 0, .int .u8 0, .int .u8 0, .int .u8 0, .int .u8 0, .int .i64 0, .bool false, .int .i64 0, .int .i64 0, .bool false, .bool false, .int .i64 0, .int .u8 0, .int .u8 0, .int .u8 0, .int .u8 0, .int .u8 0, .int .u8 0, .int .u8 0, .int .u8 0, .int .u8 0, .int .u8 0, .int .u8 0, .int .u8 0, .slice none 0 0] 49)) = V := ⟨_, rfl⟩
  rw [hV] at h0
  have ld := h0.fr.ld
  have HH : Hid (Hst w V f (.slice a n c) own to) := h0
  have HK : Hid _ := check_fr f (.slice a n c) l V (h.below h0.below) hb hf
  have HE : Hid (hdE f l isid vid own to = 30) := by unfold hdE; rw [if_pos he, ht]; rfl
  have HT : Hid (f.t = false) := ht
  rw [he] at HK
  clear h hb hf h0 he ht
  go_enter Try.func43, Try.ntmps43
  go_wp2_with fail
  refine Calls.mono HK.out ?_
  rintro _ W ⟨rfl, hW⟩
  have h1 := HH.out.later hW
  have c12 := h1.fr.c12
  rw [HT.out] at c12
  have zs := h1.z.zst
  have HZ : Hid _ := h1.zat zeroB (.slice none 0 0)
  clear hW ld h1 HK HH hV
  go_wp2
  refine bodyPost_ret (results_btwo Try.results43 _ _ _ _ _ _ rfl rfl HZ.out.1) rfl ?_
  exact hd_err 30 HE.out (by omega) HZ.out.2

set_option maxHeartbeats 2000000 in
theorem hide_yes (f : Fr) (a : Option Addr) (n c : Nat) (l : List Int) (isid vid : Int) (own to : M6) (w : World) (h : Src w (.slice a n c) l) (hb : ∀ x ∈ l, 0 ≤ x ∧ x ≤ 255) (hf : f.ok) (how : own.ok) (hto : to.ok) (he : chkF f l = 0) (hl : l.length ≤ 2000) (ht : f.t = true) :
    Calls Try.prog 43 #[.agg (fcs f (.slice a n c)), .int .i64 isid, .int .i64 vid, .agg #[.int .u8 own.a, .int .u8 own.b, .int .u8 own.c, .int .u8 own.d, .int .u8 own.e, .int .u8 own.f], .agg #[.int .u8 to.a, .int .u8 to.b, .int .u8 to.c, .int .u8 to.d, .int .u8 to.e, .int .u8 to.f]] w fun r w' => HdOut f l isid vid own to w r w' := by
  have h0 := Hst.new w f (.slice a n c) own to
  obtain ⟨V, hV⟩ : ∃ V, ((((w.alloc (.cells (fcs f (.slice a n c)) 34)).alloc (.cells #[.int .u8 own.a, .int .u8 own.b, .int .u8 own.c, .int .u8 own.d, .int .u8 own.e, .int .u8 own.f] 23)).alloc (.cells #[.int .u8 to.a, .int .u8 to.b, .int .u8 to.c, .int .u8 to.d, .int .u8 to.e, .int .u8 to.f] 23)).alloc (.cells #[.int .u8 0, .int .u8 0, .int .u8 0, .int .u8 0, .int .u8 0, .int .u8 0, .int .u8 0, .int .u8 0, .int .u8 0, .int .u8 0, .int .u8 0, .int .u8 0, .int .i64 0, .bool false, .int .i64 0, .int .i64 0, .bool false, .bool false, .int .i64 0, .int .u8 0, .int .u8 0, .int .u8 0, .int .u8 0, .int .u8 0, .int .u8 0, .int .u8 0, .int .u8 0, .int .u8 0, .int .u8 0, .int .u8 0, .int .u8 0, .slice none 0 0] 49)) = V := ⟨_, rfl⟩
  rw [hV] at h0
  have ld := h0.fr.ld
  have HH : Hid (Hst w V f (.slice a n c) own to) := h0
  have HK : Hid _ := check_fr f (.slice a n c) l V (h.below h0.below) hb hf
  have HE : Hid (hdE f l isid vid own to = chkB (hidF f isid vid own to) l) := by unfold hdE; rw [if_pos he, ht]; rfl
  have HT : Hid (f.t = true) := ht
  have HS : Hid (Src w (.slice a n c) l ∧ l.length ≤ 2000) := ⟨h, hl⟩
  have HC : Hid (∀ W, Below w.heap.size w W → Calls Try.prog 49 #[.agg (bcs (hidF f isid vid own to) (.slice a n c))] W fun r w' => r = .returned (.int .i64 (chkB (hidF f isid vid own to) l)) ∧ Below W.heap.size W w') := fun W hW => bcheck_any _ _ l W (h.below hW) hb (hidF_ok hf how hto)
  rw [he] at HK
  clear h hb hf h0 he ht how hto hl
  go_enter Try.func43, Try.ntmps43
  go_wp2_with fail
  refine Calls.mono HK.out ?_
  rintro _ W ⟨rfl, hW⟩
  have h1 := HH.out.later hW
  have H1 : Hid (Hst w W f (.slice a n c) own to) := h1
  have c12 := h1.fr.c12
  rw [HT.out] at c12
  have c13 := h1.fr.c13
  have c14 := h1.fr.c14
  have c16 := h1.fr.c16
  have ldd := h1.fr.ldd
  have lds := h1.fr.lds
  unfold M6.v at ldd lds
  have lo := h1.ow.ld rt_MAC rfl
  have lt := h1.to'.ld rt_MAC rfl
  obtain ⟨W2, st2, F2, B2⟩ := bstore_new W (hidF f isid vid own to) (.slice a n c) rfl
  have st2 : (stS 49 (.pointer (some ⟨W.heap.size, 0, none⟩)) (.agg #[.int .u8 to.a, .int .u8 to.b, .int .u8 to.c, .int .u8 to.d, .int .u8 to.e, .int .u8 to.f, .int .u8 own.a, .int .u8 own.b, .int .u8 own.c, .int .u8 own.d, .int .u8 own.e, .int .u8 own.f, .int .i64 f.p, .bool f.e, .int .i64 vid, .int .i64 f.p, .bool f.e, .bool true, .int .i64 isid, .int .u8 f.d.a, .int .u8 f.d.b, .int .u8 f.d.c, .int .u8 f.d.d, .int .u8 f.d.e, .int .u8 f.d.f, .int .u8 f.s.a, .int .u8 f.s.b, .int .u8 f.s.c, .int .u8 f.s.d, .int .u8 f.s.e, .int .u8 f.s.f, .slice a n c])).run Try.prog (W.alloc (.cells #[.int .u8 0, .int .u8 0, .int .u8 0, .int .u8 0, .int .u8 0, .int .u8 0, .int .u8 0, .int .u8 0, .int .u8 0, .int .u8 0, .int .u8 0, .int .u8 0, .int .i64 0, .bool false, .int .i64 0, .int .i64 0, .bool false, .bool false, .int .i64 0, .int .u8 0, .int .u8 0, .int .u8 0, .int .u8 0, .int .u8 0, .int .u8 0, .int .u8 0, .int .u8 0, .int .u8 0, .int .u8 0, .int .u8 0, .int .u8 0, .slice none 0 0] 49)) = .ok () W2 := st2
  have H2 : Hid (Hst w W2 f (.slice a n c) own to ∧ BfAt W2 W.heap.size (hidF f isid vid own to) (.slice a n c) ∧ w.heap.size + 3 < W.heap.size) := ⟨h1.later B2, F2, h1.z.lt⟩
  have ld2 := F2.ld
  clear hW ld h1 HK HH hV F2 B2
  obtain ⟨E, hE⟩ : ∃ E, chkB (hidF f isid vid own to) l = E := ⟨_, rfl⟩
  rw [hE] at HE HC
  clear hE
  go_wp2_with fail
  refine (HC.out _ H2.out.1.below).mono ?_
  rintro _ W3 ⟨rfl, hW3⟩
  have H3 : Hid (Hst w W3 f (.slice a n c) own to ∧ BfAt W3 W.heap.size (hidF f isid vid own to) (.slice a n c)) := ⟨H2.out.1.later hW3, H2.out.2.1.below hW3⟩
  clear hW3 c12 c13 c14 c16 ldd lds lo lt st2 ld2 H1
  cases ge : (E != 0)
  rotate_left
  · have zs := H3.out.1.z.zst
    have HZ : Hid _ := H3.out.1.zat zeroB (.slice none 0 0)
    go_wp2
    refine bodyPost_ret (results_btwo Try.results43 _ _ _ _ _ _ rfl rfl HZ.out.1) rfl ?_
    exact hd_err E HE.out (by simpa using ge) HZ.out.2
  · have HE0 : Hid (E = 0) := by have : E = 0 := by simpa using ge
                                 exact this
    have k31 := H3.out.2.c31
    go_wp2_with fail
    refine (clone_v _ l _ (HS.out.1.below H3.out.1.below) HS.out.2).mono ?_
    rintro _ W4 ⟨s4, rfl, ho4, hb4⟩
    obtain ⟨a4, n4, c4, rfl⟩ := src_form ho4.src
    have h4 := H3.out.1.later hb4
    have f4 := H3.out.2.below hb4
    have O4 : Hid (Own W4 w.heap.size (.slice a4 n4 c4) l ∧ ∀ k, (Value.slice a4 n4 c4).ownBlock = some k → W.heap.size < k) := ⟨ho4.base H3.out.1.below.size, fun k hk => by have h1 := (ho4.block k hk).1; have h2 := H3.out.2.lt; omega⟩
    have m31 := f4.c31
    have lv := f4.live
    have f5 := f4.rest (.slice a4 n4 c4)
    have ld5 := f5.ld
    have hlt := H2.out.2.2
    have z5 := h4.z.apart (a := ⟨W.heap.size, 31, none⟩) (by simp; omega) (.slice a4 n4 c4)
    have st5 := z5.st (g := hidF f isid vid own to) (y := .slice a4 n4 c4) rfl
    have HZ : Hid _ := And.intro (z5.set (g := hidF f isid vid own to) (y := .slice a4 n4 c4)) (below_setRow (h4.below.setCell (p := ⟨W.heap.size, 31, none⟩) (by simp; omega) (.slice a4 n4 c4)) (show w.heap.size ≤ w.heap.size + 3 by omega) (bcs (hidF f isid vid own to) (.slice a4 n4 c4)))
    have HLT : Hid (w.heap.size + 3 < W.heap.size) := hlt
    clear ho4 hb4 h4 f4 f5 z5 k31 hlt
    go_wp2
    refine bodyPost_ret (results_btwo Try.results43 _ _ _ _ _ _ rfl rfl HZ.out.1) rfl ?_
    refine hd_ok (by rw [HE.out, HE0.out]) ?_ HZ.out.2
    refine O4.out.1.of_block fun k hk => ?_
    have h1 := O4.out.2 k hk
    have h2 := HLT.out
    rw [setRow_other _ _ _ _ (by omega), heap_setCell_other _ _ _ _ (by simp; omega)]

theorem hide_any (f : Fr) (x : Value) (l : List Int) (isid vid : Int) (own to : M6) (w : World) (h : Src w x l) (hb : ∀ x ∈ l, 0 ≤ x ∧ x ≤ 255) (hf : f.ok) (how : own.ok) (hto : to.ok) (hl : l.length ≤ 2000) :
    Calls Try.prog 43 #[.agg (fcs f x), .int .i64 isid, .int .i64 vid, own.v, to.v] w fun r w' => HdOut f l isid vid own to w r w' := by
  obtain ⟨a, n, c, rfl⟩ := src_form h
  by_cases he : chkF f l = 0
  · cases ht : f.t
    · exact hide_plain f a n c l isid vid own to w h hb hf he ht
    · exact hide_yes f a n c l isid vid own to w h hb hf how hto he hl ht
  · exact hide_no f a n c l isid vid own to w h hb hf he
end S4
end

end Go.Proofs.Ytgjagedngdhdaaa
