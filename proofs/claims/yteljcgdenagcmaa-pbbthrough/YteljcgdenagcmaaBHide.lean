/-
  What hiding a customer's frame answers, and the walk: for every frame.
-/
import Derived.Test.YteljcgdenagcmaaBDec
namespace Go.Proofs.Yteljcgdenagcmaa
set_option linter.unusedVariables false
set_option maxRecDepth 4000
set_option linter.unusedSimpArgs false
open Go.RowKit

/-- The frame that carries a customer's. -/
def hidF (f : Fr) (isid vid : Int) (own to : M6) : Bf := ⟨to, own, f.p, f.e, vid, f.p, f.e, true, isid, f.d, f.s⟩
theorem hidF_ok {f : Fr} {isid vid : Int} {own to : M6} (hf : f.ok) (ho : own.ok) (ht : to.ok) : (hidF f isid vid own to).ok := ⟨ht, ho, hf.1, hf.2⟩
/-- The error of hiding. -/
def hdE (f : Fr) (l : List Int) (isid vid : Int) (own to : M6) : Int := if chkF f l = 0 then (if f.t then chkB (hidF f isid vid own to) l else 30) else chkF f l
def hdB (f : Fr) (l : List Int) (isid vid : Int) (own to : M6) : Bf := if hdE f l isid vid own to = 0 then hidF f isid vid own to else zeroB
def hdR (f : Fr) (l : List Int) (isid vid : Int) (own to : M6) : List Int := if hdE f l isid vid own to = 0 then l else []
def HdOut (f : Fr) (l : List Int) (isid vid : Int) (own to : M6) (w : World) (r : Ending) (w' : World) : Prop :=
  ∃ s, r = .returned (.tuple #[.agg (bcs (hdB f l isid vid own to) s), .int .i64 (hdE f l isid vid own to)]) ∧ Own w' w.heap.size s (hdR f l isid vid own to) ∧ Below w.heap.size w w'
theorem hd_err {f : Fr} {l : List Int} {isid vid : Int} {own to : M6} {w w' : World} (e : Int) (he : hdE f l isid vid own to = e) (h0 : ¬ e = 0) (hb : Below w.heap.size w w') : HdOut f l isid vid own to w (.returned (.tuple #[.agg (bcs zeroB (.slice none 0 0)), .int .i64 e])) w' := by
  refine ⟨.slice none 0 0, ?_, ?_, hb⟩
  · unfold hdB; rw [he, if_neg h0]
  · unfold hdR; rw [he, if_neg h0]; exact own_nil _ _
theorem hd_ok {f : Fr} {l : List Int} {isid vid : Int} {own to : M6} {w w' : World} {s : Value} (he : hdE f l isid vid own to = 0) (ho : Own w' w.heap.size s l) (hb : Below w.heap.size w w') : HdOut f l isid vid own to w (.returned (.tuple #[.agg (bcs (hidF f isid vid own to) s), .int .i64 0])) w' := by
  refine ⟨s, ?_, ?_, hb⟩
  · unfold hdB; rw [he, if_pos rfl]
  · unfold hdR; rw [he, if_pos rfl]; exact ho

/-- The variables of hiding: the frame's, the addresses', the answer's. -/
structure Hst (w W : World) (f : Fr) (x : Value) (own to : M6) : Prop where
  fr : FrAt W w.heap.size f x
  ow : RvAt W (w.heap.size + 1) 23 #[.int .u8 own.a, .int .u8 own.b, .int .u8 own.c, .int .u8 own.d, .int .u8 own.e, .int .u8 own.f]
  to' : RvAt W (w.heap.size + 2) 23 #[.int .u8 to.a, .int .u8 to.b, .int .u8 to.c, .int .u8 to.d, .int .u8 to.e, .int .u8 to.f]
  z : BfAt W (w.heap.size + 3) zeroB (.slice none 0 0)
  below : Below w.heap.size w W
theorem Hst.later {w W W' : World} {f : Fr} {x : Value} {own to : M6} (h : Hst w W f x own to) (hb : Below W.heap.size W W') : Hst w W' f x own to := ⟨h.fr.below hb, h.ow.below hb, h.to'.below hb, h.z.below hb, below_over h.below hb⟩
theorem Hst.zat {w W : World} {f : Fr} {x : Value} {own to : M6} (h : Hst w W f x own to) (h' : Bf) (y : Value) : BfAt (W.setRow (w.heap.size + 3) (bcs h' y)) (w.heap.size + 3) h' y ∧ Below w.heap.size w (W.setRow (w.heap.size + 3) (bcs h' y)) := ⟨h.z.set, below_setRow h.below (by omega) _⟩
theorem Hst.new (w : World) (f : Fr) (x : Value) (own to : M6) : Hst w ((((w.alloc (.cells (fcs f x) 38)).alloc (.cells #[.int .u8 own.a, .int .u8 own.b, .int .u8 own.c, .int .u8 own.d, .int .u8 own.e, .int .u8 own.f] 23)).alloc (.cells #[.int .u8 to.a, .int .u8 to.b, .int .u8 to.c, .int .u8 to.d, .int .u8 to.e, .int .u8 to.f] 23)).alloc (.cells #[.int .u8 0, .int .u8 0, .int .u8 0, .int .u8 0, .int .u8 0, .int .u8 0, .int .u8 0, .int .u8 0, .int .u8 0, .int .u8 0, .int .u8 0, .int .u8 0, .int .i64 0, .bool false, .int .i64 0, .int .i64 0, .bool false, .bool false, .int .i64 0, .int .u8 0, .int .u8 0, .int .u8 0, .int .u8 0, .int .u8 0, .int .u8 0, .int .u8 0, .int .u8 0, .int .u8 0, .int .u8 0, .int .u8 0, .int .u8 0, .slice none 0 0] 30)) f x own to := by
  have b1 : Below w.heap.size w (w.alloc (.cells (fcs f x) 38)) := (Below.refl _ _).alloc (Nat.le_refl _) _
  obtain ⟨W1, h1⟩ : ∃ W, w.alloc (.cells (fcs f x) 38) = W := ⟨_, rfl⟩
  have f1 := FrAt.new w f x
  have s1 : W1.heap.size = w.heap.size + 1 := by rw [← h1]; simp
  rw [h1] at f1 b1 ⊢
  have b2 : Below W1.heap.size W1 (W1.alloc (.cells #[.int .u8 own.a, .int .u8 own.b, .int .u8 own.c, .int .u8 own.d, .int .u8 own.e, .int .u8 own.f] 23)) := (Below.refl _ _).alloc (Nat.le_refl _) _
  have o2 : RvAt (W1.alloc (.cells #[.int .u8 own.a, .int .u8 own.b, .int .u8 own.c, .int .u8 own.d, .int .u8 own.e, .int .u8 own.f] 23)) W1.heap.size 23 #[.int .u8 own.a, .int .u8 own.b, .int .u8 own.c, .int .u8 own.d, .int .u8 own.e, .int .u8 own.f] := alloc_at W1 _
  obtain ⟨W2, h2⟩ : ∃ W, W1.alloc (.cells #[.int .u8 own.a, .int .u8 own.b, .int .u8 own.c, .int .u8 own.d, .int .u8 own.e, .int .u8 own.f] 23) = W := ⟨_, rfl⟩
  have s2 : W2.heap.size = w.heap.size + 2 := by rw [← h2]; simp [s1]
  rw [h2] at b2 o2 ⊢
  have b3 : Below W2.heap.size W2 (W2.alloc (.cells #[.int .u8 to.a, .int .u8 to.b, .int .u8 to.c, .int .u8 to.d, .int .u8 to.e, .int .u8 to.f] 23)) := (Below.refl _ _).alloc (Nat.le_refl _) _
  have t3 : RvAt (W2.alloc (.cells #[.int .u8 to.a, .int .u8 to.b, .int .u8 to.c, .int .u8 to.d, .int .u8 to.e, .int .u8 to.f] 23)) W2.heap.size 23 #[.int .u8 to.a, .int .u8 to.b, .int .u8 to.c, .int .u8 to.d, .int .u8 to.e, .int .u8 to.f] := alloc_at W2 _
  obtain ⟨W3, h3⟩ : ∃ W, W2.alloc (.cells #[.int .u8 to.a, .int .u8 to.b, .int .u8 to.c, .int .u8 to.d, .int .u8 to.e, .int .u8 to.f] 23) = W := ⟨_, rfl⟩
  have s3 : W3.heap.size = w.heap.size + 3 := by rw [← h3]; simp [s2]
  rw [h3] at b3 t3 ⊢
  have b4 : Below W3.heap.size W3 (W3.alloc (.cells #[.int .u8 0, .int .u8 0, .int .u8 0, .int .u8 0, .int .u8 0, .int .u8 0, .int .u8 0, .int .u8 0, .int .u8 0, .int .u8 0, .int .u8 0, .int .u8 0, .int .i64 0, .bool false, .int .i64 0, .int .i64 0, .bool false, .bool false, .int .i64 0, .int .u8 0, .int .u8 0, .int .u8 0, .int .u8 0, .int .u8 0, .int .u8 0, .int .u8 0, .int .u8 0, .int .u8 0, .int .u8 0, .int .u8 0, .int .u8 0, .slice none 0 0] 30)) := (Below.refl _ _).alloc (Nat.le_refl _) _
  have z4 := zeroB_new W3
  rw [s1] at o2
  rw [s2] at t3
  rw [s3] at z4
  exact ⟨((f1.below b2).below b3).below b4, (o2.below b3).below b4, t3.below b4, z4, below_over (below_over (below_over b1 b2) b3) b4⟩

/-- A frame of the backbone, stored into a new variable. -/
theorem bstore_new (W : World) (g : Bf) (y : Value) (hy : y.oneCell' = true) :
    ∃ W', (stS 30 (.pointer (some ⟨W.heap.size, 0, none⟩)) (.agg (bcs g y))).run Try.prog (W.alloc (.cells #[.int .u8 0, .int .u8 0, .int .u8 0, .int .u8 0, .int .u8 0, .int .u8 0, .int .u8 0, .int .u8 0, .int .u8 0, .int .u8 0, .int .u8 0, .int .u8 0, .int .i64 0, .bool false, .int .i64 0, .int .i64 0, .bool false, .bool false, .int .i64 0, .int .u8 0, .int .u8 0, .int .u8 0, .int .u8 0, .int .u8 0, .int .u8 0, .int .u8 0, .int .u8 0, .int .u8 0, .int .u8 0, .int .u8 0, .int .u8 0, .slice none 0 0] 30)) = .ok () W' ∧ BfAt W' W.heap.size g y ∧ Below W.heap.size W W' :=
  ⟨_, (zeroB_new W).st hy, (zeroB_new W).set, below_setRow ((Below.refl _ _).alloc (Nat.le_refl _) _) (Nat.le_refl _) _⟩

attribute [local go_sem ↓] slS_eq ldS23 ldS25 ldI27 ldS30 ldS38 stS38 stS30 stS25

set_option maxHeartbeats 1000000 in
theorem hide_no (f : Fr) (a : Option Addr) (n c : Nat) (l : List Int) (isid vid : Int) (own to : M6) (w : World) (h : Src w (.slice a n c) l) (hb : ∀ x ∈ l, 0 ≤ x ∧ x ≤ 255) (hf : f.ok) (he : ¬ chkF f l = 0) :
    Calls Try.prog 23 #[.agg (fcs f (.slice a n c)), .int .i64 isid, .int .i64 vid, .agg #[.int .u8 own.a, .int .u8 own.b, .int .u8 own.c, .int .u8 own.d, .int .u8 own.e, .int .u8 own.f], .agg #[.int .u8 to.a, .int .u8 to.b, .int .u8 to.c, .int .u8 to.d, .int .u8 to.e, .int .u8 to.f]] w fun r w' => HdOut f l isid vid own to w r w' := by
  have h0 := Hst.new w f (.slice a n c) own to
  obtain ⟨V, hV⟩ : ∃ V, ((((w.alloc (.cells (fcs f (.slice a n c)) 38)).alloc (.cells #[.int .u8 own.a, .int .u8 own.b, .int .u8 own.c, .int .u8 own.d, .int .u8 own.e, .int .u8 own.f] 23)).alloc (.cells #[.int .u8 to.a, .int .u8 to.b, .int .u8 to.c, .int .u8 to.d, .int .u8 to.e, .int .u8 to.f] 23)).alloc (.cells #[.int .u8 0, .int .u8 0, .int .u8 0, .int .u8 0, .int .u8 0, .int .u8 0, .int .u8 0, .int .u8 0, .int .u8 0, .int .u8 0, .int .u8 0, .int .u8 0, .int .i64 0, .bool false, .int .i64 0, .int .i64 0, .bool false, .bool false, .int .i64 0, .int .u8 0, .int .u8 0, .int .u8 0, .int .u8 0, .int .u8 0, .int .u8 0, .int .u8 0, .int .u8 0, .int .u8 0, .int .u8 0, .int .u8 0, .int .u8 0, .slice none 0 0] 30)) = V := ⟨_, rfl⟩
  rw [hV] at h0
  have ld := h0.fr.ld
  have HH : Hid (Hst w V f (.slice a n c) own to) := h0
  have HK : Hid _ := check_fr f (.slice a n c) l V (h.below h0.below) hb hf
  have HE : Hid (hdE f l isid vid own to = chkF f l) := by unfold hdE; rw [if_neg he]; rfl
  obtain ⟨E, hE⟩ : ∃ E, chkF f l = E := ⟨_, rfl⟩
  rw [hE] at he HE HK
  have he' : (E != 0) = true := by simpa using he
  clear h hb hf h0 hE
  go_enter Try.func23, Try.ntmps23
  go_wp2_with fail
  refine Calls.mono HK.out ?_
  rintro _ W ⟨rfl, hW⟩
  have h1 := HH.out.later hW
  have zs := h1.z.zst
  have HZ : Hid _ := h1.zat zeroB (.slice none 0 0)
  clear hW ld h1 HK HH hV
  go_wp2
  refine bodyPost_ret (results_btwo Try.results23 _ _ _ _ _ _ rfl rfl HZ.out.1) rfl ?_
  exact hd_err E HE.out he HZ.out.2

set_option maxHeartbeats 1000000 in
theorem hide_plain (f : Fr) (a : Option Addr) (n c : Nat) (l : List Int) (isid vid : Int) (own to : M6) (w : World) (h : Src w (.slice a n c) l) (hb : ∀ x ∈ l, 0 ≤ x ∧ x ≤ 255) (hf : f.ok) (he : chkF f l = 0) (ht : f.t = false) :
    Calls Try.prog 23 #[.agg (fcs f (.slice a n c)), .int .i64 isid, .int .i64 vid, .agg #[.int .u8 own.a, .int .u8 own.b, .int .u8 own.c, .int .u8 own.d, .int .u8 own.e, .int .u8 own.f], .agg #[.int .u8 to.a, .int .u8 to.b, .int .u8 to.c, .int .u8 to.d, .int .u8 to.e, .int .u8 to.f]] w fun r w' => HdOut f l isid vid own to w r w' := by
  have h0 := Hst.new w f (.slice a n c) own to
  obtain ⟨V, hV⟩ : ∃ V, ((((w.alloc (.cells (fcs f (.slice a n c)) 38)).alloc (.cells #[.int .u8 own.a, .int .u8 own.b, .int .u8 own.c, .int .u8 own.d, .int .u8 own.e, .int .u8 own.f] 23)).alloc (.cells #[.int .u8 to.a, .int .u8 to.b, .int .u8 to.c, .int .u8 to.d, .int .u8 to.e, .int .u8 to.f] 23)).alloc (.cells #[.int .u8 0, .int .u8 0, .int .u8 0, .int .u8 0, .int .u8 0, .int .u8 0, .int .u8 0, .int .u8 0, .int .u8 0, .int .u8 0, .int .u8 0, .int .u8 0, .int .i64 0, .bool false, .int .i64 0, .int .i64 0, .bool false, .bool false, .int .i64 0, .int .u8 0, .int .u8 0, .int .u8 0, .int .u8 0, .int .u8 0, .int .u8 0, .int .u8 0, .int .u8 0, .int .u8 0, .int .u8 0, .int .u8 0, .int .u8 0, .slice none 0 0] 30)) = V := ⟨_, rfl⟩
  rw [hV] at h0
  have ld := h0.fr.ld
  have HH : Hid (Hst w V f (.slice a n c) own to) := h0
  have HK : Hid _ := check_fr f (.slice a n c) l V (h.below h0.below) hb hf
  have HE : Hid (hdE f l isid vid own to = 30) := by unfold hdE; rw [if_pos he, ht]; rfl
  have HT : Hid (f.t = false) := ht
  rw [he] at HK
  clear h hb hf h0 he ht
  go_enter Try.func23, Try.ntmps23
  go_wp2_with fail
  refine Calls.mono HK.out ?_
  rintro _ W ⟨rfl, hW⟩
  have h1 := HH.out.later hW
  have c12 := h1.fr.c12
  rw [HT.out] at c12
  have zs := h1.z.zst
  have HZ : Hid _ := h1.zat zeroB (.slice none 0 0)
  clear hW ld h1 HK HH hV
  go_wp2
  refine bodyPost_ret (results_btwo Try.results23 _ _ _ _ _ _ rfl rfl HZ.out.1) rfl ?_
  exact hd_err 30 HE.out (by omega) HZ.out.2

set_option maxHeartbeats 2000000 in
theorem hide_yes (f : Fr) (a : Option Addr) (n c : Nat) (l : List Int) (isid vid : Int) (own to : M6) (w : World) (h : Src w (.slice a n c) l) (hb : ∀ x ∈ l, 0 ≤ x ∧ x ≤ 255) (hf : f.ok) (how : own.ok) (hto : to.ok) (he : chkF f l = 0) (hl : l.length ≤ 2000) (ht : f.t = true) :
    Calls Try.prog 23 #[.agg (fcs f (.slice a n c)), .int .i64 isid, .int .i64 vid, .agg #[.int .u8 own.a, .int .u8 own.b, .int .u8 own.c, .int .u8 own.d, .int .u8 own.e, .int .u8 own.f], .agg #[.int .u8 to.a, .int .u8 to.b, .int .u8 to.c, .int .u8 to.d, .int .u8 to.e, .int .u8 to.f]] w fun r w' => HdOut f l isid vid own to w r w' := by
  have h0 := Hst.new w f (.slice a n c) own to
  obtain ⟨V, hV⟩ : ∃ V, ((((w.alloc (.cells (fcs f (.slice a n c)) 38)).alloc (.cells #[.int .u8 own.a, .int .u8 own.b, .int .u8 own.c, .int .u8 own.d, .int .u8 own.e, .int .u8 own.f] 23)).alloc (.cells #[.int .u8 to.a, .int .u8 to.b, .int .u8 to.c, .int .u8 to.d, .int .u8 to.e, .int .u8 to.f] 23)).alloc (.cells #[.int .u8 0, .int .u8 0, .int .u8 0, .int .u8 0, .int .u8 0, .int .u8 0, .int .u8 0, .int .u8 0, .int .u8 0, .int .u8 0, .int .u8 0, .int .u8 0, .int .i64 0, .bool false, .int .i64 0, .int .i64 0, .bool false, .bool false, .int .i64 0, .int .u8 0, .int .u8 0, .int .u8 0, .int .u8 0, .int .u8 0, .int .u8 0, .int .u8 0, .int .u8 0, .int .u8 0, .int .u8 0, .int .u8 0, .int .u8 0, .slice none 0 0] 30)) = V := ⟨_, rfl⟩
  rw [hV] at h0
  have ld := h0.fr.ld
  have HH : Hid (Hst w V f (.slice a n c) own to) := h0
  have HK : Hid _ := check_fr f (.slice a n c) l V (h.below h0.below) hb hf
  have HE : Hid (hdE f l isid vid own to = chkB (hidF f isid vid own to) l) := by unfold hdE; rw [if_pos he, ht]; rfl
  have HT : Hid (f.t = true) := ht
  have HS : Hid (Src w (.slice a n c) l ∧ l.length ≤ 2000) := ⟨h, hl⟩
  have HC : Hid (∀ W, Below w.heap.size w W → Calls Try.prog 12 #[.agg (bcs (hidF f isid vid own to) (.slice a n c))] W fun r w' => r = .returned (.int .i64 (chkB (hidF f isid vid own to) l)) ∧ Below W.heap.size W w') := fun W hW => bcheck_any _ _ l W (h.below hW) hb (hidF_ok hf how hto)
  rw [he] at HK
  clear h hb hf h0 he ht how hto hl
  go_enter Try.func23, Try.ntmps23
  go_wp2_with fail
  refine Calls.mono HK.out ?_
  rintro _ W ⟨rfl, hW⟩
  have h1 := HH.out.later hW
  have H1 : Hid (Hst w W f (.slice a n c) own to) := h1
  have c12 := h1.fr.c12
  rw [HT.out] at c12
  have c13 := h1.fr.c13
  have c14 := h1.fr.c14
  have c16 := h1.fr.c16
  have ldd := h1.fr.ldd
  have lds := h1.fr.lds
  unfold M6.v at ldd lds
  have lo := h1.ow.ld rt23 rfl
  have lt := h1.to'.ld rt23 rfl
  obtain ⟨W2, st2, F2, B2⟩ := bstore_new W (hidF f isid vid own to) (.slice a n c) rfl
  have st2 : (stS 30 (.pointer (some ⟨W.heap.size, 0, none⟩)) (.agg #[.int .u8 to.a, .int .u8 to.b, .int .u8 to.c, .int .u8 to.d, .int .u8 to.e, .int .u8 to.f, .int .u8 own.a, .int .u8 own.b, .int .u8 own.c, .int .u8 own.d, .int .u8 own.e, .int .u8 own.f, .int .i64 f.p, .bool f.e, .int .i64 vid, .int .i64 f.p, .bool f.e, .bool true, .int .i64 isid, .int .u8 f.d.a, .int .u8 f.d.b, .int .u8 f.d.c, .int .u8 f.d.d, .int .u8 f.d.e, .int .u8 f.d.f, .int .u8 f.s.a, .int .u8 f.s.b, .int .u8 f.s.c, .int .u8 f.s.d, .int .u8 f.s.e, .int .u8 f.s.f, .slice a n c])).run Try.prog (W.alloc (.cells #[.int .u8 0, .int .u8 0, .int .u8 0, .int .u8 0, .int .u8 0, .int .u8 0, .int .u8 0, .int .u8 0, .int .u8 0, .int .u8 0, .int .u8 0, .int .u8 0, .int .i64 0, .bool false, .int .i64 0, .int .i64 0, .bool false, .bool false, .int .i64 0, .int .u8 0, .int .u8 0, .int .u8 0, .int .u8 0, .int .u8 0, .int .u8 0, .int .u8 0, .int .u8 0, .int .u8 0, .int .u8 0, .int .u8 0, .int .u8 0, .slice none 0 0] 30)) = .ok () W2 := st2
  have H2 : Hid (Hst w W2 f (.slice a n c) own to ∧ BfAt W2 W.heap.size (hidF f isid vid own to) (.slice a n c) ∧ w.heap.size + 3 < W.heap.size) := ⟨h1.later B2, F2, h1.z.lt⟩
  have ld2 := F2.ld
  clear hW ld h1 HK HH hV F2 B2
  obtain ⟨E, hE⟩ : ∃ E, chkB (hidF f isid vid own to) l = E := ⟨_, rfl⟩
  rw [hE] at HE HC
  clear hE
  go_wp2_with fail
  refine (HC.out _ H2.out.1.below).mono ?_
  rintro _ W3 ⟨rfl, hW3⟩
  have H3 : Hid (Hst w W3 f (.slice a n c) own to ∧ BfAt W3 W.heap.size (hidF f isid vid own to) (.slice a n c)) := ⟨H2.out.1.later hW3, H2.out.2.1.below hW3⟩
  clear hW3 c12 c13 c14 c16 ldd lds lo lt st2 ld2 H1
  cases ge : (E != 0)
  rotate_left
  · have zs := H3.out.1.z.zst
    have HZ : Hid _ := H3.out.1.zat zeroB (.slice none 0 0)
    go_wp2
    refine bodyPost_ret (results_btwo Try.results23 _ _ _ _ _ _ rfl rfl HZ.out.1) rfl ?_
    exact hd_err E HE.out (by simpa using ge) HZ.out.2
  · have HE0 : Hid (E = 0) := by have : E = 0 := by simpa using ge
                                 exact this
    have k31 := H3.out.2.c31
    go_wp2_with fail
    refine (clone_v _ l _ (HS.out.1.below H3.out.1.below) HS.out.2).mono ?_
    rintro _ W4 ⟨s4, rfl, ho4, hb4⟩
    obtain ⟨a4, n4, c4, rfl⟩ := src_form ho4.src
    have h4 := H3.out.1.later hb4
    have f4 := H3.out.2.below hb4
    have O4 : Hid (Own W4 w.heap.size (.slice a4 n4 c4) l ∧ ∀ k, (Value.slice a4 n4 c4).ownBlock = some k → W.heap.size < k) := ⟨ho4.base H3.out.1.below.size, fun k hk => by have h1 := (ho4.block k hk).1; have h2 := H3.out.2.lt; omega⟩
    have m31 := f4.c31
    have lv := f4.live
    have f5 := f4.rest (.slice a4 n4 c4)
    have ld5 := f5.ld
    have hlt := H2.out.2.2
    have z5 := h4.z.apart (a := ⟨W.heap.size, 31, none⟩) (by simp; omega) (.slice a4 n4 c4)
    have st5 := z5.st (g := hidF f isid vid own to) (y := .slice a4 n4 c4) rfl
    have HZ : Hid _ := And.intro (z5.set (g := hidF f isid vid own to) (y := .slice a4 n4 c4)) (below_setRow (h4.below.setCell (p := ⟨W.heap.size, 31, none⟩) (by simp; omega) (.slice a4 n4 c4)) (show w.heap.size ≤ w.heap.size + 3 by omega) (bcs (hidF f isid vid own to) (.slice a4 n4 c4)))
    have HLT : Hid (w.heap.size + 3 < W.heap.size) := hlt
    clear ho4 hb4 h4 f4 f5 z5 k31 hlt
    go_wp2
    refine bodyPost_ret (results_btwo Try.results23 _ _ _ _ _ _ rfl rfl HZ.out.1) rfl ?_
    refine hd_ok (by rw [HE.out, HE0.out]) ?_ HZ.out.2
    refine O4.out.1.of_block fun k hk => ?_
    have h1 := O4.out.2 k hk
    have h2 := HLT.out
    rw [setRow_other _ _ _ _ (by omega), heap_setCell_other _ _ _ _ (by simp; omega)]

theorem hide_any (f : Fr) (x : Value) (l : List Int) (isid vid : Int) (own to : M6) (w : World) (h : Src w x l) (hb : ∀ x ∈ l, 0 ≤ x ∧ x ≤ 255) (hf : f.ok) (how : own.ok) (hto : to.ok) (hl : l.length ≤ 2000) :
    Calls Try.prog 23 #[.agg (fcs f x), .int .i64 isid, .int .i64 vid, own.v, to.v] w fun r w' => HdOut f l isid vid own to w r w' := by
  obtain ⟨a, n, c, rfl⟩ := src_form h
  by_cases he : chkF f l = 0
  · cases ht : f.t
    · exact hide_plain f a n c l isid vid own to w h hb hf he ht
    · exact hide_yes f a n c l isid vid own to w h hb hf how hto he hl ht
  · exact hide_no f a n c l isid vid own to w h hb hf he
end Go.Proofs.Yteljcgdenagcmaa
