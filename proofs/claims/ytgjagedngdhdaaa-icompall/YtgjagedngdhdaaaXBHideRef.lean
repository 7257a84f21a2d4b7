/-
  The walk of hiding by definition: for every frame.
-/
import Derived.Test.YtgjagedngdhdaaaJ29XBDec
import Derived.Test.YtgjagedngdhdaaaJ25XBCheckRef
namespace Go.Proofs.Ytgjagedngdhdaaa
namespace S4
set_option linter.unusedVariables false
set_option maxRecDepth 4000
set_option linter.unusedSimpArgs false
open Go.RowKit

attribute [local go_sem ↓] slS_eq ldS_MAC ldS_Tag ldI27 ldS_BFrame ldS_Frame stS_Frame stS_BFrame stS_Tag

theorem Hst.row {w W : World} {f : Fr} {x : Value} {own to : M6} (h : Hst w W f x own to) {b : Nat} {cs : Array Value} (hb : w.heap.size + 3 < b) : Hst w (W.setRow b cs) f x own to :=
  ⟨(setRow_other _ _ _ _ (by omega)).trans h.fr, (setRow_other _ _ _ _ (by omega)).trans h.ow, (setRow_other _ _ _ _ (by omega)).trans h.to', h.z.other (by omega) _, below_setRow h.below (by omega) _⟩
theorem Hst.rd {w w' : World} {f : Fr} {a : Option Addr} {n c : Nat} {own to : M6} (h : Hst w w' f (.slice a n c) own to) : (ldS 23 (.pointer (some ⟨w.heap.size + 2, 0, none⟩))).run Try.prog w' = .ok (.agg #[.int .u8 to.a, .int .u8 to.b, .int .u8 to.c, .int .u8 to.d, .int .u8 to.e, .int .u8 to.f]) w' ∧ (ldS 23 (.pointer (some ⟨w.heap.size + 1, 0, none⟩))).run Try.prog w' = .ok (.agg #[.int .u8 own.a, .int .u8 own.b, .int .u8 own.c, .int .u8 own.d, .int .u8 own.e, .int .u8 own.f]) w' ∧ w'.cell? ⟨w.heap.size, 13, none⟩ = some (.int .i64 f.p) ∧ w'.cell? ⟨w.heap.size, 14, none⟩ = some (.bool f.e) ∧ (ldS 23 (.pointer (some ⟨w.heap.size, 0, none⟩))).run Try.prog w' = .ok (.agg #[.int .u8 f.d.a, .int .u8 f.d.b, .int .u8 f.d.c, .int .u8 f.d.d, .int .u8 f.d.e, .int .u8 f.d.f]) w' ∧ (ldS 23 (.pointer (some ⟨w.heap.size, 6, none⟩))).run Try.prog w' = .ok (.agg #[.int .u8 f.s.a, .int .u8 f.s.b, .int .u8 f.s.c, .int .u8 f.s.d, .int .u8 f.s.e, .int .u8 f.s.f]) w' ∧ w'.cell? ⟨w.heap.size, 16, none⟩ = some (.slice a n c) := ⟨h.to'.ld rt_MAC rfl, h.ow.ld rt_MAC rfl, h.fr.c13, h.fr.c14, h.fr.ldd, h.fr.lds, h.fr.c16⟩

set_option maxHeartbeats 1000000 in
theorem hidref_no (f : Fr) (a : Option Addr) (n c : Nat) (l : List Int) (isid vid : Int) (own to : M6) (w : World) (h : Src w (.slice a n c) l) (hb : ∀ x ∈ l, 0 ≤ x ∧ x ≤ 255) (hf : f.ok) (he : ¬ chkF f l = 0) :
    Calls Try.prog 46 #[.agg (fcs f (.slice a n c)), .int .i64 isid, .int .i64 vid, .agg #[.int .u8 own.a, .int .u8 own.b, .int .u8 own.c, .int .u8 own.d, .int .u8 own.e, .int .u8 own.f], .agg #[.int .u8 to.a, .int .u8 to.b, .int .u8 to.c, .int .u8 to.d, .int .u8 to.e, .int .u8 to.f]] w fun r w' => HdOut f l isid vid own to w r w' := by
  have h0 := Hst.new w f (.slice a n c) own to
  obtain ⟨V, hV⟩ : ∃ V, ((((w.alloc (.cells (fcs f (.slice a n c)) 34)).alloc (.cells #[.int .u8 own.a, .int .u8 own.b, .int .u8 own.c, .int .u8 own.d, .int .u8 own.e, .int .u8 own.f] 23)).alloc (.cells #[.int .u8 to.a, .int .u8 to.b, .int .u8 to.c, .int .u8 to.d, .int .u8 to.e, .int .u8 to.f] 23)).alloc (.cells #[.int .u8 0, .int .u8 0, .int .u8 0, .int .u8 0, .int .u8 0, .int .u8 0, .int .u8 0, .int .u8 0, .int .u8 0, .int .u8 0, .int .u8 0, .int .u8 0, .int .i64 0, .bool false, .int .i64 0, .int .i64 0, .bool false, .bool false, .int .i64 0, .int .u8 0, .int .u8 0, .int .u8 0, .int .u8 0, .int .u8 0, .int .u8 0, .int .u8 0, .int .u8 0, .int .u8 0, .int .u8 0, .int .u8 0, .int .u8 0, .slice none 0 0] 49)) = V := ⟨_, rfl⟩
  rw [hV] at h0
  have ld := h0.fr.ld
  have HH : Hid (Hst w V f (.slice a n c) own to) := h0
  have HK : Hid _ := checkref_any f (.slice a n c) l V (h.below h0.below) hb hf
  have HE : Hid (hdE f l isid vid own to = chkF f l) := by unfold hdE; rw [if_neg he]; rfl
  obtain ⟨E, hE⟩ : ∃ E, chkF f l = E := ⟨_, rfl⟩
  rw [hE] at he HE HK
  have he' : (E != 0) = true := by simpa using he
  clear h hb hf h0 hE
  go_enter Try.func46, Try.ntmps46
  go_wp2_with fail
  refine Calls.mono HK.out ?_
  rintro _ W ⟨rfl, hW⟩
  have h1 := HH.out.later hW
  have zs := h1.z.zst
  have HZ : Hid _ := h1.zat zeroB (.slice none 0 0)
  clear hW ld h1 HK HH hV
  go_wp2
  refine bodyPost_ret (results_btwo Try.results46 _ _ _ _ _ _ rfl rfl HZ.out.1) rfl ?_
  exact hd_err E HE.out he HZ.out.2

set_option maxHeartbeats 1000000 in
theorem hidref_plain (f : Fr) (a : Option Addr) (n c : Nat) (l : List Int) (isid vid : Int) (own to : M6) (w : World) (h : Src w (.slice a n c) l) (hb : ∀ x ∈ l, 0 ≤ x ∧ x ≤ 255) (hf : f.ok) (he : chkF f l = 0) (ht : f.t = false) :
    Calls Try.prog 46 #[.agg (fcs f (.slice a n c)), .int .i64 isid, .int .i64 vid, .agg #[.int .u8 own.a, .int .u8 own.b, .int .u8 own.c, .int .u8 own.d, .int .u8 own.e, .int .u8 own.f], .agg #[.int .u8 to.a, .int .u8 to.b, .int .u8 to.c, .int .u8 to.d, .int .u8 to.e, .int .u8 to.f]] w fun r w' => HdOut f l isid vid own to w r w' := by
  have h0 := Hst.new w f (.slice a n c) own to
  obtain ⟨V, hV⟩ : ∃ V, ((((w.alloc (.cells (fcs f (.slice a n c)) 34)).alloc (.cells #[.int .u8 own.a, .int .u8 own.b, .int .u8 own.c, .int .u8 own.d, .int .u8 own.e, .int .u8 own.f] 23)).alloc (.cells #[.int .u8 to.a, .int .u8 to.b, .int .u8 to.c, .int .u8 to.d, .int .u8 to.e, .int .u8 to.f] 23)).alloc (.cells #[.int .u8 0, .int .u8 0, .int .u8 0, .int .u8 0, .int .u8 0, .int .u8 0, .int .u8 0, .int .u8 0, .int .u8 0, .int .u8 0, .int .u8 0, .int .u8 0, .int .i64 0, .bool false, .int .i64 0, .int .i64 0, .bool false, .bool false, .int .i64 0, .int .u8 0, .int .u8 0, .int .u8 0, .int .u8 0, .int .u8 0, .int .u8 0, .int .u8 0, .int .u8 0, .int .u8 0, .int .u8 0, .int .u8 0, .int .u8 0, .slice none 0 0] 49)) = V := ⟨_, rfl⟩
  rw [hV] at h0
  have ld := h0.fr.ld
  have HH : Hid (Hst w V f (.slice a n c) own to) := h0
  have HK : Hid _ := checkref_any f (.slice a n c) l V (h.below h0.below) hb hf
  have HE : Hid (hdE f l isid vid own to = 30) := by unfold hdE; rw [if_pos he, ht]; rfl
  have HT : Hid (f.t = false) := ht
  rw [he] at HK
  clear h hb hf h0 he ht
  go_enter Try.func46, Try.ntmps46
  go_wp2_with fail
  refine Calls.mono HK.out ?_
  rintro _ W ⟨rfl, hW⟩
  have h1 := HH.out.later hW
  have c12 := h1.fr.c12
  rw [HT.out] at c12
  have zs := h1.z.zst
  have HZ : Hid _ := h1.zat zeroB (.slice none 0 0)
  clear hW ld h1 HK HH hV
  go_wp2
  refine bodyPost_ret (results_btwo Try.results46 _ _ _ _ _ _ rfl rfl HZ.out.1) rfl ?_
  exact hd_err 30 HE.out (by omega) HZ.out.2

set_option maxHeartbeats 4000000 in
theorem hidref_yes (f : Fr) (a : Option Addr) (n c : Nat) (l : List Int) (isid vid : Int) (own to : M6) (w : World) (h : Src w (.slice a n c) l) (hb : ∀ x ∈ l, 0 ≤ x ∧ x ≤ 255) (hf : f.ok) (how : own.ok) (hto : to.ok) (he : chkF f l = 0) (hl : l.length ≤ 2000) (ht : f.t = true) :
    Calls Try.prog 46 #[.agg (fcs f (.slice a n c)), .int .i64 isid, .int .i64 vid, .agg #[.int .u8 own.a, .int .u8 own.b, .int .u8 own.c, .int .u8 own.d, .int .u8 own.e, .int .u8 own.f], .agg #[.int .u8 to.a, .int .u8 to.b, .int .u8 to.c, .int .u8 to.d, .int .u8 to.e, .int .u8 to.f]] w fun r w' => HdOut f l isid vid own to w r w' := by
  have h0 := Hst.new w f (.slice a n c) own to
  obtain ⟨V, hV⟩ : ∃ V, ((((w.alloc (.cells (fcs f (.slice a n c)) 34)).alloc (.cells #[.int .u8 own.a, .int .u8 own.b, .int .u8 own.c, .int .u8 own.d, .int .u8 own.e, .int .u8 own.f] 23)).alloc (.cells #[.int .u8 to.a, .int .u8 to.b, .int .u8 to.c, .int .u8 to.d, .int .u8 to.e, .int .u8 to.f] 23)).alloc (.cells #[.int .u8 0, .int .u8 0, .int .u8 0, .int .u8 0, .int .u8 0, .int .u8 0, .int .u8 0, .int .u8 0, .int .u8 0, .int .u8 0, .int .u8 0, .int .u8 0, .int .i64 0, .bool false, .int .i64 0, .int .i64 0, .bool false, .bool false, .int .i64 0, .int .u8 0, .int .u8 0, .int .u8 0, .int .u8 0, .int .u8 0, .int .u8 0, .int .u8 0, .int .u8 0, .int .u8 0, .int .u8 0, .int .u8 0, .int .u8 0, .slice none 0 0] 49)) = V := ⟨_, rfl⟩
  rw [hV] at h0
  have ld := h0.fr.ld
  have HH : Hid (Hst w V f (.slice a n c) own to) := h0
  have HK : Hid _ := checkref_any f (.slice a n c) l V (h.below h0.below) hb hf
  have HE : Hid (hdE f l isid vid own to = chkB (hidF f isid vid own to) l) := by unfold hdE; rw [if_pos he, ht]; rfl
  have HT : Hid (f.t = true) := ht
  have HS : Hid (Src w (.slice a n c) l ∧ l.length ≤ 2000) := ⟨h, hl⟩
  have HC : Hid (∀ W s, Src W s l → Calls Try.prog 72 #[.agg (bcs (hidF f isid vid own to) s)] W fun r w' => r = .returned (.int .i64 (chkB (hidF f isid vid own to) l)) ∧ Below W.heap.size W w') := fun W s hs => bcheckref_any _ _ l W hs hb (hidF_ok hf how hto)
  rw [he] at HK
  clear h hb hf h0 he ht how hto hl
  go_enter Try.func46, Try.ntmps46
  go_wp2_with fail
  refine Calls.mono HK.out ?_
  rintro _ W ⟨rfl, hW⟩
  have h1 := HH.out.later hW
  have c12 := h1.fr.c12
  rw [HT.out] at c12
  have D0 : Below W.heap.size W W.drew := (Below.refl _ _).drew
  have A0 : Below W.heap.size W (W.alloc (.cells #[] 5)).drew := ((Below.refl _ _).alloc (Nat.le_refl _) _).drew
  have T1 : Hid (Hst w W.drew f (.slice a n c) own to) := h1.later D0
  have T2 : Hid (Hst w (W.alloc (.cells #[] 5)).drew f (.slice a n c) own to) := h1.later A0
  have HA : Hid (Below W.heap.size W (W.alloc (.cells #[] 5)).drew ∧ w.heap.size + 3 < W.heap.size) := ⟨A0, h1.z.lt⟩
  have HO : Hid (Own (W.alloc (.cells #[] 5)).drew W.heap.size (.slice (some ⟨W.heap.size, 0, none⟩) 0 0) []) := own_empty W _ (Nat.le_refl _)
  have HT0 : Hid (Hst w W f (.slice a n c) own to) := h1
  have HSr : Hid (Src (W.alloc (.cells #[] 5)).drew (.slice a n c) l) := HS.out.1.below T2.out.below
  have hlen : ([] : List Int).length + l.length ≤ 100000 := by have := HS.out.2; simp; omega
  have hsz : Hid (W.heap.size ≤ (W.alloc (.cells #[] 5)).drew.heap.size) := A0.size
  clear hW ld h1 HK HH hV D0 A0
  go_wp2
  refine wp_region_noPanic ?_
  refine wp_region_held_drew (S := fun w' => (ldS 23 (.pointer (some ⟨w.heap.size + 2, 0, none⟩))).run Try.prog w' = .ok (.agg #[.int .u8 to.a, .int .u8 to.b, .int .u8 to.c, .int .u8 to.d, .int .u8 to.e, .int .u8 to.f]) w' ∧ (ldS 23 (.pointer (some ⟨w.heap.size + 1, 0, none⟩))).run Try.prog w' = .ok (.agg #[.int .u8 own.a, .int .u8 own.b, .int .u8 own.c, .int .u8 own.d, .int .u8 own.e, .int .u8 own.f]) w' ∧ w'.cell? ⟨w.heap.size, 13, none⟩ = some (.int .i64 f.p) ∧ w'.cell? ⟨w.heap.size, 14, none⟩ = some (.bool f.e) ∧ (ldS 23 (.pointer (some ⟨w.heap.size, 0, none⟩))).run Try.prog w' = .ok (.agg #[.int .u8 f.d.a, .int .u8 f.d.b, .int .u8 f.d.c, .int .u8 f.d.d, .int .u8 f.d.e, .int .u8 f.d.f]) w' ∧ (ldS 23 (.pointer (some ⟨w.heap.size, 6, none⟩))).run Try.prog w' = .ok (.agg #[.int .u8 f.s.a, .int .u8 f.s.b, .int .u8 f.s.c, .int .u8 f.s.d, .int .u8 f.s.e, .int .u8 f.s.f]) w' ∧ w'.cell? ⟨w.heap.size, 16, none⟩ = some (.slice a n c)) (by kernel_rfl) T1.out.rd (fun hHeld => ?_)
  refine wpAnyH_take (i := 0) (oi := { dst := some 25, op := Op.load 23 (Operand.tmp 9), type := 23, pos := "ref.go:85", after := #[], guard := none }) (v := ?_) rfl (by kernel_rfl) (by kernel_rfl) (by kernel_rfl) (fun _ _ _ h => h) (Or.inl ⟨by rfl, ?_⟩) hHeld ?_
  rotate_left
  · intro W hSw
    obtain ⟨q1, q2, q3, q4, q5, q6, q7⟩ := hSw
    first | (go_simp; done) | (go_simp; with_reducible rfl)
  rotate_left
  try simp only [Act.put, List.setIfInBounds_toArray, List.set_cons_zero, List.set_cons_succ]
  refine wpAnyH_take (i := 1) (oi := { dst := some 26, op := Op.load 23 (Operand.tmp 8), type := 23, pos := "ref.go:85", after := #[], guard := none }) (v := ?_) rfl (by kernel_rfl) (by kernel_rfl) (by kernel_rfl) (fun _ _ _ h => h) (Or.inl ⟨by rfl, ?_⟩) hHeld ?_
  rotate_left
  · intro W hSw
    obtain ⟨q1, q2, q3, q4, q5, q6, q7⟩ := hSw
    first | (go_simp; done) | (go_simp; with_reducible rfl)
  rotate_left
  try simp only [Act.put, List.setIfInBounds_toArray, List.set_cons_zero, List.set_cons_succ]
  refine wpAnyH_take (i := 2) (oi := { dst := some 27, op := Op.fieldAddr 34 (Operand.tmp 5) 3, type := 0, pos := "ref.go:85", after := #[], guard := none }) (v := ?_) rfl (by kernel_rfl) (by kernel_rfl) (by kernel_rfl) (fun _ _ _ h => h) (Or.inl ⟨by rfl, ?_⟩) hHeld ?_
  rotate_left
  · intro W hSw
    obtain ⟨q1, q2, q3, q4, q5, q6, q7⟩ := hSw
    first | (go_simp; done) | (go_simp; with_reducible rfl)
  rotate_left
  try simp only [Act.put, List.setIfInBounds_toArray, List.set_cons_zero, List.set_cons_succ]
  refine wpAnyH_take (i := 3) (oi := { dst := some 28, op := Op.fieldAddr 32 (Operand.tmp 27) 0, type := 0, pos := "ref.go:85", after := #[{ on := 2, ground := Ground.data }], guard := none }) (v := ?_) rfl (by kernel_rfl) (by kernel_rfl) (by kernel_rfl) (fun _ _ _ h => h) (Or.inl ⟨by rfl, ?_⟩) hHeld ?_
  rotate_left
  · intro W hSw
    obtain ⟨q1, q2, q3, q4, q5, q6, q7⟩ := hSw
    first | (go_simp; done) | (go_simp; with_reducible rfl)
  rotate_left
  try simp only [Act.put, List.setIfInBounds_toArray, List.set_cons_zero, List.set_cons_succ]
  refine wpAnyH_take (i := 4) (oi := { dst := some 29, op := Op.load 3 (Operand.tmp 28), type := 3, pos := "ref.go:85", after := #[{ on := 3, ground := Ground.data }], guard := none }) (v := ?_) rfl (by kernel_rfl) (by kernel_rfl) (by kernel_rfl) (fun _ _ _ h => h) (Or.inl ⟨by rfl, ?_⟩) hHeld ?_
  rotate_left
  · intro W hSw
    obtain ⟨q1, q2, q3, q4, q5, q6, q7⟩ := hSw
    first | (go_simp; done) | (go_simp; with_reducible rfl)
  rotate_left
  try simp only [Act.put, List.setIfInBounds_toArray, List.set_cons_zero, List.set_cons_succ]
  refine wpAnyH_take (i := 5) (oi := { dst := some 30, op := Op.fieldAddr 34 (Operand.tmp 5) 3, type := 0, pos := "ref.go:85", after := #[], guard := none }) (v := ?_) rfl (by kernel_rfl) (by kernel_rfl) (by kernel_rfl) (fun _ _ _ h => h) (Or.inl ⟨by rfl, ?_⟩) hHeld ?_
  rotate_left
  · intro W hSw
    obtain ⟨q1, q2, q3, q4, q5, q6, q7⟩ := hSw
    first | (go_simp; done) | (go_simp; with_reducible rfl)
  rotate_left
  try simp only [Act.put, List.setIfInBounds_toArray, List.set_cons_zero, List.set_cons_succ]
  refine wpAnyH_take (i := 6) (oi := { dst := some 31, op := Op.fieldAddr 32 (Operand.tmp 30) 1, type := 0, pos := "ref.go:85", after := #[{ on := 5, ground := Ground.data }], guard := none }) (v := ?_) rfl (by kernel_rfl) (by kernel_rfl) (by kernel_rfl) (fun _ _ _ h => h) (Or.inl ⟨by rfl, ?_⟩) hHeld ?_
  rotate_left
  · intro W hSw
    obtain ⟨q1, q2, q3, q4, q5, q6, q7⟩ := hSw
    first | (go_simp; done) | (go_simp; with_reducible rfl)
  rotate_left
  try simp only [Act.put, List.setIfInBounds_toArray, List.set_cons_zero, List.set_cons_succ]
  refine wpAnyH_take (i := 7) (oi := { dst := some 32, op := Op.load 4 (Operand.tmp 31), type := 4, pos := "ref.go:85", after := #[{ on := 6, ground := Ground.data }], guard := none }) (v := ?_) rfl (by kernel_rfl) (by kernel_rfl) (by kernel_rfl) (fun _ _ _ h => h) (Or.inl ⟨by rfl, ?_⟩) hHeld ?_
  rotate_left
  · intro W hSw
    obtain ⟨q1, q2, q3, q4, q5, q6, q7⟩ := hSw
    first | (go_simp; done) | (go_simp; with_reducible rfl)
  rotate_left
  try simp only [Act.put, List.setIfInBounds_toArray, List.set_cons_zero, List.set_cons_succ]
  refine wpAnyH_take (i := 8) (oi := { dst := some 33, op := Op.move (Operand.tmp 2), type := 3, pos := "ref.go:85", after := #[], guard := none }) (v := ?_) rfl (by kernel_rfl) (by kernel_rfl) (by kernel_rfl) (fun _ _ _ h => h) (Or.inl ⟨by rfl, ?_⟩) hHeld ?_
  rotate_left
  · intro W hSw
    obtain ⟨q1, q2, q3, q4, q5, q6, q7⟩ := hSw
    first | (go_simp; done) | (go_simp; with_reducible rfl)
  rotate_left
  try simp only [Act.put, List.setIfInBounds_toArray, List.set_cons_zero, List.set_cons_succ]
  refine wpAnyH_take (i := 9) (oi := { dst := some 34, op := Op.build 32 #[(0, Operand.tmp 29), (1, Operand.tmp 32), (2, Operand.tmp 33)], type := 32, pos := "ref.go:85", after := #[{ on := 4, ground := Ground.data }, { on := 7, ground := Ground.data }, { on := 8, ground := Ground.data }], guard := none }) (v := ?_) rfl (by kernel_rfl) (by kernel_rfl) (by kernel_rfl) (fun _ _ _ h => h) (Or.inl ⟨by rfl, ?_⟩) hHeld ?_
  rotate_left
  · intro W hSw
    obtain ⟨q1, q2, q3, q4, q5, q6, q7⟩ := hSw
    first | (go_simp; done) | (go_simp; with_reducible rfl)
  rotate_left
  try simp only [Act.put, List.setIfInBounds_toArray, List.set_cons_zero, List.set_cons_succ]
  refine wpAnyH_take (i := 10) (oi := { dst := some 35, op := Op.fieldAddr 34 (Operand.tmp 5) 3, type := 0, pos := "ref.go:85", after := #[], guard := none }) (v := ?_) rfl (by kernel_rfl) (by kernel_rfl) (by kernel_rfl) (fun _ _ _ h => h) (Or.inl ⟨by rfl, ?_⟩) hHeld ?_
  rotate_left
  · intro W hSw
    obtain ⟨q1, q2, q3, q4, q5, q6, q7⟩ := hSw
    first | (go_simp; done) | (go_simp; with_reducible rfl)
  rotate_left
  try simp only [Act.put, List.setIfInBounds_toArray, List.set_cons_zero, List.set_cons_succ]
  refine wpAnyH_take (i := 11) (oi := { dst := some 36, op := Op.fieldAddr 32 (Operand.tmp 35) 0, type := 0, pos := "ref.go:85", after := #[{ on := 10, ground := Ground.data }], guard := none }) (v := ?_) rfl (by kernel_rfl) (by kernel_rfl) (by kernel_rfl) (fun _ _ _ h => h) (Or.inl ⟨by rfl, ?_⟩) hHeld ?_
  rotate_left
  · intro W hSw
    obtain ⟨q1, q2, q3, q4, q5, q6, q7⟩ := hSw
    first | (go_simp; done) | (go_simp; with_reducible rfl)
  rotate_left
  try simp only [Act.put, List.setIfInBounds_toArray, List.set_cons_zero, List.set_cons_succ]
  refine wpAnyH_take (i := 12) (oi := { dst := some 37, op := Op.load 3 (Operand.tmp 36), type := 3, pos := "ref.go:85", after := #[{ on := 11, ground := Ground.data }], guard := none }) (v := ?_) rfl (by kernel_rfl) (by kernel_rfl) (by kernel_rfl) (fun _ _ _ h => h) (Or.inl ⟨by rfl, ?_⟩) hHeld ?_
  rotate_left
  · intro W hSw
    obtain ⟨q1, q2, q3, q4, q5, q6, q7⟩ := hSw
    first | (go_simp; done) | (go_simp; with_reducible rfl)
  rotate_left
  try simp only [Act.put, List.setIfInBounds_toArray, List.set_cons_zero, List.set_cons_succ]
  refine wpAnyH_take (i := 13) (oi := { dst := some 38, op := Op.fieldAddr 34 (Operand.tmp 5) 3, type := 0, pos := "ref.go:85", after := #[], guard := none }) (v := ?_) rfl (by kernel_rfl) (by kernel_rfl) (by kernel_rfl) (fun _ _ _ h => h) (Or.inl ⟨by rfl, ?_⟩) hHeld ?_
  rotate_left
  · intro W hSw
    obtain ⟨q1, q2, q3, q4, q5, q6, q7⟩ := hSw
    first | (go_simp; done) | (go_simp; with_reducible rfl)
  rotate_left
  try simp only [Act.put, List.setIfInBounds_toArray, List.set_cons_zero, List.set_cons_succ]
  refine wpAnyH_take (i := 14) (oi := { dst := some 39, op := Op.fieldAddr 32 (Operand.tmp 38) 1, type := 0, pos := "ref.go:85", after := #[{ on := 13, ground := Ground.data }], guard := none }) (v := ?_) rfl (by kernel_rfl) (by kernel_rfl) (by kernel_rfl) (fun _ _ _ h => h) (Or.inl ⟨by rfl, ?_⟩) hHeld ?_
  rotate_left
  · intro W hSw
    obtain ⟨q1, q2, q3, q4, q5, q6, q7⟩ := hSw
    first | (go_simp; done) | (go_simp; with_reducible rfl)
  rotate_left
  try simp only [Act.put, List.setIfInBounds_toArray, List.set_cons_zero, List.set_cons_succ]
  refine wpAnyH_take (i := 15) (oi := { dst := some 40, op := Op.load 4 (Operand.tmp 39), type := 4, pos := "ref.go:85", after := #[{ on := 14, ground := Ground.data }], guard := none }) (v := ?_) rfl (by kernel_rfl) (by kernel_rfl) (by kernel_rfl) (fun _ _ _ h => h) (Or.inl ⟨by rfl, ?_⟩) hHeld ?_
  rotate_left
  · intro W hSw
    obtain ⟨q1, q2, q3, q4, q5, q6, q7⟩ := hSw
    first | (go_simp; done) | (go_simp; with_reducible rfl)
  rotate_left
  try simp only [Act.put, List.setIfInBounds_toArray, List.set_cons_zero, List.set_cons_succ]
  refine wpAnyH_take (i := 16) (oi := { dst := some 41, op := Op.move (Operand.tmp 1), type := 3, pos := "ref.go:85", after := #[], guard := none }) (v := ?_) rfl (by kernel_rfl) (by kernel_rfl) (by kernel_rfl) (fun _ _ _ h => h) (Or.inl ⟨by rfl, ?_⟩) hHeld ?_
  rotate_left
  · intro W hSw
    obtain ⟨q1, q2, q3, q4, q5, q6, q7⟩ := hSw
    first | (go_simp; done) | (go_simp; with_reducible rfl)
  rotate_left
  try simp only [Act.put, List.setIfInBounds_toArray, List.set_cons_zero, List.set_cons_succ]
  refine wpAnyH_take (i := 17) (oi := { dst := some 42, op := Op.fieldAddr 34 (Operand.tmp 5) 0, type := 0, pos := "ref.go:85", after := #[], guard := none }) (v := ?_) rfl (by kernel_rfl) (by kernel_rfl) (by kernel_rfl) (fun _ _ _ h => h) (Or.inl ⟨by rfl, ?_⟩) hHeld ?_
  rotate_left
  · intro W hSw
    obtain ⟨q1, q2, q3, q4, q5, q6, q7⟩ := hSw
    first | (go_simp; done) | (go_simp; with_reducible rfl)
  rotate_left
  try simp only [Act.put, List.setIfInBounds_toArray, List.set_cons_zero, List.set_cons_succ]
  refine wpAnyH_take (i := 18) (oi := { dst := some 43, op := Op.load 23 (Operand.tmp 42), type := 23, pos := "ref.go:85", after := #[{ on := 17, ground := Ground.data }], guard := none }) (v := ?_) rfl (by kernel_rfl) (by kernel_rfl) (by kernel_rfl) (fun _ _ _ h => h) (Or.inl ⟨by rfl, ?_⟩) hHeld ?_
  rotate_left
  · intro W hSw
    obtain ⟨q1, q2, q3, q4, q5, q6, q7⟩ := hSw
    first | (go_simp; done) | (go_simp; with_reducible rfl)
  rotate_left
  try simp only [Act.put, List.setIfInBounds_toArray, List.set_cons_zero, List.set_cons_succ]
  refine wpAnyH_take (i := 19) (oi := { dst := some 44, op := Op.fieldAddr 34 (Operand.tmp 5) 1, type := 0, pos := "ref.go:85", after := #[], guard := none }) (v := ?_) rfl (by kernel_rfl) (by kernel_rfl) (by kernel_rfl) (fun _ _ _ h => h) (Or.inl ⟨by rfl, ?_⟩) hHeld ?_
  rotate_left
  · intro W hSw
    obtain ⟨q1, q2, q3, q4, q5, q6, q7⟩ := hSw
    first | (go_simp; done) | (go_simp; with_reducible rfl)
  rotate_left
  try simp only [Act.put, List.setIfInBounds_toArray, List.set_cons_zero, List.set_cons_succ]
  refine wpAnyH_take (i := 20) (oi := { dst := some 45, op := Op.load 23 (Operand.tmp 44), type := 23, pos := "ref.go:85", after := #[{ on := 19, ground := Ground.data }], guard := none }) (v := ?_) rfl (by kernel_rfl) (by kernel_rfl) (by kernel_rfl) (fun _ _ _ h => h) (Or.inl ⟨by rfl, ?_⟩) hHeld ?_
  rotate_left
  · intro W hSw
    obtain ⟨q1, q2, q3, q4, q5, q6, q7⟩ := hSw
    first | (go_simp; done) | (go_simp; with_reducible rfl)
  rotate_left
  try simp only [Act.put, List.setIfInBounds_toArray, List.set_cons_zero, List.set_cons_succ]
  refine wpAnyH_take (i := 21) (oi := { dst := some 46, op := Op.build 47 #[(0, Operand.tmp 37), (1, Operand.tmp 40), (2, Operand.const (Value.bool true)), (3, Operand.tmp 41), (4, Operand.tmp 43), (5, Operand.tmp 45)], type := 47, pos := "ref.go:85", after := #[{ on := 12, ground := Ground.data }, { on := 15, ground := Ground.data }, { on := 16, ground := Ground.data }, { on := 18, ground := Ground.data }, { on := 20, ground := Ground.data }], guard := none }) (v := ?_) rfl (by kernel_rfl) (by kernel_rfl) (by kernel_rfl) (fun _ _ _ h => h) (Or.inl ⟨by rfl, ?_⟩) hHeld ?_
  rotate_left
  · intro W hSw
    obtain ⟨q1, q2, q3, q4, q5, q6, q7⟩ := hSw
    first | (go_simp; done) | (go_simp; with_reducible rfl)
  rotate_left
  try simp only [Act.put, List.setIfInBounds_toArray, List.set_cons_zero, List.set_cons_succ]
  refine wpAnyH_take (i := 23) (oi := { dst := some 48, op := Op.fieldAddr 34 (Operand.tmp 5) 4, type := 0, pos := "ref.go:85", after := #[], guard := none }) (v := ?_) rfl (by kernel_rfl) (by kernel_rfl) (by kernel_rfl) (fun _ _ _ h => h) (Or.inl ⟨by rfl, ?_⟩) hHeld ?_
  rotate_left
  · intro W hSw
    obtain ⟨q1, q2, q3, q4, q5, q6, q7⟩ := hSw
    first | (go_simp; done) | (go_simp; with_reducible rfl)
  rotate_left
  try simp only [Act.put, List.setIfInBounds_toArray, List.set_cons_zero, List.set_cons_succ]
  refine wpAnyH_take (i := 24) (oi := { dst := some 49, op := Op.load 30 (Operand.tmp 48), type := 30, pos := "ref.go:85", after := #[{ on := 23, ground := Ground.data }], guard := none }) (v := ?_) rfl (by kernel_rfl) (by kernel_rfl) (by kernel_rfl) (fun _ _ _ h => h) (Or.inl ⟨by rfl, ?_⟩) hHeld ?_
  rotate_left
  · intro W hSw
    obtain ⟨q1, q2, q3, q4, q5, q6, q7⟩ := hSw
    first | (go_simp; done) | (go_simp; with_reducible rfl)
  rotate_left
  try simp only [Act.put, List.setIfInBounds_toArray, List.set_cons_zero, List.set_cons_succ]
  refine wpAnyH_ready (rs := [22, 27]) (by kernel_rfl) (by simp) ?_
  refine AllReadyH.cons (o := { dst := some 47, op := Op.buildSlice 30 0 #[], type := 30, pos := "ref.go:85", after := #[], guard := none }) rfl (fun K hK => ?_) (AllReadyH.cons (o := { dst := some 13, op := Op.alloc 49, type := 0, pos := "ref.go:85", after := #[], guard := none }) rfl (fun K hK => ?_) AllReadyH.nil)
  · skip
    go_simp
    clear hHeld
    refine hK.out _ _ T2.out.rd (fun hHeld => ?_)
    clear hK K
    try simp only [Act.put, List.setIfInBounds_toArray, List.set_cons_zero, List.set_cons_succ]
    refine wpAnyH_ready (rs := [25, 27]) (by kernel_rfl) (by simp) ?_
    refine AllReadyH.cons (o := { dst := some 50, op := Op.call { callee := Callee.builtin Builtin.append, args := #[Operand.tmp 47, Operand.tmp 49], argTypes := #[30, 30] }, type := 30, pos := "ref.go:85", after := #[{ on := 22, ground := Ground.data }, { on := 24, ground := Ground.data }], guard := none }) rfl (fun K hK => ?_) (AllReadyH.cons (o := { dst := some 13, op := Op.alloc 49, type := 0, pos := "ref.go:85", after := #[], guard := none }) rfl (fun K hK => ?_) AllReadyH.nil)
    · skip
      refine step_app (by rfl) _ _ (by rfl) (by rfl) (by rfl) HO.out HSr.out hlen hsz.out ?_
      intro s7 w7 ho7 hg7 hat7
      have hb7 := HA.out.1.trans ((grown_below HO.out hg7 hsz.out).mono (Nat.le_refl _))
      obtain ⟨a7, n7, c7, rfl⟩ := src_form ho7.src
      have T7 : Hid (Hst w w7 f (.slice a n c) own to) := HT0.out.later (hb7.mono (by omega))
      have O7 : Hid (Own w7 W.heap.size (.slice a7 n7 c7) l) := ho7.base (by omega)
      clear ho7 hg7 hat7 hb7
      clear hHeld
      refine hK.out _ _ T7.out.rd (fun hHeld => ?_)
      clear hK K
      try simp only [Act.put, List.setIfInBounds_toArray, List.set_cons_zero, List.set_cons_succ]
      refine wpAnyH_take (i := 26) (oi := { dst := some 51, op := Op.build 49 #[(0, Operand.tmp 25), (1, Operand.tmp 26), (2, Operand.tmp 34), (3, Operand.tmp 46), (4, Operand.tmp 50)], type := 49, pos := "ref.go:85", after := #[{ on := 0, ground := Ground.data }, { on := 1, ground := Ground.data }, { on := 9, ground := Ground.data }, { on := 21, ground := Ground.data }, { on := 25, ground := Ground.data }], guard := none }) (v := ?_) rfl (by kernel_rfl) (by kernel_rfl) (by kernel_rfl) (fun _ _ _ h => h) (Or.inl ⟨by rfl, ?_⟩) hHeld ?_
      rotate_left
      · intro W hSw
        obtain ⟨q1, q2, q3, q4, q5, q6, q7⟩ := hSw
        first | (go_simp; done) | (go_simp; with_reducible rfl)
      rotate_left
      try simp only [Act.put, List.setIfInBounds_toArray, List.set_cons_zero, List.set_cons_succ]
      obtain ⟨W8, st8, F8, B8⟩ := bstore_new w7 (hidF f isid vid own to) (.slice a7 n7 c7) rfl
      have st8 : (stS 49 (.pointer (some ⟨w7.heap.size, 0, none⟩)) (.agg #[.int .u8 to.a, .int .u8 to.b, .int .u8 to.c, .int .u8 to.d, .int .u8 to.e, .int .u8 to.f, .int .u8 own.a, .int .u8 own.b, .int .u8 own.c, .int .u8 own.d, .int .u8 own.e, .int .u8 own.f, .int .i64 f.p, .bool f.e, .int .i64 vid, .int .i64 f.p, .bool f.e, .bool true, .int .i64 isid, .int .u8 f.d.a, .int .u8 f.d.b, .int .u8 f.d.c, .int .u8 f.d.d, .int .u8 f.d.e, .int .u8 f.d.f, .int .u8 f.s.a, .int .u8 f.s.b, .int .u8 f.s.c, .int .u8 f.s.d, .int .u8 f.s.e, .int .u8 f.s.f, .slice a7 n7 c7])).run Try.prog (w7.alloc (.cells #[.int .u8 0, .int .u8 0, .int .u8 0, .int .u8 0, .int .u8 0, .int .u8 0, .int .u8 0, .int .u8 0, .int .u8 0, .int .u8 0, .int .u8 0, .int .u8 0, .int .i64 0, .bool false, .int .i64 0, .int .i64 0, .bool false, .bool false, .int .i64 0, .int .u8 0, .int .u8 0, .int .u8 0, .int .u8 0, .int .u8 0, .int .u8 0, .int .u8 0, .int .u8 0, .int .u8 0, .int .u8 0, .int .u8 0, .int .u8 0, .slice none 0 0] 49)) = .ok () W8 := st8
      have T8 : Hid (Hst w W8 f (.slice a n c) own to ∧ BfAt W8 w7.heap.size (hidF f isid vid own to) (.slice a7 n7 c7) ∧ Own W8 W.heap.size (.slice a7 n7 c7) l) := ⟨T7.out.later B8, F8, O7.out.below B8⟩
      clear F8 B8
      refine wpAnyH_ready (rs := [27]) (by kernel_rfl) (by simp) ?_
      refine AllReadyH.cons (o := { dst := some 13, op := Op.alloc 49, type := 0, pos := "ref.go:85", after := #[], guard := none }) rfl (fun K hK => ?_) AllReadyH.nil
      go_simp
      clear hHeld
      refine hK.out _ _ (T7.out.later ((Below.refl _ _).alloc (Nat.le_refl _) _)).rd (fun hHeld => ?_)
      clear hK K
      try simp only [Act.put, List.setIfInBounds_toArray, List.set_cons_zero, List.set_cons_succ]
      refine wpAnyH_ready (rs := [28]) (by kernel_rfl) (by simp) ?_
      refine AllReadyH.cons (o := { dst := none, op := Op.store 49 (Operand.tmp 13) (Operand.tmp 51), type := 0, pos := "ref.go:85", after := #[{ on := 27, ground := Ground.data }, { on := 26, ground := Ground.data }, { on := 25, ground := Ground.chain }, { on := 0, ground := Ground.phase }, { on := 1, ground := Ground.phase }, { on := 2, ground := Ground.phase }, { on := 3, ground := Ground.phase }, { on := 4, ground := Ground.phase }, { on := 5, ground := Ground.phase }, { on := 6, ground := Ground.phase }, { on := 7, ground := Ground.phase }, { on := 8, ground := Ground.phase }, { on := 9, ground := Ground.phase }, { on := 10, ground := Ground.phase }, { on := 11, ground := Ground.phase }, { on := 12, ground := Ground.phase }, { on := 13, ground := Ground.phase }, { on := 14, ground := Ground.phase }, { on := 15, ground := Ground.phase }, { on := 16, ground := Ground.phase }, { on := 17, ground := Ground.phase }, { on := 18, ground := Ground.phase }, { on := 19, ground := Ground.phase }, { on := 20, ground := Ground.phase }, { on := 21, ground := Ground.phase }, { on := 22, ground := Ground.phase }, { on := 23, ground := Ground.phase }, { on := 24, ground := Ground.phase }, { on := 25, ground := Ground.phase }, { on := 26, ground := Ground.phase }, { on := 27, ground := Ground.phase }], guard := none }) rfl (fun K hK => ?_) AllReadyH.nil
      go_simp
      clear hHeld
      refine hK.out _ _ T8.out.1.rd (fun hHeld => ?_)
      clear hK K
      try simp only [Act.put, List.setIfInBounds_toArray, List.set_cons_zero, List.set_cons_succ]
      refine wpAnyH_done (by kernel_rfl) ?_ _
      refine NoPanic.normal ?_
      clear hHeld
      clear st8
      have ld8 := T8.out.2.1.ld
      clear c12
      obtain ⟨E, hE⟩ : ∃ E, chkB (hidF f isid vid own to) l = E := ⟨_, rfl⟩
      rw [hE] at HE HC
      clear hE
      go_wp2_with fail
      refine (HC.out _ _ T8.out.2.2.src).mono ?_
      rintro _ W3 ⟨rfl, hW3⟩
      have H3 : Hid (Hst w W3 f (.slice a n c) own to ∧ BfAt W3 w7.heap.size (hidF f isid vid own to) (.slice a7 n7 c7) ∧ Own W3 W.heap.size (.slice a7 n7 c7) l) := ⟨T8.out.1.later hW3, T8.out.2.1.below hW3, T8.out.2.2.below hW3⟩
      clear hW3 ld8
      cases ge : (E != 0)
      rotate_left
      · have zs := H3.out.1.z.zst
        have HZ : Hid _ := H3.out.1.zat zeroB (.slice none 0 0)
        go_wp2
        refine bodyPost_ret (results_btwo Try.results46 _ _ _ _ _ _ rfl rfl HZ.out.1) rfl ?_
        exact hd_err E HE.out (by simpa using ge) HZ.out.2
      · have HE0 : Hid (E = 0) := by have : E = 0 := by simpa using ge
                                     exact this
        have ld9 := H3.out.2.1.ld
        have st9 := H3.out.1.z.st (g := hidF f isid vid own to) (y := .slice a7 n7 c7) rfl
        have HZ : Hid _ := H3.out.1.zat (hidF f isid vid own to) (.slice a7 n7 c7)
        go_wp2
        refine bodyPost_ret (results_btwo Try.results46 _ _ _ _ _ _ rfl rfl HZ.out.1) rfl ?_
        refine hd_ok (by rw [HE.out, HE0.out]) ?_ HZ.out.2
        have hlt := HA.out.2
        refine (H3.out.2.2.of_block fun k hk => ?_).base (by omega)
        have h1 := (H3.out.2.2.block k hk).1
        rw [setRow_other _ _ _ _ (by omega)]
    · skip
      go_simp
      clear hHeld
      refine hK.out _ _ (T2.out.later ((Below.refl _ _).alloc (Nat.le_refl _) _)).rd (fun hHeld => ?_)
      clear hK K
      try simp only [Act.put, List.setIfInBounds_toArray, List.set_cons_zero, List.set_cons_succ]
      have A2 : Below (W.alloc (.cells #[] 5)).drew.heap.size (W.alloc (.cells #[] 5)).drew ((W.alloc (.cells #[] 5)).drew.alloc (.cells #[.int .u8 0, .int .u8 0, .int .u8 0, .int .u8 0, .int .u8 0, .int .u8 0, .int .u8 0, .int .u8 0, .int .u8 0, .int .u8 0, .int .u8 0, .int .u8 0, .int .i64 0, .bool false, .int .i64 0, .int .i64 0, .bool false, .bool false, .int .i64 0, .int .u8 0, .int .u8 0, .int .u8 0, .int .u8 0, .int .u8 0, .int .u8 0, .int .u8 0, .int .u8 0, .int .u8 0, .int .u8 0, .int .u8 0, .int .u8 0, .slice none 0 0] 49)) := (Below.refl _ _).alloc (Nat.le_refl _) _
      have O2 : Hid (Own ((W.alloc (.cells #[] 5)).drew.alloc (.cells #[.int .u8 0, .int .u8 0, .int .u8 0, .int .u8 0, .int .u8 0, .int .u8 0, .int .u8 0, .int .u8 0, .int .u8 0, .int .u8 0, .int .u8 0, .int .u8 0, .int .i64 0, .bool false, .int .i64 0, .int .i64 0, .bool false, .bool false, .int .i64 0, .int .u8 0, .int .u8 0, .int .u8 0, .int .u8 0, .int .u8 0, .int .u8 0, .int .u8 0, .int .u8 0, .int .u8 0, .int .u8 0, .int .u8 0, .int .u8 0, .slice none 0 0] 49)) W.heap.size (.slice (some ⟨W.heap.size, 0, none⟩) 0 0) []) := HO.out.below A2
      have S2 : Hid (Src ((W.alloc (.cells #[] 5)).drew.alloc (.cells #[.int .u8 0, .int .u8 0, .int .u8 0, .int .u8 0, .int .u8 0, .int .u8 0, .int .u8 0, .int .u8 0, .int .u8 0, .int .u8 0, .int .u8 0, .int .u8 0, .int .i64 0, .bool false, .int .i64 0, .int .i64 0, .bool false, .bool false, .int .i64 0, .int .u8 0, .int .u8 0, .int .u8 0, .int .u8 0, .int .u8 0, .int .u8 0, .int .u8 0, .int .u8 0, .int .u8 0, .int .u8 0, .int .u8 0, .int .u8 0, .slice none 0 0] 49)) (.slice a n c) l) := HSr.out.below A2
      have G2 : Hid (W.heap.size ≤ ((W.alloc (.cells #[] 5)).drew.alloc (.cells #[.int .u8 0, .int .u8 0, .int .u8 0, .int .u8 0, .int .u8 0, .int .u8 0, .int .u8 0, .int .u8 0, .int .u8 0, .int .u8 0, .int .u8 0, .int .u8 0, .int .i64 0, .bool false, .int .i64 0, .int .i64 0, .bool false, .bool false, .int .i64 0, .int .u8 0, .int .u8 0, .int .u8 0, .int .u8 0, .int .u8 0, .int .u8 0, .int .u8 0, .int .u8 0, .int .u8 0, .int .u8 0, .int .u8 0, .int .u8 0, .slice none 0 0] 49)).heap.size) := by have := hsz.out; have := A2.size; show _ ≤ _; omega
      have Z2 : Hid (BfAt ((W.alloc (.cells #[] 5)).drew.alloc (.cells #[.int .u8 0, .int .u8 0, .int .u8 0, .int .u8 0, .int .u8 0, .int .u8 0, .int .u8 0, .int .u8 0, .int .u8 0, .int .u8 0, .int .u8 0, .int .u8 0, .int .i64 0, .bool false, .int .i64 0, .int .i64 0, .bool false, .bool false, .int .i64 0, .int .u8 0, .int .u8 0, .int .u8 0, .int .u8 0, .int .u8 0, .int .u8 0, .int .u8 0, .int .u8 0, .int .u8 0, .int .u8 0, .int .u8 0, .int .u8 0, .slice none 0 0] 49)) (W.heap.size + 1) zeroB (.slice none 0 0)) := by have := zeroB_new (W.alloc (.cells #[] 5)).drew; show BfAt _ _ _ _; simpa using this
      have HA2 : Hid (Below W.heap.size W ((W.alloc (.cells #[] 5)).drew.alloc (.cells #[.int .u8 0, .int .u8 0, .int .u8 0, .int .u8 0, .int .u8 0, .int .u8 0, .int .u8 0, .int .u8 0, .int .u8 0, .int .u8 0, .int .u8 0, .int .u8 0, .int .i64 0, .bool false, .int .i64 0, .int .i64 0, .bool false, .bool false, .int .i64 0, .int .u8 0, .int .u8 0, .int .u8 0, .int .u8 0, .int .u8 0, .int .u8 0, .int .u8 0, .int .u8 0, .int .u8 0, .int .u8 0, .int .u8 0, .int .u8 0, .slice none 0 0] 49))) := HA.out.1.trans (A2.mono hsz.out)
      clear A2
      refine wpAnyH_ready (rs := [25]) (by kernel_rfl) (by simp) ?_
      refine AllReadyH.cons (o := { dst := some 50, op := Op.call { callee := Callee.builtin Builtin.append, args := #[Operand.tmp 47, Operand.tmp 49], argTypes := #[30, 30] }, type := 30, pos := "ref.go:85", after := #[{ on := 22, ground := Ground.data }, { on := 24, ground := Ground.data }], guard := none }) rfl (fun K hK => ?_) AllReadyH.nil
      refine step_app (by rfl) _ _ (by rfl) (by rfl) (by rfl) O2.out S2.out hlen G2.out ?_
      intro s7 w7 ho7 hg7 hat7
      have hb7 := HA2.out.trans (grown_below O2.out hg7 G2.out)
      obtain ⟨a7, n7, c7, rfl⟩ := src_form ho7.src
      have T7 : Hid (Hst w w7 f (.slice a n c) own to) := HT0.out.later (hb7.mono (by omega))
      have O7 : Hid (Own w7 W.heap.size (.slice a7 n7 c7) l) := ho7.base (by omega)
      have z7 : BfAt w7 (W.heap.size + 1) zeroB (.slice none 0 0) := by
        obtain ⟨_, _, _, _, hbk⟩ := hg7
        exact (hbk _ Z2.out.lt (fun e => by simp [Value.ownBlock] at e)).trans Z2.out
      have Z7 : Hid (BfAt w7 (W.heap.size + 1) zeroB (.slice none 0 0)) := z7
      have O7k : Hid (∀ k, (Value.slice a7 n7 c7).ownBlock = some k → k ≠ W.heap.size + 1 ∧ W.heap.size ≤ k) := fun k hk => by
        refine ⟨fun e => ?_, (ho7.block k hk).1⟩
        subst e
        rcases hat7 with h | h
        · rw [h] at hk; simp [Value.ownBlock] at hk
        · rw [h] at hk; simp at hk
      clear z7
      clear ho7 hg7 hat7 hb7
      clear hHeld
      refine hK.out _ _ T7.out.rd (fun hHeld => ?_)
      clear hK K
      try simp only [Act.put, List.setIfInBounds_toArray, List.set_cons_zero, List.set_cons_succ]
      refine wpAnyH_take (i := 26) (oi := { dst := some 51, op := Op.build 49 #[(0, Operand.tmp 25), (1, Operand.tmp 26), (2, Operand.tmp 34), (3, Operand.tmp 46), (4, Operand.tmp 50)], type := 49, pos := "ref.go:85", after := #[{ on := 0, ground := Ground.data }, { on := 1, ground := Ground.data }, { on := 9, ground := Ground.data }, { on := 21, ground := Ground.data }, { on := 25, ground := Ground.data }], guard := none }) (v := ?_) rfl (by kernel_rfl) (by kernel_rfl) (by kernel_rfl) (fun _ _ _ h => h) (Or.inl ⟨by rfl, ?_⟩) hHeld ?_
      rotate_left
      · intro W hSw
        obtain ⟨q1, q2, q3, q4, q5, q6, q7⟩ := hSw
        first | (go_simp; done) | (go_simp; with_reducible rfl)
      rotate_left
      try simp only [Act.put, List.setIfInBounds_toArray, List.set_cons_zero, List.set_cons_succ]
      have z7 : BfAt w7 (W.heap.size + 1) zeroB (.slice none 0 0) := Z7.out
      have st8 := z7.st (g := hidF f isid vid own to) (y := .slice a7 n7 c7) rfl
      have st8 : (stS 49 (.pointer (some ⟨(W.heap.size + 1), 0, none⟩)) (.agg #[.int .u8 to.a, .int .u8 to.b, .int .u8 to.c, .int .u8 to.d, .int .u8 to.e, .int .u8 to.f, .int .u8 own.a, .int .u8 own.b, .int .u8 own.c, .int .u8 own.d, .int .u8 own.e, .int .u8 own.f, .int .i64 f.p, .bool f.e, .int .i64 vid, .int .i64 f.p, .bool f.e, .bool true, .int .i64 isid, .int .u8 f.d.a, .int .u8 f.d.b, .int .u8 f.d.c, .int .u8 f.d.d, .int .u8 f.d.e, .int .u8 f.d.f, .int .u8 f.s.a, .int .u8 f.s.b, .int .u8 f.s.c, .int .u8 f.s.d, .int .u8 f.s.e, .int .u8 f.s.f, .slice a7 n7 c7])).run Try.prog w7 = .ok () (w7.setRow (W.heap.size + 1) (bcs (hidF f isid vid own to) (.slice a7 n7 c7))) := st8
      have T8 : Hid (Hst w (w7.setRow (W.heap.size + 1) (bcs (hidF f isid vid own to) (.slice a7 n7 c7))) f (.slice a n c) own to ∧ BfAt (w7.setRow (W.heap.size + 1) (bcs (hidF f isid vid own to) (.slice a7 n7 c7))) (W.heap.size + 1) (hidF f isid vid own to) (.slice a7 n7 c7) ∧ Own (w7.setRow (W.heap.size + 1) (bcs (hidF f isid vid own to) (.slice a7 n7 c7))) W.heap.size (.slice a7 n7 c7) l) := ⟨T7.out.row (by have := HA.out.2; omega), z7.set, O7.out.of_block fun k hk => setRow_other _ _ _ _ (by exact (O7k.out k hk).1)⟩
      clear z7
      refine wpAnyH_ready (rs := [28]) (by kernel_rfl) (by simp) ?_
      refine AllReadyH.cons (o := { dst := none, op := Op.store 49 (Operand.tmp 13) (Operand.tmp 51), type := 0, pos := "ref.go:85", after := #[{ on := 27, ground := Ground.data }, { on := 26, ground := Ground.data }, { on := 25, ground := Ground.chain }, { on := 0, ground := Ground.phase }, { on := 1, ground := Ground.phase }, { on := 2, ground := Ground.phase }, { on := 3, ground := Ground.phase }, { on := 4, ground := Ground.phase }, { on := 5, ground := Ground.phase }, { on := 6, ground := Ground.phase }, { on := 7, ground := Ground.phase }, { on := 8, ground := Ground.phase }, { on := 9, ground := Ground.phase }, { on := 10, ground := Ground.phase }, { on := 11, ground := Ground.phase }, { on := 12, ground := Ground.phase }, { on := 13, ground := Ground.phase }, { on := 14, ground := Ground.phase }, { on := 15, ground := Ground.phase }, { on := 16, ground := Ground.phase }, { on := 17, ground := Ground.phase }, { on := 18, ground := Ground.phase }, { on := 19, ground := Ground.phase }, { on := 20, ground := Ground.phase }, { on := 21, ground := Ground.phase }, { on := 22, ground := Ground.phase }, { on := 23, ground := Ground.phase }, { on := 24, ground := Ground.phase }, { on := 25, ground := Ground.phase }, { on := 26, ground := Ground.phase }, { on := 27, ground := Ground.phase }], guard := none }) rfl (fun K hK => ?_) AllReadyH.nil
      go_simp
      clear hHeld
      refine hK.out _ _ T8.out.1.rd (fun hHeld => ?_)
      clear hK K
      try simp only [Act.put, List.setIfInBounds_toArray, List.set_cons_zero, List.set_cons_succ]
      refine wpAnyH_done (by kernel_rfl) ?_ _
      refine NoPanic.normal ?_
      clear hHeld
      clear st8
      have ld8 := T8.out.2.1.ld
      clear c12
      obtain ⟨E, hE⟩ : ∃ E, chkB (hidF f isid vid own to) l = E := ⟨_, rfl⟩
      rw [hE] at HE HC
      clear hE
      go_wp2_with fail
      refine (HC.out _ _ T8.out.2.2.src).mono ?_
      rintro _ W3 ⟨rfl, hW3⟩
      have H3 : Hid (Hst w W3 f (.slice a n c) own to ∧ BfAt W3 (W.heap.size + 1) (hidF f isid vid own to) (.slice a7 n7 c7) ∧ Own W3 W.heap.size (.slice a7 n7 c7) l) := ⟨T8.out.1.later hW3, T8.out.2.1.below hW3, T8.out.2.2.below hW3⟩
      clear hW3 ld8
      cases ge : (E != 0)
      rotate_left
      · have zs := H3.out.1.z.zst
        have HZ : Hid _ := H3.out.1.zat zeroB (.slice none 0 0)
        go_wp2
        refine bodyPost_ret (results_btwo Try.results46 _ _ _ _ _ _ rfl rfl HZ.out.1) rfl ?_
        exact hd_err E HE.out (by simpa using ge) HZ.out.2
      · have HE0 : Hid (E = 0) := by have : E = 0 := by simpa using ge
                                     exact this
        have ld9 := H3.out.2.1.ld
        have st9 := H3.out.1.z.st (g := hidF f isid vid own to) (y := .slice a7 n7 c7) rfl
        have HZ : Hid _ := H3.out.1.zat (hidF f isid vid own to) (.slice a7 n7 c7)
        go_wp2
        refine bodyPost_ret (results_btwo Try.results46 _ _ _ _ _ _ rfl rfl HZ.out.1) rfl ?_
        refine hd_ok (by rw [HE.out, HE0.out]) ?_ HZ.out.2
        have hlt := HA.out.2
        refine (H3.out.2.2.of_block fun k hk => ?_).base (by omega)
        have h1 := (H3.out.2.2.block k hk).1
        rw [setRow_other _ _ _ _ (by omega)]
  · skip
    go_simp
    clear hHeld
    refine hK.out _ _ (T1.out.later ((Below.refl _ _).alloc (Nat.le_refl _) _)).rd (fun hHeld => ?_)
    clear hK K
    try simp only [Act.put, List.setIfInBounds_toArray, List.set_cons_zero, List.set_cons_succ]
    have A1 : Below W.drew.heap.size W.drew (W.drew.alloc (.cells #[.int .u8 0, .int .u8 0, .int .u8 0, .int .u8 0, .int .u8 0, .int .u8 0, .int .u8 0, .int .u8 0, .int .u8 0, .int .u8 0, .int .u8 0, .int .u8 0, .int .i64 0, .bool false, .int .i64 0, .int .i64 0, .bool false, .bool false, .int .i64 0, .int .u8 0, .int .u8 0, .int .u8 0, .int .u8 0, .int .u8 0, .int .u8 0, .int .u8 0, .int .u8 0, .int .u8 0, .int .u8 0, .int .u8 0, .int .u8 0, .slice none 0 0] 49)) := (Below.refl _ _).alloc (Nat.le_refl _) _
    have A2 : Below (W.drew.alloc (.cells #[.int .u8 0, .int .u8 0, .int .u8 0, .int .u8 0, .int .u8 0, .int .u8 0, .int .u8 0, .int .u8 0, .int .u8 0, .int .u8 0, .int .u8 0, .int .u8 0, .int .i64 0, .bool false, .int .i64 0, .int .i64 0, .bool false, .bool false, .int .i64 0, .int .u8 0, .int .u8 0, .int .u8 0, .int .u8 0, .int .u8 0, .int .u8 0, .int .u8 0, .int .u8 0, .int .u8 0, .int .u8 0, .int .u8 0, .int .u8 0, .slice none 0 0] 49)).heap.size (W.drew.alloc (.cells #[.int .u8 0, .int .u8 0, .int .u8 0, .int .u8 0, .int .u8 0, .int .u8 0, .int .u8 0, .int .u8 0, .int .u8 0, .int .u8 0, .int .u8 0, .int .u8 0, .int .i64 0, .bool false, .int .i64 0, .int .i64 0, .bool false, .bool false, .int .i64 0, .int .u8 0, .int .u8 0, .int .u8 0, .int .u8 0, .int .u8 0, .int .u8 0, .int .u8 0, .int .u8 0, .int .u8 0, .int .u8 0, .int .u8 0, .int .u8 0, .slice none 0 0] 49)) ((W.drew.alloc (.cells #[.int .u8 0, .int .u8 0, .int .u8 0, .int .u8 0, .int .u8 0, .int .u8 0, .int .u8 0, .int .u8 0, .int .u8 0, .int .u8 0, .int .u8 0, .int .u8 0, .int .i64 0, .bool false, .int .i64 0, .int .i64 0, .bool false, .bool false, .int .i64 0, .int .u8 0, .int .u8 0, .int .u8 0, .int .u8 0, .int .u8 0, .int .u8 0, .int .u8 0, .int .u8 0, .int .u8 0, .int .u8 0, .int .u8 0, .int .u8 0, .slice none 0 0] 49)).alloc (.cells #[] 5)) := (Below.refl _ _).alloc (Nat.le_refl _) _
    have O2 : Hid (Own ((W.drew.alloc (.cells #[.int .u8 0, .int .u8 0, .int .u8 0, .int .u8 0, .int .u8 0, .int .u8 0, .int .u8 0, .int .u8 0, .int .u8 0, .int .u8 0, .int .u8 0, .int .u8 0, .int .i64 0, .bool false, .int .i64 0, .int .i64 0, .bool false, .bool false, .int .i64 0, .int .u8 0, .int .u8 0, .int .u8 0, .int .u8 0, .int .u8 0, .int .u8 0, .int .u8 0, .int .u8 0, .int .u8 0, .int .u8 0, .int .u8 0, .int .u8 0, .slice none 0 0] 49)).alloc (.cells #[] 5)) (W.heap.size + 1) (.slice (some ⟨W.heap.size + 1, 0, none⟩) 0 0) []) := by have := own_empty (W.drew.alloc (.cells #[.int .u8 0, .int .u8 0, .int .u8 0, .int .u8 0, .int .u8 0, .int .u8 0, .int .u8 0, .int .u8 0, .int .u8 0, .int .u8 0, .int .u8 0, .int .u8 0, .int .i64 0, .bool false, .int .i64 0, .int .i64 0, .bool false, .bool false, .int .i64 0, .int .u8 0, .int .u8 0, .int .u8 0, .int .u8 0, .int .u8 0, .int .u8 0, .int .u8 0, .int .u8 0, .int .u8 0, .int .u8 0, .int .u8 0, .int .u8 0, .slice none 0 0] 49)) _ (Nat.le_refl _); show Own _ _ _ _; simpa using this
    have H2 : Hid (Hst w ((W.drew.alloc (.cells #[.int .u8 0, .int .u8 0, .int .u8 0, .int .u8 0, .int .u8 0, .int .u8 0, .int .u8 0, .int .u8 0, .int .u8 0, .int .u8 0, .int .u8 0, .int .u8 0, .int .i64 0, .bool false, .int .i64 0, .int .i64 0, .bool false, .bool false, .int .i64 0, .int .u8 0, .int .u8 0, .int .u8 0, .int .u8 0, .int .u8 0, .int .u8 0, .int .u8 0, .int .u8 0, .int .u8 0, .int .u8 0, .int .u8 0, .int .u8 0, .slice none 0 0] 49)).alloc (.cells #[] 5)) f (.slice a n c) own to) := (T1.out.later A1).later A2
    have S2 : Hid (Src ((W.drew.alloc (.cells #[.int .u8 0, .int .u8 0, .int .u8 0, .int .u8 0, .int .u8 0, .int .u8 0, .int .u8 0, .int .u8 0, .int .u8 0, .int .u8 0, .int .u8 0, .int .u8 0, .int .i64 0, .bool false, .int .i64 0, .int .i64 0, .bool false, .bool false, .int .i64 0, .int .u8 0, .int .u8 0, .int .u8 0, .int .u8 0, .int .u8 0, .int .u8 0, .int .u8 0, .int .u8 0, .int .u8 0, .int .u8 0, .int .u8 0, .int .u8 0, .slice none 0 0] 49)).alloc (.cells #[] 5)) (.slice a n c) l) := HS.out.1.below H2.out.below
    have G2 : Hid (W.heap.size + 1 ≤ ((W.drew.alloc (.cells #[.int .u8 0, .int .u8 0, .int .u8 0, .int .u8 0, .int .u8 0, .int .u8 0, .int .u8 0, .int .u8 0, .int .u8 0, .int .u8 0, .int .u8 0, .int .u8 0, .int .i64 0, .bool false, .int .i64 0, .int .i64 0, .bool false, .bool false, .int .i64 0, .int .u8 0, .int .u8 0, .int .u8 0, .int .u8 0, .int .u8 0, .int .u8 0, .int .u8 0, .int .u8 0, .int .u8 0, .int .u8 0, .int .u8 0, .int .u8 0, .slice none 0 0] 49)).alloc (.cells #[] 5)).heap.size) := by show _ ≤ _; simp
    have Z2 : Hid (BfAt ((W.drew.alloc (.cells #[.int .u8 0, .int .u8 0, .int .u8 0, .int .u8 0, .int .u8 0, .int .u8 0, .int .u8 0, .int .u8 0, .int .u8 0, .int .u8 0, .int .u8 0, .int .u8 0, .int .i64 0, .bool false, .int .i64 0, .int .i64 0, .bool false, .bool false, .int .i64 0, .int .u8 0, .int .u8 0, .int .u8 0, .int .u8 0, .int .u8 0, .int .u8 0, .int .u8 0, .int .u8 0, .int .u8 0, .int .u8 0, .int .u8 0, .int .u8 0, .slice none 0 0] 49)).alloc (.cells #[] 5)) W.heap.size zeroB (.slice none 0 0)) := (zeroB_new W.drew).below A2
    have HA2 : Hid (Below W.heap.size W ((W.drew.alloc (.cells #[.int .u8 0, .int .u8 0, .int .u8 0, .int .u8 0, .int .u8 0, .int .u8 0, .int .u8 0, .int .u8 0, .int .u8 0, .int .u8 0, .int .u8 0, .int .u8 0, .int .i64 0, .bool false, .int .i64 0, .int .i64 0, .bool false, .bool false, .int .i64 0, .int .u8 0, .int .u8 0, .int .u8 0, .int .u8 0, .int .u8 0, .int .u8 0, .int .u8 0, .int .u8 0, .int .u8 0, .int .u8 0, .int .u8 0, .int .u8 0, .slice none 0 0] 49)).alloc (.cells #[] 5))) := ((Below.refl _ _).drew.alloc (Nat.le_refl _) _).alloc (by simp) _
    clear A1 A2
    refine wpAnyH_ready (rs := [22]) (by kernel_rfl) (by simp) ?_
    refine AllReadyH.cons (o := { dst := some 47, op := Op.buildSlice 30 0 #[], type := 30, pos := "ref.go:85", after := #[], guard := none }) rfl (fun K hK => ?_) AllReadyH.nil
    go_simp
    clear hHeld
    refine hK.out _ _ H2.out.rd (fun hHeld => ?_)
    clear hK K
    try simp only [Act.put, List.setIfInBounds_toArray, List.set_cons_zero, List.set_cons_succ]
    refine wpAnyH_ready (rs := [25]) (by kernel_rfl) (by simp) ?_
    refine AllReadyH.cons (o := { dst := some 50, op := Op.call { callee := Callee.builtin Builtin.append, args := #[Operand.tmp 47, Operand.tmp 49], argTypes := #[30, 30] }, type := 30, pos := "ref.go:85", after := #[{ on := 22, ground := Ground.data }, { on := 24, ground := Ground.data }], guard := none }) rfl (fun K hK => ?_) AllReadyH.nil
    refine step_app (by rfl) _ _ (by rfl) (by rfl) (by rfl) O2.out S2.out hlen G2.out ?_
    intro s7 w7 ho7 hg7 hat7
    have hb7 := HA2.out.trans ((grown_below O2.out hg7 G2.out).mono (by omega))
    obtain ⟨a7, n7, c7, rfl⟩ := src_form ho7.src
    have T7 : Hid (Hst w w7 f (.slice a n c) own to) := HT0.out.later (hb7.mono (by omega))
    have O7 : Hid (Own w7 W.heap.size (.slice a7 n7 c7) l) := ho7.base (by omega)
    have z7 : BfAt w7 W.heap.size zeroB (.slice none 0 0) := ((grown_below O2.out hg7 G2.out).block _ (by omega)).trans Z2.out
    have Z7 : Hid (BfAt w7 W.heap.size zeroB (.slice none 0 0)) := z7
    have O7k : Hid (∀ k, (Value.slice a7 n7 c7).ownBlock = some k → W.heap.size < k) := fun k hk => by have := (ho7.block k hk).1; omega
    clear z7
    clear ho7 hg7 hat7 hb7
    clear hHeld
    refine hK.out _ _ T7.out.rd (fun hHeld => ?_)
    clear hK K
    try simp only [Act.put, List.setIfInBounds_toArray, List.set_cons_zero, List.set_cons_succ]
    refine wpAnyH_take (i := 26) (oi := { dst := some 51, op := Op.build 49 #[(0, Operand.tmp 25), (1, Operand.tmp 26), (2, Operand.tmp 34), (3, Operand.tmp 46), (4, Operand.tmp 50)], type := 49, pos := "ref.go:85", after := #[{ on := 0, ground := Ground.data }, { on := 1, ground := Ground.data }, { on := 9, ground := Ground.data }, { on := 21, ground := Ground.data }, { on := 25, ground := Ground.data }], guard := none }) (v := ?_) rfl (by kernel_rfl) (by kernel_rfl) (by kernel_rfl) (fun _ _ _ h => h) (Or.inl ⟨by rfl, ?_⟩) hHeld ?_
    rotate_left
    · intro W hSw
      obtain ⟨q1, q2, q3, q4, q5, q6, q7⟩ := hSw
      first | (go_simp; done) | (go_simp; with_reducible rfl)
    rotate_left
    try simp only [Act.put, List.setIfInBounds_toArray, List.set_cons_zero, List.set_cons_succ]
    have z7 : BfAt w7 W.heap.size zeroB (.slice none 0 0) := Z7.out
    have st8 := z7.st (g := hidF f isid vid own to) (y := .slice a7 n7 c7) rfl
    have st8 : (stS 49 (.pointer (some ⟨W.heap.size, 0, none⟩)) (.agg #[.int .u8 to.a, .int .u8 to.b, .int .u8 to.c, .int .u8 to.d, .int .u8 to.e, .int .u8 to.f, .int .u8 own.a, .int .u8 own.b, .int .u8 own.c, .int .u8 own.d, .int .u8 own.e, .int .u8 own.f, .int .i64 f.p, .bool f.e, .int .i64 vid, .int .i64 f.p, .bool f.e, .bool true, .int .i64 isid, .int .u8 f.d.a, .int .u8 f.d.b, .int .u8 f.d.c, .int .u8 f.d.d, .int .u8 f.d.e, .int .u8 f.d.f, .int .u8 f.s.a, .int .u8 f.s.b, .int .u8 f.s.c, .int .u8 f.s.d, .int .u8 f.s.e, .int .u8 f.s.f, .slice a7 n7 c7])).run Try.prog w7 = .ok () (w7.setRow W.heap.size (bcs (hidF f isid vid own to) (.slice a7 n7 c7))) := st8
    have T8 : Hid (Hst w (w7.setRow W.heap.size (bcs (hidF f isid vid own to) (.slice a7 n7 c7))) f (.slice a n c) own to ∧ BfAt (w7.setRow W.heap.size (bcs (hidF f isid vid own to) (.slice a7 n7 c7))) W.heap.size (hidF f isid vid own to) (.slice a7 n7 c7) ∧ Own (w7.setRow W.heap.size (bcs (hidF f isid vid own to) (.slice a7 n7 c7))) W.heap.size (.slice a7 n7 c7) l) := ⟨T7.out.row (by have := HA.out.2; omega), z7.set, O7.out.of_block fun k hk => setRow_other _ _ _ _ (by have := O7k.out k hk; omega)⟩
    clear z7
    refine wpAnyH_ready (rs := [28]) (by kernel_rfl) (by simp) ?_
    refine AllReadyH.cons (o := { dst := none, op := Op.store 49 (Operand.tmp 13) (Operand.tmp 51), type := 0, pos := "ref.go:85", after := #[{ on := 27, ground := Ground.data }, { on := 26, ground := Ground.data }, { on := 25, ground := Ground.chain }, { on := 0, ground := Ground.phase }, { on := 1, ground := Ground.phase }, { on := 2, ground := Ground.phase }, { on := 3, ground := Ground.phase }, { on := 4, ground := Ground.phase }, { on := 5, ground := Ground.phase }, { on := 6, ground := Ground.phase }, { on := 7, ground := Ground.phase }, { on := 8, ground := Ground.phase }, { on := 9, ground := Ground.phase }, { on := 10, ground := Ground.phase }, { on := 11, ground := Ground.phase }, { on := 12, ground := Ground.phase }, { on := 13, ground := Ground.phase }, { on := 14, ground := Ground.phase }, { on := 15, ground := Ground.phase }, { on := 16, ground := Ground.phase }, { on := 17, ground := Ground.phase }, { on := 18, ground := Ground.phase }, { on := 19, ground := Ground.phase }, { on := 20, ground := Ground.phase }, { on := 21, ground := Ground.phase }, { on := 22, ground := Ground.phase }, { on := 23, ground := Ground.phase }, { on := 24, ground := Ground.phase }, { on := 25, ground := Ground.phase }, { on := 26, ground := Ground.phase }, { on := 27, ground := Ground.phase }], guard := none }) rfl (fun K hK => ?_) AllReadyH.nil
    go_simp
    clear hHeld
    refine hK.out _ _ T8.out.1.rd (fun hHeld => ?_)
    clear hK K
    try simp only [Act.put, List.setIfInBounds_toArray, List.set_cons_zero, List.set_cons_succ]
    refine wpAnyH_done (by kernel_rfl) ?_ _
    refine NoPanic.normal ?_
    clear hHeld
    clear st8
    have ld8 := T8.out.2.1.ld
    clear c12
    obtain ⟨E, hE⟩ : ∃ E, chkB (hidF f isid vid own to) l = E := ⟨_, rfl⟩
    rw [hE] at HE HC
    clear hE
    go_wp2_with fail
    refine (HC.out _ _ T8.out.2.2.src).mono ?_
    rintro _ W3 ⟨rfl, hW3⟩
    have H3 : Hid (Hst w W3 f (.slice a n c) own to ∧ BfAt W3 W.heap.size (hidF f isid vid own to) (.slice a7 n7 c7) ∧ Own W3 W.heap.size (.slice a7 n7 c7) l) := ⟨T8.out.1.later hW3, T8.out.2.1.below hW3, T8.out.2.2.below hW3⟩
    clear hW3 ld8
    cases ge : (E != 0)
    rotate_left
    · have zs := H3.out.1.z.zst
      have HZ : Hid _ := H3.out.1.zat zeroB (.slice none 0 0)
      go_wp2
      refine bodyPost_ret (results_btwo Try.results46 _ _ _ _ _ _ rfl rfl HZ.out.1) rfl ?_
      exact hd_err E HE.out (by simpa using ge) HZ.out.2
    · have HE0 : Hid (E = 0) := by have : E = 0 := by simpa using ge
                                   exact this
      have ld9 := H3.out.2.1.ld
      have st9 := H3.out.1.z.st (g := hidF f isid vid own to) (y := .slice a7 n7 c7) rfl
      have HZ : Hid _ := H3.out.1.zat (hidF f isid vid own to) (.slice a7 n7 c7)
      go_wp2
      refine bodyPost_ret (results_btwo Try.results46 _ _ _ _ _ _ rfl rfl HZ.out.1) rfl ?_
      refine hd_ok (by rw [HE.out, HE0.out]) ?_ HZ.out.2
      have hlt := HA.out.2
      refine (H3.out.2.2.of_block fun k hk => ?_).base (by omega)
      have h1 := (H3.out.2.2.block k hk).1
      rw [setRow_other _ _ _ _ (by omega)]

theorem hidref_any (f : Fr) (x : Value) (l : List Int) (isid vid : Int) (own to : M6) (w : World) (h : Src w x l) (hb : ∀ x ∈ l, 0 ≤ x ∧ x ≤ 255) (hf : f.ok) (how : own.ok) (hto : to.ok) (hl : l.length ≤ 2000) :
    Calls Try.prog 46 #[.agg (fcs f x), .int .i64 isid, .int .i64 vid, own.v, to.v] w fun r w' => HdOut f l isid vid own to w r w' := by
  obtain ⟨a, n, c, rfl⟩ := src_form h
  by_cases he : chkF f l = 0
  · cases ht : f.t
    · exact hidref_plain f a n c l isid vid own to w h hb hf he ht
    · exact hidref_yes f a n c l isid vid own to w h hb hf how hto he hl ht
  · exact hidref_no f a n c l isid vid own to w h hb hf he
end S4
end Go.Proofs.Ytgjagedngdhdaaa
