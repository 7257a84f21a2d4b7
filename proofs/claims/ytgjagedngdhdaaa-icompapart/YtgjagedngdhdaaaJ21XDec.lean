/-
  What bytes decode to, and the laws of the variables that a decoding walk keeps. The walk of decoding: for all bytes.
-/
import Derived.Test.YtgjagedngdhdaaaJ20XEx
import Derived.Test.YtgjagedngdhdaaaJ15XCheck
namespace Go.Proofs.Ytgjagedngdhdaaa

section
namespace S4
set_option linter.unusedVariables false
set_option linter.unusedSimpArgs false
open Go.RowKit

/-- Six bytes from the k-th on. -/
def m6 (l : List Int) (k : Nat) : M6 := ⟨gt l k, gt l (k + 1), gt l (k + 2), gt l (k + 3), gt l (k + 4), gt l (k + 5)⟩
/-- Do bytes have a tag? -/
def dcT (l : List Int) : Bool := tyN (l.drop 12) == 34984
/-- The frame that bytes would be. -/
def rawF (l : List Int) : Fr := ⟨m6 l 0, m6 l 6, dcT l, if dcT l then tkP (l.drop 14) else 0, if dcT l then tkD (l.drop 14) else false, if dcT l then tkV (l.drop 14) else 0⟩
def rawR (l : List Int) : List Int := if dcT l then l.drop 16 else l.drop 12
/-- The error of decoding. -/
def dcE (l : List Int) : Int := if shortB l then 6 else chkF (rawF l) (rawR l)
def dcF (l : List Int) : Fr := if dcE l = 0 then rawF l else zeroF
def dcR (l : List Int) : List Int := if dcE l = 0 then rawR l else []
def DcOut (l : List Int) (w : World) (r : Ending) (w' : World) : Prop :=
  ∃ s, r = .returned (.tuple #[.agg (fcs (dcF l) s), .int .i64 (dcE l)]) ∧ Own w' w.heap.size s (dcR l) ∧ Below w.heap.size w w'
theorem dc_err {l : List Int} {w w' : World} (e : Int) (he : dcE l = e) (h0 : ¬ e = 0) (hb : Below w.heap.size w w') : DcOut l w (.returned (.tuple #[.agg (fcs zeroF (.slice none 0 0)), .int .i64 e])) w' := by
  refine ⟨.slice none 0 0, ?_, ?_, hb⟩
  · unfold dcF; rw [he, if_neg h0]
  · unfold dcR; rw [he, if_neg h0]; exact own_nil _ _
theorem dc_ok {l : List Int} {w w' : World} {s : Value} (he : dcE l = 0) (ho : Own w' w.heap.size s (rawR l)) (hb : Below w.heap.size w w') : DcOut l w (.returned (.tuple #[.agg (fcs (rawF l) s), .int .i64 0])) w' := by
  refine ⟨s, ?_, ?_, hb⟩
  · unfold dcF; rw [he, if_pos rfl]
  · unfold dcR; rw [he, if_pos rfl]; exact ho

theorem shortB_iff {l : List Int} : shortB l = false ↔ 14 ≤ l.length ∧ (dcT l = true → 18 ≤ l.length) := by
  unfold shortB dcT
  cases h : (tyN (l.drop 12) == 34984) <;> simp <;> omega
theorem gt_ok {l : List Int} (hb : ∀ x ∈ l, 0 ≤ x ∧ x ≤ 255) (k : Nat) : 0 ≤ gt l k ∧ gt l k ≤ 255 := by
  unfold gt
  by_cases h : k < l.length
  · rw [List.getD_eq_getElem?_getD, List.getElem?_eq_getElem h]
    exact hb _ (List.getElem_mem h)
  · rw [List.getD_eq_getElem?_getD, List.getElem?_eq_none (by omega)]
    simp
theorem m6_ok {l : List Int} (hb : ∀ x ∈ l, 0 ≤ x ∧ x ≤ 255) (k : Nat) : (m6 l k).ok := by
  intro x hx
  simp only [M6.l, m6, List.mem_cons, List.not_mem_nil, or_false] at hx
  rcases hx with rfl | rfl | rfl | rfl | rfl | rfl <;> exact gt_ok hb _
theorem rawF_ok {l : List Int} (hb : ∀ x ∈ l, 0 ≤ x ∧ x ≤ 255) : (rawF l).ok := ⟨m6_ok hb 0, m6_ok hb 6⟩

attribute [local go_sem ↓] slS_eq
set_option maxHeartbeats 400000 in
theorem cutk_base (a : Option Addr) (n c k : Nat) (l : List Int) (w W : World) (h : Src w (.slice a n c) l) (hk : k ≤ l.length) (hk0 : 0 < k) :
    Calls Try.prog 63 #[.slice a n c, .int .i64 (k : Nat)] W fun r w' => ∃ a1 n1 c1 a2 n2 c2, r = .returned (.tuple #[.slice a1 n1 c1, .slice a2 n2 c2]) ∧ Src w (.slice a1 n1 c1) (l.take k) ∧ Src w (.slice a2 n2 c2) (l.drop k) ∧ Below W.heap.size W w' := by
  obtain ⟨b, o, rfl, _, hj⟩ := src_some h (by omega)
  obtain ⟨hn, hc, hm⟩ := src_short h
  have hs1 : ∀ W, (slS (.slice (some ⟨b, o, none⟩) n c) none (some (.int .i64 (k : Nat))) (some (.int .i64 (k : Nat)))).run Try.prog W = .ok (.slice (some ⟨b, o, none⟩) k k) W := fun W => slS_front b o n c k (by omega) hc hm W
  have hs2 : ∀ W, (slS (.slice (some ⟨b, o, none⟩) n c) (some (.int .i64 (k : Nat))) none none).run Try.prog W = .ok (dropV b o n c k) W := fun W => slS_drop b o n c k (by omega) hc hm W
  have H1 : Hid (Src w (.slice (some ⟨b, o, none⟩) k k) (l.take k)) := (h.take k (by omega) (by simp)).cap (by simp) (Nat.le_refl _) (by omega)
  have H2 : Hid (Src w (dropV b o n c k) (l.drop k)) := src_dropV h k (by omega)
  clear h hj hn hc hm hk hk0
  go_enter Try.func63, Try.ntmps63
  go_wp2
  go_quiet (fail)
  go_wp2
  go_ret2
  exact ⟨_, _, _, _, _, _, rfl, H1.out, H2.out, below_dn (Below.refl _ _) _⟩

/-- The variable of the answer, and the one that is filled. -/
structure Dec (w W : World) (b : Nat) (f : Fr) (x : Value) : Prop where
  z : FrAt W w.heap.size zeroF (.slice none 0 0)
  fr : FrAt W b f x
  below : Below w.heap.size w W
  lt : w.heap.size < b
theorem Dec.later {w W W' : World} {b : Nat} {f : Fr} {x : Value} (h : Dec w W b f x) (hb : Below W.heap.size W W') : Dec w W' b f x := ⟨h.z.below hb, h.fr.below hb, below_over h.below hb, h.lt⟩
theorem Dec.row {w W : World} {b : Nat} {f : Fr} {x : Value} (h : Dec w W b f x) (g : Fr) (y : Value) : Dec w (W.setRow b (fcs g y)) b g y :=
  ⟨h.z.other (by have := h.lt; omega) _, h.fr.set, below_setRow h.below (by have := h.lt; omega) _, h.lt⟩
theorem Dec.cell {w W : World} {b : Nat} {f g : Fr} {x y v : Value} {k : Nat} (h : Dec w W b f x) (hf : FrAt (W.setCell ⟨b, k, none⟩ v) b g y) : Dec w (W.setCell ⟨b, k, none⟩ v) b g y :=
  ⟨h.z.apart (by have := h.lt; simp; omega) _, hf, h.below.setCell (by have := h.lt; simp; omega) _, h.lt⟩
theorem Dec.zero {w W : World} {b : Nat} {f : Fr} {x : Value} (h : Dec w W b f x) : (stS 34 (.pointer (some ⟨w.heap.size, 0, none⟩)) (.agg #[.int .u8 0, .int .u8 0, .int .u8 0, .int .u8 0, .int .u8 0, .int .u8 0, .int .u8 0, .int .u8 0, .int .u8 0, .int .u8 0, .int .u8 0, .int .u8 0, .bool false, .int .i64 0, .bool false, .int .i64 0, .slice none 0 0])).run Try.prog W = .ok () (W.setRow w.heap.size (fcs zeroF (.slice none 0 0))) := h.z.stv (g := zeroF) (y := .slice none 0 0) rfl _ rfl
theorem Dec.zeroAt {w W : World} {b : Nat} {f : Fr} {x : Value} (h : Dec w W b f x) : FrAt (W.setRow w.heap.size (fcs zeroF (.slice none 0 0))) w.heap.size zeroF (.slice none 0 0) ∧ Below w.heap.size w (W.setRow w.heap.size (fcs zeroF (.slice none 0 0))) := ⟨h.z.set, below_setRow h.below (Nat.le_refl _) _⟩
theorem Dec.whole {w W : World} {b : Nat} {f : Fr} {x : Value} (h : Dec w W b f x) (hx : x.oneCell' = true) : (stS 34 (.pointer (some ⟨w.heap.size, 0, none⟩)) (.agg (fcs f x))).run Try.prog W = .ok () (W.setRow w.heap.size (fcs f x)) ∧ FrAt (W.setRow w.heap.size (fcs f x)) w.heap.size f x ∧ Below w.heap.size w (W.setRow w.heap.size (fcs f x)) := ⟨h.z.st hx, h.z.set, below_setRow h.below (Nat.le_refl _) _⟩
theorem Dec.start {w W : World} (hz : FrAt W w.heap.size zeroF (.slice none 0 0)) (hb : Below w.heap.size w W) : Dec w (W.alloc (.cells #[.int .u8 0, .int .u8 0, .int .u8 0, .int .u8 0, .int .u8 0, .int .u8 0, .int .u8 0, .int .u8 0, .int .u8 0, .int .u8 0, .int .u8 0, .int .u8 0, .bool false, .int .i64 0, .bool false, .int .i64 0, .slice none 0 0] 34)) W.heap.size zeroF (.slice none 0 0) :=
  ⟨hz.below ((Below.refl _ _).alloc (Nat.le_refl _) _), zero_new W, hb.alloc hb.size _, hz.lt⟩

/-- Six bytes are copied into a frame's variable. -/
theorem copy_at {W : World} {t off : Nat} {f g : Fr} {x v : Value} {s : List Int} (h : FrAt W t f x) (hs : Src W v s) (h6 : s.length = 6)
    (hg : ((fcs f x).toList.take off ++ s.map (Value.int .u8) ++ (fcs f x).toList.drop (off + 6)).toArray = fcs g x) (ho : off + 6 ≤ 17) (ty : TypeId) :
    (Builtin.copy_ #[30, 30] ty #[.slice (some ⟨t, off, none⟩) 6 6, v]).run Try.prog W = .ok (goInt 6) (W.setRow t (fcs g x)) := by
  obtain ⟨a, c, rfl, _, _, h4, h5⟩ := hs
  match a, h4, h5 with
  | none, h4, _ => have := (h4 rfl).1; subst this; simp at h6
  | some ad, _, h5 =>
    have := run_copy_row (P := Try.prog) W 30 30 ty 5 t off 6 6 ad s.length c (fcs f x) 34 (s.map (Value.int .u8)) Try.underlying30 (by kernel_rfl) h (by simp [h6]) (fun j y hy => by
      have hj : j < s.length := by
        rcases Nat.lt_or_ge j s.length with h | h
        · exact h
        · rw [List.getElem?_eq_none (by simpa using h)] at hy; cases hy
      rw [h5 ad rfl j hj]
      simp [hj] at hy ⊢
      exact hy) (by simp [fcs_size, h6]; omega) (by intro y hy; simp at hy; obtain ⟨z, _, rfl⟩ := hy; rfl)
    rw [this]
    simp only [List.length_map, h6, goInt] at *
    rw [hg]
    rfl
theorem list6 {l : List Int} {k : Nat} (h : k + 6 ≤ l.length) : (l.drop k).take 6 = (m6 l k).l := by
  apply List.ext_getElem?
  intro j
  by_cases hj : j < 6
  · have e : (m6 l k).l[j]? = some (gt l (k + j)) := by
      have hj' : j = 0 ∨ j = 1 ∨ j = 2 ∨ j = 3 ∨ j = 4 ∨ j = 5 := by omega
      rcases hj' with rfl | rfl | rfl | rfl | rfl | rfl <;> rfl
    rw [e, List.getElem?_take_of_lt hj, List.getElem?_drop]
    unfold gt
    rw [List.getD_eq_getElem?_getD, List.getElem?_eq_getElem (by omega)]
    rfl
  · rw [List.getElem?_eq_none (by simp; omega), List.getElem?_eq_none (by simp [M6.l]; omega)]
theorem copy_d {W : World} {t : Nat} {f : Fr} {x v : Value} {m : M6} (h : FrAt W t f x) (hs : Src W v m.l) (ty : TypeId) :
    (Builtin.copy_ #[30, 30] ty #[.slice (some ⟨t, 0, none⟩) 6 6, v]).run Try.prog W = .ok (goInt 6) (W.setRow t (fcs ⟨m, f.s, f.t, f.p, f.e, f.v⟩ x)) := copy_at h hs rfl rfl (by omega) ty
theorem copy_s {W : World} {t : Nat} {f : Fr} {x v : Value} {m : M6} (h : FrAt W t f x) (hs : Src W v m.l) (ty : TypeId) :
    (Builtin.copy_ #[30, 30] ty #[.slice (some ⟨t, 6, none⟩) 6 6, v]).run Try.prog W = .ok (goInt 6) (W.setRow t (fcs ⟨f.d, m, f.t, f.p, f.e, f.v⟩ x)) := copy_at h hs rfl rfl (by omega) ty
theorem tk_take {l : List Int} (h : 2 ≤ l.length) : tkP (l.take 2) = tkP l ∧ tkD (l.take 2) = tkD l ∧ tkV (l.take 2) = tkV l := by
  have hn : tkN (l.take 2) = tkN l := by
    match l, h with
    | x :: y :: r, _ => rfl
  have he : tkE (l.take 2) = tkE l := by
    have h1 : ¬ (l.take 2).length < 2 := by simp; omega
    have h2 : ¬ l.length < 2 := by omega
    unfold tkE
    rw [hn, if_neg h1, if_neg h2]
  unfold tkP tkD tkV
  rw [hn, he]
  exact ⟨rfl, rfl, rfl⟩
end S4
end

section
namespace S4
set_option linter.unusedVariables false
set_option linter.unusedSimpArgs false
open Go.RowKit

attribute [local go_sem ↓] ldS_MAC ldS_Tag ldS_Frame stS_Frame nqS_eq eqS_eq eqM_eq

set_option maxHeartbeats 1000000 in
theorem decode_short (x : Value) (l : List Int) (w : World) (h : Src w x l) (hb : ∀ x ∈ l, 0 ≤ x ∧ x ≤ 255) (hs : shortB l = true) :
    Calls Try.prog 32 #[x] w fun r w' => DcOut l w r w' := by
  have hz := zero_new w
  have hB : Below w.heap.size w (w.alloc (.cells #[.int .u8 0, .int .u8 0, .int .u8 0, .int .u8 0, .int .u8 0, .int .u8 0, .int .u8 0, .int .u8 0, .int .u8 0, .int .u8 0, .int .u8 0, .int .u8 0, .bool false, .int .i64 0, .bool false, .int .i64 0, .slice none 0 0] 34)) := (Below.refl _ _).alloc (Nat.le_refl _) _
  have HE : Hid (dcE l = 6) := by unfold dcE; rw [hs, if_pos rfl]; rfl
  have hk := short_any x l _ (h.below hB) hb
  rw [hs] at hk
  have HK : Hid _ := hk
  have HZ : Hid (FrAt (w.alloc (.cells #[.int .u8 0, .int .u8 0, .int .u8 0, .int .u8 0, .int .u8 0, .int .u8 0, .int .u8 0, .int .u8 0, .int .u8 0, .int .u8 0, .int .u8 0, .int .u8 0, .bool false, .int .i64 0, .bool false, .int .i64 0, .slice none 0 0] 34)) w.heap.size zeroF (.slice none 0 0) ∧ Below w.heap.size w (w.alloc (.cells #[.int .u8 0, .int .u8 0, .int .u8 0, .int .u8 0, .int .u8 0, .int .u8 0, .int .u8 0, .int .u8 0, .int .u8 0, .int .u8 0, .int .u8 0, .int .u8 0, .bool false, .int .i64 0, .bool false, .int .i64 0, .slice none 0 0] 34))) := ⟨hz, hB⟩
  clear h hb hs hz hB hk
  go_enter Try.func32, Try.ntmps32
  go_wp2_with fail
  refine Calls.mono HK.out ?_
  rintro _ W ⟨rfl, hW⟩
  have f1 := HZ.out.1.below hW
  have st := f1.stv (g := zeroF) (y := .slice none 0 0) rfl _ rfl
  simp only [fcs, zeroF] at st
  have HH : Hid _ := And.intro (f1.set (g := zeroF) (y := .slice none 0 0)) (below_setRow (below_over HZ.out.2 hW) (Nat.le_refl _) (fcs zeroF (.slice none 0 0)))
  clear hW f1 HK HZ
  go_wp2
  refine bodyPost_ret (results_two Try.results32 _ _ _ _ _ _ rfl rfl HH.out.1) rfl ?_
  exact dc_err 6 HE.out (by omega) HH.out.2

set_option maxHeartbeats 2000000 in
theorem decode_plain (x : Value) (l : List Int) (w : World) (h : Src w x l) (hb : ∀ x ∈ l, 0 ≤ x ∧ x ≤ 255) (hl : l.length ≤ 1900) (hs : shortB l = false) (ht : dcT l = false) :
    Calls Try.prog 32 #[x] w fun r w' => DcOut l w r w' := by
  obtain ⟨h14, h18⟩ := shortB_iff.1 hs
  obtain ⟨a, n, c, rfl⟩ := src_form h
  have hz := zero_new w
  have hB : Below w.heap.size w (w.alloc (.cells #[.int .u8 0, .int .u8 0, .int .u8 0, .int .u8 0, .int .u8 0, .int .u8 0, .int .u8 0, .int .u8 0, .int .u8 0, .int .u8 0, .int .u8 0, .int .u8 0, .bool false, .int .i64 0, .bool false, .int .i64 0, .slice none 0 0] 34)) := (Below.refl _ _).alloc (Nat.le_refl _) _
  have hk := short_any (.slice a n c) l _ (h.below hB) hb
  rw [hs] at hk
  have HK : Hid _ := hk
  have HZ : Hid (FrAt (w.alloc (.cells #[.int .u8 0, .int .u8 0, .int .u8 0, .int .u8 0, .int .u8 0, .int .u8 0, .int .u8 0, .int .u8 0, .int .u8 0, .int .u8 0, .int .u8 0, .int .u8 0, .bool false, .int .i64 0, .bool false, .int .i64 0, .slice none 0 0] 34)) w.heap.size zeroF (.slice none 0 0) ∧ Below w.heap.size w (w.alloc (.cells #[.int .u8 0, .int .u8 0, .int .u8 0, .int .u8 0, .int .u8 0, .int .u8 0, .int .u8 0, .int .u8 0, .int .u8 0, .int .u8 0, .int .u8 0, .int .u8 0, .bool false, .int .i64 0, .bool false, .int .i64 0, .slice none 0 0] 34))) := ⟨hz, hB⟩
  have H : Hid (Src w (.slice a n c) l ∧ (∀ x ∈ l, 0 ≤ x ∧ x ≤ 255) ∧ 14 ≤ l.length ∧ l.length ≤ 1900 ∧ (dcT l = true → 18 ≤ l.length)) := ⟨h, hb, h14, hl, h18⟩
  have HT : Hid (dcT l = false) := ht
  have HE : Hid (dcE l = chkF (rawF l) (rawR l)) := by unfold dcE; rw [hs, if_neg (by simp)]; rfl
  clear h hb hs hz hB hk h14 h18 ht hl
  go_enter Try.func32, Try.ntmps32
  go_wp2_with fail
  refine Calls.mono HK.out ?_
  rintro _ W ⟨rfl, hW⟩
  have D0 : Hid (Dec w (W.alloc (.cells #[.int .u8 0, .int .u8 0, .int .u8 0, .int .u8 0, .int .u8 0, .int .u8 0, .int .u8 0, .int .u8 0, .int .u8 0, .int .u8 0, .int .u8 0, .int .u8 0, .bool false, .int .i64 0, .bool false, .int .i64 0, .slice none 0 0] 34)) W.heap.size zeroF (.slice none 0 0)) := Dec.start (HZ.out.1.below hW) (below_over HZ.out.2 hW)
  have hN : Hid (W.heap.size < (W.alloc (.cells #[.int .u8 0, .int .u8 0, .int .u8 0, .int .u8 0, .int .u8 0, .int .u8 0, .int .u8 0, .int .u8 0, .int .u8 0, .int .u8 0, .int .u8 0, .int .u8 0, .bool false, .int .i64 0, .bool false, .int .i64 0, .slice none 0 0] 34)).heap.size) := by show _ < _; simp
  clear hW HK HZ
  obtain ⟨B, hBB⟩ : ∃ B, W.heap.size = B := ⟨_, rfl⟩
  go_wp2_with fail
  refine (cutk_base a n c 6 l w _ H.out.1 (by have := H.out.2.2.1; omega) (by omega)).mono ?_
  rintro _ W1 ⟨b1, m1, d1, a1, n1, c1, rfl, s1, t1, hb1⟩
  have D1 : Hid (Dec w W1 B zeroF (.slice none 0 0)) := by rw [← hBB]; exact D0.out.later hb1
  have S1 : Hid (Src w (.slice b1 m1 d1) (m6 l 0).l) := by rw [← list6 (l := l) (k := 0) (by have := H.out.2.2.1; omega)]; exact s1
  have T1 : Hid (Src w (.slice a1 n1 c1) (l.drop 6)) := t1
  clear s1 t1 hb1 D0 hN hBB W
  go_wp2_with fail
  refine (cutk_base a1 n1 c1 6 (l.drop 6) w _ T1.out (by have := H.out.2.2.1; simp; omega) (by omega)).mono ?_
  rintro _ W2 ⟨b2, m2, d2, a2, n2, c2, rfl, s2, t2, hb2⟩
  have D2 : Hid (Dec w W2 B zeroF (.slice none 0 0)) := D1.out.later hb2
  have S2 : Hid (Src w (.slice b2 m2 d2) (m6 l 6).l) := by rw [← list6 (l := l) (k := 6) (by have := H.out.2.2.1; omega)]; exact s2
  have T2 : Hid (Src w (.slice a2 n2 c2) (l.drop 12)) := by have := t2; rw [List.drop_drop] at this; exact this
  have hc1 := copy_d D2.out.fr (S1.out.below D2.out.below)
  have D3 : Hid (Dec w (W2.setRow B (fcs ⟨m6 l 0, zeroF.s, zeroF.t, zeroF.p, zeroF.e, zeroF.v⟩ (.slice none 0 0))) B ⟨m6 l 0, zeroF.s, zeroF.t, zeroF.p, zeroF.e, zeroF.v⟩ (.slice none 0 0)) := D2.out.row _ _
  have hc2 := copy_s D3.out.fr (S2.out.below D3.out.below)
  have D4 : Hid (Dec w ((W2.setRow B (fcs ⟨m6 l 0, zeroF.s, zeroF.t, zeroF.p, zeroF.e, zeroF.v⟩ (.slice none 0 0))).setRow B (fcs ⟨m6 l 0, m6 l 6, zeroF.t, zeroF.p, zeroF.e, zeroF.v⟩ (.slice none 0 0))) B ⟨m6 l 0, m6 l 6, zeroF.t, zeroF.p, zeroF.e, zeroF.v⟩ (.slice none 0 0)) := D3.out.row _ _
  clear s2 t2 hb2 D1 S1 T1 D2
  have HN : Hid _ := fun W (hW : Below w.heap.size w W) => number_any (.slice a2 n2 c2) (l.drop 12) W (T2.out.below hW) (fun x hx => H.out.2.1 x (List.mem_of_mem_drop hx))
  obtain ⟨N, hNN⟩ : ∃ N, tyN (l.drop 12) = N := ⟨_, rfl⟩
  rw [hNN] at HN
  have hq : (N == 34984) = false := by rw [← hNN]; exact HT.out
  clear hNN
  go_wp2_with fail
  refine Calls.mono (HN.out _ D4.out.below) ?_
  rintro _ W4 ⟨rfl, hb4⟩
  have D5 : Hid (Dec w W4 B ⟨m6 l 0, m6 l 6, zeroF.t, zeroF.p, zeroF.e, zeroF.v⟩ (.slice none 0 0)) := D4.out.later hb4
  have k12 := D5.out.fr.c12
  have lv5 := D5.out.fr.live
  have D6 : Hid (Dec w (W4.setCell ⟨B, 12, none⟩ (.bool false)) B ⟨m6 l 0, m6 l 6, false, zeroF.p, zeroF.e, zeroF.v⟩ (.slice none 0 0)) := D5.out.cell (D5.out.fr.flag false)
  have m12 := D6.out.fr.c12
  clear hb4 hc1 hc2 D4 HN
  have m16 := D6.out.fr.c16
  have lv6 := D6.out.fr.live
  have D7 : Hid (Dec w ((W4.setCell ⟨B, 12, none⟩ (.bool false)).setCell ⟨B, 16, none⟩ (.slice a2 n2 c2)) B ⟨m6 l 0, m6 l 6, false, zeroF.p, zeroF.e, zeroF.v⟩ (.slice a2 n2 c2)) := D6.out.cell (D6.out.fr.rest _)
  have EF : Hid ((⟨m6 l 0, m6 l 6, false, zeroF.p, zeroF.e, zeroF.v⟩ : Fr) = rawF l ∧ rawR l = l.drop 12) := by
    unfold rawF rawR
    rw [HT.out]
    exact ⟨rfl, rfl⟩
  have l7 := D7.out.fr.ld
  rw [EF.out.1] at D7 l7
  have S7 : Hid (Src w (.slice a2 n2 c2) (rawR l)) := by rw [EF.out.2]; exact T2.out
  have HC : Hid _ := check_fr (rawF l) (.slice a2 n2 c2) (rawR l) _ (S7.out.below D7.out.below) (by rw [EF.out.2]; exact fun x hx => H.out.2.1 x (List.mem_of_mem_drop hx)) (rawF_ok H.out.2.1)
  have HL : Hid ((rawR l).length ≤ 2000) := by have := H.out.2.2.2.1; rw [EF.out.2]; show _ ≤ _; simp; omega
  clear T2 D6 EF
  obtain ⟨E, hE⟩ : ∃ E, chkF (rawF l) (rawR l) = E := ⟨_, rfl⟩
  rw [hE] at HC HE
  clear hE
  by_cases he : E = 0
  · subst he
    go_wp2_with fail
    refine Calls.mono HC.out ?_
    rintro _ W8 ⟨rfl, hb8⟩
    have D8 : Hid (Dec w W8 B (rawF l) (.slice a2 n2 c2)) := D7.out.later hb8
    have j16 := D8.out.fr.c16
    clear hb8 D7 l7 HC k12 lv5 m12 m16 lv6
    go_wp2_with fail
    refine (clone_v (.slice a2 n2 c2) (rawR l) _ (S7.out.below D8.out.below) HL.out).mono ?_
    rintro _ W9 ⟨s9, rfl, ho9, hb9⟩
    obtain ⟨a9, n9, c9, rfl⟩ := src_form ho9.src
    have D9 : Hid (Dec w W9 B (rawF l) (.slice a2 n2 c2)) := D8.out.later hb9
    have O9 : Hid (Own W9 w.heap.size (.slice a9 n9 c9) (rawR l) ∧ ∀ k, (Value.slice a9 n9 c9).ownBlock = some k → w.heap.size < k ∧ B < k) := ⟨ho9.base (by have := D8.out.below.size; exact this), fun k hk => by have h1 := (ho9.block k hk).1; have h2 := D8.out.fr.lt; have h3 := D8.out.z.lt; omega⟩
    have j16' := D9.out.fr.c16
    have lv9 := D9.out.fr.live
    have D10 : Hid (Dec w (W9.setCell ⟨B, 16, none⟩ (.slice a9 n9 c9)) B (rawF l) (.slice a9 n9 c9)) := D9.out.cell (D9.out.fr.rest _)
    have l10 := D10.out.fr.ld
    obtain ⟨st10, F10, B10⟩ := D10.out.whole rfl
    have HH : Hid _ := And.intro F10 B10
    clear ho9 hb9 D8 j16 F10 B10
    go_wp2
    refine bodyPost_ret (results_two Try.results32 _ _ _ _ _ _ rfl rfl HH.out.1) rfl ?_
    refine dc_ok HE.out ?_ HH.out.2
    refine O9.out.1.of_block fun k hk => ?_
    have := O9.out.2 k hk
    rw [setRow_other _ _ _ _ (by omega), heap_setCell_other _ _ _ _ (by simp; omega)]
  · have he' : (E != 0) = true := by simpa using he
    have HN0 : Hid (¬ E = 0) := he
    clear he
    go_wp2_with fail
    refine Calls.mono HC.out ?_
    rintro _ W8 ⟨rfl, hb8⟩
    have D8 : Hid (Dec w W8 B (rawF l) (.slice a2 n2 c2)) := D7.out.later hb8
    have z8 := D8.out.zero
    have HH : Hid _ := D8.out.zeroAt
    clear hb8 D7 l7 HC k12 lv5 m12 m16 lv6 D8
    go_wp2
    refine bodyPost_ret (results_two Try.results32 _ _ _ _ _ _ rfl rfl HH.out.1) rfl ?_
    exact dc_err E HE.out HN0.out HH.out.2

set_option maxHeartbeats 2000000 in
theorem decode_tagged (x : Value) (l : List Int) (w : World) (h : Src w x l) (hb : ∀ x ∈ l, 0 ≤ x ∧ x ≤ 255) (hl : l.length ≤ 1900) (hs : shortB l = false) (ht : dcT l = true) :
    Calls Try.prog 32 #[x] w fun r w' => DcOut l w r w' := by
  obtain ⟨h14, h18⟩ := shortB_iff.1 hs
  obtain ⟨a, n, c, rfl⟩ := src_form h
  have hz := zero_new w
  have hB : Below w.heap.size w (w.alloc (.cells #[.int .u8 0, .int .u8 0, .int .u8 0, .int .u8 0, .int .u8 0, .int .u8 0, .int .u8 0, .int .u8 0, .int .u8 0, .int .u8 0, .int .u8 0, .int .u8 0, .bool false, .int .i64 0, .bool false, .int .i64 0, .slice none 0 0] 34)) := (Below.refl _ _).alloc (Nat.le_refl _) _
  have hk := short_any (.slice a n c) l _ (h.below hB) hb
  rw [hs] at hk
  have HK : Hid _ := hk
  have HZ : Hid (FrAt (w.alloc (.cells #[.int .u8 0, .int .u8 0, .int .u8 0, .int .u8 0, .int .u8 0, .int .u8 0, .int .u8 0, .int .u8 0, .int .u8 0, .int .u8 0, .int .u8 0, .int .u8 0, .bool false, .int .i64 0, .bool false, .int .i64 0, .slice none 0 0] 34)) w.heap.size zeroF (.slice none 0 0) ∧ Below w.heap.size w (w.alloc (.cells #[.int .u8 0, .int .u8 0, .int .u8 0, .int .u8 0, .int .u8 0, .int .u8 0, .int .u8 0, .int .u8 0, .int .u8 0, .int .u8 0, .int .u8 0, .int .u8 0, .bool false, .int .i64 0, .bool false, .int .i64 0, .slice none 0 0] 34))) := ⟨hz, hB⟩
  have H : Hid (Src w (.slice a n c) l ∧ (∀ x ∈ l, 0 ≤ x ∧ x ≤ 255) ∧ 14 ≤ l.length ∧ l.length ≤ 1900 ∧ (dcT l = true → 18 ≤ l.length)) := ⟨h, hb, h14, hl, h18⟩
  have HT : Hid (dcT l = true) := ht
  have HE : Hid (dcE l = chkF (rawF l) (rawR l)) := by unfold dcE; rw [hs, if_neg (by simp)]; rfl
  clear h hb hs hz hB hk h14 h18 ht hl
  go_enter Try.func32, Try.ntmps32
  go_wp2_with fail
  refine Calls.mono HK.out ?_
  rintro _ W ⟨rfl, hW⟩
  have D0 : Hid (Dec w (W.alloc (.cells #[.int .u8 0, .int .u8 0, .int .u8 0, .int .u8 0, .int .u8 0, .int .u8 0, .int .u8 0, .int .u8 0, .int .u8 0, .int .u8 0, .int .u8 0, .int .u8 0, .bool false, .int .i64 0, .bool false, .int .i64 0, .slice none 0 0] 34)) W.heap.size zeroF (.slice none 0 0)) := Dec.start (HZ.out.1.below hW) (below_over HZ.out.2 hW)
  have hN : Hid (W.heap.size < (W.alloc (.cells #[.int .u8 0, .int .u8 0, .int .u8 0, .int .u8 0, .int .u8 0, .int .u8 0, .int .u8 0, .int .u8 0, .int .u8 0, .int .u8 0, .int .u8 0, .int .u8 0, .bool false, .int .i64 0, .bool false, .int .i64 0, .slice none 0 0] 34)).heap.size) := by show _ < _; simp
  clear hW HK HZ
  obtain ⟨B, hBB⟩ : ∃ B, W.heap.size = B := ⟨_, rfl⟩
  go_wp2_with fail
  refine (cutk_base a n c 6 l w _ H.out.1 (by have := H.out.2.2.1; omega) (by omega)).mono ?_
  rintro _ W1 ⟨b1, m1, d1, a1, n1, c1, rfl, s1, t1, hb1⟩
  have D1 : Hid (Dec w W1 B zeroF (.slice none 0 0)) := by rw [← hBB]; exact D0.out.later hb1
  have S1 : Hid (Src w (.slice b1 m1 d1) (m6 l 0).l) := by rw [← list6 (l := l) (k := 0) (by have := H.out.2.2.1; omega)]; exact s1
  have T1 : Hid (Src w (.slice a1 n1 c1) (l.drop 6)) := t1
  clear s1 t1 hb1 D0 hN hBB W
  go_wp2_with fail
  refine (cutk_base a1 n1 c1 6 (l.drop 6) w _ T1.out (by have := H.out.2.2.1; simp; omega) (by omega)).mono ?_
  rintro _ W2 ⟨b2, m2, d2, a2, n2, c2, rfl, s2, t2, hb2⟩
  have D2 : Hid (Dec w W2 B zeroF (.slice none 0 0)) := D1.out.later hb2
  have S2 : Hid (Src w (.slice b2 m2 d2) (m6 l 6).l) := by rw [← list6 (l := l) (k := 6) (by have := H.out.2.2.1; omega)]; exact s2
  have T2 : Hid (Src w (.slice a2 n2 c2) (l.drop 12)) := by have := t2; rw [List.drop_drop] at this; exact this
  have hc1 := copy_d D2.out.fr (S1.out.below D2.out.below)
  have D3 : Hid (Dec w (W2.setRow B (fcs ⟨m6 l 0, zeroF.s, zeroF.t, zeroF.p, zeroF.e, zeroF.v⟩ (.slice none 0 0))) B ⟨m6 l 0, zeroF.s, zeroF.t, zeroF.p, zeroF.e, zeroF.v⟩ (.slice none 0 0)) := D2.out.row _ _
  have hc2 := copy_s D3.out.fr (S2.out.below D3.out.below)
  have D4 : Hid (Dec w ((W2.setRow B (fcs ⟨m6 l 0, zeroF.s, zeroF.t, zeroF.p, zeroF.e, zeroF.v⟩ (.slice none 0 0))).setRow B (fcs ⟨m6 l 0, m6 l 6, zeroF.t, zeroF.p, zeroF.e, zeroF.v⟩ (.slice none 0 0))) B ⟨m6 l 0, m6 l 6, zeroF.t, zeroF.p, zeroF.e, zeroF.v⟩ (.slice none 0 0)) := D3.out.row _ _
  clear s2 t2 hb2 D1 S1 T1 D2
  have HN : Hid _ := fun W (hW : Below w.heap.size w W) => number_any (.slice a2 n2 c2) (l.drop 12) W (T2.out.below hW) (fun x hx => H.out.2.1 x (List.mem_of_mem_drop hx))
  obtain ⟨N, hNN⟩ : ∃ N, tyN (l.drop 12) = N := ⟨_, rfl⟩
  rw [hNN] at HN
  have hq : (N == 34984) = true := by rw [← hNN]; exact HT.out
  clear hNN
  go_wp2_with fail
  refine Calls.mono (HN.out _ D4.out.below) ?_
  rintro _ W4 ⟨rfl, hb4⟩
  have D5 : Hid (Dec w W4 B ⟨m6 l 0, m6 l 6, zeroF.t, zeroF.p, zeroF.e, zeroF.v⟩ (.slice none 0 0)) := D4.out.later hb4
  have k12 := D5.out.fr.c12
  have lv5 := D5.out.fr.live
  have D6 : Hid (Dec w (W4.setCell ⟨B, 12, none⟩ (.bool true)) B ⟨m6 l 0, m6 l 6, true, zeroF.p, zeroF.e, zeroF.v⟩ (.slice none 0 0)) := D5.out.cell (D5.out.fr.flag true)
  have m12 := D6.out.fr.c12
  clear hb4 hc1 hc2 D4 HN
  have HD : Hid (18 ≤ l.length) := H.out.2.2.2.2 HT.out
  go_wp2_with fail
  refine (cutk_base a2 n2 c2 2 (l.drop 12) w _ T2.out (by have := HD.out; simp; omega) (by omega)).mono ?_
  rintro _ W5 ⟨b3, m3, d3, a3, n3, c3, rfl, s3, t3, hb5⟩
  have D7 : Hid (Dec w W5 B ⟨m6 l 0, m6 l 6, true, zeroF.p, zeroF.e, zeroF.v⟩ (.slice none 0 0)) := D6.out.later hb5
  have T3 : Hid (Src w (.slice a3 n3 c3) (l.drop 14)) := by have := t3; rw [List.drop_drop] at this; exact this
  clear s3 t3 hb5 D6 D5 T2 k12 lv5 m12
  go_wp2_with fail
  refine (cutk_base a3 n3 c3 2 (l.drop 14) w _ T3.out (by have := HD.out; simp; omega) (by omega)).mono ?_
  rintro _ W6 ⟨b4, m4, d4, a4, n4, c4, rfl, s4, t4, hb6⟩
  have D8 : Hid (Dec w W6 B ⟨m6 l 0, m6 l 6, true, zeroF.p, zeroF.e, zeroF.v⟩ (.slice none 0 0)) := D7.out.later hb6
  have T4 : Hid (Src w (.slice a4 n4 c4) (l.drop 16)) := by have := t4; rw [List.drop_drop] at this; exact this
  have S4 : Hid (Src w (.slice b4 m4 d4) ((l.drop 14).take 2)) := s4
  clear s4 t4 hb6 D7 T3
  go_wp2_with fail
  refine (take_any b4 m4 d4 ((l.drop 14).take 2) _ (S4.out.below D8.out.below) (by simp; omega) (fun x hx => H.out.2.1 x (List.mem_of_mem_drop (List.mem_of_mem_take hx)))).mono ?_
  rintro _ W7 ⟨s7, rfl, ho7, hb7⟩
  have ek := tk_take (l := l.drop 14) (by have := HD.out; simp; omega)
  rw [ek.1, ek.2.1, ek.2.2]
  have D9 : Hid (Dec w W7 B ⟨m6 l 0, m6 l 6, true, zeroF.p, zeroF.e, zeroF.v⟩ (.slice none 0 0)) := D8.out.later hb7
  obtain ⟨P, hP⟩ : ∃ P, tkP (l.drop 14) = P := ⟨_, rfl⟩
  obtain ⟨Q, hQ⟩ : ∃ Q, tkD (l.drop 14) = Q := ⟨_, rfl⟩
  obtain ⟨V, hV⟩ : ∃ V, tkV (l.drop 14) = V := ⟨_, rfl⟩
  rw [hP, hQ, hV]
  have k13 := D9.out.fr.c13
  have k14 := D9.out.fr.c14
  have k15 := D9.out.fr.c15
  have k16 := D9.out.fr.c16
  have lv9 := D9.out.fr.live
  have F10 := D9.out.fr.tags P Q V
  have D10 : Hid (Dec w (((W7.setCell ⟨B, 13, none⟩ (.int .i64 P)).setCell ⟨B, 14, none⟩ (.bool Q)).setCell ⟨B, 15, none⟩ (.int .i64 V)) B ⟨m6 l 0, m6 l 6, true, P, Q, V⟩ (.slice none 0 0)) := ⟨((D9.out.z.apart (by have := D9.out.lt; simp; omega) _).apart (by have := D9.out.lt; simp; omega) _).apart (by have := D9.out.lt; simp; omega) _, F10, ((D9.out.below.setCell (by have := D9.out.lt; simp; omega) _).setCell (by have := D9.out.lt; simp; omega) _).setCell (by have := D9.out.lt; simp; omega) _, D9.out.lt⟩
  have m16 := D10.out.fr.c16
  have lv10 := D10.out.fr.live
  have D11 : Hid (Dec w ((((W7.setCell ⟨B, 13, none⟩ (.int .i64 P)).setCell ⟨B, 14, none⟩ (.bool Q)).setCell ⟨B, 15, none⟩ (.int .i64 V)).setCell ⟨B, 16, none⟩ (.slice a4 n4 c4)) B ⟨m6 l 0, m6 l 6, true, P, Q, V⟩ (.slice a4 n4 c4)) := D10.out.cell (D10.out.fr.rest _)
  have EF : Hid ((⟨m6 l 0, m6 l 6, true, P, Q, V⟩ : Fr) = rawF l ∧ rawR l = l.drop 16) := by
    unfold rawF rawR
    rw [HT.out, ← hP, ← hQ, ← hV]
    exact ⟨rfl, rfl⟩
  have l7 := D11.out.fr.ld
  rw [EF.out.1] at D11 l7
  have S7 : Hid (Src w (.slice a4 n4 c4) (rawR l)) := by rw [EF.out.2]; exact T4.out
  have HC : Hid _ := check_fr (rawF l) (.slice a4 n4 c4) (rawR l) _ (S7.out.below D11.out.below) (by rw [EF.out.2]; exact fun x hx => H.out.2.1 x (List.mem_of_mem_drop hx)) (rawF_ok H.out.2.1)
  have HL : Hid ((rawR l).length ≤ 2000) := by have := H.out.2.2.2.1; rw [EF.out.2]; show _ ≤ _; simp; omega
  clear T4 D10 F10 EF ho7 hb7 D8 S4 ek hP hQ hV D9
  obtain ⟨E, hE⟩ : ∃ E, chkF (rawF l) (rawR l) = E := ⟨_, rfl⟩
  rw [hE] at HC HE
  clear hE
  by_cases he : E = 0
  · subst he
    go_wp2_with fail
    refine Calls.mono HC.out ?_
    rintro _ W8 ⟨rfl, hb8⟩
    have D8 : Hid (Dec w W8 B (rawF l) (.slice a4 n4 c4)) := D11.out.later hb8
    have j16 := D8.out.fr.c16
    clear hb8 D11 l7 HC k13 k14 k15 k16 lv9 m16 lv10
    go_wp2_with fail
    refine (clone_v (.slice a4 n4 c4) (rawR l) _ (S7.out.below D8.out.below) HL.out).mono ?_
    rintro _ W9 ⟨s9, rfl, ho9, hb9⟩
    obtain ⟨a9, n9, c9, rfl⟩ := src_form ho9.src
    have D9 : Hid (Dec w W9 B (rawF l) (.slice a4 n4 c4)) := D8.out.later hb9
    have O9 : Hid (Own W9 w.heap.size (.slice a9 n9 c9) (rawR l) ∧ ∀ k, (Value.slice a9 n9 c9).ownBlock = some k → w.heap.size < k ∧ B < k) := ⟨ho9.base (by have := D8.out.below.size; exact this), fun k hk => by have h1 := (ho9.block k hk).1; have h2 := D8.out.fr.lt; have h3 := D8.out.z.lt; omega⟩
    have j16' := D9.out.fr.c16
    have lv9 := D9.out.fr.live
    have D10 : Hid (Dec w (W9.setCell ⟨B, 16, none⟩ (.slice a9 n9 c9)) B (rawF l) (.slice a9 n9 c9)) := D9.out.cell (D9.out.fr.rest _)
    have l10 := D10.out.fr.ld
    obtain ⟨st10, F10, B10⟩ := D10.out.whole rfl
    have HH : Hid _ := And.intro F10 B10
    clear ho9 hb9 D8 j16 F10 B10
    go_wp2
    refine bodyPost_ret (results_two Try.results32 _ _ _ _ _ _ rfl rfl HH.out.1) rfl ?_
    refine dc_ok HE.out ?_ HH.out.2
    refine O9.out.1.of_block fun k hk => ?_
    have := O9.out.2 k hk
    rw [setRow_other _ _ _ _ (by omega), heap_setCell_other _ _ _ _ (by simp; omega)]
  · have he' : (E != 0) = true := by simpa using he
    have HN0 : Hid (¬ E = 0) := he
    clear he
    go_wp2_with fail
    refine Calls.mono HC.out ?_
    rintro _ W8 ⟨rfl, hb8⟩
    have D8 : Hid (Dec w W8 B (rawF l) (.slice a4 n4 c4)) := D11.out.later hb8
    have z8 := D8.out.zero
    have HH : Hid _ := D8.out.zeroAt
    clear hb8 D11 l7 HC k13 k14 k15 k16 lv9 m16 lv10 D8
    go_wp2
    refine bodyPost_ret (results_two Try.results32 _ _ _ _ _ _ rfl rfl HH.out.1) rfl ?_
    exact dc_err E HE.out HN0.out HH.out.2

theorem decode_any (x : Value) (l : List Int) (w : World) (h : Src w x l) (hb : ∀ x ∈ l, 0 ≤ x ∧ x ≤ 255) (hl : l.length ≤ 1900) : Calls Try.prog 32 #[x] w fun r w' => DcOut l w r w' := by
  cases hs : shortB l
  · cases ht : dcT l
    · exact decode_plain x l w h hb hl hs ht
    · exact decode_tagged x l w h hb hl hs ht
  · exact decode_short x l w h hb hs
end S4
end

end Go.Proofs.Ytgjagedngdhdaaa
