/-
  What bytes decode to, and the laws of the variables that a decoding walk keeps.
-/
import Derived.Test.YtnkchahjdacboaaRetag
import Derived.Test.YtnkchahjdacboaaSames
namespace Go.Proofs.Ytnkchahjdacboaa
set_option linter.unusedVariables false
set_option linter.unusedSimpArgs false
open Go.RowKit

/-- Six bytes from the k-th on. -/
def m6 (l : List Int) (k : Nat) : M6 := ⟨gt l k, gt l (k + 1), gt l (k + 2), gt l (k + 3), gt l (k + 4), gt l (k + 5)⟩
/-- Do bytes have a tag? -/
def dcT (l : List Int) : Bool := tyN (l.drop 12) == 34984
/-- The frame that bytes would be. -/
def rawF (l : List Int) : Fr := ⟨m6 l 0, m6 l 6, dcT l, if dcT l then tkP (l.drop 14) else 0, if dcT l then tkD (l.drop 14) else false, if dcT l then tkV (l.drop 14) else 0⟩
def rawR (l : List Int) : List Int := if dcT l then l.drop 16 else l.drop 12
/-- The error of decoding. -/
def dcE (l : List Int) : Int := if shortB l then 6 else chkF (rawF l) (rawR l)
def dcF (l : List Int) : Fr := if dcE l = 0 then rawF l else zeroF
def dcR (l : List Int) : List Int := if dcE l = 0 then rawR l else []
def DcOut (l : List Int) (w : World) (r : Ending) (w' : World) : Prop :=
  ∃ s, r = .returned (.tuple #[.agg (fcs (dcF l) s), .int .i64 (dcE l)]) ∧ Own w' w.heap.size s (dcR l) ∧ Below w.heap.size w w'
theorem dc_err {l : List Int} {w w' : World} (e : Int) (he : dcE l = e) (h0 : ¬ e = 0) (hb : Below w.heap.size w w') : DcOut l w (.returned (.tuple #[.agg (fcs zeroF (.slice none 0 0)), .int .i64 e])) w' := by
  refine ⟨.slice none 0 0, ?_, ?_, hb⟩
  · unfold dcF; rw [he, if_neg h0]
  · unfold dcR; rw [he, if_neg h0]; exact own_nil _ _
theorem dc_ok {l : List Int} {w w' : World} {s : Value} (he : dcE l = 0) (ho : Own w' w.heap.size s (rawR l)) (hb : Below w.heap.size w w') : DcOut l w (.returned (.tuple #[.agg (fcs (rawF l) s), .int .i64 0])) w' := by
  refine ⟨s, ?_, ?_, hb⟩
  · unfold dcF; rw [he, if_pos rfl]
  · unfold dcR; rw [he, if_pos rfl]; exact ho

theorem shortB_iff {l : List Int} : shortB l = false ↔ 14 ≤ l.length ∧ (dcT l = true → 18 ≤ l.length) := by
  unfold shortB dcT
  cases h : (tyN (l.drop 12) == 34984) <;> simp <;> omega
theorem gt_ok {l : List Int} (hb : ∀ x ∈ l, 0 ≤ x ∧ x ≤ 255) (k : Nat) : 0 ≤ gt l k ∧ gt l k ≤ 255 := by
  unfold gt
  by_cases h : k < l.length
  · rw [List.getD_eq_getElem?_getD, List.getElem?_eq_getElem h]
    exact hb _ (List.getElem_mem h)
  · rw [List.getD_eq_getElem?_getD, List.getElem?_eq_none (by omega)]
    simp
theorem m6_ok {l : List Int} (hb : ∀ x ∈ l, 0 ≤ x ∧ x ≤ 255) (k : Nat) : (m6 l k).ok := by
  intro x hx
  simp only [M6.l, m6, List.mem_cons, List.not_mem_nil, or_false] at hx
  rcases hx with rfl | rfl | rfl | rfl | rfl | rfl <;> exact gt_ok hb _
theorem rawF_ok {l : List Int} (hb : ∀ x ∈ l, 0 ≤ x ∧ x ≤ 255) : (rawF l).ok := ⟨m6_ok hb 0, m6_ok hb 6⟩

attribute [local go_sem ↓] slS_eq
set_option maxHeartbeats 400000 in
theorem cutk_base (a : Option Addr) (n c k : Nat) (l : List Int) (w W : World) (h : Src w (.slice a n c) l) (hk : k ≤ l.length) (hk0 : 0 < k) :
    Calls Try.prog 28 #[.slice a n c, .int .i64 (k : Nat)] W fun r w' => ∃ a1 n1 c1 a2 n2 c2, r = .returned (.tuple #[.slice a1 n1 c1, .slice a2 n2 c2]) ∧ Src w (.slice a1 n1 c1) (l.take k) ∧ Src w (.slice a2 n2 c2) (l.drop k) ∧ Below W.heap.size W w' := by
  obtain ⟨b, o, rfl, _, hj⟩ := src_some h (by omega)
  obtain ⟨hn, hc, hm⟩ := src_short h
  have hs1 : ∀ W, (slS (.slice (some ⟨b, o, none⟩) n c) none (some (.int .i64 (k : Nat))) (some (.int .i64 (k : Nat)))).run Try.prog W = .ok (.slice (some ⟨b, o, none⟩) k k) W := fun W => slS_front b o n c k (by omega) hc hm W
  have hs2 : ∀ W, (slS (.slice (some ⟨b, o, none⟩) n c) (some (.int .i64 (k : Nat))) none none).run Try.prog W = .ok (dropV b o n c k) W := fun W => slS_drop b o n c k (by omega) hc hm W
  have H1 : Hid (Src w (.slice (some ⟨b, o, none⟩) k k) (l.take k)) := (h.take k (by omega) (by simp)).cap (by simp) (Nat.le_refl _) (by omega)
  have H2 : Hid (Src w (dropV b o n c k) (l.drop k)) := src_dropV h k (by omega)
  clear h hj hn hc hm hk hk0
  go_enter Try.func28, Try.ntmps28
  go_wp2
  go_quiet (fail)
  go_wp2
  go_ret2
  exact ⟨_, _, _, _, _, _, rfl, H1.out, H2.out, below_dn (Below.refl _ _) _⟩

/-- The variable of the answer, and the one that is filled. -/
structure Dec (w W : World) (b : Nat) (f : Fr) (x : Value) : Prop where
  z : FrAt W w.heap.size zeroF (.slice none 0 0)
  fr : FrAt W b f x
  below : Below w.heap.size w W
  lt : w.heap.size < b
theorem Dec.later {w W W' : World} {b : Nat} {f : Fr} {x : Value} (h : Dec w W b f x) (hb : Below W.heap.size W W') : Dec w W' b f x := ⟨h.z.below hb, h.fr.below hb, below_over h.below hb, h.lt⟩
theorem Dec.row {w W : World} {b : Nat} {f : Fr} {x : Value} (h : Dec w W b f x) (g : Fr) (y : Value) : Dec w (W.setRow b (fcs g y)) b g y :=
  ⟨h.z.other (by have := h.lt; omega) _, h.fr.set, below_setRow h.below (by have := h.lt; omega) _, h.lt⟩
theorem Dec.cell {w W : World} {b : Nat} {f g : Fr} {x y v : Value} {k : Nat} (h : Dec w W b f x) (hf : FrAt (W.setCell ⟨b, k, none⟩ v) b g y) : Dec w (W.setCell ⟨b, k, none⟩ v) b g y :=
  ⟨h.z.apart (by have := h.lt; simp; omega) _, hf, h.below.setCell (by have := h.lt; simp; omega) _, h.lt⟩
theorem Dec.zero {w W : World} {b : Nat} {f : Fr} {x : Value} (h : Dec w W b f x) : (stS 28 (.pointer (some ⟨w.heap.size, 0, none⟩)) (.agg #[.int .u8 0, .int .u8 0, .int .u8 0, .int .u8 0, .int .u8 0, .int .u8 0, .int .u8 0, .int .u8 0, .int .u8 0, .int .u8 0, .int .u8 0, .int .u8 0, .bool false, .int .i64 0, .bool false, .int .i64 0, .slice none 0 0])).run Try.prog W = .ok () (W.setRow w.heap.size (fcs zeroF (.slice none 0 0))) := h.z.stv (g := zeroF) (y := .slice none 0 0) rfl _ rfl
theorem Dec.zeroAt {w W : World} {b : Nat} {f : Fr} {x : Value} (h : Dec w W b f x) : FrAt (W.setRow w.heap.size (fcs zeroF (.slice none 0 0))) w.heap.size zeroF (.slice none 0 0) ∧ Below w.heap.size w (W.setRow w.heap.size (fcs zeroF (.slice none 0 0))) := ⟨h.z.set, below_setRow h.below (Nat.le_refl _) _⟩
theorem Dec.whole {w W : World} {b : Nat} {f : Fr} {x : Value} (h : Dec w W b f x) (hx : x.oneCell' = true) : (stS 28 (.pointer (some ⟨w.heap.size, 0, none⟩)) (.agg (fcs f x))).run Try.prog W = .ok () (W.setRow w.heap.size (fcs f x)) ∧ FrAt (W.setRow w.heap.size (fcs f x)) w.heap.size f x ∧ Below w.heap.size w (W.setRow w.heap.size (fcs f x)) := ⟨h.z.st hx, h.z.set, below_setRow h.below (Nat.le_refl _) _⟩
theorem Dec.start {w W : World} (hz : FrAt W w.heap.size zeroF (.slice none 0 0)) (hb : Below w.heap.size w W) : Dec w (W.alloc (.cells #[.int .u8 0, .int .u8 0, .int .u8 0, .int .u8 0, .int .u8 0, .int .u8 0, .int .u8 0, .int .u8 0, .int .u8 0, .int .u8 0, .int .u8 0, .int .u8 0, .bool false, .int .i64 0, .bool false, .int .i64 0, .slice none 0 0] 28)) W.heap.size zeroF (.slice none 0 0) :=
  ⟨hz.below ((Below.refl _ _).alloc (Nat.le_refl _) _), zero_new W, hb.alloc hb.size _, hz.lt⟩

/-- Six bytes are copied into a frame's variable. -/
theorem copy_at {W : World} {t off : Nat} {f g : Fr} {x v : Value} {s : List Int} (h : FrAt W t f x) (hs : Src W v s) (h6 : s.length = 6)
    (hg : ((fcs f x).toList.take off ++ s.map (Value.int .u8) ++ (fcs f x).toList.drop (off + 6)).toArray = fcs g x) (ho : off + 6 ≤ 17) (ty : TypeId) :
    (Builtin.copy_ #[26, 26] ty #[.slice (some ⟨t, off, none⟩) 6 6, v]).run Try.prog W = .ok (goInt 6) (W.setRow t (fcs g x)) := by
  obtain ⟨a, c, rfl, _, _, h4, h5⟩ := hs
  match a, h4, h5 with
  | none, h4, _ => have := (h4 rfl).1; subst this; simp at h6
  | some ad, _, h5 =>
    have := run_copy_row (P := Try.prog) W 26 26 ty 5 t off 6 6 ad s.length c (fcs f x) 28 (s.map (Value.int .u8)) Try.underlying26 (by kernel_rfl) h (by simp [h6]) (fun j y hy => by
      have hj : j < s.length := by
        rcases Nat.lt_or_ge j s.length with h | h
        · exact h
        · rw [List.getElem?_eq_none (by simpa using h)] at hy; cases hy
      rw [h5 ad rfl j hj]
      simp [hj] at hy ⊢
      exact hy) (by simp [fcs_size, h6]; omega) (by intro y hy; simp at hy; obtain ⟨z, _, rfl⟩ := hy; rfl)
    rw [this]
    simp only [List.length_map, h6, goInt] at *
    rw [hg]
    rfl
theorem list6 {l : List Int} {k : Nat} (h : k + 6 ≤ l.length) : (l.drop k).take 6 = (m6 l k).l := by
  apply List.ext_getElem?
  intro j
  by_cases hj : j < 6
  · have e : (m6 l k).l[j]? = some (gt l (k + j)) := by
      have hj' : j = 0 ∨ j = 1 ∨ j = 2 ∨ j = 3 ∨ j = 4 ∨ j = 5 := by omega
      rcases hj' with rfl | rfl | rfl | rfl | rfl | rfl <;> rfl
    rw [e, List.getElem?_take_of_lt hj, List.getElem?_drop]
    unfold gt
    rw [List.getD_eq_getElem?_getD, List.getElem?_eq_getElem (by omega)]
    rfl
  · rw [List.getElem?_eq_none (by simp; omega), List.getElem?_eq_none (by simp [M6.l]; omega)]
theorem copy_d {W : World} {t : Nat} {f : Fr} {x v : Value} {m : M6} (h : FrAt W t f x) (hs : Src W v m.l) (ty : TypeId) :
    (Builtin.copy_ #[26, 26] ty #[.slice (some ⟨t, 0, none⟩) 6 6, v]).run Try.prog W = .ok (goInt 6) (W.setRow t (fcs ⟨m, f.s, f.t, f.p, f.e, f.v⟩ x)) := copy_at h hs rfl rfl (by omega) ty
theorem copy_s {W : World} {t : Nat} {f : Fr} {x v : Value} {m : M6} (h : FrAt W t f x) (hs : Src W v m.l) (ty : TypeId) :
    (Builtin.copy_ #[26, 26] ty #[.slice (some ⟨t, 6, none⟩) 6 6, v]).run Try.prog W = .ok (goInt 6) (W.setRow t (fcs ⟨f.d, m, f.t, f.p, f.e, f.v⟩ x)) := copy_at h hs rfl rfl (by omega) ty
theorem tk_take {l : List Int} (h : 2 ≤ l.length) : tkP (l.take 2) = tkP l ∧ tkD (l.take 2) = tkD l ∧ tkV (l.take 2) = tkV l := by
  have hn : tkN (l.take 2) = tkN l := by
    match l, h with
    | x :: y :: r, _ => rfl
  have he : tkE (l.take 2) = tkE l := by
    have h1 : ¬ (l.take 2).length < 2 := by simp; omega
    have h2 : ¬ l.length < 2 := by omega
    unfold tkE
    rw [hn, if_neg h1, if_neg h2]
  unfold tkP tkD tkV
  rw [hn, he]
  exact ⟨rfl, rfl, rfl⟩
end Go.Proofs.Ytnkchahjdacboaa
