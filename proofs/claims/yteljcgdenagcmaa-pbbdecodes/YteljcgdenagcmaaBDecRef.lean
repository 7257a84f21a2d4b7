/-
  The walk of decoding by definition: for every bytes.
-/
import Derived.Test.YteljcgdenagcmaaBBack
import Derived.Test.YteljcgdenagcmaaBEncRef
import Derived.Test.YteljcgdenagcmaaTakeIRef
namespace Go.Proofs.Yteljcgdenagcmaa
set_option linter.unusedVariables false
set_option maxRecDepth 4000
set_option linter.unusedSimpArgs false
open Go.RowKit

/-- An address of which j bytes have been read. -/
def pm (l : List Int) (k j : Nat) : M6 := ⟨if 0 < j then gt l k else 0, if 1 < j then gt l (k + 1) else 0, if 2 < j then gt l (k + 2) else 0, if 3 < j then gt l (k + 3) else 0, if 4 < j then gt l (k + 4) else 0, if 5 < j then gt l (k + 5) else 0⟩
def pb (l : List Int) (j : Nat) : Bf := ⟨pm l 0 j, pm l 6 j, 0, false, 0, 0, false, false, 0, ⟨0, 0, 0, 0, 0, 0⟩, ⟨0, 0, 0, 0, 0, 0⟩⟩
theorem pb_zero (l : List Int) : pb l 0 = zeroB := rfl
theorem pb_six (l : List Int) : pb l 6 = rb2 l := rfl
theorem pb_step {W : World} {b : Nat} {l : List Int} {j : Nat} {x : Value} (hj : j < 6) (h : BfAt W b (pb l j) x) : BfAt ((W.setCell ⟨b, j, none⟩ (.int .u8 (gt l j))).setCell ⟨b, 6 + j, none⟩ (.int .u8 (gt l (6 + j)))) b (pb l (j + 1)) x := by
  unfold BfAt at *
  rw [heap_setCell_same _ b (6 + j) _ 30 _ (heap_setCell_same _ b j _ 30 _ h)]
  have hj' : j = 0 ∨ j = 1 ∨ j = 2 ∨ j = 3 ∨ j = 4 ∨ j = 5 := by omega
  rcases hj' with rfl | rfl | rfl | rfl | rfl | rfl <;> rfl
theorem pb_cell {W : World} {b : Nat} {l : List Int} {i : Nat} {x : Value} (h : BfAt W b (pb l i) x) (j : Nat) (hj : j < 6) : ∃ u v, W.cell? ⟨b, j, none⟩ = some (.int .u8 u) ∧ W.cell? ⟨b, 6 + j, none⟩ = some (.int .u8 v) := by
  have hj' : j = 0 ∨ j = 1 ∨ j = 2 ∨ j = 3 ∨ j = 4 ∨ j = 5 := by omega
  rcases hj' with rfl | rfl | rfl | rfl | rfl | rfl <;> exact ⟨_, _, h.c _ _ rfl, h.c _ _ rfl⟩

/-- The variables of decoding by definition: the answer's and the frame's. -/
structure Rst (w W : World) (f : Bf) (x : Value) : Prop where
  z : BfAt W w.heap.size zeroB (.slice none 0 0)
  fr : BfAt W (w.heap.size + 1) f x
  below : Below w.heap.size w W
theorem Rst.later {w W W' : World} {f : Bf} {x : Value} (h : Rst w W f x) (hb : Below W.heap.size W W') : Rst w W' f x := ⟨h.z.below hb, h.fr.below hb, below_over h.below hb⟩
theorem Rst.upd {w W W' : World} {f f' : Bf} {x x' : Value} (h : Rst w W f x) (hf : BfAt W' (w.heap.size + 1) f' x') (ho : ∀ k, k ≠ w.heap.size + 1 → W'.heap[k]? = W.heap[k]?) (hb : Below w.heap.size w W') : Rst w W' f' x' := ⟨(ho _ (by omega)).trans h.z, hf, hb⟩
theorem Rst.zat {w W : World} {f : Bf} {x : Value} (h : Rst w W f x) (h' : Bf) (y : Value) : BfAt (W.setRow w.heap.size (bcs h' y)) w.heap.size h' y ∧ Below w.heap.size w (W.setRow w.heap.size (bcs h' y)) := ⟨h.z.set, below_setRow h.below (Nat.le_refl _) _⟩

attribute [local go_sem ↓] slS_eq ldS23 ldS25 ldI27 ldS30 stS30 stS23 stS25 stI27 stS70

set_option maxHeartbeats 1000000 in
theorem bdref_short (a : Option Addr) (n c : Nat) (l : List Int) (w : World) (h : Src w (.slice a n c) l) (hs : l.length < 36) :
    Calls Try.prog 20 #[.slice a n c] w fun r w' => BdOut l w r w' := by
  obtain ⟨hn, hc, hm⟩ := src_short h
  have hn3 : (n : Int) < 36 := by omega
  have HE : Hid (bdE l = 6) := by unfold bdE; rw [if_pos hs]; rfl
  have z := zeroB_new w
  have zs := z.zst
  have HZ : Hid _ := And.intro (z.set (g := zeroB) (y := .slice none 0 0)) (below_setRow ((Below.refl w.heap.size w).alloc (Nat.le_refl _) (.cells #[.int .u8 0, .int .u8 0, .int .u8 0, .int .u8 0, .int .u8 0, .int .u8 0, .int .u8 0, .int .u8 0, .int .u8 0, .int .u8 0, .int .u8 0, .int .u8 0, .int .i64 0, .bool false, .int .i64 0, .int .i64 0, .bool false, .bool false, .int .i64 0, .int .u8 0, .int .u8 0, .int .u8 0, .int .u8 0, .int .u8 0, .int .u8 0, .int .u8 0, .int .u8 0, .int .u8 0, .int .u8 0, .int .u8 0, .int .u8 0, .slice none 0 0] 30)) (Nat.le_refl w.heap.size) (bcs zeroB (.slice none 0 0)))
  clear h hs hn z
  go_enter Try.func20, Try.ntmps20
  go_wp2
  refine bodyPost_ret (results_btwo Try.results20 _ _ _ _ _ _ rfl rfl HZ.out.1) rfl ?_
  exact bd_err 6 HE.out (by omega) HZ.out.2

set_option maxHeartbeats 1000000 in
theorem bdref_long (a : Option Addr) (n c : Nat) (l : List Int) (w : World) (h : Src w (.slice a n c) l) (hs : 1536 < l.length) :
    Calls Try.prog 20 #[.slice a n c] w fun r w' => BdOut l w r w' := by
  obtain ⟨hn, hc, hm⟩ := src_short h
  have hn3 : ¬ (n : Int) < 36 := by omega
  have hn4 : 1536 < (n : Int) := by omega
  have HE : Hid (bdE l = 2) := by unfold bdE; rw [if_neg (by omega), if_pos hs]; rfl
  have z := zeroB_new w
  have zs := z.zst
  have HZ : Hid _ := And.intro (z.set (g := zeroB) (y := .slice none 0 0)) (below_setRow ((Below.refl w.heap.size w).alloc (Nat.le_refl _) (.cells #[.int .u8 0, .int .u8 0, .int .u8 0, .int .u8 0, .int .u8 0, .int .u8 0, .int .u8 0, .int .u8 0, .int .u8 0, .int .u8 0, .int .u8 0, .int .u8 0, .int .i64 0, .bool false, .int .i64 0, .int .i64 0, .bool false, .bool false, .int .i64 0, .int .u8 0, .int .u8 0, .int .u8 0, .int .u8 0, .int .u8 0, .int .u8 0, .int .u8 0, .int .u8 0, .int .u8 0, .int .u8 0, .int .u8 0, .int .u8 0, .slice none 0 0] 30)) (Nat.le_refl w.heap.size) (bcs zeroB (.slice none 0 0)))
  clear h hs hn z
  go_enter Try.func20, Try.ntmps20
  go_wp2
  refine bodyPost_ret (results_btwo Try.results20 _ _ _ _ _ _ rfl rfl HZ.out.1) rfl ?_
  exact bd_err 2 HE.out (by omega) HZ.out.2

/-- What holds of the frame's variable when all is read, and of the answer. -/
theorem bdE_mid {l : List Int} (h36 : 36 ≤ l.length) (h15 : l.length ≤ 1536) (hb : ∀ x ∈ l, 0 ≤ x ∧ x ≤ 255) :
    bdE l = if (tkE (l.drop 14) != 0) || ((tiE (l.drop 18) != 0) || ((chkB (rawB l) (l.drop 34) != 0) || !beqL (bencL (rawB l) (l.drop 34)) l)) then 40 else 0 := by
  unfold bdE
  rw [if_neg (by omega), if_neg (by omega)]
  by_cases he : tkE (l.drop 14) = 0
  · by_cases hi : tiE (l.drop 18) = 0
    · by_cases hc : chkB (rawB l) (l.drop 34) = 0
      · have hs := raw_same h36 hb he hi
        have h34 : ∀ x ∈ l.drop 34, 0 ≤ x ∧ x ≤ 255 := fun x hx => hb x (List.mem_of_mem_drop hx)
        have hq := beqL_iff (benc_bytes (rawB_ok hb) h34 hc) hb
        rw [he, hi, hc]
        cases hw : wrongB l
        · rw [hq.2 (hs.2 hw)]
          rfl
        · have : beqL (bencL (rawB l) (l.drop 34)) l = false := by
            cases hbq : beqL (bencL (rawB l) (l.drop 34)) l
            · rfl
            · have := hs.1 (hq.1 hbq); rw [hw] at this; cases this
          rw [this]
          rfl
      · have : (chkB (rawB l) (l.drop 34) != 0) = true := by simpa using hc
        rw [this]
        simp
    · have : (tiE (l.drop 18) != 0) = true := by simpa using hi
      unfold wrongB
      rw [this]
      simp
  · have : (tkE (l.drop 14) != 0) = true := by simpa using he
    unfold wrongB
    rw [this]
    simp

set_option maxHeartbeats 4000000 in
theorem bdref_mid (b o n c : Nat) (l : List Int) (w : World) (h : Src w (.slice (some ⟨b, o, none⟩) n c) l) (h36 : 36 ≤ l.length) (h15 : l.length ≤ 1536) (hb : ∀ x ∈ l, 0 ≤ x ∧ x ≤ 255) :
    Calls Try.prog 20 #[(.slice (some ⟨b, o, none⟩) n c)] w fun r w' => BdOut l w r w' := by
  obtain ⟨hn, hc, hm⟩ := src_short h
  have hn3 : ¬ (n : Int) < 36 := by omega
  have hn4 : ¬ 1536 < (n : Int) := by omega
  have z0 := zeroB_new w
  have z1 : BfAt ((w.alloc (.cells #[.int .u8 0, .int .u8 0, .int .u8 0, .int .u8 0, .int .u8 0, .int .u8 0, .int .u8 0, .int .u8 0, .int .u8 0, .int .u8 0, .int .u8 0, .int .u8 0, .int .i64 0, .bool false, .int .i64 0, .int .i64 0, .bool false, .bool false, .int .i64 0, .int .u8 0, .int .u8 0, .int .u8 0, .int .u8 0, .int .u8 0, .int .u8 0, .int .u8 0, .int .u8 0, .int .u8 0, .int .u8 0, .int .u8 0, .int .u8 0, .slice none 0 0] 30)).alloc (.cells #[.int .u8 0, .int .u8 0, .int .u8 0, .int .u8 0, .int .u8 0, .int .u8 0, .int .u8 0, .int .u8 0, .int .u8 0, .int .u8 0, .int .u8 0, .int .u8 0, .int .i64 0, .bool false, .int .i64 0, .int .i64 0, .bool false, .bool false, .int .i64 0, .int .u8 0, .int .u8 0, .int .u8 0, .int .u8 0, .int .u8 0, .int .u8 0, .int .u8 0, .int .u8 0, .int .u8 0, .int .u8 0, .int .u8 0, .int .u8 0, .slice none 0 0] 30)) w.heap.size zeroB (.slice none 0 0) := z0.below ((Below.refl _ _).alloc (Nat.le_refl _) _)
  have f1 : BfAt ((w.alloc (.cells #[.int .u8 0, .int .u8 0, .int .u8 0, .int .u8 0, .int .u8 0, .int .u8 0, .int .u8 0, .int .u8 0, .int .u8 0, .int .u8 0, .int .u8 0, .int .u8 0, .int .i64 0, .bool false, .int .i64 0, .int .i64 0, .bool false, .bool false, .int .i64 0, .int .u8 0, .int .u8 0, .int .u8 0, .int .u8 0, .int .u8 0, .int .u8 0, .int .u8 0, .int .u8 0, .int .u8 0, .int .u8 0, .int .u8 0, .int .u8 0, .slice none 0 0] 30)).alloc (.cells #[.int .u8 0, .int .u8 0, .int .u8 0, .int .u8 0, .int .u8 0, .int .u8 0, .int .u8 0, .int .u8 0, .int .u8 0, .int .u8 0, .int .u8 0, .int .u8 0, .int .i64 0, .bool false, .int .i64 0, .int .i64 0, .bool false, .bool false, .int .i64 0, .int .u8 0, .int .u8 0, .int .u8 0, .int .u8 0, .int .u8 0, .int .u8 0, .int .u8 0, .int .u8 0, .int .u8 0, .int .u8 0, .int .u8 0, .int .u8 0, .slice none 0 0] 30)) (w.heap.size + 1) zeroB (.slice none 0 0) := by have := zeroB_new (w.alloc (.cells #[.int .u8 0, .int .u8 0, .int .u8 0, .int .u8 0, .int .u8 0, .int .u8 0, .int .u8 0, .int .u8 0, .int .u8 0, .int .u8 0, .int .u8 0, .int .u8 0, .int .i64 0, .bool false, .int .i64 0, .int .i64 0, .bool false, .bool false, .int .i64 0, .int .u8 0, .int .u8 0, .int .u8 0, .int .u8 0, .int .u8 0, .int .u8 0, .int .u8 0, .int .u8 0, .int .u8 0, .int .u8 0, .int .u8 0, .int .u8 0, .slice none 0 0] 30)); simpa using this
  have b1 : Below w.heap.size w ((w.alloc (.cells #[.int .u8 0, .int .u8 0, .int .u8 0, .int .u8 0, .int .u8 0, .int .u8 0, .int .u8 0, .int .u8 0, .int .u8 0, .int .u8 0, .int .u8 0, .int .u8 0, .int .i64 0, .bool false, .int .i64 0, .int .i64 0, .bool false, .bool false, .int .i64 0, .int .u8 0, .int .u8 0, .int .u8 0, .int .u8 0, .int .u8 0, .int .u8 0, .int .u8 0, .int .u8 0, .int .u8 0, .int .u8 0, .int .u8 0, .int .u8 0, .slice none 0 0] 30)).alloc (.cells #[.int .u8 0, .int .u8 0, .int .u8 0, .int .u8 0, .int .u8 0, .int .u8 0, .int .u8 0, .int .u8 0, .int .u8 0, .int .u8 0, .int .u8 0, .int .u8 0, .int .i64 0, .bool false, .int .i64 0, .int .i64 0, .bool false, .bool false, .int .i64 0, .int .u8 0, .int .u8 0, .int .u8 0, .int .u8 0, .int .u8 0, .int .u8 0, .int .u8 0, .int .u8 0, .int .u8 0, .int .u8 0, .int .u8 0, .int .u8 0, .slice none 0 0] 30)) := ((Below.refl _ _).alloc (Nat.le_refl _) _).alloc (by simp) _
  have st1 := f1.zst
  obtain ⟨V, hV⟩ : ∃ V, ((w.alloc (.cells #[.int .u8 0, .int .u8 0, .int .u8 0, .int .u8 0, .int .u8 0, .int .u8 0, .int .u8 0, .int .u8 0, .int .u8 0, .int .u8 0, .int .u8 0, .int .u8 0, .int .i64 0, .bool false, .int .i64 0, .int .i64 0, .bool false, .bool false, .int .i64 0, .int .u8 0, .int .u8 0, .int .u8 0, .int .u8 0, .int .u8 0, .int .u8 0, .int .u8 0, .int .u8 0, .int .u8 0, .int .u8 0, .int .u8 0, .int .u8 0, .slice none 0 0] 30)).alloc (.cells #[.int .u8 0, .int .u8 0, .int .u8 0, .int .u8 0, .int .u8 0, .int .u8 0, .int .u8 0, .int .u8 0, .int .u8 0, .int .u8 0, .int .u8 0, .int .u8 0, .int .i64 0, .bool false, .int .i64 0, .int .i64 0, .bool false, .bool false, .int .i64 0, .int .u8 0, .int .u8 0, .int .u8 0, .int .u8 0, .int .u8 0, .int .u8 0, .int .u8 0, .int .u8 0, .int .u8 0, .int .u8 0, .int .u8 0, .int .u8 0, .slice none 0 0] 30)).setRow (w.heap.size + 1) (bcs zeroB (.slice none 0 0)) = V := ⟨_, rfl⟩
  have R0 : Hid (Rst w V (pb l 0) (.slice none 0 0)) := by
    rw [← hV]
    exact (Rst.mk z1 f1 b1).upd f1.set (fun k hk => setRow_other _ _ _ _ hk) (below_setRow b1 (by omega) _)
  rw [hV] at st1
  obtain ⟨b', o', eb, hbw, hq'⟩ := src_some h (by omega)
  have HBW : Hid (b < w.heap.size) := by cases eb; exact hbw
  have H : Hid (Src w (.slice (some ⟨b, o, none⟩) n c) l ∧ 36 ≤ l.length ∧ l.length ≤ 1536 ∧ n = l.length) := ⟨h, h36, h15, hn⟩
  have HD : Hid (∀ k, ∀ x ∈ l.drop k, 0 ≤ x ∧ x ≤ 255) := fun k x hx => hb x (List.mem_of_mem_drop hx)
  have HB : Hid (∀ x ∈ l, 0 ≤ x ∧ x ≤ 255) := hb
  have HC : Hid (n ≤ c ∧ c ≤ maxLen) := ⟨hc, hm⟩
  have dv : ∀ k, k < 36 → ∀ W, (slS (.slice (some ⟨b, o, none⟩) n c) (some (.int .i64 (k : Nat))) none none).run Try.prog W = .ok (.slice (some ⟨b, o + k, none⟩) (n - k) (c - k)) W := fun k hk W => by
    have e : dropV b o n c k = .slice (some ⟨b, o + k, none⟩) (n - k) (c - k) := by unfold dropV; rw [if_neg (by omega)]
    rw [← e]
    exact slS_drop b o n c k (by omega) hc hm W
  have s14 : ∀ W, (slS (.slice (some ⟨b, o, none⟩) n c) (some (.int .i64 14)) none none).run Try.prog W = .ok (.slice (some ⟨b, o + 14, none⟩) (n - 14) (c - 14)) W := dv 14 (by omega)
  have s18 : ∀ W, (slS (.slice (some ⟨b, o, none⟩) n c) (some (.int .i64 18)) none none).run Try.prog W = .ok (.slice (some ⟨b, o + 18, none⟩) (n - 18) (c - 18)) W := dv 18 (by omega)
  have s34 : ∀ W, (slS (.slice (some ⟨b, o, none⟩) n c) (some (.int .i64 34)) none none).run Try.prog W = .ok (.slice (some ⟨b, o + 34, none⟩) (n - 34) (c - 34)) W := dv 34 (by omega)
  have SD : Hid (∀ k, k < 36 → Src w (.slice (some ⟨b, o + k, none⟩) (n - k) (c - k)) (l.drop k)) := fun k hk => by
    have e : dropV b o n c k = .slice (some ⟨b, o + k, none⟩) (n - k) (c - k) := by unfold dropV; rw [if_neg (by omega)]
    rw [← e]
    exact src_dropV h k (by omega)
  clear h hn hc hm z0 z1 f1 b1 h36 h15 hb dv hbw eb hq' b' o'
  go_enter Try.func20, Try.ntmps20
  go_wp2
  clear hV st1
  go_loopw [5] (fun v5 wr => ∃ j : Nat, j ≤ 6 ∧ v5 = .int .i64 j ∧ Rst w wr (pb l j) (.slice none 0 0)) (fun v5 _ => 6 - (intOf v5).toNat)
  case atStart => exact ⟨0, by omega, rfl, R0.out⟩
  case round =>
    clear R0 V
    obtain ⟨j, hj, rfl, Rj⟩ := hrel
    by_cases hlt : j < 6
    · have hS := (H.out.1.below Rj.below)
      obtain ⟨b', o', eb, hb', hsr⟩ := src_some hS (by have := H.out.2.1; omega)
      cases eb
      have q0 := hsr j (by have := H.out.2.1; omega)
      have q1 := hsr (6 + j) (by have := H.out.2.1; omega)
      obtain ⟨u, v, p0, p1⟩ := pb_cell Rj.fr j hlt
      have lv := Rj.fr.live
      have hne : ¬ b = (w.heap.size + 1) := by have := HBW.out; omega
      have HR : Hid (Rst w _ (pb l j) (.slice none 0 0)) := Rj
      have i0 : (0 : Int) ≤ (j : Int) := by omega
      have i1 : (j : Int) < 6 := by omega
      have i2 : (j : Int) < (n : Int) := by have := H.out.2; omega
      have i3 : (6 : Int) + (j : Int) < (n : Int) := by have := H.out.2; omega
      have i4 : (0 : Int) ≤ (6 : Int) + (j : Int) := by omega
      have hcc : ∀ (W : World) (k x : Nat) (u : Value), (W.setCell ⟨(w.heap.size + 1), k, none⟩ u).cell? ⟨b, x, none⟩ = W.cell? ⟨b, x, none⟩ := fun W k x u => World.cell?_setCell_other _ _ _ _ (by simp [hne])
      have hdd : ∀ (W : World) (u : Value), (W.setCell ⟨(w.heap.size + 1), j, none⟩ u).cell? ⟨(w.heap.size + 1), 6 + j, none⟩ = W.cell? ⟨(w.heap.size + 1), 6 + j, none⟩ := fun W u => World.cell?_setCell_other _ _ _ _ (by simp)
      obtain ⟨X, hX⟩ : ∃ X, l.getD j 0 = X := ⟨_, rfl⟩
      obtain ⟨Y, hY⟩ : ∃ Y, l.getD (6 + j) 0 = Y := ⟨_, rfl⟩
      rw [hX] at q0
      rw [hY] at q1
      have HXY : Hid (gt l j = X ∧ gt l (6 + j) = Y) := ⟨hX, hY⟩
      clear hX hY
      have hw : IntKind.i64.wrap (6 + (j : Int)) = 6 + (j : Int) := IntWalk.i64_in _ (by omega)
      have ht : ((6 : Int) + (j : Int)).toNat = 6 + j := by omega
      have hu : (6 + j) < n := by have := H.out.2; omega
      have hu' : j < n := by omega
      clear hsr hS hb' Rj s14 s18 s34
      go_wp2
      clear hcc hdd hw ht
      have hR2 : Rst w ((wr.setCell ⟨(w.heap.size + 1), j, none⟩ (.int .u8 X)).setCell ⟨(w.heap.size + 1), 6 + j, none⟩ (.int .u8 Y)) (pb l (j + 1)) (.slice none 0 0) := by
        have hr := HR.out
        have h1 := pb_step hlt hr.fr
        rw [HXY.out.1, HXY.out.2] at h1
        exact hr.upd h1 (fun k hk => (heap_setCell_other _ _ _ _ (by simpa using hk)).trans (heap_setCell_other _ _ _ _ (by simpa using hk))) ((hr.below.setCell (by simp) _).setCell (by simp) _)
      have HR2 : Hid _ := hR2
      clear hR2 q0 q1 p0 p1 lv
      go_roundw
      case rel => exact ⟨j + 1, by omega, by go_num, HR2.out⟩
      case measure => simp [intOf]; omega
    · have : j = 6 := by omega
      subst this
      have R6 : Hid (Rst w _ (rb2 l) (.slice none 0 0)) := Rj
      clear Rj hlt hj
      rw [show ((6 : Nat) : Int) = 6 from rfl]
      go_wp2_with fail
      refine (takeref_any _ (n - 14) (c - 14) (l.drop 14) _ ((SD.out 14 (by omega)).below R6.out.below) (by have := H.out.2; simp; omega) (HD.out 14)).mono ?_
      rintro _ W1 ⟨s1, rfl, _, b1⟩
      obtain ⟨V1, st1, r1, c1, y1⟩ := row_new rt25 W1 #[.int .i64 0, .bool false, .int .i64 0] #[.int .i64 (tkP (l.drop 14)), .bool (tkD (l.drop 14)), .int .i64 (tkV (l.drop 14))] rfl rfl (by
        intro c hc
        simp only [List.mem_cons, List.not_mem_nil, or_false] at hc
        rcases hc with rfl | rfl | rfl <;> rfl)
      have R1 : Hid (Rst w V1 (rb2 l) (.slice none 0 0) ∧ RvAt V1 W1.heap.size 25 #[.int .i64 (tkP (l.drop 14)), .bool (tkD (l.drop 14)), .int .i64 (tkV (l.drop 14))] ∧ w.heap.size + 1 < W1.heap.size) := ⟨R6.out.later (below_over b1 c1), r1, by have := R6.out.fr.lt; have := b1.size; omega⟩
      clear b1 c1 r1 R6 y1
      go_wp2_with fail
      refine (takeiref_any _ (n - 18) (c - 18) (l.drop 18) _ ((SD.out 18 (by omega)).below R1.out.1.below) (by have := H.out.2; simp; omega) (HD.out 18)).mono ?_
      rintro _ W2 ⟨s2, rfl, _, b2⟩
      obtain ⟨V2, st2, r2, c2, y2⟩ := row_new rt27 W2 #[.int .i64 0, .bool false, .bool false, .int .i64 0, .int .u8 0, .int .u8 0, .int .u8 0, .int .u8 0, .int .u8 0, .int .u8 0, .int .u8 0, .int .u8 0, .int .u8 0, .int .u8 0, .int .u8 0, .int .u8 0] #[.int .i64 (tiP (l.drop 18)), .bool (tiD (l.drop 18)), .bool (tiU (l.drop 18)), .int .i64 (tiI (l.drop 18)), .int .u8 (tiX (l.drop 18) 4), .int .u8 (tiX (l.drop 18) 5), .int .u8 (tiX (l.drop 18) 6), .int .u8 (tiX (l.drop 18) 7), .int .u8 (tiX (l.drop 18) 8), .int .u8 (tiX (l.drop 18) 9), .int .u8 (tiX (l.drop 18) 10), .int .u8 (tiX (l.drop 18) 11), .int .u8 (tiX (l.drop 18) 12), .int .u8 (tiX (l.drop 18) 13), .int .u8 (tiX (l.drop 18) 14), .int .u8 (tiX (l.drop 18) 15)] rfl rfl (by
        intro c hc
        simp only [List.mem_cons, List.not_mem_nil, or_false] at hc
        rcases hc with rfl | rfl | rfl | rfl | rfl | rfl | rfl | rfl | rfl | rfl | rfl | rfl | rfl | rfl | rfl | rfl <;> rfl)
      have b2' := below_over b2 c2
      have R2 : Hid (Rst w V2 (rb2 l) (.slice none 0 0) ∧ RvAt V2 W1.heap.size 25 #[.int .i64 (tkP (l.drop 14)), .bool (tkD (l.drop 14)), .int .i64 (tkV (l.drop 14))] ∧ RvAt V2 W2.heap.size 27 #[.int .i64 (tiP (l.drop 18)), .bool (tiD (l.drop 18)), .bool (tiU (l.drop 18)), .int .i64 (tiI (l.drop 18)), .int .u8 (tiX (l.drop 18) 4), .int .u8 (tiX (l.drop 18) 5), .int .u8 (tiX (l.drop 18) 6), .int .u8 (tiX (l.drop 18) 7), .int .u8 (tiX (l.drop 18) 8), .int .u8 (tiX (l.drop 18) 9), .int .u8 (tiX (l.drop 18) 10), .int .u8 (tiX (l.drop 18) 11), .int .u8 (tiX (l.drop 18) 12), .int .u8 (tiX (l.drop 18) 13), .int .u8 (tiX (l.drop 18) 14), .int .u8 (tiX (l.drop 18) 15)] ∧ w.heap.size + 1 < W2.heap.size) := ⟨R1.out.1.later b2', R1.out.2.1.below b2', r2, by have := R1.out.1.fr.lt; have := b2.size; omega⟩
      have ld2 := R2.out.2.1.ld rt25 rfl
      obtain ⟨V3, st3, hf3, ho3, y3, hb3⟩ := R2.out.1.fr.stb (tkP (l.drop 14)) (tkD (l.drop 14)) (tkV (l.drop 14))
      have R3 : Hid (Rst w V3 (rb3 l) (.slice none 0 0) ∧ RvAt V3 W2.heap.size 27 #[.int .i64 (tiP (l.drop 18)), .bool (tiD (l.drop 18)), .bool (tiU (l.drop 18)), .int .i64 (tiI (l.drop 18)), .int .u8 (tiX (l.drop 18) 4), .int .u8 (tiX (l.drop 18) 5), .int .u8 (tiX (l.drop 18) 6), .int .u8 (tiX (l.drop 18) 7), .int .u8 (tiX (l.drop 18) 8), .int .u8 (tiX (l.drop 18) 9), .int .u8 (tiX (l.drop 18) 10), .int .u8 (tiX (l.drop 18) 11), .int .u8 (tiX (l.drop 18) 12), .int .u8 (tiX (l.drop 18) 13), .int .u8 (tiX (l.drop 18) 14), .int .u8 (tiX (l.drop 18) 15)]) := ⟨R2.out.1.upd hf3 ho3 (hb3 w (by omega) R2.out.1.below), (ho3 _ (by have := R2.out.2.2.2; omega)).trans R2.out.2.2.1⟩
      have ld3 := R3.out.2.ld rt27 rfl
      obtain ⟨V4, st4, hf4, ho4, y4, hb4⟩ := R3.out.1.fr.sti (rawB l)
      have st4 : (stS 27 (.pointer (some ⟨(w.heap.size + 1), 15, none⟩)) (.agg #[.int .i64 (tiP (l.drop 18)), .bool (tiD (l.drop 18)), .bool (tiU (l.drop 18)), .int .i64 (tiI (l.drop 18)), .int .u8 (tiX (l.drop 18) 4), .int .u8 (tiX (l.drop 18) 5), .int .u8 (tiX (l.drop 18) 6), .int .u8 (tiX (l.drop 18) 7), .int .u8 (tiX (l.drop 18) 8), .int .u8 (tiX (l.drop 18) 9), .int .u8 (tiX (l.drop 18) 10), .int .u8 (tiX (l.drop 18) 11), .int .u8 (tiX (l.drop 18) 12), .int .u8 (tiX (l.drop 18) 13), .int .u8 (tiX (l.drop 18) 14), .int .u8 (tiX (l.drop 18) 15)])).run Try.prog V3 = .ok () V4 := st4
      have R4 : Hid (Rst w V4 (rawB l) (.slice none 0 0)) := R3.out.1.upd hf4 ho4 (hb4 w (by omega) R3.out.1.below)
      have C4 : Hid (Below V4.heap.size V4 (V4.alloc (.cells #[] 5))) := (Below.refl _ _).alloc (Nat.le_refl _) _
      have O4 : Hid (Own (V4.alloc (.cells #[] 5)) V4.heap.size (.slice (some ⟨V4.heap.size, 0, none⟩) 0 0) []) := own_empty V4 _ (Nat.le_refl _)
      have S4 : Hid (Src (V4.alloc (.cells #[] 5)) (.slice (some ⟨b, o + 34, none⟩) (n - 34) (c - 34)) (l.drop 34)) := (SD.out 34 (by omega)).below (below_over R4.out.below C4.out)
      clear b2 c2 b2' r2 R1 hf3 ho3 hb3 hf4 ho4 hb4 y2 y3 y4
      go_wp2_with (at_builtin; refine wpList_app rfl _ _ rfl (by rfl) (by rfl) O4.out S4.out (by have := H.out.2; simp; omega) C4.out.size ?_)
      intro v5 w5 ho5 hg5 _
      obtain ⟨a5, n5, c5, rfl⟩ := src_form ho5.src
      have b5 : Below V4.heap.size V4 w5 := C4.out.trans (grown_below O4.out hg5 C4.out.size)
      have r5 := R4.out.later b5
      have k31 := r5.fr.c31
      have lv := r5.fr.live
      have hr6 := r5.fr.rest (.slice a5 n5 c5)
      have r6 := r5.upd hr6 (fun k hk => heap_setCell_other _ _ _ _ (by simpa using hk)) (r5.below.setCell (by simp) _)
      have o6 : Own (w5.setCell ⟨(w.heap.size + 1), 31, none⟩ (.slice a5 n5 c5)) (w.heap.size + 1) (.slice a5 n5 c5) (l.drop 34) := (Own.of_block ho5 fun k hk => heap_setCell_other _ _ _ _ (by have h1 := (ho5.block k hk).1; have h2 := R4.out.fr.lt; simp; omega)).base (by have h2 := R4.out.fr.lt; omega)
      obtain ⟨V6, hV6⟩ : ∃ V, w5.setCell ⟨(w.heap.size + 1), 31, none⟩ (.slice a5 n5 c5) = V := ⟨_, rfl⟩
      rw [hV6] at r6 o6
      have R6 : Hid (Rst w V6 (rawB l) (.slice a5 n5 c5) ∧ Own V6 (w.heap.size + 1) (.slice a5 n5 c5) (l.drop 34)) := ⟨r6, o6⟩
      have O6 : Hid (∀ k, (Value.slice a5 n5 c5).ownBlock = some k → (w.heap.size + 1) < k) := fun k hk => by have h1 := (ho5.block k hk).1; have h2 := R4.out.fr.lt; omega
      have HE : Hid _ := bdE_mid H.out.2.1 H.out.2.2.1 HB.out
      obtain ⟨e, he⟩ : ∃ e, tkE (l.drop 14) = e := ⟨_, rfl⟩
      obtain ⟨i, hi⟩ : ∃ i, tiE (l.drop 18) = i := ⟨_, rfl⟩
      rw [he, hi]
      rw [he, hi] at HE
      have HEI : Hid (tkE (l.drop 14) = e ∧ tiE (l.drop 18) = i) := ⟨he, hi⟩
      clear he hi ho5 hg5 b5 r5 hr6 r6 o6 O4 S4 C4 s14 s18
      cases ge : (e != 0)
      rotate_left
      · have zs := R6.out.1.z.zst
        have zs' := fun y : Later V6 => (R6.out.1.later y.below).z.zst
        have HZ : Hid _ := fun y : Later V6 => (R6.out.1.later y.below).zat zeroB (.slice none 0 0)
        go_wp2
        refine wp_region_later (by kernel_rfl) (by kernel_rfl) ?_
        repeat (go_big_quiet_step (exact rfl))
        refine wpQuiet_nil ?_
        intro _ hw'
        obtain ⟨y, rfl⟩ := hw'
        go_wp2
        refine bodyPost_ret (results_btwo Try.results20 _ _ _ _ _ _ rfl rfl (HZ.out y).1) rfl ?_
        exact bd_err 40 (by rw [HE.out, ge]; rfl) (by omega) (HZ.out y).2
      cases gi : (i != 0)
      rotate_left
      · have zs' := fun y : Later V6 => (R6.out.1.later y.below).z.zst
        have HZ : Hid _ := fun y : Later V6 => (R6.out.1.later y.below).zat zeroB (.slice none 0 0)
        go_wp2
        refine wp_region_later (by kernel_rfl) (by kernel_rfl) ?_
        repeat (go_big_quiet_step (exact rfl))
        refine wpQuiet_nil ?_
        intro _ hw'
        obtain ⟨y, rfl⟩ := hw'
        go_wp2
        refine bodyPost_ret (results_btwo Try.results20 _ _ _ _ _ _ rfl rfl (HZ.out y).1) rfl ?_
        exact bd_err 40 (by rw [HE.out, ge, gi]; rfl) (by omega) (HZ.out y).2
      have Q1 : Hid (∀ W, Below V6.heap.size V6 W → Calls Try.prog 13 #[.agg (bcs (rawB l) (.slice a5 n5 c5))] W fun r w' => r = .returned (.int .i64 (chkB (rawB l) (l.drop 34))) ∧ Below W.heap.size W w') := fun W hW => bcheckref_any (rawB l) (.slice a5 n5 c5) (l.drop 34) W (R6.out.2.src.below hW) (HD.out 34) (rawB_ok HB.out)
      cases gc : (chkB (rawB l) (l.drop 34) != 0)
      rotate_left
      · have zs' := fun y : Later V6 => (R6.out.1.later y.below).z.zst
        have HZ : Hid _ := fun y : Later V6 => (R6.out.1.later y.below).zat zeroB (.slice none 0 0)
        have yl := R6.out.1.fr.laters.ld
        go_wp2
        refine wp_region_later (by kernel_rfl) (by kernel_rfl) ?_
        repeat (go_big_quiet_step (first | exact rfl | (go_at_call 13; with_reducible exact Calls.later_of (Q1.out _ (Later.below _)))))
        refine wpQuiet_nil ?_
        intro _ hw'
        obtain ⟨y, rfl⟩ := hw'
        go_wp2
        refine bodyPost_ret (results_btwo Try.results20 _ _ _ _ _ _ rfl rfl (HZ.out y).1) rfl ?_
        exact bd_err 40 (by rw [HE.out, ge, gi, gc]; rfl) (by omega) (HZ.out y).2
      have hz : chkB (rawB l) (l.drop 34) = 0 := by simpa using gc
      rw [hz] at Q1
      obtain ⟨hc1, hc2, hc3, _⟩ := bchk_zero hz
      have Q2 : Hid (∀ W, Below V6.heap.size V6 W → Calls Try.prog 29 #[.agg (bcs (rawB l) (.slice a5 n5 c5))] W fun r w' => ∃ s, r = .returned s ∧ Own w' W.heap.size s (bencL (rawB l) (l.drop 34)) ∧ Below W.heap.size W w') := fun W hW => bbytes_any (rawB l) a5 n5 c5 (l.drop 34) W (R6.out.2.src.below hW) (by omega) hc2 hc3
      have SR : Hid (∀ W, Below V6.heap.size V6 W → (ldS 30 (.pointer (some ⟨(w.heap.size + 1), 0, none⟩))).run Try.prog W = .ok (.agg (bcs (rawB l) (.slice a5 n5 c5))) W ∧ (convert 28 9 (.slice (some ⟨b, o, none⟩) n c)).run Try.prog W = .ok (.string (bs l)) W) := fun W hW => ⟨(R6.out.1.fr.below hW).ld, ((H.out.1.below R6.out.1.below).below hW).string⟩
      have DR : Hid (Below V6.heap.size V6 V6.drew) := (Below.refl _ _).drew
      have HC0 : Hid (chkB (rawB l) (l.drop 34) = 0) := hz
      clear hc1 hc2 hc3 gc hz
      go_wp2
      refine wp_region_noPanic ?_
      refine wp_region_held_drew (S := fun w' => (ldS 30 (.pointer (some ⟨(w.heap.size + 1), 0, none⟩))).run Try.prog w' = .ok (.agg (bcs (rawB l) (.slice a5 n5 c5))) w' ∧ (convert 28 9 (.slice (some ⟨b, o, none⟩) n c)).run Try.prog w' = .ok (.string (bs l)) w') (by kernel_rfl) (SR.out _ DR.out) (fun hHeld => ?_)
      refine wpAnyH_take (i := 0) (oi := { dst := some 63, op := Op.move (Operand.tmp 8), type := 32, pos := "ref.go:65", after := #[], guard := none }) (v := ?_) rfl (by kernel_rfl) (by kernel_rfl) (by kernel_rfl) (fun _ _ _ h => h) (Or.inl ⟨by rfl, ?_⟩) hHeld ?_
      rotate_left
      · intro W hSw
        obtain ⟨l1, l2⟩ := hSw
        first | (go_simp; done) | (go_simp; with_reducible rfl)
      rotate_left
      try simp only [Act.put, List.setIfInBounds_toArray, List.set_cons_zero, List.set_cons_succ]
      refine wpAnyH_take (i := 1) (oi := { dst := some 64, op := Op.binOp BinOp.neq 32 (Operand.tmp 63) (Operand.const (Value.int IntKind.i64 0)) 32, type := 4, pos := "ref.go:65", after := #[{ on := 0, ground := Ground.data }], guard := none }) (v := ?_) rfl (by kernel_rfl) (by kernel_rfl) (by kernel_rfl) (fun _ _ _ h => h) (Or.inl ⟨by rfl, ?_⟩) hHeld ?_
      rotate_left
      · intro W hSw
        obtain ⟨l1, l2⟩ := hSw
        first | (go_simp; done) | (go_simp; with_reducible rfl)
      rotate_left
      try simp only [Act.put, List.setIfInBounds_toArray, List.set_cons_zero, List.set_cons_succ]
      refine wpAnyH_take (i := 2) (oi := { dst := some 65, op := Op.move (Operand.tmp 64), type := 4, pos := "ref.go:65", after := #[{ on := 1, ground := Ground.data }], guard := none }) (v := ?_) rfl (by kernel_rfl) (by kernel_rfl) (by kernel_rfl) (fun _ _ _ h => h) (Or.inl ⟨by rfl, ?_⟩) hHeld ?_
      rotate_left
      · intro W hSw
        obtain ⟨l1, l2⟩ := hSw
        first | (go_simp; done) | (go_simp; with_reducible rfl)
      rotate_left
      try simp only [Act.put, List.setIfInBounds_toArray, List.set_cons_zero, List.set_cons_succ]
      refine wpAnyH_take (i := 3) (oi := { dst := some 66, op := Op.move (Operand.tmp 11), type := 32, pos := "ref.go:65", after := #[{ on := 2, ground := Ground.guard }], guard := some (2, false) }) (v := ?_) rfl (by kernel_rfl) (by kernel_rfl) (by kernel_rfl) (fun _ _ _ h => h) (Or.inl ⟨by rfl, ?_⟩) hHeld ?_
      rotate_left
      · intro W hSw
        obtain ⟨l1, l2⟩ := hSw
        first | (go_simp; done) | (go_simp; with_reducible rfl)
      rotate_left
      try simp only [Act.put, List.setIfInBounds_toArray, List.set_cons_zero, List.set_cons_succ]
      refine wpAnyH_take (i := 4) (oi := { dst := some 67, op := Op.binOp BinOp.neq 32 (Operand.tmp 66) (Operand.const (Value.int IntKind.i64 0)) 32, type := 4, pos := "ref.go:65", after := #[{ on := 3, ground := Ground.data }, { on := 2, ground := Ground.guard }], guard := some (2, false) }) (v := ?_) rfl (by kernel_rfl) (by kernel_rfl) (by kernel_rfl) (fun _ _ _ h => h) (Or.inl ⟨by rfl, ?_⟩) hHeld ?_
      rotate_left
      · intro W hSw
        obtain ⟨l1, l2⟩ := hSw
        first | (go_simp; done) | (go_simp; with_reducible rfl)
      rotate_left
      try simp only [Act.put, List.setIfInBounds_toArray, List.set_cons_zero, List.set_cons_succ]
      refine wpAnyH_take (i := 5) (oi := { dst := some 68, op := Op.pick (Operand.tmp 65) (Operand.const (Value.bool true)) (Operand.tmp 67), type := 4, pos := "ref.go:65", after := #[{ on := 2, ground := Ground.data }, { on := 4, ground := Ground.data }], guard := none }) (v := ?_) rfl (by kernel_rfl) (by kernel_rfl) (by kernel_rfl) (fun _ _ _ h => h) (Or.inl ⟨by rfl, ?_⟩) hHeld ?_
      rotate_left
      · intro W hSw
        obtain ⟨l1, l2⟩ := hSw
        first | (go_simp; done) | (go_simp; with_reducible rfl)
      rotate_left
      try simp only [Act.put, List.setIfInBounds_toArray, List.set_cons_zero, List.set_cons_succ]
      refine wpAnyH_take (i := 6) (oi := { dst := some 69, op := Op.move (Operand.tmp 68), type := 4, pos := "ref.go:65", after := #[{ on := 5, ground := Ground.data }, { on := 2, ground := Ground.chain }], guard := none }) (v := ?_) rfl (by kernel_rfl) (by kernel_rfl) (by kernel_rfl) (fun _ _ _ h => h) (Or.inl ⟨by rfl, ?_⟩) hHeld ?_
      rotate_left
      · intro W hSw
        obtain ⟨l1, l2⟩ := hSw
        first | (go_simp; done) | (go_simp; with_reducible rfl)
      rotate_left
      try simp only [Act.put, List.setIfInBounds_toArray, List.set_cons_zero, List.set_cons_succ]
      refine wpAnyH_take (i := 7) (oi := { dst := some 70, op := Op.load 30 (Operand.tmp 4), type := 30, pos := "ref.go:65", after := #[{ on := 6, ground := Ground.guard }], guard := some (6, false) }) (v := ?_) rfl (by kernel_rfl) (by kernel_rfl) (by kernel_rfl) (fun _ _ _ h => h) (Or.inl ⟨by rfl, ?_⟩) hHeld ?_
      rotate_left
      · intro W hSw
        obtain ⟨l1, l2⟩ := hSw
        first | (go_simp; done) | (go_simp; with_reducible rfl)
      rotate_left
      try simp only [Act.put, List.setIfInBounds_toArray, List.set_cons_zero, List.set_cons_succ]
      refine wpAnyH_ready (rs := [8]) (by kernel_rfl) (by simp) ?_
      refine AllReadyH.cons (o := { dst := some 71, op := Op.call { callee := Callee.value (Operand.func 13), args := #[Operand.tmp 70], argTypes := #[30] }, type := 32, pos := "ref.go:65", after := #[{ on := 7, ground := Ground.data }, { on := 6, ground := Ground.chain }, { on := 6, ground := Ground.guard }], guard := some (6, false) }) rfl (fun K hK => ?_) AllReadyH.nil
      go_simp
      refine (Q1.out _ DR.out).mono ?_
      rintro _ W7 ⟨rfl, b7⟩
      have B7 : Hid (Below V6.heap.size V6 W7) := below_over DR.out b7
      clear b7
      clear hHeld
      refine hK.out _ _ (SR.out _ B7.out) (fun hHeld => ?_)
      clear hK K
      try simp only [Act.put, List.setIfInBounds_toArray, List.set_cons_zero, List.set_cons_succ]
      refine wpAnyH_take (i := 9) (oi := { dst := some 72, op := Op.binOp BinOp.neq 32 (Operand.tmp 71) (Operand.const (Value.int IntKind.i64 0)) 32, type := 4, pos := "ref.go:65", after := #[{ on := 8, ground := Ground.data }, { on := 6, ground := Ground.guard }], guard := some (6, false) }) (v := ?_) rfl (by kernel_rfl) (by kernel_rfl) (by kernel_rfl) (fun _ _ _ h => h) (Or.inl ⟨by rfl, ?_⟩) hHeld ?_
      rotate_left
      · intro W hSw
        obtain ⟨l1, l2⟩ := hSw
        first | (go_simp; done) | (go_simp; with_reducible rfl)
      rotate_left
      try simp only [Act.put, List.setIfInBounds_toArray, List.set_cons_zero, List.set_cons_succ]
      refine wpAnyH_take (i := 10) (oi := { dst := some 73, op := Op.pick (Operand.tmp 69) (Operand.const (Value.bool true)) (Operand.tmp 72), type := 4, pos := "ref.go:65", after := #[{ on := 6, ground := Ground.data }, { on := 9, ground := Ground.data }], guard := none }) (v := ?_) rfl (by kernel_rfl) (by kernel_rfl) (by kernel_rfl) (fun _ _ _ h => h) (Or.inl ⟨by rfl, ?_⟩) hHeld ?_
      rotate_left
      · intro W hSw
        obtain ⟨l1, l2⟩ := hSw
        first | (go_simp; done) | (go_simp; with_reducible rfl)
      rotate_left
      try simp only [Act.put, List.setIfInBounds_toArray, List.set_cons_zero, List.set_cons_succ]
      refine wpAnyH_take (i := 11) (oi := { dst := some 74, op := Op.move (Operand.tmp 73), type := 4, pos := "ref.go:65", after := #[{ on := 10, ground := Ground.data }, { on := 8, ground := Ground.chain }], guard := none }) (v := ?_) rfl (by kernel_rfl) (by kernel_rfl) (by kernel_rfl) (fun _ _ _ h => h) (Or.inl ⟨by rfl, ?_⟩) hHeld ?_
      rotate_left
      · intro W hSw
        obtain ⟨l1, l2⟩ := hSw
        first | (go_simp; done) | (go_simp; with_reducible rfl)
      rotate_left
      try simp only [Act.put, List.setIfInBounds_toArray, List.set_cons_zero, List.set_cons_succ]
      refine wpAnyH_take (i := 12) (oi := { dst := some 75, op := Op.load 30 (Operand.tmp 4), type := 30, pos := "ref.go:65", after := #[{ on := 11, ground := Ground.guard }], guard := some (11, false) }) (v := ?_) rfl (by kernel_rfl) (by kernel_rfl) (by kernel_rfl) (fun _ _ _ h => h) (Or.inl ⟨by rfl, ?_⟩) hHeld ?_
      rotate_left
      · intro W hSw
        obtain ⟨l1, l2⟩ := hSw
        first | (go_simp; done) | (go_simp; with_reducible rfl)
      rotate_left
      try simp only [Act.put, List.setIfInBounds_toArray, List.set_cons_zero, List.set_cons_succ]
      refine wpAnyH_take (i := 15) (oi := { dst := some 78, op := Op.move (Operand.tmp 0), type := 28, pos := "ref.go:65", after := #[{ on := 11, ground := Ground.guard }], guard := some (11, false) }) (v := ?_) rfl (by kernel_rfl) (by kernel_rfl) (by kernel_rfl) (fun _ _ _ h => h) (Or.inl ⟨by rfl, ?_⟩) hHeld ?_
      rotate_left
      · intro W hSw
        obtain ⟨l1, l2⟩ := hSw
        first | (go_simp; done) | (go_simp; with_reducible rfl)
      rotate_left
      try simp only [Act.put, List.setIfInBounds_toArray, List.set_cons_zero, List.set_cons_succ]
      refine wpAnyH_take (i := 16) (oi := { dst := some 79, op := Op.convert 28 9 (Operand.tmp 78), type := 9, pos := "ref.go:65", after := #[{ on := 15, ground := Ground.data }, { on := 11, ground := Ground.guard }], guard := some (11, false) }) (v := ?_) rfl (by kernel_rfl) (by kernel_rfl) (by kernel_rfl) (fun _ _ _ h => h) (Or.inl ⟨by rfl, ?_⟩) hHeld ?_
      rotate_left
      · intro W hSw
        obtain ⟨l1, l2⟩ := hSw
        first | (go_simp; done) | (go_simp; with_reducible rfl)
      rotate_left
      try simp only [Act.put, List.setIfInBounds_toArray, List.set_cons_zero, List.set_cons_succ]
      refine wpAnyH_ready (rs := [13]) (by kernel_rfl) (by simp) ?_
      refine AllReadyH.cons (o := { dst := some 76, op := Op.call { callee := Callee.value (Operand.func 29), args := #[Operand.tmp 75], argTypes := #[30] }, type := 28, pos := "ref.go:65", after := #[{ on := 12, ground := Ground.data }, { on := 11, ground := Ground.chain }, { on := 11, ground := Ground.guard }], guard := some (11, false) }) rfl (fun K hK => ?_) AllReadyH.nil
      go_simp
      refine (Q2.out _ B7.out).mono ?_
      rintro _ W8 ⟨s8, rfl, o8, b8⟩
      have B8 : Hid (Below V6.heap.size V6 W8) := below_over B7.out b8
      have S8 : Hid (Src W8 s8 (bencL (rawB l) (l.drop 34))) := o8.src
      clear b8 o8
      clear hHeld
      refine hK.out _ _ (SR.out _ B8.out) (fun hHeld => ?_)
      clear hK K
      try simp only [Act.put, List.setIfInBounds_toArray, List.set_cons_zero, List.set_cons_succ]
      refine wpAnyH_ready (rs := [14]) (by kernel_rfl) (by simp) ?_
      refine AllReadyH.cons (o := { dst := some 77, op := Op.convert 28 9 (Operand.tmp 76), type := 9, pos := "ref.go:65", after := #[{ on := 13, ground := Ground.data }, { on := 11, ground := Ground.guard }], guard := some (11, false) }) rfl (fun K hK => ?_) AllReadyH.nil
      have cv := S8.out.string
      go_simp
      clear cv
      clear hHeld
      refine hK.out _ _ (SR.out _ B8.out) (fun hHeld => ?_)
      clear hK K
      try simp only [Act.put, List.setIfInBounds_toArray, List.set_cons_zero, List.set_cons_succ]
      refine wpAnyH_take (i := 17) (oi := { dst := some 80, op := Op.binOp BinOp.neq 9 (Operand.tmp 77) (Operand.tmp 79) 9, type := 4, pos := "ref.go:65", after := #[{ on := 14, ground := Ground.data }, { on := 16, ground := Ground.data }, { on := 11, ground := Ground.guard }], guard := some (11, false) }) (v := ?_) rfl (by kernel_rfl) (by kernel_rfl) (by kernel_rfl) (fun _ _ _ h => h) (Or.inl ⟨by rfl, ?_⟩) hHeld ?_
      rotate_left
      · intro W hSw
        obtain ⟨l1, l2⟩ := hSw
        first | (go_simp; done) | (go_simp; with_reducible rfl)
      rotate_left
      try simp only [Act.put, List.setIfInBounds_toArray, List.set_cons_zero, List.set_cons_succ]
      refine wpAnyH_take (i := 18) (oi := { dst := some 81, op := Op.pick (Operand.tmp 74) (Operand.const (Value.bool true)) (Operand.tmp 80), type := 4, pos := "ref.go:65", after := #[{ on := 11, ground := Ground.data }, { on := 17, ground := Ground.data }], guard := none }) (v := ?_) rfl (by kernel_rfl) (by kernel_rfl) (by kernel_rfl) (fun _ _ _ h => h) (Or.inl ⟨by rfl, ?_⟩) hHeld ?_
      rotate_left
      · intro W hSw
        obtain ⟨l1, l2⟩ := hSw
        first | (go_simp; done) | (go_simp; with_reducible rfl)
      rotate_left
      try simp only [Act.put, List.setIfInBounds_toArray, List.set_cons_zero, List.set_cons_succ]
      refine wpAnyH_done (by kernel_rfl) ?_ _
      refine NoPanic.normal ?_
      clear hHeld
      obtain ⟨q, hq⟩ : ∃ q, ((bs (bencL (rawB l) (l.drop 34))).toList == (bs l).toList) = q := ⟨_, rfl⟩
      rw [hq]
      have HQ : Hid (beqL (bencL (rawB l) (l.drop 34)) l = q) := hq
      have r8 := R6.out.1.later B8.out
      clear hq
      cases q
      · have zs := r8.z.zst
        have HZ : Hid _ := r8.zat zeroB (.slice none 0 0)
        clear r8
        go_wp2
        refine bodyPost_ret (results_btwo Try.results20 _ _ _ _ _ _ rfl rfl HZ.out.1) rfl ?_
        exact bd_err 40 (by rw [HE.out, ge, gi, HC0.out, HQ.out]; rfl) (by omega) HZ.out.2
      · have ld8 := r8.fr.ld
        have st8 := r8.z.st (g := rawB l) (y := .slice a5 n5 c5) rfl
        have HZ : Hid _ := r8.zat (rawB l) (.slice a5 n5 c5)
        clear r8
        go_wp2
        refine bodyPost_ret (results_btwo Try.results20 _ _ _ _ _ _ rfl rfl HZ.out.1) rfl ?_
        refine bd_ok (by rw [HE.out, ge, gi, HC0.out, HQ.out]; rfl) ?_ HZ.out.2
        refine ((R6.out.2.below B8.out).of_block fun k hk => ?_).base (by omega)
        have := O6.out k hk
        rw [setRow_other _ _ _ _ (by omega)]

theorem bdref_any (x : Value) (l : List Int) (w : World) (h : Src w x l) (hb : ∀ x ∈ l, 0 ≤ x ∧ x ≤ 255) :
    Calls Try.prog 20 #[x] w fun r w' => BdOut l w r w' := by
  obtain ⟨a, n, c, rfl⟩ := src_form h
  by_cases h1 : l.length < 36
  · exact bdref_short a n c l w h h1
  by_cases h2 : 1536 < l.length
  · exact bdref_long a n c l w h h2
  obtain ⟨b, o, rfl, _, _⟩ := src_some h (by omega)
  exact bdref_mid b o n c l w h (by omega) (by omega) hb
end Go.Proofs.Yteljcgdenagcmaa
