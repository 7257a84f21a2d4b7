/-
  The definition: the edges that carry: the walk of Tree, for every input.
-/
import Derived.Test.YtcagdfdhpbeolaaREn
namespace Go.Proofs.Ytcagdfdhpbeolaa
set_option linter.unusedVariables false
set_option maxRecDepth 4000
set_option linter.unusedSimpArgs false
open Go.RowKit

theorem ldyo {W : World} {b o n c i : Nat} {l : List En} {x : En} (h : SlAt eY W (some ⟨b, o, none⟩) n c l) (hx : l[i]? = some x) : W.cell? ⟨b, o + i * 7 + 2, none⟩ = some (.int .i64 x.o) := h.cell kY (j := 2) hx rfl (by show o + i * 7 + 2 = o + (i * 7 + 2); omega)
theorem ldyo1 {W : World} {b o n c i : Nat} {l : List En} {x : En} (h : SlAt eY W (some ⟨b, o, none⟩) n c l) (hx : l[i + 1]? = some x) : W.cell? ⟨b, o + (i + 1) * 7 + 2, none⟩ = some (.int .i64 x.o) := ldyo h hx
attribute [local go_sem ↓] apI bsI
set_option maxHeartbeats 8000000 in
theorem rtree_any (a : Option Addr) (n c : Nat) (ids : List Nat) (a' : Option Addr) (n' c' : Nat) (es : List Eg) (w : World) (hs : SlAt eU w a n c ids) (ht : SlAt eE w a' n' c' es) (hl : ∀ x ∈ ids, x < 18446744073709551616) (hn : n ≤ 100) (hm : n' ≤ 100) :
    Calls Try.prog 20 #[.slice a n c, .slice a' n' c'] w fun r w' => (∃ a2 n2 c2 N, r = .returned (.tuple #[.slice a2 n2 c2, .int .i64 (errI ids es)]) ∧ SlAt eI w' a2 n2 c2 N ∧ treO ids es N) ∧ Below w.heap.size w w' := by
  have C : Hid _ := rends_any a n c ids a' n' c' es w hs ht hl hn hm
  have HG : Hid (∀ x ∈ ids, x < 18446744073709551616) := hl
  clear hs ht hn hm hl
  cases hc : chkI ids es
  · rw [err_no hc] at C ⊢
    have HC : Hid (chkI ids es = false) := hc
    clear hc
    go_enter Try.func20, Try.ntmps20
    go_wp2_with fail
    refine Calls.mono C.out ?_
    rintro _ W1 ⟨⟨a2, n2, c2, N, rfl, hN, hO⟩, b1⟩
    clear hN hO
    go_wp2
    go_returns
    exact ⟨⟨none, 0, 0, [], rfl, SlAt.none' _, .inl ⟨HC.out, rfl⟩⟩, b1⟩
  · rw [err_ok hc] at C ⊢
    obtain ⟨L, rfl, G⟩ := gok_of hc HG.out
    have HC : Hid (chkI ids (L.map Ne.eg) = true ∧ Gok ids L) := ⟨hc, G⟩
    clear hc G
    go_enter Try.func20, Try.ntmps20
    go_wp2_with fail
    refine Calls.mono C.out ?_
    rintro _ W1 ⟨⟨a2, n2, c2, N, rfl, hN, hO⟩, b1⟩
    have hNF := endO_is hO HC.out.1
    subst hNF
    have hn2 : n2 = 2 * L.length := by rw [← hN.len]; exact endsF_len _ _
    have hm24 := HC.out.2.m24
    have hni := hN.int
    have K : Hid (SlAt eY W1 a2 n2 c2 (endsF ids L) ∧ Below w.heap.size w W1 ∧ n2 = 2 * L.length) := ⟨hN, b1, hn2⟩
    have hn100 : n2 ≤ 100 := by omega
    clear hN hO b1 C hn2 hm24
    go_wp2_with fail
    go_loopw [8, 9] (fun v8 v9 wr => ∃ i e : Nat, i ≤ n2 ∧ i = 2 * e ∧ v9 = .int .i64 i ∧ Own eI wr W1.heap.size v8 (treeTo ids L e) ∧ Below W1.heap.size W1 wr) (fun _ v9 _ => n2 - (intOf v9).toNat)
    case atStart => exact ⟨0, 0, by omega, rfl, rfl, Own.nil _ _, Below.refl _ _⟩
    case round =>
      obtain ⟨i, e, hi, hie_, rfl, hO, hB⟩ := hrel
      have hie : Hid (i = 2 * e) := hie_
      have hi0 : (0 : Int) ≤ (i : Int) := by omega
      have hb1 : -9223372036854775808 ≤ (i : Int) + 1 ∧ (i : Int) + 1 ≤ 9223372036854775807 := by omega
      have hb2 : -9223372036854775808 ≤ (i : Int) + 2 ∧ (i : Int) + 2 ≤ 9223372036854775807 := by omega
      by_cases het : e < L.length
      · have hlt : (i : Int) + 1 < (n2 : Int) := by have := K.out.2.2; omega
        have hlt0 : (i : Int) < (n2 : Int) := by omega
        have hi10 : (0 : Int) ≤ (i : Int) + 1 := by omega
        obtain ⟨x, hx⟩ := lt_nth het
        obtain ⟨b, o, rfl⟩ := K.out.1.some' (by omega)
        have e0 := endsF_at (ids := ids) hx (j := 0) (by omega)
        have e1 := endsF_at (ids := ids) hx (j := 1) (by omega)
        rw [show 2 * e + 0 = i by omega] at e0
        rw [show 2 * e + 1 = i + 1 by omega] at e1
        have c0 := ldyo (K.out.1.below hB) e0
        have c1 := ldyo1 (K.out.1.below hB) e1
        rw [show (endOf ids L (sdN x 0)).o = roleOf ids L x from rfl] at c0
        rw [show (endOf ids L (sdN x 1)).o = roleOf ids L x.turn from rfl] at c1
        obtain ⟨r0, hr0⟩ : ∃ z, roleOf ids L x = z := ⟨_, rfl⟩
        obtain ⟨r1, hr1⟩ : ∃ z, roleOf ids L x.turn = z := ⟨_, rfl⟩
        rw [hr0] at c0
        rw [hr1] at c1
        have hcar : carB ids L x = (decide (r0 ≠ 1) && decide (r1 ≠ 1)) := by unfold carB; rw [hr0, hr1]
        have J : Hid (Own eI wr W1.heap.size u8 (treeTo ids L e) ∧ Below W1.heap.size W1 wr ∧ L[e]? = some x) := ⟨hO, hB, hx⟩
        have NO : Hid (carB ids L x = false → Own eI wr W1.heap.size u8 (treeTo ids L (e + 1))) := fun h => by rw [treeTo_no J.out.2.2 h]; exact J.out.1
        have HCA : Hid (carB ids L x = (decide (r0 ≠ 1) && decide (r1 ≠ 1))) := hcar
        have hel : Hid ((treeTo ids L e).length ≤ 1000) := by have := treeTo_len ids L e; show _ ≤ _; omega
        clear hO hB hx hcar hr0 hr1 e0 e1 het hie_
        by_cases h0 : r0 = 1
        · have Z : Hid _ := NO.out (by rw [HCA.out]; simp [h0])
          subst h0
          go_wp2
          go_roundw
          case rel => exact ⟨i + 2, e + 1, by omega, by have := hie.out; omega, by go_num, Z.out, J.out.2.1⟩
          case measure => simp [intOf]; omega
        · have x0 : (r0 == 1) = false := beq_eq_false_iff_ne.2 h0
          have y0 : (r0 != 1) = true := by simp [h0]
          by_cases h1 : r1 = 1
          · have Z : Hid _ := NO.out (by rw [HCA.out]; simp [h1])
            subst h1
            clear h0
            go_wp2
            go_roundw
            case rel => exact ⟨i + 2, e + 1, by omega, by have := hie.out; omega, by go_num, Z.out, J.out.2.1⟩
            case measure => simp [intOf]; omega
          · have x1 : (r1 == 1) = false := beq_eq_false_iff_ne.2 h1
            have y1 : (r1 != 1) = true := by simp [h1]
            have hca : carB ids L x = true := by rw [HCA.out]; simp [h0, h1]
            have hq : Int.tdiv (i : Int) 2 = (e : Int) := by have := hie.out; rw [Int.tdiv_eq_ediv_of_nonneg hi0]; omega
            have hq2 : (i : Int) / 2 = (e : Int) := by have := hie.out; omega
            have bs := bsI_is (e : Int) wr
            obtain ⟨v', Y, ap, o2, b5⟩ := nI J.out.1 J.out.2.1.size hel.out (e : Int)
            have Z : Hid (Own eI Y W1.heap.size v' (treeTo ids L (e + 1)) ∧ Below W1.heap.size W1 Y) := ⟨by rw [treeTo_yes J.out.2.2 hca]; exact o2, J.out.2.1.trans b5⟩
            clear o2 b5 hca h0 h1
            go_wp2
            go_roundw
            case rel => exact ⟨i + 2, e + 1, by omega, by have := hie.out; omega, by go_num, Z.out.1, Z.out.2⟩
            case measure => simp [intOf]; omega
      · have hnl : ¬ (i : Int) + 1 < (n2 : Int) := by have := K.out.2.2; omega
        have hel : e = L.length := by have := K.out.2.2; omega
        rw [show treeTo ids L e = treeF ids L by unfold treeF; rw [hel]] at hO
        obtain ⟨sa, sc, hv, hS, _⟩ := hO.form
        subst hv
        obtain ⟨m, hm⟩ : ∃ m, (treeF ids L).length = m := ⟨_, rfl⟩
        rw [hm] at hS ⊢
        have Z : Hid (SlAt eI wr sa m sc (treeF ids L) ∧ Below w.heap.size w wr) := ⟨hS, below_over K.out.2.1 hB⟩
        clear hO hB hS hm hel hie_
        go_wp2
        go_returns
        exact ⟨⟨_, _, _, rfl, _, Z.out.1, .inr ⟨L, rfl, HC.out.2, HC.out.1, rfl⟩⟩, Z.out.2⟩
end Go.Proofs.Ytcagdfdhpbeolaa
