/-
  Step, with the library's ContainsFunc at ports: its walk, for every tree.
-/
import Derived.Test.YtnblhmicbhblpaaAwake
namespace Go.Proofs.Ytnblhmicbhblpaa
set_option linter.unusedVariables false
set_option maxRecDepth 4000
set_option linter.unusedSimpArgs false
open Go.RowKit

attribute [local go_sem ↓] ldP stP ldT stT
set_option maxHeartbeats 400000 in
theorem asks_any (p : Pt) (w : World) : Calls Try.prog 32 #[.agg p.cs] w fun r w' => r = .returned (.bool (p.bt 21)) ∧ Below w.heap.size w w' := by
  obtain ⟨W, hW, r0, bW, zW⟩ := new_p w p
  have c21 := r0.bit (j := 21) rfl
  have H : Hid (Below w.heap.size w W) := bW
  clear r0 bW zW
  go_enter Try.func32, Try.ntmps32
  go_wp2
  go_ret
  exact ⟨rfl, H.out⟩
theorem any_yes {l : List Pt} {i : Nat} (hi : i < l.length) (h : (gtP l i).bt 21 = true) : anyR l = true := by
  unfold anyR
  rw [List.any_eq_true]
  have := gtP_at hi
  rw [List.getElem?_eq_getElem hi] at this
  exact ⟨l[i], List.getElem_mem _, by rw [Option.some.inj this]; exact h⟩
theorem any_no {l : List Pt} (h : ∀ j, j < l.length → (gtP l j).bt 21 = false) : anyR l = false := by
  unfold anyR
  rw [List.any_eq_false]
  intro x hx
  obtain ⟨j, hj, e⟩ := List.mem_iff_getElem.1 hx
  have h1 := gtP_at hj
  rw [List.getElem?_eq_getElem hj, e] at h1
  rw [Option.some.inj h1, h j hj]
  decide
set_option maxHeartbeats 4000000 in
theorem index_any (a : Option Addr) (n c : Nat) (l : List Pt) (w : World) (hs : SlAt w a n c l) (hn : n ≤ 1000) :
    Calls Try.prog 39 #[.slice a n c, .func (.func 32) #[] #[]] w fun r w' => (∃ j : Int, r = .returned (.int .i64 j) ∧ (decide (0 ≤ j) = anyR l)) ∧ Below w.heap.size w w' := by
  have H : Hid (SlAt w a n c l ∧ n ≤ 1000 ∧ l.length = n) := ⟨hs, hn, hs.len⟩
  have hnn : (n : Int) ≤ 1000 := by omega
  clear hs hn
  go_enter Try.func39, Try.ntmps39
  go_wp2_with fail
  go_loopw [8] (fun v8 wr => ∃ i : Nat, i ≤ n ∧ v8 = .int .i64 i ∧ (∀ j, j < i → (gtP l j).bt 21 = false) ∧ Below w.heap.size w wr) (fun v8 _ => n - (intOf v8).toNat)
  case atStart => exact ⟨0, by omega, rfl, fun j hj => by omega, Below.refl _ _⟩
  case round =>
    obtain ⟨i, hi, rfl, ht, hB⟩ := hrel
    have J : Hid ((∀ j, j < i → (gtP l j).bt 21 = false) ∧ Below w.heap.size w wr) := ⟨ht, hB⟩
    have hin0 : (0 : Int) ≤ (i : Int) := by omega
    by_cases hit : i < n
    · have hin1 : (i : Int) < (n : Int) := by omega
      have hl : i < l.length := by rw [H.out.2.2]; exact hit
      obtain ⟨b, o, rfl⟩ := H.out.1.some' (by omega)
      have lp := (H.out.1.below hB).ld (gtP_at hl)
      obtain ⟨p, hp⟩ : ∃ p, gtP l i = p := ⟨_, rfl⟩
      have E : Hid (i < l.length ∧ gtP l i = p) := ⟨hl, hp⟩
      rw [hp] at lp
      clear ht hB hl hp
      go_wp2_with fail
      refine (asks_any p wr).mono ?_
      rintro _ V ⟨rfl, bV⟩
      cases hb : p.bt 21
      · have N : Hid (∀ j, j < i + 1 → (gtP l j).bt 21 = false) := fun j hj => by
          by_cases hji : j = i
          · subst hji
            rw [E.out.2]
            exact hb
          · exact J.out.1 j (by omega)
        clear lp hb
        go_wp2
        go_roundw
        case rel => exact ⟨i + 1, by omega, by go_num, N.out, below_over J.out.2 bV⟩
        case measure => simp [intOf]; omega
      · have N : Hid (anyR l = true) := any_yes E.out.1 (by rw [E.out.2]; exact hb)
        clear lp hb
        go_wp2
        go_ret
        exact ⟨⟨(i : Int), rfl, by rw [N.out]; simp⟩, below_over J.out.2 bV⟩
    · have hin : i = n := by omega
      subst hin
      have hin1 : ¬ (i : Int) < (i : Int) := by omega
      clear ht hB
      go_wp2
      go_ret
      exact ⟨⟨-1, rfl, by rw [any_no (fun j hj => J.out.1 j (by rw [← H.out.2.2]; exact hj))]; rfl⟩, J.out.2⟩
theorem contains_any (a : Option Addr) (n c : Nat) (l : List Pt) (w : World) (hs : SlAt w a n c l) (hn : n ≤ 1000) :
    Calls Try.prog 31 #[.slice a n c, .func (.func 32) #[] #[]] w fun r w' => r = .returned (.bool (anyR l)) ∧ Below w.heap.size w w' := by
  go_enter Try.func31, Try.ntmps31
  go_wp2_with fail
  refine (index_any a n c l w hs hn).mono ?_
  rintro _ V ⟨⟨j, rfl, hj⟩, bV⟩
  have F : Hid (decide (0 ≤ j) = anyR l) := hj
  clear hj hs hn
  go_wp2
  go_ret
  exact ⟨by rw [← F.out]; rfl, bV⟩
theorem results_tb {fn : Func} {k t : Nat} (hr : fn.results = #[.cell k 31, .tmp t]) (tmps : Array Value) (w : World) (b : Nat) (h : Hd) (x : Value) (h2 : tmps.getD k undef = .pointer (some ⟨b, 0, none⟩)) (r : RvAt w b 31 (trc h x)) :
    (results fn tmps).run Try.prog w = .ok (.tuple #[.agg (trc h x), tmps.getD t undef]) w := by
  have hl := r.lv rtT (trc_size h x)
  have h2' : tmps[k]?.getD undef = .pointer (some ⟨b, 0, none⟩) := by simpa using h2
  simp [results, hr, asAddr, hl, h2']
/-- A function that tells a tree and a bool, at its end. -/
theorem ret_tb {fn : Func} {k t : Nat} (hr : fn.results = #[.cell k 31, .tmp t]) {R : Ending → World → Prop} {a : Act} {w : World} {b : Nat} {h : Hd} {y : Value} {x : Value} (hd : a.defers = []) (h2 : a.tmps.getD k undef = .pointer (some ⟨b, 0, none⟩)) (h3 : a.tmps.getD t undef = x) (r : RvAt w b 31 (trc h y)) (hR : R (.returned (.tuple #[.agg (trc h y), x])) w) : bodyPost Try.prog fn R .ret a w :=
  bodyPost_ret (results_tb hr _ _ _ _ _ h2 r) hd (by rw [h3]; exact hR)
theorem stp_no {h : Hd} {l : List Pt} (h1 : h.bt 6 = true) (h2 : anyR l = false) : stpB h l = false ∧ stpH h l = h ∧ stpL h l = l := by
  have e : stpB h l = false := by unfold stpB; rw [h1, h2]; rfl
  unfold stpH stpL
  rw [e]
  exact ⟨rfl, rfl, rfl⟩
theorem stp_yes {h : Hd} {l : List Pt} (e : stpB h l = true) : stpH h l = hdS (h.setB 6 kh6 true) l ∧ stpL h l = selL (h.setB 6 kh6 true) l := by
  unfold stpH stpL
  rw [e]
  exact ⟨rfl, rfl⟩
attribute [local go_sem ↓] stB
set_option maxHeartbeats 4000000 in
theorem step_any (h : Hd) (a : Option Addr) (n c : Nat) (l : List Pt) (w : World) (hs : SlAt w a n c l) (hn : n ≤ 1000) :
    Calls Try.prog 16 #[.agg (trc h (.slice a n c))] w fun r w' => ∃ a' c', r = .returned (.tuple #[.agg (trc (stpH h l) (.slice a' n c')), .bool (stpB h l)]) ∧ SlAt w' a' n c' (stpL h l) ∧ Below w.heap.size w w' := by
  obtain ⟨W, hW, r0, r1, bW, zW⟩ := two_t w h (.slice a n c)
  have c6 := r0.tbit (j := 6) rfl
  have c16 := r0.t16
  have H : Hid (QA w W h a n c l) := ⟨⟨r0, r1, bW⟩, hs.below bW⟩
  clear hs r0 r1 bW zW
  have P1 : Hid _ := contains_any a n c l W H.out.sl hn
  cases h6 : h.bt 6
  · have e : stpB h l = true := by unfold stpB; rw [h6]; rfl
    rw [e, (stp_yes e).1, (stp_yes e).2]
    rw [h6] at c6
    obtain ⟨V, sV, rV, gV⟩ := H.out.q.var.tsetB true
    have Q := H.out.q.go rV gV
    have S := H.out.sl.keptT H.out.q.var gV
    have lV := Q.var.tld
    have K : Hid (QS w V (h.setB 6 kh6 true) (.slice a n c)) := Q
    have C : Hid _ := select_any (h.setB 6 kh6 true) a n c l V S hn
    clear rV gV Q S H P1 e
    go_enter Try.func16, Try.ntmps16
    go_wp2_with fail
    refine Calls.mono C.out ?_
    rintro _ W1 ⟨a', c', rfl, s1, b1⟩
    obtain ⟨U, sU, rU, gU⟩ := (K.out.below b1).out.tst (g := hdS (h.setB 6 kh6 true) l) (y := .slice a' n c') rfl
    have F : Hid (RvAt U (w.heap.size + 1) 31 (trc (hdS (h.setB 6 kh6 true) l) (.slice a' n c')) ∧ SlAt U a' n c' (selL (h.setB 6 kh6 true) l) ∧ Below w.heap.size w U) := ⟨rU, s1.keptT (K.out.below b1).out gU, gro (K.out.below b1).bel gU (by omega) (K.out.below b1).bel.size⟩
    clear s1 rU gU b1 K C lV
    go_wp2_with (with_reducible exact ret_tb Try.results16 (by with_unfolding_all rfl) (by with_unfolding_all rfl) (by with_unfolding_all rfl) F.out.1 ⟨a', c', rfl, F.out.2.1, F.out.2.2⟩)
  · rw [h6] at c6
    cases ha : anyR l
    · rw [ha] at P1
      obtain ⟨e1, e2, e3⟩ := stp_no h6 ha
      rw [e1, e2, e3]
      clear e1 e2 e3 ha h6
      go_enter Try.func16, Try.ntmps16
      go_wp2_with fail
      refine Calls.mono P1.out ?_
      rintro _ W1 ⟨rfl, b1⟩
      have K := H.out.below b1
      have lt := K.q.var.tld
      obtain ⟨U, sU, rU, gU⟩ := K.q.out.tst (g := h) (y := .slice a n c) rfl
      have F : Hid (RvAt U (w.heap.size + 1) 31 (trc h (.slice a n c)) ∧ SlAt U a n c l ∧ Below w.heap.size w U) := ⟨rU, K.sl.keptT K.q.out gU, gro K.q.bel gU (by omega) K.q.bel.size⟩
      clear rU gU b1 K P1 H c6 c16
      go_wp2_with (with_reducible exact ret_tb Try.results16 (by with_unfolding_all rfl) (by with_unfolding_all rfl) (by with_unfolding_all rfl) F.out.1 ⟨a, c, rfl, F.out.2.1, F.out.2.2⟩)
    · rw [ha] at P1
      have e : stpB h l = true := by unfold stpB; rw [h6, ha]; rfl
      rw [e, (stp_yes e).1, (stp_yes e).2]
      clear e ha h6
      go_enter Try.func16, Try.ntmps16
      go_wp2_with fail
      refine Calls.mono P1.out ?_
      rintro _ W1 ⟨rfl, b1⟩
      have K1 := H.out.below b1
      obtain ⟨V, sV, rV, gV⟩ := K1.q.var.tsetB true
      have Q := K1.q.go rV gV
      have S := K1.sl.keptT K1.q.var gV
      have lV := Q.var.tld
      have K : Hid (QS w V (h.setB 6 kh6 true) (.slice a n c)) := Q
      have C : Hid _ := select_any (h.setB 6 kh6 true) a n c l V S hn
      clear rV gV Q S H P1 K1 b1 c6 c16
      go_wp2_with fail
      refine Calls.mono C.out ?_
      rintro _ W2 ⟨a', c', rfl, s2, b2⟩
      obtain ⟨U, sU, rU, gU⟩ := (K.out.below b2).out.tst (g := hdS (h.setB 6 kh6 true) l) (y := .slice a' n c') rfl
      have F : Hid (RvAt U (w.heap.size + 1) 31 (trc (hdS (h.setB 6 kh6 true) l) (.slice a' n c')) ∧ SlAt U a' n c' (selL (h.setB 6 kh6 true) l) ∧ Below w.heap.size w U) := ⟨rU, s2.keptT (K.out.below b2).out gU, gro (K.out.below b2).bel gU (by omega) (K.out.below b2).bel.size⟩
      clear s2 rU gU b2 K C lV
      go_wp2_with (with_reducible exact ret_tb Try.results16 (by with_unfolding_all rfl) (by with_unfolding_all rfl) (by with_unfolding_all rfl) F.out.1 ⟨a', c', rfl, F.out.2.1, F.out.2.2⟩)
end Go.Proofs.Ytnblhmicbhblpaa
