/-
  The definition: which graphs may be: the walk of Check, for every input.
-/
import Derived.Test.YtcagdfdhpbeolaaRSd
import Derived.Test.YtcagdfdhpbeolaaChk
namespace Go.Proofs.Ytcagdfdhpbeolaa
set_option linter.unusedVariables false
set_option maxRecDepth 4000
set_option linter.unusedSimpArgs false
open Go.RowKit

/-- May a side not be? -/
def rbad (n : Int) (x : Eg) : Bool := decide (x.a < 0) || decide (n ≤ x.a) || (x.a == x.b) || decide (x.pa < 0) || decide (x.pa > 7) || decide (x.ca < 1) || decide (x.ca > 200000000)
theorem rbad_wrong (n : Int) (x : Eg) : (rbad n x || rbad n x.turn) = wrongE n x := by
  unfold rbad wrongE badE Eg.turn
  rw [Bool.eq_iff_iff]
  simp only [Bool.or_eq_true, Bool.not_eq_true', decide_eq_true_eq, decide_eq_false_iff_not, beq_iff_eq]
  omega
theorem rbad_any (n : Int) (l : List Eg) : (sidesE l).any (rbad n) = l.any (wrongE n) := by
  induction l with
  | nil => rfl
  | cons x l ih =>
    unfold sidesE at ih ⊢
    have h := rbad_wrong n x
    simp only [List.flatMap_cons, List.any_append, ih, List.any_cons, List.any_nil, Bool.or_false, ← h, Bool.or_assoc]
theorem SvAt.put (W : World) (x : Eg) : ∃ V, (stS 64 (.pointer (some ⟨W.heap.size, 0, none⟩)) (.agg x.ss)).run Try.prog (W.alloc (.cells #[.int .i64 0, .int .i64 0, .int .u32 0, .int .i64 0, .int .i64 0] 64)) = .ok () V ∧ RvAt V W.heap.size 64 x.ss ∧ Below W.heap.size W V := by
  obtain ⟨V, h1, h2, h3, _⟩ := row_new rtS W #[.int .i64 0, .int .i64 0, .int .u32 0, .int .i64 0, .int .i64 0] x.ss rfl rfl (one_of rfl)
  exact ⟨V, h1, h2, h3⟩
theorem lds {W : World} {b o n c i : Nat} {l : List Eg} {x : Eg} (h : SlAt eS W (some ⟨b, o, none⟩) n c l) (hx : l[i]? = some x) : (ldS 64 (.pointer (some ⟨b, o + i * 5, none⟩))).run Try.prog W = .ok (.agg x.ss) W := h.ld kS hx Try.underlying64 rfl rfl
theorem lds0 {W : World} {b o n c i : Nat} {l : List Eg} {x : Eg} (h : SlAt eS W (some ⟨b, o, none⟩) n c l) (hx : l[i]? = some x) : W.cell? ⟨b, o + i * 5, none⟩ = some (.int .i64 x.a) := h.cell kS (j := 0) hx rfl rfl
theorem lds1 {W : World} {b o n c i : Nat} {l : List Eg} {x : Eg} (h : SlAt eS W (some ⟨b, o, none⟩) n c l) (hx : l[i]? = some x) : W.cell? ⟨b, o + i * 5 + 1, none⟩ = some (.int .i64 x.pa) := h.cell kS (j := 1) hx rfl (by show o + i * 5 + 1 = o + (i * 5 + 1); omega)
theorem lds2 {W : World} {b o n c i : Nat} {l : List Eg} {x : Eg} (h : SlAt eS W (some ⟨b, o, none⟩) n c l) (hx : l[i]? = some x) : W.cell? ⟨b, o + i * 5 + 2, none⟩ = some (.int .u32 x.ca) := h.cell kS (j := 2) hx rfl (by show o + i * 5 + 2 = o + (i * 5 + 2); omega)
theorem lds3 {W : World} {b o n c i : Nat} {l : List Eg} {x : Eg} (h : SlAt eS W (some ⟨b, o, none⟩) n c l) (hx : l[i]? = some x) : W.cell? ⟨b, o + i * 5 + 3, none⟩ = some (.int .i64 x.b) := h.cell kS (j := 3) hx rfl (by show o + i * 5 + 3 = o + (i * 5 + 3); omega)
theorem lds4 {W : World} {b o n c i : Nat} {l : List Eg} {x : Eg} (h : SlAt eS W (some ⟨b, o, none⟩) n c l) (hx : l[i]? = some x) : W.cell? ⟨b, o + i * 5 + 4, none⟩ = some (.int .i64 x.pb) := h.cell kS (j := 4) hx rfl (by show o + i * 5 + 4 = o + (i * 5 + 4); omega)
attribute [local go_sem ↓] ldSd stSd
set_option maxHeartbeats 8000000 in
theorem rcheck_any (a : Option Addr) (n c : Nat) (ids : List Nat) (a' : Option Addr) (n' c' : Nat) (es : List Eg) (w : World) (hs : SlAt eU w a n c ids) (ht : SlAt eE w a' n' c' es) (hl : ∀ x ∈ ids, x < 18446744073709551616) (hn : n ≤ 100) (hm : n' ≤ 100) :
    Calls Try.prog 14 #[.slice a n c, .slice a' n' c'] w fun r w' => r = .returned (.int .i64 (errI ids es)) ∧ Below w.heap.size w w' := by
  have hnn := hs.int
  have hmm := ht.int
  have H : Hid (SlAt eU w a n c ids ∧ SlAt eE w a' n' c' es ∧ (∀ x ∈ ids, x < 18446744073709551616) ∧ n ≤ 100 ∧ n' ≤ 100 ∧ ids.length = n ∧ es.length = n') := ⟨hs, ht, hl, hn, hm, hs.len, ht.len⟩
  have hi : ids.length = n := hs.len
  have he : es.length = n' := ht.len
  have D : Hid (chkI ids es = (decide ((1 : Int) ≤ (n : Int) ∧ (n : Int) ≤ 7) && !decide ((n' : Int) > 24) && !dup sameA (asI ids) && !(sidesE es).any (rbad (n : Int)) && !dup sameP (portsE es))) := by show _ = _; unfold chkI; rw [hi, he, rbad_any]
  clear hs ht hl hn hm hi he
  by_cases h1 : (n : Int) < 1
  · have h1' : ¬ (1 : Int) ≤ (n : Int) := by omega
    rw [err_no (show chkI ids es = false by rw [D.out]; simp [h1'])]
    clear h1'
    go_enter Try.func14, Try.ntmps14
    go_wp2
    go_ret
    exact ⟨rfl, Below.refl _ _⟩
  by_cases h2 : (n : Int) > 7
  · have h2' : ¬ (n : Int) ≤ 7 := by omega
    rw [err_no (show chkI ids es = false by rw [D.out]; simp [h2'])]
    clear h2'
    go_enter Try.func14, Try.ntmps14
    go_wp2
    go_ret
    exact ⟨rfl, Below.refl _ _⟩
  by_cases h3 : (n' : Int) > 24
  · rw [err_no (show chkI ids es = false by rw [D.out]; simp [h3])]
    go_enter Try.func14, Try.ntmps14
    go_wp2
    go_ret
    exact ⟨rfl, Below.refl _ _⟩
  have D2 : Hid (chkI ids es = (!dup sameA (asI ids) && !(sidesE es).any (rbad (n : Int)) && !dup sameP (portsE es))) := by
    have h1' : (1 : Int) ≤ (n : Int) := by omega
    have h2' : (n : Int) ≤ 7 := by omega
    have := D.out
    show _ = _
    simpa [h1', h2', h3] using this
  clear D
  obtain ⟨E, hE⟩ : ∃ z, errI ids es = z := ⟨_, rfl⟩
  rw [hE]
  have YA : Hid (∀ (i k x y : Nat), ids[i]? = some x → ids[k]? = some y → k < i → sameA (x : Int) (y : Int) = true → E = 160) := fun i k x y hx hy hk hq => by
    rw [← hE]
    refine err_no ?_
    have hd : dup sameA (asI ids) = true := dup_yes (asI_at hx) (by
      rw [List.any_eq_true]
      exact ⟨(y : Int), List.mem_of_getElem? (by rw [List.getElem?_take, if_pos hk]; exact asI_at hy), hq⟩)
    rw [D2.out, hd]
    rfl
  have YB : Hid (∀ (i : Nat) (x : Eg), (sidesE es)[i]? = some x → rbad (n : Int) x = true → E = 160) := fun i x hx hq => by
    rw [← hE]
    refine err_no ?_
    rw [D2.out, any_take_yes hx hq]
    simp
  have YC : Hid (∀ (i k : Nat) (x y : Eg), (sidesE es)[i]? = some x → (sidesE es)[k]? = some y → k < i → sameP (ptE x) (ptE y) = true → E = 160) := fun i k x y hx hy hk hq => by
    rw [← hE]
    refine err_no ?_
    have hd : dup sameP (portsE es) = true := dup_yes (l := portsE es) (i := i) (x := ptE x) (by unfold portsE; rw [List.getElem?_map, hx]; rfl) (by
      rw [List.any_eq_true]
      exact ⟨ptE y, List.mem_of_getElem? (i := k) (by rw [List.getElem?_take, if_pos hk]; unfold portsE; rw [List.getElem?_map, hy]; rfl), hq⟩)
    rw [D2.out, hd]
    simp
  have NO : Hid ((∀ (i k x y : Nat), ids[i]? = some x → ids[k]? = some y → k < i → sameA (x : Int) (y : Int) = false) → (∀ (i : Nat) (x : Eg), (sidesE es)[i]? = some x → rbad (n : Int) x = false) → (∀ (i k : Nat) (x y : Eg), (sidesE es)[i]? = some x → (sidesE es)[k]? = some y → k < i → sameP (ptE x) (ptE y) = false) → E = 0) := fun hA hB hC => by
    rw [← hE]
    refine err_ok ?_
    have d1 : dup sameA (asI ids) = false := dup_no fun i x hx => by
      rw [List.any_eq_false]
      intro y hy
      obtain ⟨k, hk, e⟩ := List.mem_iff_getElem.1 hy
      rw [List.length_take] at hk
      have hki : k < i := by omega
      have hyk : (asI ids)[k]? = some y := by rw [← e, List.getElem_take]; exact (List.getElem?_eq_getElem _)
      unfold asI at hx hyk
      rw [List.getElem?_map] at hx hyk
      obtain ⟨x', hx', rfl⟩ := Option.map_eq_some_iff.1 hx
      obtain ⟨y', hy', rfl⟩ := Option.map_eq_some_iff.1 hyk
      rw [hA i k x' y' hx' hy' hki]
      decide
    have d2 : (sidesE es).any (rbad (n : Int)) = false := any_all_no fun i x _ hx => hB i x hx
    have d3 : dup sameP (portsE es) = false := dup_no fun i x hx => by
      rw [List.any_eq_false]
      intro y hy
      obtain ⟨k, hk, e⟩ := List.mem_iff_getElem.1 hy
      rw [List.length_take] at hk
      have hki : k < i := by omega
      have hyk : (portsE es)[k]? = some y := by rw [← e, List.getElem_take]; exact (List.getElem?_eq_getElem _)
      unfold portsE at hx hyk
      rw [List.getElem?_map] at hx hyk
      obtain ⟨x', hx', rfl⟩ := Option.map_eq_some_iff.1 hx
      obtain ⟨y', hy', rfl⟩ := Option.map_eq_some_iff.1 hyk
      rw [hC i k x' y' hx' hy' hki]
      decide
    rw [D2.out, d1, d2, d3]
    rfl
  clear D2 hE
  go_enter Try.func14, Try.ntmps14
  go_wp2_with fail
  go_loopw [5] (fun v5 wr => ∃ i : Nat, i ≤ n ∧ v5 = .int .i64 i ∧ (∀ (t k x y : Nat), t < i → ids[t]? = some x → ids[k]? = some y → k < t → sameA (x : Int) (y : Int) = false) ∧ Below w.heap.size w wr) (fun v5 _ => n - (intOf v5).toNat)
  case atStart => exact ⟨0, by omega, rfl, fun t k x y ht => by omega, Below.refl _ _⟩
  case round =>
    obtain ⟨i, hi, rfl, hlow, hB⟩ := hrel
    have J : Hid ((∀ (t k x y : Nat), t < i → ids[t]? = some x → ids[k]? = some y → k < t → sameA (x : Int) (y : Int) = false) ∧ Below w.heap.size w wr) := ⟨hlow, hB⟩
    have hi0 : (0 : Int) ≤ (i : Int) := by omega
    clear hlow hB
    by_cases hit : i < n
    · have hi1 : (i : Int) < (n : Int) := by omega
      have hil : i < ids.length := by rw [H.out.2.2.2.2.2.1]; exact hit
      obtain ⟨b, o, rfl⟩ := H.out.1.some' (by omega)
      obtain ⟨x, hx⟩ : ∃ x, ids[i]? = some x := ⟨_, List.getElem?_eq_getElem hil⟩
      have HX : Hid (ids[i]? = some x) := hx
      clear hx hil
      go_wp2_with fail
      go_loopw [6] (fun v6 wr => ∃ k : Nat, k ≤ i ∧ v6 = .int .i64 k ∧ (∀ (t y : Nat), t < k → ids[t]? = some y → sameA (x : Int) (y : Int) = false) ∧ Below w.heap.size w wr) (fun v6 _ => i - (intOf v6).toNat)
      case atStart => exact ⟨0, by omega, rfl, fun t y ht => by omega, J.out.2⟩
      case round =>
        obtain ⟨k, hk, rfl, hlow, hB⟩ := hrel
        have J2 : Hid ((∀ (t y : Nat), t < k → ids[t]? = some y → sameA (x : Int) (y : Int) = false) ∧ Below w.heap.size w wr) := ⟨hlow, hB⟩
        have hk0 : (0 : Int) ≤ (k : Int) := by omega
        clear hlow
        by_cases hkt : k < i
        · have hk1 : (k : Int) < (i : Int) := by omega
          have hk2 : (k : Int) < (n : Int) := by omega
          have hkl : k < ids.length := by rw [H.out.2.2.2.2.2.1]; omega
          obtain ⟨y, hy⟩ : ∃ y, ids[k]? = some y := ⟨_, List.getElem?_eq_getElem hkl⟩
          have cx := fun q : Later wr => ldu ((H.out.1.below hB).below q.below) HX.out
          have cy := fun q : Later wr => ldu ((H.out.1.below hB).below q.below) hy
          have hxm := H.out.2.2.1 x (List.mem_of_getElem? HX.out)
          have hym := H.out.2.2.1 y (List.mem_of_getElem? hy)
          have P : Hid (∀ q : Later wr, _) := fun q : Later wr => samead_any (x : Int) (y : Int) q.val (by omega) (by omega)
          have HY : Hid (ids[k]? = some y) := hy
          clear hB hkl hy
          cases hq : sameA (x : Int) (y : Int)
          · rw [hq] at P
            have NX : Hid (∀ (t y : Nat), t < k + 1 → ids[t]? = some y → sameA (x : Int) (y : Int) = false) := fun t z ht hz => by
              by_cases e : t = k
              · subst e
                rw [HY.out] at hz
                cases hz
                exact hq
              · exact J2.out.1 t z (by omega) hz
            clear hq
            go_wp2_with fail
            refine wp_region_later (by kernel_rfl) (by kernel_rfl) ?_
            repeat (go_big_quiet_step (first | exact rfl | (go_at_call 36; with_reducible exact Calls.later_of (P.out _))))
            refine wpQuiet_nil ?_
            intro _ hw'
            obtain ⟨q, rfl⟩ := hw'
            go_wp2
            go_roundw
            case rel => exact ⟨k + 1, by omega, by go_num, NX.out, below_later J2.out.2 q⟩
            case measure => simp [intOf]; omega
          · rw [hq] at P
            have YE : Hid (E = 160) := YA.out i k x y HX.out HY.out hkt hq
            clear hq
            go_wp2_with fail
            refine wp_region_later (by kernel_rfl) (by kernel_rfl) ?_
            repeat (go_big_quiet_step (first | exact rfl | (go_at_call 36; with_reducible exact Calls.later_of (P.out _))))
            refine wpQuiet_nil ?_
            intro _ hw'
            obtain ⟨q, rfl⟩ := hw'
            go_wp2
            go_ret
            exact ⟨by rw [YE.out]; rfl, below_later J2.out.2 q⟩
        · have hki : k = i := by omega
          subst hki
          have hk1 : ¬ (k : Int) < (k : Int) := by omega
          have NX : Hid (∀ (t j x y : Nat), t < k + 1 → ids[t]? = some x → ids[j]? = some y → j < t → sameA (x : Int) (y : Int) = false) := fun t j z u ht hz hu hj => by
            by_cases e : t = k
            · subst e
              rw [HX.out] at hz
              cases hz
              exact J2.out.1 j u hj hu
            · exact J.out.1 t j z u (by omega) hz hu hj
          clear hB
          go_wp2
          go_roundw
          case rel => exact ⟨k + 1, by omega, by go_num, NX.out, J2.out.2⟩
          case measure => simp [intOf]; omega
    · have hin : i = n := by omega
      subst hin
      have hi1 : ¬ (i : Int) < (i : Int) := by omega
      have GA : Hid (∀ (t k x y : Nat), ids[t]? = some x → ids[k]? = some y → k < t → sameA (x : Int) (y : Int) = false) := fun t k x y hx hy hk => J.out.1 t k x y (by
        have := (List.getElem?_eq_some_iff.1 hx).1
        rw [H.out.2.2.2.2.2.1] at this
        exact this) hx hy hk
      go_wp2_with fail
      refine (rsides_any a' n' c' es wr (H.out.2.1.below J.out.2) H.out.2.2.2.2.1).mono ?_
      rintro _ W1 ⟨⟨v, rfl, o1⟩, b1⟩
      obtain ⟨sa, sc, rfl, hS, _⟩ := o1.form
      obtain ⟨m, hm⟩ : ∃ m, (sidesE es).length = m := ⟨_, rfl⟩
      rw [hm] at hS
      have hmi := hS.int
      have K : Hid (SlAt eS W1 sa m sc (sidesE es) ∧ (sidesE es).length = m ∧ Below w.heap.size w W1) := ⟨hS, hm, below_over J.out.2 b1⟩
      rw [hm]
      clear o1 b1 hS hm J
      go_wp2_with fail
      go_loopw [8] (fun v8 wr => ∃ j : Nat, j ≤ m ∧ v8 = .int .i64 j ∧ (∀ (t : Nat) (x : Eg), t < j → (sidesE es)[t]? = some x → rbad (i : Int) x = false) ∧ (∀ (t k : Nat) (x y : Eg), t < j → (sidesE es)[t]? = some x → (sidesE es)[k]? = some y → k < t → sameP (ptE x) (ptE y) = false) ∧ Below W1.heap.size W1 wr) (fun v8 _ => m - (intOf v8).toNat)
      case atStart => exact ⟨0, by omega, rfl, fun t x ht => by omega, fun t k x y ht => by omega, Below.refl _ _⟩
      case round =>
        obtain ⟨j, hj, rfl, hlo1, hlo2, hB⟩ := hrel
        have J : Hid ((∀ (t : Nat) (x : Eg), t < j → (sidesE es)[t]? = some x → rbad (i : Int) x = false) ∧ (∀ (t k : Nat) (x y : Eg), t < j → (sidesE es)[t]? = some x → (sidesE es)[k]? = some y → k < t → sameP (ptE x) (ptE y) = false) ∧ Below W1.heap.size W1 wr) := ⟨hlo1, hlo2, hB⟩
        have hj0 : (0 : Int) ≤ (j : Int) := by omega
        clear hlo1 hlo2
        by_cases hjt : j < m
        · have hj1 : (j : Int) < (m : Int) := by omega
          have hjl : j < (sidesE es).length := by rw [K.out.2.1]; exact hjt
          obtain ⟨b, o, rfl⟩ := K.out.1.some' (by omega)
          obtain ⟨y, hy⟩ : ∃ y, (sidesE es)[j]? = some y := ⟨_, List.getElem?_eq_getElem hjl⟩
          have lp := lds (K.out.1.below hB) hy
          obtain ⟨V, sV, rV, bV⟩ := SvAt.put wr y
          have c0 := rV.cell 0 (.int .i64 y.a) rfl
          have c1 := rV.cell 1 (.int .i64 y.pa) rfl
          have c2 := rV.cell 2 (.int .u32 y.ca) rfl
          have c3 := rV.cell 3 (.int .i64 y.b) rfl
          have HY : Hid ((sidesE es)[j]? = some y ∧ RvAt V wr.heap.size 64 y.ss ∧ Below W1.heap.size W1 V) := ⟨hy, rV, below_over hB bV⟩
          clear hB hjl hy rV bV
          have BAD : Hid (rbad (i : Int) y = true → E = 160 ∧ Below w.heap.size w V) := fun e => ⟨YB.out j y HY.out.1 e, below_over K.out.2.2 HY.out.2.2⟩
          by_cases q1 : y.a < 0
          · have YE : Hid _ := BAD.out (by simp [rbad, q1])
            go_wp2
            go_ret
            exact ⟨by rw [YE.out.1]; rfl, YE.out.2⟩
          by_cases q2 : (i : Int) ≤ y.a
          · have YE : Hid _ := BAD.out (by simp [rbad, q2])
            go_wp2
            go_ret
            exact ⟨by rw [YE.out.1]; rfl, YE.out.2⟩
          cases q3 : (y.a == y.b)
          rotate_left
          · have YE : Hid _ := BAD.out (by simp [rbad, q3])
            go_wp2
            go_ret
            exact ⟨by rw [YE.out.1]; rfl, YE.out.2⟩
          by_cases q4 : y.pa < 0
          · have YE : Hid _ := BAD.out (by simp [rbad, q4])
            go_wp2
            go_ret
            exact ⟨by rw [YE.out.1]; rfl, YE.out.2⟩
          by_cases q5 : y.pa > 7
          · have YE : Hid _ := BAD.out (by simp [rbad, q5])
            go_wp2
            go_ret
            exact ⟨by rw [YE.out.1]; rfl, YE.out.2⟩
          by_cases q6 : y.ca < 1
          · have YE : Hid _ := BAD.out (by simp [rbad, q6])
            go_wp2
            go_ret
            exact ⟨by rw [YE.out.1]; rfl, YE.out.2⟩
          by_cases q7 : y.ca > 200000000
          · have YE : Hid _ := BAD.out (by simp [rbad, q7])
            go_wp2
            go_ret
            exact ⟨by rw [YE.out.1]; rfl, YE.out.2⟩
          have GD : Hid (rbad (i : Int) y = false) := by
            show _ = _
            simp [rbad, q1, q2, q3, q4, q5, q6, q7]
          have RC : Hid (RvAt V wr.heap.size 64 y.ss) := HY.out.2.1
          go_wp2_with fail
          clear c0 c1 c2 c3 sV lp
          go_loopw [10] (fun v10 wx => ∃ k : Nat, k ≤ j ∧ v10 = .int .i64 k ∧ (∀ (t : Nat) (x : Eg), t < k → (sidesE es)[t]? = some x → sameP (ptE y) (ptE x) = false) ∧ Below V.heap.size V wx) (fun v10 _ => j - (intOf v10).toNat)
          case atStart => exact ⟨0, by omega, rfl, fun t x ht => by omega, Below.refl _ _⟩
          case round =>
            rename_i wx
            obtain ⟨k, hk, rfl, hlow, hB⟩ := hrel
            obtain ⟨U, rfl⟩ : ∃ U, U = wr := ⟨_, rfl⟩
            have J2 : Hid ((∀ (t : Nat) (x : Eg), t < k → (sidesE es)[t]? = some x → sameP (ptE y) (ptE x) = false) ∧ Below V.heap.size V U) := ⟨hlow, hB⟩
            have hk0 : (0 : Int) ≤ (k : Int) := by omega
            clear hlow
            by_cases hkt : k < j
            · have hk1 : (k : Int) < (j : Int) := by omega
              have hk2 : (k : Int) < (m : Int) := by omega
              have hkl : k < (sidesE es).length := by rw [K.out.2.1]; omega
              obtain ⟨z, hz⟩ : ∃ z, (sidesE es)[k]? = some z := ⟨_, List.getElem?_eq_getElem hkl⟩
              have d0 := fun q : Later U => (((RC.out.below hB).below q.below)).cell 0 (.int .i64 y.a) rfl
              have d1 := fun q : Later U => (((RC.out.below hB).below q.below)).cell 1 (.int .i64 y.pa) rfl
              have e0 := fun q : Later U => lds0 (((K.out.1.below HY.out.2.2).below hB).below q.below) hz
              have e1 := fun q : Later U => lds1 (((K.out.1.below HY.out.2.2).below hB).below q.below) hz
              have HZ : Hid ((sidesE es)[k]? = some z) := hz
              clear hB hkl hz
              have NX : sameP (ptE y) (ptE z) = false → ∀ (t : Nat) (x : Eg), t < k + 1 → (sidesE es)[t]? = some x → sameP (ptE y) (ptE x) = false := fun e t x ht hx => by
                by_cases et : t = k
                · subst et
                  rw [HZ.out] at hx
                  cases hx
                  exact e
                · exact J2.out.1 t x (by omega) hx
              cases r1 : (z.a == y.a)
              · have NX2 : Hid (∀ (t : Nat) (x : Eg), t < k + 1 → (sidesE es)[t]? = some x → sameP (ptE y) (ptE x) = false) := NX (by
                  have := beq_eq_false_iff_ne.1 r1
                  exact decide_eq_false (fun e => this e.1.symm))
                clear NX
                go_wp2_with fail
                refine wp_region_later (by kernel_rfl) (by kernel_rfl) ?_
                repeat (go_big_quiet_step (first | exact rfl))
                refine wpQuiet_nil ?_
                intro _ hw'
                obtain ⟨q, rfl⟩ := hw'
                go_wp2
                go_roundw
                case rel => exact ⟨k + 1, by omega, by go_num, NX2.out, below_later J2.out.2 q⟩
                case measure => simp [intOf]; omega
              · cases r2 : (z.pa == y.pa)
                · have NX2 : Hid (∀ (t : Nat) (x : Eg), t < k + 1 → (sidesE es)[t]? = some x → sameP (ptE y) (ptE x) = false) := NX (by
                    have := beq_eq_false_iff_ne.1 r2
                    exact decide_eq_false (fun e => this e.2.symm))
                  clear NX
                  go_wp2_with fail
                  refine wp_region_later (by kernel_rfl) (by kernel_rfl) ?_
                  repeat (go_big_quiet_step (first | exact rfl))
                  refine wpQuiet_nil ?_
                  intro _ hw'
                  obtain ⟨q, rfl⟩ := hw'
                  go_wp2
                  go_roundw
                  case rel => exact ⟨k + 1, by omega, by go_num, NX2.out, below_later J2.out.2 q⟩
                  case measure => simp [intOf]; omega
                · have YE : Hid (E = 160) := YC.out j k y z HY.out.1 HZ.out hkt (by
                    have h1 := beq_iff_eq.1 r1
                    have h2 := beq_iff_eq.1 r2
                    simp [sameP, ptE, h1, h2])
                  clear NX
                  go_wp2_with fail
                  refine wp_region_later (by kernel_rfl) (by kernel_rfl) ?_
                  repeat (go_big_quiet_step (first | exact rfl))
                  refine wpQuiet_nil ?_
                  intro _ hw'
                  obtain ⟨q, rfl⟩ := hw'
                  go_wp2
                  go_ret
                  exact ⟨by rw [YE.out]; rfl, below_later (below_over (below_over K.out.2.2 HY.out.2.2) J2.out.2) q⟩
            · have hki : k = j := by omega
              subst hki
              have hk1 : ¬ (k : Int) < (k : Int) := by omega
              have NX : Hid ((∀ (t : Nat) (x : Eg), t < k + 1 → (sidesE es)[t]? = some x → rbad (i : Int) x = false) ∧ (∀ (t j : Nat) (x y : Eg), t < k + 1 → (sidesE es)[t]? = some x → (sidesE es)[j]? = some y → j < t → sameP (ptE x) (ptE y) = false)) := ⟨fun t x ht hx => by
                by_cases e : t = k
                · subst e
                  rw [HY.out.1] at hx
                  cases hx
                  exact GD.out
                · exact J.out.1 t x (by omega) hx, fun t r x u ht hx hu hr => by
                by_cases e : t = k
                · subst e
                  rw [HY.out.1] at hx
                  cases hx
                  exact J2.out.1 r u hr hu
                · exact J.out.2.1 t r x u (by omega) hx hu hr⟩
              clear hB
              go_wp2
              go_roundw
              case rel => exact ⟨k + 1, by omega, by go_num, NX.out.1, NX.out.2, below_over HY.out.2.2 J2.out.2⟩
              case measure => simp [intOf]; omega
        · have hjm : j = m := by omega
          subst hjm
          have hj1 : ¬ (j : Int) < (j : Int) := by omega
          have EE : Hid (E = 0) := NO.out GA.out (fun t x hx => J.out.1 t x (by
            have := (List.getElem?_eq_some_iff.1 hx).1
            rw [K.out.2.1] at this
            exact this) hx) (fun t k x y hx hy hk => J.out.2.1 t k x y (by
            have := (List.getElem?_eq_some_iff.1 hx).1
            rw [K.out.2.1] at this
            exact this) hx hy hk)
          clear hB
          go_wp2
          go_ret
          exact ⟨by rw [EE.out]; rfl, below_over K.out.2.2 J.out.2.2⟩
end Go.Proofs.Ytcagdfdhpbeolaa
