/-
  The definition's ahead, without and with: their walks, for every row of entries.
-/
import Derived.Test.YtoelpbajaadfeaaRf
namespace Go.Proofs.Ytoelpbajaadfeaa
set_option linter.unusedVariables false
set_option maxRecDepth 4000
set_option linter.unusedSimpArgs false
open Go.RowKit

attribute [local go_sem ↓] ldK stK ldM stM ldP stP ldE stE apE ldR stR
theorem two_en (w : World) (x y : En) : ∃ W, (w.alloc (.cells x.cs 51)).alloc (.cells y.cs 51) = W ∧ RvAt W w.heap.size 51 x.cs ∧ RvAt W (w.heap.size + 1) 51 y.cs ∧ Below w.heap.size w W :=
  ⟨_, rfl, (RvAt.new w _ _).below ((Below.refl _ _).alloc (Nat.le_refl _) _), by have := RvAt.new (w.alloc (.cells x.cs 51)) 51 y.cs; simpa using this, ((Below.refl _ _).alloc (Nat.le_refl _) _).alloc (by simp) _⟩
set_option maxHeartbeats 2000000 in
theorem rahead_any (x y : En) (w : World) (hx : x.wf) (hy : y.wf) :
    Calls Try.prog 55 #[.agg x.cs, .agg y.cs] w fun r w' => r = .returned (.bool (decide (x.rk < y.rk))) ∧ Below w.heap.size w w' := by
  obtain ⟨W, hW, r1, r2, bW⟩ := two_en w x y
  have a0 := r1.cell 0 (.int .i64 x.k.vid) rfl
  have b0 := r2.cell 0 (.int .i64 y.k.vid) rfl
  have fm := fun q : Later W => (r1.below q.below).emac
  have gm := fun q : Later W => (r2.below q.below).emac
  have R := Ky.rk_lt hx.k hy.k
  have HR : Hid (x.rk < y.rk ↔ x.k.vid < y.k.vid ∨ x.k.vid = y.k.vid ∧ x.k.num < y.k.num) := R
  have H : Hid (Below w.heap.size w W ∧ x.wf ∧ y.wf) := ⟨bW, hx, hy⟩
  clear r1 r2 bW hx hy R
  by_cases hv : x.k.vid = y.k.vid
  · have NX : Hid (∀ q : Later W, Calls Try.prog 70 #[.agg #[.int .u8 x.k.a, .int .u8 x.k.b, .int .u8 x.k.c, .int .u8 x.k.d, .int .u8 x.k.e, .int .u8 x.k.f]] q.val fun r w' => r = .returned (.int .u64 x.k.num) ∧ Below q.val.heap.size q.val w') := fun q => number_ref _ _ _ _ _ _ _ H.out.2.1.k.a H.out.2.1.k.b H.out.2.1.k.c H.out.2.1.k.d H.out.2.1.k.e H.out.2.1.k.f
    have NY : Hid (∀ q : Later W, Calls Try.prog 70 #[.agg #[.int .u8 y.k.a, .int .u8 y.k.b, .int .u8 y.k.c, .int .u8 y.k.d, .int .u8 y.k.e, .int .u8 y.k.f]] q.val fun r w' => r = .returned (.int .u64 y.k.num) ∧ Below q.val.heap.size q.val w') := fun q => number_ref _ _ _ _ _ _ _ H.out.2.2.k.a H.out.2.2.k.b H.out.2.2.k.c H.out.2.2.k.d H.out.2.2.k.e H.out.2.2.k.f
    go_enter Try.func55, Try.ntmps55
    go_wp2_with fail
    refine wp_region_later (by kernel_rfl) (by kernel_rfl) ?_
    repeat (go_big_quiet_step (first | exact rfl | (go_at_call 70; with_reducible exact Calls.later_of (NX.out _)) | (go_at_call 70; with_reducible exact Calls.later_of (NY.out _))))
    refine wpQuiet_nil ?_
    intro _ hw'
    obtain ⟨q, rfl⟩ := hw'
    clear fm gm a0 b0
    go_wp2
    go_ret
    refine ⟨ret_bool ?_, below_over H.out.1 q.below⟩
    have h1 := HR.out
    by_cases h : x.k.num < y.k.num
    · simp [h, h1.2 (.inr ⟨hv, h⟩)]
    · simp only [h, decide_false]
      rw [decide_eq_false]
      intro h2
      rcases h1.1 h2 with h3 | h3
      · omega
      · exact h h3.2
  · go_enter Try.func55, Try.ntmps55
    go_wp2
    go_ret
    refine ⟨ret_bool ?_, H.out.1⟩
    have h1 := HR.out
    by_cases h : x.k.vid < y.k.vid
    · simp [h, h1.2 (.inl h)]
    · simp only [h, decide_false]
      rw [decide_eq_false]
      intro h2
      rcases h1.1 h2 with h3 | h3
      · exact h h3
      · exact hv h3.1
/-- Without one of a place, step by step. -/
theorem wo_skip {l : List En} {i j : Nat} {x : En} (hx : l[j]? = some x) (h : j ≠ i) : (l.take (j + 1)).eraseIdx i = (l.take j).eraseIdx i ++ [x] := by
  have hj := (List.getElem?_eq_some_iff.1 hx).1
  have htk : l.take (j + 1) = l.take j ++ [x] := by rw [List.take_add_one, hx]; rfl
  have hlen : (l.take j).length = j := by rw [List.length_take]; omega
  rw [htk]
  rcases Nat.lt_or_ge i j with hij | hij
  · rw [List.eraseIdx_append_of_lt_length (by omega)]
  · rw [List.eraseIdx_append_of_length_le (by omega), List.eraseIdx_of_length_le (l := l.take j) (by omega), hlen, List.eraseIdx_of_length_le (by simp; omega)]
theorem wo_hit {l : List En} {i : Nat} {x : En} (hx : l[i]? = some x) : (l.take (i + 1)).eraseIdx i = (l.take i).eraseIdx i := by
  have hj := (List.getElem?_eq_some_iff.1 hx).1
  have htk : l.take (i + 1) = l.take i ++ [x] := by rw [List.take_add_one, hx]; rfl
  have hlen : (l.take i).length = i := by rw [List.length_take]; omega
  rw [htk, List.eraseIdx_append_of_length_le (by omega), List.eraseIdx_of_length_le (l := l.take i) (by omega), hlen, Nat.sub_self]
  simp
set_option maxHeartbeats 4000000 in
theorem without_any (a : Option Addr) (n k : Nat) (l : List En) (i : Nat) (w : World) (h : SlAt w a n k l) (hn : n ≤ 1000) (hi : i ≤ 1000) :
    Calls Try.prog 45 #[.slice a n k, .int .i64 i] w fun r w' => ∃ a' m c', r = .returned (.slice a' m c') ∧ Own w' w.heap.size (.slice a' m c') (l.eraseIdx i) ∧ (l.eraseIdx i).length = m ∧ Below w.heap.size w w' := by
  have H : Hid (SlAt w a n k l ∧ n ≤ 1000 ∧ l.length = n) := ⟨h, hn, h.len⟩
  have hnn : (n : Int) ≤ 1000 := by omega
  clear h hn
  go_enter Try.func45, Try.ntmps45
  go_wp2_with fail
  go_loopw [5, 6] (fun v6 v7 wr => ∃ (j : Nat) (a6 : Option Addr) (m6 c6 : Nat), j ≤ n ∧ v7 = .int .i64 j ∧ v6 = .slice a6 m6 c6 ∧ ((l.take j).eraseIdx i).length = m6 ∧ Own wr w.heap.size (.slice a6 m6 c6) ((l.take j).eraseIdx i) ∧ Below w.heap.size w wr) (fun _ v7 _ => n - (intOf v7).toNat)
  case atStart => exact ⟨0, none, 0, 0, by omega, rfl, rfl, rfl, Own.nil _ _, Below.refl _ _⟩
  case round =>
    obtain ⟨j, a6, m6, c6, hj, rfl, rfl, hm6_, hO, hB⟩ := hrel
    have HB : Hid (Below w.heap.size w wr) := hB
    have HO : Hid (Own wr w.heap.size (.slice a6 m6 c6) ((l.take j).eraseIdx i)) := hO
    have hm6 : Hid (((l.take j).eraseIdx i).length = m6) := hm6_
    have hlen := H.out.2.2
    have hin0 : (0 : Int) ≤ (j : Int) := by omega
    by_cases hjt : j < n
    · have hin1 : (j : Int) < (n : Int) := by omega
      obtain ⟨b, o, rfl⟩ := H.out.1.some' (by omega)
      obtain ⟨x, hx⟩ : ∃ x, l[j]? = some x := ⟨_, List.getElem?_eq_getElem (by omega)⟩
      clear hB hO hm6_
      by_cases hk : j = i
      · have hkeep : Hid ((l.take (j + 1)).eraseIdx i = (l.take j).eraseIdx i) := by subst hk; exact wo_hit hx
        have hki : (j : Int) = (i : Int) := by omega
        clear hx
        go_wp2
        go_roundw
        case rel => exact ⟨j + 1, a6, m6, c6, by omega, by go_num, rfl, by rw [hkeep.out]; exact hm6.out, by rw [hkeep.out]; exact HO.out, HB.out⟩
        case measure => simp [intOf]; omega
      · have hki : ¬ ((j : Int) = (i : Int)) := by omega
        have hki2 : ((j : Int) != (i : Int)) = true := by simpa using hki
        have hkeep : Hid ((l.take (j + 1)).eraseIdx i = (l.take j).eraseIdx i ++ [x]) := wo_skip hx hk
        have lx : (ldS 51 (.pointer (some ⟨b, o + j * 14, none⟩))).run Try.prog wr = .ok (.agg #[.int .i64 x.k.vid, .int .u8 x.k.a, .int .u8 x.k.b, .int .u8 x.k.c, .int .u8 x.k.d, .int .u8 x.k.e, .int .u8 x.k.f, .int .u8 x.bm.a, .int .u8 x.bm.b, .int .u8 x.bm.c, .int .u8 x.bm.d, .int .u8 x.bm.e, .int .u8 x.bm.f, .int .i64 x.seen]) wr := (H.out.1.below HB.out).ld hx
        obtain ⟨Y1, Y2, a7, m7, c7, hY1, ap2, o2, hB2, hm7⟩ := HO.out.one x HB.out (by have h1 : ((l.take j).eraseIdx i).length ≤ (l.take j).length := List.length_eraseIdx_le _ _; have h2 := H.out.2.1; rw [List.length_take] at h1; omega)
        rw [← hkeep.out] at o2 hm7
        have G2 : Hid (Below w.heap.size w Y2 ∧ Own Y2 w.heap.size (.slice a7 m7 c7) ((l.take (j + 1)).eraseIdx i) ∧ ((l.take (j + 1)).eraseIdx i).length = m7) := ⟨hB2, o2, hm7⟩
        clear o2 hB2 hm7 hx
        go_wp2
        go_roundw
        case rel => exact ⟨j + 1, a7, m7, c7, by omega, by go_num, rfl, G2.out.2.2, G2.out.2.1, G2.out.1⟩
        case measure => simp [intOf]; omega
    · have hin : j = n := by omega
      subst hin
      have hin1 : ¬ (j : Int) < (j : Int) := by omega
      have htk : l.take j = l := List.take_of_length_le (by omega)
      have G2 : Hid (Own wr w.heap.size (.slice a6 m6 c6) (l.eraseIdx i) ∧ (l.eraseIdx i).length = m6) := by
        have h1 := HO.out
        have h2 := hm6.out
        rw [htk] at h1 h2
        exact ⟨h1, h2⟩
      clear hB hO hm6_
      go_wp2
      go_ret
      exact ⟨_, _, _, rfl, G2.out.1, G2.out.2, HB.out⟩
theorem Own.lower {W : World} {B B' : Nat} {v : Value} {l : List En} (h : Own W B v l) (hB : B' ≤ B) : Own W B' v l := by
  refine ⟨h.1, ?_⟩
  rcases h.2 with h | ⟨g, cap, cur, e, h1, h2⟩
  · exact .inl h
  · exact .inr ⟨g, cap, cur, e, Nat.le_trans hB h1, h2⟩
/-! ### one more, in its place -/
theorem ins_last {l : List En} {e : En} (h : ∀ y ∈ l, y.rk < e.rk) : ins l e = l ++ [e] := by
  unfold ins
  induction l with
  | nil => rfl
  | cons z r ih =>
    have hz := h z (by simp)
    have := ih (fun y hy => h y (List.mem_cons_of_mem _ hy))
    simp only [List.takeWhile_cons, List.dropWhile_cons, hz, decide_true, if_true, List.cons_append]
    rw [this]
theorem ins_mid {m : List En} {e x : En} (h : ∀ y ∈ m, y.rk < e.rk) (hx : ¬ x.rk < e.rk) : ins (m ++ [x]) e = m ++ [e] ++ [x] := by
  induction m with
  | nil => simp [ins, hx]
  | cons z r ih =>
    have hz := h z (by simp)
    have := ih (fun y hy => h y (List.mem_cons_of_mem _ hy))
    unfold ins at this ⊢
    simp only [List.cons_append, List.takeWhile_cons, List.dropWhile_cons, hz, decide_true, if_true]
    rw [this]
theorem ins_after {m : List En} {e x : En} (h : ∃ y ∈ m, ¬ y.rk < e.rk) : ins (m ++ [x]) e = ins m e ++ [x] := by
  induction m with
  | nil => obtain ⟨y, hy, _⟩ := h; cases hy
  | cons z r ih =>
    by_cases hz : z.rk < e.rk
    · have := ih (by
        obtain ⟨y, hy, hn⟩ := h
        rcases List.mem_cons.1 hy with rfl | hy
        · exact absurd hz hn
        · exact ⟨y, hy, hn⟩)
      unfold ins at this ⊢
      simp only [List.cons_append, List.takeWhile_cons, List.dropWhile_cons, hz, decide_true, if_true]
      rw [this]
    · unfold ins
      simp [hz]
/-- What has been collected when the rows up to j have come. -/
def Wi (l : List En) (e : En) (j : Nat) (d : Bool) (acc : List En) : Prop :=
  (d = false ∧ acc = l.take j ∧ ∀ y ∈ l.take j, y.rk < e.rk) ∨ (d = true ∧ acc = ins (l.take j) e ∧ ∃ y ∈ l.take j, ¬ y.rk < e.rk)
theorem Wi.done {l : List En} {e : En} {acc : List En} {d : Bool} {j : Nat} (h : Wi l e j d acc) (hj : l.take j = l) : (d = false ∧ acc ++ [e] = ins l e) ∨ (d = true ∧ acc = ins l e) := by
  rcases h with ⟨h1, h2, h3⟩ | ⟨h1, h2, h3⟩
  · rw [hj] at h2 h3
    exact .inl ⟨h1, by rw [ins_last h3, h2]⟩
  · rw [hj] at h2
    exact .inr ⟨h1, h2⟩
theorem Wi.len {l : List En} {e : En} {acc : List En} {d : Bool} {j : Nat} (h : Wi l e j d acc) : acc.length ≤ l.length + 1 := by
  have h0 : (l.take j).length ≤ l.length := by rw [List.length_take]; omega
  rcases h with ⟨h1, h2, h3⟩ | ⟨h1, h2, h3⟩
  · rw [h2]; omega
  · rw [h2, length_ins]; omega
set_option maxHeartbeats 4000000 in
theorem with_any (a : Option Addr) (n k : Nat) (l : List En) (e : En) (w : World) (h : SlAt w a n k l) (hl : Wfs l) (he : e.wf) (hne : ∀ y ∈ l, y.rk ≠ e.rk) (hn : n ≤ 998) :
    Calls Try.prog 46 #[.slice a n k, .agg e.cs] w fun r w' => ∃ a' m c', r = .returned (.slice a' m c') ∧ Own w' w.heap.size (.slice a' m c') (ins l e) ∧ (ins l e).length = m ∧ Below w.heap.size w w' := by
  obtain ⟨W1, hW⟩ : ∃ W1, w.alloc (.cells e.cs 51) = W1 := ⟨_, rfl⟩
  have bW : Below w.heap.size w W1 := by rw [← hW]; exact (Below.refl _ _).alloc (Nat.le_refl _) _
  have rE : RvAt W1 w.heap.size 51 e.cs := by rw [← hW]; exact RvAt.new _ _ _
  have zW : W1.heap.size = w.heap.size + 1 := by rw [← hW]; simp
  have H : Hid (SlAt W1 a n k l ∧ RvAt W1 w.heap.size 51 e.cs ∧ Wfs l ∧ e.wf ∧ (∀ y ∈ l, y.rk ≠ e.rk) ∧ n ≤ 998 ∧ l.length = n ∧ Below w.heap.size w W1 ∧ W1.heap.size = w.heap.size + 1) := ⟨h.below bW, rE, hl, he, hne, hn, h.len, bW, zW⟩
  have hnn : (n : Int) ≤ 998 := by omega
  clear h hl he hne hn bW rE zW
  go_enter Try.func46, Try.ntmps46
  go_wp2_with fail
  go_loopw [5, 6, 7] (fun v5 v6 v7 wr => ∃ (j : Nat) (a6 : Option Addr) (m6 c6 : Nat) (d : Bool) (acc : List En), j ≤ n ∧ v7 = .int .i64 j ∧ v6 = .bool d ∧ v5 = .slice a6 m6 c6 ∧ acc.length = m6 ∧ Own wr W1.heap.size (.slice a6 m6 c6) acc ∧ Wi l e j d acc ∧ Below W1.heap.size W1 wr) (fun _ _ v7 _ => n - (intOf v7).toNat)
  case atStart => exact ⟨0, none, 0, 0, false, [], by omega, rfl, rfl, rfl, rfl, Own.nil _ _, .inl ⟨rfl, rfl, fun y hy => by simp at hy⟩, by rw [← hW]; exact Below.refl _ _⟩
  case round =>
    obtain ⟨j, a6, m6, c6, d, acc, hj, rfl, rfl, rfl, hm6_, hO, hWi, hB⟩ := hrel
    have HB : Hid (Below W1.heap.size W1 wr) := hB
    have HO : Hid (Own wr W1.heap.size (.slice a6 m6 c6) acc) := hO
    have hm6 : Hid (acc.length = m6) := hm6_
    have HW : Hid (Wi l e j d acc) := hWi
    have hlen := H.out.2.2.2.2.2.2.1
    have hin0 : (0 : Int) ≤ (j : Int) := by omega
    have hal : Hid (acc.length ≤ 999) := by have h1 := hWi.len; have h2 := H.out.2.2.2.2.2.1; show _ ≤ _; omega
    by_cases hjt : j < n
    · have hin1 : (j : Int) < (n : Int) := by omega
      obtain ⟨b, o, rfl⟩ := H.out.1.some' (by omega)
      obtain ⟨x, hx⟩ : ∃ x, l[j]? = some x := ⟨_, List.getElem?_eq_getElem (by omega)⟩
      have htk : Hid (l.take (j + 1) = l.take j ++ [x]) := show l.take (j + 1) = l.take j ++ [x] by rw [List.take_add_one, hx]; rfl
      have hxl := List.mem_of_getElem? hx
      have hxw : Hid (x.wf ∧ x.rk ≠ e.rk) := ⟨H.out.2.2.1 x hxl, H.out.2.2.2.2.1 x hxl⟩
      have Hx : Hid (l[j]? = some x) := hx
      clear hB hO hm6_ hWi hxl hx
      cases d
      · have hall : Hid (acc = l.take j ∧ ∀ y ∈ l.take j, y.rk < e.rk) := by
          rcases HW.out with ⟨_, h⟩ | ⟨h, _⟩
          · exact h
          · cases h
        have le := fun z : Later wr => ((H.out.2.1.below HB.out).below z.below).ld rtE (En.csize e)
        have lxq := fun z : Later wr => ((H.out.1.below HB.out).below z.below).ld Hx.out
        have CA : Hid (∀ z : Later wr, Calls Try.prog 55 #[.agg e.cs, .agg x.cs] z.val fun r w' => r = .returned (.bool (decide (e.rk < x.rk))) ∧ Below z.val.heap.size z.val w') := fun z => rahead_any e x _ H.out.2.2.2.1 hxw.out.1
        by_cases hlt : e.rk < x.rk
        · have hd : decide (e.rk < x.rk) = true := decide_eq_true hlt
          simp only [hd] at CA
          have hWi2 : Hid (Wi l e (j + 1) true (acc ++ [e] ++ [x])) := by
            refine .inr ⟨rfl, ?_, ?_⟩
            · rw [htk.out, ins_mid hall.out.2 (by omega), hall.out.1]
            · rw [htk.out]
              exact ⟨x, by simp, by omega⟩
          clear hlt hd
          go_wp2_with fail
          refine wp_region_later (by kernel_rfl) (by kernel_rfl) ?_
          repeat (go_big_quiet_step (first | exact rfl | (go_at_call 55; with_reducible exact Calls.later_of (CA.out _))))
          refine wpQuiet_nil ?_
          intro _ hw'
          obtain ⟨z, rfl⟩ := hw'
          clear le lxq
          have lz : (ldS 51 (.pointer (some ⟨w.heap.size, 0, none⟩))).run Try.prog z.val = .ok (.agg #[.int .i64 e.k.vid, .int .u8 e.k.a, .int .u8 e.k.b, .int .u8 e.k.c, .int .u8 e.k.d, .int .u8 e.k.e, .int .u8 e.k.f, .int .u8 e.bm.a, .int .u8 e.bm.b, .int .u8 e.bm.c, .int .u8 e.bm.d, .int .u8 e.bm.e, .int .u8 e.bm.f, .int .i64 e.seen]) z.val := ((H.out.2.1.below HB.out).below z.below).ld rtE (En.csize e)
          obtain ⟨V1, V2, a8, m8, c8, hV1, ap1, o1, hB1, hm8⟩ := (HO.out.below z.below).one e (below_over HB.out z.below) (by have := hal.out; omega)
          have G1 : Hid (Below W1.heap.size W1 V2 ∧ Own V2 W1.heap.size (.slice a8 m8 c8) (acc ++ [e]) ∧ (acc ++ [e]).length = m8) := ⟨hB1, o1, hm8⟩
          clear o1 hB1 hm8
          have lx : (ldS 51 (.pointer (some ⟨b, o + j * 14, none⟩))).run Try.prog V2 = .ok (.agg #[.int .i64 x.k.vid, .int .u8 x.k.a, .int .u8 x.k.b, .int .u8 x.k.c, .int .u8 x.k.d, .int .u8 x.k.e, .int .u8 x.k.f, .int .u8 x.bm.a, .int .u8 x.bm.b, .int .u8 x.bm.c, .int .u8 x.bm.d, .int .u8 x.bm.e, .int .u8 x.bm.f, .int .i64 x.seen]) V2 := (H.out.1.below G1.out.1).ld Hx.out
          obtain ⟨Y1, Y2, a7, m7, c7, hY1, ap2, o2, hB2, hm7⟩ := G1.out.2.1.one x G1.out.1 (by (try simp only [List.length_append, List.length_singleton]); have := hal.out; omega)
          have G2 : Hid (Below W1.heap.size W1 Y2 ∧ Own Y2 W1.heap.size (.slice a7 m7 c7) ((acc ++ [e]) ++ [x]) ∧ ((acc ++ [e]) ++ [x]).length = m7) := ⟨hB2, o2, hm7⟩
          clear o2 hB2 hm7
          go_wp2
          go_roundw
          case rel => exact ⟨j + 1, a7, m7, c7, true, (acc ++ [e]) ++ [x], by omega, by go_num, rfl, rfl, G2.out.2.2, G2.out.2.1, hWi2.out, G2.out.1⟩
          case measure => simp [intOf]; omega
        · have hxe : x.rk < e.rk := by have := hxw.out.2; omega
          have hd : decide (e.rk < x.rk) = false := decide_eq_false hlt
          simp only [hd] at CA
          have hWi2 : Hid (Wi l e (j + 1) false (acc ++ [x])) := by
            refine .inl ⟨rfl, by rw [htk.out, hall.out.1], fun y hy => ?_⟩
            rw [htk.out] at hy
            rcases List.mem_append.1 hy with hy | hy
            · exact hall.out.2 y hy
            · rw [List.mem_singleton.1 hy]; exact hxe
          clear hlt hd hxe
          go_wp2_with fail
          refine wp_region_later (by kernel_rfl) (by kernel_rfl) ?_
          repeat (go_big_quiet_step (first | exact rfl | (go_at_call 55; with_reducible exact Calls.later_of (CA.out _))))
          refine wpQuiet_nil ?_
          intro _ hw'
          obtain ⟨z, rfl⟩ := hw'
          clear le lxq
          have lx : (ldS 51 (.pointer (some ⟨b, o + j * 14, none⟩))).run Try.prog z.val = .ok (.agg #[.int .i64 x.k.vid, .int .u8 x.k.a, .int .u8 x.k.b, .int .u8 x.k.c, .int .u8 x.k.d, .int .u8 x.k.e, .int .u8 x.k.f, .int .u8 x.bm.a, .int .u8 x.bm.b, .int .u8 x.bm.c, .int .u8 x.bm.d, .int .u8 x.bm.e, .int .u8 x.bm.f, .int .i64 x.seen]) z.val := (H.out.1.below (below_over HB.out z.below)).ld Hx.out
          obtain ⟨Y1, Y2, a7, m7, c7, hY1, ap2, o2, hB2, hm7⟩ := (HO.out.below z.below).one x (below_over HB.out z.below) (by (try simp only [List.length_append, List.length_singleton]); have := hal.out; omega)
          have G2 : Hid (Below W1.heap.size W1 Y2 ∧ Own Y2 W1.heap.size (.slice a7 m7 c7) (acc ++ [x]) ∧ (acc ++ [x]).length = m7) := ⟨hB2, o2, hm7⟩
          clear o2 hB2 hm7
          go_wp2
          go_roundw
          case rel => exact ⟨j + 1, a7, m7, c7, false, acc ++ [x], by omega, by go_num, rfl, rfl, G2.out.2.2, G2.out.2.1, hWi2.out, G2.out.1⟩
          case measure => simp [intOf]; omega
      · have hall : Hid (acc = ins (l.take j) e ∧ ∃ y ∈ l.take j, ¬ y.rk < e.rk) := by
          rcases HW.out with ⟨h, _⟩ | ⟨_, h⟩
          · cases h
          · exact h
        have hWi2 : Hid (Wi l e (j + 1) true (acc ++ [x])) := by
          refine .inr ⟨rfl, ?_, ?_⟩
          · rw [htk.out, ins_after hall.out.2, hall.out.1]
          · obtain ⟨y, hy, hn⟩ := hall.out.2
            rw [htk.out]
            exact ⟨y, List.mem_append_left _ hy, hn⟩
        go_wp2_with fail
        refine wp_region_later (by kernel_rfl) (by kernel_rfl) ?_
        repeat (go_big_quiet_step (first | exact rfl))
        refine wpQuiet_nil ?_
        intro _ hw'
        obtain ⟨z, rfl⟩ := hw'
        have lx : (ldS 51 (.pointer (some ⟨b, o + j * 14, none⟩))).run Try.prog z.val = .ok (.agg #[.int .i64 x.k.vid, .int .u8 x.k.a, .int .u8 x.k.b, .int .u8 x.k.c, .int .u8 x.k.d, .int .u8 x.k.e, .int .u8 x.k.f, .int .u8 x.bm.a, .int .u8 x.bm.b, .int .u8 x.bm.c, .int .u8 x.bm.d, .int .u8 x.bm.e, .int .u8 x.bm.f, .int .i64 x.seen]) z.val := (H.out.1.below (below_over HB.out z.below)).ld Hx.out
        obtain ⟨Y1, Y2, a7, m7, c7, hY1, ap2, o2, hB2, hm7⟩ := (HO.out.below z.below).one x (below_over HB.out z.below) (by (try simp only [List.length_append, List.length_singleton]); have := hal.out; omega)
        have G2 : Hid (Below W1.heap.size W1 Y2 ∧ Own Y2 W1.heap.size (.slice a7 m7 c7) (acc ++ [x]) ∧ (acc ++ [x]).length = m7) := ⟨hB2, o2, hm7⟩
        clear o2 hB2 hm7
        go_wp2
        go_roundw
        case rel => exact ⟨j + 1, a7, m7, c7, true, acc ++ [x], by omega, by go_num, rfl, rfl, G2.out.2.2, G2.out.2.1, hWi2.out, G2.out.1⟩
        case measure => simp [intOf]; omega
    · have hin : j = n := by omega
      subst hin
      have hin1 : ¬ (j : Int) < (j : Int) := by omega
      have htk : l.take j = l := List.take_of_length_le (by omega)
      have hz1 : Hid (Below w.heap.size w wr) := below_over H.out.2.2.2.2.2.2.2.1 HB.out
      have hfin := HW.out.done htk
      clear hB hO hm6_ hWi
      rcases hfin with ⟨rfl, hins⟩ | ⟨rfl, hins⟩
      · have lz : (ldS 51 (.pointer (some ⟨w.heap.size, 0, none⟩))).run Try.prog wr = .ok (.agg #[.int .i64 e.k.vid, .int .u8 e.k.a, .int .u8 e.k.b, .int .u8 e.k.c, .int .u8 e.k.d, .int .u8 e.k.e, .int .u8 e.k.f, .int .u8 e.bm.a, .int .u8 e.bm.b, .int .u8 e.bm.c, .int .u8 e.bm.d, .int .u8 e.bm.e, .int .u8 e.bm.f, .int .i64 e.seen]) wr := (H.out.2.1.below HB.out).ld rtE (En.csize e)
        obtain ⟨Y1, Y2, a7, m7, c7, hY1, ap2, o2, hB2, hm7⟩ := HO.out.one e HB.out (by have := hal.out; omega)
        rw [hins] at o2 hm7
        have G2 : Hid (Below W1.heap.size W1 Y2 ∧ Own Y2 W1.heap.size (.slice a7 m7 c7) (ins l e) ∧ (ins l e).length = m7) := ⟨hB2, o2, hm7⟩
        clear o2 hB2 hm7 hins
        go_wp2
        go_ret
        exact ⟨_, _, _, rfl, G2.out.2.1.lower (by have := H.out.2.2.2.2.2.2.2.2; omega), G2.out.2.2, below_over H.out.2.2.2.2.2.2.2.1 G2.out.1⟩
      · have G2 : Hid (Own wr W1.heap.size (.slice a6 m6 c6) (ins l e) ∧ (ins l e).length = m6) := by
          have h1 := HO.out
          have h2 := hm6.out
          rw [hins] at h1 h2
          exact ⟨h1, h2⟩
        clear hins
        go_wp2
        go_ret
        exact ⟨_, _, _, rfl, G2.out.1.lower (by have := H.out.2.2.2.2.2.2.2.2; omega), G2.out.2, hz1.out⟩
end Go.Proofs.Ytoelpbajaadfeaa
