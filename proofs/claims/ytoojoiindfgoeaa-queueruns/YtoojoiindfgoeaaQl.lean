/-
  Walks of Len, Room, Clear, All and Fork, each for every input.
-/
import Derived.Test.YtoojoiindfgoeaaQr
namespace Go.Proofs.Ytoojoiindfgoeaa
set_option linter.unusedVariables false
set_option maxRecDepth 4000
set_option linter.unusedSimpArgs false
open Go.RowKit Go.Conc
attribute [local go_sem ↓] apU apL bsU bsL
attribute [local go_sem] bzU bzL gives_value b1L

theorem QAt.len {w W : World} {b c cap : Nat} {rr : List Sl} {L : List (List Int)} {s r : Nat} (h : QAt w W b c cap rr L s r) (ty : TypeId) : (Builtin.len_ #[48] ty #[.chan (some c)]).run Try.prog W = .ok (.int .i64 L.length) W := by
  have := run_len_chan (P := Try.prog) 48 ty Try.underlying48 h.ch
  rw [this, List.size_toArray, List.length_map, h.rlen]
  rfl
theorem QAt.cp {w W : World} {b c cap : Nat} {rr : List Sl} {L : List (List Int)} {s r : Nat} (h : QAt w W b c cap rr L s r) (ty : TypeId) : (Builtin.cap_ #[48] ty #[.chan (some c)]).run Try.prog W = .ok (.int .i64 cap) W :=
  run_cap_chan (P := Try.prog) 48 ty Try.underlying48 h.ch
set_option maxHeartbeats 2000000 in
theorem len_any {w W : World} {b c cap : Nat} {rr : List Sl} {L : List (List Int)} {s r : Nat} (h : QAt w W b c cap rr L s r) :
    Calls Try.prog 15 #[.pointer (some ⟨b, 0, none⟩)] W fun e W' => e = .returned (.int .i64 L.length) ∧ W = W' := by
  have HQ : Hid (QAt w W b c cap rr L s r) := h
  have l0 := h.ld
  have hl := h.len
  clear h
  go_enter Try.func15, Try.ntmps15
  go_wp2_with fail
  refine (some_any HQ.out.pt).mono ?_
  rintro _ _ ⟨rfl, rfl⟩
  go_wp2
  go_ret
  exact ⟨rfl, rfl⟩
set_option maxHeartbeats 2000000 in
theorem room_any {w W : World} {b c cap : Nat} {rr : List Sl} {L : List (List Int)} {s r : Nat} (h : QAt w W b c cap rr L s r) :
    Calls Try.prog 16 #[.pointer (some ⟨b, 0, none⟩)] W fun e W' => e = .returned (.int .i64 ((cap : Int) - L.length)) ∧ Below W.heap.size W W' := by
  have HQ : Hid (QAt w W b c cap rr L s r) := h
  have l0 := fun q : Later W => (h.below q.below).ld
  have hl := fun q : Later W => (h.below q.below).len
  have hc := fun q : Later W => (h.below q.below).cp
  obtain ⟨n, hn⟩ : ∃ e, L.length = e := ⟨_, rfl⟩
  have hk := h.cap
  rw [hn] at hk hl
  rw [hn]
  have h1 : (0 : Int) ≤ (cap : Int) - n := by omega
  have h2 : (cap : Int) - n ≤ 32 := by omega
  clear h
  go_enter Try.func16, Try.ntmps16
  go_wp2_with fail
  refine (some_any HQ.out.pt).mono ?_
  rintro _ _ ⟨rfl, rfl⟩
  go_wp2_with fail
  refine wp_region_later (by kernel_rfl) (by kernel_rfl) ?_
  repeat (go_big_quiet_step (first | exact rfl))
  refine wpQuiet_nil ?_
  intro _ hw'
  obtain ⟨q, rfl⟩ := hw'
  go_wp2
  go_ret
  exact ⟨rfl, q.below⟩
/-- Take, told without saying which. -/
theorem take_dec {w W : World} {b c cap : Nat} {rr : List Sl} {L : List (List Int)} {s r : Nat} (h : QAt w W b c cap rr L s r) :
    Calls Try.prog 11 #[.pointer (some ⟨b, 0, none⟩)] W fun e W' => ∃ v, e = .returned (.tuple #[v, .bool (decide (0 < L.length))]) ∧ (∃ s' r', QAt w W' b c cap (rr.drop 1) (L.drop 1) s' r') ∧ W.grownBy W' (some c) := by
  refine (take_any h).mono fun e W' hT => ?_
  cases L with
  | nil =>
    obtain ⟨rfl, s', r', q⟩ := hT.none rfl
    refine ⟨_, rfl, ⟨s', r', ?_⟩, hT.gr⟩
    have hr : rr = [] := List.eq_nil_of_length_eq_zero h.rlen
    rw [hr]
    exact q
  | cons l L =>
    obtain ⟨x, rr', rfl, rfl, _, s', r', q⟩ := hT.some l L rfl
    exact ⟨x.v, by rw [decide_eq_true (show 0 < (l :: L).length from Nat.succ_pos _)], ⟨s', r', q⟩, hT.gr⟩
set_option maxHeartbeats 4000000 in
theorem clear_any {w W : World} {b c cap : Nat} {rr : List Sl} {L : List (List Int)} {s r : Nat} (h : QAt w W b c cap rr L s r) :
    Calls Try.prog 13 #[.pointer (some ⟨b, 0, none⟩)] W fun e W' => e = .returned (.int .i64 L.length) ∧ (∃ s' r', QAt w W' b c cap [] [] s' r') ∧ W.grownBy W' (some c) := by
  have HQ : Hid (QAt w W b c cap rr L s r) := h
  obtain ⟨n, hn⟩ : ∃ e, L.length = e := ⟨_, rfl⟩
  have HN : Hid (L.length = n ∧ n ≤ 32 ∧ rr.length = n) := ⟨hn, by have := h.cap; omega, by rw [h.rlen]; exact hn⟩
  have hn32 := HN.out.2.1
  rw [hn]
  clear h hn
  go_enter Try.func13, Try.ntmps13
  go_wp2_with fail
  refine (take_dec HQ.out).mono ?_
  rintro _ X ⟨v, rfl, ⟨s1, r1, q1⟩, g1⟩
  have K1 : Hid (QAt w X b c cap (rr.drop (0 + 1)) (L.drop (0 + 1)) s1 r1 ∧ W.grownBy X (some c)) := ⟨q1, g1⟩
  rw [HN.out.1]
  clear q1 g1
  go_wp2_with fail
  go_loopw [3, 5] (fun u v wr => ∃ i : Nat, i ≤ n ∧ u = .int .i64 i ∧ v = .bool (decide (i < n)) ∧ (∃ s' r', QAt w wr b c cap (rr.drop (i + 1)) (L.drop (i + 1)) s' r') ∧ W.grownBy wr (some c)) (fun u _ _ => n - (intOf u).toNat)
  case atStart => exact ⟨0, by omega, rfl, rfl, ⟨_, _, K1.out.1⟩, K1.out.2⟩
  case round =>
    obtain ⟨i, hi, rfl, rfl, ⟨s', r', hq⟩, hg⟩ := hrel
    have J : Hid (QAt w wr b c cap (rr.drop (i + 1)) (L.drop (i + 1)) s' r' ∧ W.grownBy wr (some c)) := ⟨hq, hg⟩
    have hi0 : (0 : Int) ≤ (i : Int) := by omega
    clear hq hg
    by_cases hit : i < n
    · have hd : decide (i < n) = true := by simp [hit]
      have hi1 : (i : Int) < 32 := by omega
      rw [hd]
      go_wp2_with fail
      refine (take_dec J.out.1).mono ?_
      rintro _ V ⟨u, rfl, ⟨s2, r2, q2⟩, g2⟩
      have K2 : Hid (QAt w V b c cap (rr.drop (i + 1 + 1)) (L.drop (i + 1 + 1)) s2 r2 ∧ W.grownBy V (some c)) := ⟨by rw [List.drop_drop, List.drop_drop] at q2; exact q2, grown_self J.out.2 g2⟩
      have hd2 : decide (0 < (L.drop (i + 1)).length) = decide (i + 1 < n) := by
        rw [List.length_drop, HN.out.1]
        by_cases h : i + 1 < n
        · rw [decide_eq_true h, decide_eq_true (by omega)]
        · rw [decide_eq_false h, decide_eq_false (by omega)]
      rw [hd2]
      obtain ⟨D, hD⟩ : ∃ e, decide (i + 1 < n) = e := ⟨_, rfl⟩
      have HD : Hid (decide (i + 1 < n) = D) := hD
      rw [hD]
      clear q2 g2 hd2 hd hD
      go_wp2
      go_roundw
      case rel => exact ⟨i + 1, by omega, by go_num, by rw [HD.out], ⟨_, _, K2.out.1⟩, K2.out.2⟩
      case measure => simp [intOf]; omega
    · have hd : decide (i < n) = false := by simp [hit]
      rw [hd]
      obtain rfl : i = n := by omega
      have E : Hid ((∃ s' r', QAt w wr b c cap [] [] s' r') ∧ W.grownBy wr (some c)) := by
        have hq := J.out.1
        have h1 : rr.drop (i + 1) = [] := List.drop_of_length_le (by rw [HN.out.2.2]; omega)
        have h2 : L.drop (i + 1) = [] := List.drop_of_length_le (by rw [HN.out.1]; omega)
        rw [h1, h2] at hq
        exact ⟨⟨_, _, hq⟩, J.out.2⟩
      clear hd hit
      go_wp2
      go_ret
      exact ⟨rfl, E.out⟩
/-- What All makes of a queue. -/
structure AllOut (w W : World) (b c cap : Nat) (rr : List Sl) (L : List (List Int)) (e : Ending) (W' : World) : Prop where
  is : ∃ v tt, e = .returned v ∧ Own eS W' W.heap.size v tt ∧ Al (OwnS W' W.heap.size) tt L
  at_ : ∃ s r, QAt w W' b c cap rr L s r
  gr : W.grownBy W' (some c)
/-- Ahead of each round of All. -/
structure AlI (w W V : World) (b c cap : Nat) (rr : List Sl) (L : List (List Int)) (i : Nat) (v : Value) : Prop where
  q : ∃ s r, QAt w V b c cap (rr.drop i ++ rr.take i) (L.drop i ++ L.take i) s r
  o : ∃ tt, Own eS V W.heap.size v tt ∧ Al (OwnS V W.heap.size) tt (L.take i)
  g : W.grownBy V (some c)
theorem al_drop {α β : Type} {R : α → β → Prop} : ∀ {r : List α} {l : List β} (i : Nat), Al R r l → Al R (r.drop i) (l.drop i)
  | _, _, 0, h => h
  | [], [], _ + 1, _ => trivial
  | _ :: r, _ :: l, i + 1, h => al_drop i h.2
  | [], _ :: _, _, h => h.elim
  | _ :: _, [], _, h => h.elim
/-- Frames turned about: the first behind the others. -/
theorem turn_one {α : Type} {L : List α} {i : Nat} {l : α} (hl : L[i]? = some l) : L.drop i ++ L.take i = l :: (L.drop (i + 1) ++ L.take i) := by
  obtain ⟨h, rfl⟩ := List.getElem?_eq_some_iff.1 hl
  rw [List.drop_eq_getElem_cons h]
  rfl
theorem turn_next {α : Type} {L : List α} {i : Nat} {l : α} (hl : L[i]? = some l) : L.drop (i + 1) ++ L.take i ++ [l] = L.drop (i + 1) ++ L.take (i + 1) := by
  rw [List.take_add_one, hl, List.append_assoc]
  rfl
set_option maxHeartbeats 8000000 in
theorem all_any {w W : World} {b c cap : Nat} {rr : List Sl} {L : List (List Int)} {s r : Nat} (h : QAt w W b c cap rr L s r) :
    Calls Try.prog 18 #[.pointer (some ⟨b, 0, none⟩)] W fun e W' => AllOut w W b c cap rr L e W' := by
  have HQ : Hid (QAt w W b c cap rr L s r) := h
  obtain ⟨n, hn⟩ : ∃ e, L.length = e := ⟨_, rfl⟩
  have HN : Hid (L.length = n ∧ n ≤ 32 ∧ rr.length = n) := ⟨hn, by have := h.cap; omega, by rw [h.rlen]; exact hn⟩
  have hn32 := HN.out.2.1
  clear h hn
  go_enter Try.func18, Try.ntmps18
  go_wp2_with fail
  refine (len_any HQ.out).mono ?_
  rintro _ _ ⟨rfl, rfl⟩
  rw [HN.out.1]
  go_wp2_with fail
  go_loopw [3, 8] (fun v u wr => ∃ i : Nat, i ≤ n ∧ u = .int .i64 i ∧ AlI w W wr b c cap rr L i v) (fun _ u _ => n - (intOf u).toNat)
  case atStart => exact ⟨0, by omega, rfl, ⟨⟨s, r, by simpa using HQ.out⟩, ⟨[], Own.nil _ _, trivial⟩, grown_of_below (Below.refl _ _) _⟩⟩
  case round =>
    obtain ⟨i, hi, rfl, hI⟩ := hrel
    obtain ⟨v, hv⟩ : ∃ e, u3 = e := ⟨_, rfl⟩
    rw [hv] at hI ⊢
    clear hv
    have J : Hid (AlI w W wr b c cap rr L i v) := hI
    have hi0 : (0 : Int) ≤ (i : Int) := by omega
    clear hI
    by_cases hit : i < n
    · have hi1 : (i : Int) < (n : Int) := by omega
      obtain ⟨x, hx⟩ : ∃ e, rr[i]? = some e := ⟨_, List.getElem?_eq_getElem (by rw [HN.out.2.2]; exact hit)⟩
      obtain ⟨l, hl⟩ : ∃ e, L[i]? = some e := ⟨_, List.getElem?_eq_getElem (by rw [HN.out.1]; exact hit)⟩
      have HX : Hid (rr[i]? = some x ∧ L[i]? = some l ∧ i < n) := ⟨hx, hl, hit⟩
      obtain ⟨⟨s1, r1, q1⟩, ⟨tt, ot, at_⟩, g1⟩ := J.out
      have hxl : l.length ≤ 2048 := q1.sz l (by rw [turn_one hl]; exact List.mem_cons_self ..)
      have HJ : Hid (QAt w wr b c cap (rr.drop i ++ rr.take i) (L.drop i ++ L.take i) s1 r1 ∧ Own eS wr W.heap.size v tt ∧ Al (OwnS wr W.heap.size) tt (L.take i) ∧ W.grownBy wr (some c) ∧ l.length ≤ 2048) := ⟨q1, ot, at_, g1, hxl⟩
      clear q1 ot at_ g1 hxl hx hl hit
      go_wp2_with fail
      refine (take_any HJ.out.1).mono ?_
      intro e V2 hT
      obtain ⟨x', rr', hxx, rfl, ox, s2, r2, q2⟩ := hT.some l (L.drop (i + 1) ++ L.take i) (turn_one HX.out.2.1)
      rw [turn_one HX.out.1] at hxx
      obtain ⟨rfl, rfl⟩ := List.cons.inj hxx
      have hg2 := hT.gr
      have K2 : Hid (QAt w V2 b c cap (rr.drop (i + 1) ++ rr.take i) (L.drop (i + 1) ++ L.take i) s2 r2 ∧ OwnS V2 w.heap.size x l ∧ Own eS V2 W.heap.size v tt ∧ Al (OwnS V2 W.heap.size) tt (L.take i) ∧ W.grownBy V2 (some c)) := ⟨q2, ox, HJ.out.2.1.chan HJ.out.1.ch hg2, HJ.out.2.2.1.mono fun y m hh => Own.chan (e := eU) hh HJ.out.1.ch hg2, grown_self HJ.out.2.2.2.1 hg2⟩
      clear hT hxx ox q2 hg2
      go_wp2_with fail
      refine (clone_any x.a x.n x.c l V2 K2.out.2.1.src (by have := (K2.out.2.1.src).len; have := HJ.out.2.2.2.2; omega)).mono ?_
      rintro _ X ⟨y, rfl, oy, bX⟩
      obtain ⟨v', X', ap, o', oy', g', b'⟩ := rows_next (W := X) (K2.out.2.2.1.below bX) oy (fun g hg => (K2.out.2.2.1.blk g hg).2) (Nat.le_trans K2.out.2.2.2.2.size bX.size) (by rw [K2.out.2.2.2.1.len, List.length_take]; omega) 27
      have hvb : ∀ g, v.ownBlock = some g → W.heap.size ≤ g := fun g hg => (K2.out.2.2.1.blk g hg).1
      have hWb : W.heap.size ≤ V2.heap.size := K2.out.2.2.2.2.size
      have Q3 := (K2.out.1.below bX).keep g' (fun g hg => by
        have h1 := hvb g hg
        have h2 := HQ.out.bel.size
        have h3 := HQ.out.pt.lt
        have h4 := lt_of_block HQ.out.ch
        refine ⟨by omega, by omega, by omega, fun z hz e => ?_⟩
        obtain ⟨c1, q1⟩ := Own.kind (K2.out.2.2.1.below bX) hg
        obtain ⟨j, hj, ej⟩ := List.getElem_of_mem hz
        have := (K2.out.1.below bX).al.at' j z _ (by rw [← ej]; exact List.getElem?_eq_getElem hj) (List.getElem?_eq_getElem (by rw [← K2.out.1.rlen]; exact hj))
        obtain ⟨c2, q2⟩ := Own.kind (e := eU) this e
        rw [q1] at q2
        cases q2)
      have ox3 : OwnS X' w.heap.size x l := (K2.out.2.1.below bX).apart (K2.out.2.2.1.below bX) g'
      have al3 : Al (OwnS X' W.heap.size) tt (L.take i) := K2.out.2.2.2.1.mono fun z m hh => (OwnS.below hh bX).apart (K2.out.2.2.1.below bX) g'
      have K3 : Hid (QAt w X' b c cap (rr.drop (i + 1) ++ rr.take i) (L.drop (i + 1) ++ L.take i) s2 r2 ∧ OwnS X' w.heap.size x l ∧ Own eS X' W.heap.size v' (tt ++ [y]) ∧ Al (OwnS X' W.heap.size) (tt ++ [y]) (L.take i ++ [l]) ∧ W.grownBy X' (some c)) := ⟨Q3, ox3, o', al3.snoc (oy'.base hWb), grown_over (grown_over K2.out.2.2.2.2 (grown_of_below bX none) (fun g e => by cases e)) g' hvb⟩
      clear Q3 ox3 al3 o' oy' g' b' oy bX hvb hWb
      go_wp2_with fail
      clear ap
      refine (pput_any K3.out.1 K3.out.2.1 HJ.out.2.2.2.2).mono ?_
      intro e Y hP
      obtain ⟨rfl, q4⟩ := hP.yes (by
        have h1 := HQ.out.cap.1
        have h2 := HX.out.2.2
        have h3 := HN.out
        rw [List.length_append, List.length_drop, List.length_take]
        omega)
      rw [turn_next HX.out.1, turn_next HX.out.2.1] at q4
      have hg4 := hP.gr
      have K4 : Hid (AlI w W Y b c cap rr L (i + 1) v') := ⟨⟨_, _, q4⟩, ⟨tt ++ [y], K3.out.2.2.1.chan K3.out.1.ch hg4, by
        have : L.take (i + 1) = L.take i ++ [l] := by rw [List.take_add_one, HX.out.2.1]; rfl
        rw [this]
        exact K3.out.2.2.2.1.mono fun z m hh => Own.chan (e := eU) hh K3.out.1.ch hg4⟩, grown_self K3.out.2.2.2.2 hg4⟩
      clear hP q4 hg4
      have hin := HX.out.2.2
      go_wp2
      go_roundw
      case rel => exact ⟨i + 1, by omega, by go_num, K4.out⟩
      case measure => simp [intOf]; omega
    · obtain rfl : i = n := by omega
      have hi1 : ¬ (i : Int) < (i : Int) := by omega
      have E : Hid (AllOut w W b c cap rr L (.returned v) wr) := by
        obtain ⟨⟨s1, r1, q1⟩, ⟨tt, ot, at_⟩, g1⟩ := J.out
        have h1 : rr.drop i = [] := List.drop_of_length_le (by rw [HN.out.2.2]; exact Nat.le_refl _)
        have h2 : L.drop i = [] := List.drop_of_length_le (by rw [HN.out.1]; exact Nat.le_refl _)
        have h3 : rr.take i = rr := List.take_of_length_le (by rw [HN.out.2.2]; exact Nat.le_refl _)
        have h4 : L.take i = L := List.take_of_length_le (by rw [HN.out.1]; exact Nat.le_refl _)
        rw [h1, h2, h3, h4] at q1
        rw [h4] at at_
        exact ⟨⟨v, tt, rfl, ot, at_⟩, ⟨s1, r1, q1⟩, g1⟩
      clear hit
      go_wp2
      go_ret
      exact E.out
end Go.Proofs.Ytoojoiindfgoeaa
