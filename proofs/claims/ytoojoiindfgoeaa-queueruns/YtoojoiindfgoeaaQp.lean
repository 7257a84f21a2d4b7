/-
  Walks of New, Put, Take, Len and Room, each for every input.
-/
import Derived.Test.YtoojoiindfgoeaaQb
namespace Go.Proofs.Ytoojoiindfgoeaa
set_option linter.unusedVariables false
set_option maxRecDepth 4000
set_option linter.unusedSimpArgs false
open Go.RowKit Go.Conc
attribute [local go_sem ↓] apU apL bsU bsL
attribute [local go_sem] bzU bzL

theorem gives_value (o : Oper) (a : Act) (K : Act → World → Prop) (v : Value) (w : World) : Oper.gives o a K (.ok (.value v) w) = K (a.put o.dst v) w := rfl
attribute [local go_sem] gives_value
theorem mkC (n : Nat) (hn : n ≤ 32) (w : World) : (Instr.makeChan 48 (.int .i64 n)).run Try.prog w = .ok (.chan (some w.heap.size)) (w.alloc (.chan n #[] false 0 0 false)) := by
  have h : (Try.prog.info? 33).map (·.bytes) = some 24 := by kernel_rfl
  obtain ⟨i, hi, hb⟩ := Option.map_eq_some_iff.1 h
  exact run_makeChan (P := Try.prog) (w := w) Try.underlying48 hi .i64 n (by omega) (by rw [hb]; omega)
def putE (cap : Nat) (L : List (List Int)) (l : List Int) : Int := if 2048 < l.length then 2 else if cap ≤ L.length then 71 else 0
def putL (cap : Nat) (L : List (List Int)) (l : List Int) : List (List Int) := if 2048 < l.length then L else if cap ≤ L.length then L else L ++ [l]
theorem set_grown (W : World) (c cap : Nat) (buf : Array Value) (s r : Nat) : W.grownBy (W.setChan c cap buf false s r false) (some c) :=
  ⟨rfl, rfl, rfl, by simp [World.setChan], fun k hk hne => by simp only [World.setChan]; rw [Array.getElem?_setIfInBounds_ne (fun e => hne (by rw [e]))]⟩
/-- The channel's doing leaves the rows that wait, and the variable, as they are. -/
theorem QAt.turn {w W : World} {b c cap : Nat} {rr rr' : List Sl} {L L' : List (List Int)} {s r s' r' : Nat} (h : QAt w W b c cap rr L s r) (al : Al (OwnS W w.heap.size) rr' L') (hl : L'.length ≤ cap) (hz : ∀ l ∈ L', l.length ≤ 2048) :
    QAt w (W.setChan c cap (rr'.map Sl.v).toArray false s' r' false) b c cap rr' L' s' r' := by
  have hc := lt_of_block h.ch
  have hg := set_grown W c cap (rr'.map Sl.v).toArray s' r'
  have hbc : b ≠ c := fun e => by
    have h1 := h.ch
    have h2 := h.pt
    unfold RvAt at h2
    rw [← e, h2] at h1
    cases h1
  refine ⟨below_setChan h.bel h.lo.2 _ _ _ _ _ _, h.pt.keptBut hg (by simpa using hbc), heap_setChan W c cap _ false s' r' false hc, ?_, h.lo, ⟨hl, h.cap.2⟩, hz⟩
  refine Al.mono (fun x l hx => ?_) al
  refine Own.keptBut hx hg ?_
  cases hb : x.v.ownBlock with
  | none => exact .inl rfl
  | some g =>
    refine .inr fun e => ?_
    cases e
    rcases hx.2 with ⟨e0, _⟩ | ⟨g, cap', cur, e0, _, hg', _⟩
    · rw [e0] at hb
      cases hb
    · rw [e0] at hb
      cases hb
      rw [h.ch] at hg'
      cases hg'
/-- What New answers. -/
structure NewOut (room : Int) (w0 W : World) (e : Ending) (W' : World) : Prop where
  yes : 1 ≤ room ∧ room ≤ 32 → ∃ b c, e = .returned (.tuple #[.pointer (some ⟨b, 0, none⟩), .int .i64 0]) ∧ QAt w0 W' b c room.toNat [] [] 0 0 ∧ (W.heap.size ≤ b ∧ W.heap.size ≤ c)
  no : ¬ (1 ≤ room ∧ room ≤ 32) → e = .returned (.tuple #[.pointer none, .int .i64 210])
  bel : Below W.heap.size W W'
set_option maxHeartbeats 4000000 in
theorem new_any (room : Int) (w0 W : World) (hb : Below w0.heap.size w0 W) : Calls Try.prog 6 #[.int .i64 room] W fun e W' => NewOut room w0 W e W' := by
  by_cases h1 : room < 1
  · have HR : Hid (¬ (1 ≤ room ∧ room ≤ 32)) := by
      have : ¬ (1 ≤ room ∧ room ≤ 32) := by omega
      exact this
    go_enter Try.func6, Try.ntmps6
    go_wp2
    go_returns
    exact ⟨fun h => absurd h HR.out, fun _ => rfl, Below.refl _ _⟩
  · by_cases h2 : 32 < room
    · have HR : Hid (¬ (1 ≤ room ∧ room ≤ 32)) := by
        have : ¬ (1 ≤ room ∧ room ≤ 32) := by omega
        exact this
      go_enter Try.func6, Try.ntmps6
      go_wp2
      go_returns
      exact ⟨fun h => absurd h HR.out, fun _ => rfl, Below.refl _ _⟩
    · obtain ⟨n, rfl⟩ : ∃ n : Nat, room = (n : Int) := ⟨room.toNat, by omega⟩
      have hmc := mkC n (by omega)
      have HR : Hid (1 ≤ (n : Int) ∧ (n : Int) ≤ 32) := by
        have : 1 ≤ (n : Int) ∧ (n : Int) ≤ 32 := by omega
        exact this
      obtain ⟨U, hU⟩ : ∃ e, W.alloc (.chan n #[] false 0 0 false) = e := ⟨_, rfl⟩
      have bU : Below W.heap.size W U := by rw [← hU]; exact (Below.refl _ _).alloc (Nat.le_refl _) _
      have cU : U.heap[W.heap.size]? = some (.chan n #[] false 0 0 false) := by rw [← hU]; exact heap_alloc_new W _
      have sU : U.heap.size = W.heap.size + 1 := by rw [← hU]; simp
      obtain ⟨V, hV⟩ : ∃ e, U.alloc (.cells #[.chan (some W.heap.size)] 50) = e := ⟨_, rfl⟩
      have bV : Below U.heap.size U V := by rw [← hV]; exact (Below.refl _ _).alloc (Nat.le_refl _) _
      have pV : RvAt V U.heap.size 50 #[.chan (some W.heap.size)] := by rw [← hV]; exact RvAt.new U _ _
      have G : Hid (QAt w0 V U.heap.size W.heap.size n [] [] 0 0 ∧ Below W.heap.size W V ∧ W.heap.size ≤ U.heap.size) := by
        have hb2 := hb.size
        exact ⟨⟨below_over hb (below_over bU bV), pV, (bV.block _ (by omega)).trans cU, trivial, ⟨by omega, hb2⟩, ⟨Nat.zero_le _, by omega, by omega⟩, fun l hl => by simp at hl⟩, below_over bU bV, by omega⟩
      clear bU cU sU bV pV hb
      go_enter Try.func6, Try.ntmps6
      go_wp2
      go_returns
      exact ⟨fun _ => ⟨_, _, rfl, by rw [Int.toNat_natCast]; exact G.out.1, G.out.2.2, Nat.le_refl _⟩, fun h => absurd HR.out h, G.out.2.1⟩
/-- What putting a row itself makes of a queue. -/
structure PutIn (w W : World) (b c cap : Nat) (rr : List Sl) (L : List (List Int)) (x : Sl) (l : List Int) (s r : Nat) (e : Ending) (W' : World) : Prop where
  no : cap ≤ L.length → e = .returned (.bool false) ∧ W' = W
  yes : L.length < cap → e = .returned (.bool true) ∧ QAt w W' b c cap (rr ++ [x]) (L ++ [l]) (s + 1) r
  gr : W.grownBy W' (some c)
set_option maxHeartbeats 4000000 in
theorem pput_any {w W : World} {b c cap : Nat} {rr : List Sl} {L : List (List Int)} {s r : Nat} (h : QAt w W b c cap rr L s r) {x : Sl} {l : List Int} (hx : OwnS W w.heap.size x l) (hl : l.length ≤ 2048) :
    Calls Try.prog 20 #[.pointer (some ⟨b, 0, none⟩), x.v] W fun e W' => PutIn w W b c cap rr L x l s r e W' := by
  have HQ : Hid (QAt w W b c cap rr L s r ∧ OwnS W w.heap.size x l ∧ l.length ≤ 2048) := ⟨h, hx, hl⟩
  have l0 := h.ld
  clear h hx hl
  obtain ⟨v, hv⟩ : ∃ e, x.v = e := ⟨_, rfl⟩
  rw [hv]
  refine calls_of_Wn Try.func20 rfl ?_
  simp only [Try.ntmps20, List.size_toArray, List.length_cons, List.length_nil, Nat.reduceAdd, Nat.reduceSub, Array.replicate_succ,
     Array.replicate_zero, List.push_toArray, List.append_toArray, List.nil_append, List.cons_append]
  refine Wn.seqK fun K hK => ?_
  go_wp2
  refine Wn.seqK fun K hK => ?_
  go_wp2
  clear l0
  by_cases h2 : cap ≤ L.length
  · refine Wn.seqN fun K hK => Wn.region ?_
    simp only [List.size_toArray, List.length_cons, List.length_nil, Nat.reduceAdd, Nat.zero_add, List.range, List.range.loop]
    refine On.selFull (c := c) (v := v) (z := .slice none 0 0) rfl rfl (by simp [go_sem, execOp, scase, Act.eval]) HQ.out.1.ch (by rw [List.size_toArray, List.length_map, HQ.out.1.rlen]; exact h2) ?_
    refine On.op (by rfl) (by rfl) ?_
    go_simp
    refine On.op (by rfl) (by rfl) ?_
    go_simp
    refine On.nil (hK _ _ (Wn.of ?_))
    go_wp2
    go_ret
    exact ⟨fun _ => ⟨rfl, rfl⟩, fun h => absurd h2 (by omega), grown_of_below (Below.refl _ _) _⟩
  · have HN : Hid (L.length < cap) := by
      have : L.length < cap := by omega
      exact this
    refine Wn.seqN fun K hK => Wn.region ?_
    simp only [List.size_toArray, List.length_cons, List.length_nil, Nat.reduceAdd, Nat.zero_add, List.range, List.range.loop]
    refine On.selPut (c := c) (v := v) (z := .slice none 0 0) rfl rfl (by simp [go_sem, execOp, scase, Act.eval]) HQ.out.1.ch (by rw [List.size_toArray, List.length_map, HQ.out.1.rlen]; omega) ?_
    have ep : (rr.map Sl.v).toArray.push v = ((rr ++ [x]).map Sl.v).toArray := by rw [← hv]; simp
    have T := HQ.out.1.turn (rr' := rr ++ [x]) (L' := L ++ [l]) (s' := s + 1) (r' := r) (HQ.out.1.al.snoc HQ.out.2.1) (by simp; have := HN.out; omega) (by
      intro y hy
      rcases List.mem_append.1 hy with hy | hy
      · exact HQ.out.1.sz y hy
      · simp at hy
        subst hy
        exact HQ.out.2.2)
    rw [ep]
    have G1 := set_grown W c cap ((rr ++ [x]).map Sl.v).toArray (s + 1) r
    obtain ⟨W2, hW2⟩ : ∃ e, W.setChan c cap ((rr ++ [x]).map Sl.v).toArray false (s + 1) r false = e := ⟨_, rfl⟩
    rw [hW2] at T G1 ⊢
    have K2 : Hid (QAt w W2 b c cap (rr ++ [x]) (L ++ [l]) (s + 1) r ∧ W.grownBy W2 (some c)) := ⟨T, G1⟩
    clear T G1 hW2 ep
    refine On.op (by rfl) (by rfl) ?_
    go_simp
    refine On.op (by rfl) (by rfl) ?_
    go_simp
    refine On.nil (hK _ _ (Wn.of ?_))
    go_wp2
    go_ret
    exact ⟨fun h => absurd h h2, fun _ => ⟨rfl, K2.out.1⟩, K2.out.2⟩
/-- What Put makes of a queue. -/
structure PutOut (w W : World) (b c cap : Nat) (rr : List Sl) (L : List (List Int)) (l : List Int) (e : Ending) (W' : World) : Prop where
  is : e = .returned (.int .i64 (putE cap L l))
  at_ : ∃ rr' s' r', QAt w W' b c cap rr' (putL cap L l) s' r' ∧ ∀ x ∈ rr', x ∈ rr ∨ ∀ y, x.a = some y → W.heap.size ≤ y.block
  gr : W.grownBy W' (some c)
set_option maxHeartbeats 4000000 in
theorem put_any {w W : World} {b c cap : Nat} {rr : List Sl} {L : List (List Int)} {s r : Nat} (h : QAt w W b c cap rr L s r) {a : Option Addr} {n cc : Nat} {l : List Int} (hs : SlAt eU W a n cc l) :
    Calls Try.prog 9 #[.pointer (some ⟨b, 0, none⟩), .slice a n cc] W fun e W' => PutOut w W b c cap rr L l e W' := by
  have HQ : Hid (QAt w W b c cap rr L s r) := h
  have hn := hs.int
  have HS : Hid (SlAt eU W a n cc l ∧ l.length = n) := ⟨hs, hs.len⟩
  clear h hs
  by_cases h1 : 2048 < n
  · have P : Hid (putE cap L l = 2 ∧ putL cap L l = L) := by
      unfold putE putL
      rw [HS.out.2, if_pos h1, if_pos h1]
      exact ⟨rfl, rfl⟩
    have h1' : (2048 : Int) < (n : Int) := by omega
    clear h1
    go_enter Try.func9, Try.ntmps9
    go_wp2_with fail
    refine (some_any HQ.out.pt).mono ?_
    rintro _ _ ⟨rfl, rfl⟩
    go_wp2
    go_ret
    exact ⟨by rw [P.out.1]; rfl, ⟨rr, s, r, by rw [P.out.2]; exact HQ.out, fun x hx => .inl hx⟩, grown_of_below (Below.refl _ _) _⟩
  · have h1' : ¬ (2048 : Int) < (n : Int) := by omega
    have HH : Hid (¬ 2048 < n) := h1
    clear h1
    go_enter Try.func9, Try.ntmps9
    go_wp2_with fail
    refine (some_any HQ.out.pt).mono ?_
    rintro _ _ ⟨rfl, rfl⟩
    go_wp2_with fail
    refine (clone_any a n cc l W HS.out.1 (by have := HH.out; omega)).mono ?_
    rintro _ W1 ⟨x, rfl, ox, b1⟩
    have hsz := HQ.out.bel.size
    have K1 : Hid (QAt w W1 b c cap rr L s r ∧ OwnS W1 W.heap.size x l ∧ Below W.heap.size W W1 ∧ ∀ z, x.a = some z → W.heap.size ≤ z.block) := ⟨HQ.out.below b1, ox, b1, fun z hz => (ox.lo z hz).1⟩
    clear ox b1
    go_wp2_with fail
    refine (pput_any K1.out.1 (K1.out.2.1.base hsz) (by have := HH.out; have := HS.out.2; omega)).mono ?_
    clear hsz
    intro e W2 hP
    by_cases h2 : cap ≤ L.length
    · have P : Hid (putE cap L l = 71 ∧ putL cap L l = L) := by
        have h1 := HH.out
        unfold putE putL
        rw [HS.out.2, if_neg h1, if_neg h1, if_pos h2, if_pos h2]
        exact ⟨rfl, rfl⟩
      obtain ⟨rfl, rfl⟩ := hP.no h2
      clear hP
      go_wp2
      go_ret
      exact ⟨by rw [P.out.1]; rfl, ⟨rr, s, r, by rw [P.out.2]; exact K1.out.1, fun x hx => .inl hx⟩, grown_of_below K1.out.2.2.1 _⟩
    · have P : Hid (putE cap L l = 0 ∧ putL cap L l = L ++ [l]) := by
        have h1 := HH.out
        unfold putE putL
        rw [HS.out.2, if_neg h1, if_neg h1, if_neg h2, if_neg h2]
        exact ⟨rfl, rfl⟩
      obtain ⟨rfl, q2⟩ := hP.yes (by omega)
      have K2 : Hid (QAt w W2 b c cap (rr ++ [x]) (L ++ [l]) (s + 1) r ∧ W.grownBy W2 (some c)) := ⟨q2, grown_self (grown_of_below K1.out.2.2.1 (some c)) hP.gr⟩
      clear hP q2
      go_wp2
      go_ret
      exact ⟨by rw [P.out.1]; rfl, ⟨rr ++ [x], s + 1, r, by rw [P.out.2]; exact K2.out.1, fun y hy => by
        rcases List.mem_append.1 hy with hy | hy
        · exact .inl hy
        · simp at hy
          subst hy
          exact .inr K1.out.2.2.2⟩, K2.out.2⟩
theorem ext1 (v : Value) (l : List Value) : (v :: l).toArray.extract 1 (v :: l).toArray.size = l.toArray := by
  rw [← Array.toList_inj]
  simp [List.extract]
/-- What Take makes of a queue. -/
structure TakeOut (w W : World) (b c cap : Nat) (rr : List Sl) (L : List (List Int)) (e : Ending) (W' : World) : Prop where
  none : L = [] → e = .returned (.tuple #[.slice none 0 0, .bool false]) ∧ ∃ s r, QAt w W' b c cap [] [] s r
  some : ∀ l L', L = l :: L' → ∃ x rr', rr = x :: rr' ∧ e = .returned (.tuple #[x.v, .bool true]) ∧ OwnS W' w.heap.size x l ∧ ∃ s r, QAt w W' b c cap rr' L' s r
  gr : W.grownBy W' (.some c)
set_option maxHeartbeats 4000000 in
theorem take_any {w W : World} {b c cap : Nat} {rr : List Sl} {L : List (List Int)} {s r : Nat} (h : QAt w W b c cap rr L s r) :
    Calls Try.prog 11 #[.pointer (some ⟨b, 0, none⟩)] W fun e W' => TakeOut w W b c cap rr L e W' := by
  have HQ : Hid (QAt w W b c cap rr L s r) := h
  have l0 := h.ld
  refine calls_of_Wn Try.func11 rfl ?_
  simp only [Try.ntmps11, List.size_toArray, List.length_cons, List.length_nil, Nat.reduceAdd, Nat.reduceSub, Array.replicate_succ,
     Array.replicate_zero, List.push_toArray, List.append_toArray, List.nil_append, List.cons_append]
  refine Wn.seqK fun K hK => ?_
  go_wp2
  refine Wn.seqK fun K hK => ?_
  go_wp2_with fail
  refine (some_any HQ.out.pt).mono ?_
  rintro _ _ ⟨rfl, rfl⟩
  go_wp2
  refine Wn.seqK fun K hK => ?_
  go_wp2
  clear l0
  cases rr with
  | nil =>
    have e0 : L = [] := List.eq_nil_of_length_eq_zero HQ.out.rlen.symm
    subst e0
    clear h
    refine Wn.seqN fun K hK => Wn.region ?_
    simp only [List.size_toArray, List.length_cons, List.length_nil, Nat.reduceAdd, Nat.zero_add, List.range, List.range.loop]
    refine On.selNone (c := c) (z := .slice none 0 0) rfl rfl (by simp [go_sem, execOp, rcase, Act.eval]) HQ.out.ch ?_
    refine On.op (by rfl) (by rfl) ?_
    go_simp
    refine On.op (by rfl) (by rfl) ?_
    go_simp
    refine On.nil (hK _ _ (Wn.of ?_))
    go_wp2
    go_returns
    exact ⟨fun _ => ⟨rfl, s, r, HQ.out⟩, fun l L' e => (by cases e), grown_of_below (Below.refl _ _) _⟩
  | cons x rr =>
    cases L with
    | nil => exact absurd h.rlen (by simp)
    | cons l L =>
      have hal := h.al
      have T := h.turn (rr' := rr) (L' := L) (s' := s) (r' := r + 1) hal.2 (by have := h.cap.1; simp at this; omega) (fun y hy => h.sz y (List.mem_cons_of_mem _ hy))
      have G1 := set_grown W c cap (rr.map Sl.v).toArray s (r + 1)
      refine Wn.seqN fun K hK => Wn.region ?_
      simp only [List.size_toArray, List.length_cons, List.length_nil, Nat.reduceAdd, Nat.zero_add, List.range, List.range.loop]
      refine On.selTake (c := c) (z := .slice none 0 0) rfl rfl (by simp [go_sem, execOp, rcase, Act.eval]) h.ch (by simp) ?_
      have ep : (((x :: rr).map Sl.v).toArray.extract 1 ((x :: rr).map Sl.v).toArray.size) = (rr.map Sl.v).toArray := ext1 _ _
      have eg : ((x :: rr).map Sl.v).toArray.getD 0 undef = x.v := by simp
      rw [ep, eg]
      obtain ⟨W2, hW2⟩ : ∃ e, W.setChan c cap (rr.map Sl.v).toArray false s (r + 1) false = e := ⟨_, rfl⟩
      rw [hW2] at T G1 ⊢
      have ox : OwnS W2 w.heap.size x l := by
        refine Own.keptBut (e := eU) hal.1 G1 ?_
        cases hb : x.v.ownBlock with
        | none => exact .inl rfl
        | some g =>
          refine .inr fun e => ?_
          cases e
          rcases hal.1.2 with ⟨e0, _⟩ | ⟨g, cap', cur, e0, _, hg', _⟩
          · rw [e0] at hb
            cases hb
          · rw [e0] at hb
            cases hb
            rw [h.ch] at hg'
            cases hg'
      have K2 : Hid (QAt w W2 b c cap rr L s (r + 1) ∧ W.grownBy W2 (some c) ∧ OwnS W2 w.heap.size x l) := ⟨T, G1, ox⟩
      clear T G1 hW2 ep eg ox hal h
      refine On.op (by rfl) (by rfl) ?_
      go_simp
      refine On.op (by rfl) (by rfl) ?_
      go_simp
      refine On.nil (hK _ _ (Wn.of ?_))
      go_wp2
      go_returns
      exact ⟨fun e => (by cases e), fun l' L' e => by
        cases e
        exact ⟨x, rr, rfl, rfl, K2.out.2.2, s, r + 1, K2.out.1⟩, K2.out.2.1⟩
end Go.Proofs.Ytoojoiindfgoeaa
