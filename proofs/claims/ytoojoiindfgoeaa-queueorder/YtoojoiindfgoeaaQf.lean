/-
  The walk of Fork, for every input.
-/
import Derived.Test.YtoojoiindfgoeaaQl
namespace Go.Proofs.Ytoojoiindfgoeaa
set_option linter.unusedVariables false
set_option maxRecDepth 4000
set_option linter.unusedSimpArgs false
open Go.RowKit Go.Conc
attribute [local go_sem ↓] apU apL bsU bsL
attribute [local go_sem] bzU bzL gives_value b1L
theorem Own.ne {α : Type} {e : El α} {W : World} {B c cap : Nat} {buf : Array Value} {cl tm : Bool} {s r : Nat} {v : Value} {l : List α} (h : Own e W B v l) (hc : W.heap[c]? = some (.chan cap buf cl s r tm)) : v.ownBlock ≠ some c := fun e' => by
  obtain ⟨cur, h1⟩ := h.kind e'
  rw [hc] at h1
  cases h1
/-- No row that waits lies where a channel does. -/
theorem QAt.rne {w W : World} {b c cap : Nat} {rr : List Sl} {L : List (List Int)} {s r : Nat} (h : QAt w W b c cap rr L s r) {g cap' : Nat} {buf : Array Value} {cl tm : Bool} {s' r' : Nat} (hc : W.heap[g]? = some (.chan cap' buf cl s' r' tm)) : ∀ x ∈ rr, x.v.ownBlock ≠ some g := fun x hx => by
  obtain ⟨j, hj, ej⟩ := List.getElem_of_mem hx
  have := h.al.at' j x _ (by rw [← ej]; exact List.getElem?_eq_getElem hj) (List.getElem?_eq_getElem (by rw [← h.rlen]; exact hj))
  exact Own.ne (e := eU) this hc
/-- What Fork makes of a queue. -/
structure ForkOut (w W : World) (b c cap : Nat) (rr : List Sl) (L : List (List Int)) (e : Ending) (W' : World) : Prop where
  is : ∃ b' c' tt s r, e = .returned (.pointer (some ⟨b', 0, none⟩)) ∧ QAt w W' b' c' cap tt L s r ∧ (W.heap.size ≤ b' ∧ W.heap.size ≤ c') ∧ Al (OwnS W' W.heap.size) tt L
  at_ : ∃ s r, QAt w W' b c cap rr L s r
  gr : W.grownBy W' (some c)
/-- Ahead of each round of Fork. -/
structure FkI (w W V : World) (b c cap b' c' : Nat) (rr tt : List Sl) (L : List (List Int)) (a : Option Addr) (n cc i : Nat) : Prop where
  q : ∃ s r, QAt w V b c cap rr L s r
  nq : QAt w V b' c' cap (tt.take i) (L.take i) i 0
  o : Own eS V W.heap.size (.slice a n cc) tt
  al : Al (OwnS V W.heap.size) tt L
  g : W.grownBy V (some c)
set_option maxHeartbeats 8000000 in
theorem fork_any {w W : World} {b c cap : Nat} {rr : List Sl} {L : List (List Int)} {s r : Nat} (h : QAt w W b c cap rr L s r) :
    Calls Try.prog 14 #[.pointer (some ⟨b, 0, none⟩)] W fun e W' => ForkOut w W b c cap rr L e W' := by
  have HQ : Hid (QAt w W b c cap rr L s r) := h
  have l0 := h.ld
  have hc := h.cp
  have hmc := mkC cap h.cap.2.2
  obtain ⟨U, hU⟩ : ∃ e, W.alloc (.chan cap #[] false 0 0 false) = e := ⟨_, rfl⟩
  have bU : Below W.heap.size W U := by rw [← hU]; exact (Below.refl _ _).alloc (Nat.le_refl _) _
  have cU : U.heap[W.heap.size]? = some (.chan cap #[] false 0 0 false) := by rw [← hU]; exact heap_alloc_new W _
  have sU : U.heap.size = W.heap.size + 1 := by rw [← hU]; simp
  obtain ⟨V, hV⟩ : ∃ e, U.alloc (.cells #[.chan (some W.heap.size)] 50) = e := ⟨_, rfl⟩
  have bV : Below U.heap.size U V := by rw [← hV]; exact (Below.refl _ _).alloc (Nat.le_refl _) _
  have pV : RvAt V U.heap.size 50 #[.chan (some W.heap.size)] := by rw [← hV]; exact RvAt.new U _ _
  have hb := h.bel
  have K0 : Hid (QAt w V b c cap rr L s r ∧ QAt w V U.heap.size W.heap.size cap [] [] 0 0 ∧ Below W.heap.size W V ∧ U.heap.size = W.heap.size + 1 ∧ U.heap.size < V.heap.size) := by
    have hb2 := hb.size
    exact ⟨h.below (below_over bU bV), ⟨below_over hb (below_over bU bV), pV, (bV.block _ (by omega)).trans cU, trivial, ⟨by omega, hb2⟩, ⟨Nat.zero_le _, h.cap.2⟩, fun l hl => by simp at hl⟩, below_over bU bV, sU, pV.lt⟩
  have HB : Hid (b < W.heap.size ∧ c < W.heap.size) := ⟨h.pt.lt, lt_of_block h.ch⟩
  clear bU cU sU bV pV hb h
  go_enter Try.func14, Try.ntmps14
  go_wp2_with fail
  refine (some_any HQ.out.pt).mono ?_
  rintro _ _ ⟨rfl, rfl⟩
  go_wp2_with fail
  refine (all_any K0.out.1).mono ?_
  rintro _ X ⟨⟨v, tt, rfl, ot, at_⟩, ⟨s1, r1, q1⟩, g1⟩
  obtain ⟨a, cc, rfl, st, _⟩ := ot.form
  obtain ⟨n, hn⟩ : ∃ e, tt.length = e := ⟨_, rfl⟩
  rw [hn] at ot st ⊢
  have HN : Hid (L.length = n ∧ n ≤ 32 ∧ tt.length = n) := ⟨by rw [← at_.len]; exact hn, by have := q1.cap; rw [← at_.len] at this; omega, hn⟩
  have hnn := st.int
  have hn32 := HN.out.2.1
  have F0 : Hid (FkI w W X b c cap U.heap.size W.heap.size rr tt L a n cc 0) := by
    have hs := K0.out.2.2.1.size
    refine ⟨⟨s1, r1, q1⟩, ?_, ot.base hs, at_.mono fun x l hh => hh.base hs, grown_self (grown_of_below K0.out.2.2.1 (some c)) g1⟩
    have := K0.out.2.1.keep g1 (fun g hg => by
        cases hg
        have h1 := HB.out
        have h2 := K0.out.2.2.2.1
        exact ⟨HQ.out.lo.2, by omega, by omega, fun x hx => by simp at hx⟩)
    simpa using this
  clear ot at_ q1 g1 st hn l0 hc hmc hU
  obtain ⟨gb, hgb⟩ : ∃ e, U.heap.size = e := ⟨_, rfl⟩
  obtain ⟨gc, hgc⟩ : ∃ e, W.heap.size = e := ⟨_, rfl⟩
  have HG : Hid (gc = W.heap.size ∧ gb = W.heap.size + 1) := ⟨hgc.symm, by rw [← hgb]; exact K0.out.2.2.2.1⟩
  rw [hgb, hgc] at F0 ⊢
  clear hgb hgc
  go_wp2_with fail
  go_loopw [20] (fun u wr => ∃ i : Nat, i ≤ n ∧ u = .int .i64 i ∧ FkI w W wr b c cap gb gc rr tt L a n cc i) (fun u _ => n - (intOf u).toNat)
  case atStart => exact ⟨0, by omega, rfl, F0.out⟩
  case round =>
    obtain ⟨i, hi, rfl, hI⟩ := hrel
    have J : Hid (FkI w W wr b c cap gb gc rr tt L a n cc i) := hI
    have hi0 : (0 : Int) ≤ (i : Int) := by omega
    clear hI F0
    by_cases hit : i < n
    · have hi1 : (i : Int) < (n : Int) := by omega
      obtain ⟨fa, fc, ef, st, _⟩ := J.out.o.form
      simp only [Value.slice.injEq] at ef
      obtain ⟨ea, en, ec⟩ := ef
      clear en
      subst ea ec
      rw [HN.out.2.2] at st
      obtain ⟨tb, to, rfl⟩ := st.some' (by omega)
      obtain ⟨x, hx⟩ : ∃ t, tt[i]? = some t := ⟨_, List.getElem?_eq_getElem (by rw [HN.out.2.2]; exact hit)⟩
      obtain ⟨l, hl⟩ : ∃ t, L[i]? = some t := ⟨_, List.getElem?_eq_getElem (by rw [HN.out.1]; exact hit)⟩
      have lx := lS st hx
      have hws := HQ.out.bel.size
      obtain ⟨s2, r2, q2⟩ := J.out.q
      have HX : Hid (tt[i]? = some x ∧ L[i]? = some l ∧ i < n ∧ QAt w wr b c cap rr L s2 r2 ∧ l.length ≤ 2048 ∧ OwnS wr w.heap.size x l) := ⟨hx, hl, hit, q2, q2.sz l (List.mem_of_getElem? hl), (J.out.al.at' i x l hx hl).base hws⟩
      clear hx hl st hit q2 hws
      go_wp2_with fail
      refine (pput_any J.out.nq HX.out.2.2.2.2.2 HX.out.2.2.2.2.1).mono ?_
      intro e Y hP
      obtain ⟨rfl, q4⟩ := hP.yes (by
        have h1 := HX.out.2.2.2.1.cap.1
        have h2 := HX.out.2.2.1
        have h3 := HN.out
        rw [List.length_take]
        omega)
      have et : tt.take i ++ [x] = tt.take (i + 1) := by rw [List.take_add_one, HX.out.1]; rfl
      have eL : L.take i ++ [l] = L.take (i + 1) := by rw [List.take_add_one, HX.out.2.1]; rfl
      rw [et, eL] at q4
      have hg4 := hP.gr
      have hch := J.out.nq.ch
      have K7 : Hid (FkI w W Y b c cap gb gc rr tt L (some ⟨tb, to, none⟩) n cc (i + 1)) := by
        refine ⟨⟨s2, r2, HX.out.2.2.2.1.keep hg4 (fun g hg => ?_)⟩, q4, J.out.o.chan hch hg4, J.out.al.mono fun y m hh => Own.chan (e := eU) hh hch hg4, grown_over J.out.g hg4 (fun g hg => by cases hg; have := HG.out; omega)⟩
        cases hg
        have h1 := HB.out
        have h2 := HG.out
        exact ⟨J.out.nq.lo.2, by omega, by omega, HX.out.2.2.2.1.rne hch⟩
      clear hP q4 hg4 et eL hch lx
      have hin := HX.out.2.2.1
      go_wp2
      go_roundw
      case rel => exact ⟨i + 1, by omega, by go_num, K7.out⟩
      case measure => simp [intOf]; omega
    · obtain rfl : i = n := by omega
      have hi1 : ¬ (i : Int) < (i : Int) := by omega
      have E : Hid (ForkOut w W b c cap rr L (.returned (.pointer (some ⟨gb, 0, none⟩))) wr) := by
        have h3 : tt.take i = tt := List.take_of_length_le (by rw [HN.out.2.2]; exact Nat.le_refl _)
        have h4 : L.take i = L := List.take_of_length_le (by rw [HN.out.1]; exact Nat.le_refl _)
        have hn := J.out.nq
        rw [h3, h4] at hn
        have h5 := HG.out
        exact ⟨⟨gb, gc, tt, _, _, rfl, hn, ⟨by omega, by omega⟩, J.out.al⟩, J.out.q, J.out.g⟩
      clear J
      go_wp2
      go_ret
      exact E.out
end Go.Proofs.Ytoojoiindfgoeaa
