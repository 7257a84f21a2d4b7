/-
  What bridges come to: the walks of settle and Nodes, for every input.
-/
import Derived.Test.YtcagdfdhpbeolaaRpt
namespace Go.Proofs.Ytcagdfdhpbeolaa
set_option linter.unusedVariables false
set_option maxRecDepth 4000
set_option linter.unusedSimpArgs false
open Go.RowKit

theorem ndAt_set {ids : List Nat} {L : List Ne} (p : Nat → Int) {i : Nat} (hi : i < ids.length) (x : Int) : (ndAt ids L p).set i ⟨kr ids L i, kc ids L i, x⟩ = ndAt ids L (fun t => if t = i then x else p t) := by
  refine List.ext_getElem? fun t => ?_
  rw [List.getElem?_set]
  by_cases ht : t < ids.length
  · rw [ndAt_at p ht, ndAt_at (fun t => if t = i then x else p t) ht]
    by_cases e : i = t
    · subst e
      rw [if_pos rfl, if_pos (by rw [ndAt_len]; exact hi), if_pos rfl]
      rfl
    · rw [if_neg e, if_neg (fun e' => e e'.symm)]
  · rw [List.getElem?_eq_none (l := ndAt ids L p) (by rw [ndAt_len]; omega), List.getElem?_eq_none (by rw [ndAt_len]; omega), if_neg (by omega)]
theorem ndAt_congr {ids : List Nat} {L : List Ne} {p q : Nat → Int} (h : ∀ i, i < ids.length → p i = q i) : ndAt ids L p = ndAt ids L q := by
  unfold ndAt
  refine List.map_congr_left fun i hi => ?_
  rw [h i (List.mem_range.1 hi)]
theorem TQ.p {W : World} {a : Option Addr} {n c g c2 : Nat} {ids : List Nat} {L : List Ne} {p q : Nat → Int} (h : TQ W a n c g c2 ids L p) (e : ∀ i, i < n → p i = q i) : TQ W a n c g c2 ids L q := ⟨h.sl, by have := h.nds; rwa [ndAt_congr (fun i hi => e i (by rw [← h.len]; exact hi))] at this, h.ok, h.len⟩
/-- A root port, laid. -/
theorem TQ.st {W : World} {a : Option Addr} {n c g c2 : Nat} {ids : List Nat} {L : List Ne} {p : Nat → Int} (h : TQ W a n c g c2 ids L p) (ha : ∀ x, a = some x → x.block ≠ g) {i : Nat} (hi : i < n) (x : Int) :
    ∃ V, (stS 3 (.pointer (some ⟨g, i * 3 + 2, none⟩)) (.int .i64 x)).run Try.prog W = .ok () V ∧ TQ V a n c g c2 ids L (fun t => if t = i then x else p t) ∧ W.grownBy V (some g) := by
  have hil : i < ids.length := by rw [h.len]; exact hi
  obtain ⟨V, h1, h2, h3⟩ := h.nds.st1 kN (i := i) (j := 2) (tv := 3) (y := ⟨kr ids L i, kc ids L i, x⟩) (v := .int .i64 x) (ndAt_at p hil) infoI (by decide) rfl (fun r => by
    match r with
    | 0 => rfl
    | 1 => rfl
    | 2 => rfl
    | r + 3 => rfl) rfl
  rw [ndAt_set p hil] at h2
  exact ⟨V, h1, ⟨h.sl.keptBut h3 (fun y hy _ e => by have := ha y hy; cases e; omega), h2, h.ok, h.len⟩, h3⟩
/-- Root ports of the first i bridges. -/
def pI (ids : List Nat) (L : List Ne) (i t : Nat) : Int := if t < i then rpOf ids L t else 0
/-- While they are sought. -/
structure SS (W0 W : World) (tb : Nat) (a : Option Addr) (n c g c2 : Nat) (ids : List Nat) (L : List Ne) (p : Nat → Int) : Prop where
  var : RvAt W tb 68 (tre a n c g c2)
  out : RvAt W W0.heap.size 68 #[.slice none 0 0, .slice none 0 0]
  tq : TQ W a n c g c2 ids L p
  ha : ∀ x, a = some x → x.block ≠ g
  ne : tb ≠ g ∧ W0.heap.size < g ∧ W0.heap.size < tb
  bel : Below W0.heap.size W0 W
theorem SS.below {W0 W V : World} {tb : Nat} {a : Option Addr} {n c g c2 : Nat} {ids : List Nat} {L : List Ne} {p : Nat → Int} (h : SS W0 W tb a n c g c2 ids L p) (k : Below W.heap.size W V) : SS W0 V tb a n c g c2 ids L p := ⟨h.var.below k, h.out.below k, h.tq.below k, h.ha, h.ne, below_over h.bel k⟩
theorem SS.st {W0 W : World} {tb : Nat} {a : Option Addr} {n c g c2 : Nat} {ids : List Nat} {L : List Ne} {p : Nat → Int} (h : SS W0 W tb a n c g c2 ids L p) {i : Nat} (hi : i < n) (x : Int) :
    ∃ V, (stS 3 (.pointer (some ⟨g, i * 3 + 2, none⟩)) (.int .i64 x)).run Try.prog W = .ok () V ∧ SS W0 V tb a n c g c2 ids L (fun t => if t = i then x else p t) := by
  obtain ⟨V, h1, h2, h3⟩ := h.tq.st h.ha hi x
  have hne := h.ne
  exact ⟨V, h1, h.var.keptBut h3 (fun e => by cases e; omega), h.out.keptBut h3 (fun e => by cases e; omega), h2, h.ha, h.ne, gro h.bel h3 (by omega) h.bel.size⟩
theorem bdT (ps : Array (Nat × Value)) : Instr.build 68 ps = bdS 68 ps := rfl
theorem bdT_is (a : Option Addr) (n c g c2 : Nat) (w : World) : (bdS 68 #[(0, .slice a n c), (1, .slice (some ⟨g, 0, none⟩) n c2)]).run Try.prog w = .ok (.agg (tre a n c g c2)) w := by kernel_rfl
theorem fdT (a : Option Addr) (n c g c2 : Nat) (w : World) : (Instr.field 68 (.agg (tre a n c g c2)) 1).run Try.prog w = .ok (.slice (some ⟨g, 0, none⟩) n c2) w := by kernel_rfl
attribute [local go_sem ↓] ldT stT stI bdT
set_option maxHeartbeats 8000000 in
theorem settle_any (a : Option Addr) (n c : Nat) (ids : List Nat) (a' : Option Addr) (n' c' : Nat) (L : List Ne) (w : World) (hs : SlAt eU w a n c ids) (ht : SlAt eE w a' n' c' (L.map Ne.eg)) (G : Gok ids L) :
    Calls Try.prog 25 #[.slice a n c, .slice a' n' c'] w fun r w' => (∃ g c2, r = .returned (.agg (tre a n c g c2)) ∧ TQ w' a n c g c2 ids L (rpOf ids L) ∧ w.heap.size ≤ g) ∧ Below w.heap.size w w' := by
  have hnn := hs.int
  have hid : ids.length = n := hs.len
  have hn7 : n ≤ 7 := by rw [← hid]; exact G.n7
  have hn1 : 1 ≤ n := by rw [← hid]; exact G.n1
  obtain ⟨W, hW⟩ : ∃ W, w.alloc (.cells #[.slice none 0 0, .slice none 0 0] 68) = W := ⟨_, rfl⟩
  have bW : Below w.heap.size w W := by rw [← hW]; exact (Below.refl _ _).alloc (Nat.le_refl _) _
  have r0 : RvAt W w.heap.size 68 #[.slice none 0 0, .slice none 0 0] := by rw [← hW]; exact RvAt.new w _ _
  obtain ⟨b, o, rfl⟩ := hs.some' (by omega)
  have hbl := hs.lt kU (by omega)
  have HG : Hid (Gok ids L ∧ SlAt eU w (some ⟨b, o, none⟩) n c ids ∧ SlAt eE w a' n' c' (L.map Ne.eg) ∧ ids.length = n ∧ b < w.heap.size) := ⟨G, hs, ht, hid, hbl⟩
  have H0 : Hid (RvAt W w.heap.size 68 #[.slice none 0 0, .slice none 0 0] ∧ Below w.heap.size w W ∧ w.heap.size < W.heap.size) := ⟨r0, bW, r0.lt⟩
  have C : Hid _ := nearest_any (some ⟨b, o, none⟩) n c ids a' n' c' L W (hs.below bW) (ht.below bW) G
  clear hs ht G hid bW r0 hbl
  go_enter Try.func25, Try.ntmps25
  go_wp2_with fail
  refine Calls.mono C.out ?_
  rintro _ W1 ⟨⟨g, c2, rfl, hg, hP⟩, b1⟩
  have bd := bdT_is (some ⟨b, o, none⟩) n c g c2 W1
  obtain ⟨V, sV, rV, bV, _⟩ := row_new rtT W1 #[.slice none 0 0, .slice none 0 0] (tre (some ⟨b, o, none⟩) n c g c2) rfl rfl (tre_one _ _ _ _ _)
  have hgl := hP.lt
  have hz := b1.size
  have S0 : Hid (SS w V W1.heap.size (some ⟨b, o, none⟩) n c g c2 ids L (pI ids L 0)) := by
    have hb := HG.out.2.2.2.2
    have hw := H0.out.2.2
    refine ⟨rV, (H0.out.1.below b1).below bV, ⟨HG.out.2.1.below (below_over (below_over H0.out.2.1 b1) bV), ?_, HG.out.1, HG.out.2.2.2.1⟩, fun x e => by cases e; show b ≠ g; omega, ⟨by omega, by omega, by omega⟩, below_over (below_over H0.out.2.1 b1) bV⟩
    have := hP.below bV
    rwa [ndAt_congr (q := pI ids L 0) (fun i _ => by unfold pI; rw [if_neg (by omega)])] at this
  obtain ⟨tb, htb⟩ : ∃ z, W1.heap.size = z := ⟨_, rfl⟩
  rw [htb] at S0 sV
  clear rV bV hP b1 hg hgl hz C
  go_wp2_with fail
  clear htb bd sV
  go_loopw [15] (fun v15 wr => ∃ i : Nat, i ≤ n ∧ v15 = .int .i64 i ∧ SS w wr tb (some ⟨b, o, none⟩) n c g c2 ids L (pI ids L i)) (fun v15 _ => n - (intOf v15).toNat)
  case atStart => exact ⟨0, by omega, rfl, S0.out⟩
  case round =>
    obtain ⟨i, hi, rfl, hS⟩ := hrel
    have hi0 : (0 : Int) ≤ (i : Int) := by omega
    by_cases hit : i < n
    · have hi1 : (i : Int) < (n : Int) := by omega
      have c0 := hS.tq.id hit
      have t1 := hS.var.cell 1 (.slice (some ⟨g, 0, none⟩) n c2) rfl
      obtain ⟨V1, s1, hS1⟩ := hS.st hit (-1)
      have t2 := hS1.var.cell 1 (.slice (some ⟨g, 0, none⟩) n c2) rfl
      have n0 := hS1.tq.n0 hit
      have J : Hid (SS w V1 tb (some ⟨b, o, none⟩) n c g c2 ids L (fun t => if t = i then -1 else pI ids L i t) ∧ i < n) := ⟨hS1, hit⟩
      clear hS hS1
      cases hq : ((kr ids L i : Int) != (idO ids i : Int))
      · have hr : isRoot ids L i := by
          have : (kr ids L i : Int) = (idO ids i : Int) := by simpa using hq
          unfold isRoot
          show kr ids L i = idO ids i
          omega
        have Z : Hid (SS w V1 tb (some ⟨b, o, none⟩) n c g c2 ids L (pI ids L (i + 1))) := by
          have h1 := J.out.1
          refine ⟨h1.var, h1.out, h1.tq.p (fun t _ => ?_), h1.ha, h1.ne, h1.bel⟩
          unfold pI
          by_cases e : t = i
          · subst e
            rw [if_pos rfl, if_pos (by omega), rp_root hr]
          · rw [if_neg e]
            by_cases h2 : t < i
            · rw [if_pos h2, if_pos (by omega)]
            · rw [if_neg h2, if_neg (by omega)]
        clear hr
        go_wp2
        go_roundw
        case rel => exact ⟨i + 1, by omega, by go_num, Z.out⟩
        case measure => simp [intOf]; omega
      · have hr : ¬ isRoot ids L i := fun hr => by
          unfold isRoot at hr
          have : (kr ids L i : Int) = (idO ids i : Int) := by
            have : kr ids L i = idO ids i := hr
            omega
          rw [this] at hq
          simp at hq
        have HR : Hid (¬ isRoot ids L i ∧ mine L i ≠ []) := ⟨hr, mine_ne HG.out.1 (by rw [HG.out.2.2.2.1]; exact hit) hr⟩
        clear hr
        go_wp2_with fail
        clear c0 t1 s1 t2 n0 hq
        have f1 := fun q : Later V1 => (J.out.1.var.below q.below).cell 1 (.slice (some ⟨g, 0, none⟩) n c2) rfl
        have f2 := fun q : Later V1 => (J.out.1.var.below q.below).ld rtT rfl
        have P : Hid (∀ q : Later V1, _) := fun q : Later V1 => rootPort_any (some ⟨b, o, none⟩) n c g c2 ids L _ a' n' c' i q.val (J.out.1.tq.below q.below) ((HG.out.2.2.1.below J.out.1.bel).below q.below) J.out.2 HR.out.2
        obtain ⟨x, hx⟩ : ∃ x, portAt ids L i = x := ⟨_, rfl⟩
        rw [hx] at P
        have HX : Hid (portAt ids L i = x) := hx
        clear hx
        refine wp_region_later_tail 7 (by kernel_rfl) (by kernel_rfl) ?_
        simp only [List.take_succ_cons, List.take_zero, List.drop_succ_cons, List.drop_zero]
        repeat (go_big_quiet_step (first | exact rfl | (go_at_call 42; with_reducible exact Calls.later_of (P.out _))))
        refine wpQuiet_nil ?_
        intro q
        obtain ⟨V2, s2, hS2⟩ := (J.out.1.below q.below).st J.out.2 x
        have Z : Hid (SS w V2 tb (some ⟨b, o, none⟩) n c g c2 ids L (pI ids L (i + 1))) := by
          refine ⟨hS2.var, hS2.out, hS2.tq.p (fun t _ => ?_), hS2.ha, hS2.ne, hS2.bel⟩
          unfold pI
          by_cases e : t = i
          · subst e
            rw [if_pos rfl, if_pos (by omega), ← HX.out]
            unfold rpOf
            exact (if_neg HR.out.1).symm
          · rw [if_neg e, if_neg e]
            by_cases h2 : t < i
            · rw [if_pos h2, if_pos (by omega)]
            · rw [if_neg h2, if_neg (by omega)]
        clear hS2 f1 f2 P
        go_wp2
        go_roundw
        case rel => exact ⟨i + 1, by omega, by go_num, Z.out⟩
        case measure => simp [intOf]; omega
    · have hin : i = n := by omega
      subst hin
      have hi1 : ¬ (i : Int) < (i : Int) := by omega
      have lt := hS.var.ld rtT rfl
      have st := hS.out.st rtT (ds := tre (some ⟨b, o, none⟩) i c g c2) rfl rfl (tre_one _ _ _ _ _)
      have hne := hS.ne
      have gr := grown_row wr w.heap.size (tre (some ⟨b, o, none⟩) i c g c2)
      have Z : Hid (RvAt (wr.setRow w.heap.size (tre (some ⟨b, o, none⟩) i c g c2)) w.heap.size 68 (tre (some ⟨b, o, none⟩) i c g c2) ∧ TQ (wr.setRow w.heap.size (tre (some ⟨b, o, none⟩) i c g c2)) (some ⟨b, o, none⟩) i c g c2 ids L (rpOf ids L) ∧ w.heap.size ≤ g ∧ Below w.heap.size w (wr.setRow w.heap.size (tre (some ⟨b, o, none⟩) i c g c2))) := by
        refine ⟨hS.out.set, TQ.p (p := pI ids L i) ⟨hS.tq.sl.keptBut gr (fun x e _ e' => by have hb := HG.out.2.2.2.2; cases e; simp only [Option.some.injEq] at e'; omega), hS.tq.nds.keptBut gr (fun e' => by cases e'; omega), hS.tq.ok, hS.tq.len⟩ (fun t ht => by unfold pI; rw [if_pos ht]), by omega, below_setRow hS.bel (Nat.le_refl _) _⟩
      clear hS hne gr
      go_wp2
      refine bodyPost_ret (results_row rtT Try.results25 _ _ _ _ rfl Z.out.1 rfl) rfl ?_
      exact ⟨⟨g, c2, rfl, Z.out.2.1, Z.out.2.2.1⟩, Z.out.2.2.2⟩
/-- What Nodes tells. -/
def nodO (ids : List Nat) (es : List Eg) (N : List Nd) : Prop := (chkI ids es = false ∧ N = []) ∨ ∃ L, es = L.map Ne.eg ∧ Gok ids L ∧ chkI ids es = true ∧ N = nodesF ids L
set_option maxHeartbeats 2000000 in
theorem nodes_any (a : Option Addr) (n c : Nat) (ids : List Nat) (a' : Option Addr) (n' c' : Nat) (es : List Eg) (w : World) (hs : SlAt eU w a n c ids) (ht : SlAt eE w a' n' c' es) (hl : ∀ x ∈ ids, x < 18446744073709551616) (hn : n ≤ 100) (hm : n' ≤ 100) :
    Calls Try.prog 11 #[.slice a n c, .slice a' n' c'] w fun r w' => (∃ a2 n2 c2 N, r = .returned (.tuple #[.slice a2 n2 c2, .int .i64 (errI ids es)]) ∧ SlAt eN w' a2 n2 c2 N ∧ nodO ids es N) ∧ Below w.heap.size w w' := by
  have C : Hid _ := scheck_any a n c ids a' n' c' es w hs ht hl hn hm
  have HG : Hid (SlAt eU w a n c ids ∧ SlAt eE w a' n' c' es ∧ (∀ x ∈ ids, x < 18446744073709551616)) := ⟨hs, ht, hl⟩
  clear hs ht hn hm hl
  cases hc : chkI ids es
  · rw [err_no hc] at C ⊢
    have HC : Hid (chkI ids es = false) := hc
    clear hc
    go_enter Try.func11, Try.ntmps11
    go_wp2_with fail
    refine Calls.mono C.out ?_
    rintro _ W1 ⟨rfl, b1⟩
    go_wp2
    go_returns
    exact ⟨⟨none, 0, 0, [], rfl, SlAt.none' _, .inl ⟨HC.out, rfl⟩⟩, b1⟩
  · rw [err_ok hc] at C ⊢
    obtain ⟨L, rfl, G⟩ := gok_of hc HG.out.2.2
    have HC : Hid (chkI ids (L.map Ne.eg) = true ∧ Gok ids L) := ⟨hc, G⟩
    clear hc G
    go_enter Try.func11, Try.ntmps11
    go_wp2_with fail
    refine Calls.mono C.out ?_
    rintro _ W1 ⟨rfl, b1⟩
    have B1 : Hid (Below w.heap.size w W1) := b1
    clear b1
    go_wp2_with fail
    refine (settle_any a n c ids a' n' c' L W1 (HG.out.1.below B1.out) (HG.out.2.1.below B1.out) HC.out.2).mono ?_
    rintro _ W2 ⟨⟨g, c2, rfl, hq, _⟩, b2⟩
    have Z : Hid (SlAt eN W2 (some ⟨g, 0, none⟩) n c2 (nodesF ids L) ∧ Below w.heap.size w W2) := ⟨by have := hq.nds.sl kN; rwa [ndAt_len, hq.len] at this, below_over B1.out b2⟩
    have fd := fdT a n c g c2 W2
    clear hq b2
    go_wp2
    go_returns
    exact ⟨⟨_, _, _, _, rfl, Z.out.1, .inr ⟨L, rfl, HC.out.2, HC.out.1, rfl⟩⟩, Z.out.2⟩
end Go.Proofs.Ytcagdfdhpbeolaa
