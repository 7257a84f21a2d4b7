/-
  The definition: all bridges: the walk of Nodes, for every input.
-/
import Derived.Test.YtcagdfdhpbeolaaRNo
namespace Go.Proofs.Ytcagdfdhpbeolaa
set_option linter.unusedVariables false
set_option maxRecDepth 4000
set_option linter.unusedSimpArgs false
open Go.RowKit

theorem MvAt.put (W : World) (x : Nd) : ∃ V, (stS 72 (.pointer (some ⟨W.heap.size, 0, none⟩)) (.agg x.cs)).run Try.prog (W.alloc (.cells #[.int .u64 0, .int .u32 0, .int .i64 0] 72)) = .ok () V ∧ RvAt V W.heap.size 72 x.cs ∧ Below W.heap.size W V := by
  obtain ⟨V, h1, h2, h3, _⟩ := row_new rtM W #[.int .u64 0, .int .u32 0, .int .i64 0] x.cs rfl rfl (one_of rfl)
  exact ⟨V, h1, h2, h3⟩
theorem bdV_n (w : World) : (bdS 56 #[]).run Try.prog w = .ok (.agg zeroV.cs) w := by kernel_rfl
/-- What the definition keeps while it looks for root ports. -/
structure NS (W0 W : World) (a : Option Addr) (n c : Nat) (sa : Option Addr) (m sc g c2 gb cb : Nat) (ids : List Nat) (L : List Ne) (q : Nat → Int) (b : List V4) : Prop where
  sl : SlAt eU W a n c ids
  sd : SlAt eS W sa m sc (sidesE (L.map Ne.eg))
  out : PAt eM W g c2 (ndAt ids L q)
  bst : PAt eV W gb cb b
  ok : Gok ids L
  len : ids.length = n
  bl : b.length = n
  ha : ∀ x, a = some x → x.block ≠ g ∧ x.block ≠ gb
  hs : ∀ x, sa = some x → x.block ≠ g ∧ x.block ≠ gb
  ne : g ≠ gb ∧ W0.heap.size ≤ g ∧ W0.heap.size ≤ gb
  bel : Below W0.heap.size W0 W
section
variable {W0 W V : World} {a : Option Addr} {n c : Nat} {sa : Option Addr} {m sc g c2 gb cb : Nat} {ids : List Nat} {L : List Ne} {q : Nat → Int} {b : List V4}
theorem NS.below (h : NS W0 W a n c sa m sc g c2 gb cb ids L q b) (k : Below W.heap.size W V) : NS W0 V a n c sa m sc g c2 gb cb ids L q b := ⟨h.sl.below k, h.sd.below k, h.out.below k, h.bst.below k, h.ok, h.len, h.bl, h.ha, h.hs, h.ne, below_over h.bel k⟩
theorem NS.ldN (h : NS W0 W a n c sa m sc g c2 gb cb ids L q b) {i : Nat} (hi : i < n) : (ldS 72 (.pointer (some ⟨g, i * 3, none⟩))).run Try.prog W = .ok (.agg (Nd.mk (kr ids L i) (kc ids L i) (q i)).cs) W := h.out.ld kM (ndAt_at q (by rw [h.len]; exact hi)) Try.underlying72 rfl rfl
theorem NS.ldV (h : NS W0 W a n c sa m sc g c2 gb cb ids L q b) {i : Nat} (hi : i < n) : (ldS 56 (.pointer (some ⟨gb, i * 4, none⟩))).run Try.prog W = .ok (.agg (gtV b i).cs) W := h.bst.ld kV (gtV_at (by rw [h.bl]; exact hi)) Try.underlying56 rfl rfl
theorem NS.tr (h : NS W0 W a n c sa m sc g c2 gb cb ids L q b) : TR W a n c (some ⟨g, 0, none⟩) c2 ids L q := ⟨h.sl, by have := h.out.sl kM; rwa [ndAt_len, h.len] at this, h.ok, h.len⟩
theorem NS.putN (h : NS W0 W a n c sa m sc g c2 gb cb ids L q b) {i : Nat} (hi : i < n) (x : Int) : ∃ V, (stS 72 (.pointer (some ⟨g, i * 3, none⟩)) (.agg (Nd.mk (kr ids L i) (kc ids L i) x).cs)).run Try.prog W = .ok () V ∧ NS W0 V a n c sa m sc g c2 gb cb ids L (fun t => if t = i then x else q t) b ∧ W.grownBy V (some g) := by
  have hil : i < ids.length := by rw [h.len]; exact hi
  obtain ⟨V, h1, h2, h3⟩ := h.out.stp kM (y := ⟨kr ids L i, kc ids L i, x⟩) (i := i) (by rw [ndAt_len]; exact hil) rfl
  rw [ndAt_set q hil] at h2
  exact ⟨V, h1, ⟨h.sl.keptBut h3 (fun y e _ e' => by simp only [Option.some.injEq] at e'; exact (h.ha y e).1 e'), h.sd.keptBut h3 (fun y e _ e' => by simp only [Option.some.injEq] at e'; exact (h.hs y e).1 e'), h2, h.bst.keptBut h3 (fun e' => by simp only [Option.some.injEq] at e'; exact h.ne.1 e'.symm), h.ok, h.len, h.bl, h.ha, h.hs, h.ne, gro h.bel h3 h.ne.2.1 h.bel.size⟩, h3⟩
theorem NS.putV (h : NS W0 W a n c sa m sc g c2 gb cb ids L q b) {i : Nat} (hi : i < n) (x : V4) : ∃ V, (stS 56 (.pointer (some ⟨gb, i * 4, none⟩)) (.agg x.cs)).run Try.prog W = .ok () V ∧ NS W0 V a n c sa m sc g c2 gb cb ids L q (b.set i x) ∧ W.grownBy V (some gb) := by
  obtain ⟨V, h1, h2, h3⟩ := h.bst.stp kV (y := x) (i := i) (by rw [h.bl]; exact hi) rfl
  exact ⟨V, h1, ⟨h.sl.keptBut h3 (fun y e _ e' => by simp only [Option.some.injEq] at e'; exact (h.ha y e).2 e'), h.sd.keptBut h3 (fun y e _ e' => by simp only [Option.some.injEq] at e'; exact (h.hs y e).2 e'), h.out.keptBut h3 (fun e' => by simp only [Option.some.injEq] at e'; exact h.ne.1 e'), h2, h.ok, h.len, by rw [List.length_set]; exact h.bl, h.ha, h.hs, h.ne, gro h.bel h3 h.ne.2.2 h.bel.size⟩, h3⟩
end
theorem rbet_hear {ids : List Nat} {L : List Ne} (g : Gok ids L) {s u : Ne} (hs : s ∈ sdl L) (hu : u ∈ sdl L) (w : World) : Calls Try.prog 29 #[.agg (hearV ids L s).cs, .agg (hearV ids L u).cs] w fun e w' => e = .returned (.bool (decide (vk (hearV ids L s) < vk (hearV ids L u)))) ∧ Below w.heap.size w w' := by
  rw [← bet_vk (hearV_wf g hs) (hearV_wf g hu)]
  exact betref_any _ _ w
theorem sds1 {x : Ne} : x.eg.ss[1]? = some (.int .i64 (x.pa : Int)) := rfl
attribute [local go_sem ↓] ldM stM ldSd stSd ldV stV apV bsV bdV stI eqgV eqlV
set_option maxHeartbeats 16000000 in
theorem rnodes_any (a : Option Addr) (n c : Nat) (ids : List Nat) (a' : Option Addr) (n' c' : Nat) (es : List Eg) (w : World) (hs : SlAt eU w a n c ids) (ht : SlAt eE w a' n' c' es) (hl : ∀ x ∈ ids, x < 18446744073709551616) (hn : n ≤ 100) (hm : n' ≤ 100) :
    Calls Try.prog 12 #[.slice a n c, .slice a' n' c'] w fun r w' => (∃ a2 n2 c2 N, r = .returned (.tuple #[.slice a2 n2 c2, .int .i64 (errI ids es)]) ∧ SlAt eM w' a2 n2 c2 N ∧ nodO ids es N) ∧ Below w.heap.size w w' := by
  have C : Hid _ := rcheck_any a n c ids a' n' c' es w hs ht hl hn hm
  have hnn := hs.int
  have HG : Hid (SlAt eU w a n c ids ∧ SlAt eE w a' n' c' es ∧ (∀ x ∈ ids, x < 18446744073709551616) ∧ n' ≤ 100 ∧ ids.length = n) := ⟨hs, ht, hl, hm, hs.len⟩
  have hn100 : n ≤ 100 := hn
  clear hs ht hn hm hl
  cases hc : chkI ids es
  · rw [err_no hc] at C ⊢
    have HC : Hid (chkI ids es = false) := hc
    clear hc
    go_enter Try.func12, Try.ntmps12
    go_wp2_with fail
    refine Calls.mono C.out ?_
    rintro _ W1 ⟨rfl, b1⟩
    go_wp2
    go_returns
    exact ⟨⟨none, 0, 0, [], rfl, SlAt.none' _, .inl ⟨HC.out, rfl⟩⟩, b1⟩
  · rw [err_ok hc] at C ⊢
    obtain ⟨L, rfl, G⟩ := gok_of hc HG.out.2.2.1
    have HC : Hid (chkI ids (L.map Ne.eg) = true ∧ Gok ids L) := ⟨hc, G⟩
    have hn1 : 1 ≤ n := by rw [← HG.out.2.2.2.2]; exact G.n1
    clear hc G
    go_enter Try.func12, Try.ntmps12
    go_wp2_with fail
    refine Calls.mono C.out ?_
    rintro _ W1 ⟨rfl, b1⟩
    have B1 : Hid (Below w.heap.size w W1) := b1
    clear b1 C
    go_wp2_with fail
    refine (rsides_any a' n' c' (L.map Ne.eg) W1 (HG.out.2.1.below B1.out) HG.out.2.2.2.1).mono ?_
    rintro _ W2 ⟨⟨v, rfl, o2⟩, b2⟩
    obtain ⟨sa, sc, rfl, hS, hsb⟩ := o2.form
    obtain ⟨m, hm⟩ : ∃ m, (sidesE (L.map Ne.eg)).length = m := ⟨_, rfl⟩
    rw [hm] at hS ⊢
    have hml : (sdl L).length = m := by rw [← hm, sdl_eg, List.length_map]
    have hmi := hS.int
    have K2 : Hid (SlAt eS W2 sa m sc (sidesE (L.map Ne.eg)) ∧ (∀ x, sa = some x → x.block < W2.heap.size) ∧ Below w.heap.size w W2 ∧ (sdl L).length = m) := ⟨hS, fun x e => (hsb x e).2, below_over B1.out b2, hml⟩
    clear o2 hS hsb hm hml b2
    go_wp2_with fail
    refine (roots_any a n c ids sa m sc L W2 (HG.out.1.below K2.out.2.2.1) K2.out.1 HC.out.2).mono ?_
    rintro _ W3 ⟨⟨g, c2, rfl, hg, hP⟩, b3⟩
    have K3 : Hid (PAt eM W3 g c2 (ndAt ids L fun _ => -1) ∧ W2.heap.size ≤ g ∧ g < W3.heap.size ∧ Below W2.heap.size W2 W3) := ⟨hP, hg, hP.lt, b3⟩
    clear hP hg b3
    go_wp2_with fail
    go_loopw [9, 10] (fun v9 v10 wr => ∃ i : Nat, i ≤ n ∧ v10 = .int .i64 i ∧ Own eV wr W3.heap.size v9 ((ids.take i).map fun _ => zeroV) ∧ Below W3.heap.size W3 wr) (fun _ v10 _ => n - (intOf v10).toNat)
    case atStart => exact ⟨0, by omega, rfl, Own.nil _ _, Below.refl _ _⟩
    case round =>
      obtain ⟨i, hi, rfl, hO, hB⟩ := hrel
      have hi0 : (0 : Int) ≤ (i : Int) := by omega
      by_cases hit : i < n
      · have hi1 : (i : Int) < (n : Int) := by omega
        have hil : i < ids.length := by rw [HG.out.2.2.2.2]; exact hit
        obtain ⟨x, hx⟩ := lt_nth hil
        have bd := bdV_n wr
        have bs := bsV_is zeroV wr
        obtain ⟨v', Y, ap, o2, b2⟩ := nV hO hB.size (by simp; omega) zeroV
        have Z : Hid (Own eV Y W3.heap.size v' ((ids.take (i + 1)).map fun _ => zeroV) ∧ Below W3.heap.size W3 Y) := ⟨by rw [List.take_add_one, hx, List.map_append]; exact o2, hB.trans b2⟩
        clear hO hB o2 b2 hx hil
        go_wp2
        go_roundw
        case rel => exact ⟨i + 1, by omega, by go_num, Z.out.1, Z.out.2⟩
        case measure => simp [intOf]; omega
      · have hin : i = n := by omega
        subst hin
        have hi1 : ¬ (i : Int) < (i : Int) := by omega
        rw [List.take_of_length_le (by rw [HG.out.2.2.2.2]; exact Nat.le_refl _)] at hO
        have hbl : (ids.map fun _ => zeroV).length = i := by rw [List.length_map]; exact HG.out.2.2.2.2
        obtain ⟨gb, cb, rfl, hgb, hP⟩ := hO.pat' (by omega)
        rw [hbl]
        obtain ⟨b, o, rfl⟩ := HG.out.1.some' (by omega)
        have hbw := HG.out.1.lt kU (by omega)
        have N0 : Hid (NS w wr (some ⟨b, o, none⟩) i c sa m sc g c2 gb cb ids L (fun _ => -1) (ids.map fun _ => zeroV)) := by
          have h2 := K2.out.2.2.1.size
          have h3 := K3.out.2.1
          have h4 := K3.out.2.2.1
          have h5 := K3.out.2.2.2.size
          refine ⟨HG.out.1.below (below_over (below_over K2.out.2.2.1 K3.out.2.2.2) hB), K2.out.1.below (below_over K3.out.2.2.2 hB), K3.out.1.below hB, hP, HC.out.2, HG.out.2.2.2.2, hbl, fun x e => ?_, fun x e => ?_, ⟨by omega, by omega, by omega⟩, below_over (below_over K2.out.2.2.1 K3.out.2.2.2) hB⟩
          · cases e
            show b ≠ g ∧ b ≠ gb
            omega
          · have := K2.out.2.1 x e
            omega
        have HB : Hid (b < w.heap.size) := hbw
        clear hO hP hbl hB hgb hbw
        go_wp2_with fail
        go_loopw [11] (fun v11 wx => ∃ (t : Nat) (q : Nat → Int) (bv : List V4), t ≤ m ∧ v11 = .int .i64 t ∧ NS w wx (some ⟨b, o, none⟩) i c sa m sc g c2 gb cb ids L q bv ∧ RB ids L t q bv) (fun v11 _ => m - (intOf v11).toNat)
        case atStart => exact ⟨0, _, _, by omega, rfl, N0.out, RB.start ids L⟩
        case round =>
          obtain ⟨t, q, bv, ht, rfl, hN, hRB⟩ := hrel
          have ht0 : (0 : Int) ≤ (t : Int) := by omega
          by_cases htt : t < m
          · have ht1 : (t : Int) < (m : Int) := by omega
            have htl : t < (sdl L).length := by rw [K2.out.2.2.2]; exact htt
            obtain ⟨b2, o2, rfl⟩ := hN.sd.some' (by omega)
            obtain ⟨s, hs⟩ := lt_nth htl
            have hsm := List.mem_of_getElem? hs
            have hgs := HC.out.2.side s hsm
            rw [HG.out.2.2.2.2] at hgs
            have ha0 : (0 : Int) ≤ (s.a : Int) := by omega
            have ha1 : (s.a : Int) < (i : Int) := by omega
            have lp := lds hN.sd (sdl_ss hs)
            obtain ⟨V1, sV1, rS, bV1⟩ := SvAt.put wr s.eg
            have k0 := rS.cell 0 (.int .i64 (s.a : Int)) rfl
            have lN := (hN.below bV1).ldN hgs.1
            obtain ⟨V, sV, rN, bV⟩ := MvAt.put V1 ⟨kr ids L s.a, kc ids L s.a, q s.a⟩
            have T : Hid ((sdl L)[t]? = some s ∧ s ∈ sdl L ∧ s.a < i ∧ s.b < i ∧ s.pa ≤ 7 ∧ s.pb ≤ 7 ∧ s.ca ≤ 200000000) := ⟨hs, hsm, hgs.1, hgs.2.1, hgs.2.2.1, hgs.2.2.2.1, hgs.2.2.2.2.2.1⟩
            have D : Hid (NS w V (some ⟨b, o, none⟩) i c (some ⟨b2, o2, none⟩) m sc g c2 gb cb ids L q bv ∧ RB ids L t q bv ∧ RvAt V wr.heap.size 64 s.eg.ss ∧ RvAt V V1.heap.size 72 (Nd.mk (kr ids L s.a) (kc ids L s.a) (q s.a)).cs ∧ V1.heap.size ≠ g ∧ V1.heap.size ≠ gb ∧ w.heap.size ≤ V1.heap.size ∧ wr.heap.size ≠ V1.heap.size) := ⟨(hN.below bV1).below bV, hRB, rS.below bV, rN, by have := (hN.below bV1).out.lt; omega, by have := (hN.below bV1).bst.lt; omega, (hN.below bV1).bel.size, by have := rS.lt; omega⟩
            have SB0 : b2 < V1.heap.size := Nat.lt_of_lt_of_le (hN.sd.lt kS (by omega)) bV1.size
            have SG0 : wr.heap.size ≠ g := by have := hN.out.lt; omega
            obtain ⟨zs, hzs⟩ : ∃ z, wr.heap.size = z := ⟨_, rfl⟩
            obtain ⟨zn, hzn⟩ : ∃ z, V1.heap.size = z := ⟨_, rfl⟩
            rw [hzs] at D sV1 k0
            rw [hzn] at D sV SB0
            rw [hzs] at SG0
            have SB : Hid (b2 < zn) := SB0
            have SG : Hid (zs ≠ g) := SG0
            clear SB0 SG0
            clear hN hRB hs hsm hgs htl rS rN bV1 bV N0
            go_wp2_with fail
            clear lp sV1 lN sV hzs hzn k0
            have f0 := fun p : Later V => MvAt.c0 (D.out.2.2.2.1.below p.below)
            have f1 := fun p : Later V => (D.out.2.2.1.below p.below).cell 0 (.int .i64 (s.a : Int)) rfl
            have f2 := fun p : Later V => (D.out.1.below p.below).tr.id T.out.2.2.1
            cases hq : ((kr ids L s.a : Int) == (idO ids s.a : Int))
            rotate_left
            · have hr : isRoot ids L s.a := by
                have := beq_iff_eq.1 hq
                unfold isRoot
                show kr ids L s.a = idO ids s.a
                omega
              have RB2 : Hid (RB ids L (t + 1) q bv) := D.out.2.1.skip T.out.1 (fun h => absurd hr h)
              clear hr
              refine wp_region_later (by kernel_rfl) (by kernel_rfl) ?_
              repeat (go_big_quiet_step (first | exact rfl))
              refine wpQuiet_nil ?_
              intro _ hw'
              obtain ⟨p, rfl⟩ := hw'
              clear f0 f1 f2
              go_wp2
              go_roundw
              case rel => exact ⟨t + 1, q, bv, by omega, by go_num, D.out.1.below p.below, RB2.out⟩
              case measure => simp [intOf]; omega
            · have hr : ¬ isRoot ids L s.a := fun h => by
                have := beq_eq_false_iff_ne.1 hq
                have h2 : kr ids L s.a = idO ids s.a := h
                rw [h2] at this
                exact this rfl
              have HR : Hid (¬ isRoot ids L s.a) := hr
              clear hr
              refine wp_region_later (by kernel_rfl) (by kernel_rfl) ?_
              repeat (go_big_quiet_step (first | exact rfl))
              refine wpQuiet_nil ?_
              intro _ hw'
              obtain ⟨p, rfl⟩ := hw'
              clear f0 f1 f2 hq
              obtain ⟨Y, hY⟩ : ∃ Y, p.val = Y := ⟨_, rfl⟩
              have E : Hid (NS w Y (some ⟨b, o, none⟩) i c (some ⟨b2, o2, none⟩) m sc g c2 gb cb ids L q bv ∧ RvAt Y zs 64 s.eg.ss ∧ RvAt Y zn 72 (Nd.mk (kr ids L s.a) (kc ids L s.a) (q s.a)).cs ∧ zn ≠ g ∧ zn ≠ gb ∧ w.heap.size ≤ zn ∧ zs ≠ zn) := by rw [← hY]; exact ⟨D.out.1.below p.below, D.out.2.2.1.below p.below, D.out.2.2.2.1.below p.below, D.out.2.2.2.2⟩
              rw [hY]
              clear hY
              go_wp2_with fail
              go_cut [14] from 59 to 68 (fun v14 wx => ∃ z, v14 = .pointer (some ⟨z, 0, none⟩) ∧ RvAt wx z 56 (hearV ids L s).cs ∧ Y.heap.size ≤ z ∧ Below Y.heap.size Y wx)
              case first =>
                have j3 := fun p : Later Y => (E.out.2.1.below p.below).cell 3 (.int .i64 (s.b : Int)) rfl
                have j4 := fun p : Later Y => (E.out.2.1.below p.below).cell 4 (.int .i64 (s.pb : Int)) rfl
                have j2 := fun p : Later Y => (E.out.2.1.below p.below).cell 2 (.int .u32 (s.ca : Int)) rfl
                obtain ⟨X0, hX0⟩ : ∃ X0, World.drew Y = X0 := ⟨_, rfl⟩
                have B0 : Hid (Below Y.heap.size Y X0) := by rw [← hX0]; exact (Below.refl _ _).drew
                refine wp_region_noPanic ?_
                refine wp_region_held_drew (S := fun w' => ∃ x : Later Y, w' = x.val) (by kernel_rfl) ⟨⟨_, (Below.refl _ _).drew⟩, rfl⟩ (fun hHeld => ?_)
                rw [hX0] at hHeld ⊢
                clear hX0
                refine wpAnyH_take (i := 0) (oi := { dst := some 59, op := Op.move (Operand.tmp 0), type := 22, pos := "ref.go:113", after := #[], guard := none }) (v := ?_) rfl (by kernel_rfl) (by kernel_rfl) (by kernel_rfl) (fun _ _ _ h => h) (Or.inl ⟨by rfl, ?_⟩) hHeld ?_
                rotate_left
                · intro W_ hSw_
                  obtain ⟨q, rfl⟩ := hSw_
                  first | (go_simp; done) | (go_simp; with_reducible rfl)
                rotate_left
                try simp only [Act.put, List.setIfInBounds_toArray, List.set_cons_zero, List.set_cons_succ]
                refine wpAnyH_take (i := 1) (oi := { dst := some 60, op := Op.move (Operand.tmp 8), type := 30, pos := "ref.go:113", after := #[], guard := none }) (v := ?_) rfl (by kernel_rfl) (by kernel_rfl) (by kernel_rfl) (fun _ _ _ h => h) (Or.inl ⟨by rfl, ?_⟩) hHeld ?_
                rotate_left
                · intro W_ hSw_
                  obtain ⟨q, rfl⟩ := hSw_
                  first | (go_simp; done) | (go_simp; with_reducible rfl)
                rotate_left
                try simp only [Act.put, List.setIfInBounds_toArray, List.set_cons_zero, List.set_cons_succ]
                refine wpAnyH_take (i := 2) (oi := { dst := some 61, op := Op.fieldAddr 64 (Operand.tmp 12) 3, type := 0, pos := "ref.go:113", after := #[], guard := none }) (v := ?_) rfl (by kernel_rfl) (by kernel_rfl) (by kernel_rfl) (fun _ _ _ h => h) (Or.inl ⟨by rfl, ?_⟩) hHeld ?_
                rotate_left
                · intro W_ hSw_
                  obtain ⟨q, rfl⟩ := hSw_
                  first | (go_simp; done) | (go_simp; with_reducible rfl)
                rotate_left
                try simp only [Act.put, List.setIfInBounds_toArray, List.set_cons_zero, List.set_cons_succ]
                refine wpAnyH_take (i := 3) (oi := { dst := some 62, op := Op.load 3 (Operand.tmp 61), type := 3, pos := "ref.go:113", after := #[{ on := 2, ground := Ground.data }], guard := none }) (v := ?_) rfl (by kernel_rfl) (by kernel_rfl) (by kernel_rfl) (fun _ _ _ h => h) (Or.inl ⟨by rfl, ?_⟩) hHeld ?_
                rotate_left
                · intro W_ hSw_
                  obtain ⟨q, rfl⟩ := hSw_
                  first | (go_simp; done) | (go_simp; with_reducible rfl)
                rotate_left
                try simp only [Act.put, List.setIfInBounds_toArray, List.set_cons_zero, List.set_cons_succ]
                refine wpAnyH_take (i := 4) (oi := { dst := some 63, op := Op.fieldAddr 64 (Operand.tmp 12) 4, type := 0, pos := "ref.go:113", after := #[], guard := none }) (v := ?_) rfl (by kernel_rfl) (by kernel_rfl) (by kernel_rfl) (fun _ _ _ h => h) (Or.inl ⟨by rfl, ?_⟩) hHeld ?_
                rotate_left
                · intro W_ hSw_
                  obtain ⟨q, rfl⟩ := hSw_
                  first | (go_simp; done) | (go_simp; with_reducible rfl)
                rotate_left
                try simp only [Act.put, List.setIfInBounds_toArray, List.set_cons_zero, List.set_cons_succ]
                refine wpAnyH_take (i := 5) (oi := { dst := some 64, op := Op.load 3 (Operand.tmp 63), type := 3, pos := "ref.go:113", after := #[{ on := 4, ground := Ground.data }], guard := none }) (v := ?_) rfl (by kernel_rfl) (by kernel_rfl) (by kernel_rfl) (fun _ _ _ h => h) (Or.inl ⟨by rfl, ?_⟩) hHeld ?_
                rotate_left
                · intro W_ hSw_
                  obtain ⟨q, rfl⟩ := hSw_
                  first | (go_simp; done) | (go_simp; with_reducible rfl)
                rotate_left
                try simp only [Act.put, List.setIfInBounds_toArray, List.set_cons_zero, List.set_cons_succ]
                refine wpAnyH_take (i := 7) (oi := { dst := some 66, op := Op.fieldAddr 64 (Operand.tmp 12) 2, type := 0, pos := "ref.go:113", after := #[], guard := none }) (v := ?_) rfl (by kernel_rfl) (by kernel_rfl) (by kernel_rfl) (fun _ _ _ h => h) (Or.inl ⟨by rfl, ?_⟩) hHeld ?_
                rotate_left
                · intro W_ hSw_
                  obtain ⟨q, rfl⟩ := hSw_
                  first | (go_simp; done) | (go_simp; with_reducible rfl)
                rotate_left
                try simp only [Act.put, List.setIfInBounds_toArray, List.set_cons_zero, List.set_cons_succ]
                refine wpAnyH_take (i := 8) (oi := { dst := some 67, op := Op.load 48 (Operand.tmp 66), type := 48, pos := "ref.go:113", after := #[{ on := 7, ground := Ground.data }], guard := none }) (v := ?_) rfl (by kernel_rfl) (by kernel_rfl) (by kernel_rfl) (fun _ _ _ h => h) (Or.inl ⟨by rfl, ?_⟩) hHeld ?_
                rotate_left
                · intro W_ hSw_
                  obtain ⟨q, rfl⟩ := hSw_
                  first | (go_simp; done) | (go_simp; with_reducible rfl)
                rotate_left
                try simp only [Act.put, List.setIfInBounds_toArray, List.set_cons_zero, List.set_cons_succ]
                refine wpAnyH_ready (rs := [6, 10]) (by kernel_rfl) (by simp) ?_
                refine (AllReadyH.cons (o := { dst := some 65, op := Op.call { callee := Callee.value (Operand.func 28), args := #[Operand.tmp 59, Operand.tmp 60, Operand.tmp 62, Operand.tmp 64], argTypes := #[22, 30, 3, 3] }, type := 56, pos := "ref.go:113", after := #[{ on := 0, ground := Ground.data }, { on := 1, ground := Ground.data }, { on := 3, ground := Ground.data }, { on := 5, ground := Ground.data }], guard := none }) rfl (fun K hK => ?_) (AllReadyH.cons (o := { dst := some 14, op := Op.alloc 56, type := 0, pos := "ref.go:113", after := #[], guard := none }) rfl (fun K hK => ?_) AllReadyH.nil))
                · skip
                  go_simp
                  refine (rtold_any (some ⟨b, o, none⟩) i c (some ⟨g, 0, none⟩) c2 ids L q s.b s.pb X0 (E.out.1.tr.below B0.out) T.out.2.2.2.1 T.out.2.2.2.2.2.1).mono ?_
                  rintro _ X1 ⟨rfl, bb⟩
                  have B1 : Hid (Below Y.heap.size Y X1) := below_over B0.out bb
                  clear bb
                  clear hHeld
                  refine hK.out _ _ ⟨⟨_, B1.out⟩, rfl⟩ (fun hHeld => ?_)
                  clear hK K
                  try simp only [Act.put, List.setIfInBounds_toArray, List.set_cons_zero, List.set_cons_succ]
                  refine wpAnyH_ready (rs := [9, 10]) (by kernel_rfl) (by simp) ?_
                  refine (AllReadyH.cons (o := { dst := some 68, op := Op.call { callee := Callee.value (Operand.func 27), args := #[Operand.tmp 65, Operand.tmp 67], argTypes := #[56, 48] }, type := 56, pos := "ref.go:113", after := #[{ on := 6, ground := Ground.data }, { on := 8, ground := Ground.data }, { on := 6, ground := Ground.chain }], guard := none }) rfl (fun K hK => ?_) (AllReadyH.cons (o := { dst := some 14, op := Op.alloc 56, type := 0, pos := "ref.go:113", after := #[], guard := none }) rfl (fun K hK => ?_) AllReadyH.nil))
                  · skip
                    go_simp
                    refine (addref_any (toldV ids L s.b s.pb) (s.ca : Int) X1 (toldV_wf HC.out.2 (by rw [HG.out.2.2.2.2]; exact T.out.2.2.2.1) T.out.2.2.2.2.2.1) (by have := T.out.2.2.2.2.2.2; omega)).mono ?_
                    rintro _ X2 ⟨rfl, bb⟩
                    rw [add_hear HC.out.2 T.out.2.1]
                    have B2 : Hid (Below Y.heap.size Y X2) := below_over B1.out bb
                    clear bb
                    clear hHeld
                    refine hK.out _ _ ⟨⟨_, B2.out⟩, rfl⟩ (fun hHeld => ?_)
                    clear hK K
                    try simp only [Act.put, List.setIfInBounds_toArray, List.set_cons_zero, List.set_cons_succ]
                    refine wpAnyH_ready (rs := [10]) (by kernel_rfl) (by simp) ?_
                    refine AllReadyH.cons (o := { dst := some 14, op := Op.alloc 56, type := 0, pos := "ref.go:113", after := #[], guard := none }) rfl (fun K hK => ?_) AllReadyH.nil
                    obtain ⟨X3, hN⟩ : ∃ z, X2.alloc (.cells #[.int .u64 0, .int .u32 0, .int .u64 0, .int .u16 0] 56) = z := ⟨_, rfl⟩
                    obtain ⟨z, hz⟩ : ∃ z, X2.heap.size = z := ⟨_, rfl⟩
                    have B3 : Hid (Below Y.heap.size Y X3) := by rw [← hN]; exact below_over B2.out ((Below.refl _ _).alloc (Nat.le_refl _) _)
                    have p3 : Hid (RvAt X3 z 56 #[.int .u64 0, .int .u32 0, .int .u64 0, .int .u16 0] ∧ Y.heap.size ≤ z) := ⟨by rw [← hN, ← hz]; exact RvAt.new _ _ _, by rw [← hz]; exact B2.out.size⟩
                    go_simp
                    clear hN hz
                    clear hHeld
                    refine hK.out _ _ ⟨⟨_, B3.out⟩, rfl⟩ (fun hHeld => ?_)
                    clear hK K
                    try simp only [Act.put, List.setIfInBounds_toArray, List.set_cons_zero, List.set_cons_succ]
                    refine wpAnyH_ready (rs := [11]) (by kernel_rfl) (by simp) ?_
                    refine AllReadyH.cons (o := { dst := none, op := Op.store 56 (Operand.tmp 14) (Operand.tmp 68), type := 0, pos := "ref.go:113", after := #[{ on := 10, ground := Ground.data }, { on := 9, ground := Ground.data }, { on := 9, ground := Ground.chain }, { on := 0, ground := Ground.phase }, { on := 1, ground := Ground.phase }, { on := 2, ground := Ground.phase }, { on := 3, ground := Ground.phase }, { on := 4, ground := Ground.phase }, { on := 5, ground := Ground.phase }, { on := 6, ground := Ground.phase }, { on := 7, ground := Ground.phase }, { on := 8, ground := Ground.phase }, { on := 9, ground := Ground.phase }, { on := 10, ground := Ground.phase }], guard := none }) rfl (fun K hK => ?_) AllReadyH.nil
                    have st4 := p3.out.1.st rtV (ds := (hearV ids L s).cs) rfl rfl (V4.one _)
                    obtain ⟨X4, hN⟩ : ∃ u, X3.setRow z (hearV ids L s).cs = u := ⟨_, rfl⟩
                    rw [hN] at st4
                    have B4 : Hid (Below Y.heap.size Y X4) := by rw [← hN]; exact below_setRow B3.out p3.out.2 _
                    have p4 : Hid (RvAt X4 z 56 (hearV ids L s).cs ∧ Y.heap.size ≤ z) := ⟨by rw [← hN]; exact p3.out.1.set, p3.out.2⟩
                    go_simp
                    clear hN st4
                    clear hHeld
                    refine hK.out _ _ ⟨⟨_, B4.out⟩, rfl⟩ (fun hHeld => ?_)
                    clear hK K
                    try simp only [Act.put, List.setIfInBounds_toArray, List.set_cons_zero, List.set_cons_succ]
                    refine wpAnyH_done (by kernel_rfl) ?_ _
                    refine NoPanic.normal ?_
                    clear hHeld
                    go_wp2_with fail
                    go_meet
                    exact ⟨z, rfl, p4.out.1, p4.out.2, B4.out⟩
                  · skip
                    obtain ⟨X5, hN⟩ : ∃ z, X1.alloc (.cells #[.int .u64 0, .int .u32 0, .int .u64 0, .int .u16 0] 56) = z := ⟨_, rfl⟩
                    obtain ⟨z, hz⟩ : ∃ z, X1.heap.size = z := ⟨_, rfl⟩
                    have B5 : Hid (Below Y.heap.size Y X5) := by rw [← hN]; exact below_over B1.out ((Below.refl _ _).alloc (Nat.le_refl _) _)
                    have p5 : Hid (RvAt X5 z 56 #[.int .u64 0, .int .u32 0, .int .u64 0, .int .u16 0] ∧ Y.heap.size ≤ z) := ⟨by rw [← hN, ← hz]; exact RvAt.new _ _ _, by rw [← hz]; exact B1.out.size⟩
                    go_simp
                    clear hN hz
                    clear hHeld
                    refine hK.out _ _ ⟨⟨_, B5.out⟩, rfl⟩ (fun hHeld => ?_)
                    clear hK K
                    try simp only [Act.put, List.setIfInBounds_toArray, List.set_cons_zero, List.set_cons_succ]
                    refine wpAnyH_ready (rs := [9]) (by kernel_rfl) (by simp) ?_
                    refine AllReadyH.cons (o := { dst := some 68, op := Op.call { callee := Callee.value (Operand.func 27), args := #[Operand.tmp 65, Operand.tmp 67], argTypes := #[56, 48] }, type := 56, pos := "ref.go:113", after := #[{ on := 6, ground := Ground.data }, { on := 8, ground := Ground.data }, { on := 6, ground := Ground.chain }], guard := none }) rfl (fun K hK => ?_) AllReadyH.nil
                    go_simp
                    refine (addref_any (toldV ids L s.b s.pb) (s.ca : Int) X5 (toldV_wf HC.out.2 (by rw [HG.out.2.2.2.2]; exact T.out.2.2.2.1) T.out.2.2.2.2.2.1) (by have := T.out.2.2.2.2.2.2; omega)).mono ?_
                    rintro _ X6 ⟨rfl, bb⟩
                    rw [add_hear HC.out.2 T.out.2.1]
                    have B6 : Hid (Below Y.heap.size Y X6) := below_over B5.out bb
                    have p6 : Hid (RvAt X6 z 56 #[.int .u64 0, .int .u32 0, .int .u64 0, .int .u16 0] ∧ Y.heap.size ≤ z) := ⟨p5.out.1.below bb, p5.out.2⟩
                    clear bb
                    clear hHeld
                    refine hK.out _ _ ⟨⟨_, B6.out⟩, rfl⟩ (fun hHeld => ?_)
                    clear hK K
                    try simp only [Act.put, List.setIfInBounds_toArray, List.set_cons_zero, List.set_cons_succ]
                    refine wpAnyH_ready (rs := [11]) (by kernel_rfl) (by simp) ?_
                    refine AllReadyH.cons (o := { dst := none, op := Op.store 56 (Operand.tmp 14) (Operand.tmp 68), type := 0, pos := "ref.go:113", after := #[{ on := 10, ground := Ground.data }, { on := 9, ground := Ground.data }, { on := 9, ground := Ground.chain }, { on := 0, ground := Ground.phase }, { on := 1, ground := Ground.phase }, { on := 2, ground := Ground.phase }, { on := 3, ground := Ground.phase }, { on := 4, ground := Ground.phase }, { on := 5, ground := Ground.phase }, { on := 6, ground := Ground.phase }, { on := 7, ground := Ground.phase }, { on := 8, ground := Ground.phase }, { on := 9, ground := Ground.phase }, { on := 10, ground := Ground.phase }], guard := none }) rfl (fun K hK => ?_) AllReadyH.nil
                    have st7 := p6.out.1.st rtV (ds := (hearV ids L s).cs) rfl rfl (V4.one _)
                    obtain ⟨X7, hN⟩ : ∃ u, X6.setRow z (hearV ids L s).cs = u := ⟨_, rfl⟩
                    rw [hN] at st7
                    have B7 : Hid (Below Y.heap.size Y X7) := by rw [← hN]; exact below_setRow B6.out p6.out.2 _
                    have p7 : Hid (RvAt X7 z 56 (hearV ids L s).cs ∧ Y.heap.size ≤ z) := ⟨by rw [← hN]; exact p6.out.1.set, p6.out.2⟩
                    go_simp
                    clear hN st7
                    clear hHeld
                    refine hK.out _ _ ⟨⟨_, B7.out⟩, rfl⟩ (fun hHeld => ?_)
                    clear hK K
                    try simp only [Act.put, List.setIfInBounds_toArray, List.set_cons_zero, List.set_cons_succ]
                    refine wpAnyH_done (by kernel_rfl) ?_ _
                    refine NoPanic.normal ?_
                    clear hHeld
                    go_wp2_with fail
                    go_meet
                    exact ⟨z, rfl, p7.out.1, p7.out.2, B7.out⟩
                · skip
                  obtain ⟨X8, hN⟩ : ∃ z, X0.alloc (.cells #[.int .u64 0, .int .u32 0, .int .u64 0, .int .u16 0] 56) = z := ⟨_, rfl⟩
                  obtain ⟨z, hz⟩ : ∃ z, X0.heap.size = z := ⟨_, rfl⟩
                  have B8 : Hid (Below Y.heap.size Y X8) := by rw [← hN]; exact below_over B0.out ((Below.refl _ _).alloc (Nat.le_refl _) _)
                  have p8 : Hid (RvAt X8 z 56 #[.int .u64 0, .int .u32 0, .int .u64 0, .int .u16 0] ∧ Y.heap.size ≤ z) := ⟨by rw [← hN, ← hz]; exact RvAt.new _ _ _, by rw [← hz]; exact B0.out.size⟩
                  go_simp
                  clear hN hz
                  clear hHeld
                  refine hK.out _ _ ⟨⟨_, B8.out⟩, rfl⟩ (fun hHeld => ?_)
                  clear hK K
                  try simp only [Act.put, List.setIfInBounds_toArray, List.set_cons_zero, List.set_cons_succ]
                  refine wpAnyH_ready (rs := [6]) (by kernel_rfl) (by simp) ?_
                  refine AllReadyH.cons (o := { dst := some 65, op := Op.call { callee := Callee.value (Operand.func 28), args := #[Operand.tmp 59, Operand.tmp 60, Operand.tmp 62, Operand.tmp 64], argTypes := #[22, 30, 3, 3] }, type := 56, pos := "ref.go:113", after := #[{ on := 0, ground := Ground.data }, { on := 1, ground := Ground.data }, { on := 3, ground := Ground.data }, { on := 5, ground := Ground.data }], guard := none }) rfl (fun K hK => ?_) AllReadyH.nil
                  go_simp
                  refine (rtold_any (some ⟨b, o, none⟩) i c (some ⟨g, 0, none⟩) c2 ids L q s.b s.pb X8 (E.out.1.tr.below B8.out) T.out.2.2.2.1 T.out.2.2.2.2.2.1).mono ?_
                  rintro _ X9 ⟨rfl, bb⟩
                  have B9 : Hid (Below Y.heap.size Y X9) := below_over B8.out bb
                  have p9 : Hid (RvAt X9 z 56 #[.int .u64 0, .int .u32 0, .int .u64 0, .int .u16 0] ∧ Y.heap.size ≤ z) := ⟨p8.out.1.below bb, p8.out.2⟩
                  clear bb
                  clear hHeld
                  refine hK.out _ _ ⟨⟨_, B9.out⟩, rfl⟩ (fun hHeld => ?_)
                  clear hK K
                  try simp only [Act.put, List.setIfInBounds_toArray, List.set_cons_zero, List.set_cons_succ]
                  refine wpAnyH_ready (rs := [9]) (by kernel_rfl) (by simp) ?_
                  refine AllReadyH.cons (o := { dst := some 68, op := Op.call { callee := Callee.value (Operand.func 27), args := #[Operand.tmp 65, Operand.tmp 67], argTypes := #[56, 48] }, type := 56, pos := "ref.go:113", after := #[{ on := 6, ground := Ground.data }, { on := 8, ground := Ground.data }, { on := 6, ground := Ground.chain }], guard := none }) rfl (fun K hK => ?_) AllReadyH.nil
                  go_simp
                  refine (addref_any (toldV ids L s.b s.pb) (s.ca : Int) X9 (toldV_wf HC.out.2 (by rw [HG.out.2.2.2.2]; exact T.out.2.2.2.1) T.out.2.2.2.2.2.1) (by have := T.out.2.2.2.2.2.2; omega)).mono ?_
                  rintro _ X10 ⟨rfl, bb⟩
                  rw [add_hear HC.out.2 T.out.2.1]
                  have B10 : Hid (Below Y.heap.size Y X10) := below_over B9.out bb
                  have p10 : Hid (RvAt X10 z 56 #[.int .u64 0, .int .u32 0, .int .u64 0, .int .u16 0] ∧ Y.heap.size ≤ z) := ⟨p9.out.1.below bb, p9.out.2⟩
                  clear bb
                  clear hHeld
                  refine hK.out _ _ ⟨⟨_, B10.out⟩, rfl⟩ (fun hHeld => ?_)
                  clear hK K
                  try simp only [Act.put, List.setIfInBounds_toArray, List.set_cons_zero, List.set_cons_succ]
                  refine wpAnyH_ready (rs := [11]) (by kernel_rfl) (by simp) ?_
                  refine AllReadyH.cons (o := { dst := none, op := Op.store 56 (Operand.tmp 14) (Operand.tmp 68), type := 0, pos := "ref.go:113", after := #[{ on := 10, ground := Ground.data }, { on := 9, ground := Ground.data }, { on := 9, ground := Ground.chain }, { on := 0, ground := Ground.phase }, { on := 1, ground := Ground.phase }, { on := 2, ground := Ground.phase }, { on := 3, ground := Ground.phase }, { on := 4, ground := Ground.phase }, { on := 5, ground := Ground.phase }, { on := 6, ground := Ground.phase }, { on := 7, ground := Ground.phase }, { on := 8, ground := Ground.phase }, { on := 9, ground := Ground.phase }, { on := 10, ground := Ground.phase }], guard := none }) rfl (fun K hK => ?_) AllReadyH.nil
                  have st11 := p10.out.1.st rtV (ds := (hearV ids L s).cs) rfl rfl (V4.one _)
                  obtain ⟨X11, hN⟩ : ∃ u, X10.setRow z (hearV ids L s).cs = u := ⟨_, rfl⟩
                  rw [hN] at st11
                  have B11 : Hid (Below Y.heap.size Y X11) := by rw [← hN]; exact below_setRow B10.out p10.out.2 _
                  have p11 : Hid (RvAt X11 z 56 (hearV ids L s).cs ∧ Y.heap.size ≤ z) := ⟨by rw [← hN]; exact p10.out.1.set, p10.out.2⟩
                  go_simp
                  clear hN st11
                  clear hHeld
                  refine hK.out _ _ ⟨⟨_, B11.out⟩, rfl⟩ (fun hHeld => ?_)
                  clear hK K
                  try simp only [Act.put, List.setIfInBounds_toArray, List.set_cons_zero, List.set_cons_succ]
                  refine wpAnyH_done (by kernel_rfl) ?_ _
                  refine NoPanic.normal ?_
                  clear hHeld
                  go_wp2_with fail
                  go_meet
                  exact ⟨z, rfl, p11.out.1, p11.out.2, B11.out⟩
              case rest =>
                obtain ⟨zv, rfl, rv, hzv, bX⟩ := hcut
                obtain ⟨u, hu⟩ : ∃ u, u = wc := ⟨_, rfl⟩
                have F : Hid (NS w wc (some ⟨b, o, none⟩) i c (some ⟨b2, o2, none⟩) m sc g c2 gb cb ids L q bv ∧ RvAt wc zs 64 s.eg.ss ∧ RvAt wc zn 72 (Nd.mk (kr ids L s.a) (kc ids L s.a) (q s.a)).cs ∧ RvAt wc zv 56 (hearV ids L s).cs ∧ zv ≠ g ∧ zv ≠ gb ∧ zv ≠ zn ∧ zs ≠ zn) := ⟨E.out.1.below bX, E.out.2.1.below bX, E.out.2.2.1.below bX, rv, by have := E.out.1.out.lt; omega, by have := E.out.1.bst.lt; omega, by have := E.out.2.2.1.lt; omega, E.out.2.2.2.2.2.2⟩
                have x0 := fun p : Later wc => MvAt.c2 (F.out.2.2.1.below p.below)
                have x1 := fun p : Later wc => (F.out.2.1.below p.below).cell 0 (.int .i64 (s.a : Int)) rfl
                have x2 := fun p : Later wc => (F.out.2.1.below p.below).cell 1 (.int .i64 (s.pa : Int)) rfl
                have x3 := fun p : Later wc => (F.out.2.2.2.1.below p.below).ld rtV rfl
                have x4 := fun p : Later wc => (F.out.1.below p.below).ldV T.out.2.2.1
                clear rv hzv bX hu u
                obtain ⟨qa, hqa⟩ : ∃ z, q s.a = z := ⟨_, rfl⟩
                obtain ⟨ba, hba⟩ : ∃ z, gtV bv s.a = z := ⟨_, rfl⟩
                have HQ : Hid (q s.a = qa ∧ gtV bv s.a = ba) := ⟨hqa, hba⟩
                simp only [hqa] at x0
                rw [hba] at x4
                clear hqa hba
                have hst := (D.out.2.1.2 s.a (by rw [HG.out.2.2.2.2]; exact T.out.2.2.1)).2 HR.out
                have TAKE : Hid ((∀ u ∈ flt L s.a t, vk (hearV ids L s) ≤ vk (hearV ids L u)) → RB ids L (t + 1) (fun i => if i = s.a then (s.pa : Int) else q i) (bv.set s.a (hearV ids L s))) := fun h => D.out.2.1.take T.out.1 (by rw [HG.out.2.2.2.2]; exact T.out.2.2.1) HR.out h
                have HB2 : Hid (b2 < zn) := SB.out
                have HZS : Hid (zs ≠ g) := SG.out
                rcases hst with ⟨h0, hq1⟩ | ⟨u, hu, hq1, hb1, hmin⟩
                · have eqa : qa = -1 := by rw [← HQ.out.1]; exact hq1
                  have RT : Hid _ := TAKE.out (by rw [h0]; intro u hu; cases hu)
                  have PB : Hid (∀ p : Later wc, True) := fun _ => trivial
                  simp only [eqa] at x0
                  clear h0 hq1 eqa
                  go_wp2_with fail
                  refine wp_region_later (by kernel_rfl) (by kernel_rfl) ?_
                  repeat (go_big_quiet_step (first | exact rfl))
                  refine wpQuiet_nil ?_
                  intro _ hw'
                  obtain ⟨p, rfl⟩ := hw'
                  clear x0 x1 x2 x3 x4
                  obtain ⟨Q, hQ⟩ : ∃ Q, p.val = Q := ⟨_, rfl⟩
                  have F2 : Hid (NS w Q (some ⟨b, o, none⟩) i c (some ⟨b2, o2, none⟩) m sc g c2 gb cb ids L q bv ∧ RvAt Q zs 64 s.eg.ss ∧ RvAt Q zn 72 (Nd.mk (kr ids L s.a) (kc ids L s.a) (q s.a)).cs ∧ RvAt Q zv 56 (hearV ids L s).cs) := by rw [← hQ]; exact ⟨F.out.1.below p.below, F.out.2.1.below p.below, F.out.2.2.1.below p.below, F.out.2.2.2.1.below p.below⟩
                  rw [hQ]
                  clear hQ
                  obtain ⟨U1, s1, r1, g1⟩ := MvAt.s2 F2.out.2.2.1 (s.pa : Int)
                  have N1 : NS w U1 (some ⟨b, o, none⟩) i c (some ⟨b2, o2, none⟩) m sc g c2 gb cb ids L q bv := by
                    have h1 := F2.out.1
                    have hzn := E.out.2.2.2
                    exact ⟨h1.sl.keptBut g1 (fun y e _ e' => by simp only [Option.some.injEq] at e'; cases e; have hb := HB.out; have e2 : b = zn := e'; omega), h1.sd.keptBut g1 (fun y e _ e' => by simp only [Option.some.injEq] at e'; cases e; have hb2 := HB2.out; have e2 : b2 = zn := e'; omega), h1.out.keptBut g1 (fun e' => by simp only [Option.some.injEq] at e'; omega), h1.bst.keptBut g1 (fun e' => by simp only [Option.some.injEq] at e'; omega), h1.ok, h1.len, h1.bl, h1.ha, h1.hs, h1.ne, gro h1.bel g1 (by omega) h1.bel.size⟩
                  have v1 := F2.out.2.2.2.keptBut g1 (fun e' => by simp only [Option.some.injEq] at e'; exact F.out.2.2.2.2.2.2.1 e')
                  have w1 := F2.out.2.1.keptBut g1 (fun e' => by simp only [Option.some.injEq] at e'; exact F.out.2.2.2.2.2.2.2 e')
                  obtain ⟨U2, s2, N2, g2⟩ := N1.putN T.out.2.2.1 (s.pa : Int)
                  have l1 := r1.ld rtM rfl
                  have d0 := F2.out.2.1.cell 1 (.int .i64 (s.pa : Int)) rfl
                  have d1 := w1.cell 0 (.int .i64 (s.a : Int)) rfl
                  have v2 := v1.keptBut g2 (fun e' => by simp only [Option.some.injEq] at e'; exact F.out.2.2.2.2.1 e')
                  have w2 := w1.keptBut g2 (fun e' => by simp only [Option.some.injEq] at e'; exact HZS.out e')
                  have d2 := w2.cell 0 (.int .i64 (s.a : Int)) rfl
                  have l2 := v2.ld rtV rfl
                  obtain ⟨U3, s3, N3, g3⟩ := N2.putV T.out.2.2.1 (hearV ids L s)
                  have Z : Hid (NS w U3 (some ⟨b, o, none⟩) i c (some ⟨b2, o2, none⟩) m sc g c2 gb cb ids L (fun i => if i = s.a then (s.pa : Int) else q i) (bv.set s.a (hearV ids L s))) := N3
                  clear r1 g1 N1 v1 w1 N2 g2 v2 w2 N3 g3
                  go_wp2
                  go_roundw
                  case rel => exact ⟨t + 1, _, _, by omega, by go_num, Z.out, RT.out⟩
                  case measure => simp [intOf]; omega
                · obtain ⟨hum, hua, k, hkt, huk⟩ := flt_mem hu
                  have hqa : qa = (u.pa : Int) := by rw [← HQ.out.1]; exact hq1
                  have hba : ba = hearV ids L u := by rw [← HQ.out.2]; exact hb1
                  have hqn : ¬ qa < 0 := by rw [hqa]; omega
                  have hqd : decide (qa < 0) = false := decide_eq_false hqn
                  rw [hba] at x4
                  have PB : Hid (∀ p : Later wc, _) := fun p : Later wc => rbet_hear HC.out.2 T.out.2.1 hum p.val
                  have heq := eqV_no (hear_ne HC.out.2 T.out.1 huk hkt (by rw [hua]))
                  cases hlt : decide (vk (hearV ids L s) < vk (hearV ids L u))
                  rotate_left
                  · have hlt' := of_decide_eq_true hlt
                    have RT : Hid _ := TAKE.out (fun v hv => by have := hmin v hv; omega)
                    rw [hlt] at PB
                    clear hlt hlt' hmin hu hum hua huk hq1 hb1 hqa hba
                    go_wp2_with fail
                    refine wp_region_later (by kernel_rfl) (by kernel_rfl) ?_
                    repeat (go_big_quiet_step (first | exact rfl | (go_at_call 29; with_reducible exact Calls.later_of (PB.out _))))
                    refine wpQuiet_nil ?_
                    intro _ hw'
                    obtain ⟨p, rfl⟩ := hw'
                    clear x0 x1 x2 x3 x4
                    obtain ⟨Q, hQ⟩ : ∃ Q, p.val = Q := ⟨_, rfl⟩
                    have F2 : Hid (NS w Q (some ⟨b, o, none⟩) i c (some ⟨b2, o2, none⟩) m sc g c2 gb cb ids L q bv ∧ RvAt Q zs 64 s.eg.ss ∧ RvAt Q zn 72 (Nd.mk (kr ids L s.a) (kc ids L s.a) (q s.a)).cs ∧ RvAt Q zv 56 (hearV ids L s).cs) := by rw [← hQ]; exact ⟨F.out.1.below p.below, F.out.2.1.below p.below, F.out.2.2.1.below p.below, F.out.2.2.2.1.below p.below⟩
                    rw [hQ]
                    clear hQ
                    obtain ⟨U1, s1, r1, g1⟩ := MvAt.s2 F2.out.2.2.1 (s.pa : Int)
                    have N1 : NS w U1 (some ⟨b, o, none⟩) i c (some ⟨b2, o2, none⟩) m sc g c2 gb cb ids L q bv := by
                      have h1 := F2.out.1
                      have hzn := E.out.2.2.2
                      exact ⟨h1.sl.keptBut g1 (fun y e _ e' => by simp only [Option.some.injEq] at e'; cases e; have hb := HB.out; have e2 : b = zn := e'; omega), h1.sd.keptBut g1 (fun y e _ e' => by simp only [Option.some.injEq] at e'; cases e; have hb2 := HB2.out; have e2 : b2 = zn := e'; omega), h1.out.keptBut g1 (fun e' => by simp only [Option.some.injEq] at e'; omega), h1.bst.keptBut g1 (fun e' => by simp only [Option.some.injEq] at e'; omega), h1.ok, h1.len, h1.bl, h1.ha, h1.hs, h1.ne, gro h1.bel g1 (by omega) h1.bel.size⟩
                    have v1 := F2.out.2.2.2.keptBut g1 (fun e' => by simp only [Option.some.injEq] at e'; exact F.out.2.2.2.2.2.2.1 e')
                    have w1 := F2.out.2.1.keptBut g1 (fun e' => by simp only [Option.some.injEq] at e'; exact F.out.2.2.2.2.2.2.2 e')
                    obtain ⟨U2, s2, N2, g2⟩ := N1.putN T.out.2.2.1 (s.pa : Int)
                    have l1 := r1.ld rtM rfl
                    have d0 := F2.out.2.1.cell 1 (.int .i64 (s.pa : Int)) rfl
                    have d1 := w1.cell 0 (.int .i64 (s.a : Int)) rfl
                    have v2 := v1.keptBut g2 (fun e' => by simp only [Option.some.injEq] at e'; exact F.out.2.2.2.2.1 e')
                    have w2 := w1.keptBut g2 (fun e' => by simp only [Option.some.injEq] at e'; exact HZS.out e')
                    have d2 := w2.cell 0 (.int .i64 (s.a : Int)) rfl
                    have l2 := v2.ld rtV rfl
                    obtain ⟨U3, s3, N3, g3⟩ := N2.putV T.out.2.2.1 (hearV ids L s)
                    have Z : Hid (NS w U3 (some ⟨b, o, none⟩) i c (some ⟨b2, o2, none⟩) m sc g c2 gb cb ids L (fun i => if i = s.a then (s.pa : Int) else q i) (bv.set s.a (hearV ids L s))) := N3
                    clear r1 g1 N1 v1 w1 N2 g2 v2 w2 N3 g3
                    go_wp2
                    go_roundw
                    case rel => exact ⟨t + 1, _, _, by omega, by go_num, Z.out, RT.out⟩
                    case measure => simp [intOf]; omega
                  · have hlt' := of_decide_eq_false hlt
                    have RS' : Hid (RB ids L (t + 1) q bv) := D.out.2.1.skip T.out.1 (fun _ => ⟨u, hu, hq1, hb1, by omega, hmin⟩)
                    rw [hlt] at PB
                    clear hlt hlt' hmin hu hum hua huk hq1 hb1 hqa hba TAKE
                    go_wp2_with fail
                    refine wp_region_later (by kernel_rfl) (by kernel_rfl) ?_
                    repeat (go_big_quiet_step (first | exact rfl | (go_at_call 29; with_reducible exact Calls.later_of (PB.out _))))
                    refine wpQuiet_nil ?_
                    intro _ hw'
                    obtain ⟨p, rfl⟩ := hw'
                    clear x0 x1 x2 x3 x4
                    go_wp2
                    go_roundw
                    case rel => exact ⟨t + 1, q, bv, by omega, by go_num, F.out.1.below p.below, RS'.out⟩
                    case measure => simp [intOf]; omega
          · have htm : t = m := by omega
            subst htm
            have ht1 : ¬ (t : Int) < (t : Int) := by omega
            have hN2 : ndAt ids L q = nodesF ids L := ndAt_congr (fun k hk => hRB.done HC.out.2 (by rw [← sdl_len, K2.out.2.2.2]; exact Nat.le_refl _) hk)
            have Z : Hid (SlAt eM wr (some ⟨g, 0, none⟩) i c2 (nodesF ids L) ∧ Below w.heap.size w wr) := ⟨by have := hN.tr.nds; rwa [hN2] at this, hN.bel⟩
            clear hN hRB hN2 N0
            go_wp2
            go_returns
            exact ⟨⟨_, _, _, rfl, _, Z.out.1, .inr ⟨L, rfl, HC.out.2, HC.out.1, rfl⟩⟩, Z.out.2⟩
end Go.Proofs.Ytcagdfdhpbeolaa
