/-
  Roots and least costs: the walk of nearest, for every graph that may be.
-/
import Derived.Test.YtcagdfdhpbeolaaNea
namespace Go.Proofs.Ytcagdfdhpbeolaa
set_option linter.unusedVariables false
set_option maxRecDepth 4000
set_option linter.unusedSimpArgs false
open Go.RowKit

/-- The nodes' variable while they are laid. -/
structure NV (W0 W : World) (nb : Nat) (v : Value) (N : List Nd) : Prop where
  var : RvAt W nb 26 #[v]
  own : Own eN W (nb + 1) v N
  low : W0.heap.size ≤ nb
  bel : Below W0.heap.size W0 W
theorem Own.one {α : Type} {e : El α} {W : World} {B : Nat} {v : Value} {l : List α} (h : Own e W B v l) : v.oneCell' = true := by
  obtain ⟨a, c, rfl, _⟩ := h.form
  rfl
theorem belowB {B : Nat} {W V : World} {b : Nat} {ty : TypeId} {cs : Array Value} (h : RvAt W b ty cs) (k : Below B W V) (hb : b < B) : RvAt V b ty cs := (k.block b hb).trans h
theorem NV.next {W0 W : World} {nb : Nat} {v : Value} {N : List Nd} (h : NV W0 W nb v N) (hl : N.length ≤ 1000) (p : Nd) :
    ∃ v' Y V, (apS 26 26 #[v, .slice (some ⟨W.heap.size, 0, none⟩) 1 1]).run Try.prog (W.alloc (.cells p.cs 60)) = .ok v' Y ∧ (stS 26 (.pointer (some ⟨nb, 0, none⟩)) v').run Try.prog Y = .ok () V ∧ NV W0 V nb v' (N ++ [p]) := by
  have hlt := h.var.lt
  have hlow := h.low
  obtain ⟨v', Y, ap, o2, b2⟩ := nN h.own (by omega) hl p
  have rY := belowB h.var b2 (by omega)
  have st := rY.st1 (k := 0) (tv := 26) (v := v') infoL (by simp) o2.one
  refine ⟨v', Y, _, ap, st, rY.set, o2.keptBut (grown_row _ _ _) ?_, h.low, ?_⟩
  · cases hb : v'.ownBlock with
    | none => exact .inl rfl
    | some k =>
      refine .inr (fun e => ?_)
      have := (o2.blk k hb).1
      cases e
      omega
  · exact gro (h.bel.trans (b2.mono (by omega))) (grown_row _ _ _) h.low (by have := h.bel.size; have := b2.size; omega)
theorem bdN (ps : Array (Nat × Value)) : Instr.build 60 ps = bdS 60 ps := rfl
theorem bdN1_is (x : Nat) (w : World) : (bdS 60 #[(0, .int .u64 (x : Int))]).run Try.prog w = .ok (.agg (Nd.mk x 0 0).cs) w := by kernel_rfl
theorem wrap32 {c d : Nat} (h : c + d < 4294967296) : IntKind.u32.wrap ((c : Int) + (d : Int)) = ((c + d : Nat) : Int) := by
  have e : IntKind.u32.wrap ((c : Int) + (d : Int)) = ((c : Int) + (d : Int)) % 4294967296 := by rfl
  rw [e]
  omega
theorem bdN2_0 (x y : Int) (w : World) : (bdS 60 #[(0, .int .u64 x), (1, .int .u32 y)]).run Try.prog w = .ok (.agg #[.int .u64 x, .int .u32 y, .int .i64 0]) w := by kernel_rfl
theorem bdN2_is {c d : Nat} (h : c + d < 4294967296) (x : Nat) (w : World) : (bdS 60 #[(0, .int .u64 (x : Int)), (1, .int .u32 (IntKind.u32.wrap ((c : Int) + (d : Int))))]).run Try.prog w = .ok (.agg (Nd.mk x (c + d) 0).cs) w := by
  rw [wrap32 h]
  exact bdN2_0 ..
theorem begin_next {ids : List Nat} {i x : Nat} (h : ids[i]? = some x) (p : Int) : begin' (ids.take (i + 1)) p = begin' (ids.take i) p ++ [⟨x, 0, p⟩] := by
  rw [List.take_add_one, h]
  simp [begin']
theorem go1_p {N : List Nd} {s : Ne} (h : ∀ i, (gtN N i).p = 0) : ∀ i, (gtN (go1 N s 0) i).p = 0 := by
  intro i
  by_cases ha : s.a < N.length
  · unfold go1
    rw [gtN_set ha]
    split
    · rfl
    · exact h i
  · unfold go1
    rw [List.set_eq_of_length_le (by omega)]
    exact h i
theorem begin_p (ids : List Nat) (i : Nat) : (gtN (begin' ids 0) i).p = 0 := by
  unfold begin' gtN
  rw [List.getD_eq_getElem?_getD, List.getElem?_map]
  cases ids[i]? with
  | none => rfl
  | some x => rfl
theorem lde' {W : World} {b o n c i : Nat} {L : List Ne} {x : Ne} (h : SlAt eE W (some ⟨b, o, none⟩) n c (L.map Ne.eg)) (hx : L[i]? = some x) : (ldS 50 (.pointer (some ⟨b, o + i * 6, none⟩))).run Try.prog W = .ok (.agg x.eg.cs) W := lde h (by rw [List.getElem?_map, hx]; rfl)
theorem sdl_mem {L : List Ne} {i j : Nat} {x : Ne} (h : L[i]? = some x) (hj : j < 2) : sdN x j ∈ sdl L := List.mem_of_getElem? (sdl_at h hj)
theorem sdl_all {L : List Ne} {P : Ne → Prop} (h : ∀ t s, t < 2 * L.length → (sdl L)[t]? = some s → P s) : ∀ s ∈ sdl L, P s := by
  intro s hs
  obtain ⟨t, ht, e⟩ := List.mem_iff_getElem.1 hs
  exact h t s (by rw [← sdl_len]; exact ht) (by rw [List.getElem?_eq_getElem ht, e])
theorem EvAt.m0 {W : World} {b : Nat} {x : Ne} (h : EvAt W b x.eg) : W.cell? ⟨b, 0, none⟩ = some (.int .i64 (x.a : Int)) := h.c0
theorem EvAt.m1 {W : World} {b : Nat} {x : Ne} (h : EvAt W b x.eg) : W.cell? ⟨b, 1, none⟩ = some (.int .i64 (x.pa : Int)) := h.c1
theorem EvAt.m2 {W : World} {b : Nat} {x : Ne} (h : EvAt W b x.eg) : W.cell? ⟨b, 2, none⟩ = some (.int .i64 (x.b : Int)) := h.c2
theorem EvAt.m3 {W : World} {b : Nat} {x : Ne} (h : EvAt W b x.eg) : W.cell? ⟨b, 3, none⟩ = some (.int .i64 (x.pb : Int)) := h.c3
theorem EvAt.m4 {W : World} {b : Nat} {x : Ne} (h : EvAt W b x.eg) : W.cell? ⟨b, 4, none⟩ = some (.int .u32 (x.ca : Int)) := h.c4
theorem EvAt.m5 {W : World} {b : Nat} {x : Ne} (h : EvAt W b x.eg) : W.cell? ⟨b, 5, none⟩ = some (.int .u32 (x.cb : Int)) := h.c5
attribute [local go_sem ↓] ldE stE ldN stN stL bsN bdN apN
set_option maxHeartbeats 8000000 in
theorem nearest_any (a : Option Addr) (n c : Nat) (ids : List Nat) (a' : Option Addr) (n' c' : Nat) (L : List Ne) (w : World) (hs : SlAt eU w a n c ids) (ht : SlAt eE w a' n' c' (L.map Ne.eg)) (G : Gok ids L) :
    Calls Try.prog 41 #[.slice a n c, .slice a' n' c'] w fun r w' => (∃ g c2, r = .returned (.slice (some ⟨g, 0, none⟩) n c2) ∧ w.heap.size ≤ g ∧ PAt eN w' g c2 (ndAt ids L (fun _ => 0))) ∧ Below w.heap.size w w' := by
  have hnn := hs.int
  have hmm := ht.int
  have hid : ids.length = n := hs.len
  have hLl : L.length = n' := by rw [← ht.len, List.length_map]
  have hn7 : n ≤ 7 := by rw [← hid]; exact G.n7
  have hn1 : 1 ≤ n := by rw [← hid]; exact G.n1
  have hm24 : n' ≤ 24 := by rw [← hLl]; exact G.m24
  have HG : Hid (Gok ids L ∧ SlAt eU w a n c ids ∧ SlAt eE w a' n' c' (L.map Ne.eg) ∧ ids.length = n ∧ L.length = n') := ⟨G, hs, ht, hid, hLl⟩
  obtain ⟨W, hW⟩ : ∃ W, w.alloc (.cells #[.slice none 0 0] 26) = W := ⟨_, rfl⟩
  have bW : Below w.heap.size w W := by rw [← hW]; exact (Below.refl _ _).alloc (Nat.le_refl _) _
  have r0 : RvAt W w.heap.size 26 #[.slice none 0 0] := by rw [← hW]; exact RvAt.new w _ _
  have HV : Hid (NV w W w.heap.size (.slice none 0 0) (begin' (ids.take 0) 0)) := ⟨r0, Own.nil _ _, by omega, bW⟩
  clear hs ht G hid hLl bW r0
  go_enter Try.func41, Try.ntmps41
  go_wp2_with fail
  try go_step3
  go_wp2_with fail
  go_loopw [16] (fun v16 wr => ∃ i : Nat, i ≤ n ∧ v16 = .int .i64 i ∧ ∃ v, NV w wr w.heap.size v (begin' (ids.take i) 0)) (fun v16 _ => n - (intOf v16).toNat)
  case atStart => exact ⟨0, by omega, rfl, _, HV.out⟩
  case round =>
    obtain ⟨i, hi, rfl, v, hV⟩ := hrel
    have hi0 : (0 : Int) ≤ (i : Int) := by omega
    by_cases hit : i < n
    · have hi1 : (i : Int) < (n : Int) := by omega
      have hil : i < ids.length := by rw [HG.out.2.2.2.1]; exact hit
      obtain ⟨b, o, rfl⟩ := HG.out.2.1.some' (by omega)
      obtain ⟨x, hx⟩ := lt_nth hil
      have c0 := ldu (HG.out.2.1.below hV.bel) hx
      have v0 := hV.var.cell 0 _ rfl
      have bd := bdN1_is x wr
      have bs := bsN_is ⟨x, 0, 0⟩ wr
      obtain ⟨v', Y, V, ap, st, hV2⟩ := hV.next (by unfold begin'; simp; omega) ⟨x, 0, 0⟩
      rw [← begin_next hx] at hV2
      have Z : Hid (NV w V w.heap.size v' (begin' (ids.take (i + 1)) 0)) := hV2
      clear hV hV2 hx hil
      go_wp2
      go_roundw
      case rel => exact ⟨i + 1, by omega, by go_num, v', Z.out⟩
      case measure => simp [intOf]; omega
    · have hin : i = n := by omega
      subst hin
      have hi1 : ¬ (i : Int) < (i : Int) := by omega
      rw [List.take_of_length_le (by rw [HG.out.2.2.2.1]; exact Nat.le_refl _)] at hV
      have hbl : (begin' ids 0).length = i := by unfold begin'; rw [List.length_map]; exact HG.out.2.2.2.1
      obtain ⟨g, c2, rfl, hg, hP⟩ := hV.own.pat' (by omega)
      rw [hbl] at hV
      have NW0 : Hid (NW w wr w.heap.size g i c2 (begin' ids 0)) := ⟨hV.var, hP, by omega, hV.low, hbl, hV.bel⟩
      clear hV hP hbl HV
      go_wp2_with fail
      try go_step3
      go_wp2_with fail
      go_loopg [] (total (lab (begin' ids 0)) ids.length) (fun k wx => ∃ N, NW w wx w.heap.size g i c2 N ∧ NI ids L N ∧ (∀ t, (gtN N t).p = 0) ∧ total (lab N) ids.length = k)
      case atStart => exact ⟨_, NW0.out, begin_ni ids L 0, begin_p ids, rfl⟩
      case round =>
        obtain ⟨N, hNW, hNI, hp, hk⟩ := hrel
        have J : Hid (NW w wr w.heap.size g i c2 N ∧ NI ids L N ∧ (∀ t, (gtN N t).p = 0) ∧ total (lab N) ids.length = gk) := ⟨hNW, hNI, hp, hk⟩
        clear hNW hNI hp hk NW0
        go_wp2_with fail
        go_loopw [29] (fun v29 wx => ∃ e : Nat, e ≤ n' ∧ v29 = .int .i64 e ∧ NW w wx w.heap.size g i c2 N ∧ (∀ (t : Nat) (s : Ne), t < 2 * e → (sdl L)[t]? = some s → near N s = false)) (fun v29 _ => n' - (intOf v29).toNat)
        case atStart => exact ⟨0, by omega, rfl, J.out.1, fun t s ht => by omega⟩
        case round =>
          obtain ⟨e, he, rfl, hNW, hlow⟩ := hrel
          have he0 : (0 : Int) ≤ (e : Int) := by omega
          by_cases het : e < n'
          · have he1 : (e : Int) < (n' : Int) := by omega
            have hel : e < L.length := by rw [HG.out.2.2.2.2]; exact het
            obtain ⟨b, o, rfl⟩ := HG.out.2.2.1.some' (by omega)
            obtain ⟨x, hx⟩ := lt_nth hel
            have lp := lde' (HG.out.2.2.1.below hNW.bel) hx
            obtain ⟨V, sV, eV, bV⟩ := EvAt.put wr x.eg
            have lv := eV.ld
            have K : Hid (NW w V w.heap.size g i c2 N ∧ (∀ (t : Nat) (s : Ne), t < 2 * e → (sdl L)[t]? = some s → near N s = false) ∧ L[e]? = some x) := ⟨hNW.below bV, hlow, hx⟩
            clear hNW hlow hx hel eV bV
            go_wp2_with fail
            refine (sides_any x.eg V).mono ?_
            rintro _ V1 ⟨rfl, b1⟩
            have K1 : Hid (NW w V1 w.heap.size g i c2 N) := K.out.1.below b1
            clear b1 lp sV lv
            go_wp2_with fail
            go_loopw [35] (fun v35 wx => ∃ j : Nat, j ≤ 2 ∧ v35 = .int .i64 j ∧ NW w wx w.heap.size g i c2 N ∧ (∀ (t : Nat) (s : Ne), t < 2 * e + j → (sdl L)[t]? = some s → near N s = false)) (fun v35 _ => 2 - (intOf v35).toNat)
            case atStart => exact ⟨0, by omega, rfl, K1.out, K.out.2.1⟩
            case round =>
              obtain ⟨j, hj, rfl, hNW, hlow⟩ := hrel
              have hj0 : (0 : Int) ≤ (j : Int) := by omega
              by_cases hj2 : j < 2
              · have hj1 : (j : Int) < 2 := by omega
                have ix := ixB x.eg j hj2
                rw [← sdN_eg] at ix
                have hst := sdl_at K.out.2.2 hj2
                have hsm := sdl_mem K.out.2.2 hj2
                obtain ⟨s, hs⟩ : ∃ s, sdN x j = s := ⟨_, rfl⟩
                rw [hs] at ix hst hsm
                have hgs := HG.out.1.side s hsm
                have hsum := J.out.2.1.sum HG.out.1 hsm
                rw [HG.out.2.2.2.1] at hgs
                obtain ⟨V, sV, eV, bV⟩ := EvAt.put wr s.eg
                have D : Hid (NW w V w.heap.size g i c2 N ∧ EvAt V wr.heap.size s.eg ∧ (∀ (t : Nat) (s : Ne), t < 2 * e + j → (sdl L)[t]? = some s → near N s = false) ∧ (sdl L)[2 * e + j]? = some s ∧ s ∈ sdl L ∧ s.a < i ∧ s.b < i) := ⟨hNW.below bV, eV, hlow, hst, hsm, hgs.1, hgs.2.1⟩
                have hb0 : (0 : Int) ≤ (s.b : Int) := by omega
                have hb1 : (s.b : Int) < (i : Int) := by omega
                have ha0 : (0 : Int) ≤ (s.a : Int) := by omega
                have ha1 : (s.a : Int) < (i : Int) := by omega
                obtain ⟨q, hq⟩ : ∃ q, wr.heap.size = q := ⟨_, rfl⟩
                rw [hq] at D sV
                clear hNW hlow hst hsm hgs hs eV bV
                go_wp2_with fail
                clear ix sV hq
                obtain ⟨X0, hX0⟩ : ∃ X0, World.drew V = X0 := ⟨_, rfl⟩
                have B0 : Hid (Below V.heap.size V X0) := by rw [← hX0]; exact (Below.refl _ _).drew
                have v0 := fun q : Later V => (D.out.1.below q.below).v0
                have n0 := fun q : Later V => (D.out.1.below q.below).n0 D.out.2.2.2.2.2.2
                have n1 := fun q : Later V => (D.out.1.below q.below).n1 D.out.2.2.2.2.2.2
                have e2 := fun q : Later V => (D.out.2.1.below q.below).m2
                have e4 := fun q : Later V => (D.out.2.1.below q.below).m4
                have bd := fun q : Later V => bdN2_is hsum (gtN N s.b).r q.val
                obtain ⟨Y, sY, rY, bY⟩ := NvAt.put X0 ⟨(gtN N s.b).r, (gtN N s.b).c + s.ca, 0⟩
                have BY : Hid (Below V.heap.size V Y ∧ RvAt Y X0.heap.size 60 (Nd.mk (gtN N s.b).r ((gtN N s.b).c + s.ca) 0).cs) := ⟨below_over B0.out bY, rY⟩
                have BA : Hid (Below V.heap.size V (X0.alloc (.cells #[.int .u64 0, .int .u32 0, .int .i64 0] 60))) := below_over B0.out ((Below.refl _ _).alloc (Nat.le_refl _) _)
                clear bY rY hsum
                refine wp_region_noPanic ?_
                refine wp_region_held_drew (S := fun w' => ∃ x : Later V, w' = x.val) (by kernel_rfl) ⟨⟨_, (Below.refl _ _).drew⟩, rfl⟩ (fun hHeld => ?_)
                rw [hX0] at hHeld ⊢
                clear hX0
                refine wpAnyH_take (i := 0) (oi := { dst := some 38, op := Op.load 26 (Operand.tmp 5), type := 26, pos := "span.go:162", after := #[], guard := none }) (v := ?_) rfl (by kernel_rfl) (by kernel_rfl) (by kernel_rfl) (fun _ _ _ h => h) (Or.inl ⟨by rfl, ?_⟩) hHeld ?_
                rotate_left
                · intro W_ hSw_
                  obtain ⟨q, rfl⟩ := hSw_
                  first | (go_simp; done) | (go_simp; with_reducible rfl)
                rotate_left
                try simp only [Act.put, List.setIfInBounds_toArray, List.set_cons_zero, List.set_cons_succ]
                refine wpAnyH_take (i := 1) (oi := { dst := some 39, op := Op.fieldAddr 50 (Operand.tmp 12) 2, type := 0, pos := "span.go:162", after := #[], guard := none }) (v := ?_) rfl (by kernel_rfl) (by kernel_rfl) (by kernel_rfl) (fun _ _ _ h => h) (Or.inl ⟨by rfl, ?_⟩) hHeld ?_
                rotate_left
                · intro W_ hSw_
                  obtain ⟨q, rfl⟩ := hSw_
                  first | (go_simp; done) | (go_simp; with_reducible rfl)
                rotate_left
                try simp only [Act.put, List.setIfInBounds_toArray, List.set_cons_zero, List.set_cons_succ]
                refine wpAnyH_take (i := 2) (oi := { dst := some 40, op := Op.load 3 (Operand.tmp 39), type := 3, pos := "span.go:162", after := #[{ on := 1, ground := Ground.data }], guard := none }) (v := ?_) rfl (by kernel_rfl) (by kernel_rfl) (by kernel_rfl) (fun _ _ _ h => h) (Or.inl ⟨by rfl, ?_⟩) hHeld ?_
                rotate_left
                · intro W_ hSw_
                  obtain ⟨q, rfl⟩ := hSw_
                  first | (go_simp; done) | (go_simp; with_reducible rfl)
                rotate_left
                try simp only [Act.put, List.setIfInBounds_toArray, List.set_cons_zero, List.set_cons_succ]
                refine wpAnyH_take (i := 3) (oi := { dst := some 41, op := Op.indexAddr 26 (Operand.tmp 38) (Operand.tmp 40), type := 0, pos := "span.go:162", after := #[{ on := 0, ground := Ground.data }, { on := 2, ground := Ground.data }], guard := none }) (v := ?_) rfl (by kernel_rfl) (by kernel_rfl) (by kernel_rfl) (fun _ _ _ h => h) (Or.inl ⟨by rfl, ?_⟩) hHeld ?_
                rotate_left
                · intro W_ hSw_
                  obtain ⟨q, rfl⟩ := hSw_
                  first | (go_simp; done) | (go_simp; with_reducible rfl)
                rotate_left
                try simp only [Act.put, List.setIfInBounds_toArray, List.set_cons_zero, List.set_cons_succ]
                refine wpAnyH_take (i := 4) (oi := { dst := some 42, op := Op.fieldAddr 60 (Operand.tmp 41) 0, type := 0, pos := "span.go:162", after := #[{ on := 3, ground := Ground.data }], guard := none }) (v := ?_) rfl (by kernel_rfl) (by kernel_rfl) (by kernel_rfl) (fun _ _ _ h => h) (Or.inl ⟨by rfl, ?_⟩) hHeld ?_
                rotate_left
                · intro W_ hSw_
                  obtain ⟨q, rfl⟩ := hSw_
                  first | (go_simp; done) | (go_simp; with_reducible rfl)
                rotate_left
                try simp only [Act.put, List.setIfInBounds_toArray, List.set_cons_zero, List.set_cons_succ]
                refine wpAnyH_take (i := 5) (oi := { dst := some 43, op := Op.load 53 (Operand.tmp 42), type := 53, pos := "span.go:162", after := #[{ on := 4, ground := Ground.data }], guard := none }) (v := ?_) rfl (by kernel_rfl) (by kernel_rfl) (by kernel_rfl) (fun _ _ _ h => h) (Or.inl ⟨by rfl, ?_⟩) hHeld ?_
                rotate_left
                · intro W_ hSw_
                  obtain ⟨q, rfl⟩ := hSw_
                  first | (go_simp; done) | (go_simp; with_reducible rfl)
                rotate_left
                try simp only [Act.put, List.setIfInBounds_toArray, List.set_cons_zero, List.set_cons_succ]
                refine wpAnyH_take (i := 6) (oi := { dst := some 44, op := Op.load 26 (Operand.tmp 5), type := 26, pos := "span.go:162", after := #[], guard := none }) (v := ?_) rfl (by kernel_rfl) (by kernel_rfl) (by kernel_rfl) (fun _ _ _ h => h) (Or.inl ⟨by rfl, ?_⟩) hHeld ?_
                rotate_left
                · intro W_ hSw_
                  obtain ⟨q, rfl⟩ := hSw_
                  first | (go_simp; done) | (go_simp; with_reducible rfl)
                rotate_left
                try simp only [Act.put, List.setIfInBounds_toArray, List.set_cons_zero, List.set_cons_succ]
                refine wpAnyH_take (i := 7) (oi := { dst := some 45, op := Op.fieldAddr 50 (Operand.tmp 12) 2, type := 0, pos := "span.go:162", after := #[], guard := none }) (v := ?_) rfl (by kernel_rfl) (by kernel_rfl) (by kernel_rfl) (fun _ _ _ h => h) (Or.inl ⟨by rfl, ?_⟩) hHeld ?_
                rotate_left
                · intro W_ hSw_
                  obtain ⟨q, rfl⟩ := hSw_
                  first | (go_simp; done) | (go_simp; with_reducible rfl)
                rotate_left
                try simp only [Act.put, List.setIfInBounds_toArray, List.set_cons_zero, List.set_cons_succ]
                refine wpAnyH_take (i := 8) (oi := { dst := some 46, op := Op.load 3 (Operand.tmp 45), type := 3, pos := "span.go:162", after := #[{ on := 7, ground := Ground.data }], guard := none }) (v := ?_) rfl (by kernel_rfl) (by kernel_rfl) (by kernel_rfl) (fun _ _ _ h => h) (Or.inl ⟨by rfl, ?_⟩) hHeld ?_
                rotate_left
                · intro W_ hSw_
                  obtain ⟨q, rfl⟩ := hSw_
                  first | (go_simp; done) | (go_simp; with_reducible rfl)
                rotate_left
                try simp only [Act.put, List.setIfInBounds_toArray, List.set_cons_zero, List.set_cons_succ]
                refine wpAnyH_take (i := 9) (oi := { dst := some 47, op := Op.indexAddr 26 (Operand.tmp 44) (Operand.tmp 46), type := 0, pos := "span.go:162", after := #[{ on := 6, ground := Ground.data }, { on := 8, ground := Ground.data }], guard := none }) (v := ?_) rfl (by kernel_rfl) (by kernel_rfl) (by kernel_rfl) (fun _ _ _ h => h) (Or.inl ⟨by rfl, ?_⟩) hHeld ?_
                rotate_left
                · intro W_ hSw_
                  obtain ⟨q, rfl⟩ := hSw_
                  first | (go_simp; done) | (go_simp; with_reducible rfl)
                rotate_left
                try simp only [Act.put, List.setIfInBounds_toArray, List.set_cons_zero, List.set_cons_succ]
                refine wpAnyH_take (i := 10) (oi := { dst := some 48, op := Op.fieldAddr 60 (Operand.tmp 47) 1, type := 0, pos := "span.go:162", after := #[{ on := 9, ground := Ground.data }], guard := none }) (v := ?_) rfl (by kernel_rfl) (by kernel_rfl) (by kernel_rfl) (fun _ _ _ h => h) (Or.inl ⟨by rfl, ?_⟩) hHeld ?_
                rotate_left
                · intro W_ hSw_
                  obtain ⟨q, rfl⟩ := hSw_
                  first | (go_simp; done) | (go_simp; with_reducible rfl)
                rotate_left
                try simp only [Act.put, List.setIfInBounds_toArray, List.set_cons_zero, List.set_cons_succ]
                refine wpAnyH_take (i := 11) (oi := { dst := some 49, op := Op.load 48 (Operand.tmp 48), type := 48, pos := "span.go:162", after := #[{ on := 10, ground := Ground.data }], guard := none }) (v := ?_) rfl (by kernel_rfl) (by kernel_rfl) (by kernel_rfl) (fun _ _ _ h => h) (Or.inl ⟨by rfl, ?_⟩) hHeld ?_
                rotate_left
                · intro W_ hSw_
                  obtain ⟨q, rfl⟩ := hSw_
                  first | (go_simp; done) | (go_simp; with_reducible rfl)
                rotate_left
                try simp only [Act.put, List.setIfInBounds_toArray, List.set_cons_zero, List.set_cons_succ]
                refine wpAnyH_take (i := 12) (oi := { dst := some 50, op := Op.fieldAddr 50 (Operand.tmp 12) 4, type := 0, pos := "span.go:162", after := #[], guard := none }) (v := ?_) rfl (by kernel_rfl) (by kernel_rfl) (by kernel_rfl) (fun _ _ _ h => h) (Or.inl ⟨by rfl, ?_⟩) hHeld ?_
                rotate_left
                · intro W_ hSw_
                  obtain ⟨q, rfl⟩ := hSw_
                  first | (go_simp; done) | (go_simp; with_reducible rfl)
                rotate_left
                try simp only [Act.put, List.setIfInBounds_toArray, List.set_cons_zero, List.set_cons_succ]
                refine wpAnyH_take (i := 13) (oi := { dst := some 51, op := Op.load 48 (Operand.tmp 50), type := 48, pos := "span.go:162", after := #[{ on := 12, ground := Ground.data }], guard := none }) (v := ?_) rfl (by kernel_rfl) (by kernel_rfl) (by kernel_rfl) (fun _ _ _ h => h) (Or.inl ⟨by rfl, ?_⟩) hHeld ?_
                rotate_left
                · intro W_ hSw_
                  obtain ⟨q, rfl⟩ := hSw_
                  first | (go_simp; done) | (go_simp; with_reducible rfl)
                rotate_left
                try simp only [Act.put, List.setIfInBounds_toArray, List.set_cons_zero, List.set_cons_succ]
                refine wpAnyH_take (i := 14) (oi := { dst := some 52, op := Op.binOp BinOp.add 48 (Operand.tmp 49) (Operand.tmp 51) 48, type := 48, pos := "span.go:162", after := #[{ on := 11, ground := Ground.data }, { on := 13, ground := Ground.data }], guard := none }) (v := ?_) rfl (by kernel_rfl) (by kernel_rfl) (by kernel_rfl) (fun _ _ _ h => h) (Or.inl ⟨by rfl, ?_⟩) hHeld ?_
                rotate_left
                · intro W_ hSw_
                  obtain ⟨q, rfl⟩ := hSw_
                  first | (go_simp; done) | (go_simp; with_reducible rfl)
                rotate_left
                try simp only [Act.put, List.setIfInBounds_toArray, List.set_cons_zero, List.set_cons_succ]
                refine wpAnyH_take (i := 15) (oi := { dst := some 53, op := Op.build 60 #[(0, Operand.tmp 43), (1, Operand.tmp 52)], type := 60, pos := "span.go:162", after := #[{ on := 5, ground := Ground.data }, { on := 14, ground := Ground.data }], guard := none }) (v := ?_) rfl (by kernel_rfl) (by kernel_rfl) (by kernel_rfl) (fun _ _ _ h => h) (Or.inl ⟨by rfl, ?_⟩) hHeld ?_
                rotate_left
                · intro W_ hSw_
                  obtain ⟨q, rfl⟩ := hSw_
                  first | (go_simp; done) | (go_simp; with_reducible rfl)
                rotate_left
                try simp only [Act.put, List.setIfInBounds_toArray, List.set_cons_zero, List.set_cons_succ]
                refine wpAnyH_ready (rs := [16]) (by kernel_rfl) (by simp) ?_
                refine AllReadyH.cons (o := { dst := some 13, op := Op.alloc 60, type := 0, pos := "span.go:162", after := #[], guard := none }) rfl (fun K hK => ?_) AllReadyH.nil
                go_simp
                clear hHeld
                refine hK.out _ _ ⟨⟨_, BA.out⟩, rfl⟩ (fun hHeld => ?_)
                clear hK K
                try simp only [Act.put, List.setIfInBounds_toArray, List.set_cons_zero, List.set_cons_succ]
                refine wpAnyH_ready (rs := [17]) (by kernel_rfl) (by simp) ?_
                refine AllReadyH.cons (o := { dst := none, op := Op.store 60 (Operand.tmp 13) (Operand.tmp 53), type := 0, pos := "span.go:162", after := #[{ on := 16, ground := Ground.data }, { on := 15, ground := Ground.data }, { on := 0, ground := Ground.phase }, { on := 1, ground := Ground.phase }, { on := 2, ground := Ground.phase }, { on := 3, ground := Ground.phase }, { on := 4, ground := Ground.phase }, { on := 5, ground := Ground.phase }, { on := 6, ground := Ground.phase }, { on := 7, ground := Ground.phase }, { on := 8, ground := Ground.phase }, { on := 9, ground := Ground.phase }, { on := 10, ground := Ground.phase }, { on := 11, ground := Ground.phase }, { on := 12, ground := Ground.phase }, { on := 13, ground := Ground.phase }, { on := 14, ground := Ground.phase }, { on := 15, ground := Ground.phase }, { on := 16, ground := Ground.phase }], guard := none }) rfl (fun K hK => ?_) AllReadyH.nil
                go_simp
                clear hHeld
                refine hK.out _ _ ⟨⟨_, BY.out.1⟩, rfl⟩ (fun hHeld => ?_)
                clear hK K
                try simp only [Act.put, List.setIfInBounds_toArray, List.set_cons_zero, List.set_cons_succ]
                refine wpAnyH_done (by kernel_rfl) ?_ _
                refine NoPanic.normal ?_
                clear hHeld
                clear v0 n0 n1 e2 e4 bd sY
                have lY := BY.out.2.ld rtN rfl
                have eA := (D.out.2.1.below BY.out.1).m0
                have NWY : Hid (NW w Y w.heap.size g i c2 N) := D.out.1.below BY.out.1
                have CN : Hid _ := nearer_any ⟨(gtN N s.b).r, (gtN N s.b).c + s.ca, 0⟩ s.a NWY.out D.out.2.2.2.2.2.1 (by omega)
                obtain ⟨z, hz⟩ : ∃ z, X0.heap.size = z := ⟨_, rfl⟩
                rw [hz] at BY lY ⊢
                clear hz
                cases hq : near N s
                · rw [show nearN ⟨(gtN N s.b).r, (gtN N s.b).c + s.ca, 0⟩ (gtN N s.a) = false from hq] at CN
                  have NX : Hid (∀ (t : Nat) (s : Ne), t < 2 * e + (j + 1) → (sdl L)[t]? = some s → near N s = false) := fun t r ht hr => by
                    by_cases et : t = 2 * e + j
                    · subst et
                      rw [D.out.2.2.2.1] at hr
                      cases hr
                      exact hq
                    · exact D.out.2.2.1 t r (by omega) hr
                  clear hq
                  go_wp2_with fail
                  refine Calls.mono CN.out ?_
                  rintro _ V2 ⟨rfl, b2⟩
                  have Z : Hid (NW w V2 w.heap.size g i c2 N) := NWY.out.below b2
                  clear b2
                  go_wp2
                  go_roundw
                  case rel => exact ⟨j + 1, by omega, by go_num, Z.out, NX.out⟩
                  case measure => simp [intOf]; omega
                · rw [show nearN ⟨(gtN N s.b).r, (gtN N s.b).c + s.ca, 0⟩ (gtN N s.a) = true from hq] at CN
                  have hni := go1_ni J.out.2.1 HG.out.1 D.out.2.2.2.2.1 hq 0
                  have hls := go1_less J.out.2.1 HG.out.1 D.out.2.2.2.2.1 hq 0
                  go_wp2_with fail
                  refine Calls.mono CN.out ?_
                  rintro _ V2 ⟨rfl, b2⟩
                  have v2 := (NWY.out.below b2).v0
                  have a2 := ((D.out.2.1.below BY.out.1).below b2).m0
                  have l2 := (BY.out.2.below b2).ld rtN rfl
                  obtain ⟨U, sU, hU⟩ := (NWY.out.below b2).put D.out.2.2.2.2.2.1 ⟨(gtN N s.b).r, (gtN N s.b).c + s.ca, 0⟩
                  have Z : Hid (NW w U w.heap.size g i c2 (go1 N s 0) ∧ NI ids L (go1 N s 0) ∧ (∀ t, (gtN (go1 N s 0) t).p = 0) ∧ total (lab (go1 N s 0)) ids.length < gk) := ⟨hU, hni, go1_p J.out.2.2.1, by rw [← J.out.2.2.2]; exact hls⟩
                  clear b2 hU hni hls hq
                  go_wp2
                  go_roundg (total (lab (go1 N s 0)) ids.length)
                  case measure => exact Z.out.2.2.2
                  case rel => exact ⟨_, Z.out.1, Z.out.2.1, Z.out.2.2.1, rfl⟩
              · have hjj : j = 2 := by omega
                subst hjj
                have Z : Hid (NW w wr w.heap.size g i c2 N ∧ (∀ (t : Nat) (s : Ne), t < 2 * (e + 1) → (sdl L)[t]? = some s → near N s = false)) := ⟨hNW, hlow⟩
                clear hNW hlow
                go_wp2
                go_roundw
                case rel => exact ⟨e + 1, by omega, by go_num, Z.out.1, Z.out.2⟩
                case measure => simp [intOf]; omega
          · have hen : e = n' := by omega
            subst hen
            have he1 : ¬ (e : Int) < (e : Int) := by omega
            have v0 := hNW.v0
            have hkey := done_key J.out.2.1 HG.out.1 (sdl_all fun t s ht hs => hlow t s (by rw [← HG.out.2.2.2.2]; exact ht) hs)
            have hN := ndAt_of (p := fun _ => 0) J.out.2.1 hkey (fun t _ => J.out.2.2.1 t)
            have Z : Hid (PAt eN wr g c2 (ndAt ids L (fun _ => 0)) ∧ Below w.heap.size w wr ∧ w.heap.size ≤ g) := ⟨by rw [← hN]; exact hNW.pat, hNW.bel, by have := hNW.ne; have := hNW.low; omega⟩
            clear hNW hlow hkey hN
            go_wp2
            try rw [Exit.noGoto_ret]
            go_ret
            exact ⟨⟨g, c2, rfl, Z.out.2.2, Z.out.1⟩, Z.out.2.1⟩
end Go.Proofs.Ytcagdfdhpbeolaa
