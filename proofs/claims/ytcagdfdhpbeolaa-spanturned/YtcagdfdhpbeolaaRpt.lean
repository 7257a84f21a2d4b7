/-
  Root ports: the walk of rootPort, for every graph that may be.
-/
import Derived.Test.YtcagdfdhpbeolaaTld
namespace Go.Proofs.Ytcagdfdhpbeolaa
set_option linter.unusedVariables false
set_option maxRecDepth 4000
set_option linter.unusedSimpArgs false
open Go.RowKit

theorem Own.nextG {α : Type} {e : El α} (k : e.Ok) {W : World} {B : Nat} {v : Value} {l : List α} (o : Own e W B v l) (hB : B ≤ W.heap.size) (hl : l.length ≤ 1000) (p : α) (ty : TypeId) :
    ∃ v' W', (apS e.st ty #[v, .slice (some ⟨W.heap.size, 0, none⟩) 1 1]).run Try.prog (W.alloc (.cells (e.f p) e.ty)) = .ok v' W' ∧ Own e W' B v' (l ++ [p]) ∧ Below B W W' ∧ W.grownBy W' v.ownBlock := by
  have bA : Below W.heap.size W (W.alloc (.cells (e.f p) e.ty)) := (Below.refl _ _).alloc (Nat.le_refl _) _
  obtain ⟨v', W', ap, o2, g2⟩ := (o.below bA).app k (one_new W p k) (by simp; omega) (Nat.le_trans hB bA.size) ty
  exact ⟨v', W', ap, o2, (bA.mono hB).trans (below_of_grown g2 (Nat.le_trans hB bA.size) (fun j e => ((o.below bA).blk j e).1)), grown_self (grown_of_below bA _) g2⟩
theorem nI_g {W : World} {B : Nat} {v : Value} {l : List Int} (o : Own eI W B v l) (hB : B ≤ W.heap.size) (hl : l.length ≤ 1000) (p : Int) :
    ∃ v' W', (apS 43 43 #[v, .slice (some ⟨W.heap.size, 0, none⟩) 1 1]).run Try.prog (W.alloc (.cells (#[.int .i64 p]) 3)) = .ok v' W' ∧ Own eI W' B v' (l ++ [p]) ∧ Below B W W' ∧ W.grownBy W' v.ownBlock := o.nextG kI hB hl p _
theorem nV_g {W : World} {B : Nat} {v : Value} {l : List V4} (o : Own eV W B v l) (hB : B ≤ W.heap.size) (hl : l.length ≤ 1000) (p : V4) :
    ∃ v' W', (apS 71 71 #[v, .slice (some ⟨W.heap.size, 0, none⟩) 1 1]).run Try.prog (W.alloc (.cells (p.cs) 56)) = .ok v' W' ∧ Own eV W' B v' (l ++ [p]) ∧ Below B W W' ∧ W.grownBy W' v.ownBlock := o.nextG kV hB hl p _
theorem Own.apart {α β : Type} {e : El α} {f : El β} {W : World} {B C : Nat} {v u : Value} {l : List α} {m : List β} (h : Own e W B v l) (k : Own f W C u m) (hne : e.ty ≠ f.ty) : v.ownBlock = none ∨ v.ownBlock ≠ u.ownBlock := by
  rcases h.pat with ⟨rfl, _⟩ | ⟨g, c, rfl, _, hp⟩
  · exact .inl rfl
  · rcases k.pat with ⟨rfl, _⟩ | ⟨g', c', rfl, _, hq⟩
    · exact .inr (by simp [Value.ownBlock])
    · refine .inr fun e' => ?_
      simp only [Value.ownBlock, Option.some.injEq] at e'
      obtain ⟨cu, hc, _⟩ := hp
      obtain ⟨du, hd, _⟩ := hq
      subst e'
      unfold RvAt at hc hd
      rw [hc] at hd
      simp only [Option.some.injEq, Obj.cells.injEq] at hd
      exact hne hd.2.1
/-- The sides of a bridge among the first t. -/
def flt (L : List Ne) (i t : Nat) : List Ne := ((sdl L).take t).filter fun s => decide ((s.a : Int) = (i : Int))
theorem flt_yes {L : List Ne} {i t : Nat} {s : Ne} (h : (sdl L)[t]? = some s) (e : ((s.a : Int) == (i : Int)) = true) : flt L i (t + 1) = flt L i t ++ [s] := by
  have e' := beq_iff_eq.1 e
  unfold flt
  rw [List.take_add_one, h, List.filter_append]
  simp [e']
theorem flt_no {L : List Ne} {i t : Nat} {s : Ne} (h : (sdl L)[t]? = some s) (e : ((s.a : Int) == (i : Int)) = false) : flt L i (t + 1) = flt L i t := by
  have e' := beq_eq_false_iff_ne.1 e
  unfold flt
  rw [List.take_add_one, h, List.filter_append]
  simp only [Option.toList_some, List.filter_cons, List.filter_nil]
  rw [if_neg (by simpa using e'), List.append_nil]
theorem flt_all {L : List Ne} {i t : Nat} (h : 2 * L.length ≤ t) : flt L i t = mine L i := by
  unfold flt mine
  rw [List.take_of_length_le (by rw [sdl_len]; exact h)]
theorem flt_len (L : List Ne) (i t : Nat) : (flt L i t).length ≤ t := by
  unfold flt
  exact Nat.le_trans (List.length_filter_le _ _) (by rw [List.length_take]; omega)
/-- What is kept while ports are looked through. -/
structure RS (W0 W : World) (tr : Array Value) (v7 v8 : Value) (ids : List Nat) (L : List Ne) (i t : Nat) : Prop where
  var : RvAt W W0.heap.size 68 tr
  pl : Own eI W (W0.heap.size + 1) v7 ((flt L i t).map fun s => (s.pa : Int))
  hd : Own eV W (W0.heap.size + 1) v8 ((flt L i t).map (hearV ids L))
  bel : Below W0.heap.size W0 W
theorem RS.below {W0 W V : World} {tr : Array Value} {v7 v8 : Value} {ids : List Nat} {L : List Ne} {i t : Nat} (h : RS W0 W tr v7 v8 ids L i t) (k : Below W.heap.size W V) : RS W0 V tr v7 v8 ids L i t := ⟨h.var.below k, h.pl.below k, h.hd.below k, below_over h.bel k⟩
theorem bdV_one (x : V4) : x.cs = x.cs := rfl
attribute [local go_sem ↓] ldE stE ldT apI apV bsI bsV
set_option maxHeartbeats 8000000 in
theorem rootPort_any (a : Option Addr) (n c g c2 : Nat) (ids : List Nat) (L : List Ne) (p : Nat → Int) (a' : Option Addr) (n' c' : Nat) (i : Nat) (w : World) (h : TQ w a n c g c2 ids L p) (ht : SlAt eE w a' n' c' (L.map Ne.eg)) (hi : i < n) (hm : mine L i ≠ []) :
    Calls Try.prog 42 #[.agg (tre a n c g c2), .int .i64 (i : Int), .slice a' n' c'] w fun r w' => r = .returned (.int .i64 (portAt ids L i)) ∧ Below w.heap.size w w' := by
  have hmm := ht.int
  have hLl : L.length = n' := by rw [← ht.len, List.length_map]
  have hm24 : n' ≤ 24 := by rw [← hLl]; exact h.ok.m24
  obtain ⟨W, hW⟩ : ∃ W, w.alloc (.cells (tre a n c g c2) 68) = W := ⟨_, rfl⟩
  have bW : Below w.heap.size w W := by rw [← hW]; exact (Below.refl _ _).alloc (Nat.le_refl _) _
  have r0 : RvAt W w.heap.size 68 (tre a n c g c2) := by rw [← hW]; exact RvAt.new w _ _
  have HG : Hid (TQ w a n c g c2 ids L p ∧ SlAt eE w a' n' c' (L.map Ne.eg) ∧ L.length = n' ∧ i < n ∧ mine L i ≠ []) := ⟨h, ht, hLl, hi, hm⟩
  have H0 : Hid (RS w W (tre a n c g c2) (.slice none 0 0) (.slice none 0 0) ids L i 0) := ⟨r0, Own.nil _ _, Own.nil _ _, bW⟩
  clear h ht hLl bW r0 hm
  go_enter Try.func42, Try.ntmps42
  go_wp2_with fail
  go_loopw [7, 8, 15] (fun v7 v8 v15 wr => ∃ e : Nat, e ≤ n' ∧ v15 = .int .i64 e ∧ RS w wr (tre a n c g c2) v7 v8 ids L i (2 * e)) (fun _ _ v15 _ => n' - (intOf v15).toNat)
  case atStart => exact ⟨0, by omega, rfl, H0.out⟩
  case round =>
    obtain ⟨e, he, rfl, hR⟩ := hrel
    have he0 : (0 : Int) ≤ (e : Int) := by omega
    by_cases het : e < n'
    · have he1 : (e : Int) < (n' : Int) := by omega
      have hel : e < L.length := by rw [HG.out.2.2.1]; exact het
      obtain ⟨b, o, rfl⟩ := HG.out.2.1.some' (by omega)
      obtain ⟨x, hx⟩ := lt_nth hel
      have lp := lde' (HG.out.2.1.below hR.bel) hx
      obtain ⟨V, sV, vE, bV⟩ := EvAt.put wr x.eg
      have lv := vE.ld
      have K : Hid (RS w V (tre a n c g c2) u7 u8 ids L i (2 * e) ∧ L[e]? = some x) := ⟨hR.below bV, hx⟩
      clear hR hx hel vE bV
      go_wp2_with fail
      refine (sides_any x.eg V).mono ?_
      rintro _ V1 ⟨rfl, b1⟩
      have K1 : Hid (RS w V1 (tre a n c g c2) u7 u8 ids L i (2 * e)) := K.out.1.below b1
      clear b1 lp sV lv
      go_wp2_with fail
      go_loopw [7, 8, 21] (fun v7 v8 v21 wr => ∃ j : Nat, j ≤ 2 ∧ v21 = .int .i64 j ∧ RS w wr (tre a n c g c2) v7 v8 ids L i (2 * e + j)) (fun _ _ v21 _ => 2 - (intOf v21).toNat)
      case atStart => exact ⟨0, by omega, rfl, K1.out⟩
      case round =>
        obtain ⟨j, hj, rfl, hR⟩ := hrel
        have hj0 : (0 : Int) ≤ (j : Int) := by omega
        by_cases hj2 : j < 2
        · have hj1 : (j : Int) < 2 := by omega
          have ix := ixB x.eg j hj2
          rw [← sdN_eg] at ix
          have hst := sdl_at K.out.2 hj2
          have hsm := sdl_mem K.out.2 hj2
          obtain ⟨s, hs⟩ : ∃ s, sdN x j = s := ⟨_, rfl⟩
          rw [hs] at ix hst hsm
          have hgs := HG.out.1.ok.side s hsm
          rw [HG.out.1.len] at hgs
          obtain ⟨V, sV, vE, bV⟩ := EvAt.put wr s.eg
          have m0 := vE.m0
          have m1 := vE.m1
          cases hq : ((s.a : Int) == (i : Int))
          · have Z : Hid (RS w V (tre a n c g c2) u7 u8 ids L i (2 * e + (j + 1))) := by
              have := hR.below bV
              show RS w V (tre a n c g c2) u7 u8 ids L i ((2 * e + j) + 1)
              exact ⟨this.var, by rw [flt_no hst hq]; exact this.pl, by rw [flt_no hst hq]; exact this.hd, this.bel⟩
            clear hR hst hsm hs vE bV hgs
            go_wp2
            go_roundw
            case rel => exact ⟨j + 1, by omega, by go_num, Z.out⟩
            case measure => simp [intOf]; omega
          · have hR2 := hR.below bV
            have bs := bsI_is (s.pa : Int) V
            have hfl := flt_len L i (2 * e + j)
            have hB1 : w.heap.size + 1 ≤ V.heap.size := hR2.var.lt
            obtain ⟨v', Y, ap, o2, b2, g2⟩ := nI_g hR2.pl hB1 (by rw [List.length_map]; omega) (s.pa : Int)
            have hap := hR2.hd.apart hR2.pl (by decide)
            have D : Hid (RvAt Y w.heap.size 68 (tre a n c g c2) ∧ Own eI Y (w.heap.size + 1) v' (((flt L i (2 * e + j)).map fun s => (s.pa : Int)) ++ [(s.pa : Int)]) ∧ Own eV Y (w.heap.size + 1) u8 ((flt L i (2 * e + j)).map (hearV ids L)) ∧ Below w.heap.size w Y ∧ EvAt Y wr.heap.size s.eg ∧ w.heap.size + 1 ≤ Y.heap.size ∧ (u8.ownBlock = none ∨ u8.ownBlock ≠ some wr.heap.size) ∧ (u8.ownBlock ≠ some w.heap.size)) := by
              refine ⟨belowB hR2.var b2 (by omega), o2, hR2.hd.keptBut g2 hap, hR2.bel.trans (b2.mono (by omega)), ?_, Nat.le_trans hB1 b2.size, ?_, ?_⟩
              · refine RvAt.keptBut vE g2 (fun e' => ?_)
                have := (hR.pl.blk _ e'.symm).2
                omega
              · cases hb : u8.ownBlock with
                | none => exact .inl rfl
                | some z =>
                  refine .inr fun e' => ?_
                  have := (hR.hd.blk _ hb).2
                  cases e'
                  omega
              · intro e'
                have := (hR.hd.blk _ e').1
                omega
            obtain ⟨sb, hsb⟩ : ∃ z, wr.heap.size = z := ⟨_, rfl⟩
            rw [hsb] at D sV m0 m1
            have T : Hid ((sdl L)[2 * e + j]? = some s ∧ s ∈ sdl L ∧ s.b < n ∧ s.pb ≤ 7 ∧ s.ca ≤ 200000000) := ⟨hst, hsm, hgs.2.1, hgs.2.2.2.1, hgs.2.2.2.2.2.1⟩
            have HQ : Hid (((s.a : Int) == (i : Int)) = true ∧ 2 * e + j ≤ 100) := ⟨hq, by omega⟩
            clear hR hR2 hst hsm hs vE bV hgs o2 b2 g2 hap hfl hB1
            go_wp2_with fail
            clear ix sV m0 m1 bs ap hsb hq
            obtain ⟨X0, hX0⟩ : ∃ X0, World.drew Y = X0 := ⟨_, rfl⟩
            have B0 : Hid (Below Y.heap.size Y X0) := by rw [← hX0]; exact (Below.refl _ _).drew
            have F0 : Hid (∀ W', Y.grownBy W' u8.ownBlock → (ldS 68 (.pointer (some ⟨w.heap.size, 0, none⟩))).run Try.prog W' = .ok (.agg (tre a n c g c2)) W' ∧ W'.cell? ⟨sb, 2, none⟩ = some (.int .i64 (s.b : Int)) ∧ W'.cell? ⟨sb, 3, none⟩ = some (.int .i64 (s.pb : Int)) ∧ W'.cell? ⟨sb, 4, none⟩ = some (.int .u32 (s.ca : Int))) := fun W' hg => by
              have e1 : EvAt W' sb s.eg := RvAt.keptBut D.out.2.2.2.2.1 hg (fun e' => by rcases D.out.2.2.2.2.2.2.1 with h1 | h1 <;> rw [← e'] at h1 <;> simp at h1)
              exact ⟨(D.out.1.keptBut hg (fun e' => D.out.2.2.2.2.2.2.2 e'.symm)).ld rtT rfl, e1.m2, e1.m3, e1.m4⟩
            refine wp_region_noPanic ?_
            refine wp_region_held_drew (S := fun w' => Y.grownBy w' u8.ownBlock) (by kernel_rfl) (grown_of_below (Below.refl _ _).drew _) (fun hHeld => ?_)
            rw [hX0] at hHeld ⊢
            clear hX0
            refine wpAnyH_take (i := 0) (oi := { dst := some 33, op := Op.move (Operand.tmp 8), type := 71, pos := "span.go:181", after := #[], guard := none }) (v := ?_) rfl (by kernel_rfl) (by kernel_rfl) (by kernel_rfl) (fun _ _ _ h => h) (Or.inl ⟨by rfl, ?_⟩) hHeld ?_
            rotate_left
            · intro W_ hSw_
              obtain ⟨f1, f2, f3, f4⟩ := F0.out _ hSw_; clear hSw_
              first | (go_simp; done) | (go_simp; with_reducible rfl)
            rotate_left
            try simp only [Act.put, List.setIfInBounds_toArray, List.set_cons_zero, List.set_cons_succ]
            refine wpAnyH_take (i := 1) (oi := { dst := some 34, op := Op.load 68 (Operand.tmp 3), type := 68, pos := "span.go:181", after := #[], guard := none }) (v := ?_) rfl (by kernel_rfl) (by kernel_rfl) (by kernel_rfl) (fun _ _ _ h => h) (Or.inl ⟨by rfl, ?_⟩) hHeld ?_
            rotate_left
            · intro W_ hSw_
              obtain ⟨f1, f2, f3, f4⟩ := F0.out _ hSw_; clear hSw_
              first | (go_simp; done) | (go_simp; with_reducible rfl)
            rotate_left
            try simp only [Act.put, List.setIfInBounds_toArray, List.set_cons_zero, List.set_cons_succ]
            refine wpAnyH_take (i := 2) (oi := { dst := some 35, op := Op.fieldAddr 50 (Operand.tmp 12) 2, type := 0, pos := "span.go:181", after := #[], guard := none }) (v := ?_) rfl (by kernel_rfl) (by kernel_rfl) (by kernel_rfl) (fun _ _ _ h => h) (Or.inl ⟨by rfl, ?_⟩) hHeld ?_
            rotate_left
            · intro W_ hSw_
              obtain ⟨f1, f2, f3, f4⟩ := F0.out _ hSw_; clear hSw_
              first | (go_simp; done) | (go_simp; with_reducible rfl)
            rotate_left
            try simp only [Act.put, List.setIfInBounds_toArray, List.set_cons_zero, List.set_cons_succ]
            refine wpAnyH_take (i := 3) (oi := { dst := some 36, op := Op.load 3 (Operand.tmp 35), type := 3, pos := "span.go:181", after := #[{ on := 2, ground := Ground.data }], guard := none }) (v := ?_) rfl (by kernel_rfl) (by kernel_rfl) (by kernel_rfl) (fun _ _ _ h => h) (Or.inl ⟨by rfl, ?_⟩) hHeld ?_
            rotate_left
            · intro W_ hSw_
              obtain ⟨f1, f2, f3, f4⟩ := F0.out _ hSw_; clear hSw_
              first | (go_simp; done) | (go_simp; with_reducible rfl)
            rotate_left
            try simp only [Act.put, List.setIfInBounds_toArray, List.set_cons_zero, List.set_cons_succ]
            refine wpAnyH_take (i := 4) (oi := { dst := some 37, op := Op.fieldAddr 50 (Operand.tmp 12) 3, type := 0, pos := "span.go:181", after := #[], guard := none }) (v := ?_) rfl (by kernel_rfl) (by kernel_rfl) (by kernel_rfl) (fun _ _ _ h => h) (Or.inl ⟨by rfl, ?_⟩) hHeld ?_
            rotate_left
            · intro W_ hSw_
              obtain ⟨f1, f2, f3, f4⟩ := F0.out _ hSw_; clear hSw_
              first | (go_simp; done) | (go_simp; with_reducible rfl)
            rotate_left
            try simp only [Act.put, List.setIfInBounds_toArray, List.set_cons_zero, List.set_cons_succ]
            refine wpAnyH_take (i := 5) (oi := { dst := some 38, op := Op.load 3 (Operand.tmp 37), type := 3, pos := "span.go:181", after := #[{ on := 4, ground := Ground.data }], guard := none }) (v := ?_) rfl (by kernel_rfl) (by kernel_rfl) (by kernel_rfl) (fun _ _ _ h => h) (Or.inl ⟨by rfl, ?_⟩) hHeld ?_
            rotate_left
            · intro W_ hSw_
              obtain ⟨f1, f2, f3, f4⟩ := F0.out _ hSw_; clear hSw_
              first | (go_simp; done) | (go_simp; with_reducible rfl)
            rotate_left
            try simp only [Act.put, List.setIfInBounds_toArray, List.set_cons_zero, List.set_cons_succ]
            refine wpAnyH_take (i := 7) (oi := { dst := some 40, op := Op.fieldAddr 50 (Operand.tmp 12) 4, type := 0, pos := "span.go:181", after := #[], guard := none }) (v := ?_) rfl (by kernel_rfl) (by kernel_rfl) (by kernel_rfl) (fun _ _ _ h => h) (Or.inl ⟨by rfl, ?_⟩) hHeld ?_
            rotate_left
            · intro W_ hSw_
              obtain ⟨f1, f2, f3, f4⟩ := F0.out _ hSw_; clear hSw_
              first | (go_simp; done) | (go_simp; with_reducible rfl)
            rotate_left
            try simp only [Act.put, List.setIfInBounds_toArray, List.set_cons_zero, List.set_cons_succ]
            refine wpAnyH_take (i := 8) (oi := { dst := some 41, op := Op.load 48 (Operand.tmp 40), type := 48, pos := "span.go:181", after := #[{ on := 7, ground := Ground.data }], guard := none }) (v := ?_) rfl (by kernel_rfl) (by kernel_rfl) (by kernel_rfl) (fun _ _ _ h => h) (Or.inl ⟨by rfl, ?_⟩) hHeld ?_
            rotate_left
            · intro W_ hSw_
              obtain ⟨f1, f2, f3, f4⟩ := F0.out _ hSw_; clear hSw_
              first | (go_simp; done) | (go_simp; with_reducible rfl)
            rotate_left
            try simp only [Act.put, List.setIfInBounds_toArray, List.set_cons_zero, List.set_cons_succ]
            refine wpAnyH_ready (rs := [6]) (by kernel_rfl) (by simp) ?_
            refine AllReadyH.cons (o := { dst := some 39, op := Op.call { callee := Callee.value (Operand.func 48), args := #[Operand.tmp 34, Operand.tmp 36, Operand.tmp 38], argTypes := #[68, 3, 3] }, type := 56, pos := "span.go:181", after := #[{ on := 1, ground := Ground.data }, { on := 3, ground := Ground.data }, { on := 5, ground := Ground.data }], guard := none }) rfl (fun K hK => ?_) AllReadyH.nil
            go_simp
            refine (told_any a n c g c2 ids L p s.b s.pb X0 (HG.out.1.below (below_over D.out.2.2.2.1 B0.out)) T.out.2.2.1 T.out.2.2.2.1).mono ?_
            rintro _ X1 ⟨rfl, bb⟩
            have B1 : Hid (Below Y.heap.size Y X1) := below_over B0.out bb
            clear bb
            clear hHeld
            refine hK.out _ _ (grown_of_below B1.out _) (fun hHeld => ?_)
            clear hK K
            try simp only [Act.put, List.setIfInBounds_toArray, List.set_cons_zero, List.set_cons_succ]
            refine wpAnyH_ready (rs := [9]) (by kernel_rfl) (by simp) ?_
            refine AllReadyH.cons (o := { dst := some 42, op := Op.call { callee := Callee.value (Operand.func 51), args := #[Operand.tmp 39, Operand.tmp 41], argTypes := #[56, 48] }, type := 56, pos := "span.go:181", after := #[{ on := 6, ground := Ground.data }, { on := 8, ground := Ground.data }, { on := 6, ground := Ground.chain }], guard := none }) rfl (fun K hK => ?_) AllReadyH.nil
            go_simp
            refine (add_any (toldV ids L s.b s.pb) (s.ca : Int) X1 (toldV_wf HG.out.1.ok (by rw [HG.out.1.len]; exact T.out.2.2.1) T.out.2.2.2.1) (by have := T.out.2.2.2.2; omega)).mono ?_
            rintro _ X2 ⟨rfl, bb⟩
            rw [add_hear HG.out.1.ok T.out.2.1]
            have B2 : Hid (Below Y.heap.size Y X2) := below_over B1.out bb
            have bs := bsV_is (hearV ids L s) X2
            obtain ⟨v2, Y2, ap, o2, b2, g2⟩ := nV_g (D.out.2.2.1.below B2.out) (Nat.le_trans D.out.2.2.2.2.2.1 B2.out.size) (by rw [List.length_map]; have := flt_len L i (2 * e + j); have := HQ.out.2; omega) (hearV ids L s)
            have BA : Hid (Y.grownBy (X2.alloc (.cells (hearV ids L s).cs 56)) u8.ownBlock) := grown_of_below (below_over B2.out ((Below.refl _ _).alloc (Nat.le_refl _) _)) _
            have GY : Hid (Y.grownBy Y2 u8.ownBlock ∧ Own eV Y2 (w.heap.size + 1) v2 (((flt L i (2 * e + j)).map (hearV ids L)) ++ [hearV ids L s]) ∧ Below (w.heap.size + 1) Y Y2) := ⟨grown_self (grown_of_below B2.out _) g2, o2, (B2.out.mono D.out.2.2.2.2.2.1).trans b2⟩
            clear bb o2 b2 g2
            clear hHeld
            refine hK.out _ _ (grown_of_below B2.out _) (fun hHeld => ?_)
            clear hK K
            try simp only [Act.put, List.setIfInBounds_toArray, List.set_cons_zero, List.set_cons_succ]
            refine wpAnyH_ready (rs := [10]) (by kernel_rfl) (by simp) ?_
            refine AllReadyH.cons (o := { dst := some 43, op := Op.buildSlice 71 1 #[(0, Operand.tmp 42)], type := 71, pos := "span.go:181", after := #[{ on := 9, ground := Ground.data }], guard := none }) rfl (fun K hK => ?_) AllReadyH.nil
            go_simp
            clear hHeld
            refine hK.out _ _ (BA.out) (fun hHeld => ?_)
            clear hK K
            try simp only [Act.put, List.setIfInBounds_toArray, List.set_cons_zero, List.set_cons_succ]
            refine wpAnyH_ready (rs := [11]) (by kernel_rfl) (by simp) ?_
            refine AllReadyH.cons (o := { dst := some 44, op := Op.call { callee := Callee.builtin Builtin.append, args := #[Operand.tmp 33, Operand.tmp 43], argTypes := #[71, 71] }, type := 71, pos := "span.go:181", after := #[{ on := 0, ground := Ground.data }, { on := 10, ground := Ground.data }, { on := 9, ground := Ground.chain }], guard := none }) rfl (fun K hK => ?_) AllReadyH.nil
            go_simp
            clear hHeld
            refine hK.out _ _ (GY.out.1) (fun hHeld => ?_)
            clear hK K
            try simp only [Act.put, List.setIfInBounds_toArray, List.set_cons_zero, List.set_cons_succ]
            refine wpAnyH_take (i := 12) (oi := { dst := some 8, op := Op.assign (Operand.tmp 44), type := 71, pos := "span.go:181", after := #[{ on := 11, ground := Ground.data }, { on := 11, ground := Ground.chain }, { on := 0, ground := Ground.phase }, { on := 1, ground := Ground.phase }, { on := 2, ground := Ground.phase }, { on := 3, ground := Ground.phase }, { on := 4, ground := Ground.phase }, { on := 5, ground := Ground.phase }, { on := 6, ground := Ground.phase }, { on := 7, ground := Ground.phase }, { on := 8, ground := Ground.phase }, { on := 9, ground := Ground.phase }, { on := 10, ground := Ground.phase }, { on := 11, ground := Ground.phase }], guard := none }) (v := ?_) rfl (by kernel_rfl) (by kernel_rfl) (by kernel_rfl) (fun _ _ _ h => h) (Or.inl ⟨by rfl, ?_⟩) hHeld ?_
            rotate_left
            · intro W_ hSw_
              obtain ⟨f1, f2, f3, f4⟩ := F0.out _ hSw_; clear hSw_
              first | (go_simp; done) | (go_simp; with_reducible rfl)
            rotate_left
            try simp only [Act.put, List.setIfInBounds_toArray, List.set_cons_zero, List.set_cons_succ]
            refine wpAnyH_done (by kernel_rfl) ?_ _
            refine NoPanic.normal ?_
            clear hHeld
            have Z : Hid (RS w Y2 (tre a n c g c2) v' v2 ids L i (2 * e + (j + 1))) := by
              show RS w Y2 (tre a n c g c2) v' v2 ids L i ((2 * e + j) + 1)
              refine ⟨belowB D.out.1 GY.out.2.2 (by omega), ?_, ?_, D.out.2.2.2.1.trans (GY.out.2.2.mono (by omega))⟩
              · rw [flt_yes T.out.1 HQ.out.1, List.map_append]
                exact D.out.2.1.keptBut GY.out.1 (D.out.2.1.apart D.out.2.2.1 (by decide))
              · rw [flt_yes T.out.1 HQ.out.1, List.map_append]
                exact GY.out.2.1
            clear F0 ap bs
            go_wp2
            go_roundw
            case rel => exact ⟨j + 1, by omega, by go_num, Z.out⟩
            case measure => simp [intOf]; omega
        · have hjj : j = 2 := by omega
          subst hjj
          have Z : Hid (RS w wr (tre a n c g c2) u7 u8 ids L i (2 * (e + 1))) := hR
          clear hR
          go_wp2
          go_roundw
          case rel => exact ⟨e + 1, by omega, by go_num, Z.out⟩
          case measure => simp [intOf]; omega
    · have hen : e = n' := by omega
      subst hen
      have he1 : ¬ (e : Int) < (e : Int) := by omega
      have hfa := flt_all (L := L) (i := i) (t := 2 * e) (by rw [HG.out.2.2.1]; exact Nat.le_refl _)
      have o7 := hR.pl
      have o8 := hR.hd
      rw [hfa] at o7 o8
      obtain ⟨a7, c7, e7, s7, _⟩ := o7.form
      obtain ⟨a8, c8, e8, s8, _⟩ := o8.form
      have el7 : ((mine L i).map fun s => (s.pa : Int)).length = (mine L i).length := List.length_map ..
      have el8 : ((mine L i).map (hearV ids L)).length = (mine L i).length := List.length_map ..
      rw [el7] at e7 s7
      rw [el8] at e8 s8
      have hml : 0 < (mine L i).length := List.length_pos_iff.2 HG.out.2.2.2.2
      obtain ⟨m, hm⟩ : ∃ m, (mine L i).length = m := ⟨_, rfl⟩
      rw [hm] at e7 s7 e8 s8 hml
      subst e7
      subst e8
      obtain ⟨b7, p7, rfl⟩ := s7.some' hml
      have hbe := bestAt_in (heardL ids L i) m
      have hbl : (heardL ids L i).length = m := by unfold heardL; rw [List.length_map]; exact hm
      obtain ⟨k, hk⟩ : ∃ k : Nat, bestAt (heardL ids L i) m = (k : Int) := ⟨(bestAt (heardL ids L i) m).toNat, by have := hbe.2.2 hml; omega⟩
      have hkb : bestI ids L i = k := by unfold bestI; rw [hbl, hk]; omega
      have hk0 : (0 : Int) ≤ (k : Int) := by omega
      have hk1 : (k : Int) < (m : Int) := by have := hbe.2.1; omega
      have hpa : (placeL L i)[k]? = some (portAt ids L i) := by
        unfold portAt
        rw [hkb, List.getD_eq_getElem?_getD]
        have : k < (placeL L i).length := by unfold placeL; rw [List.length_map, hm]; omega
        rw [List.getElem?_eq_getElem this]
        rfl
      have Z : Hid (SlAt eI wr (some ⟨b7, p7, none⟩) m c7 (placeL L i) ∧ SlAt eV wr a8 m c8 (heardL ids L i) ∧ bestAt (heardL ids L i) m = (k : Int) ∧ (placeL L i)[k]? = some (portAt ids L i) ∧ Below w.heap.size w wr) := ⟨s7, s8, hk, hpa, hR.bel⟩
      have hmi := s7.int
      clear hR hfa o7 o8 s7 s8 el7 el8 hml hm hbe hbl hk hkb hpa
      go_wp2_with fail
      refine (best_any a8 m c8 (heardL ids L i) wr Z.out.2.1 (heardL_wf HG.out.1.ok i)).mono ?_
      rintro _ W9 ⟨rfl, b9⟩
      rw [Z.out.2.2.1]
      have q7 := (Z.out.1.below b9).cell kI (i := k) (j := 0) (q := p7 + k) Z.out.2.2.2.1 rfl (by show p7 + k = p7 + (k * 1 + 0); omega)
      have B9 : Hid (Below w.heap.size w W9) := below_over Z.out.2.2.2.2 b9
      clear b9
      go_wp2
      go_ret
      exact ⟨rfl, B9.out⟩
end Go.Proofs.Ytcagdfdhpbeolaa
