/-
  TagOwn: what is told is new memory: the walk.
-/
import Derived.Test.YtmhnoggihnhenaaLawTypes
namespace Go.Proofs.Ytmhnoggihnhenaa
set_option linter.unusedVariables false
set_option linter.unusedSimpArgs false
open Go.RowKit

/-- A slice of n bytes of its own, whatever they are. -/
def Mine (w : World) (B : Nat) (v : Value) (n : Nat) : Prop := ∃ l : List Int, l.length = n ∧ Own w B v l

theorem Mine.below {w w' : World} {B : Nat} {v : Value} {n : Nat} (h : Mine w B v n) (hb : Below w.heap.size w w') : Mine w' B v n := by
  obtain ⟨l, h1, h2⟩ := h
  exact ⟨l, h1, h2.below hb⟩

theorem Mine.set {w : World} {B : Nat} {v : Value} {n : Nat} (h : Mine w B v n) (g' j : Nat) (x : Int) : Mine (w.setCell ⟨g', j, none⟩ (.int .u8 x)) B v n := by
  obtain ⟨l, h1, h2⟩ := h
  obtain ⟨h3, h4 | ⟨g, cap, cur, rfl, hB, hg, hn, hc, hcur, ht⟩⟩ := h2
  · exact ⟨l, h1, h3, .inl h4⟩
  · by_cases e : g' = g
    · subst e
      refine ⟨l.set j x, by simpa using h1, by simp, .inr ⟨g', cap, _, by simp, hB, heap_setCell_same _ _ _ _ _ _ hg, by simpa using hn, hc, by simpa using hcur, ?_⟩⟩
      rw [Array.toList_setIfInBounds, List.take_set, List.map_set]
      simp only [List.length_set]
      rw [ht]
    · exact ⟨l, h1, h3, .inr ⟨g, cap, cur, rfl, hB, (heap_setCell_other _ _ _ _ (by simpa using fun h => e h.symm)).trans hg, hn, hc, hcur, ht⟩⟩

theorem Mine.form {w : World} {B : Nat} {a : Option Addr} {n c : Nat} (h : Mine w B (.slice a n c) n) (k : Nat) (hk : k < n) :
    ∃ g y, a = some ⟨g, 0, none⟩ ∧ B ≤ g ∧ w.cell? ⟨g, k, none⟩ = some (.int .u8 y) ∧ w.frozen? ⟨g, k, none⟩ = false ∧ ∃ cs, w.heap[g]? = some (.cells cs 5 (0, 0)) := by
  obtain ⟨l, h1, h2⟩ := h
  have hs := h2.src
  obtain ⟨h3, ⟨h4, h5⟩ | ⟨g, cap, cur, hv, hB, hg, hn, hc, hcur, ht⟩⟩ := h2
  · omega
  · cases hv
    obtain ⟨b, o, e, _, hj⟩ := src_some hs (by omega)
    cases e
    have := hj k (by omega)
    rw [Nat.zero_add] at this
    exact ⟨g, _, rfl, hB, this, by simp [World.frozen?, hg], cur, hg⟩

/-- What stands at the head of a round: what is told lies in memory of its own, the list of it is as it was, and all that was there is as it was. -/
structure OwnSt (W1 wr : World) (M : Nat) (pa : Nat → Option Addr) (pn pc : Nat → Nat) : Prop where
  below : Below W1.heap.size W1 wr
  typ : ∃ cs, wr.heap[M]? = some (.cells cs 28 (0, 0))
  list : ∀ i, i < 4 → wr.cell? ⟨M, i, none⟩ = some (.slice (pa i) (pn i) (pc i))
  mine : ∀ i, i < 4 → Mine wr W1.heap.size (.slice (pa i) (pn i) (pc i)) (pn i)

theorem OwnSt.set {W1 wr : World} {M : Nat} {pa : Nat → Option Addr} {pn pc : Nat → Nat} (h : OwnSt W1 wr M pa pn pc) (g k : Nat) (x : Int) (hB : W1.heap.size ≤ g) (hg : ∃ cs, wr.heap[g]? = some (.cells cs 5 (0, 0))) : OwnSt W1 (wr.setCell ⟨g, k, none⟩ (.int .u8 x)) M pa pn pc := by
  obtain ⟨cs, hM⟩ := h.typ
  obtain ⟨cs', hg'⟩ := hg
  have hne : M ≠ g := by
    intro e
    subst e
    rw [hM] at hg'
    cases hg'
  exact ⟨h.below.setCell (p := ⟨g, k, none⟩) hB _, ⟨cs, (heap_setCell_other _ _ _ _ (by simpa using hne)).trans hM⟩,
    fun i hi => (World.cell?_of_block (w := wr) (heap_setCell_other wr ⟨g, k, none⟩ M _ hne)).trans (h.list i hi), fun i hi => (h.mine i hi).set _ _ _⟩

/-- Four things. -/
def four {A : Type} (x y z u : A) : Nat → A
  | 0 => x
  | 1 => y
  | 2 => z
  | _ => u

theorem Own.slice {w : World} {B : Nat} {v : Value} {l : List Int} (h : Own w B v l) : ∃ a c, v = .slice a l.length c := by
  obtain ⟨a, c, e, _⟩ := h.src
  exact ⟨a, c, e⟩

attribute [local go_sem ↓] ldS27_eq stS27_eq

theorem parts_one (W : World) (v0 : Value) (l0 : List Int) (h0 : Src W v0 l0) (k0 : l0.length ≤ 1000) : Parts (W.alloc (.cells #[v0] 28)) W.heap.size 1 (fun _ => v0) (fun _ => l0) := by
  intro j hj
  have hb : Below W.heap.size W (W.alloc (.cells #[v0] 28)) := (Below.refl _ _).alloc (Nat.le_refl _) _
  have hc := alloc_at W (.cells #[v0] 28)
  have hj' : j = 0 := by omega
  subst hj'
  exact ⟨cell_at hc 0 _ rfl, h0.below hb, k0⟩

set_option maxHeartbeats 1000000 in
theorem TagOwn_walk (a0 : Option Addr) (n0 c0 : Nat) (l : List Int) (x : Int) (w : World) (f0 : Src w (.slice a0 n0 c0) l) (hb : ∀ x ∈ l, 0 ≤ x ∧ x ≤ 255) (wx : (Lit.int .u8 x).wf = true) :
    Calls Try.prog 7 #[.slice a0 n0 c0, .int .u8 x] w fun r w' => r = .returned (.bool true) ∧ Below w.heap.size w w' := by
  clear wx
  obtain ⟨L, hL⟩ : ∃ L, l.take 400 = L := ⟨_, rfl⟩
  have hL4 : L.length ≤ 1000 := by rw [← hL]; simp; omega
  have hLb : ∀ x ∈ L, 0 ≤ x ∧ x ≤ 255 := by rw [← hL]; intro x hx; exact hb x (List.mem_of_mem_take hx)
  have HL : Hid (L.length ≤ 1000 ∧ ∀ x ∈ L, 0 ≤ x ∧ x ≤ 255) := ⟨hL4, hLb⟩
  have F0 : Hid (Src (w.alloc (.cells #[] 5)) (.slice a0 n0 c0) l) := f0.below ((Below.refl _ _).alloc (Nat.le_refl _) _)
  have hO : Hid (Own (w.alloc (.cells #[] 5)) w.heap.size (.slice (some ⟨w.heap.size, 0, none⟩) 0 0) []) := own_empty w _ (Nat.le_refl _)
  have hlD : ([] : List Int).length + L.length ≤ 100000 := by simp; omega
  clear f0 hb hL4 hLb
  go_enter Try.func7, Try.ntmps7
  go_wp2_with fail
  refine (cut_any a0 n0 c0 l _ F0.out).mono ?_
  rintro _ z0 ⟨m0, rfl, hz0, hS0⟩
  rw [hz0]
  rw [hL] at hS0
  have S0 : Hid (Src (w.alloc (.cells #[] 5)) (.slice a0 m0 c0) L) := hS0
  clear hS0 hL F0 hz0
  go_wp2_with (first | (at_builtin; refine wpList_app rfl _ _ rfl (by rfl) (by rfl) hO.out S0.out hlD (by simp) ?_) | fail)
  intro v1 W1 ho1 hg1 hat1
  have BW : Hid (Below w.heap.size w W1) := ((Below.refl _ _).alloc (Nat.le_refl _) _).trans (grown_below hO.out hg1 (by simp))
  have O1 : Own W1 w.heap.size v1 L := ho1
  obtain ⟨a1, c1, hv1⟩ := O1.slice
  subst hv1
  have R0 : Hid (Src W1 (.slice a1 L.length c1) L) := O1.src
  have q0 := O1.src.string
  clear ho1 hg1 hat1 O1 hO S0 hlD
  obtain ⟨m1, hm1⟩ : ∃ m1, L.length = m1 := ⟨_, rfl⟩
  rw [hm1] at R0 q0 ⊢
  clear hm1
  go_wp2_with fail
  refine (take_any a1 m1 c1 L _ R0.out HL.out.1 HL.out.2).mono ?_
  rintro _ w2 ⟨s2, rfl, ho2, hb2⟩
  have hb2' := hb2.alloc hb2.size (.cells #[.int .i64 (tkP L), .bool (tkD L), .int .i64 (tkV L)] 23)
  have B2 : Hid (Below W1.heap.size W1 (w2.alloc (.cells #[.int .i64 (tkP L), .bool (tkD L), .int .i64 (tkV L)] 23))) := hb2'
  have O2 : Hid (Own (w2.alloc (.cells #[.int .i64 (tkP L), .bool (tkD L), .int .i64 (tkV L)] 23)) W1.heap.size s2 (tkR L)) := ho2.below ((Below.refl _ _).alloc (Nat.le_refl _) _)
  clear ho2 hb2 hb2' q0
  go_wp2_with fail
  refine (takei_any a1 m1 c1 L _ (R0.out.below B2.out) HL.out.1 HL.out.2).mono ?_
  rintro _ w3 ⟨s3, rfl, ho3, hb3⟩
  obtain ⟨W3, hst3, b3, k9⟩ := store_new27 w3 #[.int .i64 (tiP L), .bool (tiD L), .bool (tiU L), .int .i64 (tiI L), .int .u8 (tiX L 4), .int .u8 (tiX L 5), .int .u8 (tiX L 6), .int .u8 (tiX L 7), .int .u8 (tiX L 8), .int .u8 (tiX L 9), .int .u8 (tiX L 10), .int .u8 (tiX L 11), .int .u8 (tiX L 12), .int .u8 (tiX L 13), .int .u8 (tiX L 14), .int .u8 (tiX L 15)] rfl (by simp [Value.oneCell'])
  have hb3' := below_over hb3 b3
  have O2' : Hid (Own W3 W1.heap.size s2 (tkR L)) := O2.out.below hb3'
  have O3 : Hid (Own W3 W1.heap.size s3 (tiR L)) := (ho3.below b3).base B2.out.size
  have B3 : Hid (Below W1.heap.size W1 W3) := below_over B2.out hb3'
  clear ho3 hb3 b3 hb3' k9 O2 B2
  go_wp2_with fail
  refine (ttype_any a1 m1 c1 L _ (R0.out.below B3.out) HL.out.1 HL.out.2).mono ?_
  rintro _ w4 ⟨s4, rfl, ho4, hb4⟩
  have O2 : Hid (Own w4 W1.heap.size s2 (tkR L)) := O2'.out.below hb4
  have O3' : Hid (Own w4 W1.heap.size s3 (tiR L)) := O3.out.below hb4
  have O4 : Hid (Own w4 W1.heap.size s4 (tyR L)) := ho4.base B3.out.size
  have B4 : Hid (Below W1.heap.size W1 w4) := below_over B3.out hb4
  clear ho4 hb4 O2' O3 B3 hst3
  go_wp2_with fail
  refine (ptype_any 5 _ 1 1 _ _ _ (by omega) (by omega) (parts_one w4 _ _ (R0.out.below B4.out) HL.out.1)).mono ?_
  rintro _ w5 ⟨s5, rfl, ho5, hb5⟩
  have b5 : Below w4.heap.size w4 w5 := below_over ((Below.refl _ _).alloc (Nat.le_refl _) _) hb5
  have O2' : Own w5 W1.heap.size s2 (tkR L) := O2.out.below b5
  have O3 : Own w5 W1.heap.size s3 (tiR L) := O3'.out.below b5
  have O4' : Own w5 W1.heap.size s4 (tyR L) := O4.out.below b5
  have O5 : Own w5 W1.heap.size s5 (ptL 5 (fun _ => L) 1) := ho5.base (by have := B4.out.size; simp; omega)
  have B5 : Below W1.heap.size W1 w5 := below_over B4.out b5
  clear ho5 hb5 b5 O2 O3' O4 B4
  obtain ⟨pa2, pc2, e2⟩ := O2'.slice
  obtain ⟨pa3, pc3, e3⟩ := O3.slice
  obtain ⟨pa4, pc4, e4⟩ := O4'.slice
  obtain ⟨pa5, pc5, e5⟩ := O5.slice
  subst e2 e3 e4 e5
  have St : Hid (OwnSt W1 (w5.alloc (.cells #[.slice pa2 (tkR L).length pc2, .slice pa3 (tiR L).length pc3, .slice pa4 (tyR L).length pc4, .slice pa5 (ptL 5 (fun _ => L) 1).length pc5] 28)) w5.heap.size (four pa2 pa3 pa4 pa5) (four (tkR L).length (tiR L).length (tyR L).length (ptL 5 (fun _ => L) 1).length) (four pc2 pc3 pc4 pc5)) := by
    have ha := alloc_at w5 (.cells #[.slice pa2 (tkR L).length pc2, .slice pa3 (tiR L).length pc3, .slice pa4 (tyR L).length pc4, .slice pa5 (ptL 5 (fun _ => L) 1).length pc5] 28)
    have hbl : Below w5.heap.size w5 (w5.alloc (.cells #[.slice pa2 (tkR L).length pc2, .slice pa3 (tiR L).length pc3, .slice pa4 (tyR L).length pc4, .slice pa5 (ptL 5 (fun _ => L) 1).length pc5] 28)) := (Below.refl _ _).alloc (Nat.le_refl _) _
    refine ⟨below_over B5 hbl, ⟨_, ha⟩, ?_, ?_⟩
    · intro i hi
      have hi' : i = 0 ∨ i = 1 ∨ i = 2 ∨ i = 3 := by omega
      rcases hi' with rfl | rfl | rfl | rfl
      · exact cell_at ha 0 _ rfl
      · exact cell_at ha 1 _ rfl
      · exact cell_at ha 2 _ rfl
      · exact cell_at ha 3 _ rfl
    · intro i hi
      have hi' : i = 0 ∨ i = 1 ∨ i = 2 ∨ i = 3 := by omega
      rcases hi' with rfl | rfl | rfl | rfl
      · exact Mine.below ⟨_, rfl, O2'⟩ hbl
      · exact Mine.below ⟨_, rfl, O3⟩ hbl
      · exact Mine.below ⟨_, rfl, O4'⟩ hbl
      · exact Mine.below ⟨_, rfl, O5⟩ hbl
  clear O2' O3 O4' O5 B5
  obtain ⟨pa, hpa⟩ : ∃ pa, four pa2 pa3 pa4 pa5 = pa := ⟨_, rfl⟩
  obtain ⟨pn, hpn⟩ : ∃ pn, four (tkR L).length (tiR L).length (tyR L).length (ptL 5 (fun _ => L) 1).length = pn := ⟨_, rfl⟩
  obtain ⟨pc, hpc⟩ : ∃ pc, four pc2 pc3 pc4 pc5 = pc := ⟨_, rfl⟩
  obtain ⟨M, hM⟩ : ∃ M, w5.heap.size = M := ⟨_, rfl⟩
  rw [hpa, hpn, hpc, hM] at St
  clear hpa hpn hpc
  have hnl : Hid (∀ wr, OwnSt W1 wr M pa pn pc → ∀ i, i < 4 → pn i ≤ 9223372036854775807) := fun wr hS i hi => by
    obtain ⟨l', h1, h2⟩ := hS.mine i hi
    obtain ⟨h3, h4, h5⟩ := src_short h2.src
    unfold maxLen at h5
    omega
  have hwas : Hid (bs L = bs L) := rfl
  go_wp2
  go_loopw [18] (fun v18 wr => ∃ i : Nat, i ≤ 4 ∧ v18 = .int .i64 i ∧ OwnSt W1 wr M pa pn pc) (fun v18 _ => 4 - (intOf v18).toNat)
  case atStart => exact ⟨0, by omega, rfl, St.out⟩
  case round =>
    clear St
    obtain ⟨i, hi, rfl, hS⟩ := hrel
    by_cases hlt : i < 4
    · have HS : Hid (OwnSt W1 _ M pa pn pc) := hS
      have hi1 : (i : Int) < 4 := by omega
      have hi0 : (0 : Int) ≤ (i : Int) := by omega
      clear hS
      go_wp2
      go_loopw [19] (fun v19 wr => ∃ k : Nat, k ≤ pn i ∧ v19 = .int .i64 k ∧ OwnSt W1 wr M pa pn pc) (fun v19 _ => pn i - (intOf v19).toNat)
      case atStart => exact ⟨0, by omega, rfl, HS.out⟩
      case round =>
        clear HS
        obtain ⟨k, hk, rfl, hS⟩ := hrel
        have hli := hS.list i hlt
        have hn := hnl.out _ hS i hlt
        by_cases hkl : k < pn i
        · obtain ⟨g, y, hpa, hB, hc, hf, hcs⟩ := (hS.mine i hlt).form k hkl
          rw [hpa] at hli
          have HS : Hid (OwnSt W1 _ M pa pn pc) := hS
          have HB : Hid (W1.heap.size ≤ g ∧ pa i = some ⟨g, 0, none⟩) := ⟨hB, hpa⟩
          have HC : Hid (∃ cs, _ = some (Obj.cells cs 5 (0, 0))) := hcs
          have hk1 : (k : Int) < (pn i : Int) := by omega
          have hk0 : (0 : Int) ≤ (k : Int) := by omega
          clear hS hB hcs hpa
          go_wp2
          go_roundw
          case rel => exact ⟨k + 1, by omega, by go_num, HS.out.set g k x HB.out.1 HC.out⟩
          case measure => simp [intOf]; omega
        · have hkn : ¬ (k : Int) < (pn i : Int) := by omega
          have HS : Hid (OwnSt W1 _ M pa pn pc) := hS
          clear hS
          go_wp2
          go_roundw
          case rel => exact ⟨i + 1, by omega, by go_num, HS.out⟩
          case measure => simp [intOf]; omega
    · have : i = 4 := by omega
      subst this
      have q1 := (R0.out.below hS.below).string
      have HB : Hid (Below w.heap.size w _) := below_over BW.out hS.below
      clear hS
      go_wp2_with fail
      refine Calls.on_later (awake_any _) ?_
      intro y9
      go_wp2
      go_ret
      exact ⟨rfl, below_later HB.out y9⟩
end Go.Proofs.Ytmhnoggihnhenaa
