/-
  PbbOwn: what is told is new memory: the walk.
-/
import Derived.Test.YteljcgdenagcmaaBBegin
import Derived.Test.YteljcgdenagcmaaBShow
namespace Go.Proofs.Yteljcgdenagcmaa
set_option linter.unusedVariables false
set_option maxRecDepth 4000
set_option linter.unusedSimpArgs false
open Go.RowKit

/-- A slice of n bytes of its own, whatever they are. -/
def Mine (w : World) (B : Nat) (v : Value) (n : Nat) : Prop := ∃ l : List Int, l.length = n ∧ Own w B v l

theorem Mine.below {w w' : World} {B : Nat} {v : Value} {n : Nat} (h : Mine w B v n) (hb : Below w.heap.size w w') : Mine w' B v n := by
  obtain ⟨l, h1, h2⟩ := h
  exact ⟨l, h1, h2.below hb⟩

theorem Mine.set {w : World} {B : Nat} {v : Value} {n : Nat} (h : Mine w B v n) (g' j : Nat) (x : Int) : Mine (w.setCell ⟨g', j, none⟩ (.int .u8 x)) B v n := by
  obtain ⟨l, h1, h2⟩ := h
  obtain ⟨h3, h4 | ⟨g, cap, cur, rfl, hB, hg, hn, hc, hcur, ht⟩⟩ := h2
  · exact ⟨l, h1, h3, .inl h4⟩
  · by_cases e : g' = g
    · subst e
      refine ⟨l.set j x, by simpa using h1, by simp, .inr ⟨g', cap, _, by simp, hB, heap_setCell_same _ _ _ _ _ _ hg, by simpa using hn, hc, by simpa using hcur, ?_⟩⟩
      rw [Array.toList_setIfInBounds, List.take_set, List.map_set]
      simp only [List.length_set]
      rw [ht]
    · exact ⟨l, h1, h3, .inr ⟨g, cap, cur, rfl, hB, (heap_setCell_other _ _ _ _ (by simpa using fun h => e h.symm)).trans hg, hn, hc, hcur, ht⟩⟩

theorem Mine.form {w : World} {B : Nat} {a : Option Addr} {n c : Nat} (h : Mine w B (.slice a n c) n) (k : Nat) (hk : k < n) :
    ∃ g y, a = some ⟨g, 0, none⟩ ∧ B ≤ g ∧ w.cell? ⟨g, k, none⟩ = some (.int .u8 y) ∧ w.frozen? ⟨g, k, none⟩ = false ∧ ∃ cs, w.heap[g]? = some (.cells cs 5 (0, 0)) := by
  obtain ⟨l, h1, h2⟩ := h
  have hs := h2.src
  obtain ⟨h3, ⟨h4, h5⟩ | ⟨g, cap, cur, hv, hB, hg, hn, hc, hcur, ht⟩⟩ := h2
  · omega
  · cases hv
    obtain ⟨b, o, e, _, hj⟩ := src_some hs (by omega)
    cases e
    have := hj k (by omega)
    rw [Nat.zero_add] at this
    exact ⟨g, _, rfl, hB, this, by simp [World.frozen?, hg], cur, hg⟩

/-- What stands at the head of a round: what is told lies in memory of its own, the list of it is as it was, what was decoded too, and all that was there is as it was. -/
structure OwnSt (W1 wr : World) (M : Nat) (pa : Nat → Option Addr) (pn pc : Nat → Nat) (hi D : Nat) (dF : Bf) (s : Value) (R : List Int) : Prop where
  below : Below W1.heap.size W1 wr
  typ : ∃ cs, wr.heap[M]? = some (.cells cs 28 (0, 0))
  list : ∀ i, i < 4 → wr.cell? ⟨M, i, none⟩ = some (.slice (pa i) (pn i) (pc i))
  mine : ∀ i, i < 4 → Mine wr W1.heap.size (.slice (pa i) (pn i) (pc i)) (pn i)
  up : ∀ i g, i < 4 → pa i = some ⟨g, 0, none⟩ → g < hi
  dv : BfAt wr D dF s
  ds : Own wr hi s R

theorem OwnSt.set {W1 wr : World} {M : Nat} {pa : Nat → Option Addr} {pn pc : Nat → Nat} {hi D : Nat} {dF : Bf} {s : Value} {R : List Int} (h : OwnSt W1 wr M pa pn pc hi D dF s R) (g k : Nat) (x : Int) (hB : W1.heap.size ≤ g) (hu : g < hi) (hg : ∃ cs, wr.heap[g]? = some (.cells cs 5 (0, 0))) : OwnSt W1 (wr.setCell ⟨g, k, none⟩ (.int .u8 x)) M pa pn pc hi D dF s R := by
  obtain ⟨cs, hM⟩ := h.typ
  obtain ⟨cs', hg'⟩ := hg
  have hne : M ≠ g := by
    intro e
    subst e
    rw [hM] at hg'
    cases hg'
  have hnd : D ≠ g := by
    intro e
    subst e
    have := h.dv
    unfold BfAt at this
    rw [this] at hg'
    cases hg'
  exact ⟨h.below.setCell (p := ⟨g, k, none⟩) hB _, ⟨cs, (heap_setCell_other _ _ _ _ (by simpa using hne)).trans hM⟩,
    fun i hi => (World.cell?_of_block (w := wr) (heap_setCell_other wr ⟨g, k, none⟩ M _ hne)).trans (h.list i hi), fun i hi => (h.mine i hi).set _ _ _, h.up,
    h.dv.apart (a := ⟨g, k, none⟩) (by simpa using hnd) _, h.ds.of_block fun b hb => heap_setCell_other _ _ _ _ (by have := (h.ds.block b hb).1; simp; omega)⟩

/-- Four things. -/
def four {A : Type} (x y z u : A) : Nat → A
  | 0 => x
  | 1 => y
  | 2 => z
  | _ => u

theorem Own.slice {w : World} {B : Nat} {v : Value} {l : List Int} (h : Own w B v l) : ∃ a c, v = .slice a l.length c := by
  obtain ⟨a, c, e, _⟩ := h.src
  exact ⟨a, c, e⟩
theorem Own.up {w : World} {B n c g : Nat} {a : Option Addr} {l : List Int} (h : Own w B (.slice a n c) l) (ha : a = some ⟨g, 0, none⟩) : g < w.heap.size := by
  subst ha
  exact (h.block g rfl).2
theorem bencO_b {f : Bf} {l : List Int} (hf : f.ok) (hb : ∀ x ∈ l, 0 ≤ x ∧ x ≤ 255) : ∀ x ∈ bencO f l, 0 ≤ x ∧ x ≤ 255 := by
  unfold bencO
  split
  · exact benc_bytes hf hb ‹_›
  · simp
def own2 : M6 := ⟨2, 0, 0, 0, 0, 0⟩
def own4 : M6 := ⟨4, 0, 0, 0, 0, 0⟩
theorem own2_ok : own2.ok := by intro x hx; simp only [M6.l, own2, List.mem_cons, List.not_mem_nil, or_false] at hx; omega
theorem own4_ok : own4.ok := by intro x hx; simp only [M6.l, own4, List.mem_cons, List.not_mem_nil, or_false] at hx; omega

/-- The frames' variables. -/
structure Ow2 (w W : World) (f : Fr) (x : Value) (g : Bf) (z : Value) : Prop where
  fr : FrAt W w.heap.size f x
  b : BfAt W (w.heap.size + 1) g z
  below : Below w.heap.size w W
theorem Ow2.later {w W W' : World} {f : Fr} {x : Value} {g : Bf} {z : Value} (h : Ow2 w W f x g z) (hb : Below W.heap.size W W') : Ow2 w W' f x g z := ⟨h.fr.below hb, h.b.below hb, below_over h.below hb⟩

attribute [local go_sem ↓] slS_eq ldS23 ldS25 ldI27 ldS30 ldS38 stS38 stS30 stS25

set_option maxHeartbeats 4000000 in
theorem PbbOwn_walk (f : Fr) (x : Value) (l : List Int) (g : Bf) (z : Value) (m : List Int) (xb : Int) (w : World) (hf : f.ok) (hx : Src w x l) (hbx : ∀ x ∈ l, 0 ≤ x ∧ x ≤ 255) (hg : g.ok) (hz : Src w z m) (hbz : ∀ x ∈ m, 0 ≤ x ∧ x ≤ 255) (wx : (Lit.int .u8 xb).wf = true) :
    Calls Try.prog 8 #[.agg (fcs f x), .agg (bcs g z), .int .u8 xb] w fun r w' => r = .returned (.bool true) ∧ Below w.heap.size w w' := by
  clear wx
  have v0 : Ow2 w ((w.alloc (.cells (fcs f x) 38)).alloc (.cells (bcs g z) 30)) f x g z := ⟨(FrAt.new w f x).below ((Below.refl _ _).alloc (Nat.le_refl _) _), by have := BfAt.new (w.alloc (.cells (fcs f x) 38)) g z; simpa using this, ((Below.refl _ _).alloc (Nat.le_refl _) _).alloc (by simp) _⟩
  obtain ⟨V, hV⟩ : ∃ V, ((w.alloc (.cells (fcs f x) 38)).alloc (.cells (bcs g z) 30)) = V := ⟨_, rfl⟩
  rw [hV] at v0
  have ld := v0.fr.ld
  have N0 : Hid (Ow2 w V f x g z) := v0
  have H : Hid (Src w x l ∧ Src w z m ∧ f.ok ∧ g.ok) := ⟨hx, hz, hf, hg⟩
  have HB : Hid ((∀ x ∈ l.take 1510, 0 ≤ x ∧ x ≤ 255) ∧ (∀ x ∈ m.take 1510, 0 ≤ x ∧ x ≤ 255) ∧ (l.take 1510).length ≤ 1510 ∧ (m.take 1510).length ≤ 1510) := ⟨take_b hbx 1510, take_b hbz 1510, take_le l 1510, take_le m 1510⟩
  clear hf hx hbx hg hz hbz v0
  go_enter Try.func8, Try.ntmps8
  go_wp2_with fail
  clear hV
  refine (few_any f x l w _ H.out.1).mono ?_
  rintro _ w1 ⟨y1, rfl, s1, b1⟩
  obtain ⟨L, hL⟩ : ∃ L, l.take 1510 = L := ⟨_, rfl⟩
  rw [hL] at s1 HB
  obtain ⟨W1, st1, f1, b1', o1, _⟩ := (N0.out.later b1).fr.stx (w := w) (g := f) (y := y1) (src_one s1) (Nat.le_refl _) (N0.out.later b1).below
  have v1 : Ow2 w W1 f y1 g z := ⟨f1, (o1 _ (by omega)).trans (N0.out.later b1).b, b1'⟩
  have N1 : Hid (Ow2 w W1 f y1 g z ∧ Src w y1 L) := ⟨v1, s1⟩
  have l1 := v1.b.ld
  clear s1 b1 v1 N0 ld hL f1 b1' o1
  go_wp2_with fail
  refine (fewb_any g z m w _ H.out.2.1).mono ?_
  rintro _ w2 ⟨y2, rfl, s2, b2⟩
  obtain ⟨M', hM⟩ : ∃ M, m.take 1510 = M := ⟨_, rfl⟩
  rw [hM] at s2 HB
  obtain ⟨W2, st2, f2, b2', o2, _⟩ := (N1.out.1.later b2).b.stx (w := w) (g := g) (y := y2) (src_one s2) (by omega) (N1.out.1.later b2).below
  have v2 : Ow2 w W2 f y1 g y2 := ⟨(o2 _ (by omega)).trans (N1.out.1.later b2).fr, f2, b2'⟩
  obtain ⟨a2, n2, c2, rfl⟩ := src_form s2
  have N2 : Hid (Ow2 w W2 f y1 g (.slice a2 n2 c2) ∧ Src w y1 L ∧ Src w (.slice a2 n2 c2) M') := ⟨v2, N1.out.2, s2⟩
  clear s2 b2 v2 N1 l1 st1 hM f2 b2' o2
  have y16 := fun q : Later W2 => (N2.out.1.fr.below q.below).c16
  have y31 := fun q : Later W2 => (N2.out.1.b.below q.below).c31
  have q1 := fun q : Later W2 => ((N2.out.2.1.below N2.out.1.below).below q.below).string
  have q2 := fun q : Later W2 => ((N2.out.2.2.below N2.out.1.below).below q.below).string
  go_wp2
  clear st2
  refine wp_region_later (by kernel_rfl) (by kernel_rfl) ?_
  repeat (go_big_quiet_step (exact rfl))
  refine wpQuiet_nil ?_
  intro _ hw'
  obtain ⟨x0, rfl⟩ := hw'
  obtain ⟨W3, hW3⟩ : ∃ W, x0.val = W := ⟨_, rfl⟩
  have v3 := N2.out.1.later x0.below
  rw [hW3] at v3 ⊢
  have N3 : Hid (Ow2 w W3 f y1 g (.slice a2 n2 c2)) := v3
  have l3 := v3.fr.ld
  clear hW3 v3 y16 y31 q1 q2
  go_wp2_with fail
  refine (hide_any f y1 L 5 6 own2 own4 _ (N2.out.2.1.below N3.out.below) HB.out.1 H.out.2.2.1 own2_ok own4_ok (by have := HB.out.2.2.1; omega)).mono ?_
  rintro _ w4 ⟨s4, rfl, o4, b4⟩
  obtain ⟨W4, st4, F4, B4⟩ := bstore_new w4 (hdB f L 5 6 own2 own4) s4 (src_one o4.src)
  have e4 := below_over b4 B4
  have v4 := N3.out.later e4
  have N4 : Hid (Ow2 w W4 f y1 g (.slice a2 n2 c2) ∧ BfAt W4 w4.heap.size (hdB f L 5 6 own2 own4) s4 ∧ Own W4 W3.heap.size s4 (hdR f L 5 6 own2 own4) ∧ Below W3.heap.size W3 W4) := ⟨v4, F4, o4.below B4, e4⟩
  have l4 := v4.b.ld
  clear b4 o4 F4 B4 v4 e4 l3
  go_wp2_with fail
  refine (inside_any g a2 n2 c2 M' _ (N2.out.2.2.below N4.out.1.below) (by have := HB.out.2.2.2; omega)).mono ?_
  rintro _ w5 ⟨s5, rfl, o5, b5⟩
  obtain ⟨W5, st5, F5, B5⟩ := store_new w5 g.inn s5 (src_one o5.src)
  have e5 := below_over b5 B5
  have v5 := N4.out.1.later e5
  have N5 : Hid (Ow2 w W5 f y1 g (.slice a2 n2 c2) ∧ BfAt W5 w4.heap.size (hdB f L 5 6 own2 own4) s4 ∧ Own W5 W3.heap.size s4 (hdR f L 5 6 own2 own4) ∧ Below W3.heap.size W3 W5 ∧ FrAt W5 w5.heap.size g.inn s5 ∧ Own W5 W3.heap.size s5 M') := ⟨v5, N4.out.2.1.below e5, N4.out.2.2.1.below e5, below_over N4.out.2.2.2 e5, F5, (o5.base N4.out.2.2.2.size).below B5⟩
  have l5 := v5.b.ld
  clear b5 o5 F5 B5 v5 e5 l4 N4 st4
  go_wp2_with fail
  refine (show_any g _ M' 9 _ (N2.out.2.2.below N5.out.1.below) HB.out.2.1 H.out.2.2.2).mono ?_
  rintro _ w6 ⟨s6, rfl, o6, b6⟩
  obtain ⟨W6, st6, F6, B6⟩ := store_new w6 (shG g M' 9) s6 (src_one o6.src)
  have e6 := below_over b6 B6
  have v6 := N5.out.1.later e6
  have N6 : Hid (Ow2 w W6 f y1 g (.slice a2 n2 c2) ∧ BfAt W6 w4.heap.size (hdB f L 5 6 own2 own4) s4 ∧ Own W6 W3.heap.size s4 (hdR f L 5 6 own2 own4) ∧ Below W3.heap.size W3 W6 ∧ FrAt W6 w5.heap.size g.inn s5 ∧ Own W6 W3.heap.size s5 M' ∧ FrAt W6 w6.heap.size (shG g M' 9) s6 ∧ Own W6 W3.heap.size s6 (shR g M' 9)) := ⟨v6, N5.out.2.1.below e6, N5.out.2.2.1.below e6, below_over N5.out.2.2.2.1 e6, N5.out.2.2.2.2.1.below e6, N5.out.2.2.2.2.2.below e6, F6, (o6.base N5.out.2.2.2.1.size).below B6⟩
  have l6 := v6.b.ld
  clear b6 o6 F6 B6 v6 e6 l5 N5 st5
  go_wp2_with fail
  refine (bencode_any g _ M' _ (N2.out.2.2.below N6.out.1.below) HB.out.2.1 H.out.2.2.2).mono ?_
  rintro _ W7 ⟨s7, rfl, o7, e7⟩
  have N7 : Hid (Ow2 w W7 f y1 g (.slice a2 n2 c2) ∧ BfAt W7 w4.heap.size (hdB f L 5 6 own2 own4) s4 ∧ Own W7 W3.heap.size s4 (hdR f L 5 6 own2 own4) ∧ Below W3.heap.size W3 W7 ∧ FrAt W7 w5.heap.size g.inn s5 ∧ Own W7 W3.heap.size s5 M' ∧ FrAt W7 w6.heap.size (shG g M' 9) s6 ∧ Own W7 W3.heap.size s6 (shR g M' 9) ∧ Own W7 W3.heap.size s7 (bencO g M')) := ⟨N6.out.1.later e7, N6.out.2.1.below e7, N6.out.2.2.1.below e7, below_over N6.out.2.2.2.1 e7, N6.out.2.2.2.2.1.below e7, N6.out.2.2.2.2.2.1.below e7, N6.out.2.2.2.2.2.2.1.below e7, N6.out.2.2.2.2.2.2.2.below e7, o7.base N6.out.2.2.2.1.size⟩
  clear e7 o7 l6 N6 st6
  obtain ⟨P, hP⟩ : ∃ P, bencO g M' = P := ⟨_, rfl⟩
  have HP : Hid (∀ x ∈ P, 0 ≤ x ∧ x ≤ 255) := by rw [← hP]; exact bencO_b H.out.2.2.2 HB.out.2.1
  rw [hP] at N7
  clear hP
  go_wp2_with fail
  refine (bdec_any s7 P _ N7.out.2.2.2.2.2.2.2.2.src HP.out).mono ?_
  rintro _ w8 ⟨s8, rfl, o8, b8⟩
  obtain ⟨W8, st8, F8, B8⟩ := bstore_new w8 (bdF P) s8 (src_one o8.src)
  have e8 := below_over b8 B8
  obtain ⟨v7, k4, m4, bw, k5, m5, k6, m6', m7⟩ := N7.out
  have u4 : ∀ a n c g', s4 = .slice a n c → a = some ⟨g', 0, none⟩ → g' < W7.heap.size := fun a n c g' e ha => by subst e; exact m4.up ha
  have u5 : ∀ a n c g', s5 = .slice a n c → a = some ⟨g', 0, none⟩ → g' < W7.heap.size := fun a n c g' e ha => by subst e; exact m5.up ha
  have u6 : ∀ a n c g', s6 = .slice a n c → a = some ⟨g', 0, none⟩ → g' < W7.heap.size := fun a n c g' e ha => by subst e; exact m6'.up ha
  have u7 : ∀ a n c g', s7 = .slice a n c → a = some ⟨g', 0, none⟩ → g' < W7.heap.size := fun a n c g' e ha => by subst e; exact m7.up ha
  have c31d := F8.c31
  have q8 := (o8.below B8).src.string
  have c31h := (k4.below e8).c31
  have c16i := (k5.below e8).c16
  have c16s := (k6.below e8).c16
  have O4 := m4.below e8
  have O5 := m5.below e8
  have O6 := m6'.below e8
  have O7 := m7.below e8
  have O8 := o8.below B8
  have B9 := below_over bw e8
  obtain ⟨pa4, pc4, e4⟩ := O4.slice
  obtain ⟨pa5, pc5, e5⟩ := O5.slice
  obtain ⟨pa6, pc6, e6⟩ := O6.slice
  obtain ⟨pa7, pc7, e7⟩ := O7.slice
  subst e4 e5 e6 e7
  have St : Hid (OwnSt W3 (W8.alloc (.cells #[.slice pa4 (hdR f L 5 6 own2 own4).length pc4, .slice pa5 M'.length pc5, .slice pa6 (shR g M' 9).length pc6, .slice pa7 P.length pc7] 28)) W8.heap.size (four pa4 pa5 pa6 pa7) (four (hdR f L 5 6 own2 own4).length M'.length (shR g M' 9).length P.length) (four pc4 pc5 pc6 pc7) W7.heap.size w8.heap.size (bdF P) s8 (bdR P)) := by
    have ha := alloc_at W8 (.cells #[.slice pa4 (hdR f L 5 6 own2 own4).length pc4, .slice pa5 M'.length pc5, .slice pa6 (shR g M' 9).length pc6, .slice pa7 P.length pc7] 28)
    have hbl : Below W8.heap.size W8 (W8.alloc (.cells #[.slice pa4 (hdR f L 5 6 own2 own4).length pc4, .slice pa5 M'.length pc5, .slice pa6 (shR g M' 9).length pc6, .slice pa7 P.length pc7] 28)) := (Below.refl _ _).alloc (Nat.le_refl _) _
    refine ⟨below_over B9 hbl, ⟨_, ha⟩, ?_, ?_, ?_, F8.below hbl, O8.below hbl⟩
    · intro i hi
      have hi' : i = 0 ∨ i = 1 ∨ i = 2 ∨ i = 3 := by omega
      rcases hi' with rfl | rfl | rfl | rfl
      · exact cell_at ha 0 _ rfl
      · exact cell_at ha 1 _ rfl
      · exact cell_at ha 2 _ rfl
      · exact cell_at ha 3 _ rfl
    · intro i hi
      have hi' : i = 0 ∨ i = 1 ∨ i = 2 ∨ i = 3 := by omega
      rcases hi' with rfl | rfl | rfl | rfl
      · exact Mine.below ⟨_, rfl, O4⟩ hbl
      · exact Mine.below ⟨_, rfl, O5⟩ hbl
      · exact Mine.below ⟨_, rfl, O6⟩ hbl
      · exact Mine.below ⟨_, rfl, O7⟩ hbl
    · intro i g' hi hp
      have hi' : i = 0 ∨ i = 1 ∨ i = 2 ∨ i = 3 := by omega
      rcases hi' with rfl | rfl | rfl | rfl
      · exact u4 _ _ _ _ rfl hp
      · exact u5 _ _ _ _ rfl hp
      · exact u6 _ _ _ _ rfl hp
      · exact u7 _ _ _ _ rfl hp
  clear O4 O5 O6 O7 O8 B9 u4 u5 u6 u7 o8 b8 F8 B8 e8 v7 k4 m4 bw k5 m5 k6 m6' m7 N7
  obtain ⟨R4, hR4⟩ : ∃ n, (hdR f L 5 6 own2 own4).length = n := ⟨_, rfl⟩
  obtain ⟨R5, hR5⟩ : ∃ n, M'.length = n := ⟨_, rfl⟩
  obtain ⟨R6, hR6⟩ : ∃ n, (shR g M' 9).length = n := ⟨_, rfl⟩
  obtain ⟨R7, hR7⟩ : ∃ n, P.length = n := ⟨_, rfl⟩
  rw [hR4] at St c31h ⊢
  rw [hR5] at St c16i ⊢
  rw [hR6] at St c16s ⊢
  rw [hR7] at St ⊢
  obtain ⟨pa, hpa⟩ : ∃ pa, four pa4 pa5 pa6 pa7 = pa := ⟨_, rfl⟩
  obtain ⟨pn, hpn⟩ : ∃ pn, four R4 R5 R6 R7 = pn := ⟨_, rfl⟩
  obtain ⟨pc, hpc⟩ : ∃ pc, four pc4 pc5 pc6 pc7 = pc := ⟨_, rfl⟩
  obtain ⟨M, hM⟩ : ∃ M, W8.heap.size = M := ⟨_, rfl⟩
  obtain ⟨D, hD⟩ : ∃ D, w8.heap.size = D := ⟨_, rfl⟩
  rw [hpa, hpn, hpc, hM, hD] at St
  rw [hD] at st8 c31d
  clear hpa hpn hpc hR4 hR5 hR6 hR7
  have hnl : Hid (∀ wr, OwnSt W3 wr M pa pn pc W7.heap.size D (bdF P) s8 (bdR P) → ∀ i, i < 4 → pn i ≤ 9223372036854775807) := fun wr hS i hi => by
    obtain ⟨l', h1, h2⟩ := hS.mine i hi
    obtain ⟨h3, h4, h5⟩ := src_short h2.src
    unfold maxLen at h5
    omega
  go_wp2
  clear c31d q8 c31h c16i c16s st8
  go_loopw [20] (fun v20 wr => ∃ i : Nat, i ≤ 4 ∧ v20 = .int .i64 i ∧ OwnSt W3 wr M pa pn pc W7.heap.size D (bdF P) s8 (bdR P)) (fun v20 _ => 4 - (intOf v20).toNat)
  case atStart => exact ⟨0, by omega, rfl, St.out⟩
  case round =>
    clear St
    obtain ⟨i, hi, rfl, hS⟩ := hrel
    by_cases hlt : i < 4
    · have HS : Hid (OwnSt W3 _ M pa pn pc W7.heap.size D (bdF P) s8 (bdR P)) := hS
      have hi1 : (i : Int) < 4 := by omega
      have hi0 : (0 : Int) ≤ (i : Int) := by omega
      clear hS
      go_wp2
      go_loopw [21] (fun v21 wr => ∃ k : Nat, k ≤ pn i ∧ v21 = .int .i64 k ∧ OwnSt W3 wr M pa pn pc W7.heap.size D (bdF P) s8 (bdR P)) (fun v21 _ => pn i - (intOf v21).toNat)
      case atStart => exact ⟨0, by omega, rfl, HS.out⟩
      case round =>
        clear HS
        obtain ⟨k, hk, rfl, hS⟩ := hrel
        have hli := hS.list i hlt
        have hn := hnl.out _ hS i hlt
        by_cases hkl : k < pn i
        · obtain ⟨g', y, hpa, hB, hc, hf, hcs⟩ := (hS.mine i hlt).form k hkl
          rw [hpa] at hli
          have HS : Hid (OwnSt W3 _ M pa pn pc W7.heap.size D (bdF P) s8 (bdR P)) := hS
          have HB' : Hid (W3.heap.size ≤ g' ∧ pa i = some ⟨g', 0, none⟩ ∧ g' < W7.heap.size) := ⟨hB, hpa, hS.up i g' hlt hpa⟩
          have HC : Hid (∃ cs, _ = some (Obj.cells cs 5 (0, 0))) := hcs
          have hk1 : (k : Int) < (pn i : Int) := by omega
          have hk0 : (0 : Int) ≤ (k : Int) := by omega
          clear hS hB hcs hpa
          go_wp2
          go_roundw
          case rel => exact ⟨k + 1, by omega, by go_num, HS.out.set g' k xb HB'.out.1 HB'.out.2.2 HC.out⟩
          case measure => simp [intOf]; omega
        · have hkn : ¬ (k : Int) < (pn i : Int) := by omega
          have HS : Hid (OwnSt W3 _ M pa pn pc W7.heap.size D (bdF P) s8 (bdR P)) := hS
          clear hS
          go_wp2
          go_roundw
          case rel => exact ⟨i + 1, by omega, by go_num, HS.out⟩
          case measure => simp [intOf]; omega
    · have : i = 4 := by omega
      subst this
      have v9 := N3.out.later hS.below
      have q1 := (N2.out.2.1.below v9.below).string
      have q2 := (N2.out.2.2.below v9.below).string
      have q3 := hS.ds.src.string
      have t16 := v9.fr.c16
      have t31 := v9.b.c31
      have d31 := hS.dv.c31
      have HB9 : Hid (Below w.heap.size w _) := v9.below
      clear hS v9
      go_wp2_with fail
      refine Calls.on_later (awake_any _) ?_
      intro y9
      go_wp2
      go_ret
      exact ⟨rfl, below_later HB9.out y9⟩
end Go.Proofs.Yteljcgdenagcmaa
