/-
  The walks of Age, Flush, Gone, Behind and of what they hand to remove, for every base and every input.
-/
import Derived.Test.YtoelpbajaadfeaaRem
import Derived.Shelf.Abstract
namespace Go.Proofs.Ytoelpbajaadfeaa
set_option linter.unusedVariables false
set_option maxRecDepth 4000
set_option linter.unusedSimpArgs false
open Go.RowKit Go.Shelf

theorem beq_dec (a b : Int) : (a == b) = decide (a = b) := by by_cases h : a = b <;> simp [h]
def ageSh (age tick : Int) (x : En) : Bool := decide (x.seen + age < tick)
def flushSh (ns : List Int) (x : En) : Bool := decide (x.k.vid ∈ ns)
def goneSh (y : Ad) (x : En) : Bool := @decide (x.bm = y) (Ad.dec x.bm y)
/-- Block g begins with these numbers. -/
def IsAt (W : World) (g : Nat) (ns : List Int) : Prop := ∀ i v, ns[i]? = some v → W.cell? ⟨g, i, none⟩ = some (.int .i64 v)
set_option maxHeartbeats 1000000 in
theorem index_any (g n c : Nat) (ns : List Int) (v : Int) (w : World) (h : IsAt w g ns) (hn : ns.length = n) (hb : n ≤ 1000) (hc : n ≤ c ∧ c ≤ 1000) :
    Calls Try.prog 52 #[.slice (some ⟨g, 0, none⟩) n c, .int .i64 v] w fun r w' => ∃ i : Int, r = .returned (.int .i64 i) ∧ (0 ≤ i ↔ v ∈ ns) ∧ w' = w := by
  have H : Hid (IsAt w g ns ∧ ns.length = n ∧ n ≤ 1000) := ⟨h, hn, hb⟩
  clear h hn
  go_enter Try.func52, Try.ntmps52
  go_wp2_with fail
  go_loopw [8] (fun v8 wr => ∃ i : Nat, i ≤ n ∧ v8 = .int .i64 i ∧ (∀ j u, j < i → ns[j]? = some u → u ≠ v) ∧ wr = w) (fun v8 _ => n - (intOf v8).toNat)
  case atStart => exact ⟨0, by omega, rfl, (fun j u hj => by omega), rfl⟩
  case round =>
    obtain ⟨i, hi, rfl, hno, rfl⟩ := hrel
    by_cases hlt : i < n
    · obtain ⟨u, hu⟩ : ∃ u, ns[i]? = some u := ⟨_, List.getElem?_eq_getElem (by have := H.out.2.1; omega)⟩
      have hcell := H.out.1 i u hu
      have hlt1 : (i : Int) < (n : Int) := by omega
      have hi0 : (0 : Int) ≤ (i : Int) := by omega
      have Hno : Hid (∀ j u, j < i → ns[j]? = some u → u ≠ v) := hno
      have Hu : Hid (ns[i]? = some u) := hu
      clear hno hu
      by_cases he : v = u
      · subst he
        go_wp2
        go_ret
        exact ⟨i, rfl, ⟨fun _ => List.mem_of_getElem? Hu.out, fun _ => by omega⟩, rfl⟩
      · have he' : ¬ (v = u) := he
        go_wp2
        go_roundw
        case rel => exact ⟨i + 1, by omega, by rw [Int.natCast_add]; rfl, fun j x hj hx => by
          rcases Nat.lt_or_ge j i with h | h
          · exact Hno.out j x h hx
          · have : j = i := by omega
            subst this
            rw [Hu.out] at hx
            cases hx
            exact fun e => he' e.symm, by first | rfl | trivial⟩
        case measure => simp [intOf]; omega
    · have hin : i = n := by omega
      subst hin
      have Hno : Hid (∀ j u, j < i → ns[j]? = some u → u ≠ v) := hno
      clear hno
      go_wp2
      go_ret
      refine ⟨-1, rfl, ⟨fun h => by omega, fun h => ?_⟩, rfl⟩
      obtain ⟨j, hj, e⟩ := List.getElem_of_mem h
      exact absurd e (Hno.out j _ (by have := H.out.2.1; omega) (List.getElem?_eq_getElem hj))
set_option maxHeartbeats 1000000 in
theorem contains_any (g n c : Nat) (ns : List Int) (v : Int) (w : World) (h : IsAt w g ns) (hn : ns.length = n) (hb : n ≤ 1000) (hc : n ≤ c ∧ c ≤ 1000) :
    Calls Try.prog 39 #[.slice (some ⟨g, 0, none⟩) n c, .int .i64 v] w fun r w' => r = .returned (.bool (decide (v ∈ ns))) ∧ w' = w := by
  have I := index_any g n c ns v w h hn hb hc
  have HI : Hid (True ∧ _) := ⟨trivial, I⟩
  clear I h hn hb hc
  go_enter Try.func39, Try.ntmps39
  go_wp2_with fail
  refine HI.out.2.mono ?_
  rintro _ Y ⟨i, rfl, hi, hY⟩
  rw [hY]
  clear hY Y
  go_wp2
  go_ret
  refine ⟨ret_bool ?_, rfl⟩
  by_cases hv : v ∈ ns
  · simp [hv, hi.2 hv]
  · have : ¬ (0 ≤ i) := fun h => hv (hi.1 h)
    simp [hv, this]
attribute [local go_sem ↓] ldK stK ldM stM ldP stP
set_option maxHeartbeats 1000000 in
theorem flush1_any (x : En) (g n c : Nat) (ns : List Int) (t : Nat) (w : World) (h : w.cell? ⟨t, 0, none⟩ = some (.slice (some ⟨g, 0, none⟩) n c)) (hI : IsAt w g ns) (hg : g < w.heap.size) (hn : ns.length = n) (hb : n ≤ 1000) (hc : n ≤ c ∧ c ≤ 1000) :
    Calls Try.prog 38 #[.agg x.k.cs, .agg x.pc, .pointer (some ⟨t, 0, none⟩)] w fun r w' => r = .returned (.bool (flushSh ns x)) ∧ Below w.heap.size w w' := by
  obtain ⟨W, hW, r1, r2, bW⟩ := two_kp w x
  have ht : t < w.heap.size := World.block_lt_of_cell? w _ h
  have c0 := r1.cell 0 (.int .i64 x.k.vid) rfl
  have ct := (bW.cell (p := ⟨t, 0, none⟩) ht).trans h
  have hI' : IsAt W g ns := fun i v hv => (bW.cell (p := ⟨g, i, none⟩) hg).trans (hI i v hv)
  have C := contains_any g n c ns x.k.vid W hI' hn hb hc
  have B : Hid (Below w.heap.size w W ∧ _) := ⟨bW, C⟩
  clear r1 r2 bW h C hI hI' hn hb hc hg
  go_enter Try.func38, Try.ntmps38
  go_wp2_with fail
  refine B.out.2.mono ?_
  rintro _ Y ⟨rfl, hY⟩
  rw [hY]
  clear hY Y
  go_wp2
  go_ret
  exact ⟨rfl, B.out.1⟩
theorem eqA (x y : Ad) (w : World) : (binOp .eql 38 (.agg x.cs) (.agg y.cs)).run Try.prog w = .ok (.bool (@decide (x = y) (Ad.dec x y))) w := by
  rw [← beqA_eq]
  unfold Ad.cs beqA
  go_simp
set_option maxHeartbeats 1000000 in
theorem gone1_any (x : En) (y : Ad) (t : Nat) (w : World) (h : RvAt w t 38 y.cs) :
    Calls Try.prog 41 #[.agg x.k.cs, .agg x.pc, .pointer (some ⟨t, 0, none⟩)] w fun r w' => r = .returned (.bool (goneSh y x)) ∧ Below w.heap.size w w' := by
  obtain ⟨W, hW, r1, r2, bW⟩ := two_kp w x
  have c0 := r2.pmac
  have ct := (h.below bW).ld rtM (Ad.size _)
  have ee := eqA x.bm y
  have B : Hid (Below w.heap.size w W) := bW
  clear r1 r2 bW h
  go_enter Try.func41, Try.ntmps41
  go_wp2
  go_ret
  exact ⟨rfl, B.out⟩
set_option maxHeartbeats 1000000 in
theorem age1_any (x : En) (age tick : Int) (p s t : Nat) (w : World) (hx : x.wf) (ha : 1 ≤ age ∧ age ≤ 1048576) (h1 : w.cell? ⟨s, 0, none⟩ = some (.pointer (some ⟨p, 0, none⟩))) (h2 : w.cell? ⟨t, 0, none⟩ = some (.int .i64 tick)) (h3 : w.cell? ⟨p, 1, none⟩ = some (.int .i64 age)) :
    Calls Try.prog 40 #[.agg x.k.cs, .agg x.pc, .pointer (some ⟨s, 0, none⟩), .pointer (some ⟨t, 0, none⟩)] w fun r w' => r = .returned (.bool (ageSh age tick x)) ∧ Below w.heap.size w w' := by
  obtain ⟨W, hW, r1, r2, bW⟩ := two_kp w x
  have hs : s < w.heap.size := World.block_lt_of_cell? w _ h1
  have ht : t < w.heap.size := World.block_lt_of_cell? w _ h2
  have hp : p < w.heap.size := World.block_lt_of_cell? w _ h3
  have c2 := fun q : Later W => (r2.below q.below).cell 6 (.int .i64 x.seen) rfl
  have d1 := fun q : Later W => ((below_over bW q.below).cell (p := ⟨s, 0, none⟩) hs).trans h1
  have d2 := fun q : Later W => ((below_over bW q.below).cell (p := ⟨t, 0, none⟩) ht).trans h2
  have d3 := fun q : Later W => ((below_over bW q.below).cell (p := ⟨p, 1, none⟩) hp).trans h3
  have B : Hid (Below w.heap.size w W) := bW
  have hse := hx.seen
  have hw : IntKind.i64.wrap (x.seen + age) = x.seen + age := IntWalk.i64_in _ (by omega)
  clear r1 r2 bW h1 h2 h3 hs ht hp
  go_enter Try.func40, Try.ntmps40
  go_wp2_with fail
  refine wp_region_later (by kernel_rfl) (by kernel_rfl) ?_
  repeat (go_big_quiet_step (first | exact rfl))
  refine wpQuiet_nil ?_
  intro _ hw'
  obtain ⟨q, rfl⟩ := hw'
  go_wp2
  go_ret
  exact ⟨rfl, below_later B.out q⟩
/-- What is left, and how many are gone. -/
def remS (l : List En) (sh : En → Bool) : List En × Int := (l.filter (fun x => !sh x), (l.length : Int) - ((l.filter (fun x => !sh x)).length : Int))
set_option maxHeartbeats 1000000 in
theorem flush_any (p b : Nat) (c : Cf) (l : List En) (g n k : Nat) (ns : List Int) (w : World) (h : Db w p b c l) (hI : IsAt w g ns) (hg : g < w.heap.size) (hgb : g ≠ b) (hn : ns.length = n) (hb : n ≤ 1000) (hc : n ≤ k ∧ k ≤ 1000) :
    Calls Try.prog 18 #[.pointer (some ⟨p, 0, none⟩), .slice (some ⟨g, 0, none⟩) n k] w fun r w' => r = .returned (.int .i64 (remS l (flushSh ns)).2) ∧ Db w' p b c (remS l (flushSh ns)).1 ∧ w.grownBy w' (some b) := by
  obtain ⟨W, hW⟩ : ∃ W, w.alloc (.cells #[.slice (some ⟨g, 0, none⟩) n k] 43) = W := ⟨_, rfl⟩
  have bW : Below w.heap.size w W := by rw [← hW]; exact (Below.refl _ _).alloc (Nat.le_refl _) _
  have ct : W.cell? ⟨w.heap.size, 0, none⟩ = some (.slice (some ⟨g, 0, none⟩) n k) := by rw [← hW]; exact cell_new _ _ _
  have hb' := h.lt.2
  have hI' : IsAt W g ns := fun i v hv => (bW.cell (p := ⟨g, i, none⟩) hg).trans (hI i v hv)
  have hgW : g < W.heap.size := Nat.lt_of_lt_of_le hg bW.size
  have R := remove_any 38 #[.pointer (some ⟨w.heap.size, 0, none⟩)] (enters_of Try.func38 (by kernel_rfl) rfl) (flushSh ns) p b c l W (h.below bW) (fun x hx W' gr => flush1_any x g n k ns w.heap.size W' (gr.cell ct (by simp; omega)) (fun i v hv => gr.cell (hI' i v hv) (by simp; exact hgb)) (Nat.lt_of_lt_of_le hgW gr.size) hn hb hc)
  have HR : Hid (Below w.heap.size w W ∧ _) := ⟨bW, R⟩
  clear R bW ct hb hb' h hI hI' hg hgW hgb hn hc
  go_enter Try.func18, Try.ntmps18
  go_wp2_with fail
  refine (HR.out.2).mono ?_
  rintro _ W2 ⟨rfl, d2, g2⟩
  have G : Hid (Db W2 p b c (remS l (flushSh ns)).1 ∧ w.grownBy W2 (some b)) := ⟨d2, (grown_of_below HR.out.1 _).andThen g2 (fun j e => .inr e)⟩
  clear d2 g2 HR hW
  go_wp2
  go_ret
  exact ⟨rfl, G.out.1, G.out.2⟩
set_option maxHeartbeats 1000000 in
theorem gone_any (p b : Nat) (c : Cf) (l : List En) (y : Ad) (w : World) (h : Db w p b c l) :
    Calls Try.prog 22 #[.pointer (some ⟨p, 0, none⟩), .agg y.cs] w fun r w' => r = .returned (.int .i64 (remS l (goneSh y)).2) ∧ Db w' p b c (remS l (goneSh y)).1 ∧ w.grownBy w' (some b) := by
  obtain ⟨W, hW⟩ : ∃ W, w.alloc (.cells y.cs 38) = W := ⟨_, rfl⟩
  have bW : Below w.heap.size w W := by rw [← hW]; exact (Below.refl _ _).alloc (Nat.le_refl _) _
  have ct : RvAt W w.heap.size 38 y.cs := by rw [← hW]; exact RvAt.new _ _ _
  have hb := h.lt.2
  have R := remove_any 41 #[.pointer (some ⟨w.heap.size, 0, none⟩)] (enters_of Try.func41 (by kernel_rfl) rfl) (goneSh y) p b c l W (h.below bW) (fun x hx W' gr => gone1_any x y w.heap.size W' ((gr.block _ ct.lt (by simp; omega)).trans ct))
  have HR : Hid (Below w.heap.size w W ∧ _) := ⟨bW, R⟩
  clear R bW ct hb h
  go_enter Try.func22, Try.ntmps22
  go_wp2_with fail
  refine (HR.out.2).mono ?_
  rintro _ W2 ⟨rfl, d2, g2⟩
  have G : Hid (Db W2 p b c (remS l (goneSh y)).1 ∧ w.grownBy W2 (some b)) := ⟨d2, (grown_of_below HR.out.1 _).andThen g2 (fun j e => .inr e)⟩
  clear d2 g2 HR hW
  go_wp2
  go_ret
  exact ⟨rfl, G.out.1, G.out.2⟩
set_option maxHeartbeats 1000000 in
theorem age_any (p b : Nat) (c : Cf) (l : List En) (tick : Int) (w : World) (h : Db w p b c l) :
    Calls Try.prog 20 #[.pointer (some ⟨p, 0, none⟩), .int .i64 tick] w fun r w' => r = .returned (.int .i64 (remS l (ageSh c.age tick)).2) ∧ Db w' p b c (remS l (ageSh c.age tick)).1 ∧ w.grownBy w' (some b) := by
  obtain ⟨W, hW⟩ : ∃ W, (w.alloc (.cells #[.pointer (some ⟨p, 0, none⟩)] 23)).alloc (.cells #[.int .i64 tick] 3) = W := ⟨_, rfl⟩
  have bW : Below w.heap.size w W := by rw [← hW]; exact ((Below.refl _ _).alloc (Nat.le_refl _) _).alloc (by simp) _
  have ct : W.cell? ⟨w.heap.size + 1, 0, none⟩ = some (.int .i64 tick) := by
    rw [← hW]
    simp
  have cs : W.cell? ⟨w.heap.size, 0, none⟩ = some (.pointer (some ⟨p, 0, none⟩)) := by
    rw [← hW]
    exact (((Below.refl _ (w.alloc (.cells #[.pointer (some ⟨p, 0, none⟩)] 23))).alloc (Nat.le_refl _) (.cells #[.int .i64 tick] 3)).cell (p := ⟨w.heap.size, 0, none⟩) (by simp)).trans (cell_new _ _ _)
  have hb := h.lt.2
  have hne := h.ne
  have R := remove_any 40 #[.pointer (some ⟨w.heap.size, 0, none⟩), .pointer (some ⟨w.heap.size + 1, 0, none⟩)] (enters_of Try.func40 (by kernel_rfl) rfl) (ageSh c.age tick) p b c l W (h.below bW)
    (fun x hx W' g => age1_any x c.age tick p w.heap.size (w.heap.size + 1) W' (h.map.2.1 x hx) h.wf.age (g.cell cs (by simp; omega)) (g.cell ct (by simp; omega)) (g.cell (h.below bW).c2 (by simp; exact hne)))
  have HR : Hid (Below w.heap.size w W ∧ _) := ⟨bW, R⟩
  clear R bW ct hb h hne
  go_enter Try.func20, Try.ntmps20
  go_wp2_with fail
  refine (HR.out.2).mono ?_
  rintro _ W2 ⟨rfl, d2, g2⟩
  have G : Hid (Db W2 p b c (remS l (ageSh c.age tick)).1 ∧ w.grownBy W2 (some b)) := ⟨d2, (grown_of_below HR.out.1 _).andThen g2 (fun j e => .inr e)⟩
  clear d2 g2 HR hW cs
  go_wp2
  go_ret
  exact ⟨rfl, G.out.1, G.out.2⟩
/-- How many lie behind an address. -/
def behS (l : List En) (y : Ad) : Int := ((l.filter (goneSh y)).length : Int)
theorem beh_round {l todo : List En} {x : En} (hs : Srt l) (ht : Srt todo) (hx : x ∈ todo) (hsub : ∀ z ∈ todo, z ∈ l) (y : Ad) :
    ((l.filter (fun z => goneSh y z && !(decide (z.rk ∈ (del todo x.rk).map En.rk)))).length : Int) = ((l.filter (fun z => goneSh y z && !(decide (z.rk ∈ todo.map En.rk)))).length : Int) + if goneSh y x then 1 else 0 := by
  have hxl := hsub x hx
  have key : ∀ z ∈ l, (z.rk ∈ (del todo x.rk).map En.rk ↔ z.rk ∈ todo.map En.rk ∧ z ≠ x) := by
    intro z hz
    constructor
    · intro h
      obtain ⟨u, hu, e⟩ := List.mem_map.1 h
      obtain ⟨hu1, hu2⟩ := mem_del.1 hu
      exact ⟨List.mem_map.2 ⟨u, hu1, e⟩, fun e2 => hu2 (by rw [e, e2])⟩
    · rintro ⟨h, hne⟩
      obtain ⟨u, hu, e⟩ := List.mem_map.1 h
      refine List.mem_map.2 ⟨u, mem_del.2 ⟨hu, fun e2 => hne ?_⟩, e⟩
      exact hs.inj hz hxl (by rw [← e, e2])
  have hxt : x.rk ∈ todo.map En.rk := List.mem_map.2 ⟨x, hx, rfl⟩
  clear hx ht hsub
  generalize todo.map En.rk = T at key hxt ⊢
  generalize (del todo x.rk).map En.rk = T' at key ⊢
  induction l with
  | nil => cases hxl
  | cons z r ih =>
    obtain ⟨h1, h2⟩ := List.pairwise_cons.1 hs
    have kz := key z (by simp)
    rcases List.mem_cons.1 hxl with e | hxr
    · subst e
      have hr : r.filter (fun z => goneSh y z && !(decide (z.rk ∈ T'))) = r.filter (fun z => goneSh y z && !(decide (z.rk ∈ T))) := by
        refine List.filter_congr (fun u hu => ?_)
        have hne : u ≠ x := fun e => by have := h1 u hu; rw [e] at this; omega
        have := key u (List.mem_cons_of_mem _ hu)
        by_cases hT : u.rk ∈ T
        · simp [hT, this.2 ⟨hT, hne⟩]
        · have hT' : u.rk ∉ T' := fun h => hT (this.1 h).1
          simp [hT, hT']
      have hn : x.rk ∉ T' := fun h => (kz.1 h).2 rfl
      rw [List.filter_cons, List.filter_cons, hr]
      cases hg : goneSh y x <;> simp [hn, hxt]
    · have hne : z ≠ x := fun e => by have := h1 x hxr; rw [e] at this; omega
      have ih' := ih h2 hxr (fun u hu => key u (List.mem_cons_of_mem _ hu))
      rw [List.filter_cons, List.filter_cons]
      by_cases hT : z.rk ∈ T
      · have := kz.2 ⟨hT, hne⟩
        simp only [hT, this, decide_true, Bool.not_true, Bool.and_false, Bool.false_eq_true, if_false]
        exact ih'
      · have hT' : z.rk ∉ T' := fun h => hT (kz.1 h).1
        simp only [hT, hT', decide_false, Bool.not_false, Bool.and_true]
        cases hg : goneSh y z
        · simpa using ih'
        · simp only [if_true, List.length_cons, Int.natCast_add]
          omega
/-- How many of those that have come lie behind it. -/
def behT (l todo : List En) (y : Ad) : Int := ((l.filter (fun z => goneSh y z && !(decide (z.rk ∈ todo.map En.rk)))).length : Int)
theorem behT_start (l : List En) (y : Ad) : behT l l y = 0 := by
  unfold behT
  rw [List.filter_eq_nil_iff.2 (fun z hz => by simp only [List.mem_map.2 ⟨z, hz, rfl⟩]; simp)]
  rfl
theorem behT_done (l : List En) (y : Ad) : behT l [] y = behS l y := by simp [behT, behS]
theorem behT_le (l todo : List En) (y : Ad) : 0 ≤ behT l todo y ∧ behT l todo y ≤ l.length := by
  unfold behT
  have := List.length_filter_le (fun z => goneSh y z && !(decide (z.rk ∈ todo.map En.rk))) l
  omega
theorem p_new (W : World) (x : En) : ∃ W', (stS 76 (.pointer (some ⟨W.heap.size, 0, none⟩)) (.agg x.pc)).run Try.prog (W.alloc (.cells #[.int .u8 0, .int .u8 0, .int .u8 0, .int .u8 0, .int .u8 0, .int .u8 0, .int .i64 0] 76)) = .ok () W' ∧ RvAt W' W.heap.size 76 x.pc ∧ Below W.heap.size W W' ∧ W'.heap.size = W.heap.size + 1 :=
  row_new rtP W #[.int .u8 0, .int .u8 0, .int .u8 0, .int .u8 0, .int .u8 0, .int .u8 0, .int .i64 0] x.pc rfl (En.psize _) (En.pone _)
set_option maxHeartbeats 2000000 in
theorem behind_any (p b : Nat) (c : Cf) (l : List En) (y : Ad) (w : World) (h : Db w p b c l) :
    Calls Try.prog 21 #[.pointer (some ⟨p, 0, none⟩), .agg y.cs] w fun r w' => r = .returned (.int .i64 (behS l y)) ∧ Below w.heap.size w w' := by
  obtain ⟨W, hW⟩ : ∃ W, w.alloc (.cells y.cs 38) = W := ⟨_, rfl⟩
  have bW : Below w.heap.size w W := by rw [← hW]; exact (Below.refl _ _).alloc (Nat.le_refl _) _
  have ct : RvAt W w.heap.size 38 y.cs := by rw [← hW]; exact RvAt.new _ _ _
  have zW : W.heap.size = w.heap.size + 1 := by rw [← hW]; simp
  have c3 := (h.below bW).c3
  obtain ⟨W1, hr1, hR, bR, zR⟩ := (h.below bW).map.range
  have hlen : (l.length : Int) ≤ 256 := by have := h.len; have := h.wf.room; omega
  have H : Hid (MapIs w b l ∧ RvAt W1 w.heap.size 38 y.cs ∧ RgIs W1 b W.heap.size l l ∧ Below w.heap.size w W1 ∧ W.heap.size = w.heap.size + 1 ∧ b < w.heap.size) := ⟨h.map, ct.below bR, hR, below_over bW bR, zW, h.lt.2⟩
  clear h bW ct zW hR bR zR
  go_enter Try.func21, Try.ntmps21
  go_wp2_with fail
  refine (made_any p _ _ c3).mono ?_
  rintro _ Y ⟨rfl, hY⟩
  rw [hY]
  clear hY Y
  simp only [Option.isSome_some]
  go_wp2_with fail
  clear hr1 c3 hW
  obtain ⟨rb, hrb⟩ : ∃ rb, rb = W.heap.size := ⟨_, rfl⟩
  rw [← hrb] at H ⊢
  clear hrb
  go_loopw [5] (fun v5 wr => ∃ (todo : List En), v5 = .int .i64 (behT l todo y) ∧ RgIs wr b rb l todo ∧ RvAt wr w.heap.size 38 y.cs ∧ Below w.heap.size w wr) (fun _ wr => wr.rangeLeft b rb)
  case atStart => exact ⟨l, by rw [behT_start], H.out.2.2.1, H.out.2.1, H.out.2.2.2.1⟩
  case round =>
    obtain ⟨todo, rfl, hR, q1, hB⟩ := hrel
    rcases hR.next 0 with ⟨rfl, hn⟩ | ⟨x, Wn, hx, hn, hR1, hlt, hg1, hz1, hen⟩
    · rw [behT_done]
      have B : Hid (Below w.heap.size w wr) := hB
      clear hR q1 hB
      go_wp2
      go_ret
      exact ⟨rfl, B.out⟩
    · obtain ⟨Wb, sb, ra, bb, zb⟩ := p_new Wn x
      have hrb := H.out.2.2.2.2.1
      have q1n : RvAt Wn w.heap.size 38 y.cs := (hg1.block _ q1.lt (by intro e; cases e; omega)).trans q1
      have hBn : Below w.heap.size w Wn := hB.trans (below_of_grown hg1 hB.size (fun j e => by cases e; omega))
      have hRb := hR1.kept (grown_of_below bb none) (by simp) (by simp)
      have lp := ra.pmac
      have ly := (q1n.below bb).ld rtM (Ad.size _)
      have ee := eqA x.bm y
      have G : Hid (RgIs Wb b rb l (del todo x.rk) ∧ Wb.rangeLeft b rb < wr.rangeLeft b rb ∧ RvAt Wb w.heap.size 38 y.cs ∧ Below w.heap.size w Wb ∧ behT l (del todo x.rk) y = behT l todo y + if goneSh y x then 1 else 0) :=
        ⟨hRb.1, by rw [hRb.2]; exact hlt, q1n.below bb, below_over hBn bb, beh_round H.out.1.1 hR.2.2.1 hx hR.2.2.2.1 y⟩
      have hle := behT_le l todo y
      have hw : IntKind.i64.wrap (behT l todo y + 1) = behT l todo y + 1 := IntWalk.i64_in _ (by omega)
      clear hR hR1 hlt hg1 hz1 q1 q1n hB hBn bb zb ra hRb hrb hx
      by_cases he : x.bm = y
      · have hG : Hid (behT l (del todo x.rk) y = behT l todo y + 1) := by have := G.out.2.2.2.2; simp only [goneSh, he, decide_true, if_true] at this; exact this
        simp only [he, decide_true] at ee
        go_wp2
        go_roundw
        case rel => exact ⟨_, by rw [hG.out], G.out.1, G.out.2.2.1, G.out.2.2.2.1⟩
        case measure => exact G.out.2.1
      · have hG : Hid (behT l (del todo x.rk) y = behT l todo y) := by have := G.out.2.2.2.2; simp only [goneSh, he, decide_false, Bool.false_eq_true, if_false, Int.add_zero] at this; exact this
        simp only [he, decide_false] at ee
        go_wp2
        go_roundw
        case rel => exact ⟨_, by rw [hG.out], G.out.1, G.out.2.2.1, G.out.2.2.2.1⟩
        case measure => exact G.out.2.1
end Go.Proofs.Ytoelpbajaadfeaa
