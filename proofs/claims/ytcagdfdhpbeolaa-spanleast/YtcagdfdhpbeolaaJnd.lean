/-
  Of each node the least one to which edges come from it: the walk of joined, for every graph that may be.
-/
import Derived.Test.YtcagdfdhpbeolaaLawS
import Derived.Test.YtcagdfdhpbeolaaPFit
import Derived.Laws.MakeOwn
namespace Go.Proofs.Ytcagdfdhpbeolaa
set_option linter.unusedVariables false
set_option maxRecDepth 8000
set_option linter.unusedSimpArgs false
open Go.RowKit

/-- Numbers of nodes, in a row. -/
def jl (n : Nat) (f : Nat → Nat) : List Int := (List.range n).map fun i => (f i : Int)
theorem jl_len (n : Nat) (f : Nat → Nat) : (jl n f).length = n := by unfold jl; rw [List.length_map, List.length_range]
theorem jl_at {n i : Nat} (f : Nat → Nat) (h : i < n) : (jl n f)[i]? = some (f i : Int) := by
  unfold jl
  rw [List.getElem?_map, List.getElem?_range h]
  rfl
theorem jl_set {n i : Nat} (f : Nat → Nat) (h : i < n) (x : Nat) : (jl n f).set i (x : Int) = jl n (fun t => if t = i then x else f t) := by
  refine List.ext_getElem? fun t => ?_
  rw [List.getElem?_set]
  by_cases ht : t < n
  · rw [jl_at f ht, jl_at (fun t => if t = i then x else f t) ht]
    by_cases e : i = t
    · subst e
      rw [if_pos rfl, if_pos (by rw [jl_len]; exact h), if_pos rfl]
    · rw [if_neg e, if_neg (fun e' => e e'.symm)]
  · rw [List.getElem?_eq_none (l := jl n f) (by rw [jl_len]; omega), List.getElem?_eq_none (by rw [jl_len]; omega), if_neg (by omega)]
theorem jl_congr {n : Nat} {f g : Nat → Nat} (h : ∀ i, i < n → f i = g i) : jl n f = jl n g := by
  unfold jl
  refine List.map_congr_left fun i hi => ?_
  rw [h i (List.mem_range.1 hi)]
/-- Labels behind e edges of round k. -/
def labJ (n : Nat) (L : List Ne) (k t : Nat) : Nat → Nat := ((stepJ L).take t).foldl relax (rounds' (stepJ L) (fun i => i) k)
theorem labJ_next {n : Nat} {L : List Ne} {k t : Nat} {s : Ne} (h : (sdl L)[t]? = some s) : labJ n L k (t + 1) = relax (labJ n L k t) s.s0 := by
  unfold labJ
  have : (stepJ L)[t]? = some s.s0 := by unfold stepJ; rw [List.getElem?_map, h]; rfl
  rw [List.take_add_one, this, List.foldl_append]
  rfl
theorem labJ_round {n : Nat} {L : List Ne} {k t : Nat} (h : 2 * L.length ≤ t) : labJ n L k t = labJ n L (k + 1) 0 := by
  unfold labJ
  rw [List.take_of_length_le (by unfold stepJ; rw [List.length_map, sdl_len]; exact h)]
  rfl
theorem labJ_two {n : Nat} {L : List Ne} {k e : Nat} {x : Ne} (h : L[e]? = some x) (hne : x.a ≠ x.b) : labJ n L k (2 * (e + 1)) = fun t => if t = x.b then min (labJ n L k (2 * e) x.a) (labJ n L k (2 * e) x.b) else if t = x.a then min (labJ n L k (2 * e) x.a) (labJ n L k (2 * e) x.b) else labJ n L k (2 * e) t := by
  have h0 := sdl_at h (j := 0) (by omega)
  have h1 := sdl_at h (j := 1) (by omega)
  rw [show 2 * (e + 1) = (2 * e + 1) + 1 by omega, labJ_next h1, labJ_next h0]
  generalize labJ n L k (2 * e) = f
  funext t
  show relax (relax f (Ne.s0 x)) (Ne.s0 x.turn) t = _
  unfold relax Ne.s0 Ne.turn
  simp only
  by_cases hb : t = x.b
  · subst hb
    have hne' : ¬ x.b = x.a := fun e => hne e.symm
    simp only [hne', if_false, false_and, true_and, if_true]
    by_cases h2 : f x.b + 0 < f x.a
    · simp only [h2, if_true]
      have : ¬ (f x.b + 0 + 0 < f x.b) := by omega
      simp only [this, if_false]
      omega
    · simp only [h2, if_false]
      split <;> omega
  · simp only [hb, if_false, false_and]
    by_cases ha : t = x.a
    · subst ha
      simp only [true_and, if_true]
      split <;> omega
    · simp only [ha, if_false, false_and]
/-- A block of numbers of one's own. -/
structure JW (W0 W : World) (g n c : Nat) (f : Nat → Nat) : Prop where
  pat : PAt eI W g c (jl n f)
  low : W0.heap.size ≤ g
  bel : Below W0.heap.size W0 W
theorem JW.below {W0 W V : World} {g n c : Nat} {f : Nat → Nat} (h : JW W0 W g n c f) (k : Below W.heap.size W V) : JW W0 V g n c f := ⟨h.pat.below k, h.low, below_over h.bel k⟩
theorem JW.at' {W0 W : World} {g n c : Nat} {f : Nat → Nat} (h : JW W0 W g n c f) {i : Nat} (hi : i < n) : W.cell? ⟨g, i, none⟩ = some (.int .i64 (f i : Int)) := h.pat.cell kI (j := 0) (jl_at f hi) rfl (by show i = i * 1 + 0; omega)
theorem JW.put {W0 W : World} {g n c : Nat} {f : Nat → Nat} (h : JW W0 W g n c f) {i : Nat} (hi : i < n) (x : Nat) : ∃ V, (stS 3 (.pointer (some ⟨g, i, none⟩)) (.int .i64 (x : Int))).run Try.prog W = .ok () V ∧ JW W0 V g n c (fun t => if t = i then x else f t) ∧ W.grownBy V (some g) := by
  obtain ⟨V, h1, h2, h3⟩ := h.pat.st1 kI (i := i) (j := 0) (tv := 3) (y := (x : Int)) (v := .int .i64 (x : Int)) (q := i) (jl_at f hi) infoI (by decide) rfl (fun r => by
    match r with
    | 0 => rfl
    | r + 1 => rfl) (by show i = i * 1 + 0; omega)
  rw [jl_set f hi] at h2
  exact ⟨V, h1, ⟨h2, h.low, gro h.bel h3 h.low h.bel.size⟩, h3⟩
theorem lea {W : World} {b o n c i : Nat} {L : List Ne} {x : Ne} (h : SlAt eE W (some ⟨b, o, none⟩) n c (L.map Ne.eg)) (hx : L[i]? = some x) : W.cell? ⟨b, o + i * 6, none⟩ = some (.int .i64 (x.a : Int)) := h.cell kE (j := 0) (x := x.eg) (by rw [List.getElem?_map, hx]; rfl) rfl rfl
theorem leb {W : World} {b o n c i : Nat} {L : List Ne} {x : Ne} (h : SlAt eE W (some ⟨b, o, none⟩) n c (L.map Ne.eg)) (hx : L[i]? = some x) : W.cell? ⟨b, o + i * 6 + 2, none⟩ = some (.int .i64 (x.b : Int)) := h.cell kE (j := 2) (x := x.eg) (by rw [List.getElem?_map, hx]; rfl) rfl (by show o + i * 6 + 2 = o + (i * 6 + 2); omega)
/-- A row of noughts, made. -/
def mkS (x y : Value) : Sem Value := Instr.makeSlice 43 x y
theorem mkI (x y : Value) : Instr.makeSlice 43 x y = mkS x y := rfl
theorem infoI3 : (Try.prog.info? 3).map (fun i => (i.zero, i.size, i.bytes)) = some (some (.int .i64 0), 1, 8) := by kernel_rfl
theorem mkS_is (n : Nat) (hn : n ≤ 100) (w : World) : ∃ V, (mkS (.int .i64 (n : Int)) (.int .i64 (n : Int))).run Try.prog w = .ok (.slice (some ⟨w.heap.size, 0, none⟩) n n) V ∧ JW w V w.heap.size n n (fun _ => 0) := by
  obtain ⟨i0, hi, hz0, hz1, hz2⟩ := info_parts infoI3
  have hr := run_makeSlice (P := Try.prog) w 43 3 i0 (.int .i64 0) Try.underlying43 hi hz0 .i64 .i64 (n : Int) (n : Int) (by omega) (by omega) (by rw [hz1]; omega) (by rw [hz2]; omega) (by omega)
  refine ⟨_, hr, ⟨⟨_, RvAt.new w _ _, by rw [jl_len]; exact Nat.le_refl _, by unfold maxLen; omega, by rw [size_madeCells, hz1, Int.toNat_natCast]; rfl, ?_⟩, Nat.le_refl _, (Below.refl _ _).alloc (Nat.le_refl _) _⟩⟩
  rw [hz1, Int.toNat_natCast]
  refine fl_is kI ?_ fun t ht => ?_
  · have e : (madeCells (Value.int IntKind.i64 0).cells (n * 1)).toList.length = n * 1 := by rw [Array.length_toList, size_madeCells]
    rw [e, jl_len]
    exact Nat.le_refl _
  · rw [jl_len] at ht
    have ht' : t < n := by
      have : eI.K = 1 := rfl
      rw [this] at ht
      omega
    have e1 : t / eI.K = t := by show t / 1 = t; omega
    have e2 : t % eI.K = 0 := by show t % 1 = 0; omega
    rw [e1, e2, jl_at (fun _ => 0) ht']
    unfold madeCells
    rw [Array.getElem?_toList, Array.getElem?_map, Array.getElem?_range, if_pos (by omega)]
    simp [Value.cells, eI, Nat.mod_one]
attribute [local go_sem ↓] stI mkI
set_option maxHeartbeats 8000000 in
theorem joined_any (n : Nat) (a' : Option Addr) (n' c' : Nat) (L : List Ne) (w : World) (ht : SlAt eE w a' n' c' (L.map Ne.eg)) (hn : n ≤ 100) (hL : ∀ s ∈ sdl L, s.a < n ∧ s.b < n ∧ s.a ≠ s.b) :
    Calls Try.prog 23 #[.int .i64 (n : Int), .slice a' n' c'] w fun r w' => (∃ g c, r = .returned (.slice (some ⟨g, 0, none⟩) n c) ∧ w.heap.size ≤ g ∧ PAt eI w' g c (jl n (ptJ n L))) ∧ Below w.heap.size w w' := by
  have hmm := ht.int
  have HG : Hid (SlAt eE w a' n' c' (L.map Ne.eg) ∧ L.length = n' ∧ (∀ s ∈ sdl L, s.a < n ∧ s.b < n ∧ s.a ≠ s.b)) := ⟨ht, by rw [← ht.len, List.length_map], hL⟩
  have hnn : (n : Int) ≤ 9223372036854775807 := by omega
  have hn0 : (0 : Int) ≤ (n : Int) := by omega
  obtain ⟨V, mk, hV⟩ := mkS_is n hn w
  have H0 : Hid (JW w V w.heap.size n n (fun t => if t < 0 then t else 0)) := by
    refine ⟨?_, hV.low, hV.bel⟩
    have := hV.pat
    rwa [jl_congr (g := fun t => if t < 0 then t else 0) (fun i _ => by rw [if_neg (by omega)])] at this
  obtain ⟨g, hg⟩ : ∃ g, w.heap.size = g := ⟨_, rfl⟩
  have HGW : Hid (w.heap.size = g) := hg
  rw [hg] at H0
  simp only [hg] at mk
  clear ht hL hV
  go_enter Try.func23, Try.ntmps23
  go_wp2_with fail
  clear mk hg
  go_loopw [6] (fun v6 wr => ∃ i : Nat, i ≤ n ∧ v6 = .int .i64 i ∧ JW w wr g n n (fun t => if t < i then t else 0)) (fun v6 _ => n - (intOf v6).toNat)
  case atStart => exact ⟨0, by omega, rfl, H0.out⟩
  case round =>
    obtain ⟨i, hi, rfl, hJ⟩ := hrel
    have hi0 : (0 : Int) ≤ (i : Int) := by omega
    by_cases hit : i < n
    · have hi1 : (i : Int) < (n : Int) := by omega
      obtain ⟨V1, s1, hJ1, _⟩ := hJ.put hit i
      have Z : Hid (JW w V1 g n n (fun t => if t < i + 1 then t else 0)) := by
        refine ⟨?_, hJ1.low, hJ1.bel⟩
        have := hJ1.pat
        rwa [jl_congr (g := fun t => if t < i + 1 then t else 0) (fun t _ => by
          by_cases e : t = i
          · rw [if_pos e, if_pos (by omega), e]
          · rw [if_neg e]
            by_cases h : t < i
            · rw [if_pos h, if_pos (by omega)]
            · rw [if_neg h, if_neg (by omega)])] at this
      clear hJ hJ1
      go_wp2
      go_roundw
      case rel => exact ⟨i + 1, by omega, by go_num, Z.out⟩
      case measure => simp [intOf]; omega
    · have hin : i = n := by omega
      subst hin
      have hi1 : ¬ (i : Int) < (i : Int) := by omega
      have J0 : Hid (JW w wr g i i (labJ i L 0 0)) := by
        refine ⟨?_, hJ.low, hJ.bel⟩
        have := hJ.pat
        rwa [jl_congr (g := labJ i L 0 0) (fun t ht => by rw [if_pos ht]; rfl)] at this
      clear hJ H0
      go_wp2_with fail
      go_loopw [7] (fun v7 wx => ∃ k : Nat, k ≤ i ∧ v7 = .int .i64 k ∧ JW w wx g i i (labJ i L k 0)) (fun v7 _ => i - (intOf v7).toNat)
      case atStart => exact ⟨0, by omega, rfl, J0.out⟩
      case round =>
        obtain ⟨k, hk, rfl, hJ⟩ := hrel
        have hk0 : (0 : Int) ≤ (k : Int) := by omega
        by_cases hkt : k < i
        · have hk1 : (k : Int) < (i : Int) := by omega
          have J1 : Hid (JW w wr g i i (labJ i L k (2 * 0))) := hJ
          clear hJ J0
          go_wp2_with fail
          go_loopw [8] (fun v8 wx => ∃ e : Nat, e ≤ n' ∧ v8 = .int .i64 e ∧ JW w wx g i i (labJ i L k (2 * e))) (fun v8 _ => n' - (intOf v8).toNat)
          case atStart => exact ⟨0, by omega, rfl, J1.out⟩
          case round =>
            obtain ⟨e, he, rfl, hJ⟩ := hrel
            have he0 : (0 : Int) ≤ (e : Int) := by omega
            by_cases het : e < n'
            · have he1 : (e : Int) < (n' : Int) := by omega
              have hel : e < L.length := by rw [HG.out.2.1]; exact het
              obtain ⟨b, o, rfl⟩ := HG.out.1.some' (by omega)
              obtain ⟨x, hx⟩ := lt_nth hel
              have hsx := HG.out.2.2 x (by have := sdl_mem hx (j := 0) (by omega); exact this)
              have ha0 : (0 : Int) ≤ (x.a : Int) := by omega
              have ha1 : (x.a : Int) < (i : Int) := by omega
              have hb0 : (0 : Int) ≤ (x.b : Int) := by omega
              have hb1 : (x.b : Int) < (i : Int) := by omega
              have hbl := HG.out.1.lt kE (by omega)
              have hbg : b ≠ g := by have := hJ.low; omega
              have hSl := HG.out.1.below hJ.bel
              have ea := fun q : Later wr => lea (hSl.below q.below) hx
              have eb := fun q : Later wr => leb (hSl.below q.below) hx
              have fa := fun q : Later wr => (hJ.below q.below).at' hsx.1
              have fb := fun q : Later wr => (hJ.below q.below).at' hsx.2.1
              have hst := labJ_two (n := i) (k := k) hx hsx.2.2
              obtain ⟨f, hf⟩ : ∃ f, labJ i L k (2 * e) = f := ⟨_, rfl⟩
              rw [hf] at hJ fa fb hst
              obtain ⟨A, hA⟩ : ∃ z, f x.a = z := ⟨_, rfl⟩
              obtain ⟨B, hB⟩ : ∃ z, f x.b = z := ⟨_, rfl⟩
              rw [hA] at fa hst
              rw [hB] at fb hst
              obtain ⟨M, hM⟩ : ∃ z, min A B = z := ⟨_, rfl⟩
              rw [hM] at hst
              have D : Hid (JW w wr g i i f ∧ SlAt eE wr (some ⟨b, o, none⟩) n' c' (L.map Ne.eg) ∧ L[e]? = some x ∧ x.a < i ∧ x.b < i ∧ b ≠ g ∧ (labJ i L k (2 * (e + 1)) = fun t => if t = x.b then M else if t = x.a then M else f t)) := ⟨hJ, hSl, hx, hsx.1, hsx.2.1, hbg, hst⟩
              clear hJ hSl hx hsx hel hbl hbg hst hf hA hB J1
              have HM : Hid (min A B = M) := hM
              clear hM
              by_cases hlt : (B : Int) < (A : Int)
              · have hMB : M = B := by have := HM.out; omega
                subst hMB
                clear HM
                go_wp2_with fail
                refine wp_region_later (by kernel_rfl) (by kernel_rfl) ?_
                repeat (go_big_quiet_step (first | exact rfl))
                refine wpQuiet_nil ?_
                intro _ hw'
                obtain ⟨q, rfl⟩ := hw'
                clear ea eb fa fb
                have c1 := lea (D.out.2.1.below q.below) D.out.2.2.1
                obtain ⟨U1, s1, j1, g1⟩ := (D.out.1.below q.below).put D.out.2.2.2.1 M
                have sl1 := (D.out.2.1.below q.below).keptBut g1 (fun y e' _ e'' => by cases e'; simp only [Option.some.injEq] at e''; exact D.out.2.2.2.2.2.1 e'')
                have c2 := leb sl1 D.out.2.2.1
                obtain ⟨U2, s2, j2, g2⟩ := j1.put D.out.2.2.2.2.1 M
                have Z : Hid (JW w U2 g i i (labJ i L k (2 * (e + 1)))) := by rw [D.out.2.2.2.2.2.2]; exact j2
                clear j1 j2 g1 g2 sl1
                go_wp2
                go_roundw
                case rel => exact ⟨e + 1, by omega, by go_num, Z.out⟩
                case measure => simp [intOf]; omega
              · have hMB : M = A := by have := HM.out; omega
                subst hMB
                clear HM
                go_wp2_with fail
                refine wp_region_later (by kernel_rfl) (by kernel_rfl) ?_
                repeat (go_big_quiet_step (first | exact rfl))
                refine wpQuiet_nil ?_
                intro _ hw'
                obtain ⟨q, rfl⟩ := hw'
                clear ea eb fa fb
                have c1 := lea (D.out.2.1.below q.below) D.out.2.2.1
                obtain ⟨U1, s1, j1, g1⟩ := (D.out.1.below q.below).put D.out.2.2.2.1 M
                have sl1 := (D.out.2.1.below q.below).keptBut g1 (fun y e' _ e'' => by cases e'; simp only [Option.some.injEq] at e''; exact D.out.2.2.2.2.2.1 e'')
                have c2 := leb sl1 D.out.2.2.1
                obtain ⟨U2, s2, j2, g2⟩ := j1.put D.out.2.2.2.2.1 M
                have Z : Hid (JW w U2 g i i (labJ i L k (2 * (e + 1)))) := by rw [D.out.2.2.2.2.2.2]; exact j2
                clear j1 j2 g1 g2 sl1
                go_wp2
                go_roundw
                case rel => exact ⟨e + 1, by omega, by go_num, Z.out⟩
                case measure => simp [intOf]; omega
            · have hen : e = n' := by omega
              subst hen
              have he1 : ¬ (e : Int) < (e : Int) := by omega
              have Z : Hid (JW w wr g i i (labJ i L (k + 1) 0)) := by rw [← labJ_round (t := 2 * e) (by rw [HG.out.2.1]; exact Nat.le_refl _)]; exact hJ
              clear hJ J1
              go_wp2
              go_roundw
              case rel => exact ⟨k + 1, by omega, by go_num, Z.out⟩
              case measure => simp [intOf]; omega
        · have hki : k = i := by omega
          subst hki
          have hk1 : ¬ (k : Int) < (k : Int) := by omega
          have Z : Hid (PAt eI wr g k (jl k (ptJ k L)) ∧ w.heap.size ≤ g ∧ Below w.heap.size w wr) := ⟨hJ.pat, hJ.low, hJ.bel⟩
          clear hJ J0
          go_wp2
          go_ret
          exact ⟨⟨g, k, rfl, Z.out.2.1, Z.out.1⟩, Z.out.2.2⟩
end Go.Proofs.Ytcagdfdhpbeolaa
