/-
  Which graphs may be: the walks of sharedAddress, of the look through all edges, of sharedPort, each for every input.
-/
import Derived.Test.YtcagdfdhpbeolaaIdx
namespace Go.Proofs.Ytcagdfdhpbeolaa
set_option linter.unusedVariables false
set_option maxRecDepth 4000
set_option linter.unusedSimpArgs false
open Go.RowKit

theorem ldu {W : World} {b o n c i : Nat} {l : List Nat} {x : Nat} (h : SlAt eU W (some ⟨b, o, none⟩) n c l) (hx : l[i]? = some x) : W.cell? ⟨b, o + i, none⟩ = some (.int .u64 (x : Int)) := h.cell kU (j := 0) hx rfl (by show o + i = o + (i * 1 + 0); omega)
theorem address_adr (n : Nat) (w : World) (hn : n < 18446744073709551616) : Calls Try.prog 44 #[.int .u64 (n : Int)] w fun r w' => r = .returned (.agg (adr (n : Int))) ∧ Below w.heap.size w w' := address_any n w (by omega)
theorem AvAt.put (W : World) (x : Int) : ∃ V, (stS 93 (.pointer (some ⟨W.heap.size, 0, none⟩)) (.agg (adr x))).run Try.prog (W.alloc (.cells #[.int .u8 0, .int .u8 0, .int .u8 0, .int .u8 0, .int .u8 0, .int .u8 0] 93)) = .ok () V ∧ RvAt V W.heap.size 93 (adr x) ∧ Below W.heap.size W V := by
  obtain ⟨V, h1, h2, h3, _⟩ := row_new rtA W #[.int .u8 0, .int .u8 0, .int .u8 0, .int .u8 0, .int .u8 0, .int .u8 0] (adr x) rfl rfl (one_of rfl)
  exact ⟨V, h1, h2, h3⟩
/-- The numbers of bridges, as they are held against each other. -/
def asI (l : List Nat) : List Int := l.map fun n : Nat => (n : Int)
theorem asI_at {l : List Nat} {i x : Nat} (h : l[i]? = some x) : (asI l)[i]? = some (x : Int) := by unfold asI; rw [List.getElem?_map, h]; rfl
theorem asI_next {l : List Nat} {i x : Nat} (h : l[i]? = some x) : (asI l).take (i + 1) = (asI l).take i ++ [(x : Int)] := by
  rw [List.take_add_one, asI_at h]
  rfl
attribute [local go_sem ↓] ldA stA ldP stP ldE stE apA apP bsA bsP
set_option maxHeartbeats 2000000 in
theorem sharedA_any (a : Option Addr) (n c : Nat) (l : List Nat) (w : World) (hs : SlAt eU w a n c l) (hl : ∀ x ∈ l, x < 18446744073709551616) (hn : n ≤ 100) :
    Calls Try.prog 31 #[.slice a n c] w fun r w' => r = .returned (.bool (dup sameA (asI l))) ∧ Below w.heap.size w w' := by
  have hnn := hs.int
  have H : Hid (SlAt eU w a n c l ∧ l.length = n ∧ (∀ x ∈ l, x < 18446744073709551616)) := ⟨hs, hs.len, hl⟩
  clear hs hl
  go_enter Try.func31, Try.ntmps31
  go_wp2_with fail
  go_loopw [3, 9] (fun v3 v9 wr => ∃ i : Nat, i ≤ n ∧ v9 = .int .i64 i ∧ Own eA wr w.heap.size v3 ((asI l).take i) ∧ (∀ j x, j < i → (asI l)[j]? = some x → ((asI l).take j).any (fun y => sameA x y) = false) ∧ Below w.heap.size w wr) (fun _ v9 _ => n - (intOf v9).toNat)
  case atStart => exact ⟨0, by omega, rfl, Own.nil _ _, fun j x hj => by omega, Below.refl _ _⟩
  case round =>
    obtain ⟨i, hi, rfl, hO, hlow, hB⟩ := hrel
    have hi0 : (0 : Int) ≤ (i : Int) := by omega
    by_cases hit : i < n
    · have hi1 : (i : Int) < (n : Int) := by omega
      have hil : i < l.length := by rw [H.out.2.1]; exact hit
      obtain ⟨b, o, rfl⟩ := H.out.1.some' (by omega)
      obtain ⟨x, hx⟩ : ∃ x, l[i]? = some x := ⟨_, List.getElem?_eq_getElem hil⟩
      have hxm := H.out.2.2 x (List.mem_of_getElem? hx)
      have c0 := ldu (H.out.1.below hB) hx
      obtain ⟨sa, cs, rfl, hS, _⟩ := hO.form
      have hlen : ((asI l).take i).length = i := by rw [List.length_take]; unfold asI; rw [List.length_map]; omega
      rw [hlen] at hS hO
      have J : Hid (Own eA wr w.heap.size (.slice sa i cs) ((asI l).take i) ∧ (∀ j x, j < i → (asI l)[j]? = some x → ((asI l).take j).any (fun y => sameA x y) = false) ∧ Below w.heap.size w wr ∧ SlAt eA wr sa i cs ((asI l).take i) ∧ l[i]? = some x ∧ ((asI l).take i).length = i) := ⟨hO, hlow, hB, hS, hx, hlen⟩
      rw [hlen]
      clear hO hlow hB hS hx hil hlen
      go_wp2_with fail
      refine (address_adr x wr hxm).mono ?_
      rintro _ W1 ⟨rfl, b1⟩
      obtain ⟨V, sV, rV, bV⟩ := AvAt.put W1 (x : Int)
      have lv := rV.ld rtA rfl
      have G : Hid (Below wr.heap.size wr V ∧ RvAt V W1.heap.size 93 (adr x)) := ⟨below_over b1 bV, rV⟩
      clear b1 bV rV
      go_wp2_with fail
      refine (containsA_any sa i cs _ (x : Int) V (J.out.2.2.2.1.below G.out.1)).mono ?_
      rintro _ V1 ⟨rfl, b1⟩
      have lv1 := (G.out.2.below b1).ld rtA rfl
      have G1 : Hid (Below wr.heap.size wr V1) := below_over G.out.1 b1
      cases hq : ((asI l).take i).any (fun z => sameA (x : Int) z)
      · have NX : Hid (∀ j x, j < i + 1 → (asI l)[j]? = some x → ((asI l).take j).any (fun y => sameA x y) = false) := fun j z hj hz => by
          by_cases e : j = i
          · subst e
            rw [asI_at J.out.2.2.2.2.1] at hz
            cases hz
            exact hq
          · exact J.out.2.1 j z (by omega) hz
        have bs := bsA_is (x : Int) V1
        obtain ⟨v', Y, ap, o2, b2⟩ := nA (J.out.1.below G1.out) (Nat.le_trans J.out.2.2.1.size G1.out.size) (by rw [J.out.2.2.2.2.2]; omega) (x : Int)
        have Z : Hid (Own eA Y w.heap.size v' ((asI l).take (i + 1)) ∧ Below w.heap.size w Y) := ⟨by rw [asI_next J.out.2.2.2.2.1]; exact o2, (below_over J.out.2.2.1 G1.out).trans b2⟩
        clear o2 b2 b1
        go_wp2
        go_roundw
        case rel => exact ⟨i + 1, by omega, by go_num, Z.out.1, NX.out, Z.out.2⟩
        case measure => simp [intOf]; omega
      · have YS : Hid (dup sameA (asI l) = true) := dup_yes (asI_at J.out.2.2.2.2.1) hq
        clear b1
        go_wp2
        go_ret
        exact ⟨by rw [YS.out]; rfl, below_over J.out.2.2.1 G1.out⟩
    · have hin : i = n := by omega
      subst hin
      have hi1 : ¬ (i : Int) < (i : Int) := by omega
      have NO : Hid (dup sameA (asI l) = false ∧ Below w.heap.size w wr) := ⟨dup_no fun j z hz => hlow j z (by
        have := (List.getElem?_eq_some_iff.1 hz).1
        unfold asI at this
        rw [List.length_map, H.out.2.1] at this
        exact this) hz, hB⟩
      clear hlow hB hO
      go_wp2
      go_ret
      exact ⟨by rw [NO.out.1]; rfl, NO.out.2⟩
set_option maxHeartbeats 2000000 in
theorem closed_any (x : Eg) (vb : Nat) (a : Option Addr) (n c : Nat) (w : World) (hv : w.cell? ⟨vb, 0, none⟩ = some (.slice a n c)) (hn : n ≤ 100) :
    Calls Try.prog 33 #[.agg x.cs, .pointer (some ⟨vb, 0, none⟩)] w fun r w' => r = .returned (.bool (wrongE n x)) ∧ Below w.heap.size w w' := by
  obtain ⟨W, hW, r0, bW, zW⟩ := EvAt.new w x
  have l0 := r0.ld
  have hvl : vb < w.heap.size := World.block_lt_of_cell? w _ hv
  have cv : W.cell? ⟨vb, 0, none⟩ = some (.slice a n c) := (bW.cell (p := ⟨vb, 0, none⟩) hvl).trans hv
  have hnn : (n : Int) ≤ 9223372036854775807 := by omega
  have H : Hid (Below w.heap.size w W) := bW
  clear r0 bW zW hv
  go_enter Try.func33, Try.ntmps33
  go_wp2_with fail
  refine (wrong_any x n W (by omega)).mono ?_
  rintro _ W1 ⟨rfl, b1⟩
  go_wp2
  go_ret
  exact ⟨rfl, below_over H.out b1⟩
set_option maxHeartbeats 4000000 in
theorem indexE_any (a : Option Addr) (n c : Nat) (l : List Eg) (vb : Nat) (av : Option Addr) (nv cv : Nat) (w : World) (hs : SlAt eE w a n c l) (hv : w.cell? ⟨vb, 0, none⟩ = some (.slice av nv cv)) (hn : nv ≤ 100) :
    Calls Try.prog 46 #[.slice a n c, .func (.func 33) #[] #[.pointer (some ⟨vb, 0, none⟩)]] w fun r w' => (∃ j : Int, r = .returned (.int .i64 j) ∧ (decide (0 ≤ j) = l.any (wrongE nv))) ∧ Below w.heap.size w w' := by
  have hnn := hs.int
  have hvl : vb < w.heap.size := World.block_lt_of_cell? w _ hv
  have H : Hid (SlAt eE w a n c l ∧ l.length = n ∧ w.cell? ⟨vb, 0, none⟩ = some (.slice av nv cv) ∧ vb < w.heap.size ∧ nv ≤ 100) := ⟨hs, hs.len, hv, hvl, hn⟩
  clear hs hv hvl hn
  go_enter Try.func46, Try.ntmps46
  go_wp2_with fail
  go_loopw [8] (fun v8 wr => ∃ i : Nat, i ≤ n ∧ v8 = .int .i64 i ∧ (∀ j x, j < i → l[j]? = some x → wrongE nv x = false) ∧ Below w.heap.size w wr) (fun v8 _ => n - (intOf v8).toNat)
  case atStart => exact ⟨0, by omega, rfl, fun j x hj => by omega, Below.refl _ _⟩
  case round =>
    obtain ⟨i, hi, rfl, ht, hB⟩ := hrel
    have J : Hid ((∀ j x, j < i → l[j]? = some x → wrongE nv x = false) ∧ Below w.heap.size w wr) := ⟨ht, hB⟩
    have hin0 : (0 : Int) ≤ (i : Int) := by omega
    by_cases hit : i < n
    · have hin1 : (i : Int) < (n : Int) := by omega
      have hl : i < l.length := by rw [H.out.2.1]; exact hit
      obtain ⟨b, o, rfl⟩ := H.out.1.some' (by omega)
      obtain ⟨x, hx⟩ : ∃ x, l[i]? = some x := ⟨_, List.getElem?_eq_getElem hl⟩
      have lp := lde (H.out.1.below hB) hx
      have E : Hid (l[i]? = some x) := hx
      clear ht hB hl hx
      go_wp2_with fail
      refine (closed_any x vb av nv cv wr ((J.out.2.cell (p := ⟨vb, 0, none⟩) H.out.2.2.2.1).trans H.out.2.2.1) H.out.2.2.2.2).mono ?_
      rintro _ V ⟨rfl, bV⟩
      cases hb : wrongE nv x
      · have N : Hid (∀ j x, j < i + 1 → l[j]? = some x → wrongE nv x = false) := fun j z hj hz => by
          by_cases hji : j = i
          · subst hji
            rw [E.out] at hz
            cases hz
            exact hb
          · exact J.out.1 j z (by omega) hz
        clear lp hb
        go_wp2
        go_roundw
        case rel => exact ⟨i + 1, by omega, by go_num, N.out, below_over J.out.2 bV⟩
        case measure => simp [intOf]; omega
      · have N : Hid (l.any (wrongE nv) = true) := any_take_yes E.out hb
        clear lp hb
        go_wp2
        go_ret
        exact ⟨⟨(i : Int), rfl, by rw [N.out]; simp⟩, below_over J.out.2 bV⟩
    · have hin : i = n := by omega
      subst hin
      have hin1 : ¬ (i : Int) < (i : Int) := by omega
      clear ht hB
      go_wp2
      go_ret
      exact ⟨⟨-1, rfl, by rw [any_all_no (fun j z hj hz => J.out.1 j z (by rw [← H.out.2.1]; exact hj) hz)]; rfl⟩, J.out.2⟩
theorem containsE_any (a : Option Addr) (n c : Nat) (l : List Eg) (vb : Nat) (av : Option Addr) (nv cv : Nat) (w : World) (hs : SlAt eE w a n c l) (hv : w.cell? ⟨vb, 0, none⟩ = some (.slice av nv cv)) (hn : nv ≤ 100) :
    Calls Try.prog 32 #[.slice a n c, .func (.func 33) #[] #[.pointer (some ⟨vb, 0, none⟩)]] w fun r w' => r = .returned (.bool (l.any (wrongE nv))) ∧ Below w.heap.size w w' := by
  go_enter Try.func32, Try.ntmps32
  go_wp2_with fail
  refine (indexE_any a n c l vb av nv cv w hs hv hn).mono ?_
  rintro _ V ⟨⟨j, rfl, hj⟩, bV⟩
  have F : Hid (decide (0 ≤ j) = l.any (wrongE nv)) := hj
  clear hj hs hn hv
  go_wp2
  go_ret
  exact ⟨by rw [← F.out]; rfl, bV⟩
/-! ### sides -/
def sidesE (l : List Eg) : List Eg := l.flatMap fun x => [x, x.turn]
theorem sidesE_len (l : List Eg) : (sidesE l).length = 2 * l.length := by
  induction l with
  | nil => rfl
  | cons x l ih => unfold sidesE at ih ⊢; rw [List.flatMap_cons, List.length_append, ih, List.length_cons]; simp; omega
theorem sidesE_at : ∀ {l : List Eg} {i j : Nat} {x : Eg}, l[i]? = some x → j < 2 → (sidesE l)[2 * i + j]? = some (sdE x j)
  | [], i, j, x, h, _ => by simp at h
  | y :: l, 0, j, x, h, hj => by
    simp at h
    subst h
    unfold sidesE
    rw [List.flatMap_cons]
    match j, hj with
    | 0, _ => rfl
    | 1, _ => rfl
  | y :: l, i + 1, j, x, h, hj => by
    have := sidesE_at (l := l) (i := i) (x := x) (by simpa using h) hj
    unfold sidesE at this ⊢
    rw [List.flatMap_cons, show 2 * (i + 1) + j = (2 * i + j) + 2 by omega]
    simpa using this
def ptE (x : Eg) : Int × Int := (x.a, x.pa)
def portsE (l : List Eg) : List (Int × Int) := (sidesE l).map ptE
theorem portsE_at {l : List Eg} {i j : Nat} {x : Eg} (h : l[i]? = some x) (hj : j < 2) : (portsE l)[2 * i + j]? = some (ptE (sdE x j)) := by
  unfold portsE
  rw [List.getElem?_map, sidesE_at h hj]
  rfl
theorem portsE_len (l : List Eg) : (portsE l).length = 2 * l.length := by unfold portsE; rw [List.length_map, sidesE_len]
theorem PvAt.put (W : World) (x : Int × Int) : ∃ V, (stS 98 (.pointer (some ⟨W.heap.size, 0, none⟩)) (.agg (prt x))).run Try.prog (W.alloc (.cells #[.int .i64 0, .int .i64 0] 98)) = .ok () V ∧ RvAt V W.heap.size 98 (prt x) ∧ Below W.heap.size W V := by
  obtain ⟨V, h1, h2, h3, _⟩ := row_new rtP W #[.int .i64 0, .int .i64 0] (prt x) rfl rfl (one_of rfl)
  exact ⟨V, h1, h2, h3⟩
/-- Ports are built. -/
def bdS (t : TypeId) (ps : Array (Nat × Value)) : Sem Value := Instr.build t ps
theorem bdP (ps : Array (Nat × Value)) : Instr.build 98 ps = bdS 98 ps := rfl
theorem bdP_is (x y : Int) (w : World) : (bdS 98 #[(0, .int .i64 x), (1, .int .i64 y)]).run Try.prog w = .ok (.agg (prt (x, y))) w := by kernel_rfl
attribute [local go_sem ↓] bdP
set_option maxHeartbeats 4000000 in
theorem sharedP_any (a : Option Addr) (n c : Nat) (l : List Eg) (w : World) (hs : SlAt eE w a n c l) (hn : n ≤ 100) :
    Calls Try.prog 35 #[.slice a n c] w fun r w' => r = .returned (.bool (dup sameP (portsE l))) ∧ Below w.heap.size w w' := by
  have hnn := hs.int
  have H : Hid (SlAt eE w a n c l ∧ l.length = n) := ⟨hs, hs.len⟩
  clear hs
  go_enter Try.func35, Try.ntmps35
  go_wp2_with fail
  go_loopw [3, 11] (fun v3 v11 wr => ∃ i : Nat, i ≤ n ∧ v11 = .int .i64 i ∧ Own eP wr w.heap.size v3 ((portsE l).take (2 * i)) ∧ (∀ j x, j < 2 * i → (portsE l)[j]? = some x → ((portsE l).take j).any (fun y => sameP x y) = false) ∧ Below w.heap.size w wr) (fun _ v11 _ => n - (intOf v11).toNat)
  case atStart => exact ⟨0, by omega, rfl, Own.nil _ _, fun j x hj => by omega, Below.refl _ _⟩
  case round =>
    obtain ⟨i, hi, rfl, hO, hlow, hB⟩ := hrel
    have hi0 : (0 : Int) ≤ (i : Int) := by omega
    by_cases hit : i < n
    · have hi1 : (i : Int) < (n : Int) := by omega
      have hil : i < l.length := by rw [H.out.2]; exact hit
      obtain ⟨b, o, rfl⟩ := H.out.1.some' (by omega)
      obtain ⟨x, hx⟩ : ∃ x, l[i]? = some x := ⟨_, List.getElem?_eq_getElem hil⟩
      have lp := lde (H.out.1.below hB) hx
      obtain ⟨V, sV, eV, bV⟩ := EvAt.put wr x
      have lv := eV.ld
      have J : Hid (Own eP V w.heap.size u3 ((portsE l).take (2 * i)) ∧ (∀ j x, j < 2 * i → (portsE l)[j]? = some x → ((portsE l).take j).any (fun y => sameP x y) = false) ∧ Below w.heap.size w V ∧ l[i]? = some x) := ⟨hO.below bV, hlow, below_over hB bV, hx⟩
      clear hO hlow hB eV bV hx hil
      go_wp2_with fail
      refine (sides_any x V).mono ?_
      rintro _ V1 ⟨rfl, b1⟩
      have J1 : Hid (Own eP V1 w.heap.size u3 ((portsE l).take (2 * i)) ∧ (∀ j x, j < 2 * i → (portsE l)[j]? = some x → ((portsE l).take j).any (fun y => sameP x y) = false) ∧ Below w.heap.size w V1 ∧ l[i]? = some x) := ⟨J.out.1.below b1, J.out.2.1, below_over J.out.2.2.1 b1, J.out.2.2.2⟩
      clear b1 J lp sV lv
      go_wp2_with fail
      go_loopw [3, 17] (fun v3 v17 wr => ∃ j : Nat, j ≤ 2 ∧ v17 = .int .i64 j ∧ Own eP wr w.heap.size v3 ((portsE l).take (2 * i + j)) ∧ (∀ t x, t < 2 * i + j → (portsE l)[t]? = some x → ((portsE l).take t).any (fun y => sameP x y) = false) ∧ Below w.heap.size w wr) (fun _ v17 _ => 2 - (intOf v17).toNat)
      case atStart => exact ⟨0, by omega, rfl, J1.out.1, J1.out.2.1, J1.out.2.2.1⟩
      case round =>
        obtain ⟨j, hj, rfl, hO, hlow, hB⟩ := hrel
        have hj0 : (0 : Int) ≤ (j : Int) := by omega
        by_cases hj2 : j < 2
        · have hj1 : (j : Int) < 2 := by omega
          have ix := ixB x j hj2
          have hpt := portsE_at J1.out.2.2.2 hj2
          obtain ⟨y, hy⟩ : ∃ y, sdE x j = y := ⟨_, rfl⟩
          rw [hy] at ix hpt
          obtain ⟨V, sV, eV, bV⟩ := EvAt.put wr y
          have c0 := eV.c0
          have c1 := eV.c1
          have bd := bdP_is y.a y.pa V
          obtain ⟨U, sU, rU, bU⟩ := PvAt.put V (y.a, y.pa)
          have lU := rU.ld rtP rfl
          obtain ⟨sa, cs, rfl, hS, _⟩ := hO.form
          obtain ⟨m, hm⟩ : ∃ m, ((portsE l).take (2 * i + j)).length = m := ⟨_, rfl⟩
          have hm' : m ≤ 1000 := by rw [← hm, List.length_take]; omega
          rw [hm] at hS hO
          have K : Hid (Own eP U w.heap.size (.slice sa m cs) ((portsE l).take (2 * i + j)) ∧ (∀ t x, t < 2 * i + j → (portsE l)[t]? = some x → ((portsE l).take t).any (fun y => sameP x y) = false) ∧ Below w.heap.size w U ∧ SlAt eP U sa m cs ((portsE l).take (2 * i + j)) ∧ (portsE l)[2 * i + j]? = some (ptE y) ∧ ((portsE l).take (2 * i + j)).length = m ∧ RvAt U V.heap.size 98 (prt (y.a, y.pa))) := ⟨(hO.below bV).below bU, hlow, below_over (below_over hB bV) bU, (hS.below bV).below bU, hpt, hm, rU⟩
          rw [hm]
          clear hO hlow hB hS hpt hm eV bV rU bU hy
          go_wp2_with fail
          refine (containsP_any sa m cs _ (y.a, y.pa) U K.out.2.2.2.1).mono ?_
          rintro _ V1 ⟨rfl, b1⟩
          have lv1 := (K.out.2.2.2.2.2.2.below b1).ld rtP rfl
          cases hq : ((portsE l).take (2 * i + j)).any (fun z => sameP (y.a, y.pa) z)
          · have NX : Hid (∀ t x, t < 2 * i + (j + 1) → (portsE l)[t]? = some x → ((portsE l).take t).any (fun y => sameP x y) = false) := fun t z ht hz => by
              by_cases e : t = 2 * i + j
              · subst e
                rw [K.out.2.2.2.2.1] at hz
                cases hz
                exact hq
              · exact K.out.2.1 t z (by omega) hz
            have bs := bsP_is (y.a, y.pa) V1
            obtain ⟨v', Y, ap, o2, b2⟩ := nP (K.out.1.below b1) (Nat.le_trans K.out.2.2.1.size b1.size) (by rw [K.out.2.2.2.2.2.1]; exact hm') (y.a, y.pa)
            have Z : Hid (Own eP Y w.heap.size v' ((portsE l).take (2 * i + (j + 1))) ∧ Below w.heap.size w Y) := ⟨by rw [show 2 * i + (j + 1) = (2 * i + j) + 1 by omega, List.take_add_one, K.out.2.2.2.2.1]; exact o2, (below_over K.out.2.2.1 b1).trans b2⟩
            clear o2 b2 b1
            go_wp2
            go_roundw
            case rel => exact ⟨j + 1, by omega, by go_num, Z.out.1, NX.out, Z.out.2⟩
            case measure => simp [intOf]; omega
          · have YS : Hid (dup sameP (portsE l) = true ∧ Below w.heap.size w V1) := ⟨dup_yes K.out.2.2.2.2.1 hq, below_over K.out.2.2.1 b1⟩
            clear b1
            go_wp2
            go_ret
            exact ⟨by rw [YS.out.1]; rfl, YS.out.2⟩
        · have hjj : j = 2 := by omega
          subst hjj
          have Z : Hid (Own eP wr w.heap.size u3 ((portsE l).take (2 * (i + 1))) ∧ (∀ t x, t < 2 * (i + 1) → (portsE l)[t]? = some x → ((portsE l).take t).any (fun y => sameP x y) = false) ∧ Below w.heap.size w wr) := ⟨hO, hlow, hB⟩
          clear hO hlow hB
          go_wp2
          go_roundw
          case rel => exact ⟨i + 1, by omega, by go_num, Z.out.1, Z.out.2.1, Z.out.2.2⟩
          case measure => simp [intOf]; omega
    · have hin : i = n := by omega
      subst hin
      have hi1 : ¬ (i : Int) < (i : Int) := by omega
      have NO : Hid (dup sameP (portsE l) = false ∧ Below w.heap.size w wr) := ⟨dup_no fun j z hz => hlow j z (by
        have := (List.getElem?_eq_some_iff.1 hz).1
        rw [portsE_len, H.out.2] at this
        exact this) hz, hB⟩
      clear hlow hB hO
      go_wp2
      go_ret
      exact ⟨by rw [NO.out.1]; rfl, NO.out.2⟩
end Go.Proofs.Ytcagdfdhpbeolaa
