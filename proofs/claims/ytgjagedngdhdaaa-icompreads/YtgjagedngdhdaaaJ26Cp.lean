/-
  Copies of a frame for the ports of a service: walks of copies, each for every input. The library's DeleteFunc, by whether a port is another one: walks of it, of its IndexFunc and of the closure, each for every input.
-/
import Derived.Test.YtgjagedngdhdaaaJ25XBCheckRef
import Derived.Test.YtgjagedngdhdaaaJ02Knd
import Derived.Test.YtgjagedngdhdaaaJ06Put
import Derived.Lib.SliceRun
import Derived.Laws.IdiomCopy
import Derived.Deep.Upon
namespace Go.Proofs.Ytgjagedngdhdaaa

section
set_option linter.unusedVariables false
set_option maxRecDepth 4000
set_option linter.unusedSimpArgs false
open Go.RowKit
attribute [local go_sem ↓] ldP stP ldMc stMc ldFr stFr ldBf stBf

/-- The copies that go to ports, of frames that F makes of VLANs. -/
def cpL (F : Int → Option (List Int)) (p : Pv) (isid : Int) (l : List Int) : List Mb := l.filterMap fun q => (F (vof p q isid).1).map fun b => ⟨q, b⟩
theorem cp_yes {F : Int → Option (List Int)} {p : Pv} {isid : Int} {l : List Int} {i : Nat} {y v : Int} {b : List Int} (h : l[i]? = some y) (hv : (vof p y isid).1 = v) (hF : F v = some b) : cpL F p isid (l.take (i + 1)) = cpL F p isid (l.take i) ++ [⟨y, b⟩] := by
  unfold cpL
  rw [List.take_add_one, h, List.filterMap_append]
  simp [hv, hF]
theorem cp_no {F : Int → Option (List Int)} {p : Pv} {isid : Int} {l : List Int} {i : Nat} {y v : Int} (h : l[i]? = some y) (hv : (vof p y isid).1 = v) (hF : F v = none) : cpL F p isid (l.take (i + 1)) = cpL F p isid (l.take i) := by
  unfold cpL
  rw [List.take_add_one, h, List.filterMap_append]
  simp [hv, hF]
theorem cp_len (F : Int → Option (List Int)) (p : Pv) (isid : Int) (l : List Int) : (cpL F p isid l).length ≤ l.length := List.length_filterMap_le _ _
def FD (f : S4.Bf) (l : List Int) (v : Int) : Option (List Int) := if S4.shE f l v = 0 then some (S4.encO (S4.shG f l v) (S4.shR f l v)) else none
theorem fd_ok {f : S4.Bf} {l : List Int} {v : Int} (h : S4.shE f l v = 0) (hf : f.ok) : (S4.shG f l v).ok ∧ S4.shR f l v = l := by
  unfold S4.shG S4.shR
  rw [if_pos h, if_pos h]
  exact ⟨⟨hf.2.2.1, hf.2.2.2⟩, rfl⟩
theorem fl_ok {f : S4.Fr} {l : List Int} {v : Int} (h : S4.rtE f l v = 0) (hf : f.ok) : (S4.rtF f l v).ok ∧ S4.rtR f l v = l := by
  unfold S4.rtF S4.rtR
  rw [if_pos h, if_pos h]
  exact ⟨hf, rfl⟩
def FL (f : S4.Fr) (l : List Int) (v : Int) : Option (List Int) := if S4.rtE f l v = 0 then some (S4.encO (S4.rtF f l v) (S4.rtR f l v)) else none
set_option maxHeartbeats 8000000 in
theorem cpd_any (x : Pr) (p : Pv) (isid : Int) (a : Option Addr) (n c : Nat) (l : List Int) (f : S4.Bf) (z : Value) (lz : List Int) (cb : Nat) (w : World) (h : IsPv w x p) (hs : SlAt eI w a n c l) (hnd : ∀ i y, l[i]? = some y → (l.take i).any (fun t => t == y) = false) (hwf : ∀ y ∈ l, 0 ≤ y ∧ y ≤ 1000) (hn : n ≤ 1000) (hv : BfAt w cb f z) (hz : S4.Src w z lz) (hb : ∀ x ∈ lz, 0 ≤ x ∧ x ≤ 255) (hf : f.ok) :
    Calls Try.prog 53 #[.agg x.cs, .int .i64 isid, .slice a n c, .func (.func 51) #[] #[.pointer (some ⟨cb, 0, none⟩)]] w fun r w' => (∃ v, r = .returned v ∧ IsCy w' v (cpL (FD f lz) p isid l)) ∧ Below w.heap.size w w' := by
  obtain ⟨W1, hW1, r1, b1, z1⟩ := PrAt.new w x
  obtain ⟨W2, hW2, r2, b2, z2⟩ : ∃ V, W1.alloc (.cells #[.slice none 0 0] 58) = V ∧ RvAt V W1.heap.size 58 #[.slice none 0 0] ∧ Below W1.heap.size W1 V ∧ V.heap.size = W1.heap.size + 1 := ⟨_, rfl, RvAt.new W1 _ _, (Below.refl _ _).alloc (Nat.le_refl _) _, by simp⟩
  obtain ⟨W3, hW3, r3, b3, z3⟩ : ∃ V, W2.alloc (.map #[] 0) = V ∧ SetIs V W2.heap.size [] ∧ Below W2.heap.size W2 V ∧ V.heap.size = W2.heap.size + 1 := ⟨_, rfl, SetIs.made W2, (Below.refl _ _).alloc (Nat.le_refl _) _, by simp⟩
  have b13 : Below w.heap.size w W3 := below_over b1 (below_over b2 b3)
  have S0 : Hid (CpS w W3 W3.heap.size w.heap.size W1.heap.size W2.heap.size x [] []) := ⟨b13, r1.below (below_over b2 b3), ⟨.slice none 0 0, [], r2.below b3, Own.nil _ _, trivial⟩, r3, ⟨by omega, by omega, by omega⟩, ⟨by omega, by omega, by omega⟩, Nat.le_refl _, ⟨by omega, by omega⟩⟩
  have H : Hid (IsPv w x p ∧ SlAt eI w a n c l ∧ l.length = n ∧ n ≤ 1000) := ⟨h, hs, hs.len, hn⟩
  have HN : Hid ((∀ i y, l[i]? = some y → (l.take i).any (fun t => t == y) = false) ∧ ∀ y ∈ l, 0 ≤ y ∧ y ≤ 1000) := ⟨hnd, hwf⟩
  have HC : Hid (BfAt w cb f z ∧ S4.Src w z lz ∧ (∀ x ∈ lz, 0 ≤ x ∧ x ≤ 255) ∧ f.ok) := ⟨hv, hz, hb, hf⟩
  have hnn := hs.int
  have hmm := @run_makeMap Try.prog
  clear h hs hnd hwf hn hv hz hb hf r1 r2 r3 b1 b2 b3 b13 z1 z2 z3
  go_enter Try.func53, Try.ntmps53
  go_wp2_with fail
  go_step3
  go_wp2_with fail
  go_step3
  go_wp2_with fail
  go_loopw [24] (fun v wr => ∃ i : Nat, i ≤ n ∧ v = .int .i64 i ∧ CpS w wr W3.heap.size w.heap.size W1.heap.size W2.heap.size x (l.take i) (cpL (FD f lz) p isid (l.take i))) (fun v _ => n - (intOf v).toNat)
  case atStart => exact ⟨0, by omega, rfl, S0.out⟩
  case round =>
    obtain ⟨i, hi, rfl, hS⟩ := hrel
    have J : Hid (CpS w wr W3.heap.size w.heap.size W1.heap.size W2.heap.size x (l.take i) (cpL (FD f lz) p isid (l.take i))) := hS
    have hi0 : (0 : Int) ≤ (i : Int) := by omega
    clear hS
    by_cases hit : i < n
    · have hi1 : (i : Int) < (n : Int) := by omega
      obtain ⟨b, o, rfl⟩ := H.out.2.1.some' (by omega)
      obtain ⟨y, hy⟩ : ∃ y, l[i]? = some y := ⟨_, List.getElem?_eq_getElem (by rw [H.out.2.2.1]; exact hit)⟩
      have lp := lI (H.out.2.1.below J.out.bel) hy
      have hyb := HN.out.2 y (List.mem_of_getElem? hy)
      have E : Hid (l[i]? = some y ∧ (0 ≤ y ∧ y ≤ 1000)) := ⟨hy, hyb⟩
      have lk := J.out.set.look (k := y) (by omega)
      rw [HN.out.1 i y hy] at lk
      obtain ⟨Y0, hY0⟩ : ∃ zz, wr.alloc (.cells #[] 143) = zz := ⟨_, rfl⟩
      have bY0 : Below wr.heap.size wr Y0 := by rw [← hY0]; exact (Below.refl _ _).alloc (Nat.le_refl _) _
      obtain ⟨U, sU, iU, gU, _⟩ := (J.out.set.below bY0).store (by rw [List.length_take]; have := H.out.2.2.2; omega) (k := y) (by omega)
      have JU : Hid (CpS w U W3.heap.size w.heap.size W1.heap.size W2.heap.size x (l.take (i + 1)) (cpL (FD f lz) p isid (l.take i)) ∧ Below w.heap.size w U) := by
        have e : l.take (i + 1) = l.take i ++ [y] := by rw [List.take_add_one, hy]; rfl
        rw [e]
        exact ⟨(J.out.below bY0).map iU gU, ((J.out.below bY0).map iU gU).bel⟩
      have lU := JU.out.1.pr.ld
      obtain ⟨V1, hV1⟩ : ∃ zz, (vof p y isid).1 = zz := ⟨_, rfl⟩
      obtain ⟨O1, hO1⟩ : ∃ zz, (vof p y isid).2 = zz := ⟨_, rfl⟩
      have CV : Hid (Calls Try.prog 85 #[.agg x.cs, .int .i64 y, .int .i64 isid] U fun r w' => r = .returned (.tuple #[.int .i64 V1, .bool O1]) ∧ Below U.heap.size U w') := by rw [← hV1, ← hO1]; exact vof_any x p y isid U (H.out.1.below JU.out.2)
      have EV : Hid ((vof p y isid).1 = V1) := hV1
      clear hy hyb iU gU bY0 hV1 hO1
      go_wp2_with fail
      refine CV.out.mono ?_
      rintro _ X1 ⟨rfl, bX1⟩
      have J1 : Hid (CpS w X1 W3.heap.size w.heap.size W1.heap.size W2.heap.size x (l.take (i + 1)) (cpL (FD f lz) p isid (l.take i))) := JU.out.1.below bX1
      obtain ⟨F, hF⟩ : ∃ e, S4.shG f lz V1 = e := ⟨_, rfl⟩
      obtain ⟨E2, hE⟩ : ∃ e, S4.shE f lz V1 = e := ⟨_, rfl⟩
      obtain ⟨R, hR⟩ : ∃ e, S4.shR f lz V1 = e := ⟨_, rfl⟩
      have CF : Hid (Calls Try.prog 51 #[.int .i64 V1, .pointer (some ⟨cb, 0, none⟩)] X1 fun r w' => ∃ s, r = .returned (.tuple #[.agg (S4.fcs F s), .int .i64 E2]) ∧ S4.Own w' X1.heap.size s R ∧ Below X1.heap.size X1 w') := by rw [← hF, ← hE, ← hR]; exact dec_any f z lz V1 cb X1 (HC.out.1.below J1.out.bel) (HC.out.2.1.below J1.out.bel) HC.out.2.2.1 HC.out.2.2.2
      have EF : Hid (S4.shG f lz V1 = F ∧ S4.shE f lz V1 = E2 ∧ S4.shR f lz V1 = R) := ⟨hF, hE, hR⟩
      clear lp lk lU bX1 hF hE hR sU
      go_wp2_with fail
      refine CF.out.mono ?_
      rintro _ X2 ⟨s, rfl, o2, bX2⟩
      obtain ⟨X3, s3, m3, b3, z3⟩ := FrAt.put X2 F s o2.one
      have J3 : Hid (CpS w X3 W3.heap.size w.heap.size W1.heap.size W2.heap.size x (l.take (i + 1)) (cpL (FD f lz) p isid (l.take i)) ∧ S4.Src X3 s R) := ⟨(J1.out.below bX2).below b3, (o2.below b3).src⟩
      have l3 := m3.ld
      clear o2 bX2 b3 z3 m3
      by_cases he : E2 = 0
      · subst he
        have KF : Hid (F.ok ∧ ∀ t ∈ R, 0 ≤ t ∧ t ≤ 255) := by
          have k := fd_ok EF.out.2.1 HC.out.2.2.2
          rw [EF.out.1, EF.out.2.2] at k
          exact ⟨k.1, by rw [k.2]; exact HC.out.2.2.1⟩
        have KN : Hid (cpL (FD f lz) p isid (l.take (i + 1)) = cpL (FD f lz) p isid (l.take i) ++ [⟨y, S4.encO F R⟩]) := cp_yes E.out.1 EV.out (by unfold FD; rw [EF.out.2.1, if_pos rfl, EF.out.1, EF.out.2.2])
        go_wp2_with fail
        refine (gather_any J3.out.1 (Nat.le_trans (cp_len _ _ _ _) (by rw [List.length_take]; have := H.out.2.2.2; omega)) y F s R J3.out.2 KF.out.2 KF.out.1).mono ?_
        rintro _ X4 ⟨rfl, S4_⟩
        have J4 : Hid (CpS w X4 W3.heap.size w.heap.size W1.heap.size W2.heap.size x (l.take (i + 1)) (cpL (FD f lz) p isid (l.take (i + 1)))) := by rw [KN.out]; exact S4_
        clear S4_
        go_wp2
        go_roundw
        case rel => exact ⟨i + 1, by omega, by go_num, J4.out⟩
        case measure => simp [intOf]; omega
      · have e0 : (E2 != 0) = true := by simp [he]
        have J4 : Hid (CpS w X3 W3.heap.size w.heap.size W1.heap.size W2.heap.size x (l.take (i + 1)) (cpL (FD f lz) p isid (l.take (i + 1)))) := by
          rw [cp_no E.out.1 EV.out (by unfold FD; rw [EF.out.2.1, if_neg he])]
          exact J3.out.1
        clear he
        go_wp2
        go_roundw
        case rel => exact ⟨i + 1, by omega, by go_num, J4.out⟩
        case measure => simp [intOf]; omega
    · obtain rfl : i = n := by omega
      have hi1 : ¬ (i : Int) < (i : Int) := by omega
      obtain ⟨v, cv, hv⟩ := J.out.done
      have G : Hid (IsCy wr v (cpL (FD f lz) p isid l) ∧ Below w.heap.size w wr) := ⟨by
        have e : l.take i = l := List.take_of_length_le (by rw [H.out.2.2.1]; exact Nat.le_refl _)
        rw [e] at hv
        exact hv, J.out.bel⟩
      clear hit hv
      go_wp2
      go_ret
      exact ⟨⟨_, rfl, G.out.1⟩, G.out.2⟩
set_option maxHeartbeats 8000000 in
theorem cpl_any (x : Pr) (p : Pv) (isid : Int) (a : Option Addr) (n c : Nat) (l : List Int) (f : S4.Fr) (z : Value) (lz : List Int) (cb : Nat) (w : World) (h : IsPv w x p) (hs : SlAt eI w a n c l) (hnd : ∀ i y, l[i]? = some y → (l.take i).any (fun t => t == y) = false) (hwf : ∀ y ∈ l, 0 ≤ y ∧ y ≤ 1000) (hn : n ≤ 1000) (hv : FrAt w cb f z) (hz : S4.Src w z lz) (hb : ∀ x ∈ lz, 0 ≤ x ∧ x ≤ 255) (hf : f.ok) :
    Calls Try.prog 53 #[.agg x.cs, .int .i64 isid, .slice a n c, .func (.func 57) #[] #[.pointer (some ⟨cb, 0, none⟩)]] w fun r w' => (∃ v, r = .returned v ∧ IsCy w' v (cpL (FL f lz) p isid l)) ∧ Below w.heap.size w w' := by
  obtain ⟨W1, hW1, r1, b1, z1⟩ := PrAt.new w x
  obtain ⟨W2, hW2, r2, b2, z2⟩ : ∃ V, W1.alloc (.cells #[.slice none 0 0] 58) = V ∧ RvAt V W1.heap.size 58 #[.slice none 0 0] ∧ Below W1.heap.size W1 V ∧ V.heap.size = W1.heap.size + 1 := ⟨_, rfl, RvAt.new W1 _ _, (Below.refl _ _).alloc (Nat.le_refl _) _, by simp⟩
  obtain ⟨W3, hW3, r3, b3, z3⟩ : ∃ V, W2.alloc (.map #[] 0) = V ∧ SetIs V W2.heap.size [] ∧ Below W2.heap.size W2 V ∧ V.heap.size = W2.heap.size + 1 := ⟨_, rfl, SetIs.made W2, (Below.refl _ _).alloc (Nat.le_refl _) _, by simp⟩
  have b13 : Below w.heap.size w W3 := below_over b1 (below_over b2 b3)
  have S0 : Hid (CpS w W3 W3.heap.size w.heap.size W1.heap.size W2.heap.size x [] []) := ⟨b13, r1.below (below_over b2 b3), ⟨.slice none 0 0, [], r2.below b3, Own.nil _ _, trivial⟩, r3, ⟨by omega, by omega, by omega⟩, ⟨by omega, by omega, by omega⟩, Nat.le_refl _, ⟨by omega, by omega⟩⟩
  have H : Hid (IsPv w x p ∧ SlAt eI w a n c l ∧ l.length = n ∧ n ≤ 1000) := ⟨h, hs, hs.len, hn⟩
  have HN : Hid ((∀ i y, l[i]? = some y → (l.take i).any (fun t => t == y) = false) ∧ ∀ y ∈ l, 0 ≤ y ∧ y ≤ 1000) := ⟨hnd, hwf⟩
  have HC : Hid (FrAt w cb f z ∧ S4.Src w z lz ∧ (∀ x ∈ lz, 0 ≤ x ∧ x ≤ 255) ∧ f.ok) := ⟨hv, hz, hb, hf⟩
  have hnn := hs.int
  have hmm := @run_makeMap Try.prog
  clear h hs hnd hwf hn hv hz hb hf r1 r2 r3 b1 b2 b3 b13 z1 z2 z3
  go_enter Try.func53, Try.ntmps53
  go_wp2_with fail
  go_step3
  go_wp2_with fail
  go_step3
  go_wp2_with fail
  go_loopw [24] (fun v wr => ∃ i : Nat, i ≤ n ∧ v = .int .i64 i ∧ CpS w wr W3.heap.size w.heap.size W1.heap.size W2.heap.size x (l.take i) (cpL (FL f lz) p isid (l.take i))) (fun v _ => n - (intOf v).toNat)
  case atStart => exact ⟨0, by omega, rfl, S0.out⟩
  case round =>
    obtain ⟨i, hi, rfl, hS⟩ := hrel
    have J : Hid (CpS w wr W3.heap.size w.heap.size W1.heap.size W2.heap.size x (l.take i) (cpL (FL f lz) p isid (l.take i))) := hS
    have hi0 : (0 : Int) ≤ (i : Int) := by omega
    clear hS
    by_cases hit : i < n
    · have hi1 : (i : Int) < (n : Int) := by omega
      obtain ⟨b, o, rfl⟩ := H.out.2.1.some' (by omega)
      obtain ⟨y, hy⟩ : ∃ y, l[i]? = some y := ⟨_, List.getElem?_eq_getElem (by rw [H.out.2.2.1]; exact hit)⟩
      have lp := lI (H.out.2.1.below J.out.bel) hy
      have hyb := HN.out.2 y (List.mem_of_getElem? hy)
      have E : Hid (l[i]? = some y ∧ (0 ≤ y ∧ y ≤ 1000)) := ⟨hy, hyb⟩
      have lk := J.out.set.look (k := y) (by omega)
      rw [HN.out.1 i y hy] at lk
      obtain ⟨Y0, hY0⟩ : ∃ zz, wr.alloc (.cells #[] 143) = zz := ⟨_, rfl⟩
      have bY0 : Below wr.heap.size wr Y0 := by rw [← hY0]; exact (Below.refl _ _).alloc (Nat.le_refl _) _
      obtain ⟨U, sU, iU, gU, _⟩ := (J.out.set.below bY0).store (by rw [List.length_take]; have := H.out.2.2.2; omega) (k := y) (by omega)
      have JU : Hid (CpS w U W3.heap.size w.heap.size W1.heap.size W2.heap.size x (l.take (i + 1)) (cpL (FL f lz) p isid (l.take i)) ∧ Below w.heap.size w U) := by
        have e : l.take (i + 1) = l.take i ++ [y] := by rw [List.take_add_one, hy]; rfl
        rw [e]
        exact ⟨(J.out.below bY0).map iU gU, ((J.out.below bY0).map iU gU).bel⟩
      have lU := JU.out.1.pr.ld
      obtain ⟨V1, hV1⟩ : ∃ zz, (vof p y isid).1 = zz := ⟨_, rfl⟩
      obtain ⟨O1, hO1⟩ : ∃ zz, (vof p y isid).2 = zz := ⟨_, rfl⟩
      have CV : Hid (Calls Try.prog 85 #[.agg x.cs, .int .i64 y, .int .i64 isid] U fun r w' => r = .returned (.tuple #[.int .i64 V1, .bool O1]) ∧ Below U.heap.size U w') := by rw [← hV1, ← hO1]; exact vof_any x p y isid U (H.out.1.below JU.out.2)
      have EV : Hid ((vof p y isid).1 = V1) := hV1
      clear hy hyb iU gU bY0 hV1 hO1
      go_wp2_with fail
      refine CV.out.mono ?_
      rintro _ X1 ⟨rfl, bX1⟩
      have J1 : Hid (CpS w X1 W3.heap.size w.heap.size W1.heap.size W2.heap.size x (l.take (i + 1)) (cpL (FL f lz) p isid (l.take i))) := JU.out.1.below bX1
      obtain ⟨F, hF⟩ : ∃ e, S4.rtF f lz V1 = e := ⟨_, rfl⟩
      obtain ⟨E2, hE⟩ : ∃ e, S4.rtE f lz V1 = e := ⟨_, rfl⟩
      obtain ⟨R, hR⟩ : ∃ e, S4.rtR f lz V1 = e := ⟨_, rfl⟩
      have CF : Hid (Calls Try.prog 57 #[.int .i64 V1, .pointer (some ⟨cb, 0, none⟩)] X1 fun r w' => ∃ s, r = .returned (.tuple #[.agg (S4.fcs F s), .int .i64 E2]) ∧ S4.Own w' X1.heap.size s R ∧ Below X1.heap.size X1 w') := by rw [← hF, ← hE, ← hR]; exact ret_any f z lz V1 cb X1 (HC.out.1.below J1.out.bel) (HC.out.2.1.below J1.out.bel) HC.out.2.2.1 HC.out.2.2.2
      have EF : Hid (S4.rtF f lz V1 = F ∧ S4.rtE f lz V1 = E2 ∧ S4.rtR f lz V1 = R) := ⟨hF, hE, hR⟩
      clear lp lk lU bX1 hF hE hR sU
      go_wp2_with fail
      refine CF.out.mono ?_
      rintro _ X2 ⟨s, rfl, o2, bX2⟩
      obtain ⟨X3, s3, m3, b3, z3⟩ := FrAt.put X2 F s o2.one
      have J3 : Hid (CpS w X3 W3.heap.size w.heap.size W1.heap.size W2.heap.size x (l.take (i + 1)) (cpL (FL f lz) p isid (l.take i)) ∧ S4.Src X3 s R) := ⟨(J1.out.below bX2).below b3, (o2.below b3).src⟩
      have l3 := m3.ld
      clear o2 bX2 b3 z3 m3
      by_cases he : E2 = 0
      · subst he
        have KF : Hid (F.ok ∧ ∀ t ∈ R, 0 ≤ t ∧ t ≤ 255) := by
          have k := fl_ok EF.out.2.1 HC.out.2.2.2
          rw [EF.out.1, EF.out.2.2] at k
          exact ⟨k.1, by rw [k.2]; exact HC.out.2.2.1⟩
        have KN : Hid (cpL (FL f lz) p isid (l.take (i + 1)) = cpL (FL f lz) p isid (l.take i) ++ [⟨y, S4.encO F R⟩]) := cp_yes E.out.1 EV.out (by unfold FL; rw [EF.out.2.1, if_pos rfl, EF.out.1, EF.out.2.2])
        go_wp2_with fail
        refine (gather_any J3.out.1 (Nat.le_trans (cp_len _ _ _ _) (by rw [List.length_take]; have := H.out.2.2.2; omega)) y F s R J3.out.2 KF.out.2 KF.out.1).mono ?_
        rintro _ X4 ⟨rfl, S4_⟩
        have J4 : Hid (CpS w X4 W3.heap.size w.heap.size W1.heap.size W2.heap.size x (l.take (i + 1)) (cpL (FL f lz) p isid (l.take (i + 1)))) := by rw [KN.out]; exact S4_
        clear S4_
        go_wp2
        go_roundw
        case rel => exact ⟨i + 1, by omega, by go_num, J4.out⟩
        case measure => simp [intOf]; omega
      · have e0 : (E2 != 0) = true := by simp [he]
        have J4 : Hid (CpS w X3 W3.heap.size w.heap.size W1.heap.size W2.heap.size x (l.take (i + 1)) (cpL (FL f lz) p isid (l.take (i + 1)))) := by
          rw [cp_no E.out.1 EV.out (by unfold FL; rw [EF.out.2.1, if_neg he])]
          exact J3.out.1
        clear he
        go_wp2
        go_roundw
        case rel => exact ⟨i + 1, by omega, by go_num, J4.out⟩
        case measure => simp [intOf]; omega
    · obtain rfl : i = n := by omega
      have hi1 : ¬ (i : Int) < (i : Int) := by omega
      obtain ⟨v, cv, hv⟩ := J.out.done
      have G : Hid (IsCy wr v (cpL (FL f lz) p isid l) ∧ Below w.heap.size w wr) := ⟨by
        have e : l.take i = l := List.take_of_length_le (by rw [H.out.2.2.1]; exact Nat.le_refl _)
        rw [e] at hv
        exact hv, J.out.bel⟩
      clear hit hv
      go_wp2
      go_ret
      exact ⟨⟨_, rfl, G.out.1⟩, G.out.2⟩
end

section
set_option linter.unusedVariables false
set_option maxRecDepth 4000
set_option linter.unusedSimpArgs false
open Go.RowKit
theorem stIn (x y : Value) : Instr.storeAt 3 x y = stS 3 x y := rfl
attribute [local go_sem ↓] slI stIn

set_option maxHeartbeats 1000000 in
theorem samep_any (x q : Int) (b : Nat) (w : World) (h : RvAt w b 3 #[.int .i64 q]) :
    Calls Try.prog 56 #[.int .i64 x, .pointer (some ⟨b, 0, none⟩)] w fun r w' => r = .returned (.bool (x == q)) ∧ Below w.heap.size w w' := by
  have c0 := h.cell 0 _ rfl
  clear h
  go_enter Try.func56, Try.ntmps56
  go_wp2
  go_ret
  exact ⟨rfl, Below.refl _ _⟩
/-- Where the port stands first. -/
def IxL (q : Int) (l : List Int) (j : Int) : Prop := (j = -1 ∧ ∀ x ∈ l, (x == q) = false) ∨ ∃ i : Nat, j = (i : Int) ∧ l[i]? = some q ∧ ∀ k x, k < i → l[k]? = some x → (x == q) = false
set_option maxHeartbeats 2000000 in
theorem ixf_any (a : Option Addr) (n c : Nat) (l : List Int) (q : Int) (b : Nat) (w : World) (hs : SlAt eI w a n c l) (hv : RvAt w b 3 #[.int .i64 q]) :
    Calls Try.prog 88 #[.slice a n c, .func (.func 56) #[] #[.pointer (some ⟨b, 0, none⟩)]] w fun r w' => (∃ j : Int, r = .returned (.int .i64 j) ∧ IxL q l j) ∧ Below w.heap.size w w' := by
  have hnn := hs.int
  have H : Hid (SlAt eI w a n c l ∧ l.length = n ∧ RvAt w b 3 #[.int .i64 q]) := ⟨hs, hs.len, hv⟩
  clear hs hv
  go_enter Try.func88, Try.ntmps88
  go_wp2_with fail
  go_loopw [8] (fun v8 wr => ∃ i : Nat, i ≤ n ∧ v8 = .int .i64 i ∧ (∀ k x, k < i → l[k]? = some x → (x == q) = false) ∧ Below w.heap.size w wr) (fun v8 _ => n - (intOf v8).toNat)
  case atStart => exact ⟨0, by omega, rfl, fun j x hj => by omega, Below.refl _ _⟩
  case round =>
    obtain ⟨i, hi, rfl, ht, hB⟩ := hrel
    have J : Hid ((∀ k x, k < i → l[k]? = some x → (x == q) = false) ∧ Below w.heap.size w wr) := ⟨ht, hB⟩
    have hin0 : (0 : Int) ≤ (i : Int) := by omega
    by_cases hit : i < n
    · have hin1 : (i : Int) < (n : Int) := by omega
      have hl : i < l.length := by rw [H.out.2.1]; exact hit
      obtain ⟨b', o, rfl⟩ := H.out.1.some' (by omega)
      obtain ⟨x, hx⟩ : ∃ x, l[i]? = some x := ⟨_, List.getElem?_eq_getElem hl⟩
      have lp := lI (H.out.1.below hB) hx
      have E : Hid (l[i]? = some x) := hx
      clear ht hB hl hx
      go_wp2_with fail
      refine (samep_any x q b wr (H.out.2.2.below J.out.2)).mono ?_
      rintro _ V ⟨rfl, bV⟩
      obtain ⟨Q, hQ⟩ : ∃ z, (x == q) = z := ⟨_, rfl⟩
      have QQ : Hid ((x == q) = Q) := hQ
      rw [hQ]
      clear hQ
      cases Q
      · have N : Hid (∀ k x, k < i + 1 → l[k]? = some x → (x == q) = false) := fun j z hj hz => by
          by_cases hji : j = i
          · subst hji
            rw [E.out] at hz
            cases hz
            exact QQ.out
          · exact J.out.1 j z (by omega) hz
        clear lp
        go_wp2
        go_roundw
        case rel => exact ⟨i + 1, by omega, by go_num, N.out, below_over J.out.2 bV⟩
        case measure => simp [intOf]; omega
      · have N : Hid (IxL q l (i : Int)) := .inr ⟨i, rfl, by rw [E.out]; exact congrArg some (by simpa using QQ.out), J.out.1⟩
        clear lp
        go_wp2
        go_ret
        exact ⟨⟨_, rfl, N.out⟩, below_over J.out.2 bV⟩
    · have hin : i = n := by omega
      subst hin
      have hin1 : ¬ (i : Int) < (i : Int) := by omega
      clear ht hB
      go_wp2
      go_ret
      refine ⟨⟨-1, rfl, .inl ⟨rfl, fun x hx => ?_⟩⟩, J.out.2⟩
      obtain ⟨k, hk, rfl⟩ := List.getElem_of_mem hx
      exact J.out.1 k _ (by rw [← H.out.2.1]; exact hk) (List.getElem?_eq_getElem hk)
/-- All but the port. -/
def noL (q : Int) (l : List Int) : List Int := l.filter (fun x => !(x == q))
theorem no_all {q : Int} {l : List Int} (h : ∀ x ∈ l, (x == q) = false) : noL q l = l := List.filter_eq_self.2 fun x hx => by rw [h x hx]; rfl
theorem no_next {q x : Int} {l : List Int} {j : Nat} (hx : l[j]? = some x) (h : (x == q) = false) : noL q (l.take (j + 1)) = noL q (l.take j) ++ [x] := by
  unfold noL
  rw [List.take_add_one, hx, List.filter_append]
  simp [h]
theorem no_skip {q x : Int} {l : List Int} {j : Nat} (hx : l[j]? = some x) (h : (x == q) = true) : noL q (l.take (j + 1)) = noL q (l.take j) := by
  unfold noL
  rw [List.take_add_one, hx, List.filter_append]
  simp [h]
theorem zeroIn (w : World) : (zeroValue 3).run Try.prog w = .ok (.int .i64 0) w := by kernel_rfl
theorem size_setCells' (b : Nat) : ∀ (vs : List Value) (o : Nat) (w : World), (w.setCells b o vs).heap.size = w.heap.size
  | [], o, w => rfl
  | v :: vs, o, w => by
    rw [World.setCells, size_setCells' b vs]
    simp
/-- The rest of a row wiped. -/
theorem PAt.wipe {W : World} {g c i : Nat} {l : List Int} (h : PAt eI W g c l) (hi : i < l.length) :
    ∃ V, (∀ ty, (Builtin.clear_ #[61] ty #[.slice (some ⟨g, i, none⟩) (l.length - i) (c - i)]).run Try.prog W = .ok (.tuple #[]) V) ∧ SlAt eI V (some ⟨g, 0, none⟩) i c (l.take i) ∧ W.grownBy V (some g) := by
  have hc : ∀ j, j < l.length - i → (W.cell? ⟨g, i + j, none⟩).isSome = true := fun j hj => by
    obtain ⟨x, hx⟩ : ∃ x, l[i + j]? = some x := ⟨_, List.getElem?_eq_getElem (by omega)⟩
    rw [h.cell kI (i := i + j) (j := 0) (q := i + j) hx rfl (by show i + j = (i + j) * 1 + 0; omega)]
    rfl
  have hf : ∀ j, j < l.length - i → W.frozen? ⟨g, i + j, none⟩ = false := fun j hj => by
    obtain ⟨cur, r, _⟩ := h
    have r' : W.heap[g]? = some (.cells cur 3 (0, 0)) := r
    simp [World.frozen?, r']
  refine ⟨W.setCells g i (List.replicate (l.length - i) (.int .i64 0)), fun ty => Lib.run_clear_slice W _ _ ty _ Try.underlying61 zeroIn rfl rfl g i _ _ (by omega) hc hf, ?_, ?_⟩
  · have s := (h.sl kI).cut kI (m := i) (by omega)
    refine ⟨s.len, s.cap, s.max, s.nil, fun x hx h0 => ?_⟩
    cases hx
    obtain ⟨b, o, e, hcl⟩ := s.cells _ rfl h0
    cases e
    refine ⟨g, 0, rfl, fun j u hj => ?_⟩
    have hjl : j < i := by
      have := (List.getElem?_eq_some_iff.1 hj).1
      rw [El.fl_len kI, s.len] at this
      have : j < i * 1 := this
      omega
    rw [World.cell?_setCells_out g _ _ _ _ (fun _ _ => .inl (by show 0 + j < i; omega))]
    exact hcl j u hj
  · have hk := World.keptBut_setCells g (may := fun _ => True) (List.replicate (l.length - i) (.int .i64 0)) i W (fun _ _ => trivial)
    refine ⟨World.os_setCells W g i _, ?_, World.output_setCells W g i _, by rw [size_setCells']; exact Nat.le_refl _, fun k hk' hne => World.heap_setCells_other W g i _ hk' (fun e => hne (by rw [e]))⟩
    have : ∀ (vs : List Value) (o : Nat) (w : World), (w.setCells g o vs).tape = w.tape := by
      intro vs
      induction vs with
      | nil => intro o w; rfl
      | cons v vs ih => intro o w; rw [World.setCells, ih]; simp
    exact this _ _ _
theorem suf_at (g n c i : Nat) (h : i < n) (hc : n ≤ c) (V : World) : (slS 61 (.slice (some ⟨g, 0, none⟩) n c) (some (.int .i64 i)) none none).run Try.prog V = .ok (.slice (some ⟨g, i, none⟩) (n - i) (c - i)) V := by
  have h1 := slI_suf (some ⟨g, 0, none⟩) n c i (by omega) V
  rw [if_neg (by omega)] at h1
  rw [h1]
  have : (⟨g, 0, none⟩ : Addr).add (i * eI.K) = ⟨g, i, none⟩ := by
    show (⟨g, 0, none⟩ : Addr).add (i * 1) = _
    rw [Addr.add_lit]
    simp
  show Result.ok (Value.slice (some ((⟨g, 0, none⟩ : Addr).add (i * eI.K))) (n - i) (c - i)) V = _
  rw [this]
theorem set_take {l : List Int} {i : Nat} {x : Int} (h : i < l.length) : (l.set i x).take (i + 1) = l.take i ++ [x] := by
  rw [List.take_add_one, List.take_set_of_le (Nat.le_refl i), List.getElem?_set_self h]
  rfl
/-- A row that is being cut. -/
structure Cut (W : World) (g c n i j : Nat) (q : Int) (l L : List Int) : Prop where
  pat : PAt eI W g c L
  len : L.length = n
  low : L.take i = noL q (l.take j)
  top : ∀ t, j ≤ t → L[t]? = l[t]?
theorem Cut.below {W W' : World} {g c n i j : Nat} {q : Int} {l L : List Int} (h : Cut W g c n i j q l L) (hb : Below W.heap.size W W') : Cut W' g c n i j q l L := ⟨h.pat.below hb, h.len, h.low, h.top⟩
set_option maxHeartbeats 4000000 in
theorem del_any (B : Nat) (v : Value) (l : List Int) (q : Int) (b : Nat) (w : World) (ho : Own eI w B v l) (hB : B ≤ w.heap.size) (hl : l.length ≤ 1000) (hb : b < B) (hv : RvAt w b 3 #[.int .i64 q]) :
    Calls Try.prog 55 #[v, .func (.func 56) #[] #[.pointer (some ⟨b, 0, none⟩)]] w fun r w' => (∃ u, r = .returned u ∧ SlV eI w' u (noL q l)) ∧ Below B w w' := by
  obtain ⟨a, c, rfl, hs, _⟩ := ho.form
  have hnn := hs.int
  have H : Hid (Own eI w B (.slice a l.length c) l ∧ SlAt eI w a l.length c l ∧ RvAt w b 3 #[.int .i64 q] ∧ B ≤ w.heap.size ∧ b < B ∧ l.length ≤ 1000) := ⟨ho, hs, hv, hB, hb, hl⟩
  obtain ⟨n, hn⟩ : ∃ z, l.length = z := ⟨_, rfl⟩
  have HN : Hid (l.length = n) := hn
  rw [hn] at H hnn
  rw [hn]
  clear ho hB hl hb hv hs hn
  go_enter Try.func55, Try.ntmps55
  go_wp2_with fail
  refine (ixf_any a n c l q b w H.out.2.1 H.out.2.2.1).mono ?_
  rintro _ W1 ⟨⟨k, rfl, hk⟩, b1⟩
  rcases hk with ⟨rfl, hno⟩ | ⟨i0, rfl, hi0, hlow⟩
  · have K : Hid (noL q l = l ∧ Below w.heap.size w W1) := ⟨no_all hno, b1⟩
    clear hno b1
    go_wp2
    go_ret
    exact ⟨⟨_, rfl, by rw [K.out.1]; exact (H.out.2.1.below K.out.2).slv⟩, K.out.2.mono H.out.2.2.2.1⟩
  · have hil : i0 < n := by rw [← HN.out]; exact (List.getElem?_eq_some_iff.1 hi0).1
    obtain ⟨g, c', e, hg, pat⟩ := H.out.1.pat' (by rw [HN.out]; omega)
    rw [HN.out] at e
    cases e
    have E1 : ((i0 : Int) == -1) = false := by simp
    have h0n : (i0 : Int) + 1 ≤ 9223372036854775807 := by omega
    have hi0' : (0 : Int) ≤ (i0 : Int) := by omega
    have K : Hid (Below w.heap.size w W1 ∧ B ≤ g ∧ Cut W1 g c n i0 (i0 + 1) q l l ∧ i0 < n) := ⟨b1, hg, ⟨pat.below b1, HN.out, by
      rw [no_skip hi0 (by simp)]
      exact (no_all (fun x hx => by
        obtain ⟨t, ht, rfl⟩ := List.getElem_of_mem hx
        rw [List.length_take] at ht
        rw [List.getElem_take]
        exact hlow t _ (by omega) (List.getElem?_eq_getElem (by omega)))).symm, fun t _ => rfl⟩, hil⟩
    clear b1 hi0 hlow pat hg
    go_wp2_with fail
    go_loopw [5, 6] (fun u v wr => ∃ (i j : Nat) (L : List Int), i < j ∧ j ≤ n ∧ u = .int .i64 i ∧ v = .int .i64 j ∧ Cut wr g c n i j q l L ∧ Below B w wr ∧ w.heap.size ≤ wr.heap.size) (fun u v _ => n - (intOf v).toNat)
    case atStart => exact ⟨i0, i0 + 1, l, by omega, by have := K.out.2.2.2; omega, rfl, by go_num, K.out.2.2.1, K.out.1.mono H.out.2.2.2.1, K.out.1.size⟩
    case round =>
      obtain ⟨i, j, L, hij, hjn, rfl, rfl, hC, hBw, hsz⟩ := hrel
      have J : Hid (Cut wr g c n i j q l L ∧ Below B w wr ∧ w.heap.size ≤ wr.heap.size ∧ i < j ∧ j ≤ n) := ⟨hC, hBw, hsz, hij, hjn⟩
      have hj0 : (0 : Int) ≤ (j : Int) := by omega
      have hii : (0 : Int) ≤ (i : Int) := by omega
      have hin : i < n := by omega
      clear hC hBw hsz
      by_cases hit : j < n
      · have hj1 : (j : Int) < (n : Int) := by omega
        have hi1 : (i : Int) < (n : Int) := by omega
        obtain ⟨x, hx⟩ : ∃ x, L[j]? = some x := ⟨_, List.getElem?_eq_getElem (by rw [J.out.1.len]; exact hit)⟩
        have lp := lI (J.out.1.pat.sl kI) hx
        rw [Nat.zero_add] at lp
        have X : Hid (l[j]? = some x) := by rw [← J.out.1.top j (Nat.le_refl _)]; exact hx
        clear hx hij hjn
        go_wp2_with fail
        refine (samep_any x q b wr ((J.out.2.1.block b H.out.2.2.2.2.1).trans H.out.2.2.1)).mono ?_
        rintro _ V ⟨rfl, bV⟩
        obtain ⟨Q, hQ⟩ : ∃ z, (x == q) = z := ⟨_, rfl⟩
        have QQ : Hid ((x == q) = Q) := hQ
        rw [hQ]
        clear hQ lp
        cases Q with
        | false =>
          obtain ⟨U, sU, pU, gU⟩ := (J.out.1.pat.below bV).st1 kI (i := i) (j := 0) (q := i) (tv := 3) (y := x) (v := .int .i64 x) (List.getElem?_eq_getElem (by rw [J.out.1.len]; exact hin)) infoI (by decide) rfl (fun r => by
            match r with
            | 0 => rfl
            | r + 1 => rfl) (by show i = i * 1 + 0; omega)
          have G : Hid (Cut U g c n (i + 1) (j + 1) q l (L.set i x) ∧ Below B w U ∧ w.heap.size ≤ U.heap.size) := by
            refine ⟨⟨pU, by rw [List.length_set]; exact J.out.1.len, ?_, fun t ht => ?_⟩, ?_, Nat.le_trans J.out.2.2.1 (Nat.le_trans bV.size gU.size)⟩
            · rw [set_take (by rw [J.out.1.len]; exact hin), J.out.1.low, no_next X.out QQ.out]
            · rw [List.getElem?_set_ne (by have := J.out.2.2.2.1; omega)]
              exact J.out.1.top t (by omega)
            · exact gro (J.out.2.1.trans (bV.mono (Nat.le_trans H.out.2.2.2.1 J.out.2.2.1))) gU K.out.2.1 (Nat.le_trans H.out.2.2.2.1 (Nat.le_trans J.out.2.2.1 bV.size))
          clear pU gU bV
          go_wp2
          go_roundw
          case rel => exact ⟨i + 1, j + 1, L.set i x, by have := J.out.2.2.2.1; omega, by omega, by go_num, by go_num, G.out.1, G.out.2.1, G.out.2.2⟩
          case measure => simp [intOf]; omega
        | true =>
          have G : Hid (Cut V g c n i (j + 1) q l L ∧ Below B w V ∧ w.heap.size ≤ V.heap.size) := by
            have C := J.out.1.below bV
            exact ⟨⟨C.pat, C.len, by rw [C.low, no_skip X.out QQ.out], fun t ht => C.top t (by omega)⟩, J.out.2.1.trans (bV.mono (Nat.le_trans H.out.2.2.2.1 J.out.2.2.1)), Nat.le_trans J.out.2.2.1 bV.size⟩
          clear bV
          go_wp2
          go_roundw
          case rel => exact ⟨i, j + 1, L, by have := J.out.2.2.2.1; omega, by omega, rfl, by go_num, G.out.1, G.out.2.1, G.out.2.2⟩
          case measure => simp [intOf]; omega
      · obtain rfl : j = n := by omega
        have hj1 : ¬ (j : Int) < (j : Int) := by omega
        obtain ⟨V, hcl, sV, gV⟩ := J.out.1.pat.wipe (i := i) (by rw [J.out.1.len]; exact hin)
        rw [J.out.1.len] at hcl
        have s1 := suf_at g j c i hin (by have := (J.out.1.pat.sl kI).cap; rw [J.out.1.len] at this; exact this)
        have s2 : ∀ Z : World, (slS 61 (.slice (some ⟨g, 0, none⟩) j c) none (some (.int .i64 i)) none).run Try.prog Z = .ok (.slice (some ⟨g, 0, none⟩) i c) Z := slI_cut (some ⟨g, 0, none⟩) j c i (by omega) (by have := (J.out.1.pat.sl kI).cap; rw [J.out.1.len] at this; exact this)
        have G : Hid (SlAt eI V (some ⟨g, 0, none⟩) i c (noL q l) ∧ Below B w V) := ⟨by
          have e : L.take i = noL q l := by rw [J.out.1.low, List.take_of_length_le (by rw [HN.out]; exact Nat.le_refl _)]
          rw [← e]; exact sV, gro J.out.2.1 gV K.out.2.1 (Nat.le_trans H.out.2.2.2.1 J.out.2.2.1)⟩
        clear sV gV
        go_wp2
        go_ret
        exact ⟨⟨_, rfl, G.out.1.slv⟩, G.out.2⟩
end

end Go.Proofs.Ytgjagedngdhdaaa
