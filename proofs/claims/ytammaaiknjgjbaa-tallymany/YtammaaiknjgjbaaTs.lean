/-
  The definition's tally: the walk of Sum, for every input.
-/
import Derived.Test.YtammaaiknjgjbaaTa
namespace Go.Proofs.Ytammaaiknjgjbaa
set_option linter.unusedVariables false
set_option maxRecDepth 4000
set_option linter.unusedSimpArgs false
open Go.RowKit
attribute [local go_sem ↓] apI bsI ldR stR stI
attribute [local go_sem] bzI
/-- Of the first i, each once. -/
def sumT (N l : List Int) : Nat → Int
  | 0 => 0
  | i + 1 => sumT N l i + if (l.take i).contains (l.getD i 0) then 0 else getN N (l.getD i 0)
theorem sumT_le {N : List Int} (hN : IsN N) (l : List Int) : ∀ i, 0 ≤ sumT N l i ∧ sumT N l i ≤ i * 1125899906842624
  | 0 => ⟨Int.le_refl _, by simp [sumT]⟩
  | i + 1 => by
    have h1 := sumT_le hN l i
    have h2 := hN.get0 (l.getD i 0)
    unfold sumT
    split <;> constructor <;> omega
theorem take_has {l : List Int} {k : Nat} {y : Int} (hy : l[k]? = some y) (x : Int) : (l.take (k + 1)).contains x = ((l.take k).contains x || (y == x)) := by
  have hk := (List.getElem?_eq_some_iff.1 hy).1
  have e : l.take (k + 1) = l.take k ++ [y] := by
    rw [List.take_add_one, hy]
    rfl
  rw [e, List.contains_append]
  congr 1
  rw [Bool.eq_iff_iff]
  simp
  exact eq_comm
structure SmS (W V : World) (a : Option Addr) (c : Nat) : Prop where
  b : Below W.heap.size W V
  r : RtAt V W.heap.size (.slice a 15 c)
theorem SmS.below {W V V' : World} {a : Option Addr} {c : Nat} (h : SmS W V a c) (hb : Below V.heap.size V V') : SmS W V' a c := ⟨below_over h.b hb, h.r.below hb⟩
set_option maxHeartbeats 8000000 in
theorem rsum_any {W : World} {a : Option Addr} {c : Nat} {N : List Int} (h : SlAt eI W a 15 c N) (hN : IsN N) {a2 : Option Addr} {n c2 : Nat} {l : List Int} (hs : SlAt eW W a2 n c2 l) (hn : n ≤ 1000) :
    Calls Try.prog 20 #[.agg #[.slice a 15 c], .slice a2 n c2] W fun e W' => e = .returned (.int .i64 (sumT N l n)) ∧ Below W.heap.size W W' := by
  obtain ⟨V, hV, r1, b1, z1⟩ := RtAt.new W (.slice a 15 c)
  have HI : Hid (SlAt eI W a 15 c N ∧ SlAt eW W a2 n c2 l) := ⟨h, hs⟩
  have HS : Hid (SmS W V a c) := ⟨b1, r1⟩
  clear h hs r1 b1 z1
  go_enter Try.func20, Try.ntmps20
  go_wp2_with fail
  go_loopw [5, 6] (fun v5 v6 wr => ∃ i : Nat, i ≤ n ∧ v5 = .int .i64 (sumT N l i) ∧ v6 = .int .i64 i ∧ SmS W wr a c) (fun _ v _ => n - (intOf v).toNat)
  case atStart => exact ⟨0, by omega, rfl, rfl, HS.out⟩
  case round =>
    obtain ⟨i, hi, rfl, rfl, hS⟩ := hrel
    obtain ⟨X, hX⟩ : ∃ e, wr = e := ⟨_, rfl⟩
    rw [hX] at hS ⊢
    have J : Hid (SmS W X a c) := hS
    have hi0 : (0 : Int) ≤ (i : Int) := by omega
    clear hS hX HS hV
    have hsb := sumT_le hN l i
    obtain ⟨sm, hsm⟩ : ∃ e, sumT N l i = e := ⟨_, rfl⟩
    rw [hsm] at hsb ⊢
    have hs0 := hsb.1
    have hs1 : sm ≤ 1125899906842624000 := by have := hsb.2; omega
    clear hsb
    by_cases hit : i < n
    · have hi1 : (i : Int) < (n : Int) := by omega
      obtain ⟨b2, o2, rfl⟩ := HI.out.2.some' (by omega)
      obtain ⟨x, hx⟩ : ∃ t, l[i]? = some t := ⟨_, List.getElem?_eq_getElem (by rw [HI.out.2.len]; exact hit)⟩
      have hd : l.getD i 0 = x := by rw [List.getD_eq_getElem?_getD, hx]; rfl
      have e1 : sumT N l (i + 1) = sm + if (l.take i).contains x then 0 else getN N x := by rw [← hsm, sumT, hd]
      have HX : Hid (l[i]? = some x ∧ i < n ∧ sumT N l (i + 1) = sm + if (l.take i).contains x then 0 else getN N x) := ⟨hx, hit, e1⟩
      clear hx hd e1 hit hsm
      go_wp2_with fail
      go_loopw [7, 8] (fun v7 v8 wx => ∃ k : Nat, k ≤ i ∧ v7 = .bool ((l.take k).contains x) ∧ v8 = .int .i64 k ∧ SmS W wx a c) (fun _ v _ => i - (intOf v).toNat)
      case atStart => exact ⟨0, by omega, rfl, rfl, J.out⟩
      case round =>
        obtain ⟨k, hk, rfl, rfl, hS⟩ := hrel
        obtain ⟨Y, hY⟩ : ∃ e, wr = e := ⟨_, rfl⟩
        rw [hY] at hS ⊢
        have J2 : Hid (SmS W Y a c) := hS
        have hk0 : (0 : Int) ≤ (k : Int) := by omega
        clear hS hY
        by_cases hki : k < i
        · have hk1 : (k : Int) < (i : Int) := by omega
          have hk2 : (k : Int) < (n : Int) := by omega
          obtain ⟨y, hy⟩ : ∃ t, l[k]? = some t := ⟨_, List.getElem?_eq_getElem (by rw [HI.out.2.len]; omega)⟩
          have et := take_has hy x
          have f0 : ∀ q : Later Y, q.val.cell? ⟨b2, o2 + k, none⟩ = some (.int .i64 y) := fun q => lW ((HI.out.2.below J2.out.b).below q.below) hy
          have f1 : ∀ q : Later Y, q.val.cell? ⟨b2, o2 + i, none⟩ = some (.int .i64 x) := fun q => lW ((HI.out.2.below J2.out.b).below q.below) HX.out.1
          have HK : Hid (k < i) := hki
          clear hki hy
          cases hc : (l.take k).contains x with
          | true =>
            rw [hc, Bool.true_or] at et
            have HT : Hid ((l.take (k + 1)).contains x = true) := et
            clear et hc
            go_wp2_with fail
            refine wp_region_later (by kernel_rfl) (by kernel_rfl) ?_
            repeat (go_big_quiet_step (first | exact rfl))
            refine wpQuiet_nil ?_
            intro _ hw'
            obtain ⟨q, rfl⟩ := hw'
            obtain ⟨X1, hX1⟩ : ∃ e, q.val = e := ⟨_, rfl⟩
            have K1 : Hid (SmS W X1 a c) := by rw [← hX1]; exact J2.out.below q.below
            rw [hX1]
            clear hX1 f0 f1
            go_wp2
            go_roundw
            case rel => exact ⟨k + 1, by have := HK.out; omega, by rw [HT.out], by go_num, K1.out⟩
            case measure => have := HK.out; simp [intOf]; omega
          | false =>
            rw [hc, Bool.false_or] at et
            have HT : Hid ((l.take (k + 1)).contains x = (y == x)) := et
            clear et hc
            go_wp2_with fail
            refine wp_region_later (by kernel_rfl) (by kernel_rfl) ?_
            repeat (go_big_quiet_step (first | exact rfl))
            refine wpQuiet_nil ?_
            intro _ hw'
            obtain ⟨q, rfl⟩ := hw'
            obtain ⟨X1, hX1⟩ : ∃ e, q.val = e := ⟨_, rfl⟩
            have K1 : Hid (SmS W X1 a c) := by rw [← hX1]; exact J2.out.below q.below
            rw [hX1]
            clear hX1 f0 f1
            go_wp2
            go_roundw
            case rel => exact ⟨k + 1, by have := HK.out; omega, by rw [HT.out], by go_num, K1.out⟩
            case measure => have := HK.out; simp [intOf]; omega
        · obtain rfl : k = i := by omega
          have hk1 : ¬ (k : Int) < (k : Int) := by omega
          have e1 := HX.out.2.2
          cases hc : (l.take k).contains x with
          | true =>
            rw [hc, if_pos rfl, Int.add_zero] at e1
            have HE : Hid (sumT N l (k + 1) = sm ∧ k < n) := ⟨e1, HX.out.2.1⟩
            clear e1 hc hki
            go_wp2
            go_roundw
            case rel => exact ⟨k + 1, by have := HE.out.2; omega, by rw [HE.out.1], by go_num, J2.out⟩
            case measure => have := HE.out.2; simp [intOf]; omega
          | false =>
            rw [hc, if_neg (by simp)] at e1
            have HE : Hid (sumT N l (k + 1) = sm + getN N x ∧ k < n) := ⟨e1, HX.out.2.1⟩
            clear e1 hc hki
            go_wp2_with fail
            obtain ⟨X0, hX0⟩ : ∃ X0, Y.drew = X0 := ⟨_, rfl⟩
            have B0 : Below Y.heap.size Y X0 := by rw [← hX0]; exact (Below.refl _ _).drew
            have J3 : Hid (SmS W X0 a c) := J2.out.below B0
            refine wp_region_noPanic ?_
            refine wp_region_held_drew (S := fun w' => SmS W w' a c) (by kernel_rfl) (J2.out.below (Below.refl _ _).drew) (fun hHeld => ?_)
            rw [hX0] at hHeld ⊢
            clear hX0 B0
            refine wpAnyH_take (i := 0) (oi := { dst := some 34, op := Op.move (Operand.tmp 5), type := 3, pos := "ref.go:47", after := #[], guard := none }) (v := ?_) rfl (by kernel_rfl) (by kernel_rfl) (by kernel_rfl) (fun _ _ _ h => h) (Or.inl ⟨by rfl, ?_⟩) hHeld ?_
            rotate_left
            · intro W_ hSw_
              first | (go_simp; done) | (go_simp; with_reducible rfl)
            rotate_left
            try simp only [Act.put, List.setIfInBounds_toArray, List.set_cons_zero, List.set_cons_succ]
            refine wpAnyH_take (i := 1) (oi := { dst := some 35, op := Op.load 29 (Operand.tmp 2), type := 29, pos := "ref.go:47", after := #[], guard := none }) (v := ?_) rfl (by kernel_rfl) (by kernel_rfl) (by kernel_rfl) (fun _ _ _ h => h) (Or.inl ⟨by rfl, ?_⟩) hHeld ?_
            rotate_left
            · intro W_ hSw_
              have l_ := RtAt.ld hSw_.r
              first | (go_simp; done) | (go_simp; with_reducible rfl)
            rotate_left
            try simp only [Act.put, List.setIfInBounds_toArray, List.set_cons_zero, List.set_cons_succ]
            refine wpAnyH_take (i := 2) (oi := { dst := some 36, op := Op.move (Operand.tmp 1), type := 23, pos := "ref.go:47", after := #[], guard := none }) (v := ?_) rfl (by kernel_rfl) (by kernel_rfl) (by kernel_rfl) (fun _ _ _ h => h) (Or.inl ⟨by rfl, ?_⟩) hHeld ?_
            rotate_left
            · intro W_ hSw_
              first | (go_simp; done) | (go_simp; with_reducible rfl)
            rotate_left
            try simp only [Act.put, List.setIfInBounds_toArray, List.set_cons_zero, List.set_cons_succ]
            refine wpAnyH_take (i := 3) (oi := { dst := some 37, op := Op.move (Operand.tmp 6), type := 3, pos := "ref.go:47", after := #[], guard := none }) (v := ?_) rfl (by kernel_rfl) (by kernel_rfl) (by kernel_rfl) (fun _ _ _ h => h) (Or.inl ⟨by rfl, ?_⟩) hHeld ?_
            rotate_left
            · intro W_ hSw_
              first | (go_simp; done) | (go_simp; with_reducible rfl)
            rotate_left
            try simp only [Act.put, List.setIfInBounds_toArray, List.set_cons_zero, List.set_cons_succ]
            refine wpAnyH_take (i := 4) (oi := { dst := some 38, op := Op.indexAddr 23 (Operand.tmp 36) (Operand.tmp 37), type := 0, pos := "ref.go:47", after := #[{ on := 2, ground := Ground.data }, { on := 3, ground := Ground.data }], guard := none }) (v := ?_) rfl (by kernel_rfl) (by kernel_rfl) (by kernel_rfl) (fun _ _ _ h => h) (Or.inl ⟨by rfl, ?_⟩) hHeld ?_
            rotate_left
            · intro W_ hSw_
              first | (go_simp; done) | (go_simp; with_reducible rfl)
            rotate_left
            try simp only [Act.put, List.setIfInBounds_toArray, List.set_cons_zero, List.set_cons_succ]
            refine wpAnyH_take (i := 5) (oi := { dst := some 39, op := Op.load 32 (Operand.tmp 38), type := 32, pos := "ref.go:47", after := #[{ on := 4, ground := Ground.data }], guard := none }) (v := ?_) rfl (by kernel_rfl) (by kernel_rfl) (by kernel_rfl) (fun _ _ _ h => h) (Or.inl ⟨by rfl, ?_⟩) hHeld ?_
            rotate_left
            · intro W_ hSw_
              have l_ := lW (HI.out.2.below hSw_.b) HX.out.1
              first | (go_simp; done) | (go_simp; with_reducible rfl)
            rotate_left
            try simp only [Act.put, List.setIfInBounds_toArray, List.set_cons_zero, List.set_cons_succ]
            refine wpAnyH_ready (rs := [6]) (by kernel_rfl) (by simp) ?_
            refine AllReadyH.cons (o := { dst := some 40, op := Op.call { callee := Callee.value (Operand.func 16), args := #[Operand.tmp 35, Operand.tmp 39], argTypes := #[29, 32] }, type := 3, pos := "ref.go:47", after := #[{ on := 1, ground := Ground.data }, { on := 5, ground := Ground.data }], guard := none }) rfl (fun K hK => ?_) AllReadyH.nil
            go_simp
            refine (rget_any (HI.out.1.below J3.out.b) hN x).mono ?_
            rintro _ X4 ⟨rfl, b4⟩
            have J4 : Hid (SmS W X4 a c) := J3.out.below b4
            obtain ⟨gx, hgx⟩ : ∃ e, getN N x = e := ⟨_, rfl⟩
            have hg0 := (hN.get0 x).1
            have hg1 := (hN.get0 x).2
            rw [hgx] at hg0 hg1 ⊢
            have pw : IntKind.i64.wrap (sm + gx) = sm + gx := IntWalk.i64_in _ (by omega)
            have HE2 : Hid (sumT N l (k + 1) = sm + gx) := by rw [← hgx]; exact HE.out.1
            clear hHeld b4 hgx
            refine hK.out _ _ J4.out (fun hHeld => ?_)
            clear hK K
            try simp only [Act.put, List.setIfInBounds_toArray, List.set_cons_zero, List.set_cons_succ]
            refine wpAnyH_ready (rs := [7]) (by kernel_rfl) (by simp) ?_
            refine AllReadyH.cons (o := { dst := some 41, op := Op.binOp BinOp.add 3 (Operand.tmp 34) (Operand.tmp 40) 3, type := 3, pos := "ref.go:47", after := #[{ on := 0, ground := Ground.data }, { on := 6, ground := Ground.data }], guard := none }) rfl (fun K hK => ?_) AllReadyH.nil
            go_simp
            clear hHeld
            refine hK.out _ _ J4.out (fun hHeld => ?_)
            clear hK K
            try simp only [Act.put, List.setIfInBounds_toArray, List.set_cons_zero, List.set_cons_succ]
            refine wpAnyH_ready (rs := [8]) (by kernel_rfl) (by simp) ?_
            refine AllReadyH.cons (o := { dst := some 5, op := Op.assign (Operand.tmp 41), type := 3, pos := "ref.go:47", after := #[{ on := 7, ground := Ground.data }, { on := 6, ground := Ground.chain }, { on := 0, ground := Ground.phase }, { on := 1, ground := Ground.phase }, { on := 2, ground := Ground.phase }, { on := 3, ground := Ground.phase }, { on := 4, ground := Ground.phase }, { on := 5, ground := Ground.phase }, { on := 6, ground := Ground.phase }, { on := 7, ground := Ground.phase }], guard := none }) rfl (fun K hK => ?_) AllReadyH.nil
            go_simp
            clear hHeld
            refine hK.out _ _ J4.out (fun hHeld => ?_)
            clear hK K
            try simp only [Act.put, List.setIfInBounds_toArray, List.set_cons_zero, List.set_cons_succ]
            refine wpAnyH_done (by kernel_rfl) ?_ _
            refine NoPanic.normal ?_
            clear hHeld
            go_wp2
            go_roundw
            case rel => exact ⟨k + 1, by have := HE.out.2; omega, by rw [HE2.out], by go_num, J4.out⟩
            case measure => have := HE.out.2; simp [intOf]; omega
    · obtain rfl : i = n := by omega
      have hi1 : ¬ (i : Int) < (i : Int) := by omega
      clear hit
      go_wp2
      go_ret
      exact ⟨rfl, J.out.b⟩
end Go.Proofs.Ytammaaiknjgjbaa
