/-
  Rows copied, ports of a VLAN: walks of the code, each for every input.
-/
import Derived.Test.YtmfjlhcobhilcabAsk
import Derived.Test.YtmfjlhcobhilcabRis
namespace Go.Proofs.Ytmfjlhcobhilcab
set_option linter.unusedVariables false
set_option maxRecDepth 4000
set_option linter.unusedSimpArgs false
open Go.RowKit
attribute [local go_sem ↓] ldM stM ldC stC ldB stB ldP stP apI bsI
attribute [local go_sem] bsI_is bsI2_is

attribute [local go_sem ↓] apK apM apC apB bsK bsM bsC bsB
theorem Calls.ret_eq {P : Program} {f : FuncId} {args : Array Value} {w : World} {u v : Value} {Q : World → Prop} (e : u = v) (h : Calls P f args w fun r w' => r = .returned u ∧ Q w') : Calls P f args w fun r w' => r = .returned v ∧ Q w' := by subst e; exact h
theorem ret_b {P : Program} {f : FuncId} {args : Array Value} {w : World} {u v : Bool} {Q : World → Prop} (h : Calls P f args w fun r w' => r = .returned (.bool u) ∧ Q w') (e : u = v) : Calls P f args w fun r w' => r = .returned (.bool v) ∧ Q w' := Calls.ret_eq (congrArg Value.bool e) h
theorem ret_i {P : Program} {f : FuncId} {args : Array Value} {w : World} {u v : Int} {Q : World → Prop} (h : Calls P f args w fun r w' => r = .returned (.int .i64 u) ∧ Q w') (e : u = v) : Calls P f args w fun r w' => r = .returned (.int .i64 v) ∧ Q w' := Calls.ret_eq (congrArg (Value.int .i64) e) h
theorem Own.zero {α : Type} {e : El α} (k : e.Ok) (w : World) : Own e (w.alloc (.cells #[] e.ty)) w.heap.size (.slice (some ⟨w.heap.size, 0, none⟩) 0 0) [] := by
  have h : PAt e (w.alloc (.cells #[] e.ty)) w.heap.size 0 ([] : List α) := ⟨#[], RvAt.new _ _ _, Nat.le_refl _, by unfold maxLen; omega, by simp, by simp [El.fl]⟩
  exact h.own k (Nat.le_refl _)
theorem nyI (w : World) : (binOp .eql 36 (.slice none 0 0) (.slice none 0 0)).run Try.prog w = .ok (.bool true) w := by kernel_rfl
theorem nnI (x : Addr) (n c : Nat) (w : World) : (binOp .eql 36 (.slice (some x) n c) (.slice none 0 0)).run Try.prog w = .ok (.bool false) w := by kernel_rfl
theorem bzI (w : World) : (bsS 36 0 #[]).run Try.prog w = .ok (.slice (some ⟨w.heap.size, 0, none⟩) 0 0) (w.alloc (.cells #[] 3)) := by kernel_rfl
section
attribute [local go_sem] nyI nnI bzI
set_option maxHeartbeats 2000000 in
theorem cloneI_any (a : Option Addr) (n c : Nat) (l : List Int) (w : World) (hs : SlAt eI w a n c l) (hn : n ≤ 1000) :
    Calls Try.prog 32 #[.slice a n c] w fun r w' => ∃ v, r = .returned v ∧ Own eI w' w.heap.size v l ∧ Below w.heap.size w w' := by
  cases a with
  | none =>
    obtain ⟨rfl, rfl⟩ := hs.nil rfl
    have hl : l = [] := List.eq_nil_of_length_eq_zero hs.len
    subst hl
    go_enter Try.func32, Try.ntmps32
    go_wp2
    go_ret
    exact ⟨_, rfl, Own.nil _ _, Below.refl _ _⟩
  | some x =>
    obtain ⟨W1, hW1⟩ : ∃ W1, w.alloc (.cells #[] 3) = W1 := ⟨_, rfl⟩
    have b1 : Below w.heap.size w W1 := by rw [← hW1]; exact (Below.refl _ _).alloc (Nat.le_refl _) _
    have o1 : Own eI W1 w.heap.size (.slice (some ⟨w.heap.size, 0, none⟩) 0 0) [] := by rw [← hW1]; exact Own.zero kI w
    obtain ⟨v, W2, ap0, o2, g2⟩ := o1.app kI (hs.below b1) (by have := hs.len; simp; omega) b1.size 36
    have ap : (apS 36 36 #[.slice (some ⟨w.heap.size, 0, none⟩) 0 0, .slice (some x) n c]).run Try.prog W1 = .ok v W2 := ap0
    rw [List.nil_append] at o2
    have b2 : Below w.heap.size w W2 := b1.trans (below_of_grown g2 b1.size (fun j e => by cases e; exact Nat.le_refl _))
    have F : Hid (Own eI W2 w.heap.size v l ∧ Below w.heap.size w W2) := ⟨o2, b2⟩
    clear hs b1 o1 o2 g2 b2 hn ap0
    go_enter Try.func32, Try.ntmps32
    go_wp2
    go_ret
    exact ⟨v, rfl, F.out.1, F.out.2⟩
end
theorem nyK (w : World) : (binOp .eql 24 (.slice none 0 0) (.slice none 0 0)).run Try.prog w = .ok (.bool true) w := by kernel_rfl
theorem nnK (x : Addr) (n c : Nat) (w : World) : (binOp .eql 24 (.slice (some x) n c) (.slice none 0 0)).run Try.prog w = .ok (.bool false) w := by kernel_rfl
theorem bzK (w : World) : (bsS 24 0 #[]).run Try.prog w = .ok (.slice (some ⟨w.heap.size, 0, none⟩) 0 0) (w.alloc (.cells #[] 31)) := by kernel_rfl
section
attribute [local go_sem] nyK nnK bzK
set_option maxHeartbeats 2000000 in
theorem cloneK_any (a : Option Addr) (n c : Nat) (l : List Int) (w : World) (hs : SlAt eK w a n c l) (hn : n ≤ 1000) :
    Calls Try.prog 35 #[.slice a n c] w fun r w' => ∃ v, r = .returned v ∧ Own eK w' w.heap.size v l ∧ Below w.heap.size w w' := by
  cases a with
  | none =>
    obtain ⟨rfl, rfl⟩ := hs.nil rfl
    have hl : l = [] := List.eq_nil_of_length_eq_zero hs.len
    subst hl
    go_enter Try.func35, Try.ntmps35
    go_wp2
    go_ret
    exact ⟨_, rfl, Own.nil _ _, Below.refl _ _⟩
  | some x =>
    obtain ⟨W1, hW1⟩ : ∃ W1, w.alloc (.cells #[] 31) = W1 := ⟨_, rfl⟩
    have b1 : Below w.heap.size w W1 := by rw [← hW1]; exact (Below.refl _ _).alloc (Nat.le_refl _) _
    have o1 : Own eK W1 w.heap.size (.slice (some ⟨w.heap.size, 0, none⟩) 0 0) [] := by rw [← hW1]; exact Own.zero kK w
    obtain ⟨v, W2, ap0, o2, g2⟩ := o1.app kK (hs.below b1) (by have := hs.len; simp; omega) b1.size 24
    have ap : (apS 24 24 #[.slice (some ⟨w.heap.size, 0, none⟩) 0 0, .slice (some x) n c]).run Try.prog W1 = .ok v W2 := ap0
    rw [List.nil_append] at o2
    have b2 : Below w.heap.size w W2 := b1.trans (below_of_grown g2 b1.size (fun j e => by cases e; exact Nat.le_refl _))
    have F : Hid (Own eK W2 w.heap.size v l ∧ Below w.heap.size w W2) := ⟨o2, b2⟩
    clear hs b1 o1 o2 g2 b2 hn ap0
    go_enter Try.func35, Try.ntmps35
    go_wp2
    go_ret
    exact ⟨v, rfl, F.out.1, F.out.2⟩
end
theorem nyM (w : World) : (binOp .eql 25 (.slice none 0 0) (.slice none 0 0)).run Try.prog w = .ok (.bool true) w := by kernel_rfl
theorem nnM (x : Addr) (n c : Nat) (w : World) : (binOp .eql 25 (.slice (some x) n c) (.slice none 0 0)).run Try.prog w = .ok (.bool false) w := by kernel_rfl
theorem bzM (w : World) : (bsS 25 0 #[]).run Try.prog w = .ok (.slice (some ⟨w.heap.size, 0, none⟩) 0 0) (w.alloc (.cells #[] 40)) := by kernel_rfl
section
attribute [local go_sem] nyM nnM bzM
set_option maxHeartbeats 2000000 in
theorem cloneM_any (a : Option Addr) (n c : Nat) (l : List Mp) (w : World) (hs : SlAt eM w a n c l) (hn : n ≤ 1000) :
    Calls Try.prog 36 #[.slice a n c] w fun r w' => ∃ v, r = .returned v ∧ Own eM w' w.heap.size v l ∧ Below w.heap.size w w' := by
  cases a with
  | none =>
    obtain ⟨rfl, rfl⟩ := hs.nil rfl
    have hl : l = [] := List.eq_nil_of_length_eq_zero hs.len
    subst hl
    go_enter Try.func36, Try.ntmps36
    go_wp2
    go_ret
    exact ⟨_, rfl, Own.nil _ _, Below.refl _ _⟩
  | some x =>
    obtain ⟨W1, hW1⟩ : ∃ W1, w.alloc (.cells #[] 40) = W1 := ⟨_, rfl⟩
    have b1 : Below w.heap.size w W1 := by rw [← hW1]; exact (Below.refl _ _).alloc (Nat.le_refl _) _
    have o1 : Own eM W1 w.heap.size (.slice (some ⟨w.heap.size, 0, none⟩) 0 0) [] := by rw [← hW1]; exact Own.zero kM w
    obtain ⟨v, W2, ap0, o2, g2⟩ := o1.app kM (hs.below b1) (by have := hs.len; simp; omega) b1.size 25
    have ap : (apS 25 25 #[.slice (some ⟨w.heap.size, 0, none⟩) 0 0, .slice (some x) n c]).run Try.prog W1 = .ok v W2 := ap0
    rw [List.nil_append] at o2
    have b2 : Below w.heap.size w W2 := b1.trans (below_of_grown g2 b1.size (fun j e => by cases e; exact Nat.le_refl _))
    have F : Hid (Own eM W2 w.heap.size v l ∧ Below w.heap.size w W2) := ⟨o2, b2⟩
    clear hs b1 o1 o2 g2 b2 hn ap0
    go_enter Try.func36, Try.ntmps36
    go_wp2
    go_ret
    exact ⟨v, rfl, F.out.1, F.out.2⟩
end
theorem nyC (w : World) : (binOp .eql 26 (.slice none 0 0) (.slice none 0 0)).run Try.prog w = .ok (.bool true) w := by kernel_rfl
theorem nnC (x : Addr) (n c : Nat) (w : World) : (binOp .eql 26 (.slice (some x) n c) (.slice none 0 0)).run Try.prog w = .ok (.bool false) w := by kernel_rfl
theorem bzC (w : World) : (bsS 26 0 #[]).run Try.prog w = .ok (.slice (some ⟨w.heap.size, 0, none⟩) 0 0) (w.alloc (.cells #[] 42)) := by kernel_rfl
section
attribute [local go_sem] nyC nnC bzC
set_option maxHeartbeats 2000000 in
theorem cloneC_any (a : Option Addr) (n c : Nat) (l : List Cr) (w : World) (hs : SlAt eC w a n c l) (hn : n ≤ 1000) :
    Calls Try.prog 37 #[.slice a n c] w fun r w' => ∃ v, r = .returned v ∧ Own eC w' w.heap.size v l ∧ Below w.heap.size w w' := by
  cases a with
  | none =>
    obtain ⟨rfl, rfl⟩ := hs.nil rfl
    have hl : l = [] := List.eq_nil_of_length_eq_zero hs.len
    subst hl
    go_enter Try.func37, Try.ntmps37
    go_wp2
    go_ret
    exact ⟨_, rfl, Own.nil _ _, Below.refl _ _⟩
  | some x =>
    obtain ⟨W1, hW1⟩ : ∃ W1, w.alloc (.cells #[] 42) = W1 := ⟨_, rfl⟩
    have b1 : Below w.heap.size w W1 := by rw [← hW1]; exact (Below.refl _ _).alloc (Nat.le_refl _) _
    have o1 : Own eC W1 w.heap.size (.slice (some ⟨w.heap.size, 0, none⟩) 0 0) [] := by rw [← hW1]; exact Own.zero kC w
    obtain ⟨v, W2, ap0, o2, g2⟩ := o1.app kC (hs.below b1) (by have := hs.len; simp; omega) b1.size 26
    have ap : (apS 26 26 #[.slice (some ⟨w.heap.size, 0, none⟩) 0 0, .slice (some x) n c]).run Try.prog W1 = .ok v W2 := ap0
    rw [List.nil_append] at o2
    have b2 : Below w.heap.size w W2 := b1.trans (below_of_grown g2 b1.size (fun j e => by cases e; exact Nat.le_refl _))
    have F : Hid (Own eC W2 w.heap.size v l ∧ Below w.heap.size w W2) := ⟨o2, b2⟩
    clear hs b1 o1 o2 g2 b2 hn ap0
    go_enter Try.func37, Try.ntmps37
    go_wp2
    go_ret
    exact ⟨v, rfl, F.out.1, F.out.2⟩
end
theorem nyB (w : World) : (binOp .eql 27 (.slice none 0 0) (.slice none 0 0)).run Try.prog w = .ok (.bool true) w := by kernel_rfl
theorem nnB (x : Addr) (n c : Nat) (w : World) : (binOp .eql 27 (.slice (some x) n c) (.slice none 0 0)).run Try.prog w = .ok (.bool false) w := by kernel_rfl
theorem bzB (w : World) : (bsS 27 0 #[]).run Try.prog w = .ok (.slice (some ⟨w.heap.size, 0, none⟩) 0 0) (w.alloc (.cells #[] 38)) := by kernel_rfl
section
attribute [local go_sem] nyB nnB bzB
set_option maxHeartbeats 2000000 in
theorem cloneB_any (a : Option Addr) (n c : Nat) (l : List Mr) (w : World) (hs : SlAt eB w a n c l) (hn : n ≤ 1000) :
    Calls Try.prog 38 #[.slice a n c] w fun r w' => ∃ v, r = .returned v ∧ Own eB w' w.heap.size v l ∧ Below w.heap.size w w' := by
  cases a with
  | none =>
    obtain ⟨rfl, rfl⟩ := hs.nil rfl
    have hl : l = [] := List.eq_nil_of_length_eq_zero hs.len
    subst hl
    go_enter Try.func38, Try.ntmps38
    go_wp2
    go_ret
    exact ⟨_, rfl, Own.nil _ _, Below.refl _ _⟩
  | some x =>
    obtain ⟨W1, hW1⟩ : ∃ W1, w.alloc (.cells #[] 38) = W1 := ⟨_, rfl⟩
    have b1 : Below w.heap.size w W1 := by rw [← hW1]; exact (Below.refl _ _).alloc (Nat.le_refl _) _
    have o1 : Own eB W1 w.heap.size (.slice (some ⟨w.heap.size, 0, none⟩) 0 0) [] := by rw [← hW1]; exact Own.zero kB w
    obtain ⟨v, W2, ap0, o2, g2⟩ := o1.app kB (hs.below b1) (by have := hs.len; simp; omega) b1.size 27
    have ap : (apS 27 27 #[.slice (some ⟨w.heap.size, 0, none⟩) 0 0, .slice (some x) n c]).run Try.prog W1 = .ok v W2 := ap0
    rw [List.nil_append] at o2
    have b2 : Below w.heap.size w W2 := b1.trans (below_of_grown g2 b1.size (fun j e => by cases e; exact Nat.le_refl _))
    have F : Hid (Own eB W2 w.heap.size v l ∧ Below w.heap.size w W2) := ⟨o2, b2⟩
    clear hs b1 o1 o2 g2 b2 hn ap0
    go_enter Try.func38, Try.ntmps38
    go_wp2
    go_ret
    exact ⟨v, rfl, F.out.1, F.out.2⟩
end
set_option maxHeartbeats 2000000 in
theorem pts_any (x : Pr) (p : Pv) (vid : Int) (w : World) (h : IsPv w x p) (hl : ∀ m ∈ p.bs, m.ps.length ≤ 1000) :
    Calls Try.prog 10 #[.agg x.cs, .int .i64 vid] w fun r w' => ∃ v, r = .returned (.tuple #[v, .bool (pts p vid).isSome]) ∧ Own eI w' w.heap.size v ((pts p vid).getD []) ∧ Below w.heap.size w w' := by
  obtain ⟨rr, ⟨a, n, c, hv, hs⟩, hm⟩ := h.b
  obtain ⟨W, hW, r0, bW, zW⟩ := PrAt.new w x
  have c7 := r0.b
  rw [hv] at c7
  have hnn := hs.int
  obtain ⟨R, hR⟩ : ∃ z, pts p vid = z := ⟨_, rfl⟩
  have H : Hid (SlAt eB W a n c rr ∧ Mem W rr p.bs ∧ rr.length = n ∧ Below w.heap.size w W ∧ PrAt W w.heap.size x ∧ x.b = .slice a n c ∧ ∀ m ∈ p.bs, m.ps.length ≤ 1000) := ⟨hs.below bW, hm.below bW, hs.len, bW, r0, hv, hl⟩
  have HR : Hid (pts p vid = R) := hR
  rw [hR]
  clear hs bW zW r0 h hv hR hm hl
  go_enter Try.func10, Try.ntmps10
  go_wp2_with fail
  go_loopw [11] (fun v wr => ∃ i : Nat, i ≤ n ∧ v = .int .i64 i ∧ R = ptl vid (p.bs.drop i) ∧ Below W.heap.size W wr) (fun v _ => n - (intOf v).toNat)
  case atStart => exact ⟨0, by omega, rfl, HR.out.symm, Below.refl _ _⟩
  case round =>
    obtain ⟨i, hi, rfl, hf, hB⟩ := hrel
    have J : Hid (R = ptl vid (p.bs.drop i) ∧ Below W.heap.size W wr) := ⟨hf, hB⟩
    have hi0 : (0 : Int) ≤ (i : Int) := by omega
    clear c7
    have c7 := (H.out.2.2.2.2.1.below hB).b
    rw [H.out.2.2.2.2.2.1] at c7
    by_cases hit : i < n
    · have hi1 : (i : Int) < (n : Int) := by omega
      obtain ⟨b, o, rfl⟩ := H.out.1.some' (by omega)
      obtain ⟨y, z, hy, hz, hvz, hps⟩ := H.out.2.1.get (i := i) (by rw [← H.out.2.1.len, H.out.2.2.1]; exact hit)
      have l1 := lB (H.out.1.below hB) hy
      obtain ⟨V, sV, mV, bV⟩ := MrAt.put wr y
      have k0 := mV.c0
      have k1 := mV.c1
      have HX : Hid (p.bs[i]? = some z ∧ y.v = z.v ∧ SlAt eI V y.a y.n y.c z.ps ∧ Below W.heap.size W V) := ⟨hz, hvz, (hps.below J.out.2).below bV, below_over J.out.2 bV⟩
      clear hf hB hy hz hvz hps mV bV
      by_cases e0 : y.v = vid
      · have q0 : (y.v == vid) = true := by simp [e0]
        have E : Hid (R = some z.ps) := by rw [J.out.1, ptl_yes HX.out.1 (by rw [← HX.out.2.1]; exact e0)]; exact rfl
        have hn : y.n ≤ 1000 := by rw [← HX.out.2.2.1.len]; exact H.out.2.2.2.2.2.2 z (List.mem_of_getElem? HX.out.1)
        clear e0
        go_wp2_with fail
        refine (cloneI_any y.a y.n y.c z.ps _ HX.out.2.2.1 hn).mono ?_
        rintro _ X ⟨v, rfl, oX, bX⟩
        have K : Hid (Own eI X V.heap.size v z.ps ∧ Below V.heap.size V X) := ⟨oX, bX⟩
        clear oX bX hn
        go_wp2
        go_returns
        exact ⟨_, by rw [E.out]; rfl, by rw [E.out]; exact K.out.1.mono (below_over H.out.2.2.2.1 HX.out.2.2.2).size, below_over H.out.2.2.2.1 (below_over HX.out.2.2.2 K.out.2)⟩
      · have q0 : (y.v == vid) = false := by simp [e0]
        have E : Hid (R = ptl vid (p.bs.drop (i + 1))) := by rw [J.out.1, ptl_no HX.out.1 (by rw [← HX.out.2.1]; exact e0)]; exact rfl
        clear e0
        go_wp2
        go_roundw
        case rel => exact ⟨i + 1, by omega, by go_num, E.out, HX.out.2.2.2⟩
        case measure => simp [intOf]; omega
    · have hin : i = n := by omega
      subst hin
      have hi1 : ¬ (i : Int) < (i : Int) := by omega
      have E : Hid (R = none) := by rw [J.out.1, ptl_end (by rw [← H.out.2.1.len, H.out.2.2.1]; exact Nat.le_refl _)]; exact rfl
      clear hf hB
      go_wp2
      go_returns
      exact ⟨_, by rw [E.out]; rfl, by rw [E.out]; exact Own.nil _ _, below_over H.out.2.2.2.1 J.out.2⟩
set_option maxHeartbeats 2000000 in
theorem rpts_any (x : Pr) (p : Pv) (vid : Int) (w : World) (h : IsPv w x p) :
    Calls Try.prog 88 #[.agg x.cs, .int .i64 vid] w fun r w' => ∃ v, r = .returned (.tuple #[v, .bool (pts p vid).isSome]) ∧ SlV eI w' v ((pts p vid).getD []) ∧ Below w.heap.size w w' := by
  obtain ⟨rr, ⟨a, n, c, hv, hs⟩, hm⟩ := h.b
  obtain ⟨W, hW, r0, bW, zW⟩ := PrAt.new w x
  have c7 := r0.b
  rw [hv] at c7
  have hnn := hs.int
  obtain ⟨R, hR⟩ : ∃ z, pts p vid = z := ⟨_, rfl⟩
  have H : Hid (SlAt eB W a n c rr ∧ Mem W rr p.bs ∧ rr.length = n ∧ Below w.heap.size w W ∧ PrAt W w.heap.size x ∧ x.b = .slice a n c) := ⟨hs.below bW, hm.below bW, hs.len, bW, r0, hv⟩
  have HR : Hid (pts p vid = R) := hR
  rw [hR]
  clear hs bW zW r0 h hv hR hm
  go_enter Try.func88, Try.ntmps88
  go_wp2_with fail
  go_loopw [6] (fun v wr => ∃ i : Nat, i ≤ n ∧ v = .int .i64 i ∧ R = ptl vid (p.bs.drop i) ∧ Below W.heap.size W wr) (fun v _ => n - (intOf v).toNat)
  case atStart => exact ⟨0, by omega, rfl, HR.out.symm, Below.refl _ _⟩
  case round =>
    obtain ⟨i, hi, rfl, hf, hB⟩ := hrel
    have J : Hid (R = ptl vid (p.bs.drop i) ∧ Below W.heap.size W wr) := ⟨hf, hB⟩
    have hi0 : (0 : Int) ≤ (i : Int) := by omega
    clear c7
    have c7 := (H.out.2.2.2.2.1.below hB).b
    rw [H.out.2.2.2.2.2] at c7
    by_cases hit : i < n
    · have hi1 : (i : Int) < (n : Int) := by omega
      obtain ⟨b, o, rfl⟩ := H.out.1.some' (by omega)
      obtain ⟨y, z, hy, hz, hvz, hps⟩ := H.out.2.1.get (i := i) (by rw [← H.out.2.1.len, H.out.2.2.1]; exact hit)
      have l0 := lB0 (H.out.1.below hB) hy
      have l1 := lB1 (H.out.1.below hB) hy
      have HX : Hid (p.bs[i]? = some z ∧ y.v = z.v ∧ SlAt eI W y.a y.n y.c z.ps) := ⟨hz, hvz, hps⟩
      clear hf hB hy hz hvz hps
      by_cases e0 : y.v = vid
      · have q0 : (y.v == vid) = true := by simp [e0]
        have E : Hid (R = some z.ps) := by rw [J.out.1, ptl_yes HX.out.1 (by rw [← HX.out.2.1]; exact e0)]; exact rfl
        clear e0
        go_wp2
        go_returns
        exact ⟨_, by rw [E.out]; rfl, by rw [E.out]; exact (HX.out.2.2.below J.out.2).slv, below_over H.out.2.2.2.1 J.out.2⟩
      · have q0 : (y.v == vid) = false := by simp [e0]
        have E : Hid (R = ptl vid (p.bs.drop (i + 1))) := by rw [J.out.1, ptl_no HX.out.1 (by rw [← HX.out.2.1]; exact e0)]; exact rfl
        clear e0
        go_wp2
        go_roundw
        case rel => exact ⟨i + 1, by omega, by go_num, E.out, J.out.2⟩
        case measure => simp [intOf]; omega
    · have hin : i = n := by omega
      subst hin
      have hi1 : ¬ (i : Int) < (i : Int) := by omega
      have E : Hid (R = none) := by rw [J.out.1, ptl_end (by rw [← H.out.2.1.len, H.out.2.2.1]; exact Nat.le_refl _)]; exact rfl
      clear hf hB
      go_wp2
      go_returns
      exact ⟨_, by rw [E.out]; rfl, by rw [E.out]; exact SlV.none' _, below_over H.out.2.2.2.1 J.out.2⟩
theorem hasm_any (x : Pr) (p : Pv) (vid : Int) (w : World) (h : IsPv w x p) (hl : ∀ m ∈ p.bs, m.ps.length ≤ 1000) :
    Calls Try.prog 54 #[.agg x.cs, .int .i64 vid] w fun r w' => r = .returned (.bool (pts p vid).isSome) ∧ Below w.heap.size w w' := by
  obtain ⟨W, hW, r0, bW, zW⟩ := PrAt.new w x
  have l0 := r0.ld
  have P := pts_any x p vid W (h.below bW) hl
  have B : Hid (Below w.heap.size w W) := bW
  obtain ⟨R, hR⟩ : ∃ z, (pts p vid).isSome = z := ⟨_, rfl⟩
  rw [hR] at P ⊢
  have Q : Hid (Calls _ _ _ _ _) := P
  clear P bW zW r0 h hR hl
  go_enter Try.func54, Try.ntmps54
  go_wp2_with fail
  refine Q.out.mono ?_
  rintro _ Y ⟨v, rfl, _, hY⟩
  go_wp2
  go_ret
  exact ⟨rfl, below_over B.out hY⟩
theorem isc_any (x : Pr) (p : Pv) (s : Int) (w : World) (h : IsPv w x p) :
    Calls Try.prog 50 #[.agg x.cs, .int .i64 s] w fun r w' => r = .returned (.bool (car p s).2) ∧ Below w.heap.size w w' := by
  obtain ⟨W, hW, r0, bW, zW⟩ := PrAt.new w x
  have l0 := r0.ld
  have P := car_any x p s W (h.below bW)
  have B : Hid (Below w.heap.size w W) := bW
  obtain ⟨⟨u, R⟩, hR⟩ : ∃ z, car p s = z := ⟨_, rfl⟩
  rw [hR] at P ⊢
  have Q : Hid (Calls _ _ _ _ _) := P
  clear P bW zW r0 h hR
  go_enter Try.func50, Try.ntmps50
  go_wp2_with fail
  refine Q.out.mono ?_
  rintro _ Y ⟨rfl, hY⟩
  go_wp2
  go_ret
  exact ⟨rfl, below_over B.out hY⟩
end Go.Proofs.Ytmfjlhcobhilcab
