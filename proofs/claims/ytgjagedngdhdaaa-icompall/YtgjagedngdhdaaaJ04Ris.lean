/-
  Whether rows rise, whether all ports are there, the kinds of ports, room: walks of the code, each for every input. Rows copied, ports of a VLAN: walks of the code, each for every input. What may be provisioned: walks of the code, each for every input.
-/
import Derived.Test.YtgjagedngdhdaaaJ03Kind
import Derived.Test.YtgjagedngdhdaaaJ02Knd
namespace Go.Proofs.Ytgjagedngdhdaaa

section
set_option linter.unusedVariables false
set_option maxRecDepth 4000
set_option linter.unusedSimpArgs false
open Go.RowKit
attribute [local go_sem ↓] ldM stM ldC stC ldB stB ldP stP apI bsI
attribute [local go_sem] bsI_is bsI2_is

def ltR (a b : Mr) : Bool := decide (a.v < b.v)
end

section
set_option linter.unusedVariables false
set_option maxRecDepth 4000
set_option linter.unusedSimpArgs false
open Go.RowKit
attribute [local go_sem ↓] ldM stM ldC stC ldB stB ldP stP apI bsI
attribute [local go_sem] bsI_is bsI2_is

attribute [local go_sem ↓] apK apM apC apB bsK bsM bsC bsB
theorem Calls.ret_eq {P : Program} {f : FuncId} {args : Array Value} {w : World} {u v : Value} {Q : World → Prop} (e : u = v) (h : Calls P f args w fun r w' => r = .returned u ∧ Q w') : Calls P f args w fun r w' => r = .returned v ∧ Q w' := by subst e; exact h
theorem ret_b {P : Program} {f : FuncId} {args : Array Value} {w : World} {u v : Bool} {Q : World → Prop} (h : Calls P f args w fun r w' => r = .returned (.bool u) ∧ Q w') (e : u = v) : Calls P f args w fun r w' => r = .returned (.bool v) ∧ Q w' := Calls.ret_eq (congrArg Value.bool e) h
theorem ret_i {P : Program} {f : FuncId} {args : Array Value} {w : World} {u v : Int} {Q : World → Prop} (h : Calls P f args w fun r w' => r = .returned (.int .i64 u) ∧ Q w') (e : u = v) : Calls P f args w fun r w' => r = .returned (.int .i64 v) ∧ Q w' := Calls.ret_eq (congrArg (Value.int .i64) e) h
theorem Own.zero {α : Type} {e : El α} (k : e.Ok) (w : World) : Own e (w.alloc (.cells #[] e.ty)) w.heap.size (.slice (some ⟨w.heap.size, 0, none⟩) 0 0) [] := by
  have h : PAt e (w.alloc (.cells #[] e.ty)) w.heap.size 0 ([] : List α) := ⟨#[], RvAt.new _ _ _, Nat.le_refl _, by unfold maxLen; omega, by simp, by simp [El.fl]⟩
  exact h.own k (Nat.le_refl _)
theorem nyI (w : World) : (binOp .eql 61 (.slice none 0 0) (.slice none 0 0)).run Try.prog w = .ok (.bool true) w := by kernel_rfl
theorem nnI (x : Addr) (n c : Nat) (w : World) : (binOp .eql 61 (.slice (some x) n c) (.slice none 0 0)).run Try.prog w = .ok (.bool false) w := by kernel_rfl
theorem bzI (w : World) : (bsS 61 0 #[]).run Try.prog w = .ok (.slice (some ⟨w.heap.size, 0, none⟩) 0 0) (w.alloc (.cells #[] 3)) := by kernel_rfl
section
attribute [local go_sem] nyI nnI bzI
end
theorem nyK (w : World) : (binOp .eql 24 (.slice none 0 0) (.slice none 0 0)).run Try.prog w = .ok (.bool true) w := by kernel_rfl
theorem nnK (x : Addr) (n c : Nat) (w : World) : (binOp .eql 24 (.slice (some x) n c) (.slice none 0 0)).run Try.prog w = .ok (.bool false) w := by kernel_rfl
theorem bzK (w : World) : (bsS 24 0 #[]).run Try.prog w = .ok (.slice (some ⟨w.heap.size, 0, none⟩) 0 0) (w.alloc (.cells #[] 95)) := by kernel_rfl
section
attribute [local go_sem] nyK nnK bzK
end
theorem nyM (w : World) : (binOp .eql 25 (.slice none 0 0) (.slice none 0 0)).run Try.prog w = .ok (.bool true) w := by kernel_rfl
theorem nnM (x : Addr) (n c : Nat) (w : World) : (binOp .eql 25 (.slice (some x) n c) (.slice none 0 0)).run Try.prog w = .ok (.bool false) w := by kernel_rfl
theorem bzM (w : World) : (bsS 25 0 #[]).run Try.prog w = .ok (.slice (some ⟨w.heap.size, 0, none⟩) 0 0) (w.alloc (.cells #[] 100)) := by kernel_rfl
section
attribute [local go_sem] nyM nnM bzM
end
theorem nyC (w : World) : (binOp .eql 26 (.slice none 0 0) (.slice none 0 0)).run Try.prog w = .ok (.bool true) w := by kernel_rfl
theorem nnC (x : Addr) (n c : Nat) (w : World) : (binOp .eql 26 (.slice (some x) n c) (.slice none 0 0)).run Try.prog w = .ok (.bool false) w := by kernel_rfl
theorem bzC (w : World) : (bsS 26 0 #[]).run Try.prog w = .ok (.slice (some ⟨w.heap.size, 0, none⟩) 0 0) (w.alloc (.cells #[] 102)) := by kernel_rfl
section
attribute [local go_sem] nyC nnC bzC
end
theorem nyB (w : World) : (binOp .eql 27 (.slice none 0 0) (.slice none 0 0)).run Try.prog w = .ok (.bool true) w := by kernel_rfl
theorem nnB (x : Addr) (n c : Nat) (w : World) : (binOp .eql 27 (.slice (some x) n c) (.slice none 0 0)).run Try.prog w = .ok (.bool false) w := by kernel_rfl
theorem bzB (w : World) : (bsS 27 0 #[]).run Try.prog w = .ok (.slice (some ⟨w.heap.size, 0, none⟩) 0 0) (w.alloc (.cells #[] 76)) := by kernel_rfl
section
attribute [local go_sem] nyB nnB bzB
end
set_option maxHeartbeats 2000000 in
theorem rpts_any (x : Pr) (p : Pv) (vid : Int) (w : World) (h : IsPv w x p) :
    Calls Try.prog 104 #[.agg x.cs, .int .i64 vid] w fun r w' => ∃ v, r = .returned (.tuple #[v, .bool (pts p vid).isSome]) ∧ SlV eI w' v ((pts p vid).getD []) ∧ Below w.heap.size w w' := by
  obtain ⟨rr, ⟨a, n, c, hv, hs⟩, hm⟩ := h.b
  obtain ⟨W, hW, r0, bW, zW⟩ := PrAt.new w x
  have c7 := r0.b
  rw [hv] at c7
  have hnn := hs.int
  obtain ⟨R, hR⟩ : ∃ z, pts p vid = z := ⟨_, rfl⟩
  have H : Hid (SlAt eB W a n c rr ∧ Mem W rr p.bs ∧ rr.length = n ∧ Below w.heap.size w W ∧ PrAt W w.heap.size x ∧ x.b = .slice a n c) := ⟨hs.below bW, hm.below bW, hs.len, bW, r0, hv⟩
  have HR : Hid (pts p vid = R) := hR
  rw [hR]
  clear hs bW zW r0 h hv hR hm
  go_enter Try.func104, Try.ntmps104
  go_wp2_with fail
  go_loopw [6] (fun v wr => ∃ i : Nat, i ≤ n ∧ v = .int .i64 i ∧ R = ptl vid (p.bs.drop i) ∧ Below W.heap.size W wr) (fun v _ => n - (intOf v).toNat)
  case atStart => exact ⟨0, by omega, rfl, HR.out.symm, Below.refl _ _⟩
  case round =>
    obtain ⟨i, hi, rfl, hf, hB⟩ := hrel
    have J : Hid (R = ptl vid (p.bs.drop i) ∧ Below W.heap.size W wr) := ⟨hf, hB⟩
    have hi0 : (0 : Int) ≤ (i : Int) := by omega
    clear c7
    have c7 := (H.out.2.2.2.2.1.below hB).b
    rw [H.out.2.2.2.2.2] at c7
    by_cases hit : i < n
    · have hi1 : (i : Int) < (n : Int) := by omega
      obtain ⟨b, o, rfl⟩ := H.out.1.some' (by omega)
      obtain ⟨y, z, hy, hz, hvz, hps⟩ := H.out.2.1.get (i := i) (by rw [← H.out.2.1.len, H.out.2.2.1]; exact hit)
      have l0 := lB0 (H.out.1.below hB) hy
      have l1 := lB1 (H.out.1.below hB) hy
      have HX : Hid (p.bs[i]? = some z ∧ y.v = z.v ∧ SlAt eI W y.a y.n y.c z.ps) := ⟨hz, hvz, hps⟩
      clear hf hB hy hz hvz hps
      by_cases e0 : y.v = vid
      · have q0 : (y.v == vid) = true := by simp [e0]
        have E : Hid (R = some z.ps) := by rw [J.out.1, ptl_yes HX.out.1 (by rw [← HX.out.2.1]; exact e0)]; exact rfl
        clear e0
        go_wp2
        go_returns
        exact ⟨_, by rw [E.out]; rfl, by rw [E.out]; exact (HX.out.2.2.below J.out.2).slv, below_over H.out.2.2.2.1 J.out.2⟩
      · have q0 : (y.v == vid) = false := by simp [e0]
        have E : Hid (R = ptl vid (p.bs.drop (i + 1))) := by rw [J.out.1, ptl_no HX.out.1 (by rw [← HX.out.2.1]; exact e0)]; exact rfl
        clear e0
        go_wp2
        go_roundw
        case rel => exact ⟨i + 1, by omega, by go_num, E.out, J.out.2⟩
        case measure => simp [intOf]; omega
    · have hin : i = n := by omega
      subst hin
      have hi1 : ¬ (i : Int) < (i : Int) := by omega
      have E : Hid (R = none) := by rw [J.out.1, ptl_end (by rw [← H.out.2.1.len, H.out.2.2.1]; exact Nat.le_refl _)]; exact rfl
      clear hf hB
      go_wp2
      go_returns
      exact ⟨_, by rw [E.out]; rfl, by rw [E.out]; exact SlV.none' _, below_over H.out.2.2.2.1 J.out.2⟩
end

section
set_option linter.unusedVariables false
set_option maxRecDepth 4000
set_option linter.unusedSimpArgs false
open Go.RowKit
attribute [local go_sem ↓] ldM stM ldC stC ldB stB ldP stP apI bsI
attribute [local go_sem] bsI_is bsI2_is

theorem Mem.vs {W : World} {r : List Mr} {l : List Mb} (h : Mem W r l) : r.map (fun m => m.v) = l.map (fun m => m.v) := by
  refine List.ext_getElem? fun i => ?_
  rw [List.getElem?_map, List.getElem?_map]
  by_cases hi : i < l.length
  · obtain ⟨x, y, hx, hy, e, _⟩ := h.get hi
    rw [hx, hy]
    simp [e]
  · rw [List.getElem?_eq_none (by rw [h.len]; omega), List.getElem?_eq_none (by omega)]
    rfl
theorem Mem.ris {W : World} {r : List Mr} {l : List Mb} (h : Mem W r l) : ris ltR r = ris ltB l := by
  have h1 := ris_map (lt := ltI) (f := fun m : Mr => m.v) r
  have h2 := ris_map (lt := ltI) (f := fun m : Mb => m.v) l
  rw [h.vs] at h1
  exact h1.symm.trans h2
theorem ldO (x : Value) : Instr.loadAt 23 x = ldS 23 x := rfl
attribute [local go_sem ↓] ldO
theorem PrAt.own' {W : World} {b : Nat} {x : Pr} (h : PrAt W b x) : (ldS 23 (.pointer (some ⟨b, 0, none⟩))).run Try.prog W = .ok (.agg x.o.cs) W := h.own
def erC (b : Bool) : Int := if b then 0 else 180
end

end Go.Proofs.Ytgjagedngdhdaaa
