/-
  A call, as the laws have it: what it makes of a database; the walk of do.
-/
import Derived.Test.YtpbpofmlpbobmaaAwake
namespace Go.Proofs.Ytpbpofmlpbobmaa
set_option linter.unusedVariables false
set_option maxRecDepth 4000
set_option linter.unusedSimpArgs false
open Go.RowKit

/-- A call. -/
structure Oq where
  kind : Int
  k : Ky
  port : Int
  tick : Int
def Oq.cs (o : Oq) : Array Value := #[.int .i64 o.kind, .int .i64 o.k.vid, .int .u8 o.k.a, .int .u8 o.k.b, .int .u8 o.k.c, .int .u8 o.k.d, .int .u8 o.k.e, .int .u8 o.k.f, .int .i64 o.port, .int .i64 o.tick]
structure Oq.wf (o : Oq) : Prop where
  k : o.k.wf
theorem Oq.size (o : Oq) : o.cs.size = 10 := rfl
theorem Oq.one (o : Oq) : ∀ x ∈ o.cs.toList, x.oneCell' = true := by
  intro x hx
  simp only [Oq.cs, List.mem_cons, List.not_mem_nil, or_false] at hx
  rcases hx with rfl | rfl | rfl | rfl | rfl | rfl | rfl | rfl | rfl | rfl <;> rfl
theorem infoO : (Try.prog.info? 36).map (·.size) = some 10 := by kernel_rfl
theorem rtO : RowTy 36 10 := ⟨infoO, _, Try.underlying36, rfl⟩
theorem ldO (x : Value) : Instr.loadAt 36 x = ldS 36 x := rfl
theorem stO (x y : Value) : Instr.storeAt 36 x y = stS 36 x y := rfl
/-- The address in a call's variable. -/
theorem RvAt.omac {W : World} {b : Nat} {o : Oq} (h : RvAt W b 36 o.cs) : (ldS 34 (.pointer (some ⟨b, 2, none⟩))).run Try.prog W = .ok (.agg o.k.mc) W :=
  run_loadAt_mid W b 2 34 o.k.mc.toList _ (fun j v hv => h.cell _ _ (by
    match j, hv with
    | 0, hx => cases hx; rfl
    | 1, hx => cases hx; rfl
    | 2, hx => cases hx; rfl
    | 3, hx => cases hx; rfl
    | 4, hx => cases hx; rfl
    | 5, hx => cases hx; rfl
    | j + 6, hx => simp [Ky.mc] at hx)) Try.underlying34 rfl infoM
/-- What a call makes of the entries. -/
def doS (c : Cf) (l : List En) (o : Oq) : List En :=
  if o.kind = 1 then (learnS c l o.k o.port o.tick).1 else if o.kind = 2 then (staticS c l o.k o.port).1 else if o.kind = 3 then (unstaticS l o.k).1
  else if o.kind = 5 then (remS l (ageSh c.age o.tick)).1 else if o.kind = 6 then (remS l (flushSh o.port)).1 else if o.kind = 7 then (remS l (dropSh o.k.vid)).1 else l
attribute [local go_sem ↓] ldK stK ldM stM ldP stP ldE stE ldO stO
set_option maxHeartbeats 4000000 in
theorem do_any (p b : Nat) (c : Cf) (l : List En) (o : Oq) (w : World) (h : Db w p b c l) (ho : o.wf) :
    Calls Try.prog 29 #[.pointer (some ⟨p, 0, none⟩), .agg o.cs] w fun r w' => r = .returned (.tuple #[]) ∧ Db w' p b c (doS c l o) ∧ w.grownBy w' (some b) := by
  obtain ⟨W, hW⟩ : ∃ W, w.alloc (.cells o.cs 36) = W := ⟨_, rfl⟩
  have rv : RvAt W w.heap.size 36 o.cs := by rw [← hW]; exact RvAt.new w _ _
  have bW : Below w.heap.size w W := by rw [← hW]; exact (Below.refl _ _).alloc (Nat.le_refl _) _
  have c0 := rv.cell 0 (.int .i64 o.kind) rfl
  have c1 := rv.cell 1 (.int .i64 o.k.vid) rfl
  have c8 := rv.cell 8 (.int .i64 o.port) rfl
  have c9 := rv.cell 9 (.int .i64 o.tick) rfl
  have cm := rv.omac
  have H : Hid (Db W p b c l ∧ o.k.wf ∧ w.grownBy W (some b)) := ⟨h.below bW, ho.k, grown_of_below bW _⟩
  clear rv bW h ho
  by_cases k1 : o.kind = 1
  · have hE : Hid (doS c l o = (learnS c l o.k o.port o.tick).1) := show _ = _ by unfold doS; rw [if_pos k1]
    rw [k1] at c0
    clear k1
    go_enter Try.func29, Try.ntmps29
    go_wp2_with fail
    refine (learn_any p b c l o.k o.port o.tick _ H.out.1 H.out.2.1).mono ?_
    rintro _ V ⟨rfl, d, g⟩
    have G : Hid (Db V p b c (learnS c l o.k o.port o.tick).1 ∧ w.grownBy V (some b)) := ⟨d, H.out.2.2.andThen g (fun j e => .inr e)⟩
    clear d g
    go_wp2
    go_end0
    exact ⟨rfl, by rw [hE.out]; exact G.out.1, G.out.2⟩
  by_cases k2 : o.kind = 2
  · have hE : Hid (doS c l o = (staticS c l o.k o.port).1) := show _ = _ by unfold doS; rw [if_neg k1, if_pos k2]
    rw [k2] at c0
    clear k1 k2
    go_enter Try.func29, Try.ntmps29
    go_wp2_with fail
    refine (static_any p b c l o.k o.port _ H.out.1 H.out.2.1).mono ?_
    rintro _ V ⟨rfl, d, g⟩
    have G : Hid (Db V p b c (staticS c l o.k o.port).1 ∧ w.grownBy V (some b)) := ⟨d, H.out.2.2.andThen g (fun j e => .inr e)⟩
    clear d g
    go_wp2
    go_end0
    exact ⟨rfl, by rw [hE.out]; exact G.out.1, G.out.2⟩
  by_cases k3 : o.kind = 3
  · have hE : Hid (doS c l o = (unstaticS l o.k).1) := show _ = _ by unfold doS; rw [if_neg k1, if_neg k2, if_pos k3]
    rw [k3] at c0
    clear k1 k2 k3
    go_enter Try.func29, Try.ntmps29
    go_wp2_with fail
    refine (unstatic_any p b c l o.k _ H.out.1 H.out.2.1).mono ?_
    rintro _ V ⟨rfl, d, g⟩
    have G : Hid (Db V p b c (unstaticS l o.k).1 ∧ w.grownBy V (some b)) := ⟨d, H.out.2.2.andThen g (fun j e => .inr e)⟩
    clear d g
    go_wp2
    go_end0
    exact ⟨rfl, by rw [hE.out]; exact G.out.1, G.out.2⟩
  by_cases k5 : o.kind = 5
  · have hE : Hid (doS c l o = (remS l (ageSh c.age o.tick)).1) := show _ = _ by unfold doS; rw [if_neg k1, if_neg k2, if_neg k3, if_pos k5]
    rw [k5] at c0
    clear k1 k2 k3 k5
    go_enter Try.func29, Try.ntmps29
    go_wp2_with fail
    refine (age_any p b c l o.tick _ H.out.1).mono ?_
    rintro _ V ⟨rfl, d, g⟩
    have G : Hid (Db V p b c (remS l (ageSh c.age o.tick)).1 ∧ w.grownBy V (some b)) := ⟨d, H.out.2.2.andThen g (fun j e => .inr e)⟩
    clear d g
    go_wp2
    go_end0
    exact ⟨rfl, by rw [hE.out]; exact G.out.1, G.out.2⟩
  by_cases k6 : o.kind = 6
  · have hE : Hid (doS c l o = (remS l (flushSh o.port)).1) := show _ = _ by unfold doS; rw [if_neg k1, if_neg k2, if_neg k3, if_neg k5, if_pos k6]
    rw [k6] at c0
    clear k1 k2 k3 k5 k6
    go_enter Try.func29, Try.ntmps29
    go_wp2_with fail
    refine (flush_any p b c l o.port _ H.out.1).mono ?_
    rintro _ V ⟨rfl, d, g⟩
    have G : Hid (Db V p b c (remS l (flushSh o.port)).1 ∧ w.grownBy V (some b)) := ⟨d, H.out.2.2.andThen g (fun j e => .inr e)⟩
    clear d g
    go_wp2
    go_end0
    exact ⟨rfl, by rw [hE.out]; exact G.out.1, G.out.2⟩
  by_cases k7 : o.kind = 7
  · have hE : Hid (doS c l o = (remS l (dropSh o.k.vid)).1) := show _ = _ by unfold doS; rw [if_neg k1, if_neg k2, if_neg k3, if_neg k5, if_neg k6, if_pos k7]
    rw [k7] at c0
    clear k1 k2 k3 k5 k6 k7
    go_enter Try.func29, Try.ntmps29
    go_wp2_with fail
    refine (drop_any p b c l o.k.vid _ H.out.1).mono ?_
    rintro _ V ⟨rfl, d, g⟩
    have G : Hid (Db V p b c (remS l (dropSh o.k.vid)).1 ∧ w.grownBy V (some b)) := ⟨d, H.out.2.2.andThen g (fun j e => .inr e)⟩
    clear d g
    go_wp2
    go_end0
    exact ⟨rfl, by rw [hE.out]; exact G.out.1, G.out.2⟩
  · have hE : Hid (doS c l o = l) := show _ = _ by unfold doS; rw [if_neg k1, if_neg k2, if_neg k3, if_neg k5, if_neg k6, if_neg k7]
    go_enter Try.func29, Try.ntmps29
    go_wp2
    go_end0
    exact ⟨rfl, by rw [hE.out]; exact H.out.1, H.out.2.2⟩
end Go.Proofs.Ytpbpofmlpbobmaa
