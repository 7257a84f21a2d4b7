/-
  The page's example: its walk, and those of what it is made of. A customer's frame into the backbone by definition: the walk of Encap, for every input.
-/
import Derived.Test.YtgjagedngdhdaaaJ27RAsk
import Derived.Test.YtgjagedngdhdaaaJ31En
namespace Go.Proofs.Ytgjagedngdhdaaa

section
set_option linter.unusedVariables false
set_option maxRecDepth 4000
set_option linter.unusedSimpArgs false
open Go.RowKit
attribute [local go_sem ↓] ldP stP ldMc stMc ldFr stFr ldBf stBf bsI bsK bsM bsC bsB bdO bdP bdB bdC bdM
/-- Rows in a new block. -/
theorem lits_new {α : Type} {e : El α} (k : e.Ok) (W : World) (l : List α) (cs : Array Value) (hc : cs.toList = e.fl l) (h0 : 0 < l.length) (hm : l.length ≤ 1000) : SlAt e (W.alloc (.cells cs e.ty)) (some ⟨W.heap.size, 0, none⟩) l.length l.length l := by
  refine ⟨rfl, Nat.le_refl _, by unfold maxLen; omega, (fun e => by cases e), fun y e' _ => ?_⟩
  cases e'
  refine ⟨_, _, rfl, fun j u hj => ?_⟩
  rw [Nat.zero_add]
  refine RvAt.cell (RvAt.new W e.ty cs) j u ?_
  rw [← hc] at hj
  rw [← Array.getElem?_toList]
  exact hj
theorem zpv (V : World) : IsPv V zP ⟨⟨0, 0, 0, 0, 0, 0⟩, [], [], [], []⟩ := ⟨rfl, (show O6.wf ⟨0, 0, 0, 0, 0, 0⟩ from by unfold O6.wf; decide), SlV.none' _, SlV.none' _, SlV.none' _, [], SlV.none' _, Mem.nil _⟩
def m0 : Mp := ⟨0, 100, 5000⟩
def m1 : Mp := ⟨1, 200, 5000⟩
theorem bsK3_is (w : World) : (bsS 24 3 #[(0, .int .i64 1), (1, .int .i64 1), (2, .int .i64 2)]).run Try.prog w = .ok (.slice (some ⟨w.heap.size, 0, none⟩) 3 3) (w.alloc (.cells #[.int .i64 1, .int .i64 1, .int .i64 2] 95)) := by kernel_rfl
theorem bsM22_is (x y : Mp) (w : World) : (bsS 25 2 #[(0, .agg x.cs), (1, .agg y.cs)]).run Try.prog w = .ok (.slice (some ⟨w.heap.size, 0, none⟩) 2 2) (w.alloc (.cells #[.int .i64 x.p, .int .i64 x.v, .int .i64 x.s, .int .i64 y.p, .int .i64 y.v, .int .i64 y.s] 100)) := by kernel_rfl
theorem bsC1_is (x : Cr) (w : World) : (bsS 26 1 #[(0, .agg x.cs)]).run Try.prog w = .ok (.slice (some ⟨w.heap.size, 0, none⟩) 1 1) (w.alloc (.cells x.cs 102)) := by kernel_rfl
theorem bdPL_is (a b m d : Option Addr) (n c n2 c2 n3 c3 n4 c4 : Nat) (w : World) : (bdS 29 #[(0, .agg o1.cs), (1, .slice a n c), (4, .slice b n2 c2), (3, .slice m n3 c3), (2, .slice d n4 c4)]).run Try.prog w = .ok (.agg (Pr.mk o1 (.slice a n c) (.slice d n4 c4) (.slice m n3 c3) (.slice b n2 c2)).cs) w := by kernel_rfl
def lit : Pv := ⟨o1, [1, 1, 2], [m0, m1], [⟨5000, 10⟩], [⟨10, [2]⟩]⟩
section
attribute [local go_sem] bdO_is bdB_is bdC_is bdM3_is bsI_is bsB_is bsK3_is bsM22_is bsC1_is bdPL_is
set_option maxHeartbeats 4000000 in
theorem little_any (w : World) : Calls Try.prog 39 #[] w fun r w' => (∃ x : Pr, r = .returned (.agg x.cs) ∧ IsPv w' x lit) ∧ Below w.heap.size w w' := by
  obtain ⟨V0, hV, r0, b0, z0⟩ := PrAt.zero w
  obtain ⟨W1, hW1⟩ : ∃ z, V0.alloc (.cells #[.int .i64 1, .int .i64 1, .int .i64 2] 95) = z := ⟨_, rfl⟩
  obtain ⟨W2, hW2⟩ : ∃ z, W1.alloc (.cells #[.int .i64 2] 3) = z := ⟨_, rfl⟩
  obtain ⟨W3, hW3⟩ : ∃ z, W2.alloc (.cells (Mr.mk 10 (some ⟨W1.heap.size, 0, none⟩) 1 1).cs 76) = z := ⟨_, rfl⟩
  obtain ⟨W4, hW4⟩ : ∃ z, W3.alloc (.cells (Cr.mk 5000 10).cs 102) = z := ⟨_, rfl⟩
  obtain ⟨W5, hW5⟩ : ∃ z, W4.alloc (.cells #[.int .i64 m0.p, .int .i64 m0.v, .int .i64 m0.s, .int .i64 m1.p, .int .i64 m1.v, .int .i64 m1.s] 100) = z := ⟨_, rfl⟩
  have al : ∀ (A : World) (o : Obj), Below A.heap.size A (A.alloc o) := fun A o => (Below.refl _ _).alloc (Nat.le_refl _) _
  have c5 : Below W4.heap.size W4 W5 := by rw [← hW5]; exact al _ _
  have c4 : Below W3.heap.size W3 W5 := below_over (by rw [← hW4]; exact al _ _) c5
  have c3 : Below W2.heap.size W2 W5 := below_over (by rw [← hW3]; exact al _ _) c4
  have c2 : Below W1.heap.size W1 W5 := below_over (by rw [← hW2]; exact al _ _) c3
  have c1 : Below V0.heap.size V0 W5 := below_over (by rw [← hW1]; exact al _ _) c2
  have s1 : SlAt eK W1 (some ⟨V0.heap.size, 0, none⟩) 3 3 [1, 1, 2] := by rw [← hW1]; exact lits_new kK V0 [1, 1, 2] _ rfl (by decide) (by decide)
  have s2 : SlAt eI W2 (some ⟨W1.heap.size, 0, none⟩) 1 1 [2] := by rw [← hW2]; exact lits_new kI W1 [2] _ rfl (by decide) (by decide)
  have s3 : SlAt eB W3 (some ⟨W2.heap.size, 0, none⟩) 1 1 [Mr.mk 10 (some ⟨W1.heap.size, 0, none⟩) 1 1] := by rw [← hW3]; exact lits_new kB W2 [Mr.mk 10 (some ⟨W1.heap.size, 0, none⟩) 1 1] _ rfl (by show 0 < 1; decide) (by show 1 ≤ 1000; decide)
  have s4 : SlAt eC W4 (some ⟨W3.heap.size, 0, none⟩) 1 1 [Cr.mk 5000 10] := by rw [← hW4]; exact lits_new kC W3 [Cr.mk 5000 10] _ rfl (by decide) (by decide)
  have s5 : SlAt eM W5 (some ⟨W4.heap.size, 0, none⟩) 2 2 [m0, m1] := by rw [← hW5]; exact lits_new kM W4 [m0, m1] _ rfl (by decide) (by decide)
  have P5 : IsPv W5 (Pr.mk o1 (.slice (some ⟨V0.heap.size, 0, none⟩) 3 3) (.slice (some ⟨W4.heap.size, 0, none⟩) 2 2) (.slice (some ⟨W3.heap.size, 0, none⟩) 1 1) (.slice (some ⟨W2.heap.size, 0, none⟩) 1 1)) lit :=
    ⟨rfl, (show O6.wf o1 from by unfold O6.wf; decide), (s1.below c2).slv, s5.slv, (s4.below c5).slv, ⟨_, (s3.below c4).slv, Mem.one rfl (s2.below c3)⟩⟩
  obtain ⟨Z, sZ, pZ, gZ⟩ := (r0.below c1).st P5.one
  have G : Hid (PrAt Z w.heap.size (Pr.mk o1 (.slice (some ⟨V0.heap.size, 0, none⟩) 3 3) (.slice (some ⟨W4.heap.size, 0, none⟩) 2 2) (.slice (some ⟨W3.heap.size, 0, none⟩) 1 1) (.slice (some ⟨W2.heap.size, 0, none⟩) 1 1)) ∧ IsPv Z (Pr.mk o1 (.slice (some ⟨V0.heap.size, 0, none⟩) 3 3) (.slice (some ⟨W4.heap.size, 0, none⟩) 2 2) (.slice (some ⟨W3.heap.size, 0, none⟩) 1 1) (.slice (some ⟨W2.heap.size, 0, none⟩) 1 1)) lit ∧ Below w.heap.size w Z) :=
    ⟨pZ, P5.keptV (r0.below c1) (zpv _) gZ, gro (below_over b0 c1) gZ (Nat.le_refl _) (below_over b0 c1).size⟩
  have hm0 : Mp.mk 0 100 5000 = m0 := rfl
  have hm1 : Mp.mk 1 200 5000 = m1 := rfl
  clear al c1 c2 c3 c4 c5 s1 s2 s3 s4 s5 P5 r0 b0 z0 pZ gZ
  go_enter Try.func39, Try.ntmps39
  go_wp2
  refine bodyPost_ret (results_row rtP Try.results39 _ _ _ _ rfl G.out.1 rfl) rfl ?_
  exact ⟨⟨_, rfl, G.out.2.1⟩, G.out.2.2⟩
end
def frm (v : Int) : S4.Fr := ⟨⟨2, 0, 0, 0, 0, 9⟩, ⟨2, 0, 0, 0, 0, 8⟩, true, 0, false, v⟩
theorem bdT (ps : Array (Nat × Value)) : Instr.build 32 ps = bdS 32 ps := rfl
theorem bdFr (ps : Array (Nat × Value)) : Instr.build 34 ps = bdS 34 ps := rfl
theorem bsBy (n : Nat) (ps : Array (Nat × Value)) : Instr.buildSlice 30 n ps = bsS 30 n ps := rfl
theorem bd9_is (w : World) : (bdS 23 #[(0, .int .u8 2), (1, .int .u8 0), (2, .int .u8 0), (3, .int .u8 0), (4, .int .u8 0), (5, .int .u8 9)]).run Try.prog w = .ok (.agg (mc ⟨2, 0, 0, 0, 0, 9⟩)) w := by kernel_rfl
theorem bd8_is (w : World) : (bdS 23 #[(0, .int .u8 2), (1, .int .u8 0), (2, .int .u8 0), (3, .int .u8 0), (4, .int .u8 0), (5, .int .u8 8)]).run Try.prog w = .ok (.agg (mc ⟨2, 0, 0, 0, 0, 8⟩)) w := by kernel_rfl
theorem bdZ_is (w : World) : (bdS 23 #[]).run Try.prog w = .ok (.agg (mc zM)) w := by kernel_rfl
def grA : S4.M6 := ⟨1, 30, 131, 0, 19, 136⟩
theorem bdA_is (w : World) : (bdS 23 #[(0, .int .u8 1), (1, .int .u8 30), (2, .int .u8 131), (3, .int .u8 0), (4, .int .u8 19), (5, .int .u8 136)]).run Try.prog w = .ok (.agg (mc grA)) w := by kernel_rfl
theorem bdT_is (v : Int) (w : World) : (bdS 32 #[(2, .int .i64 v)]).run Try.prog w = .ok (.agg #[.int .i64 0, .bool false, .int .i64 v]) w := by kernel_rfl
theorem bsBy3_is (w : World) : (bsS 30 3 #[(0, .int .u8 8), (1, .int .u8 0), (2, .int .u8 1)]).run Try.prog w = .ok (.slice (some ⟨w.heap.size, 0, none⟩) 3 3) (w.alloc (.cells #[.int .u8 8, .int .u8 0, .int .u8 1] 5)) := by kernel_rfl
theorem bdFr_is (v : Int) (a : Option Addr) (n c : Nat) (w : World) : (bdS 34 #[(0, .agg (mc ⟨2, 0, 0, 0, 0, 9⟩)), (1, .agg (mc ⟨2, 0, 0, 0, 0, 8⟩)), (2, .bool true), (3, .agg #[.int .i64 0, .bool false, .int .i64 v]), (4, .slice a n c)]).run Try.prog w = .ok (.agg (S4.fcs (frm v) (.slice a n c))) w := by kernel_rfl
attribute [local go_sem ↓] bdT bdFr bsBy
attribute [local go_sem] bd9_is bd8_is bdZ_is bdA_is bdT_is bsBy3_is bdFr_is
theorem results_fr {fn : Func} {k : Nat} (hr : fn.results = #[.cell k 34]) (tmps : Array Value) (w : World) (b : Nat) (f : S4.Fr) (x : Value) (h2 : tmps.getD k undef = .pointer (some ⟨b, 0, none⟩)) (h : FrAt w b f x) : (results fn tmps).run Try.prog w = .ok (.agg (S4.fcs f x)) w := S4.results_one hr tmps w b f x h2 h
set_option maxHeartbeats 2000000 in
theorem frame_any (v : Int) (w : World) : Calls Try.prog 40 #[.int .i64 v] w fun r w' => (∃ s, r = .returned (.agg (S4.fcs (frm v) s)) ∧ S4.Src w' s [8, 0, 1]) ∧ Below w.heap.size w w' := by
  obtain ⟨V, hV, m0, bV, zV⟩ := FrAt.zero w
  obtain ⟨U, hU⟩ : ∃ z, V.alloc (.cells #[.int .u8 8, .int .u8 0, .int .u8 1] 5) = z := ⟨_, rfl⟩
  have bU : Below V.heap.size V U := by rw [← hU]; exact (Below.refl _ _).alloc (Nat.le_refl _) _
  have oU : S4.Own U V.heap.size (.slice (some ⟨V.heap.size, 0, none⟩) 3 3) [8, 0, 1] := by rw [← hU]; exact S4.own_new V [8, 0, 1] _ _ _ rfl rfl (Nat.le_refl _) (by simp)
  obtain ⟨Z, sZ, mZ, gZ⟩ := (m0.below bU).st (frm v) (.slice (some ⟨V.heap.size, 0, none⟩) 3 3) rfl
  have G : Hid (FrAt Z w.heap.size (frm v) (.slice (some ⟨V.heap.size, 0, none⟩) 3 3) ∧ S4.Src Z (.slice (some ⟨V.heap.size, 0, none⟩) 3 3) [8, 0, 1] ∧ Below w.heap.size w Z) := ⟨mZ, (oU.kept gZ (by omega)).src, gro (below_over bV bU) gZ (Nat.le_refl _) (below_over bV bU).size⟩
  clear m0 bV zV bU oU mZ gZ
  go_enter Try.func40, Try.ntmps40
  go_wp2
  refine bodyPost_ret (results_fr Try.results40 _ _ _ _ _ rfl G.out.1) rfl ?_
  exact ⟨⟨_, rfl, G.out.2.1⟩, G.out.2.2⟩
/-! ### what comes of it -/
def bA : S4.Bf := ⟨grA, oM o1, 0, false, 10, 0, false, true, 5000, ⟨2, 0, 0, 0, 0, 9⟩, ⟨2, 0, 0, 0, 0, 8⟩⟩
def lA : List Int := [8, 0, 1]
theorem aw_w : encW lit 0 (frm 100) lA zM false = 0 := by kernel_rfl
theorem aw_b : encB lit 0 (frm 100) lA zM false = bA := by kernel_rfl
theorem aw_r : encR lit 0 (frm 100) lA zM false = lA := by kernel_rfl
theorem aw_dw : dpW lit bA lA = 0 := by kernel_rfl
theorem aw_dl : (dpL lit bA lA).length = 2 := by kernel_rfl
theorem aw_lw : loW lit 0 (frm 100) lA = 0 := by kernel_rfl
theorem aw_ll : (loL lit 0 (frm 100) lA).map (fun y => y.v) = [1] := by kernel_rfl
theorem ok6 {a b c d e f : Int} (h : ((0 ≤ a ∧ a ≤ 255) ∧ (0 ≤ b ∧ b ≤ 255) ∧ (0 ≤ c ∧ c ≤ 255) ∧ (0 ≤ d ∧ d ≤ 255) ∧ (0 ≤ e ∧ e ≤ 255) ∧ (0 ≤ f ∧ f ≤ 255))) : (S4.M6.mk a b c d e f).ok := by
  intro z hz
  simp only [S4.M6.l, List.mem_cons, List.not_mem_nil, or_false] at hz
  obtain ⟨h1, h2, h3, h4, h5, h6⟩ := h
  rcases hz with rfl | rfl | rfl | rfl | rfl | rfl
  all_goals assumption
theorem zM_ok : zM.ok := ok6 (by decide)
theorem frm_ok (v : Int) : (frm v).ok := ⟨ok6 (by decide), ok6 (by decide)⟩
theorem bA_ok : bA.ok := ⟨ok6 (by decide), ok6 (by decide), ok6 (by decide), ok6 (by decide)⟩
theorem lA_b : ∀ x ∈ lA, 0 ≤ x ∧ x ≤ 255 := by decide
theorem att_lit (s : Int) : att lit s = if s = 5000 then [0, 1] else [] := by
  unfold att lit
  by_cases h : s = 5000
  · subst h
    rw [if_pos rfl]
    exact rfl
  · have e : ((5000 : Int) == s) = false := by simp; omega
    rw [if_neg h]
    simp [m0, m1, List.filter, e]
theorem okp_lit : Okp lit := by
  refine ⟨by decide, fun s => ?_⟩
  rw [att_lit]
  split
  · exact ⟨by decide, by decide⟩
  · exact ⟨by decide, fun y hy => by cases hy⟩
theorem eqM_self (m : S4.M6) (w : World) : (S4.eqM (.agg (mc m)) (.agg (mc m))).run Try.prog w = .ok (.bool true) w := by
  have := S4.eqM_mac m m w
  rw [S4.M6.same_self] at this
  exact this
theorem gdM_mac (op : BinOp) (x y : Operand) (m n : S4.M6) (w : World) : (eqGuard op 23 x y (.agg (mc m)) (.agg (mc n))).run Try.prog w = .ok () w := S4.guard_mac op x y m n w
theorem BfAt.da {W : World} {b : Nat} {f : S4.Bf} {z : Value} (h : BfAt W b f z) : (ldS 23 (.pointer (some ⟨b, 0, none⟩))).run Try.prog W = .ok (.agg (mc f.d)) W := S4.BfAt.ldd h
theorem BfAt.c14 {W : World} {b : Nat} {f : S4.Bf} {z : Value} (h : BfAt W b f z) : W.cell? ⟨b, 14, none⟩ = some (.int .i64 f.v) := S4.BfAt.c14 h
attribute [local go_sem ↓] S4.eqM_eq
attribute [local go_sem] gdM_mac eqM_self
set_option maxHeartbeats 16000000 in
theorem awake_any (w : World) : Calls Try.prog 17 #[] w fun r w' => r = .returned (.bool true) ∧ Below w.heap.size w w' := by
  go_enter Try.func17, Try.ntmps17
  go_wp2_with fail
  refine (little_any w).mono ?_
  rintro _ X1 ⟨⟨x1, rfl, p1⟩, b1⟩
  have K1 : Hid (IsPv X1 x1 lit ∧ Below w.heap.size w X1) := ⟨p1, b1⟩
  clear p1 b1
  go_wp2_with fail
  refine (frame_any 100 X1).mono ?_
  rintro _ X2 ⟨⟨s1, rfl, q1⟩, b2⟩
  have K2 : Hid (IsPv X2 x1 lit ∧ Below w.heap.size w X2 ∧ S4.Src X2 s1 lA) := ⟨K1.out.1.below b2, below_over K1.out.2 b2, q1⟩
  clear q1 b2
  go_wp2_with fail
  refine (enc_any x1 lit 0 (frm 100) s1 lA zM false X2 K2.out.1 K2.out.2.2 lA_b (frm_ok _) zM_ok (by decide)).mono ?_
  rintro _ X3 ⟨s2, rfl, o3, b3⟩
  rw [aw_w, aw_b]
  rw [aw_r] at o3
  obtain ⟨Y3, sY, mY, bY, zY⟩ := BfAt.put X3 bA s2 o3.one
  have K3 : Hid (BfAt Y3 X3.heap.size bA s2 ∧ Below w.heap.size w Y3 ∧ S4.Src Y3 s2 lA) := ⟨mY, below_over K2.out.2.1 (below_over b3 bY), (o3.below bY).src⟩
  clear o3 b3 mY bY zY
  go_wp2_with fail
  obtain ⟨Y0, hY0⟩ : ∃ X0, World.drew Y3 = X0 := ⟨_, rfl⟩
  have B0 : Hid (Below Y3.heap.size Y3 Y0) := by rw [← hY0]; exact (Below.refl _ _).drew
  have f0 := fun k : Later Y3 => (K3.out.1.below k.below).ld
  refine wp_region_noPanic ?_
  refine wp_region_held_drew (S := fun w' => ∃ x : Later Y3, w' = x.val) (by kernel_rfl) ⟨⟨_, (Below.refl _ _).drew⟩, rfl⟩ (fun hHeld => ?_)
  rw [hY0] at hHeld ⊢
  clear hY0
  refine wpAnyH_take (i := 1) (oi := { dst := some 16, op := Op.load 49 (Operand.tmp 1), type := 49, pos := "law.go:27", after := #[], guard := none }) (v := ?_) rfl (by kernel_rfl) (by kernel_rfl) (by kernel_rfl) (fun _ _ _ h => h) (Or.inl ⟨by rfl, ?_⟩) hHeld ?_
  rotate_left
  · intro W_ hSw_
    obtain ⟨q, rfl⟩ := hSw_
    first | (go_simp; done) | (go_simp; with_reducible rfl)
  rotate_left
  try simp only [Act.put, List.setIfInBounds_toArray, List.set_cons_zero, List.set_cons_succ]
  refine wpAnyH_ready (rs := [0]) (by kernel_rfl) (by simp) ?_
  refine AllReadyH.cons (o := { dst := some 15, op := Op.call { callee := Callee.value (Operand.func 39), args := #[], argTypes := #[] }, type := 29, pos := "law.go:27", after := #[], guard := none }) rfl (fun K hK => ?_) AllReadyH.nil
  go_simp
  refine (little_any Y0).mono ?_
  rintro _ Y1 ⟨⟨x2, rfl, p2⟩, hb⟩
  have B1 : Hid (Below Y3.heap.size Y3 Y1) := below_over B0.out hb
  have P2 : Hid (IsPv Y1 x2 lit) := p2
  clear hb p2
  clear hHeld
  refine hK.out _ _ ⟨⟨_, B1.out⟩, rfl⟩ (fun hHeld => ?_)
  clear hK K
  try simp only [Act.put, List.setIfInBounds_toArray, List.set_cons_zero, List.set_cons_succ]
  refine wpAnyH_ready (rs := [2]) (by kernel_rfl) (by simp) ?_
  refine AllReadyH.cons (o := { dst := some 17, op := Op.call { callee := Callee.value (Operand.func 23), args := #[Operand.tmp 15, Operand.tmp 16], argTypes := #[29, 49] }, type := 59, pos := "law.go:27", after := #[{ on := 0, ground := Ground.data }, { on := 1, ground := Ground.data }, { on := 0, ground := Ground.chain }], guard := none }) rfl (fun K hK => ?_) AllReadyH.nil
  go_simp
  refine (decap_any x2 lit bA s2 lA Y1 P2.out okp_lit (K3.out.2.2.below B1.out) lA_b bA_ok).mono ?_
  rintro _ Y2 ⟨⟨v2, rfl, c2⟩, hb⟩
  rw [aw_dw]
  have B2 : Hid (Below Y3.heap.size Y3 Y2) := below_over B1.out hb
  have P3 : Hid (IsCy Y2 v2 (dpL lit bA lA)) := c2
  clear hb c2
  clear hHeld
  refine hK.out _ _ ⟨⟨_, B2.out⟩, rfl⟩ (fun hHeld => ?_)
  clear hK K
  try simp only [Act.put, List.setIfInBounds_toArray, List.set_cons_zero, List.set_cons_succ]
  refine wpAnyH_take (i := 3) (oi := { dst := some 14, op := Op.move (Operand.tmp 17), type := 59, pos := "law.go:27", after := #[{ on := 2, ground := Ground.data }], guard := none }) (v := ?_) rfl (by kernel_rfl) (by kernel_rfl) (by kernel_rfl) (fun _ _ _ h => h) (Or.inl ⟨by rfl, ?_⟩) hHeld ?_
  rotate_left
  · intro W_ hSw_
    obtain ⟨q, rfl⟩ := hSw_
    first | (go_simp; done) | (go_simp; with_reducible rfl)
  rotate_left
  try simp only [Act.put, List.setIfInBounds_toArray, List.set_cons_zero, List.set_cons_succ]
  refine wpAnyH_take (i := 4) (oi := { dst := some 18, op := Op.extract (Operand.tmp 14) 0, type := 58, pos := "law.go:27", after := #[{ on := 3, ground := Ground.data }], guard := none }) (v := ?_) rfl (by kernel_rfl) (by kernel_rfl) (by kernel_rfl) (fun _ _ _ h => h) (Or.inl ⟨by rfl, ?_⟩) hHeld ?_
  rotate_left
  · intro W_ hSw_
    obtain ⟨q, rfl⟩ := hSw_
    first | (go_simp; done) | (go_simp; with_reducible rfl)
  rotate_left
  try simp only [Act.put, List.setIfInBounds_toArray, List.set_cons_zero, List.set_cons_succ]
  refine wpAnyH_take (i := 5) (oi := { dst := some 19, op := Op.extract (Operand.tmp 14) 1, type := 37, pos := "law.go:27", after := #[{ on := 3, ground := Ground.data }, { on := 6, ground := Ground.gcOnly Departure.lateStores }], guard := none }) (v := ?_) rfl (by kernel_rfl) (by kernel_rfl) (by kernel_rfl) (fun _ _ _ h => h) (Or.inl ⟨by rfl, ?_⟩) hHeld ?_
  rotate_left
  · intro W_ hSw_
    obtain ⟨q, rfl⟩ := hSw_
    first | (go_simp; done) | (go_simp; with_reducible rfl)
  rotate_left
  try simp only [Act.put, List.setIfInBounds_toArray, List.set_cons_zero, List.set_cons_succ]
  refine wpAnyH_take (i := 6) (oi := { dst := some 3, op := Op.assign (Operand.tmp 18), type := 58, pos := "law.go:27", after := #[{ on := 4, ground := Ground.data }, { on := 2, ground := Ground.chain }, { on := 0, ground := Ground.phase }, { on := 1, ground := Ground.phase }, { on := 2, ground := Ground.phase }, { on := 3, ground := Ground.phase }, { on := 4, ground := Ground.phase }, { on := 5, ground := Ground.textOnly Departure.lateStores }], guard := none }) (v := ?_) rfl (by kernel_rfl) (by kernel_rfl) (by kernel_rfl) (fun _ _ _ h => h) (Or.inl ⟨by rfl, ?_⟩) hHeld ?_
  rotate_left
  · intro W_ hSw_
    obtain ⟨q, rfl⟩ := hSw_
    first | (go_simp; done) | (go_simp; with_reducible rfl)
  rotate_left
  try simp only [Act.put, List.setIfInBounds_toArray, List.set_cons_zero, List.set_cons_succ]
  refine wpAnyH_take (i := 7) (oi := { dst := some 4, op := Op.assign (Operand.tmp 19), type := 37, pos := "law.go:27", after := #[{ on := 5, ground := Ground.data }, { on := 6, ground := Ground.chain }, { on := 0, ground := Ground.phase }, { on := 1, ground := Ground.phase }, { on := 2, ground := Ground.phase }, { on := 3, ground := Ground.phase }, { on := 4, ground := Ground.phase }, { on := 5, ground := Ground.phase }, { on := 6, ground := Ground.phase }], guard := none }) (v := ?_) rfl (by kernel_rfl) (by kernel_rfl) (by kernel_rfl) (fun _ _ _ h => h) (Or.inl ⟨by rfl, ?_⟩) hHeld ?_
  rotate_left
  · intro W_ hSw_
    obtain ⟨q, rfl⟩ := hSw_
    first | (go_simp; done) | (go_simp; with_reducible rfl)
  rotate_left
  try simp only [Act.put, List.setIfInBounds_toArray, List.set_cons_zero, List.set_cons_succ]
  refine wpAnyH_done (by kernel_rfl) ?_ _
  refine NoPanic.normal ?_
  clear hHeld
  clear f0
  have K4 : Hid (BfAt Y2 X3.heap.size bA s2 ∧ Below w.heap.size w Y2) := ⟨K3.out.1.below B2.out, below_over K3.out.2.1 B2.out⟩
  obtain ⟨r2, ⟨a2, n2, e2, rfl, t2⟩, al2⟩ := P3.out
  obtain rfl : n2 = 2 := by rw [← t2.len, al2.len]; exact aw_dl
  clear t2 al2 P3 P2
  go_wp2_with fail
  refine (little_any Y2).mono ?_
  rintro _ X5 ⟨⟨x3, rfl, p5⟩, b5⟩
  have K5 : Hid (IsPv X5 x3 lit ∧ BfAt X5 X3.heap.size bA s2 ∧ Below w.heap.size w X5) := ⟨p5, K4.out.1.below b5, below_over K4.out.2 b5⟩
  clear p5 b5
  go_wp2_with fail
  refine (frame_any 100 X5).mono ?_
  rintro _ X6 ⟨⟨s3, rfl, q6⟩, b6⟩
  have K6 : Hid (IsPv X6 x3 lit ∧ BfAt X6 X3.heap.size bA s2 ∧ Below w.heap.size w X6 ∧ S4.Src X6 s3 lA) := ⟨K5.out.1.below b6, K5.out.2.1.below b6, below_over K5.out.2.2 b6, q6⟩
  clear q6 b6
  go_wp2_with fail
  refine (local_any x3 lit 0 (frm 100) s3 lA X6 K6.out.1 okp_lit K6.out.2.2.2 lA_b (frm_ok _)).mono ?_
  rintro _ X7 ⟨⟨v7, rfl, c7⟩, b7⟩
  rw [aw_lw]
  obtain ⟨r7, ⟨a7, n7, e7, rfl, t7⟩, al7⟩ := c7
  have h7 := aw_ll
  obtain ⟨L7, hL7⟩ : ∃ z, loL lit 0 (frm 100) lA = z := ⟨_, rfl⟩
  rw [hL7] at al7 h7
  obtain ⟨y7, rfl⟩ : ∃ y, L7 = [y] := by
    match L7, h7 with
    | [y], _ => exact ⟨y, rfl⟩
  obtain ⟨z7, rfl⟩ : ∃ z, r7 = [z] := by
    match r7, al7 with
    | [z], _ => exact ⟨z, rfl⟩
  obtain rfl : n7 = 1 := t7.len.symm
  obtain ⟨b8, o8, rfl⟩ := t7.some' (by decide)
  have c8 := t7.cell kY (i := 0) (j := 0) (q := o8) (v := .int .i64 z7.v) rfl rfl (by show o8 = o8 + (0 * 2 + 0); omega)
  have e8 : z7.v = 1 := by rw [al7.1.1]; simpa using h7
  rw [e8] at c8
  have K7 : Hid (Below w.heap.size w X7) := below_over K6.out.2.2.1 b7
  have d1 := (K6.out.2.1.below b7).da
  have d2 := (K6.out.2.1.below b7).c14
  clear t7 al7 h7 hL7 b7 e8
  have e9 : bA.d = grA := rfl
  have e10 : bA.v = 10 := rfl
  rw [e9] at d1
  rw [e10] at d2
  clear e9 e10
  go_wp2
  go_ret
  exact ⟨rfl, K7.out⟩
end

section
set_option linter.unusedVariables false
set_option maxRecDepth 4000
set_option linter.unusedSimpArgs false
open Go.RowKit
attribute [local go_sem ↓] ldP stP ldMc stMc ldFr stFr ldBf stBf stSb
set_option maxHeartbeats 16000000 in
theorem renc_any (x : Pr) (p : Pv) (port : Int) (f : S4.Fr) (z : Value) (l : List Int) (known : S4.M6) (has : Bool) (w : World) (h : IsPv w x p) (hs : S4.Src w z l) (hb : ∀ x ∈ l, 0 ≤ x ∧ x ≤ 255) (hf : f.ok) (hkn : known.ok) (hl : l.length ≤ 2000) :
    Calls Try.prog 19 #[.agg x.cs, .int .i64 port, .agg (S4.fcs f z), .agg (mc known), .bool has] w fun r w' => EnOut p port f l known has w r w' := by
  obtain ⟨W1, hW1, r1, b1, z1⟩ := PrAt.new w x
  obtain ⟨W2, hW2, r2, b2, z2⟩ := FrAt.new W1 f z
  obtain ⟨W3, hW3, r3, b3, z3⟩ := McAt.new W2 known
  obtain ⟨V, hV, r4, b4, z4⟩ := BfAt.zero W3
  obtain ⟨S, hS⟩ : ∃ e, clsS p port f l = e := ⟨_, rfl⟩
  obtain ⟨Y, hY⟩ : ∃ e, clsW p port f l = e := ⟨_, rfl⟩
  obtain ⟨CV, hCV⟩ : ∃ e, (car p S).1 = e := ⟨_, rfl⟩
  obtain ⟨CO, hCO⟩ : ∃ e, (car p S).2 = e := ⟨_, rfl⟩
  obtain ⟨K1, hK1⟩ : ∃ e, (f.d.kd == 1) = e := ⟨_, rfl⟩
  obtain ⟨K2, hK2⟩ : ∃ e, (known.kd == 1) = e := ⟨_, rfl⟩
  obtain ⟨D1, hD1⟩ : ∃ e, f.d.kd = e := ⟨_, rfl⟩
  obtain ⟨D2, hD2⟩ : ∃ e, known.kd = e := ⟨_, rfl⟩
  obtain ⟨AW, hAW⟩ : ∃ e, encW p port f l known has = e := ⟨_, rfl⟩
  obtain ⟨AB, hAB⟩ : ∃ e, encB p port f l known has = e := ⟨_, rfl⟩
  obtain ⟨AR, hAR⟩ : ∃ e, encR p port f l known has = e := ⟨_, rfl⟩
  have EQ1 : Hid (¬ Y = 0 → AW = Y ∧ AB = S4.zeroB ∧ AR = []) := fun hn => by
    have k := en_1 (known := known) (has := has) (show ¬ clsW p port f l = 0 from by rw [hY]; exact hn)
    rw [hAW, hAB, hAR, hY] at k
    exact k
  have EQ2 : Hid (Y = 0 → CO = false → AW = 7 ∧ AB = S4.zeroB ∧ AR = []) := fun hn hc => by
    have k := en_2 (known := known) (has := has) (show clsW p port f l = 0 from by rw [hY]; exact hn) (by rw [hS, hCO]; exact hc)
    rw [hAW, hAB, hAR] at k
    exact k
  have EQ3 : Hid (Y = 0 → CO = true → AW = (if S4.hdE f l S CV (oM p.o) (encT p port f l known has) = 0 then 0 else 5) ∧ AB = S4.hdB f l S CV (oM p.o) (encT p port f l known has) ∧ AR = S4.hdR f l S CV (oM p.o) (encT p port f l known has)) := fun hn hc => by
    have k := en_3 (known := known) (has := has) (show clsW p port f l = 0 from by rw [hY]; exact hn) (by rw [hS, hCO]; exact hc)
    rw [hAW, hAB, hAR, hS, hCV] at k
    exact k
  have ETQ : Hid (encT p port f l known has = if (has && (K1 && K2)) = true then known else grM S) := by unfold encT; rw [hK1, hK2, hS]; exact rfl
  unfold EnOut
  rw [hAW, hAB, hAR]
  have b34 : Below W2.heap.size W2 V := below_over b3 b4
  have b24 : Below W1.heap.size W1 V := below_over b2 b34
  have b14 : Below w.heap.size w V := below_over b1 b24
  have e1 : W1.heap.size = w.heap.size + 1 := z1
  have e2 : W2.heap.size = w.heap.size + 1 + 1 := by rw [z2, z1]
  have e3 : W3.heap.size = w.heap.size + 1 + 1 + 1 := by rw [z3, z2, z1]
  have e4 : V.heap.size = w.heap.size + 1 + 1 + 1 + 1 := by rw [z4, z3, z2, z1]
  have HV : Hid (PrAt V w.heap.size x ∧ FrAt V W1.heap.size f z ∧ McAt V W2.heap.size known ∧ BfAt V W3.heap.size S4.zeroB (.slice none 0 0)) := ⟨r1.below b24, r2.below b34, r3.below b4, r4⟩
  have H : Hid (Below w.heap.size w V ∧ (V.heap.size = w.heap.size + 1 + 1 + 1 + 1 ∧ W3.heap.size = w.heap.size + 1 + 1 + 1) ∧ IsPv V x p) := ⟨b14, ⟨e4, e3⟩, h.below b14⟩
  have HX : Hid (S4.Src V z l ∧ (∀ x ∈ l, 0 ≤ x ∧ x ≤ 255) ∧ f.ok ∧ known.ok ∧ l.length ≤ 2000) := ⟨hs.below b14, hb, hf, hkn, hl⟩
  have C1 : Hid (Calls Try.prog 13 #[.agg x.cs, .int .i64 port, .agg (S4.fcs f z)] V fun r w' => r = .returned (.tuple #[.int .i64 S, .int .i64 Y]) ∧ Below V.heap.size V w') := by rw [← hS, ← hY]; exact rcls_any x p port f z l V (h.below b14) (hs.below b14) hb hf
  have C2 : Hid (∀ W, Below V.heap.size V W → Calls Try.prog 44 #[.agg x.cs, .int .i64 S] W fun r w' => r = .returned (.tuple #[.int .i64 CV, .bool CO]) ∧ Below W.heap.size W w') := fun W hW => by rw [← hCV, ← hCO]; exact rcar_any x p S W (H.out.2.2.below hW)
  have C3 : Hid (∀ W, Calls Try.prog 16 #[.int .i64 S] W fun r w' => r = .returned (.agg (mc (grM S))) ∧ Below W.heap.size W w') := rgroup_any S
  have CK1 : Hid (∀ W, Calls Try.prog 45 #[.agg (mc f.d)] W fun r w' => r = .returned (.int .i64 D1) ∧ Below W.heap.size W w') := fun W => by rw [← hD1]; exact S4.kind_r f.d W hf.1
  have CK2 : Hid (∀ W, Calls Try.prog 45 #[.agg (mc known)] W fun r w' => r = .returned (.int .i64 D2) ∧ Below W.heap.size W w') := fun W => by rw [← hD2]; exact S4.kind_r known W hkn
  have q1 : (D1 == 1) = K1 := by rw [← hD1]; exact hK1
  have q2 : (D2 == 1) = K2 := by rw [← hD2]; exact hK2
  have l1 := (HV.out.2.1).ld
  have l2 := (HV.out.1).ld
  clear h hs hb hf hkn hl r1 r2 r3 r4 b1 b2 b3 b4 b34 b24 b14 e1 e2 e3 e4 z1 z2 z3 z4 hS hY hCV hCO hK1 hK2 hAW hAB hAR
  go_enter Try.func19, Try.ntmps19
  go_wp2_with fail
  refine C1.out.mono ?_
  rintro _ X1 ⟨rfl, b1⟩
  have KX : Hid (Below V.heap.size V X1 ∧ Below w.heap.size w X1) := ⟨b1, below_over H.out.1 b1⟩
  clear b1 l1 l2
  by_cases hy : Y = 0
  · subst hy
    have l2 := (HV.out.1.below KX.out.1).ld
    go_wp2_with fail
    refine (C2.out _ KX.out.1).mono ?_
    rintro _ X2 ⟨rfl, b2⟩
    have KY : Hid (Below V.heap.size V X2 ∧ Below w.heap.size w X2) := ⟨below_over KX.out.1 b2, below_over KX.out.2 b2⟩
    clear b2 l2
    cases CO with
    | false =>
      have A := EQ2.out (by trivial) (by trivial)
      obtain ⟨Z, sZ, mZ, gZ⟩ := (HV.out.2.2.2.below KY.out.1).st S4.zeroB (.slice none 0 0) rfl
      have G : Hid (BfAt Z W3.heap.size S4.zeroB (.slice none 0 0) ∧ Below w.heap.size w Z ∧ AW = 7 ∧ AB = S4.zeroB ∧ AR = []) := ⟨mZ, gro KY.out.2 gZ (by have := H.out.2.1; omega) KY.out.2.size, A⟩
      rw [← zG_agg] at sZ
      clear mZ gZ A
      go_wp2
      exact ret_bw Try.results19 rfl rfl rfl G.out.1 ⟨.slice none 0 0, by rw [G.out.2.2.1, G.out.2.2.2.1]; exact rfl, by rw [G.out.2.2.2.2]; exact S4.own_nil _ _, G.out.2.1⟩
    | true =>
      have A3 := EQ3.out (by trivial) (by trivial)
      have A3 : Hid _ := A3
      go_wp2_with fail
      refine (C3.out _).mono ?_
      rintro _ X3 ⟨rfl, b3⟩
      obtain ⟨U, sU, mU, bU⟩ := McAt.put X3 (grM S)
      obtain ⟨g, hg⟩ : ∃ e, X3.heap.size = e := ⟨_, rfl⟩
      have KT : Hid (McAt U X3.heap.size (grM S) ∧ Below V.heap.size V U ∧ V.heap.size ≤ U.heap.size ∧ V.heap.size ≤ X3.heap.size) := ⟨mU, below_over KY.out.1 (below_over b3 bU), (below_over KY.out.1 (below_over b3 bU)).size, (below_over KY.out.1 b3).size⟩
      have MO : Hid ((grM S).ok ∧ known.ok) := ⟨grM_ok S, HX.out.2.2.2.1⟩
      clear b3 mU bU hg
      cases has with
      | false =>
        have ET : Hid (encT p port f l known false = grM S) := ETQ.out
        obtain ⟨E, hE⟩ : ∃ e, S4.hdE f l S CV (oM p.o) (grM S) = e := ⟨_, rfl⟩
        obtain ⟨B, hB⟩ : ∃ e, S4.hdB f l S CV (oM p.o) (grM S) = e := ⟨_, rfl⟩
        obtain ⟨R, hR⟩ : ∃ e, S4.hdR f l S CV (oM p.o) (grM S) = e := ⟨_, rfl⟩
        have A : Hid (AW = (if E = 0 then 0 else 5) ∧ AB = B ∧ AR = R) := by
          have k := A3.out
          rw [ET.out, hE, hB, hR] at k
          exact k
        have EZ : Hid (¬ E = 0 → B = S4.zeroB ∧ R = []) := fun hn => ⟨by rw [← hB]; unfold S4.hdB; rw [hE, if_neg hn], by rw [← hR]; unfold S4.hdR; rw [hE, if_neg hn]⟩
        have C5 : Hid (∀ W, Below V.heap.size V W → Calls Try.prog 46 #[.agg (S4.fcs f z), .int .i64 S, .int .i64 CV, .agg (mc (oM x.o)), .agg (mc (grM S))] W fun r w' => ∃ s, r = .returned (.tuple #[.agg (S4.bcs B s), .int .i64 E]) ∧ S4.Own w' W.heap.size s R ∧ Below W.heap.size W w') := fun W hW => by
          rw [← hE, ← hB, ← hR, H.out.2.2.o]
          exact S4.hidref_any f z l S CV (oM p.o) (grM S) W (HX.out.1.below hW) HX.out.2.1 HX.out.2.2.1 (oM_ok H.out.2.2.wf) MO.out.1 HX.out.2.2.2.2
        clear hE hB hR
        have l1 := (HV.out.2.1.below KT.out.2.1).ld
        have l2 := (HV.out.1.below KT.out.2.1).ow
        have l3 := KT.out.1.ld
        go_wp2_with fail
        refine (C5.out _ KT.out.2.1).mono ?_
        rintro _ X5 ⟨s, rfl, o5, b5⟩
        obtain ⟨Y5, s5, m5, by5, z5⟩ := BfAt.put X5 B s o5.one
        have K5 : Hid (BfAt Y5 W3.heap.size S4.zeroB (.slice none 0 0) ∧ Below w.heap.size w Y5 ∧ S4.Own Y5 V.heap.size s R ∧ BfAt Y5 X5.heap.size B s) := ⟨(HV.out.2.2.2.below KT.out.2.1).below (below_over b5 by5), below_over (below_over H.out.1 KT.out.2.1) (below_over b5 by5), (o5.below by5).base KT.out.2.2.1, m5⟩
        clear o5 b5 m5 by5 z5 l1 l2 l3
        by_cases he : E = 0
        · subst he
          have l4 := K5.out.2.2.2.ld
          obtain ⟨Z, sZ, mZ, gZ⟩ := K5.out.1.st B s K5.out.2.2.1.one
          have G : Hid (BfAt Z W3.heap.size B s ∧ S4.Own Z w.heap.size s R ∧ Below w.heap.size w Z) := ⟨mZ, (K5.out.2.2.1.kept gZ (by have := H.out.2.1; omega)).base (by have := H.out.2.1; omega), gro K5.out.2.1 gZ (by have := H.out.2.1; omega) K5.out.2.1.size⟩
          clear mZ gZ
          go_wp2
          exact ret_bw Try.results19 rfl rfl rfl G.out.1 ⟨s, by rw [A.out.1, A.out.2.1]; exact rfl, by rw [A.out.2.2]; exact G.out.2.1, G.out.2.2⟩
        · have e0 : (E != 0) = true := by simp [he]
          obtain ⟨Z, sZ, mZ, gZ⟩ := K5.out.1.st S4.zeroB (.slice none 0 0) rfl
          have G : Hid (BfAt Z W3.heap.size S4.zeroB (.slice none 0 0) ∧ Below w.heap.size w Z) := ⟨mZ, gro K5.out.2.1 gZ (by have := H.out.2.1; omega) K5.out.2.1.size⟩
          have A' : Hid (AW = 5 ∧ AB = S4.zeroB ∧ AR = []) := ⟨by rw [A.out.1, if_neg he], by rw [A.out.2.1]; exact (EZ.out he).1, by rw [A.out.2.2]; exact (EZ.out he).2⟩
          rw [← zG_agg] at sZ
          clear mZ gZ he
          go_wp2
          exact ret_bw Try.results19 rfl rfl rfl G.out.1 ⟨.slice none 0 0, by rw [A'.out.1, A'.out.2.1]; exact rfl, by rw [A'.out.2.2]; exact S4.own_nil _ _, G.out.2⟩
      | true =>
        have l1 := (HV.out.2.1.below KT.out.2.1).da
        go_wp2_with fail
        refine (CK1.out _).mono ?_
        rintro _ X4 ⟨rfl, bX4⟩
        have KT : Hid (McAt X4 X3.heap.size (grM S) ∧ Below V.heap.size V X4 ∧ V.heap.size ≤ X4.heap.size ∧ V.heap.size ≤ X3.heap.size) := ⟨KT.out.1.below bX4, below_over KT.out.2.1 bX4, Nat.le_trans KT.out.2.2.1 bX4.size, KT.out.2.2.2⟩
        clear bX4
        cases K1 with
        | false =>
          have ET : Hid (encT p port f l known true = grM S) := ETQ.out
          clear l1
          obtain ⟨E, hE⟩ : ∃ e, S4.hdE f l S CV (oM p.o) (grM S) = e := ⟨_, rfl⟩
          obtain ⟨B, hB⟩ : ∃ e, S4.hdB f l S CV (oM p.o) (grM S) = e := ⟨_, rfl⟩
          obtain ⟨R, hR⟩ : ∃ e, S4.hdR f l S CV (oM p.o) (grM S) = e := ⟨_, rfl⟩
          have A : Hid (AW = (if E = 0 then 0 else 5) ∧ AB = B ∧ AR = R) := by
            have k := A3.out
            rw [ET.out, hE, hB, hR] at k
            exact k
          have EZ : Hid (¬ E = 0 → B = S4.zeroB ∧ R = []) := fun hn => ⟨by rw [← hB]; unfold S4.hdB; rw [hE, if_neg hn], by rw [← hR]; unfold S4.hdR; rw [hE, if_neg hn]⟩
          have C5 : Hid (∀ W, Below V.heap.size V W → Calls Try.prog 46 #[.agg (S4.fcs f z), .int .i64 S, .int .i64 CV, .agg (mc (oM x.o)), .agg (mc (grM S))] W fun r w' => ∃ s, r = .returned (.tuple #[.agg (S4.bcs B s), .int .i64 E]) ∧ S4.Own w' W.heap.size s R ∧ Below W.heap.size W w') := fun W hW => by
            rw [← hE, ← hB, ← hR, H.out.2.2.o]
            exact S4.hidref_any f z l S CV (oM p.o) (grM S) W (HX.out.1.below hW) HX.out.2.1 HX.out.2.2.1 (oM_ok H.out.2.2.wf) MO.out.1 HX.out.2.2.2.2
          clear hE hB hR
          have l1 := (HV.out.2.1.below KT.out.2.1).ld
          have l2 := (HV.out.1.below KT.out.2.1).ow
          have l3 := KT.out.1.ld
          go_wp2_with fail
          refine (C5.out _ KT.out.2.1).mono ?_
          rintro _ X5 ⟨s, rfl, o5, b5⟩
          obtain ⟨Y5, s5, m5, by5, z5⟩ := BfAt.put X5 B s o5.one
          have K5 : Hid (BfAt Y5 W3.heap.size S4.zeroB (.slice none 0 0) ∧ Below w.heap.size w Y5 ∧ S4.Own Y5 V.heap.size s R ∧ BfAt Y5 X5.heap.size B s) := ⟨(HV.out.2.2.2.below KT.out.2.1).below (below_over b5 by5), below_over (below_over H.out.1 KT.out.2.1) (below_over b5 by5), (o5.below by5).base KT.out.2.2.1, m5⟩
          clear o5 b5 m5 by5 z5 l1 l2 l3
          by_cases he : E = 0
          · subst he
            have l4 := K5.out.2.2.2.ld
            obtain ⟨Z, sZ, mZ, gZ⟩ := K5.out.1.st B s K5.out.2.2.1.one
            have G : Hid (BfAt Z W3.heap.size B s ∧ S4.Own Z w.heap.size s R ∧ Below w.heap.size w Z) := ⟨mZ, (K5.out.2.2.1.kept gZ (by have := H.out.2.1; omega)).base (by have := H.out.2.1; omega), gro K5.out.2.1 gZ (by have := H.out.2.1; omega) K5.out.2.1.size⟩
            clear mZ gZ
            go_wp2
            exact ret_bw Try.results19 rfl rfl rfl G.out.1 ⟨s, by rw [A.out.1, A.out.2.1]; exact rfl, by rw [A.out.2.2]; exact G.out.2.1, G.out.2.2⟩
          · have e0 : (E != 0) = true := by simp [he]
            obtain ⟨Z, sZ, mZ, gZ⟩ := K5.out.1.st S4.zeroB (.slice none 0 0) rfl
            have G : Hid (BfAt Z W3.heap.size S4.zeroB (.slice none 0 0) ∧ Below w.heap.size w Z) := ⟨mZ, gro K5.out.2.1 gZ (by have := H.out.2.1; omega) K5.out.2.1.size⟩
            have A' : Hid (AW = 5 ∧ AB = S4.zeroB ∧ AR = []) := ⟨by rw [A.out.1, if_neg he], by rw [A.out.2.1]; exact (EZ.out he).1, by rw [A.out.2.2]; exact (EZ.out he).2⟩
            rw [← zG_agg] at sZ
            clear mZ gZ he
            go_wp2
            exact ret_bw Try.results19 rfl rfl rfl G.out.1 ⟨.slice none 0 0, by rw [A'.out.1, A'.out.2.1]; exact rfl, by rw [A'.out.2.2]; exact S4.own_nil _ _, G.out.2⟩
        | true =>
          have l4 := (HV.out.2.2.1.below KT.out.2.1).ld
          clear l1
          go_wp2_with fail
          refine (CK2.out _).mono ?_
          rintro _ X6 ⟨rfl, bX6⟩
          have KT : Hid (McAt X6 X3.heap.size (grM S) ∧ Below V.heap.size V X6 ∧ V.heap.size ≤ X6.heap.size ∧ V.heap.size ≤ X3.heap.size) := ⟨KT.out.1.below bX6, below_over KT.out.2.1 bX6, Nat.le_trans KT.out.2.2.1 bX6.size, KT.out.2.2.2⟩
          clear bX6
          cases K2 with
          | false =>
            have ET : Hid (encT p port f l known true = grM S) := ETQ.out
            clear l4
            obtain ⟨E, hE⟩ : ∃ e, S4.hdE f l S CV (oM p.o) (grM S) = e := ⟨_, rfl⟩
            obtain ⟨B, hB⟩ : ∃ e, S4.hdB f l S CV (oM p.o) (grM S) = e := ⟨_, rfl⟩
            obtain ⟨R, hR⟩ : ∃ e, S4.hdR f l S CV (oM p.o) (grM S) = e := ⟨_, rfl⟩
            have A : Hid (AW = (if E = 0 then 0 else 5) ∧ AB = B ∧ AR = R) := by
              have k := A3.out
              rw [ET.out, hE, hB, hR] at k
              exact k
            have EZ : Hid (¬ E = 0 → B = S4.zeroB ∧ R = []) := fun hn => ⟨by rw [← hB]; unfold S4.hdB; rw [hE, if_neg hn], by rw [← hR]; unfold S4.hdR; rw [hE, if_neg hn]⟩
            have C5 : Hid (∀ W, Below V.heap.size V W → Calls Try.prog 46 #[.agg (S4.fcs f z), .int .i64 S, .int .i64 CV, .agg (mc (oM x.o)), .agg (mc (grM S))] W fun r w' => ∃ s, r = .returned (.tuple #[.agg (S4.bcs B s), .int .i64 E]) ∧ S4.Own w' W.heap.size s R ∧ Below W.heap.size W w') := fun W hW => by
              rw [← hE, ← hB, ← hR, H.out.2.2.o]
              exact S4.hidref_any f z l S CV (oM p.o) (grM S) W (HX.out.1.below hW) HX.out.2.1 HX.out.2.2.1 (oM_ok H.out.2.2.wf) MO.out.1 HX.out.2.2.2.2
            clear hE hB hR
            have l1 := (HV.out.2.1.below KT.out.2.1).ld
            have l2 := (HV.out.1.below KT.out.2.1).ow
            have l3 := KT.out.1.ld
            go_wp2_with fail
            refine (C5.out _ KT.out.2.1).mono ?_
            rintro _ X5 ⟨s, rfl, o5, b5⟩
            obtain ⟨Y5, s5, m5, by5, z5⟩ := BfAt.put X5 B s o5.one
            have K5 : Hid (BfAt Y5 W3.heap.size S4.zeroB (.slice none 0 0) ∧ Below w.heap.size w Y5 ∧ S4.Own Y5 V.heap.size s R ∧ BfAt Y5 X5.heap.size B s) := ⟨(HV.out.2.2.2.below KT.out.2.1).below (below_over b5 by5), below_over (below_over H.out.1 KT.out.2.1) (below_over b5 by5), (o5.below by5).base KT.out.2.2.1, m5⟩
            clear o5 b5 m5 by5 z5 l1 l2 l3
            by_cases he : E = 0
            · subst he
              have l4 := K5.out.2.2.2.ld
              obtain ⟨Z, sZ, mZ, gZ⟩ := K5.out.1.st B s K5.out.2.2.1.one
              have G : Hid (BfAt Z W3.heap.size B s ∧ S4.Own Z w.heap.size s R ∧ Below w.heap.size w Z) := ⟨mZ, (K5.out.2.2.1.kept gZ (by have := H.out.2.1; omega)).base (by have := H.out.2.1; omega), gro K5.out.2.1 gZ (by have := H.out.2.1; omega) K5.out.2.1.size⟩
              clear mZ gZ
              go_wp2
              exact ret_bw Try.results19 rfl rfl rfl G.out.1 ⟨s, by rw [A.out.1, A.out.2.1]; exact rfl, by rw [A.out.2.2]; exact G.out.2.1, G.out.2.2⟩
            · have e0 : (E != 0) = true := by simp [he]
              obtain ⟨Z, sZ, mZ, gZ⟩ := K5.out.1.st S4.zeroB (.slice none 0 0) rfl
              have G : Hid (BfAt Z W3.heap.size S4.zeroB (.slice none 0 0) ∧ Below w.heap.size w Z) := ⟨mZ, gro K5.out.2.1 gZ (by have := H.out.2.1; omega) K5.out.2.1.size⟩
              have A' : Hid (AW = 5 ∧ AB = S4.zeroB ∧ AR = []) := ⟨by rw [A.out.1, if_neg he], by rw [A.out.2.1]; exact (EZ.out he).1, by rw [A.out.2.2]; exact (EZ.out he).2⟩
              rw [← zG_agg] at sZ
              clear mZ gZ he
              go_wp2
              exact ret_bw Try.results19 rfl rfl rfl G.out.1 ⟨.slice none 0 0, by rw [A'.out.1, A'.out.2.1]; exact rfl, by rw [A'.out.2.2]; exact S4.own_nil _ _, G.out.2⟩
          | true =>
            have ET : Hid (encT p port f l known true = known) := ETQ.out
            have l5 := (HV.out.2.2.1.below KT.out.2.1).ld
            obtain ⟨X7, s7, m7, g7⟩ := KT.out.1.st known
            have HV' : Hid (PrAt X7 w.heap.size x ∧ FrAt X7 W1.heap.size f z ∧ McAt X7 X3.heap.size known ∧ BfAt X7 W3.heap.size S4.zeroB (.slice none 0 0) ∧ Below V.heap.size V X7) := ⟨(HV.out.1.below KT.out.2.1).keptBut g7 (by have := KT.out.2.2.2; have := H.out.2.1; simp; omega), (HV.out.2.1.below KT.out.2.1).keptBut g7 (by have := KT.out.2.2.2; have := HV.out.2.1.lt; simp; omega), m7, (HV.out.2.2.2.below KT.out.2.1).keptBut g7 (by have := KT.out.2.2.2; have := H.out.2.1; simp; omega), gro KT.out.2.1 g7 KT.out.2.2.2 KT.out.2.2.1⟩
            have KT : Hid (McAt X7 X3.heap.size known ∧ Below V.heap.size V X7 ∧ V.heap.size ≤ X7.heap.size ∧ V.heap.size ≤ X3.heap.size) := ⟨m7, HV'.out.2.2.2.2, HV'.out.2.2.2.2.size, KT.out.2.2.2⟩
            clear l4 m7 g7
            obtain ⟨E, hE⟩ : ∃ e, S4.hdE f l S CV (oM p.o) known = e := ⟨_, rfl⟩
            obtain ⟨B, hB⟩ : ∃ e, S4.hdB f l S CV (oM p.o) known = e := ⟨_, rfl⟩
            obtain ⟨R, hR⟩ : ∃ e, S4.hdR f l S CV (oM p.o) known = e := ⟨_, rfl⟩
            have A : Hid (AW = (if E = 0 then 0 else 5) ∧ AB = B ∧ AR = R) := by
              have k := A3.out
              rw [ET.out, hE, hB, hR] at k
              exact k
            have EZ : Hid (¬ E = 0 → B = S4.zeroB ∧ R = []) := fun hn => ⟨by rw [← hB]; unfold S4.hdB; rw [hE, if_neg hn], by rw [← hR]; unfold S4.hdR; rw [hE, if_neg hn]⟩
            have C5 : Hid (∀ W, Below V.heap.size V W → Calls Try.prog 46 #[.agg (S4.fcs f z), .int .i64 S, .int .i64 CV, .agg (mc (oM x.o)), .agg (mc known)] W fun r w' => ∃ s, r = .returned (.tuple #[.agg (S4.bcs B s), .int .i64 E]) ∧ S4.Own w' W.heap.size s R ∧ Below W.heap.size W w') := fun W hW => by
              rw [← hE, ← hB, ← hR, H.out.2.2.o]
              exact S4.hidref_any f z l S CV (oM p.o) known W (HX.out.1.below hW) HX.out.2.1 HX.out.2.2.1 (oM_ok H.out.2.2.wf) MO.out.2 HX.out.2.2.2.2
            clear hE hB hR
            have l1 := (HV.out.2.1.below KT.out.2.1).ld
            have l2 := (HV.out.1.below KT.out.2.1).ow
            have l3 := KT.out.1.ld
            go_wp2_with fail
            refine (C5.out _ KT.out.2.1).mono ?_
            rintro _ X5 ⟨s, rfl, o5, b5⟩
            obtain ⟨Y5, s5, m5, by5, z5⟩ := BfAt.put X5 B s o5.one
            have K5 : Hid (BfAt Y5 W3.heap.size S4.zeroB (.slice none 0 0) ∧ Below w.heap.size w Y5 ∧ S4.Own Y5 V.heap.size s R ∧ BfAt Y5 X5.heap.size B s) := ⟨(HV.out.2.2.2.below KT.out.2.1).below (below_over b5 by5), below_over (below_over H.out.1 KT.out.2.1) (below_over b5 by5), (o5.below by5).base KT.out.2.2.1, m5⟩
            clear o5 b5 m5 by5 z5 l1 l2 l3
            by_cases he : E = 0
            · subst he
              have l4 := K5.out.2.2.2.ld
              obtain ⟨Z, sZ, mZ, gZ⟩ := K5.out.1.st B s K5.out.2.2.1.one
              have G : Hid (BfAt Z W3.heap.size B s ∧ S4.Own Z w.heap.size s R ∧ Below w.heap.size w Z) := ⟨mZ, (K5.out.2.2.1.kept gZ (by have := H.out.2.1; omega)).base (by have := H.out.2.1; omega), gro K5.out.2.1 gZ (by have := H.out.2.1; omega) K5.out.2.1.size⟩
              clear mZ gZ
              go_wp2
              exact ret_bw Try.results19 rfl rfl rfl G.out.1 ⟨s, by rw [A.out.1, A.out.2.1]; exact rfl, by rw [A.out.2.2]; exact G.out.2.1, G.out.2.2⟩
            · have e0 : (E != 0) = true := by simp [he]
              obtain ⟨Z, sZ, mZ, gZ⟩ := K5.out.1.st S4.zeroB (.slice none 0 0) rfl
              have G : Hid (BfAt Z W3.heap.size S4.zeroB (.slice none 0 0) ∧ Below w.heap.size w Z) := ⟨mZ, gro K5.out.2.1 gZ (by have := H.out.2.1; omega) K5.out.2.1.size⟩
              have A' : Hid (AW = 5 ∧ AB = S4.zeroB ∧ AR = []) := ⟨by rw [A.out.1, if_neg he], by rw [A.out.2.1]; exact (EZ.out he).1, by rw [A.out.2.2]; exact (EZ.out he).2⟩
              rw [← zG_agg] at sZ
              clear mZ gZ he
              go_wp2
              exact ret_bw Try.results19 rfl rfl rfl G.out.1 ⟨.slice none 0 0, by rw [A'.out.1, A'.out.2.1]; exact rfl, by rw [A'.out.2.2]; exact S4.own_nil _ _, G.out.2⟩
  · have y0 : (Y != 0) = true := by simp [hy]
    have A := EQ1.out hy
    obtain ⟨Z, sZ, mZ, gZ⟩ := (HV.out.2.2.2.below KX.out.1).st S4.zeroB (.slice none 0 0) rfl
    have G : Hid (BfAt Z W3.heap.size S4.zeroB (.slice none 0 0) ∧ Below w.heap.size w Z ∧ AW = Y ∧ AB = S4.zeroB ∧ AR = []) := ⟨mZ, gro KX.out.2 gZ (by have := H.out.2.1; omega) KX.out.2.size, A⟩
    rw [← zG_agg] at sZ
    clear mZ gZ A hy
    go_wp2
    exact ret_bw Try.results19 rfl rfl rfl G.out.1 ⟨.slice none 0 0, by rw [G.out.2.2.1, G.out.2.2.2.1]; exact rfl, by rw [G.out.2.2.2.2]; exact S4.own_nil _ _, G.out.2.1⟩
end

end Go.Proofs.Ytgjagedngdhdaaa
