/-
  The customer's frame of bytes: walks of Read, of code and definition, each for every input. A set of ports in a map: made, asked, stored into. Plain laws over the program's types. The walk of which frames of the backbone may be: for every one.
-/
import Derived.Test.YtgjagedngdhdaaaJ16XBFrame
import Derived.Test.YtgjagedngdhdaaaJ21XDec
import Derived.Test.YtgjagedngdhdaaaXDecRef
import Derived.Test.YtgjagedngdhdaaaJ06Put
import Derived.Maps.OwnSet
namespace Go.Proofs.Ytgjagedngdhdaaa

section
set_option linter.unusedVariables false
set_option maxRecDepth 4000
set_option linter.unusedSimpArgs false
open Go.RowKit
attribute [local go_sem ↓] ldP stP ldMc stMc ldFr stFr ldBf stBf stSb

def RdOut (l : List Int) (w : World) (r : Ending) (w' : World) : Prop :=
  ∃ s, r = .returned (.tuple #[.agg (S4.fcs (S4.dcF l) s), .int .i64 (whyE (S4.dcE l))]) ∧ S4.Own w' w.heap.size s (S4.dcR l) ∧ Below w.heap.size w w'
set_option maxHeartbeats 2000000 in
theorem read_any (x : Value) (l : List Int) (w : World) (h : S4.Src w x l) (hb : ∀ x ∈ l, 0 ≤ x ∧ x ≤ 255) (hl : l.length ≤ 1900) : Calls Try.prog 10 #[x] w fun r w' => RdOut l w r w' := by
  obtain ⟨V, hV, m0, bV, zV⟩ := FrAt.zero w
  obtain ⟨F, hF⟩ : ∃ z, S4.dcF l = z := ⟨_, rfl⟩
  obtain ⟨E, hE⟩ : ∃ z, S4.dcE l = z := ⟨_, rfl⟩
  obtain ⟨R, hR⟩ : ∃ z, S4.dcR l = z := ⟨_, rfl⟩
  have H : Hid (FrAt V w.heap.size S4.zeroF (.slice none 0 0) ∧ Below w.heap.size w V ∧ V.heap.size = w.heap.size + 1) := ⟨m0, bV, zV⟩
  have C : Hid (Calls Try.prog 32 #[x] V fun r w' => ∃ s, r = .returned (.tuple #[.agg (S4.fcs F s), .int .i64 E]) ∧ S4.Own w' V.heap.size s R ∧ Below V.heap.size V w') := by rw [← hF, ← hE, ← hR]; exact S4.decode_any x l V (h.below bV) hb hl
  have CR : Hid (∀ W, Calls Try.prog 33 #[.int .i64 E] W fun r w' => r = .returned (.int .i64 (whyE E)) ∧ Below W.heap.size W w') := reason_any E
  unfold RdOut
  rw [hF, hE, hR]
  clear m0 bV zV h hb hl hF hE hR
  go_enter Try.func10, Try.ntmps10
  go_wp2_with fail
  refine C.out.mono ?_
  rintro _ X ⟨s, rfl, oX, bX⟩
  obtain ⟨Y, sY, mY, bY, zY⟩ := FrAt.put X F s oX.one
  have K : Hid (S4.Own Y V.heap.size s R ∧ Below w.heap.size w Y ∧ FrAt Y w.heap.size S4.zeroF (.slice none 0 0)) := ⟨oX.below bY, below_over H.out.2.1 (below_over bX bY), H.out.1.below (below_over bX bY)⟩
  have lY := fun q : Later Y => (mY.below q.below).ld
  clear oX bX bY zY mY C
  go_wp2
  refine wp_region_later_tail 3 (by kernel_rfl) (by kernel_rfl) ?_
  simp only [List.take_succ_cons, List.take_zero]
  repeat (go_big_quiet_step (first | exact rfl | (go_at_call 33; with_reducible exact Calls.later_of (CR.out _))))
  refine wpQuiet_nil ?_
  intro q
  simp only [List.drop_succ_cons, List.drop_zero]
  obtain ⟨Q, hQ⟩ : ∃ z, q.val = z := ⟨_, rfl⟩
  have KQ : Hid (S4.Own Q V.heap.size s R ∧ Below w.heap.size w Q ∧ FrAt Q w.heap.size S4.zeroF (.slice none 0 0)) := by rw [← hQ]; exact ⟨K.out.1.below q.below, below_over K.out.2.1 q.below, K.out.2.2.below q.below⟩
  rw [hQ]
  clear hQ lY CR K
  obtain ⟨Z, sZ, mZ, gZ⟩ := KQ.out.2.2.st F s KQ.out.1.one
  have G : Hid (FrAt Z w.heap.size F s ∧ S4.Own Z w.heap.size s R ∧ Below w.heap.size w Z) := ⟨mZ, (KQ.out.1.kept gZ (by have := H.out.2.2; omega)).base (by have := H.out.2.2; omega), gro KQ.out.2.1 gZ (Nat.le_refl _) KQ.out.2.1.size⟩
  clear mZ gZ
  go_wp2
  exact ret_fw Try.results10 rfl rfl rfl G.out.1 ⟨s, rfl, G.out.2.1, G.out.2.2⟩
set_option maxHeartbeats 2000000 in
theorem rread_any (x : Value) (l : List Int) (w : World) (h : S4.Src w x l) (hb : ∀ x ∈ l, 0 ≤ x ∧ x ≤ 255) (hl : l.length ≤ 1900) : Calls Try.prog 11 #[x] w fun r w' => RdOut l w r w' := by
  obtain ⟨V, hV, m0, bV, zV⟩ := FrAt.zero w
  obtain ⟨F, hF⟩ : ∃ z, S4.dcF l = z := ⟨_, rfl⟩
  obtain ⟨E, hE⟩ : ∃ z, S4.dcE l = z := ⟨_, rfl⟩
  obtain ⟨R, hR⟩ : ∃ z, S4.dcR l = z := ⟨_, rfl⟩
  have EF : Hid (¬ E = 0 → F = S4.zeroF ∧ R = []) := fun hn => by
    constructor
    · rw [← hF]; unfold S4.dcF; rw [hE, if_neg hn]
    · rw [← hR]; unfold S4.dcR; rw [hE, if_neg hn]
  have H : Hid (FrAt V w.heap.size S4.zeroF (.slice none 0 0) ∧ Below w.heap.size w V ∧ V.heap.size = w.heap.size + 1) := ⟨m0, bV, zV⟩
  have C : Hid (Calls Try.prog 29 #[x] V fun r w' => ∃ s, r = .returned (.tuple #[.agg (S4.fcs F s), .int .i64 E]) ∧ S4.Own w' V.heap.size s R ∧ Below V.heap.size V w') := by rw [← hF, ← hE, ← hR]; exact S4.dref_any x l V (h.below bV) hb hl
  have CR : Hid (∀ W, Calls Try.prog 34 #[.int .i64 E] W fun r w' => r = .returned (.int .i64 (whyE E)) ∧ Below W.heap.size W w') := rreason_any E
  unfold RdOut
  rw [hF, hE, hR]
  clear m0 bV zV h hb hl hF hE hR
  go_enter Try.func11, Try.ntmps11
  go_wp2_with fail
  refine C.out.mono ?_
  rintro _ X ⟨s, rfl, oX, bX⟩
  obtain ⟨Y, sY, mY, bY, zY⟩ := FrAt.put X F s oX.one
  have K : Hid (S4.Own Y V.heap.size s R ∧ Below w.heap.size w Y ∧ FrAt Y w.heap.size S4.zeroF (.slice none 0 0)) := ⟨oX.below bY, below_over H.out.2.1 (below_over bX bY), H.out.1.below (below_over bX bY)⟩
  have lY := mY.ld
  clear oX bX bY zY mY C
  by_cases he : E = 0
  · subst he
    obtain ⟨Z, sZ, mZ, gZ⟩ := K.out.2.2.st F s K.out.1.one
    have G : Hid (FrAt Z w.heap.size F s ∧ S4.Own Z w.heap.size s R ∧ Below w.heap.size w Z) := ⟨mZ, (K.out.1.kept gZ (by have := H.out.2.2; omega)).base (by have := H.out.2.2; omega), gro K.out.2.1 gZ (Nat.le_refl _) K.out.2.1.size⟩
    clear mZ gZ
    go_wp2
    exact ret_fw Try.results11 rfl rfl rfl G.out.1 ⟨s, rfl, G.out.2.1, G.out.2.2⟩
  · obtain ⟨hF, hR⟩ := EF.out he
    subst hF hR
    have e0 : (E != 0) = true := by simp [he]
    clear he
    go_wp2_with fail
    refine (CR.out _).mono ?_
    rintro _ Q ⟨rfl, bQ⟩
    obtain ⟨Z, sZ, mZ, gZ⟩ := (K.out.2.2.below bQ).st S4.zeroF (.slice none 0 0) rfl
    have G : Hid (FrAt Z w.heap.size S4.zeroF (.slice none 0 0) ∧ Below w.heap.size w Z) := ⟨mZ, gro (below_over K.out.2.1 bQ) gZ (Nat.le_refl _) (below_over K.out.2.1 bQ).size⟩
    rw [← zF_agg] at sZ
    clear mZ gZ bQ
    go_wp2
    exact ret_fw Try.results11 rfl rfl rfl G.out.1 ⟨.slice none 0 0, rfl, S4.own_nil _ _, G.out.2⟩
end

section
set_option linter.unusedVariables false
set_option maxRecDepth 4000
set_option linter.unusedSimpArgs false
open Go.RowKit Go.Maps

theorem lawI : Keyed Try.prog 3 := int_keyed Try.underlying3
theorem wf_in {n : Int} (h : -9223372036854775808 ≤ n ∧ n ≤ 9223372036854775807) : (Lit.int .i64 n).wf = true := by simp [Lit.wf, IntKind.min, IntKind.max, IntKind.signed, IntKind.bits]; omega
/-- Block b is a set of the numbers l. -/
def SetIs (W : World) (b : Nat) (l : List Int) : Prop := ∃ D : DataW Unit, W.ownsMap Try.prog 3 (unitElem (H := Unit)) b l.length D ∧ ∀ k : Int, Maps.has D (.int .i64 k) = l.any (fun x => x == k)
theorem SetIs.lt {W : World} {b : Nat} {l : List Int} (h : SetIs W b l) : b < W.heap.size := by
  obtain ⟨D, ho, _⟩ := h
  exact ho.lt
theorem SetIs.keptBut {W W' : World} {b : Nat} {l : List Int} {row : Option Nat} (h : SetIs W b l) (hg : W.grownBy W' row) (hne : some b ≠ row) : SetIs W' b l := by
  obtain ⟨D, ho, hr⟩ := h
  exact ⟨D, ho.kept hg hne, hr⟩
theorem SetIs.below {W W' : World} {b : Nat} {l : List Int} (h : SetIs W b l) (hb : Below W.heap.size W W') : SetIs W' b l := h.keptBut (grown_of_below hb none) (by simp)
theorem SetIs.made (W : World) : SetIs (W.alloc (.map #[] 0)) W.heap.size [] := ⟨.map [], World.ownsMap_made _ _ _ _, fun k => rfl⟩
theorem zeroUn (w : World) : (zeroValue 143).run Try.prog w = .ok (.agg #[]) w := by kernel_rfl
theorem SetIs.look {W : World} {b : Nat} {l : List Int} (h : SetIs W b l) {k : Int} (hk : -9223372036854775808 ≤ k ∧ k ≤ 9223372036854775807) :
    (Instr.lookup 140 (.map (some b)) (.int .i64 k) true).run Try.prog W = .ok (.tuple #[.agg #[], .bool (l.any (fun x => x == k))]) W := by
  obtain ⟨D, ho, hr⟩ := h
  obtain ⟨v, ps, hrun, hv⟩ := ho.look_ok lawI Try.underlying140 (zeroUn W) (zd := .agg []) (zp := []) unitElem_mk (keyOf_int_mk Try.underlying3 (wf_in hk))
  obtain ⟨rfl, _⟩ := unitElem_inv hv
  rw [hrun, hr k]
theorem turned_size {W W' : World} {b : Nat} (h : W.mapTurned W' b) : W'.heap.size = W.heap.size := by
  obtain ⟨es, clock, es', clock', hb, rfl⟩ := h
  simp [ChangeMaps.setBlock]
theorem SetIs.store {W : World} {b : Nat} {l : List Int} (h : SetIs W b l) (hn : l.length ≤ 1000) {k : Int} (hk : -9223372036854775808 ≤ k ∧ k ≤ 9223372036854775807) :
    ∃ W', (Instr.mapUpdate 140 (.map (some b)) (.int .i64 k) (.agg #[])).run Try.prog W = .ok () W' ∧ SetIs W' b (l ++ [k]) ∧ W.grownBy W' (some b) ∧ W'.heap.size = W.heap.size := by
  obtain ⟨D, ho, hr⟩ := h
  have hkey := keyOf_int_mk Try.underlying3 (wf_in hk)
  obtain ⟨W', hrun, ho', ht⟩ := ho.store lawI Try.underlying140 (by unfold maxLen; omega) hkey unitElem_mk
  refine ⟨W', hrun, ⟨_, by rw [List.length_append]; exact ho', fun j => ?_⟩, ht.grown, turned_size ht⟩
  rw [List.any_append]
  by_cases e : j = k
  · subst e
    rw [Maps.has_put_same (ho.tidy lawI).isMap (lawI.key hkey)]
    simp
  · rw [Maps.has_put_other (fun e' => e (by simpa using e')), hr j]
    have : (k == j) = false := by simp; exact fun e' => e e'.symm
    simp [this]
end

section
namespace S4
set_option linter.unusedVariables false
set_option maxRecDepth 4000
set_option linter.unusedSimpArgs false
open Go.RowKit

attribute [local go_sem ↓] slS_eq ldS_MAC ldS_Tag ldI27 ldS_BFrame ldS_Frame stS_Frame stS_BFrame nqS_eq eqS_eq

/-- Is such a frame wrong, however long it is? -/
def badB (f : Bf) (l : List Int) : Bool := (f.s.kd != 1) || ((f.d.kd == 6) || (!tagOk f.p f.v || (!itagOk f.q f.i || ((f.i == 0) || (chkF f.inn l != 0)))))
/-- The error of such a frame. -/
def chkB (f : Bf) (l : List Int) : Int := if 1502 < l.length then 2 else if badB f l then 40 else 0

set_option maxHeartbeats 400000 in
theorem within_sl (f : Bf) (a : Option Addr) (n c : Nat) (z : Value) (w : World) (hz : z.oneCell' = true) (ez : z = .slice a n c) :
    Calls Try.prog 109 #[.agg (bcs f z)] w fun r w' => r = .returned (.agg (fcs f.inn z)) ∧ Below w.heap.size w w' := by
  subst ez
  have hB : Below w.heap.size w ((w.alloc (.cells (bcs f (.slice a n c)) 49)).alloc (.cells #[.int .u8 0, .int .u8 0, .int .u8 0, .int .u8 0, .int .u8 0, .int .u8 0, .int .u8 0, .int .u8 0, .int .u8 0, .int .u8 0, .int .u8 0, .int .u8 0, .bool false, .int .i64 0, .bool false, .int .i64 0, .slice none 0 0] 34)) := ((Below.refl _ _).alloc (Nat.le_refl _) _).alloc (by simp) _
  have hF : BfAt ((w.alloc (.cells (bcs f (.slice a n c)) 49)).alloc (.cells #[.int .u8 0, .int .u8 0, .int .u8 0, .int .u8 0, .int .u8 0, .int .u8 0, .int .u8 0, .int .u8 0, .int .u8 0, .int .u8 0, .int .u8 0, .int .u8 0, .bool false, .int .i64 0, .bool false, .int .i64 0, .slice none 0 0] 34)) w.heap.size f (.slice a n c) := (BfAt.new w f (.slice a n c)).below ((Below.refl _ _).alloc (Nat.le_refl _) _)
  have hZ : FrAt ((w.alloc (.cells (bcs f (.slice a n c)) 49)).alloc (.cells #[.int .u8 0, .int .u8 0, .int .u8 0, .int .u8 0, .int .u8 0, .int .u8 0, .int .u8 0, .int .u8 0, .int .u8 0, .int .u8 0, .int .u8 0, .int .u8 0, .bool false, .int .i64 0, .bool false, .int .i64 0, .slice none 0 0] 34)) (w.heap.size + 1) zeroF (.slice none 0 0) := by have := zero_new (w.alloc (.cells (bcs f (.slice a n c)) 49)); simpa using this
  have lx := hF.ldx
  have ly := hF.ldy
  have c31 := hF.c31
  unfold M6.v at lx ly
  have st := hZ.stv (g := f.inn) (y := .slice a n c) hz (.agg #[.int .u8 f.x.a, .int .u8 f.x.b, .int .u8 f.x.c, .int .u8 f.x.d, .int .u8 f.x.e, .int .u8 f.x.f, .int .u8 f.y.a, .int .u8 f.y.b, .int .u8 f.y.c, .int .u8 f.y.d, .int .u8 f.y.e, .int .u8 f.y.f, .bool false, .int .i64 0, .bool false, .int .i64 0, .slice a n c]) rfl
  have HZ : Hid _ := And.intro (hZ.set (g := f.inn) (y := .slice a n c)) (below_setRow hB (g := w.heap.size + 1) (by omega) (fcs f.inn (.slice a n c)))
  clear hB hF hZ
  go_enter Try.func109, Try.ntmps109
  go_wp2
  refine bodyPost_ret (results_one Try.results109 _ _ _ _ _ rfl HZ.out.1) rfl ?_
  exact ⟨rfl, HZ.out.2⟩

theorem within_any (f : Bf) (a : Option Addr) (n c : Nat) (w : World) :
    Calls Try.prog 109 #[.agg (bcs f (.slice a n c))] w fun r w' => r = .returned (.agg (fcs f.inn (.slice a n c))) ∧ Below w.heap.size w w' := within_sl f a n c _ w rfl rfl

set_option maxHeartbeats 400000 in
theorem bfaults_long (f : Bf) (a : Option Addr) (n c : Nat) (w : World) (hc : n ≤ c) (hm : c ≤ maxLen) :
    Calls Try.prog 80 #[.agg (bcs f (.slice a n c)), .int .i64 2] w fun r w' => ∃ g, r = .returned (.slice (some ⟨g, 0, none⟩) 1 1) ∧ w'.cell? ⟨g, 0, none⟩ = some (.bool (decide ((1502 : Int) < (n : Int)))) ∧ Below w.heap.size w w' := by
  have c31 := (BfAt.new w f (.slice a n c)).c31
  go_enter Try.func80, Try.ntmps80
  go_wp2
  go_ret
  refine ⟨_, rfl, ?_, by go_grown⟩
  simp

set_option maxHeartbeats 2000000 in
theorem bfaults_all (f : Bf) (a : Option Addr) (n c : Nat) (l : List Int) (w : World) (h : Src w (.slice a n c) l) (hb : ∀ x ∈ l, 0 ≤ x ∧ x ≤ 255) (hf : f.ok) :
    Calls Try.prog 80 #[.agg (bcs f (.slice a n c)), .int .i64 40] w fun r w' => ∃ g, r = .returned (.slice (some ⟨g, 0, none⟩) 6 6) ∧ w'.cell? ⟨g, 0, none⟩ = some (.bool (f.s.kd != 1)) ∧ w'.cell? ⟨g, 1, none⟩ = some (.bool (f.d.kd == 6)) ∧
      w'.cell? ⟨g, 2, none⟩ = some (.bool (!tagOk f.p f.v)) ∧ w'.cell? ⟨g, 3, none⟩ = some (.bool (!itagOk f.q f.i)) ∧ w'.cell? ⟨g, 4, none⟩ = some (.bool (f.i == 0)) ∧ w'.cell? ⟨g, 5, none⟩ = some (.bool (chkF f.inn l != 0)) ∧ Below w.heap.size w w' := by
  have hB : Below w.heap.size w (w.alloc (.cells (bcs f (.slice a n c)) 49)) := (Below.refl _ _).alloc (Nat.le_refl _) _
  have H : Hid (Src w (.slice a n c) l ∧ ∀ x ∈ l, 0 ≤ x ∧ x ≤ 255) := ⟨h, hb⟩
  have hF := BfAt.new w f (.slice a n c)
  obtain ⟨yl, yd, ys, yb, yi, y18, y31⟩ := hF.laters
  obtain ⟨q, hq⟩ : ∃ q, tagOk f.p f.v = q := ⟨_, rfl⟩
  obtain ⟨k, hk⟩ : ∃ k, itagOk f.q f.i = k := ⟨_, rfl⟩
  obtain ⟨m1, hm1⟩ : ∃ k, f.s.kd = k := ⟨_, rfl⟩
  obtain ⟨m2, hm2⟩ : ∃ k, f.d.kd = k := ⟨_, rfl⟩
  obtain ⟨E, hE⟩ : ∃ E, chkF f.inn l = E := ⟨_, rfl⟩
  have Q1 : Hid (∀ W, Calls Try.prog 70 #[f.s.v] W fun r w' => r = .returned (.int .i64 m1) ∧ Below W.heap.size W w') := fun W => by rw [← hm1]; exact kind_m f.s W hf.2.1
  have Q2 : Hid (∀ W, Calls Try.prog 70 #[f.d.v] W fun r w' => r = .returned (.int .i64 m2) ∧ Below W.heap.size W w') := fun W => by rw [← hm2]; exact kind_m f.d W hf.1
  have Q3 : Hid (∀ W, Calls Try.prog 81 #[f.tag] W fun r w' => r = .returned (.int .i64 (chk q)) ∧ Below W.heap.size W w') := fun W => by rw [← hq]; exact checkB_f f W
  have Q4 : Hid (∀ W, Calls Try.prog 108 #[f.itag] W fun r w' => r = .returned (.int .i64 (chk k)) ∧ Below W.heap.size W w') := fun W => by rw [← hk]; exact checkBi_f f W
  have Q5 : Hid (∀ W, Calls Try.prog 109 #[.agg (bcs f (.slice a n c))] W fun r w' => r = .returned (.agg (fcs f.inn (.slice a n c))) ∧ Below W.heap.size W w') := fun W => within_any f a n c W
  have Q6 : Hid (∀ y : Later (w.alloc (.cells (bcs f (.slice a n c)) 49)), Calls Try.prog 35 #[.agg (fcs f.inn (.slice a n c))] y.val fun r w' => r = .returned (.int .i64 E) ∧ Below y.val.heap.size y.val w') := fun y => by rw [← hE]; exact check_fr f.inn _ l _ ((H.out.1.below hB).below y.below) H.out.2 (Bf.inn_ok hf)
  have HB : Hid (Below w.heap.size w (w.alloc (.cells (bcs f (.slice a n c)) 49))) := hB
  rw [hm1, hm2, hq, hk, hE]
  clear h hb hf hF hB H hm1 hm2 hq hk hE
  go_enter Try.func80, Try.ntmps80
  go_wp2
  refine wp_region_later_tail 24 (by kernel_rfl) (by kernel_rfl) ?_
  simp only [List.take_succ_cons, List.take_zero]
  repeat (go_big_quiet_step (first | exact rfl | (go_at_call 70; with_reducible exact Calls.later_of (Q1.out _)) | (go_at_call 70; with_reducible exact Calls.later_of (Q2.out _)) | (go_at_call 81; with_reducible exact Calls.later_of (Q3.out _)) | (go_at_call 108; with_reducible exact Calls.later_of (Q4.out _)) | (go_at_call 109; with_reducible exact Calls.later_of (Q5.out _)) | (go_at_call 35; with_reducible exact Calls.later_of (Q6.out _))))
  refine wpQuiet_nil ?_
  intro x
  simp only [List.drop_succ_cons, List.drop_zero]
  go_wp2
  go_ret
  refine ⟨_, rfl, ?_, ?_, ?_, ?_, ?_, ?_, (below_later HB.out x).alloc (below_later HB.out x).size _⟩
  all_goals first | (simp [chk]; done) | (cases q <;> cases k <;> simp [chk])

theorem bidx0 (w : World) : (Instr.index 128 (.agg #[.int .i64 2, .int .i64 40]) (.int .i64 0)).run Try.prog w = .ok (.int .i64 2) w := by kernel_rfl
theorem bidx1 (w : World) : (Instr.index 128 (.agg #[.int .i64 2, .int .i64 40]) (.int .i64 1)).run Try.prog w = .ok (.int .i64 40) w := by kernel_rfl

set_option maxHeartbeats 1000000 in
theorem bcheck_long (f : Bf) (a : Option Addr) (n c : Nat) (w : World) (hc : n ≤ c) (hm : c ≤ maxLen) (hL : (1502 : Int) < (n : Int)) :
    Calls Try.prog 49 #[.agg (bcs f (.slice a n c))] w fun r w' => r = .returned (.int .i64 2) ∧ Below w.heap.size w w' := by
  have i0 := bidx0
  have ld := (BfAt.new w f (.slice a n c)).ld
  have HB : Hid (Below w.heap.size w (w.alloc (.cells (bcs f (.slice a n c)) 49))) := (Below.refl _ _).alloc (Nat.le_refl _) _
  have HQ : Hid (n ≤ c ∧ c ≤ maxLen ∧ decide ((1502 : Int) < (n : Int)) = true) := ⟨hc, hm, decide_eq_true hL⟩
  clear hc hm hL
  go_enter Try.func49, Try.ntmps49
  go_wp2_with fail
  go_step3
  go_wp2_with fail
  go_step3
  go_wp2_with fail
  refine wp_loop_rounds 1 ?_
  rw [rounds_succ]
  go_wp2_with fail
  refine (bfaults_long f a n c _ HQ.out.1 HQ.out.2.1).mono ?_
  rintro _ w1 ⟨g, rfl, c0, hb1⟩
  rw [HQ.out.2.2] at c0
  have HB1 : Hid (Below w.heap.size w w1) := below_over HB.out hb1
  clear hb1 HB HQ ld
  go_wp2_with fail
  refine wp_loop_rounds 1 ?_
  rw [rounds_succ]
  go_wp2
  rw [Exit.noGoto_ret]
  go_ret
  exact ⟨rfl, HB1.out⟩


set_option maxHeartbeats 2000000 in
theorem bcheck_rest (f : Bf) (a : Option Addr) (n c : Nat) (w : World) (hc : n ≤ c) (hm : c ≤ maxLen) (hL : decide ((1502 : Int) < (n : Int)) = false) (b0 b1 b2 b3 b4 b5 : Bool)
    (h : ∀ W, Below w.heap.size w W → Calls Try.prog 80 #[.agg (bcs f (.slice a n c)), .int .i64 40] W fun r w' => ∃ g, r = .returned (.slice (some ⟨g, 0, none⟩) 6 6) ∧ w'.cell? ⟨g, 0, none⟩ = some (.bool b0) ∧ w'.cell? ⟨g, 1, none⟩ = some (.bool b1) ∧
      w'.cell? ⟨g, 2, none⟩ = some (.bool b2) ∧ w'.cell? ⟨g, 3, none⟩ = some (.bool b3) ∧ w'.cell? ⟨g, 4, none⟩ = some (.bool b4) ∧ w'.cell? ⟨g, 5, none⟩ = some (.bool b5) ∧ Below W.heap.size W w') :
    Calls Try.prog 49 #[.agg (bcs f (.slice a n c))] w fun r w' => r = .returned (.int .i64 (if b0 || (b1 || (b2 || (b3 || (b4 || b5)))) then 40 else 0)) ∧ Below w.heap.size w w' := by
  have hF := BfAt.new w f (.slice a n c)
  have i0 := bidx0
  have i1 := bidx1
  have ld := hF.ld
  have HF : Hid (BfAt (w.alloc (.cells (bcs f (.slice a n c)) 49)) w.heap.size f (.slice a n c)) := hF
  have HB : Hid (Below w.heap.size w (w.alloc (.cells (bcs f (.slice a n c)) 49))) := (Below.refl _ _).alloc (Nat.le_refl _) _
  have HQ : Hid (n ≤ c ∧ c ≤ maxLen ∧ decide ((1502 : Int) < (n : Int)) = false) := ⟨hc, hm, hL⟩
  have HH : Hid (∀ W, Below w.heap.size w W → Calls Try.prog 80 #[.agg (bcs f (.slice a n c)), .int .i64 40] W fun r w' => ∃ g, r = .returned (.slice (some ⟨g, 0, none⟩) 6 6) ∧ w'.cell? ⟨g, 0, none⟩ = some (.bool b0) ∧ w'.cell? ⟨g, 1, none⟩ = some (.bool b1) ∧
      w'.cell? ⟨g, 2, none⟩ = some (.bool b2) ∧ w'.cell? ⟨g, 3, none⟩ = some (.bool b3) ∧ w'.cell? ⟨g, 4, none⟩ = some (.bool b4) ∧ w'.cell? ⟨g, 5, none⟩ = some (.bool b5) ∧ Below W.heap.size W w') := h
  clear hc hm hL hF h
  go_enter Try.func49, Try.ntmps49
  go_wp2_with fail
  go_step3
  go_wp2_with fail
  go_step3
  go_wp2_with fail
  refine wp_loop_rounds 3 ?_
  rw [rounds_succ]
  go_wp2_with fail
  refine (bfaults_long f a n c _ HQ.out.1 HQ.out.2.1).mono ?_
  rintro _ w1 ⟨g, rfl, c0, hb1⟩
  rw [HQ.out.2.2] at c0
  have HB1 : Hid (Below w.heap.size w w1) := below_over HB.out hb1
  have ld1 := (HF.out.below hb1).ld
  clear hb1 HB HQ ld HF
  go_wp2_with fail
  refine wp_loop_rounds 2 ?_
  rw [rounds_succ]
  go_wp2_with fail
  rw [rounds_succ]
  go_wp2_with fail
  clear c0
  rw [rounds_succ]
  go_wp2_with fail
  refine (HH.out _ HB1.out).mono ?_
  rintro _ w2 ⟨g, rfl, c0, c1, c2, c3, c4, c5, hb2⟩
  have HB2 : Hid (Below w.heap.size w w2) := below_over HB1.out hb2
  clear hb2 HB1 ld1 HH
  go_wp2_with fail
  refine wp_loop_rounds 7 ?_
  rw [rounds_succ]
  cases b0
  rotate_left
  · go_wp2
    rw [Exit.noGoto_ret]
    go_ret
    exact ⟨rfl, HB2.out⟩
  go_wp2_with fail
  rw [rounds_succ]
  cases b1
  rotate_left
  · go_wp2
    rw [Exit.noGoto_ret]
    go_ret
    exact ⟨rfl, HB2.out⟩
  go_wp2_with fail
  rw [rounds_succ]
  cases b2
  rotate_left
  · go_wp2
    rw [Exit.noGoto_ret]
    go_ret
    exact ⟨rfl, HB2.out⟩
  go_wp2_with fail
  rw [rounds_succ]
  cases b3
  rotate_left
  · go_wp2
    rw [Exit.noGoto_ret]
    go_ret
    exact ⟨rfl, HB2.out⟩
  go_wp2_with fail
  rw [rounds_succ]
  cases b4
  rotate_left
  · go_wp2
    rw [Exit.noGoto_ret]
    go_ret
    exact ⟨rfl, HB2.out⟩
  go_wp2_with fail
  rw [rounds_succ]
  cases b5
  rotate_left
  · go_wp2
    rw [Exit.noGoto_ret]
    go_ret
    exact ⟨rfl, HB2.out⟩
  go_wp2_with fail
  rw [rounds_succ]
  go_wp2_with fail
  rw [rounds_succ]
  go_wp2
  rw [Exit.noGoto_ret]
  go_ret
  exact ⟨rfl, HB2.out⟩

theorem bcheck_any (f : Bf) (z : Value) (l : List Int) (w : World) (h : Src w z l) (hb : ∀ x ∈ l, 0 ≤ x ∧ x ≤ 255) (hf : f.ok) :
    Calls Try.prog 49 #[.agg (bcs f z)] w fun r w' => r = .returned (.int .i64 (chkB f l)) ∧ Below w.heap.size w w' := by
  obtain ⟨a, n, c, rfl⟩ := src_form h
  obtain ⟨hn, hc, hm⟩ := src_short h
  by_cases hL : (1502 : Int) < (n : Int)
  · have e : chkB f l = 2 := by unfold chkB; rw [if_pos (by omega)]
    rw [e]
    exact bcheck_long f a n c w hc hm hL
  · have := bcheck_rest f a n c w hc hm (decide_eq_false hL) _ _ _ _ _ _ (fun W hW => bfaults_all f a n c l W (h.below hW) hb hf)
    refine this.mono ?_
    rintro r w' ⟨hr, hB⟩
    refine ⟨?_, hB⟩
    have e1 : chkB f l = if badB f l then 40 else 0 := by unfold chkB; rw [if_neg (by omega)]
    rw [hr, e1]
    rfl
end S4
end

end Go.Proofs.Ytgjagedngdhdaaa
