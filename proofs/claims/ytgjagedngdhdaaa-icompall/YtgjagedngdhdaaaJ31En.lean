/-
  A customer's frame into the backbone: walks of Encap, of code and definition, each for every input. What is provisioned stays as it was where a variable of what is provisioned is stored into. Plain laws.
-/
import Derived.Test.YtgjagedngdhdaaaJ27RAsk
import Derived.Test.YtgjagedngdhdaaaJ28Grp
import Derived.Test.YtgjagedngdhdaaaJ29XBDec
import Derived.Test.YtgjagedngdhdaaaXBHideRef
import Derived.Test.YtgjagedngdhdaaaJ18Doc
namespace Go.Proofs.Ytgjagedngdhdaaa

section
set_option linter.unusedVariables false
set_option maxRecDepth 4000
set_option linter.unusedSimpArgs false
open Go.RowKit
attribute [local go_sem ↓] ldP stP ldMc stMc ldFr stFr ldBf stBf stSb

def encT (p : Pv) (port : Int) (f : S4.Fr) (l : List Int) (known : S4.M6) (has : Bool) : S4.M6 := if (has && ((f.d.kd == 1) && (known.kd == 1))) = true then known else grM (clsS p port f l)
def encW (p : Pv) (port : Int) (f : S4.Fr) (l : List Int) (known : S4.M6) (has : Bool) : Int := if clsW p port f l = 0 then (if (car p (clsS p port f l)).2 = true then (if S4.hdE f l (clsS p port f l) (car p (clsS p port f l)).1 (oM p.o) (encT p port f l known has) = 0 then 0 else 5) else 7) else clsW p port f l
def encB (p : Pv) (port : Int) (f : S4.Fr) (l : List Int) (known : S4.M6) (has : Bool) : S4.Bf := if clsW p port f l = 0 ∧ (car p (clsS p port f l)).2 = true then S4.hdB f l (clsS p port f l) (car p (clsS p port f l)).1 (oM p.o) (encT p port f l known has) else S4.zeroB
def encR (p : Pv) (port : Int) (f : S4.Fr) (l : List Int) (known : S4.M6) (has : Bool) : List Int := if clsW p port f l = 0 ∧ (car p (clsS p port f l)).2 = true then S4.hdR f l (clsS p port f l) (car p (clsS p port f l)).1 (oM p.o) (encT p port f l known has) else []
theorem en_1 {p : Pv} {port : Int} {f : S4.Fr} {l : List Int} {known : S4.M6} {has : Bool} (h : ¬ clsW p port f l = 0) : encW p port f l known has = clsW p port f l ∧ encB p port f l known has = S4.zeroB ∧ encR p port f l known has = [] := ⟨if_neg h, if_neg (fun c => h c.1), if_neg (fun c => h c.1)⟩
theorem en_2 {p : Pv} {port : Int} {f : S4.Fr} {l : List Int} {known : S4.M6} {has : Bool} (h : clsW p port f l = 0) (hc : (car p (clsS p port f l)).2 = false) : encW p port f l known has = 7 ∧ encB p port f l known has = S4.zeroB ∧ encR p port f l known has = [] := by
  unfold encW encB encR
  rw [if_pos h, hc]
  exact ⟨rfl, if_neg (fun c => by cases c.2), if_neg (fun c => by cases c.2)⟩
theorem en_3 {p : Pv} {port : Int} {f : S4.Fr} {l : List Int} {known : S4.M6} {has : Bool} (h : clsW p port f l = 0) (hc : (car p (clsS p port f l)).2 = true) : encW p port f l known has = (if S4.hdE f l (clsS p port f l) (car p (clsS p port f l)).1 (oM p.o) (encT p port f l known has) = 0 then 0 else 5) ∧ encB p port f l known has = S4.hdB f l (clsS p port f l) (car p (clsS p port f l)).1 (oM p.o) (encT p port f l known has) ∧ encR p port f l known has = S4.hdR f l (clsS p port f l) (car p (clsS p port f l)).1 (oM p.o) (encT p port f l known has) := ⟨by unfold encW; rw [if_pos h, if_pos hc], if_pos ⟨h, hc⟩, if_pos ⟨h, hc⟩⟩
def EnOut (p : Pv) (port : Int) (f : S4.Fr) (l : List Int) (known : S4.M6) (has : Bool) (w : World) (r : Ending) (w' : World) : Prop :=
  ∃ s, r = .returned (.tuple #[.agg (S4.bcs (encB p port f l known has) s), .int .i64 (encW p port f l known has)]) ∧ S4.Own w' w.heap.size s (encR p port f l known has) ∧ Below w.heap.size w w'
theorem PrAt.ow {W : World} {b : Nat} {x : Pr} (h : PrAt W b x) : (ldS 23 (.pointer (some ⟨b, 0, none⟩))).run Try.prog W = .ok (.agg (mc (oM x.o))) W := h.own
set_option maxHeartbeats 16000000 in
theorem enc_any (x : Pr) (p : Pv) (port : Int) (f : S4.Fr) (z : Value) (l : List Int) (known : S4.M6) (has : Bool) (w : World) (h : IsPv w x p) (hs : S4.Src w z l) (hb : ∀ x ∈ l, 0 ≤ x ∧ x ≤ 255) (hf : f.ok) (hkn : known.ok) (hl : l.length ≤ 2000) :
    Calls Try.prog 18 #[.agg x.cs, .int .i64 port, .agg (S4.fcs f z), .agg (mc known), .bool has] w fun r w' => EnOut p port f l known has w r w' := by
  obtain ⟨W1, hW1, r1, b1, z1⟩ := PrAt.new w x
  obtain ⟨W2, hW2, r2, b2, z2⟩ := FrAt.new W1 f z
  obtain ⟨W3, hW3, r3, b3, z3⟩ := McAt.new W2 known
  obtain ⟨V, hV, r4, b4, z4⟩ := BfAt.zero W3
  obtain ⟨S, hS⟩ : ∃ e, clsS p port f l = e := ⟨_, rfl⟩
  obtain ⟨Y, hY⟩ : ∃ e, clsW p port f l = e := ⟨_, rfl⟩
  obtain ⟨CV, hCV⟩ : ∃ e, (car p S).1 = e := ⟨_, rfl⟩
  obtain ⟨CO, hCO⟩ : ∃ e, (car p S).2 = e := ⟨_, rfl⟩
  obtain ⟨K1, hK1⟩ : ∃ e, (f.d.kd == 1) = e := ⟨_, rfl⟩
  obtain ⟨K2, hK2⟩ : ∃ e, (known.kd == 1) = e := ⟨_, rfl⟩
  obtain ⟨AW, hAW⟩ : ∃ e, encW p port f l known has = e := ⟨_, rfl⟩
  obtain ⟨AB, hAB⟩ : ∃ e, encB p port f l known has = e := ⟨_, rfl⟩
  obtain ⟨AR, hAR⟩ : ∃ e, encR p port f l known has = e := ⟨_, rfl⟩
  have EQ1 : Hid (¬ Y = 0 → AW = Y ∧ AB = S4.zeroB ∧ AR = []) := fun hn => by
    have k := en_1 (known := known) (has := has) (show ¬ clsW p port f l = 0 from by rw [hY]; exact hn)
    rw [hAW, hAB, hAR, hY] at k
    exact k
  have EQ2 : Hid (Y = 0 → CO = false → AW = 7 ∧ AB = S4.zeroB ∧ AR = []) := fun hn hc => by
    have k := en_2 (known := known) (has := has) (show clsW p port f l = 0 from by rw [hY]; exact hn) (by rw [hS, hCO]; exact hc)
    rw [hAW, hAB, hAR] at k
    exact k
  have EQ3 : Hid (Y = 0 → CO = true → AW = (if S4.hdE f l S CV (oM p.o) (encT p port f l known has) = 0 then 0 else 5) ∧ AB = S4.hdB f l S CV (oM p.o) (encT p port f l known has) ∧ AR = S4.hdR f l S CV (oM p.o) (encT p port f l known has)) := fun hn hc => by
    have k := en_3 (known := known) (has := has) (show clsW p port f l = 0 from by rw [hY]; exact hn) (by rw [hS, hCO]; exact hc)
    rw [hAW, hAB, hAR, hS, hCV] at k
    exact k
  have ETQ : Hid (encT p port f l known has = if (has && (K1 && K2)) = true then known else grM S) := by unfold encT; rw [hK1, hK2, hS]; exact rfl
  unfold EnOut
  rw [hAW, hAB, hAR]
  have b34 : Below W2.heap.size W2 V := below_over b3 b4
  have b24 : Below W1.heap.size W1 V := below_over b2 b34
  have b14 : Below w.heap.size w V := below_over b1 b24
  have e1 : W1.heap.size = w.heap.size + 1 := z1
  have e2 : W2.heap.size = w.heap.size + 1 + 1 := by rw [z2, z1]
  have e3 : W3.heap.size = w.heap.size + 1 + 1 + 1 := by rw [z3, z2, z1]
  have e4 : V.heap.size = w.heap.size + 1 + 1 + 1 + 1 := by rw [z4, z3, z2, z1]
  have HV : Hid (PrAt V w.heap.size x ∧ FrAt V W1.heap.size f z ∧ McAt V W2.heap.size known ∧ BfAt V W3.heap.size S4.zeroB (.slice none 0 0)) := ⟨r1.below b24, r2.below b34, r3.below b4, r4⟩
  have H : Hid (Below w.heap.size w V ∧ (V.heap.size = w.heap.size + 1 + 1 + 1 + 1 ∧ W3.heap.size = w.heap.size + 1 + 1 + 1) ∧ IsPv V x p) := ⟨b14, ⟨e4, e3⟩, h.below b14⟩
  have HX : Hid (S4.Src V z l ∧ (∀ x ∈ l, 0 ≤ x ∧ x ≤ 255) ∧ f.ok ∧ known.ok ∧ l.length ≤ 2000) := ⟨hs.below b14, hb, hf, hkn, hl⟩
  have C1 : Hid (Calls Try.prog 12 #[.agg x.cs, .int .i64 port, .agg (S4.fcs f z)] V fun r w' => r = .returned (.tuple #[.int .i64 S, .int .i64 Y]) ∧ Below V.heap.size V w') := by rw [← hS, ← hY]; exact cls_any x p port f z l V (h.below b14) (hs.below b14) hb hf
  have C2 : Hid (∀ W, Below V.heap.size V W → Calls Try.prog 41 #[.agg x.cs, .int .i64 S] W fun r w' => r = .returned (.tuple #[.int .i64 CV, .bool CO]) ∧ Below W.heap.size W w') := fun W hW => by rw [← hCV, ← hCO]; exact car_any x p S W (H.out.2.2.below hW)
  have C3 : Hid (∀ W, Calls Try.prog 15 #[.int .i64 S] W fun r w' => r = .returned (.agg (mc (grM S))) ∧ Below W.heap.size W w') := group_any S
  have CK1 : Hid (∀ W, Calls Try.prog 42 #[.agg (mc f.d)] W fun r w' => r = .returned (.bool K1) ∧ Below W.heap.size W w') := fun W => by rw [← hK1]; exact sing_any f.d W hf.1
  have CK2 : Hid (∀ W, Calls Try.prog 42 #[.agg (mc known)] W fun r w' => r = .returned (.bool K2) ∧ Below W.heap.size W w') := fun W => by rw [← hK2]; exact sing_any known W hkn
  have l1 := (HV.out.2.1).ld
  have l2 := (HV.out.1).ld
  clear h hs hb hf hkn hl r1 r2 r3 r4 b1 b2 b3 b4 b34 b24 b14 e1 e2 e3 e4 z1 z2 z3 z4 hS hY hCV hCO hK1 hK2 hAW hAB hAR
  go_enter Try.func18, Try.ntmps18
  go_wp2_with fail
  refine C1.out.mono ?_
  rintro _ X1 ⟨rfl, b1⟩
  have KX : Hid (Below V.heap.size V X1 ∧ Below w.heap.size w X1) := ⟨b1, below_over H.out.1 b1⟩
  clear b1 l1 l2
  by_cases hy : Y = 0
  · subst hy
    have l2 := (HV.out.1.below KX.out.1).ld
    go_wp2_with fail
    refine (C2.out _ KX.out.1).mono ?_
    rintro _ X2 ⟨rfl, b2⟩
    have KY : Hid (Below V.heap.size V X2 ∧ Below w.heap.size w X2) := ⟨below_over KX.out.1 b2, below_over KX.out.2 b2⟩
    clear b2 l2
    cases CO with
    | false =>
      have A := EQ2.out (by trivial) (by trivial)
      obtain ⟨Z, sZ, mZ, gZ⟩ := (HV.out.2.2.2.below KY.out.1).st S4.zeroB (.slice none 0 0) rfl
      have G : Hid (BfAt Z W3.heap.size S4.zeroB (.slice none 0 0) ∧ Below w.heap.size w Z ∧ AW = 7 ∧ AB = S4.zeroB ∧ AR = []) := ⟨mZ, gro KY.out.2 gZ (by have := H.out.2.1; omega) KY.out.2.size, A⟩
      rw [← zG_agg] at sZ
      clear mZ gZ A
      go_wp2
      exact ret_bw Try.results18 rfl rfl rfl G.out.1 ⟨.slice none 0 0, by rw [G.out.2.2.1, G.out.2.2.2.1]; exact rfl, by rw [G.out.2.2.2.2]; exact S4.own_nil _ _, G.out.2.1⟩
    | true =>
      have A3 := EQ3.out (by trivial) (by trivial)
      have A3 : Hid _ := A3
      go_wp2_with fail
      refine (C3.out _).mono ?_
      rintro _ X3 ⟨rfl, b3⟩
      obtain ⟨U, sU, mU, bU⟩ := McAt.put X3 (grM S)
      obtain ⟨g, hg⟩ : ∃ e, X3.heap.size = e := ⟨_, rfl⟩
      have KT : Hid (McAt U X3.heap.size (grM S) ∧ Below V.heap.size V U ∧ V.heap.size ≤ U.heap.size ∧ V.heap.size ≤ X3.heap.size) := ⟨mU, below_over KY.out.1 (below_over b3 bU), (below_over KY.out.1 (below_over b3 bU)).size, (below_over KY.out.1 b3).size⟩
      have MO : Hid ((grM S).ok ∧ known.ok) := ⟨grM_ok S, HX.out.2.2.2.1⟩
      clear b3 mU bU hg
      cases has with
      | false =>
        have ET : Hid (encT p port f l known false = grM S) := ETQ.out
        obtain ⟨E, hE⟩ : ∃ e, S4.hdE f l S CV (oM p.o) (grM S) = e := ⟨_, rfl⟩
        obtain ⟨B, hB⟩ : ∃ e, S4.hdB f l S CV (oM p.o) (grM S) = e := ⟨_, rfl⟩
        obtain ⟨R, hR⟩ : ∃ e, S4.hdR f l S CV (oM p.o) (grM S) = e := ⟨_, rfl⟩
        have A : Hid (AW = (if E = 0 then 0 else 5) ∧ AB = B ∧ AR = R) := by
          have k := A3.out
          rw [ET.out, hE, hB, hR] at k
          exact k
        have EZ : Hid (¬ E = 0 → B = S4.zeroB ∧ R = []) := fun hn => ⟨by rw [← hB]; unfold S4.hdB; rw [hE, if_neg hn], by rw [← hR]; unfold S4.hdR; rw [hE, if_neg hn]⟩
        have C5 : Hid (∀ W, Below V.heap.size V W → Calls Try.prog 43 #[.agg (S4.fcs f z), .int .i64 S, .int .i64 CV, .agg (mc (oM x.o)), .agg (mc (grM S))] W fun r w' => ∃ s, r = .returned (.tuple #[.agg (S4.bcs B s), .int .i64 E]) ∧ S4.Own w' W.heap.size s R ∧ Below W.heap.size W w') := fun W hW => by
          rw [← hE, ← hB, ← hR, H.out.2.2.o]
          exact S4.hide_any f z l S CV (oM p.o) (grM S) W (HX.out.1.below hW) HX.out.2.1 HX.out.2.2.1 (oM_ok H.out.2.2.wf) MO.out.1 HX.out.2.2.2.2
        clear hE hB hR
        have l1 := (HV.out.2.1.below KT.out.2.1).ld
        have l2 := (HV.out.1.below KT.out.2.1).ow
        have l3 := KT.out.1.ld
        go_wp2_with fail
        refine (C5.out _ KT.out.2.1).mono ?_
        rintro _ X5 ⟨s, rfl, o5, b5⟩
        obtain ⟨Y5, s5, m5, by5, z5⟩ := BfAt.put X5 B s o5.one
        have K5 : Hid (BfAt Y5 W3.heap.size S4.zeroB (.slice none 0 0) ∧ Below w.heap.size w Y5 ∧ S4.Own Y5 V.heap.size s R ∧ BfAt Y5 X5.heap.size B s) := ⟨(HV.out.2.2.2.below KT.out.2.1).below (below_over b5 by5), below_over (below_over H.out.1 KT.out.2.1) (below_over b5 by5), (o5.below by5).base KT.out.2.2.1, m5⟩
        clear o5 b5 m5 by5 z5 l1 l2 l3
        by_cases he : E = 0
        · subst he
          have l4 := K5.out.2.2.2.ld
          obtain ⟨Z, sZ, mZ, gZ⟩ := K5.out.1.st B s K5.out.2.2.1.one
          have G : Hid (BfAt Z W3.heap.size B s ∧ S4.Own Z w.heap.size s R ∧ Below w.heap.size w Z) := ⟨mZ, (K5.out.2.2.1.kept gZ (by have := H.out.2.1; omega)).base (by have := H.out.2.1; omega), gro K5.out.2.1 gZ (by have := H.out.2.1; omega) K5.out.2.1.size⟩
          clear mZ gZ
          go_wp2
          exact ret_bw Try.results18 rfl rfl rfl G.out.1 ⟨s, by rw [A.out.1, A.out.2.1]; exact rfl, by rw [A.out.2.2]; exact G.out.2.1, G.out.2.2⟩
        · have e0 : (E != 0) = true := by simp [he]
          obtain ⟨Z, sZ, mZ, gZ⟩ := K5.out.1.st S4.zeroB (.slice none 0 0) rfl
          have G : Hid (BfAt Z W3.heap.size S4.zeroB (.slice none 0 0) ∧ Below w.heap.size w Z) := ⟨mZ, gro K5.out.2.1 gZ (by have := H.out.2.1; omega) K5.out.2.1.size⟩
          have A' : Hid (AW = 5 ∧ AB = S4.zeroB ∧ AR = []) := ⟨by rw [A.out.1, if_neg he], by rw [A.out.2.1]; exact (EZ.out he).1, by rw [A.out.2.2]; exact (EZ.out he).2⟩
          rw [← zG_agg] at sZ
          clear mZ gZ he
          go_wp2
          exact ret_bw Try.results18 rfl rfl rfl G.out.1 ⟨.slice none 0 0, by rw [A'.out.1, A'.out.2.1]; exact rfl, by rw [A'.out.2.2]; exact S4.own_nil _ _, G.out.2⟩
      | true =>
        have l1 := (HV.out.2.1.below KT.out.2.1).da
        go_wp2_with fail
        refine (CK1.out _).mono ?_
        rintro _ X4 ⟨rfl, bX4⟩
        have KT : Hid (McAt X4 X3.heap.size (grM S) ∧ Below V.heap.size V X4 ∧ V.heap.size ≤ X4.heap.size ∧ V.heap.size ≤ X3.heap.size) := ⟨KT.out.1.below bX4, below_over KT.out.2.1 bX4, Nat.le_trans KT.out.2.2.1 bX4.size, KT.out.2.2.2⟩
        clear bX4
        cases K1 with
        | false =>
          have ET : Hid (encT p port f l known true = grM S) := ETQ.out
          clear l1
          obtain ⟨E, hE⟩ : ∃ e, S4.hdE f l S CV (oM p.o) (grM S) = e := ⟨_, rfl⟩
          obtain ⟨B, hB⟩ : ∃ e, S4.hdB f l S CV (oM p.o) (grM S) = e := ⟨_, rfl⟩
          obtain ⟨R, hR⟩ : ∃ e, S4.hdR f l S CV (oM p.o) (grM S) = e := ⟨_, rfl⟩
          have A : Hid (AW = (if E = 0 then 0 else 5) ∧ AB = B ∧ AR = R) := by
            have k := A3.out
            rw [ET.out, hE, hB, hR] at k
            exact k
          have EZ : Hid (¬ E = 0 → B = S4.zeroB ∧ R = []) := fun hn => ⟨by rw [← hB]; unfold S4.hdB; rw [hE, if_neg hn], by rw [← hR]; unfold S4.hdR; rw [hE, if_neg hn]⟩
          have C5 : Hid (∀ W, Below V.heap.size V W → Calls Try.prog 43 #[.agg (S4.fcs f z), .int .i64 S, .int .i64 CV, .agg (mc (oM x.o)), .agg (mc (grM S))] W fun r w' => ∃ s, r = .returned (.tuple #[.agg (S4.bcs B s), .int .i64 E]) ∧ S4.Own w' W.heap.size s R ∧ Below W.heap.size W w') := fun W hW => by
            rw [← hE, ← hB, ← hR, H.out.2.2.o]
            exact S4.hide_any f z l S CV (oM p.o) (grM S) W (HX.out.1.below hW) HX.out.2.1 HX.out.2.2.1 (oM_ok H.out.2.2.wf) MO.out.1 HX.out.2.2.2.2
          clear hE hB hR
          have l1 := (HV.out.2.1.below KT.out.2.1).ld
          have l2 := (HV.out.1.below KT.out.2.1).ow
          have l3 := KT.out.1.ld
          go_wp2_with fail
          refine (C5.out _ KT.out.2.1).mono ?_
          rintro _ X5 ⟨s, rfl, o5, b5⟩
          obtain ⟨Y5, s5, m5, by5, z5⟩ := BfAt.put X5 B s o5.one
          have K5 : Hid (BfAt Y5 W3.heap.size S4.zeroB (.slice none 0 0) ∧ Below w.heap.size w Y5 ∧ S4.Own Y5 V.heap.size s R ∧ BfAt Y5 X5.heap.size B s) := ⟨(HV.out.2.2.2.below KT.out.2.1).below (below_over b5 by5), below_over (below_over H.out.1 KT.out.2.1) (below_over b5 by5), (o5.below by5).base KT.out.2.2.1, m5⟩
          clear o5 b5 m5 by5 z5 l1 l2 l3
          by_cases he : E = 0
          · subst he
            have l4 := K5.out.2.2.2.ld
            obtain ⟨Z, sZ, mZ, gZ⟩ := K5.out.1.st B s K5.out.2.2.1.one
            have G : Hid (BfAt Z W3.heap.size B s ∧ S4.Own Z w.heap.size s R ∧ Below w.heap.size w Z) := ⟨mZ, (K5.out.2.2.1.kept gZ (by have := H.out.2.1; omega)).base (by have := H.out.2.1; omega), gro K5.out.2.1 gZ (by have := H.out.2.1; omega) K5.out.2.1.size⟩
            clear mZ gZ
            go_wp2
            exact ret_bw Try.results18 rfl rfl rfl G.out.1 ⟨s, by rw [A.out.1, A.out.2.1]; exact rfl, by rw [A.out.2.2]; exact G.out.2.1, G.out.2.2⟩
          · have e0 : (E != 0) = true := by simp [he]
            obtain ⟨Z, sZ, mZ, gZ⟩ := K5.out.1.st S4.zeroB (.slice none 0 0) rfl
            have G : Hid (BfAt Z W3.heap.size S4.zeroB (.slice none 0 0) ∧ Below w.heap.size w Z) := ⟨mZ, gro K5.out.2.1 gZ (by have := H.out.2.1; omega) K5.out.2.1.size⟩
            have A' : Hid (AW = 5 ∧ AB = S4.zeroB ∧ AR = []) := ⟨by rw [A.out.1, if_neg he], by rw [A.out.2.1]; exact (EZ.out he).1, by rw [A.out.2.2]; exact (EZ.out he).2⟩
            rw [← zG_agg] at sZ
            clear mZ gZ he
            go_wp2
            exact ret_bw Try.results18 rfl rfl rfl G.out.1 ⟨.slice none 0 0, by rw [A'.out.1, A'.out.2.1]; exact rfl, by rw [A'.out.2.2]; exact S4.own_nil _ _, G.out.2⟩
        | true =>
          have l4 := (HV.out.2.2.1.below KT.out.2.1).ld
          clear l1
          go_wp2_with fail
          refine (CK2.out _).mono ?_
          rintro _ X6 ⟨rfl, bX6⟩
          have KT : Hid (McAt X6 X3.heap.size (grM S) ∧ Below V.heap.size V X6 ∧ V.heap.size ≤ X6.heap.size ∧ V.heap.size ≤ X3.heap.size) := ⟨KT.out.1.below bX6, below_over KT.out.2.1 bX6, Nat.le_trans KT.out.2.2.1 bX6.size, KT.out.2.2.2⟩
          clear bX6
          cases K2 with
          | false =>
            have ET : Hid (encT p port f l known true = grM S) := ETQ.out
            clear l4
            obtain ⟨E, hE⟩ : ∃ e, S4.hdE f l S CV (oM p.o) (grM S) = e := ⟨_, rfl⟩
            obtain ⟨B, hB⟩ : ∃ e, S4.hdB f l S CV (oM p.o) (grM S) = e := ⟨_, rfl⟩
            obtain ⟨R, hR⟩ : ∃ e, S4.hdR f l S CV (oM p.o) (grM S) = e := ⟨_, rfl⟩
            have A : Hid (AW = (if E = 0 then 0 else 5) ∧ AB = B ∧ AR = R) := by
              have k := A3.out
              rw [ET.out, hE, hB, hR] at k
              exact k
            have EZ : Hid (¬ E = 0 → B = S4.zeroB ∧ R = []) := fun hn => ⟨by rw [← hB]; unfold S4.hdB; rw [hE, if_neg hn], by rw [← hR]; unfold S4.hdR; rw [hE, if_neg hn]⟩
            have C5 : Hid (∀ W, Below V.heap.size V W → Calls Try.prog 43 #[.agg (S4.fcs f z), .int .i64 S, .int .i64 CV, .agg (mc (oM x.o)), .agg (mc (grM S))] W fun r w' => ∃ s, r = .returned (.tuple #[.agg (S4.bcs B s), .int .i64 E]) ∧ S4.Own w' W.heap.size s R ∧ Below W.heap.size W w') := fun W hW => by
              rw [← hE, ← hB, ← hR, H.out.2.2.o]
              exact S4.hide_any f z l S CV (oM p.o) (grM S) W (HX.out.1.below hW) HX.out.2.1 HX.out.2.2.1 (oM_ok H.out.2.2.wf) MO.out.1 HX.out.2.2.2.2
            clear hE hB hR
            have l1 := (HV.out.2.1.below KT.out.2.1).ld
            have l2 := (HV.out.1.below KT.out.2.1).ow
            have l3 := KT.out.1.ld
            go_wp2_with fail
            refine (C5.out _ KT.out.2.1).mono ?_
            rintro _ X5 ⟨s, rfl, o5, b5⟩
            obtain ⟨Y5, s5, m5, by5, z5⟩ := BfAt.put X5 B s o5.one
            have K5 : Hid (BfAt Y5 W3.heap.size S4.zeroB (.slice none 0 0) ∧ Below w.heap.size w Y5 ∧ S4.Own Y5 V.heap.size s R ∧ BfAt Y5 X5.heap.size B s) := ⟨(HV.out.2.2.2.below KT.out.2.1).below (below_over b5 by5), below_over (below_over H.out.1 KT.out.2.1) (below_over b5 by5), (o5.below by5).base KT.out.2.2.1, m5⟩
            clear o5 b5 m5 by5 z5 l1 l2 l3
            by_cases he : E = 0
            · subst he
              have l4 := K5.out.2.2.2.ld
              obtain ⟨Z, sZ, mZ, gZ⟩ := K5.out.1.st B s K5.out.2.2.1.one
              have G : Hid (BfAt Z W3.heap.size B s ∧ S4.Own Z w.heap.size s R ∧ Below w.heap.size w Z) := ⟨mZ, (K5.out.2.2.1.kept gZ (by have := H.out.2.1; omega)).base (by have := H.out.2.1; omega), gro K5.out.2.1 gZ (by have := H.out.2.1; omega) K5.out.2.1.size⟩
              clear mZ gZ
              go_wp2
              exact ret_bw Try.results18 rfl rfl rfl G.out.1 ⟨s, by rw [A.out.1, A.out.2.1]; exact rfl, by rw [A.out.2.2]; exact G.out.2.1, G.out.2.2⟩
            · have e0 : (E != 0) = true := by simp [he]
              obtain ⟨Z, sZ, mZ, gZ⟩ := K5.out.1.st S4.zeroB (.slice none 0 0) rfl
              have G : Hid (BfAt Z W3.heap.size S4.zeroB (.slice none 0 0) ∧ Below w.heap.size w Z) := ⟨mZ, gro K5.out.2.1 gZ (by have := H.out.2.1; omega) K5.out.2.1.size⟩
              have A' : Hid (AW = 5 ∧ AB = S4.zeroB ∧ AR = []) := ⟨by rw [A.out.1, if_neg he], by rw [A.out.2.1]; exact (EZ.out he).1, by rw [A.out.2.2]; exact (EZ.out he).2⟩
              rw [← zG_agg] at sZ
              clear mZ gZ he
              go_wp2
              exact ret_bw Try.results18 rfl rfl rfl G.out.1 ⟨.slice none 0 0, by rw [A'.out.1, A'.out.2.1]; exact rfl, by rw [A'.out.2.2]; exact S4.own_nil _ _, G.out.2⟩
          | true =>
            have ET : Hid (encT p port f l known true = known) := ETQ.out
            have l5 := (HV.out.2.2.1.below KT.out.2.1).ld
            obtain ⟨X7, s7, m7, g7⟩ := KT.out.1.st known
            have HV' : Hid (PrAt X7 w.heap.size x ∧ FrAt X7 W1.heap.size f z ∧ McAt X7 X3.heap.size known ∧ BfAt X7 W3.heap.size S4.zeroB (.slice none 0 0) ∧ Below V.heap.size V X7) := ⟨(HV.out.1.below KT.out.2.1).keptBut g7 (by have := KT.out.2.2.2; have := H.out.2.1; simp; omega), (HV.out.2.1.below KT.out.2.1).keptBut g7 (by have := KT.out.2.2.2; have := HV.out.2.1.lt; simp; omega), m7, (HV.out.2.2.2.below KT.out.2.1).keptBut g7 (by have := KT.out.2.2.2; have := H.out.2.1; simp; omega), gro KT.out.2.1 g7 KT.out.2.2.2 KT.out.2.2.1⟩
            have KT : Hid (McAt X7 X3.heap.size known ∧ Below V.heap.size V X7 ∧ V.heap.size ≤ X7.heap.size ∧ V.heap.size ≤ X3.heap.size) := ⟨m7, HV'.out.2.2.2.2, HV'.out.2.2.2.2.size, KT.out.2.2.2⟩
            clear l4 m7 g7
            obtain ⟨E, hE⟩ : ∃ e, S4.hdE f l S CV (oM p.o) known = e := ⟨_, rfl⟩
            obtain ⟨B, hB⟩ : ∃ e, S4.hdB f l S CV (oM p.o) known = e := ⟨_, rfl⟩
            obtain ⟨R, hR⟩ : ∃ e, S4.hdR f l S CV (oM p.o) known = e := ⟨_, rfl⟩
            have A : Hid (AW = (if E = 0 then 0 else 5) ∧ AB = B ∧ AR = R) := by
              have k := A3.out
              rw [ET.out, hE, hB, hR] at k
              exact k
            have EZ : Hid (¬ E = 0 → B = S4.zeroB ∧ R = []) := fun hn => ⟨by rw [← hB]; unfold S4.hdB; rw [hE, if_neg hn], by rw [← hR]; unfold S4.hdR; rw [hE, if_neg hn]⟩
            have C5 : Hid (∀ W, Below V.heap.size V W → Calls Try.prog 43 #[.agg (S4.fcs f z), .int .i64 S, .int .i64 CV, .agg (mc (oM x.o)), .agg (mc known)] W fun r w' => ∃ s, r = .returned (.tuple #[.agg (S4.bcs B s), .int .i64 E]) ∧ S4.Own w' W.heap.size s R ∧ Below W.heap.size W w') := fun W hW => by
              rw [← hE, ← hB, ← hR, H.out.2.2.o]
              exact S4.hide_any f z l S CV (oM p.o) known W (HX.out.1.below hW) HX.out.2.1 HX.out.2.2.1 (oM_ok H.out.2.2.wf) MO.out.2 HX.out.2.2.2.2
            clear hE hB hR
            have l1 := (HV.out.2.1.below KT.out.2.1).ld
            have l2 := (HV.out.1.below KT.out.2.1).ow
            have l3 := KT.out.1.ld
            go_wp2_with fail
            refine (C5.out _ KT.out.2.1).mono ?_
            rintro _ X5 ⟨s, rfl, o5, b5⟩
            obtain ⟨Y5, s5, m5, by5, z5⟩ := BfAt.put X5 B s o5.one
            have K5 : Hid (BfAt Y5 W3.heap.size S4.zeroB (.slice none 0 0) ∧ Below w.heap.size w Y5 ∧ S4.Own Y5 V.heap.size s R ∧ BfAt Y5 X5.heap.size B s) := ⟨(HV.out.2.2.2.below KT.out.2.1).below (below_over b5 by5), below_over (below_over H.out.1 KT.out.2.1) (below_over b5 by5), (o5.below by5).base KT.out.2.2.1, m5⟩
            clear o5 b5 m5 by5 z5 l1 l2 l3
            by_cases he : E = 0
            · subst he
              have l4 := K5.out.2.2.2.ld
              obtain ⟨Z, sZ, mZ, gZ⟩ := K5.out.1.st B s K5.out.2.2.1.one
              have G : Hid (BfAt Z W3.heap.size B s ∧ S4.Own Z w.heap.size s R ∧ Below w.heap.size w Z) := ⟨mZ, (K5.out.2.2.1.kept gZ (by have := H.out.2.1; omega)).base (by have := H.out.2.1; omega), gro K5.out.2.1 gZ (by have := H.out.2.1; omega) K5.out.2.1.size⟩
              clear mZ gZ
              go_wp2
              exact ret_bw Try.results18 rfl rfl rfl G.out.1 ⟨s, by rw [A.out.1, A.out.2.1]; exact rfl, by rw [A.out.2.2]; exact G.out.2.1, G.out.2.2⟩
            · have e0 : (E != 0) = true := by simp [he]
              obtain ⟨Z, sZ, mZ, gZ⟩ := K5.out.1.st S4.zeroB (.slice none 0 0) rfl
              have G : Hid (BfAt Z W3.heap.size S4.zeroB (.slice none 0 0) ∧ Below w.heap.size w Z) := ⟨mZ, gro K5.out.2.1 gZ (by have := H.out.2.1; omega) K5.out.2.1.size⟩
              have A' : Hid (AW = 5 ∧ AB = S4.zeroB ∧ AR = []) := ⟨by rw [A.out.1, if_neg he], by rw [A.out.2.1]; exact (EZ.out he).1, by rw [A.out.2.2]; exact (EZ.out he).2⟩
              rw [← zG_agg] at sZ
              clear mZ gZ he
              go_wp2
              exact ret_bw Try.results18 rfl rfl rfl G.out.1 ⟨.slice none 0 0, by rw [A'.out.1, A'.out.2.1]; exact rfl, by rw [A'.out.2.2]; exact S4.own_nil _ _, G.out.2⟩
  · have y0 : (Y != 0) = true := by simp [hy]
    have A := EQ1.out hy
    obtain ⟨Z, sZ, mZ, gZ⟩ := (HV.out.2.2.2.below KX.out.1).st S4.zeroB (.slice none 0 0) rfl
    have G : Hid (BfAt Z W3.heap.size S4.zeroB (.slice none 0 0) ∧ Below w.heap.size w Z ∧ AW = Y ∧ AB = S4.zeroB ∧ AR = []) := ⟨mZ, gro KX.out.2 gZ (by have := H.out.2.1; omega) KX.out.2.size, A⟩
    rw [← zG_agg] at sZ
    clear mZ gZ A hy
    go_wp2
    exact ret_bw Try.results18 rfl rfl rfl G.out.1 ⟨.slice none 0 0, by rw [G.out.2.2.1, G.out.2.2.2.1]; exact rfl, by rw [G.out.2.2.2.2]; exact S4.own_nil _ _, G.out.2.1⟩
end

section
set_option linter.unusedVariables false
set_option maxRecDepth 4000
set_option linter.unusedSimpArgs false
open Go.RowKit
attribute [local go_sem ↓] ldM stM ldC stC ldB stB ldP stP apI bsI
attribute [local go_sem] bsI_is bsI2_is

theorem RvAt.get {W : World} {b : Nat} {ty : TypeId} {cs : Array Value} (h : RvAt W b ty cs) (k : Nat) : W.cell? ⟨b, k, none⟩ = cs[k]? := by
  have h' : W.heap[b]? = some (.cells cs ty (0, 0)) := h
  simp [World.cell?, h']
theorem SlAt.keptV {α : Type} {e : El α} (k : e.Ok) (hf : ∀ u : α, ∃ v, (e.f u)[0]? = some (.int .i64 v)) {W W' : World} {a : Option Addr} {n c g : Nat} {l : List α} {ty : TypeId} {cs : Array Value} (h : SlAt e W a n c l) (hr : RvAt W g ty cs) (hcs : ∀ (j : Nat) (v : Int), cs[j]? ≠ some (.int .i64 v)) (hg : W.grownBy W' (some g)) : SlAt e W' a n c l := by
  refine ⟨h.len, h.cap, h.max, h.nil, fun y hy h0 => ?_⟩
  obtain ⟨b, o, e', hc⟩ := h.cells y hy h0
  have hl : 0 < l.length := by rw [h.len]; exact h0
  obtain ⟨v, hv⟩ := hf l[0]
  have h1 := El.fl_at k (i := 0) (j := 0) (List.getElem?_eq_getElem hl) hv
  rw [Nat.zero_mul, Nat.zero_add] at h1
  have h2 := hc 0 _ h1
  have hne : b ≠ g := by
    intro e2
    subst e2
    rw [hr.get] at h2
    exact hcs _ _ h2
  refine ⟨b, o, e', fun j u hj => ?_⟩
  have h3 := hc j u hj
  have hb : b < W.heap.size := by
    rcases Nat.lt_or_ge b W.heap.size with h4 | h4
    · exact h4
    · simp [World.cell?, Array.getElem?_eq_none h4] at h3
  have hb2 := hg.block b hb (by simpa using hne)
  rw [← h3]
  unfold World.cell?
  rw [hb2]
theorem pr_no {W : World} {z : Pr} {pz : Pv} (h : IsPv W z pz) : ∀ (j : Nat) (v : Int), z.cs[j]? ≠ some (.int .i64 v) := by
  obtain ⟨_, _, _, h1, _⟩ := h.k
  obtain ⟨_, _, _, h2, _⟩ := h.m
  obtain ⟨_, _, _, h3, _⟩ := h.c
  obtain ⟨_, ⟨_, _, _, h4, _⟩, _⟩ := h.b
  intro j v hj
  have hl : j < 10 := (Array.getElem?_eq_some_iff.1 hj).1
  match j, hl, hj with
  | 0, _, hj => simp [Pr.cs] at hj
  | 1, _, hj => simp [Pr.cs] at hj
  | 2, _, hj => simp [Pr.cs] at hj
  | 3, _, hj => simp [Pr.cs] at hj
  | 4, _, hj => simp [Pr.cs] at hj
  | 5, _, hj => simp [Pr.cs] at hj
  | 6, _, hj => simp [Pr.cs, h1] at hj
  | 7, _, hj => simp [Pr.cs, h2] at hj
  | 8, _, hj => simp [Pr.cs, h3] at hj
  | 9, _, hj => simp [Pr.cs, h4] at hj
theorem IsPv.keptV {W W' : World} {x z : Pr} {p pz : Pv} {g : Nat} (h : IsPv W x p) (hr : PrAt W g z) (hz : IsPv W z pz) (hg : W.grownBy W' (some g)) : IsPv W' x p := by
  have hn := pr_no hz
  obtain ⟨a1, n1, c1, e1, s1⟩ := h.k
  obtain ⟨a2, n2, c2, e2, s2⟩ := h.m
  obtain ⟨a3, n3, c3, e3, s3⟩ := h.c
  obtain ⟨r, ⟨a4, n4, c4, e4, s4⟩, m4⟩ := h.b
  exact ⟨h.o, h.wf, ⟨a1, n1, c1, e1, s1.keptV kK (fun u => ⟨u, rfl⟩) hr hn hg⟩, ⟨a2, n2, c2, e2, s2.keptV kM (fun u => ⟨u.p, rfl⟩) hr hn hg⟩, ⟨a3, n3, c3, e3, s3.keptV kC (fun u => ⟨u.s, rfl⟩) hr hn hg⟩, r, ⟨a4, n4, c4, e4, s4.keptV kB (fun u => ⟨u.v, rfl⟩) hr hn hg⟩, m4.len, fun i a b ha hb => ⟨(m4.at' i a b ha hb).1, (m4.at' i a b ha hb).2.keptV kI (fun u => ⟨u, rfl⟩) hr hn hg⟩⟩
/-- A bool that says whether it is so. -/
theorem tell_is {P : Prop} : ∃ T : Bool, T = true ↔ P := by
  by_cases h : P
  · exact ⟨true, fun _ => h, fun _ => rfl⟩
  · exact ⟨false, (fun e => by cases e), fun e => absurd e h⟩
theorem TellB.is {r : Ending} {P : Prop} {T : Bool} (h : TellB r P) (hT : T = true ↔ P) : r = .returned (.bool T) := by
  obtain ⟨R, hr, hR⟩ := h
  rw [hr]
  exact ret_bool (by rw [Bool.eq_iff_iff, hR, hT])
end

end Go.Proofs.Ytgjagedngdhdaaa
