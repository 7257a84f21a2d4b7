/-
  Where a frame goes: the walk of Out, for every input.
-/
import Derived.Test.YtcejfkkhmlebdaaOut
namespace Go.Proofs.Ytcejfkkhmlebdaa
set_option linter.unusedVariables false
set_option maxRecDepth 4000
set_option linter.unusedSimpArgs false
open Go.RowKit
attribute [local go_sem ↓] ldM stM ldC stC ldB stB ldP stP apI bsI ldO ldF stF ldG stG bdG eqgO neqO eqlO mkL stLs stL
attribute [local go_sem] bsI_is bdG_is bdG_z fdG0 fdG1

theorem box_new (w : World) (v : Value) (t : TypeId) : ∃ V, w.alloc (.cells #[v] t) = V ∧ RvAt V w.heap.size t #[v] ∧ Below w.heap.size w V ∧ V.heap.size = w.heap.size + 1 := ⟨_, rfl, RvAt.new w _ _, (Below.refl _ _).alloc (Nat.le_refl _) _, by simp⟩
theorem RvAt.belowB {W W' : World} {b B : Nat} {ty : TypeId} {cs : Array Value} (h : RvAt W b ty cs) (hb : Below B W W') (hl : b < B) : RvAt W' b ty cs := (hb.block b hl).trans h
theorem SlAt.belowB {α : Type} {e : El α} {W W' : World} {a : Option Addr} {n c B : Nat} {l : List α} (h : SlAt e W a n c l) (hb : Below B W W') (hl : ∀ x, a = some x → x.block < B) : SlAt e W' a n c l := by
  refine ⟨h.len, h.cap, h.max, h.nil, fun x hx h0 => ?_⟩
  obtain ⟨b, o, e', hc⟩ := h.cells x hx h0
  subst e'
  exact ⟨b, o, rfl, fun j u hj => (hb.cell (p := ⟨b, o + j, none⟩) (hl ⟨b, o, none⟩ hx)).trans (hc j u hj)⟩
/-- What Out keeps of what was handed in. -/
structure OtS (w V : World) (x : Pr) (p : Pv) (ga : Option Addr) (gn gc : Nat) (g : List Gt) (src : Int) (f : Bf) (b1 b2 b3 : Nat) : Prop where
  pv : IsPv V x p
  gs : SlAt eG V ga gn gc g
  pr : PrAt V w.heap.size x
  gv : RvAt V b1 32 #[.slice ga gn gc]
  sv : RvAt V b2 3 #[.int .i64 src]
  fr : FrAt V b3 f
  bel : Below w.heap.size w V
theorem OtS.below {w V V' : World} {x : Pr} {p : Pv} {ga : Option Addr} {gn gc : Nat} {g : List Gt} {src : Int} {f : Bf} {b1 b2 b3 : Nat} (h : OtS w V x p ga gn gc g src f b1 b2 b3) (hb : Below V.heap.size V V') : OtS w V' x p ga gn gc g src f b1 b2 b3 :=
  ⟨h.pv.below hb, h.gs.below hb, h.pr.below hb, h.gv.below hb, h.sv.below hb, h.fr.below hb, below_over h.bel hb⟩
/-- .. and its row of ports. -/
structure OtR (w0 : World) (W : World) (gb gvb gn : Nat) (acc : List Int) (u : Value) (B : Nat) (la : Option Addr) (ln lc : Nat) (L : List Int) : Prop where
  pat : PAt eL W gb gn (gnL gn acc)
  gone : RvAt W gvb 85 #[.slice (some ⟨gb, 0, none⟩) gn gn]
  own : Own eI W B u acc
  mem : SlAt eI W la ln lc L
  out : ∀ x, la = some x → gb < x.block ∧ x.block < B
  bel : Below w0.heap.size w0 W
  lo : w0.heap.size ≤ gb
  ne : gb ≠ gvb
  up : gb < B
  gup : gvb < B
  low : w0.heap.size ≤ B
  siz : B ≤ W.heap.size
theorem OtR.below {w0 W W' : World} {gb gvb gn : Nat} {acc : List Int} {u : Value} {B : Nat} {la : Option Addr} {ln lc : Nat} {L : List Int} (h : OtR w0 W gb gvb gn acc u B la ln lc L) (hb : Below W.heap.size W W') : OtR w0 W' gb gvb gn acc u B la ln lc L :=
  ⟨h.pat.below hb, h.gone.below hb, h.own.below hb, h.mem.below hb, h.out, below_over h.bel hb, h.lo, h.ne, h.up, h.gup, h.low, Nat.le_trans h.siz hb.size⟩
/-- A port that it goes to. -/
theorem OtR.put {w0 W : World} {gb gvb gn : Nat} {acc : List Int} {u : Value} {B : Nat} {la : Option Addr} {ln lc : Nat} {L : List Int} (h : OtR w0 W gb gvb gn acc u B la ln lc L) {y : Int} (h0 : 0 ≤ y) (h1 : y < (gn : Int)) (hl : acc.length ≤ 1000) :
    ∃ V, (stS 4 (.pointer (some ⟨gb, y.toNat, none⟩)) (.bool true)).run Try.prog W = .ok () V ∧ ∃ v' X, (apS 59 59 #[u, .slice (some ⟨V.heap.size, 0, none⟩) 1 1]).run Try.prog (V.alloc (.cells (#[.int .i64 y]) 3)) = .ok v' X ∧ OtR w0 X gb gvb gn (acc ++ [y]) v' B la ln lc L ∧ RvAt V gvb 85 #[.slice (some ⟨gb, 0, none⟩) gn gn] := by
  have hy : y.toNat < gn := by omega
  obtain ⟨V, s, pV, gV⟩ := h.pat.st1 kL (i := y.toNat) (j := 0) (tv := 4) (y := true) (v := .bool true) (q := y.toNat) (gnL_at acc hy) infoL (by decide) rfl (fun r => by
    match r with
    | 0 => rfl
    | r + 1 => rfl) (by show y.toNat = y.toNat * 1 + 0; omega)
  rw [gnL_set acc hy, Int.toNat_of_nonneg h0] at pV
  have oV : Own eI V B u acc := h.own.kept gV h.up
  have bV : Below w0.heap.size w0 V := gro h.bel gV h.lo h.bel.size
  have gv : RvAt V gvb 85 #[.slice (some ⟨gb, 0, none⟩) gn gn] := h.gone.keptBut gV (by simp; exact fun e => h.ne e.symm)
  have mV : SlAt eI V la ln lc L := h.mem.keptBut gV (fun x hx _ => by have := (h.out x hx).1; simp; omega)
  obtain ⟨v', X, ap, oX, bX⟩ := nI oV (Nat.le_trans h.siz gV.size) hl y
  refine ⟨V, s, v', X, ap, ⟨?_, gv.belowB bX h.gup, oX, mV.belowB bX (fun x hx => (h.out x hx).2), h.out, bV.trans (bX.mono h.low), h.lo, h.ne, h.up, h.gup, h.low, Nat.le_trans h.siz (Nat.le_trans gV.size bX.size)⟩, gv⟩
  obtain ⟨cur, r, hr⟩ := pV
  exact ⟨cur, r.belowB bX h.up, hr⟩
theorem ptl_mem {v : Int} {ps : List Int} : ∀ {l : List Mb}, ptl v l = some ps → ∃ m ∈ l, m.v = v ∧ m.ps = ps
  | [], h => by cases h
  | x :: l, h => by
    rw [ptl] at h
    split at h
    · rename_i hv
      exact ⟨x, List.mem_cons_self .., by simpa using hv, by cases h; rfl⟩
    · obtain ⟨m, hm, h1, h2⟩ := ptl_mem h
      exact ⟨m, List.mem_cons_of_mem _ hm, h1, h2⟩
theorem mems_len {p : Pv} (h : ∀ m ∈ p.bs, m.ps.length ≤ 1000) (v : Int) : (mems p v).length ≤ 1000 := by
  unfold mems pts
  cases hp : ptl v p.bs with
  | none => simp
  | some ps =>
    obtain ⟨m, hm, _, rfl⟩ := ptl_mem hp
    exact h m hm
set_option maxHeartbeats 8000000 in
theorem out_any (x : Pr) (p : Pv) (ga : Option Addr) (gn gc : Nat) (g : List Gt) (src : Int) (f : Bf) (dst : Int) (has : Bool) (w : World) (h : IsPv w x p) (hl : ∀ m ∈ p.bs, m.ps.length ≤ 1000) (hg : SlAt eG w ga gn gc g) (hgn : gn ≤ 1000) (hf : f.ok) :
    Calls Try.prog 11 #[.agg x.cs, .slice ga gn gc, .int .i64 src, .agg f.cs, .int .i64 dst, .bool has] w fun r w' => (∃ v, r = .returned (.tuple #[v, .bool (outB p src f)]) ∧ Own eI w' w.heap.size v (outL p g src f dst has)) ∧ Below w.heap.size w w' := by
  obtain ⟨W1, hW1, r1, b1, z1⟩ := PrAt.new w x
  obtain ⟨W2, hW2, r2, b2, z2⟩ := box_new W1 (.slice ga gn gc) 32
  obtain ⟨W3, hW3, r3, b3, z3⟩ := box_new W2 (.int .i64 src) 3
  obtain ⟨W4, hW4, r4, b4, z4⟩ := FrAt.new W3 f
  have b24 : Below W2.heap.size W2 W4 := below_over b3 b4
  have b14 : Below W1.heap.size W1 W4 := below_over b2 b24
  have b04 : Below w.heap.size w W4 := below_over b1 b14
  have H : Hid (OtS w W4 x p ga gn gc g src f W1.heap.size W2.heap.size W3.heap.size) := ⟨h.below b04, hg.below b04, r1.below b14, r2.below b24, r3.below b4, r4, b04⟩
  have HL : Hid ((∀ m ∈ p.bs, m.ps.length ≤ 1000) ∧ gn ≤ 1000 ∧ f.ok ∧ g.length = gn) := ⟨hl, hgn, hf, hg.len⟩
  have hnn := hg.int
  obtain ⟨OW, hOW⟩ : ∃ z, eqO f.d x.o = z := ⟨_, rfl⟩
  obtain ⟨MY, hMY⟩ : ∃ z, isMany f.d.a = z := ⟨_, rfl⟩
  obtain ⟨L, hL⟩ : ∃ z, mems p f.v = z := ⟨_, rfl⟩
  have EL : outL p g src f dst has = if OW then [] else goL g src dst (MY || !has) [] L := by unfold outL; rw [← h.o, hOW, hMY, hL]
  have EB : outB p src f = (decide (0 ≤ src) && (OW || MY)) := by unfold outB; rw [← h.o, hOW, hMY]
  obtain ⟨IT, hIT⟩ : ∃ z, (decide (0 ≤ src) && (OW || MY)) = z := ⟨_, rfl⟩
  obtain ⟨EV, hEV⟩ : ∃ z, (MY || !has) = z := ⟨_, rfl⟩
  obtain ⟨RL, hRL⟩ : ∃ z, outL p g src f dst has = z := ⟨_, rfl⟩
  rw [hRL]
  rw [hIT] at EB
  rw [EB]
  rw [hRL, hEV] at EL
  have P0 : Hid (∀ q : Later W4, Calls Try.prog 18 #[.agg f.d.cs] q.val fun r w' => r = .returned (.bool MY) ∧ Below q.val.heap.size q.val w') := fun q => by rw [← hMY]; exact many_any f.d.a f.d.b f.d.c f.d.d f.d.e f.d.f q.val HL.out.2.2.1.d
  have QL : Hid (mems p f.v = L ∧ RL = (if OW then [] else goL g src dst EV [] L)) := ⟨hL, EL⟩
  have QI : Hid ((decide (0 ≤ src) && (OW || MY)) = IT ∧ (MY || !has) = EV) := ⟨hIT, hEV⟩
  clear h hl hg hgn hf r1 r2 r3 r4 b1 b2 b3 b4 b24 b14 b04 hMY hL EL EB hIT hEV hRL z1 z2 z3 z4
  have l0 := fun q : Later W4 => (H.out.fr.below q.below).da
  have l1 := fun q : Later W4 => (H.out.pr.below q.below).own'
  go_enter Try.func11, Try.ntmps11
  go_wp2_with fail
  go_step3
  go_wp2_with fail
  refine wp_region_later (by kernel_rfl) (by kernel_rfl) ?_
  repeat (go_big_quiet_step (first
    | exact rfl
    | (go_at_call 18; with_reducible exact Calls.later_of (P0.out _))))
  refine wpQuiet_nil ?_
  intro _ hw'
  obtain ⟨q, rfl⟩ := hw'
  obtain ⟨X1, hX1⟩ : ∃ z, q.val = z := ⟨_, rfl⟩
  have K : Hid (OtS w X1 x p ga gn gc g src f W1.heap.size W2.heap.size W3.heap.size) := by rw [← hX1]; exact H.out.below q.below
  rw [hX1]
  clear hX1 l0 l1
  have c0 := K.out.sv.cell 0 _ rfl
  cases OW with
  | true =>
    have E : Hid (RL = []) := QL.out.2
    by_cases h0 : 0 ≤ src
    · have d0 : decide (src ≥ 0) = true := by simpa using h0
      have d1 : decide (0 ≤ src) = true := by simpa using h0
      have I : Hid (IT = true) := by rw [← QI.out.1, d1]; exact rfl
      clear h0
      go_wp2
      go_returns
      exact ⟨⟨_, by rw [I.out]; exact rfl, by rw [E.out]; exact Own.nil _ _⟩, K.out.bel⟩
    · have d0 : decide (src ≥ 0) = false := by simpa using h0
      have d1 : decide (0 ≤ src) = false := by simpa using h0
      have I : Hid (IT = false) := by rw [← QI.out.1, d1]; exact rfl
      clear h0
      go_wp2
      go_returns
      exact ⟨⟨_, by rw [I.out]; exact rfl, by rw [E.out]; exact Own.nil _ _⟩, K.out.bel⟩
  | false =>
    go_upto_region 2 with fail
    go_cut [16] from 31 to 38 (fun v wx => v = .bool IT ∧ wx = X1)
    case first =>
      by_cases h0 : 0 ≤ src
      · have d0 : decide (src ≥ 0) = true := by simpa using h0
        have d1 : decide (0 ≤ src) = true := by simpa using h0
        have I : Hid (IT = MY) := by rw [← QI.out.1, d1]; cases MY <;> exact rfl
        clear h0
        go_wp2_with fail
        go_meet
        case rel => exact ⟨congrArg Value.bool I.out.symm, rfl⟩
      · have d0 : decide (src ≥ 0) = false := by simpa using h0
        have d1 : decide (0 ≤ src) = false := by simpa using h0
        have I : Hid (IT = false) := by rw [← QI.out.1, d1]; exact rfl
        clear h0
        go_wp2_with fail
        go_meet
        case rel => exact ⟨congrArg Value.bool I.out.symm, rfl⟩
    case rest =>
      obtain ⟨rfl, rfl⟩ := hcut
      clear c0
      go_upto_region 5 with fail
      go_cut [17] from 41 to 45 (fun v wx => v = .bool EV ∧ wx = wc)
      case first =>
        cases MY with
        | true =>
          have I : Hid (EV = true) := QI.out.2.symm
          go_wp2_with fail
          go_meet
          case rel => exact ⟨congrArg Value.bool I.out.symm, rfl⟩
        | false =>
          have I : Hid (EV = !has) := QI.out.2.symm
          go_wp2_with fail
          go_meet
          case rel => exact ⟨congrArg Value.bool I.out.symm, rfl⟩
      case rest =>
        obtain ⟨rfl, rfl⟩ := hcut
        obtain ⟨X1, hX1⟩ : ∃ z, wc = z := ⟨_, rfl⟩
        rw [hX1] at K ⊢
        clear hX1
        have c1 := K.out.gv.cell 0 _ rfl
        obtain ⟨X2, mk, pat, b2, z2⟩ := made_L gn HL.out.2.1 X1
        obtain ⟨X3, s3, gv3, b3, z3⟩ := one_put X2 85 (.slice none 0 0) (.slice (some ⟨X1.heap.size, 0, none⟩) gn gn) infoLs rfl
        have b13 : Below X1.heap.size X1 X3 := below_over b2 b3
        have K3 : Hid (OtS w X3 x p ga gn gc g src f W1.heap.size W2.heap.size W3.heap.size) := K.out.below b13
        have M3 : Hid (PAt eL X3 X1.heap.size gn (gnL gn []) ∧ RvAt X3 X2.heap.size 85 #[.slice (some ⟨X1.heap.size, 0, none⟩) gn gn] ∧ Below X1.heap.size X1 X3 ∧ X2.heap.size = X1.heap.size + 1 ∧ X3.heap.size = X2.heap.size + 1) := ⟨by rw [gnL_nil]; exact pat.below b3, gv3, b13, z2, z3⟩
        have l0 := K3.out.pr.ld
        have l1 := K3.out.fr.ld
        clear pat b2 z2 gv3 b3 z3 b13
        go_wp2_with fail
        go_step3
        go_wp2_with fail
        refine (mem_any x p f X3 K3.out.pv HL.out.1).mono ?_
        rintro _ X4 ⟨⟨v, rfl, oX⟩, bX⟩
        have hle := mems_len HL.out.1 f.v
        obtain ⟨la, lc, rfl, sX, hla⟩ := oX.form
        rw [QL.out.1] at sX hle ⊢
        obtain ⟨ln, hln⟩ : ∃ z, L.length = z := ⟨_, rfl⟩
        rw [hln] at sX hle ⊢
        have hmm := sX.int
        have R4 : OtR X1 X4 X1.heap.size X2.heap.size gn [] (.slice none 0 0) X4.heap.size la ln lc L := ⟨M3.out.1.below bX, M3.out.2.1.below bX, Own.nil _ _, sX, fun z hz => by have h1 := hla z hz; have h2 := M3.out.2.2.2; omega, below_over M3.out.2.2.1 bX, Nat.le_refl _, by have h2 := M3.out.2.2.2; omega, by have h2 := M3.out.2.2.2; have := bX.size; omega, by have h2 := M3.out.2.2.2; have := bX.size; omega, by have h2 := M3.out.2.2.2; have := bX.size; omega, Nat.le_refl _⟩
        have HN : Hid (L.length = ln ∧ ln ≤ 1000 ∧ RL = goL g src dst EV [] L) := ⟨hln, hle, QL.out.2⟩
        have N4 : Hid (OtR X1 X4 X1.heap.size X2.heap.size gn [] (.slice none 0 0) X4.heap.size la ln lc L) := R4
        clear oX bX sX hla hle hln R4 c1 l0 l1
        go_wp2_with fail
        go_loopw [20, 54] (fun u v wr => ∃ (i : Nat) (acc : List Int), i ≤ ln ∧ v = .int .i64 i ∧ acc.length ≤ i ∧ RL = goL g src dst EV acc (L.drop i) ∧ OtR X1 wr X1.heap.size X2.heap.size gn acc u X4.heap.size la ln lc L) (fun u v _ => ln - (intOf v).toNat)
        case atStart => exact ⟨0, [], by omega, rfl, Nat.le_refl _, HN.out.2.2, N4.out⟩
        case round =>
          obtain ⟨i, acc, hi, rfl, ha, hf, hR⟩ := hrel
          have J : Hid (RL = goL g src dst EV acc (L.drop i) ∧ acc.length ≤ i ∧ OtR X1 wr X1.heap.size X2.heap.size gn acc u20 X4.heap.size la ln lc L) := ⟨hf, ha, hR⟩
          have hi0 : (0 : Int) ≤ (i : Int) := by omega
          clear hf ha hR
          by_cases hit : i < ln
          · have hi1 : (i : Int) < (ln : Int) := by omega
            obtain ⟨b, o, rfl⟩ := J.out.2.2.mem.some' (by omega)
            obtain ⟨y, hy⟩ := lt_nth (l := L) (i := i) (by rw [HN.out.1]; exact hit)
            have l0 := lI J.out.2.2.mem hy
            have KR := K.out.below J.out.2.2.bel
            have P := may_any ga gn gc g src y acc W2.heap.size W1.heap.size X2.heap.size X1.heap.size wr KR.sv KR.gv J.out.2.2.gone KR.gs J.out.2.2.pat
            obtain ⟨MB, hMB⟩ : ∃ z, mayB g src acc y = z := ⟨_, rfl⟩
            rw [hMB] at P
            have Q : Hid (Calls _ _ _ _ _) := P
            have HX : Hid (L[i]? = some y ∧ mayB g src acc y = MB) := ⟨hy, hMB⟩
            clear P hy hMB KR
            go_wp2_with fail
            refine Q.out.mono ?_
            rintro _ V ⟨rfl, bV⟩
            have RV : Hid (OtR X1 V X1.heap.size X2.heap.size gn acc u20 X4.heap.size (some ⟨b, o, none⟩) ln lc L) := J.out.2.2.below bV
            clear bV l0
            cases MB with
            | false =>
              have E : Hid (RL = goL g src dst EV acc (L.drop (i + 1))) := by rw [J.out.1, goL_no HX.out.1 (by rw [HX.out.2]; exact rfl)]; exact rfl
              go_wp2
              go_roundw
              case rel => exact ⟨i + 1, acc, by omega, by go_num, by have := J.out.2.1; omega, E.out, RV.out⟩
              case measure => simp [intOf]; omega
            | true =>
              have hr : 0 ≤ y ∧ y < (gn : Int) := by
                have h1 : (gAt g y).f = true := by
                  have h2 := HX.out.2
                  unfold mayB at h2
                  simp only [Bool.and_eq_true] at h2
                  exact h2.1.2
                have h3 := gAt_f h1
                rw [HL.out.2.2.2] at h3
                exact h3
              obtain ⟨hy0, hy1⟩ := hr
              obtain ⟨U, s1, v', Z, ap, RZ, gvU⟩ := RV.out.put hy0 hy1 (by have := J.out.2.1; have := HN.out.2.1; omega)
              have c5 := RV.out.gone.cell 0 _ rfl
              have NZ : Hid (OtR X1 Z X1.heap.size X2.heap.size gn (acc ++ [y]) v' X4.heap.size (some ⟨b, o, none⟩) ln lc L) := RZ
              clear RZ gvU
              cases EV with
              | true =>
                have E : Hid (RL = goL g src dst true (acc ++ [y]) (L.drop (i + 1))) := by rw [J.out.1, goL_yes HX.out.1 (by rw [HX.out.2]; exact rfl)]; exact rfl
                go_wp2
                go_roundw
                case rel => exact ⟨i + 1, _, by omega, by go_num, by have := J.out.2.1; simp; omega, E.out, NZ.out⟩
                case measure => simp [intOf]; omega
              | false =>
                by_cases hd : y = dst
                · have q : (y != dst) = false := by simp [hd]
                  have q2 : (y == dst) = true := by simp [hd]
                  have E : Hid (RL = goL g src dst false (acc ++ [y]) (L.drop (i + 1))) := by rw [J.out.1, goL_yes HX.out.1 (by rw [HX.out.2, q2]; exact rfl)]; exact rfl
                  clear hd q2
                  go_wp2
                  go_roundw
                  case rel => exact ⟨i + 1, _, by omega, by go_num, by have := J.out.2.1; simp; omega, E.out, NZ.out⟩
                  case measure => simp [intOf]; omega
                · have q : (y != dst) = true := by simp [hd]
                  have q2 : (y == dst) = false := by simp [hd]
                  have E : Hid (RL = goL g src dst false acc (L.drop (i + 1))) := by rw [J.out.1, goL_no HX.out.1 (by rw [HX.out.2, q2]; exact rfl)]; exact rfl
                  clear hd q2 s1 ap c5
                  go_wp2
                  go_roundw
                  case rel => exact ⟨i + 1, acc, by omega, by go_num, by have := J.out.2.1; omega, E.out, RV.out⟩
                  case measure => simp [intOf]; omega
          · have hin : i = ln := by omega
            subst hin
            have hi1 : ¬ (i : Int) < (i : Int) := by omega
            have E : Hid (RL = acc) := by rw [J.out.1, goL_end (by rw [HN.out.1]; exact Nat.le_refl _)]; exact rfl
            go_wp2
            try rw [Exit.noGoto_ret]
            go_returns
            exact ⟨⟨_, rfl, by rw [E.out]; exact J.out.2.2.own.mono (Nat.le_trans K.out.bel.size J.out.2.2.low)⟩, below_over K.out.bel J.out.2.2.bel⟩
end Go.Proofs.Ytcejfkkhmlebdaa
