/-
  Copies are good: to ports that rise, each with its VLAN. Frames to whomever go alike. Plain laws. Copies go apart: the walk of the law, for every input.
-/
import Derived.Test.YtgjagedngdhdaaaJ39Plw
import Derived.Test.YtgjagedngdhdaaaJ46Mde
import Derived.Test.YtgjagedngdhdaaaJ32Awa
import Derived.Test.YtgjagedngdhdaaaXDecRef
namespace Go.Proofs.Ytgjagedngdhdaaa

section
set_option linter.unusedVariables false
set_option maxRecDepth 4000
set_option linter.unusedSimpArgs false
open Go.RowKit

/-! ### copies -/
def Good (p : Pv) (S : Int) (L : List Mb) : Prop := ∀ (i : Nat) (x : Mb), L[i]? = some x → (vof p x.v S).2 = true ∧ S4.dcE x.ps = 0 ∧ (S4.dcF x.ps).v = (vof p x.v S).1 ∧ (∀ b ∈ x.ps, 0 ≤ b ∧ b ≤ 255) ∧ x.ps.length ≤ 1900 ∧ ∀ y : Mb, 0 < i → L[i - 1]? = some y → y.v < x.v
theorem good_nil (p : Pv) (S : Int) : Good p S [] := fun i x h => by simp at h
theorem enc_good {f : S4.Fr} {l : List Int} (hf : f.ok) (hb : ∀ x ∈ l, 0 ≤ x ∧ x ≤ 255) (h : S4.chkF f l = 0) : S4.dcE (S4.encL f l) = 0 ∧ (S4.dcF (S4.encL f l)).v = f.v ∧ (∀ b ∈ S4.encL f l, 0 ≤ b ∧ b ≤ 255) ∧ (S4.encL f l).length ≤ 1900 := by
  obtain ⟨h1, h2, _⟩ := S4.enc_dec h
  refine ⟨h1, by rw [h2], S4.enc_bytes hf hb h, ?_⟩
  have h3 := (S4.chk_parts h).1
  rw [S4.enc_len, S4.tg_len]
  split <;> omega
theorem map_good {p : Pv} {S : Int} {A : List Int} {G : Int → List Int} (hA : A.Pairwise (fun a b => a < b)) (hv : ∀ y ∈ A, (vof p y S).2 = true) (hG : ∀ y ∈ A, S4.dcE (G y) = 0 ∧ (S4.dcF (G y)).v = (vof p y S).1 ∧ (∀ b ∈ G y, 0 ≤ b ∧ b ≤ 255) ∧ (G y).length ≤ 1900) : Good p S (A.map (fun y => (⟨y, G y⟩ : Mb))) := by
  intro i x hx
  rw [List.getElem?_map] at hx
  obtain ⟨y, hy, rfl⟩ := Option.map_eq_some_iff.1 hx
  have hm := List.mem_of_getElem? hy
  obtain ⟨h1, h2, h3, h4⟩ := hG y hm
  refine ⟨hv y hm, h1, h2, h3, h4, fun t h0 ht => ?_⟩
  rw [List.getElem?_map] at ht
  obtain ⟨u, hu, rfl⟩ := Option.map_eq_some_iff.1 ht
  obtain ⟨i1, e1⟩ := List.getElem?_eq_some_iff.1 hu
  obtain ⟨i2, e2⟩ := List.getElem?_eq_some_iff.1 hy
  have := List.pairwise_iff_getElem.1 hA (i - 1) i i1 i2 (by omega)
  rw [e1, e2] at this
  exact this
theorem dp_good {p : Pv} (hp : chk p = true) {b : S4.Bf} {l : List Int} (hf : b.ok) (hb : ∀ x ∈ l, 0 ≤ x ∧ x ≤ 255) : Good p b.i (dpL p b l) := by
  by_cases h : S4.chkB b l = 0
  · rw [dp_map hp h]
    refine map_good (G := fun y => S4.encL (S4.shF b (vof p y b.i).1) l) (att_rise hp _) (fun y hy => (vof_att hp hy).1) fun y hy => ?_
    have hv := (vof_att hp hy).2
    exact enc_good ⟨hf.2.2.1, hf.2.2.2⟩ hb (shG_ok h hv).2.2.2
  · rw [(dp_1 (p := p) h).2]
    exact good_nil _ _
theorem no_mem {q y : Int} {l : List Int} (h : y ∈ noL q l) : y ∈ l ∧ ¬ y = q := by
  have := List.mem_filter.1 h
  exact ⟨this.1, by simpa using this.2⟩
theorem lo_good {p : Pv} (hp : chk p = true) {port : Int} {f : S4.Fr} {l : List Int} (hf : f.ok) (hb : ∀ x ∈ l, 0 ≤ x ∧ x ≤ 255) : Good p (svc p port f.v).1 (loL p port f l) ∧ ∀ x ∈ loL p port f l, ¬ x.v = port := by
  by_cases h : clsW p port f l = 0
  · have k := cls_zero h
    rw [lo_map hp h, k.2.2.2]
    refine ⟨map_good (G := fun y => S4.encL (f.vid (vof p y (svc p port f.v).1).1) l) ((att_rise hp _).filter _) (fun y hy => (vof_att hp (no_mem hy).1).1) fun y hy => ?_, fun x hx => ?_⟩
    · have hv := (vof_att hp (no_mem hy).1).2
      exact enc_good hf hb (chk_vid k.1 k.2.1 hv)
    · obtain ⟨y, hy, rfl⟩ := List.mem_map.1 hx
      exact (no_mem hy).2
  · rw [(lo_1 (p := p) (port := port) h).2]
    exact ⟨good_nil _ _, fun x hx => by simp at hx⟩

/-- Where copies lie. -/
structure CpA (W : World) (a : Option Addr) (n c : Nat) (r : List Mr) (L : List Mb) : Prop where
  sl : SlAt eY W a n c r
  al : Al (SrcC W) r L
  len : L.length = n
theorem CpA.below {W W' : World} {a : Option Addr} {n c : Nat} {r : List Mr} {L : List Mb} (h : CpA W a n c r L) (hb : Below W.heap.size W W') : CpA W' a n c r L := ⟨h.sl.below hb, h.al.mono fun _ _ hh => hh.below hb, h.len⟩
theorem IsCy.at {W : World} {v : Value} {L : List Mb} (h : IsCy W v L) : ∃ a n c r, v = .slice a n c ∧ CpA W a n c r L := by
  obtain ⟨r, ⟨a, n, c, rfl, t⟩, al⟩ := h
  exact ⟨a, n, c, r, rfl, t, al, by rw [← t.len, al.len]⟩
theorem CpA.get {W : World} {a : Option Addr} {n c : Nat} {r : List Mr} {L : List Mb} (h : CpA W a n c r L) {i : Nat} (hi : i < n) : ∃ z x, r[i]? = some z ∧ L[i]? = some x ∧ z.v = x.v ∧ S4.Src W (.slice z.a z.n z.c) x.ps := by
  obtain ⟨z, hz⟩ : ∃ z, r[i]? = some z := ⟨_, List.getElem?_eq_getElem (by rw [h.sl.len]; exact hi)⟩
  obtain ⟨x, hx⟩ : ∃ x, L[i]? = some x := ⟨_, List.getElem?_eq_getElem (by rw [h.len]; exact hi)⟩
  have := h.al.at' i z x hz hx
  exact ⟨z, x, hz, hx, this.1, this.2⟩

/-! ### to whomever -/
/-- A frame to another. -/
def toF (f : S4.Fr) (m : S4.M6) : S4.Fr := ⟨m, f.s, f.t, f.p, f.e, f.v⟩
theorem toF_ok {f : S4.Fr} {m : S4.M6} (hf : f.ok) (hm : m.ok) : (toF f m).ok := ⟨hm, hf.2⟩
theorem chkF_d {f : S4.Fr} {l : List Int} (h : S4.chkF f l = 0) : (f.d.kd == 6) = false := by
  have hp := S4.chk_parts h
  unfold S4.chkF at h
  rw [if_neg (by omega)] at h
  cases hb : S4.badF f l
  · unfold S4.badF at hb
    simp only [Bool.or_eq_false_iff] at hb
    exact hb.2.1
  · rw [hb] at h; simp at h
theorem inn_to {f : S4.Fr} {m : S4.M6} {l : List Int} (h1 : (f.d.kd == 6) = false) (h2 : (m.kd == 6) = false) (isid vid : Int) (own to to' : S4.M6) : S4.chkF (S4.hidF (toF f m) isid vid own to').inn l = S4.chkF (S4.hidF f isid vid own to).inn l := by
  unfold S4.chkF S4.badF S4.hidF S4.Bf.inn toF S4.fz
  simp only [h1, h2]
theorem chkB_to {f : S4.Fr} {m : S4.M6} {l : List Int} (h1 : (f.d.kd == 6) = false) (h2 : (m.kd == 6) = false) {to to' : S4.M6} (h3 : (to.kd == 6) = false) (h4 : (to'.kd == 6) = false) (isid vid : Int) (own : S4.M6) : S4.chkB (S4.hidF (toF f m) isid vid own to') l = S4.chkB (S4.hidF f isid vid own to) l := by
  have h := inn_to (l := l) h1 h2 isid vid own to to'
  unfold S4.chkB S4.badB
  rw [h]
  unfold S4.hidF toF
  simp only [h3, h4]
theorem hdE_to {f : S4.Fr} {m : S4.M6} {l : List Int} (h : S4.chkF f l = 0) (k : S4.chkF (toF f m) l = 0) {to to' : S4.M6} (h3 : (to.kd == 6) = false) (h4 : (to'.kd == 6) = false) (isid vid : Int) (own : S4.M6) : S4.hdE (toF f m) l isid vid own to' = S4.hdE f l isid vid own to := by
  unfold S4.hdE
  rw [h, k, if_pos rfl, if_pos rfl, chkB_to (m := m) (chkF_d h) (show (m.kd == 6) = false from chkF_d k) h3 h4]
  exact rfl
theorem cls_to {p : Pv} {port : Int} {f : S4.Fr} {m : S4.M6} {l : List Int} (h : S4.chkF f l = 0) (k : S4.chkF (toF f m) l = 0) : clsW p port (toF f m) l = clsW p port f l ∧ clsS p port (toF f m) l = clsS p port f l := by
  unfold clsW clsS
  rw [h, k]
  exact ⟨rfl, rfl⟩
theorem grM_kd {s : Int} (h : 1 ≤ s ∧ s ≤ 16777215) : ((grM s).kd == 6) = false := by
  rw [grM_yes h]
  unfold S4.M6.kd kindOf
  rw [if_neg (by simp [eq6])]
  repeat (split <;> try rfl)
theorem encT_kd {p : Pv} (hp : chk p = true) {port : Int} {f : S4.Fr} {l : List Int} {known : S4.M6} {has : Bool} (h : clsW p port f l = 0) : ((encT p port f l known has).kd == 6) = false := by
  unfold encT
  split
  · rename_i hc
    simp only [Bool.and_eq_true] at hc
    have : known.kd = 1 := by simpa using hc.2.2
    rw [this]
    rfl
  · have k := cls_zero h
    rw [k.2.2.2]
    exact grM_kd (svc_isid hp k.2.2.1)
theorem en_to {p : Pv} (hp : chk p = true) {port : Int} {f : S4.Fr} {m : S4.M6} {l : List Int} {known : S4.M6} {has : Bool} (h : S4.chkF f l = 0) (k : S4.chkF (toF f m) l = 0) :
    encW p port (toF f m) l known has = encW p port f l known has ∧ encR p port (toF f m) l known has = encR p port f l known has ∧
      (⟨(encB p port (toF f m) l known has).d, (encB p port f l known has).s, (encB p port f l known has).p, (encB p port f l known has).e, (encB p port f l known has).v, (encB p port f l known has).q, (encB p port f l known has).g, (encB p port f l known has).u, (encB p port f l known has).i, (encB p port (toF f m) l known has).x, (encB p port f l known has).y⟩ : S4.Bf) = encB p port (toF f m) l known has := by
  have c := cls_to (p := p) (port := port) h k
  by_cases h0 : clsW p port f l = 0
  · have h0' : clsW p port (toF f m) l = 0 := by rw [c.1]; exact h0
    cases hc : (car p (clsS p port f l)).2 with
    | false =>
      have e1 := en_2 (known := known) (has := has) h0 hc
      have e2 := en_2 (known := known) (has := has) h0' (by rw [c.2]; exact hc)
      rw [e1.1, e1.2.1, e1.2.2, e2.1, e2.2.1, e2.2.2]
      exact ⟨rfl, rfl, rfl⟩
    | true =>
      have e1 := en_3 (known := known) (has := has) h0 hc
      have e2 := en_3 (known := known) (has := has) h0' (by rw [c.2]; exact hc)
      have q := hdE_to h k (encT_kd hp (known := known) (has := has) h0) (encT_kd hp (known := known) (has := has) h0') (clsS p port f l) (car p (clsS p port f l)).1 (oM p.o)
      rw [c.2] at e2
      rw [q] at e2
      rw [e1.1, e1.2.1, e1.2.2, e2.1, e2.2.1, e2.2.2]
      unfold S4.hdB S4.hdR
      rw [q]
      refine ⟨rfl, rfl, ?_⟩
      split <;> rfl
  · have e1 := en_1 (known := known) (has := has) h0
    have e2 := en_1 (known := known) (has := has) (show ¬ clsW p port (toF f m) l = 0 by rw [c.1]; exact h0)
    rw [e1.1, e1.2.1, e1.2.2, e2.1, e2.2.1, e2.2.2, c.1]
    exact ⟨rfl, rfl, rfl⟩
theorem lo_to {p : Pv} (hp : chk p = true) {port : Int} {f : S4.Fr} {m : S4.M6} {l : List Int} (h : S4.chkF f l = 0) (k : S4.chkF (toF f m) l = 0) : loW p port (toF f m) l = loW p port f l ∧ (loL p port (toF f m) l).length = (loL p port f l).length := by
  have c := cls_to (p := p) (port := port) h k
  have hl : (loL p port (toF f m) l).length = (loL p port f l).length := by
    by_cases h0 : clsW p port f l = 0
    · rw [lo_map hp h0, lo_map hp (show clsW p port (toF f m) l = 0 by rw [c.1]; exact h0), c.2, List.length_map, List.length_map]
    · rw [(lo_1 (p := p) (port := port) h0).2, (lo_1 (p := p) (port := port) (show ¬ clsW p port (toF f m) l = 0 by rw [c.1]; exact h0)).2]
  refine ⟨?_, hl⟩
  have hn : (loL p port (toF f m) l = []) = (loL p port f l = []) := by
    rw [← List.length_eq_zero_iff, ← List.length_eq_zero_iff, hl]
  unfold loW
  rw [c.1]
  simp only [hn]
end

section
set_option linter.unusedVariables false
set_option maxRecDepth 4000
set_option linter.unusedSimpArgs false
open Go.RowKit
attribute [local go_sem ↓] ldP stP ldMc stMc ldFr stFr ldBf stBf slU S4.eqM_eq
attribute [local go_sem] gdM_mac eqM_self
attribute [local go_sem ↓] stIn
/-- The law's variables. -/
structure ApS (w W : World) (bp bf bb : Nat) (xp : Pr) (P : Pv) (f : S4.Fr) (s : Value) (l : List Int) (b : S4.Bf) (y : Value) (m : List Int) : Prop where
  bel : Below w.heap.size w W
  pp : PrAt W bp xp
  ip : IsPv W xp P
  fr : FrAt W bf f s
  sr : S4.Src W s l
  br : BfAt W bb b y
  yr : S4.Src W y m
theorem ApS.below {w W W' : World} {bp bf bb : Nat} {xp : Pr} {P : Pv} {f : S4.Fr} {s : Value} {l : List Int} {b : S4.Bf} {y : Value} {m : List Int} (h : ApS w W bp bf bb xp P f s l b y m) (hb : Below W.heap.size W W') : ApS w W' bp bf bb xp P f s l b y m :=
  ⟨below_over h.bel hb, h.pp.below hb, h.ip.below hb, h.fr.below hb, h.sr.below hb, h.br.below hb, h.yr.below hb⟩
set_option maxHeartbeats 16000000 in
theorem apart_law (bits : Int) (la : Option Addr) (ln lc : Nat) (lr : List Cm) (ll : List Cd) (port : Int) (f : S4.Fr) (z : Value) (l : List Int) (b : S4.Bf) (y : Value) (k : List Int) (w : World) (hbits : 0 ≤ bits ∧ bits ≤ 255) (h1 : Cms w la ln lc lr ll) (hs : S4.Src w z l) (hb : ∀ x ∈ l, 0 ≤ x ∧ x ≤ 255) (hf : f.ok) (hs2 : S4.Src w y k) (hb2 : ∀ x ∈ k, 0 ≤ x ∧ x ≤ 255) (hf2 : b.ok) :
    Calls Try.prog 6 #[.int .u8 bits, .slice la ln lc, .int .i64 port, .agg (S4.fcs f z), .agg (S4.bcs b y)] w fun r w' => r = .returned (.bool true) ∧ Below w.heap.size w w' := by
  obtain ⟨W1, hW1, r1, b1, z1⟩ := FrAt.new w f z
  obtain ⟨V, hV, r2, b2, z2⟩ := BfAt.new W1 b y
  have B0 : Below w.heap.size w V := below_over b1 b2
  have HB : Hid (Below w.heap.size w V ∧ FrAt V w.heap.size f z ∧ BfAt V W1.heap.size b y ∧ W1.heap.size = w.heap.size + 1 ∧ V.heap.size = w.heap.size + 2) := ⟨B0, r1.below b2, r2, z1, by omega⟩
  have HI : Hid (S4.Src w z l ∧ (∀ x ∈ l, 0 ≤ x ∧ x ≤ 255) ∧ f.ok ∧ 0 ≤ bits ∧ bits ≤ 255) := ⟨hs, hb, hf, hbits⟩
  have HJ : Hid (S4.Src w y k ∧ (∀ x ∈ k, 0 ≤ x ∧ x ≤ 255) ∧ b.ok) := ⟨hs2, hb2, hf2⟩
  have HC : Hid (Cms V la ln lc lr ll) := h1.below B0
  clear B0 h1 hs hb hf hs2 hb2 hf2 hbits r1 r2 b1 b2 z1 z2
  go_enter Try.func6, Try.ntmps6
  go_wp2_with fail
  refine (made_any bits 7 la ln lc lr ll V HI.out.2.2.2 (by decide) HC.out).mono ?_
  rintro _ X1 ⟨⟨xp, rfl, p1⟩, b1⟩
  obtain ⟨P, hP⟩ : ∃ e, madeP bits (prtN 7) ll = e := ⟨_, rfl⟩
  have CP : Hid (chk P = true) := by rw [← hP]; exact made_chk bits 7 ll
  rw [hP] at p1
  obtain ⟨Y1, s1, m1, c1⟩ := PrAt.put X1 xp p1.one
  have K1 : Hid (PrAt Y1 X1.heap.size xp ∧ IsPv Y1 xp P ∧ Below V.heap.size V Y1 ∧ V.heap.size ≤ X1.heap.size) := ⟨m1, p1.below c1, below_over b1 c1, b1.size⟩
  clear p1 b1 m1 c1 hP
  have l0 := (HB.out.2.1.below K1.out.2.2.1).ld
  go_wp2_with fail
  refine (fewf_any f z l w Y1 HI.out.1 (below_over HB.out.1 K1.out.2.2.1)).mono ?_
  rintro _ X3 ⟨⟨s, rfl, fs, fa, fn, fc, fa', fn', fc', ez, es, e8⟩, b3⟩
  subst ez es
  obtain ⟨Y3, s3, m3, g3⟩ := ((HB.out.2.1.below K1.out.2.2.1).below b3).st f (.slice fa' fn' fc') rfl
  have bb : Below w.heap.size w Y3 := gro (below_over (below_over HB.out.1 K1.out.2.2.1) b3) g3 (Nat.le_refl _) (below_over (below_over HB.out.1 K1.out.2.2.1) b3).size
  have fz := (HB.out.2.1.below K1.out.2.2.1).below b3
  have sw := fr_swap fz m3 g3
  have K2 : Hid (Below w.heap.size w Y3 ∧ PrAt Y3 X1.heap.size xp ∧ IsPv Y3 xp P ∧ FrAt Y3 w.heap.size f (.slice fa' fn' fc') ∧ BfAt Y3 W1.heap.size b y ∧ S4.Src w (.slice fa' fn' fc') (l.take 1510) ∧ W1.heap.size < X1.heap.size) := by
    have hx := K1.out.2.2.2
    have hv := HB.out.2.2.2
    exact ⟨bb, (K1.out.1.below b3).keptBut g3 (by simp; omega), few_swap sw e8 (K1.out.2.1.below b3) CP.out, m3, RvAt.keptBut ((HB.out.2.2.1.below K1.out.2.2.1).below b3) g3 (by simp; omega), fs, by omega⟩
  have HL : Hid ((∀ x ∈ l.take 1510, 0 ≤ x ∧ x ≤ 255) ∧ (l.take 1510).length ≤ 1510) := ⟨fun x hx => HI.out.2.1 x (List.mem_of_mem_take hx), List.length_take_le _ _⟩
  obtain ⟨m, hm⟩ : ∃ e, l.take 1510 = e := ⟨_, rfl⟩
  obtain ⟨s, hsv⟩ : ∃ e, Value.slice fa' fn' fc' = e := ⟨_, rfl⟩
  rw [hm, hsv] at K2
  rw [hm] at HL
  rw [hsv] at s3 ⊢
  clear fs e8 b3 m3 g3 l0 hm hsv K1 bb fz sw
  have l0 := K2.out.2.2.2.2.1.ld
  go_wp2_with fail
  refine (fewb_any b y k w Y3 HJ.out.1 K2.out.1).mono ?_
  rintro _ X4 ⟨⟨t, rfl, fs, fa, fn, fc, fa', fn', fc', ez, es, e8⟩, b4⟩
  subst ez es
  obtain ⟨Y, s4, m4, g4⟩ := (K2.out.2.2.2.2.1.below b4).st b (.slice fa' fn' fc') rfl
  have fz := K2.out.2.2.2.2.1.below b4
  have sw := bf_swap fz m4 g4
  have bb : Below w.heap.size w Y := gro (below_over K2.out.1 b4) g4 (by have := HB.out.2.2.2; omega) (below_over K2.out.1 b4).size
  have K : Hid (ApS w Y X1.heap.size w.heap.size W1.heap.size xp P f s m b (.slice fa' fn' fc') (k.take 1510)) := by
    have hx := K2.out.2.2.2.2.2.2
    have hv := HB.out.2.2.2
    exact ⟨bb, (K2.out.2.1.below b4).keptBut g4 (by simp; omega), few_swap sw e8 (K2.out.2.2.1.below b4) CP.out, RvAt.keptBut (K2.out.2.2.2.1.below b4) g4 (by simp; omega), K2.out.2.2.2.2.2.1.below bb, m4, fs.below bb⟩
  have HM : Hid ((∀ x ∈ k.take 1510, 0 ≤ x ∧ x ≤ 255) ∧ (k.take 1510).length ≤ 1510) := ⟨fun x hx => HJ.out.2.1 x (List.mem_of_mem_take hx), List.length_take_le _ _⟩
  obtain ⟨k', hm⟩ : ∃ e, k.take 1510 = e := ⟨_, rfl⟩
  obtain ⟨t, hsv⟩ : ∃ e, Value.slice fa' fn' fc' = e := ⟨_, rfl⟩
  rw [hm, hsv] at K
  rw [hm] at HM
  rw [hsv] at s4 ⊢
  clear fs e8 b4 m4 g4 l0 hm hsv K2 bb fz sw
  have l0 := K.out.pp.ld
  have l1 := K.out.br.ld
  go_wp2_with fail
  refine (decap_any xp P b t k' Y K.out.ip (okp_chk CP.out) K.out.yr HM.out.1 HJ.out.2.2).mono ?_
  rintro _ X6 ⟨⟨v6, rfl, c6⟩, bx6⟩
  obtain ⟨DW, hDW⟩ : ∃ e, dpW P b k' = e := ⟨_, rfl⟩
  obtain ⟨DX, hDX⟩ : ∃ e, dpL P b k' = e := ⟨_, rfl⟩
  have GX : Hid (Good P b.i DX) := by rw [← hDX]; exact dp_good CP.out HJ.out.2.2 HM.out.1
  rw [hDW]
  rw [hDX] at c6
  obtain ⟨a6, n6, e6, r6, rfl, t6⟩ := c6.at
  have K6 : Hid (ApS w X6 X1.heap.size w.heap.size W1.heap.size xp P f s m b t k' ∧ CpA X6 a6 n6 e6 r6 DX) := ⟨K.out.below bx6, t6⟩
  have hn6 := t6.sl.int
  clear hDW hDX c6 t6 bx6 l0 l1 K
  have l0 := K6.out.1.pp.ld
  have l1 := K6.out.1.fr.ld
  go_wp2_with fail
  refine (local_any xp P port f s m X6 K6.out.1.ip (okp_chk CP.out) K6.out.1.sr HL.out.1 HI.out.2.2.1).mono ?_
  rintro _ X7 ⟨⟨v7, rfl, c7⟩, bx7⟩
  obtain ⟨LW, hLW⟩ : ∃ e, loW P port f m = e := ⟨_, rfl⟩
  obtain ⟨LX, hLX⟩ : ∃ e, loL P port f m = e := ⟨_, rfl⟩
  obtain ⟨S, hS⟩ : ∃ e, (svc P port f.v).1 = e := ⟨_, rfl⟩
  have GL : Hid (Good P S LX ∧ ∀ x ∈ LX, ¬ x.v = port) := by rw [← hLX, ← hS]; exact lo_good CP.out HI.out.2.2.1 HL.out.1
  rw [hLW]
  rw [hLX] at c7
  obtain ⟨a7, n7, e7, r7, rfl, t7⟩ := c7.at
  have K7 : Hid (ApS w X7 X1.heap.size w.heap.size W1.heap.size xp P f s m b t k' ∧ CpA X7 a6 n6 e6 r6 DX ∧ CpA X7 a7 n7 e7 r7 LX) := ⟨K6.out.1.below bx7, K6.out.2.below bx7, t7⟩
  have hn7 := t7.sl.int
  clear hLW hLX c7 t7 bx7 l0 l1 K6
  have l0 := K7.out.1.pp.ld
  have c0 := K7.out.1.fr.c15
  have CS := rsvc_any xp P port f.v X7 K7.out.1.ip
  rw [hS] at CS
  obtain ⟨SO, hSO⟩ : ∃ e, (svc P port f.v).2 = e := ⟨_, rfl⟩
  rw [hSO] at CS
  clear hS hSO
  go_wp2_with fail
  refine CS.mono ?_
  rintro _ X8 ⟨rfl, bx8⟩
  have K8 : Hid (ApS w X8 X1.heap.size w.heap.size W1.heap.size xp P f s m b t k' ∧ CpA X8 a6 n6 e6 r6 DX ∧ CpA X8 a7 n7 e7 r7 LX) := ⟨K7.out.1.below bx8, K7.out.2.1.below bx8, K7.out.2.2.below bx8⟩
  clear bx8 l0 c0 CS K7
  go_wp2_with fail
  go_loopw [18] (fun v wr => ∃ i : Nat, i ≤ n6 ∧ v = .int .i64 i ∧ Below X8.heap.size X8 wr) (fun v _ => n6 - (intOf v).toNat)
  case atStart => exact ⟨0, by omega, rfl, Below.refl _ _⟩
  case round =>
    obtain ⟨i, hi, rfl, hB⟩ := hrel
    have J : Hid (Below X8.heap.size X8 wr) := hB
    have hi0 : (0 : Int) ≤ (i : Int) := by omega
    clear hB
    by_cases hit : i < n6
    · have hi1 : (i : Int) < (n6 : Int) := by omega
      obtain ⟨zr, xr, hz, hx, hzx, hsx⟩ := K8.out.2.1.get hit
      obtain ⟨b6, o6, rfl⟩ := K8.out.2.1.sl.some' (by omega)
      obtain ⟨g1, g2, g3, g4, g5, g6⟩ := GX.out i xr hx
      obtain ⟨V1, hV1⟩ : ∃ e, (vof P xr.v b.i).1 = e := ⟨_, rfl⟩
      have CV : Hid (∀ q : Later wr, Calls Try.prog 25 #[.agg xp.cs, .int .i64 xr.v, .int .i64 b.i] q.val fun r w' => r = .returned (.tuple #[.int .i64 V1, .bool true]) ∧ Below q.val.heap.size q.val w') := fun q => by
        have k := rvof_any xp P xr.v b.i q.val ((K8.out.1.ip.below J.out).below q.below)
        rw [hV1, g1] at k
        exact k
      obtain ⟨DF, hDF⟩ : ∃ e, S4.dcF xr.ps = e := ⟨_, rfl⟩
      have HX : Hid (DX[i]? = some xr ∧ r6[i]? = some zr ∧ zr.v = xr.v ∧ S4.Src X8 (.slice zr.a zr.n zr.c) xr.ps ∧ (∀ b ∈ xr.ps, 0 ≤ b ∧ b ≤ 255) ∧ xr.ps.length ≤ 1900 ∧ ∀ y : Mb, 0 < i → DX[i - 1]? = some y → y.v < xr.v) := ⟨hx, hz, hzx, hsx, g4, g5, g6⟩
      have HD : Hid (S4.dcE xr.ps = 0 ∧ S4.dcF xr.ps = DF ∧ DF.v = V1) := ⟨g2, hDF, by rw [← hDF, ← hV1]; exact g3⟩
      have f0 := fun q : Later wr => ((K8.out.2.1.sl.below J.out).below q.below |> fun h => lY0 h hz)
      rw [hzx] at f0
      have f1 := fun q : Later wr => ((K8.out.1.pp.below J.out).below q.below).ld
      have f2 := fun q : Later wr => ((K8.out.1.br.below J.out).below q.below).c18
      clear hz hx hzx hsx g1 g2 g3 g4 g5 g6 hV1 hDF
      go_wp2_with fail
      refine wp_region_later (by kernel_rfl) (by kernel_rfl) ?_
      repeat (go_big_quiet_step (first
        | exact rfl
        | (go_at_call 25; with_reducible exact Calls.later_of (CV.out _))))
      refine wpQuiet_nil ?_
      intro _ hw'
      obtain ⟨q, rfl⟩ := hw'
      obtain ⟨X9, hX9⟩ : ∃ e, q.val = e := ⟨_, rfl⟩
      have K9 : Hid (Below X8.heap.size X8 X9) := by rw [← hX9]; exact below_over J.out q.below
      rw [hX9]
      clear hX9 f0 f1 f2 CV J
      have c1 : X9.cell? ⟨b6, o6 + i * 2 + 1, none⟩ = some (.slice zr.a zr.n zr.c) := lY1 (K8.out.2.1.sl.below K9.out) HX.out.2.1
      have CE : Hid (Calls Try.prog 29 #[.slice zr.a zr.n zr.c] X9 fun r w' => ∃ u, r = .returned (.tuple #[.agg (S4.fcs DF u), .int .i64 0]) ∧ S4.Own w' X9.heap.size u (S4.dcR xr.ps) ∧ Below X9.heap.size X9 w') := by
        have k := S4.dref_any (.slice zr.a zr.n zr.c) xr.ps X9 (HX.out.2.2.2.1.below K9.out) HX.out.2.2.2.2.1 HX.out.2.2.2.2.2.1
        unfold S4.DcOut at k
        rw [HD.out.1, HD.out.2.1] at k
        exact k
      go_wp2_with fail
      refine CE.out.mono ?_
      rintro _ X10 ⟨u10, rfl, o10, bx10⟩
      obtain ⟨Y10, s10, m10, by10, z10⟩ := FrAt.put X10 DF u10 o10.one
      have K10 : Hid (Below X8.heap.size X8 Y10 ∧ FrAt Y10 X10.heap.size DF u10) := ⟨below_over (below_over K9.out bx10) by10, m10⟩
      clear o10 bx10 m10 by10 z10 c1 CE K9
      have f0 : ∀ q : Later Y10, q.val.cell? ⟨X10.heap.size, 15, none⟩ = some (.int .i64 V1) := fun q => by rw [← HD.out.2.2]; exact (K10.out.2.below q.below).c15
      have nV : (V1 != V1) = false := by simp
      cases i with
      | zero =>
        have d1 : decide ((0 : Int) > 0) = false := by decide
        have d2 : decide ((0 : Int) < 0) = false := by decide
        go_wp2_with fail
        refine wp_region_later (by kernel_rfl) (by kernel_rfl) ?_
        repeat (go_big_quiet_step (first | exact rfl))
        refine wpQuiet_nil ?_
        intro _ hw'
        obtain ⟨q, rfl⟩ := hw'
        obtain ⟨X11, hX11⟩ : ∃ e, q.val = e := ⟨_, rfl⟩
        have K11 : Hid (Below X8.heap.size X8 X11) := by rw [← hX11]; exact below_over K10.out.1 q.below
        rw [hX11]
        clear hX11 f0 nV K10
        go_wp2
        go_roundw
        case rel => exact ⟨0 + 1, by omega, by go_num, K11.out⟩
        case measure => simp [intOf]; omega
      | succ j =>
        obtain ⟨x', hx'⟩ : ∃ t, DX[j]? = some t := ⟨_, List.getElem?_eq_getElem (by rw [K8.out.2.1.len]; omega)⟩
        obtain ⟨z', hz'⟩ : ∃ t, r6[j]? = some t := ⟨_, List.getElem?_eq_getElem (by rw [K8.out.2.1.sl.len]; omega)⟩
        have hlt := HX.out.2.2.2.2.2.2 x' (by omega) hx'
        have hzz := (K8.out.2.1.al.at' j z' x' hz' hx').1
        obtain ⟨I, hI⟩ : ∃ t : Int, ((j + 1 : Nat) : Int) = t := ⟨_, rfl⟩
        have hj0 : (0 : Int) ≤ (j : Int) := by omega
        have hj1 : (j : Int) < (n6 : Int) := by omega
        have hj2 : I - 1 = (j : Int) := by omega
        have hj3 : decide (I > 0) = true := by simp; omega
        have hj4 : decide (0 < I) = true := by simp; omega
        have hj5 : (0 : Int) ≤ I := by omega
        have hj6 : I.toNat = j + 1 := by omega
        have hj7 : I < (n6 : Int) := by omega
        have f1 : ∀ q : Later Y10, q.val.cell? ⟨b6, o6 + (j + 1) * 2, none⟩ = some (.int .i64 xr.v) := fun q => by have := lY0 ((K8.out.2.1.sl.below K10.out.1).below q.below) HX.out.2.1; rw [HX.out.2.2.1] at this; exact this
        have f2 : ∀ q : Later Y10, q.val.cell? ⟨b6, o6 + j * 2, none⟩ = some (.int .i64 x'.v) := fun q => by have := lY0 ((K8.out.2.1.sl.below K10.out.1).below q.below) hz'; rw [hzz] at this; exact this
        have d1 : decide (xr.v ≤ x'.v) = false := by simp; omega
        have HN : Hid (j + 1 < n6 ∧ ((j + 1 : Nat) : Int) = I) := ⟨hit, hI⟩
        rw [hI]
        clear hx' hz' hlt hzz hI hi0 hi1 hi hit
        go_wp2_with fail
        refine wp_region_later (by kernel_rfl) (by kernel_rfl) ?_
        repeat (go_big_quiet_step (first | exact rfl))
        refine wpQuiet_nil ?_
        intro _ hw'
        obtain ⟨q, rfl⟩ := hw'
        obtain ⟨X11, hX11⟩ : ∃ e, q.val = e := ⟨_, rfl⟩
        have K11 : Hid (Below X8.heap.size X8 X11) := by rw [← hX11]; exact below_over K10.out.1 q.below
        rw [hX11]
        clear hX11 f0 f1 f2 nV K10
        go_wp2
        go_roundw
        case rel => exact ⟨j + 1 + 1, by have := HN.out; omega, by have := HN.out; go_num, K11.out⟩
        case measure => have := HN.out; simp [intOf]; omega
    · obtain rfl : i = n6 := by omega
      have hi1 : ¬ (i : Int) < (i : Int) := by omega
      have K9 : Hid (ApS w wr X1.heap.size w.heap.size W1.heap.size xp P f s m b t k' ∧ CpA wr a7 n7 e7 r7 LX) := ⟨K8.out.1.below J.out, K8.out.2.2.below J.out⟩
      clear hit
      rename World => wS
      clear J K8
      go_wp2_with fail
      go_loopw [23] (fun v wr => ∃ i : Nat, i ≤ n7 ∧ v = .int .i64 i ∧ Below wS.heap.size wS wr) (fun v _ => n7 - (intOf v).toNat)
      case atStart => exact ⟨0, by omega, rfl, Below.refl _ _⟩
      case round =>
        obtain ⟨i, hi, rfl, hB⟩ := hrel
        have J : Hid (Below wS.heap.size wS wr) := hB
        have hi0 : (0 : Int) ≤ (i : Int) := by omega
        clear hB
        by_cases hit : i < n7
        · have hi1 : (i : Int) < (n7 : Int) := by omega
          obtain ⟨zr, xr, hz, hx, hzx, hsx⟩ := K9.out.2.get hit
          obtain ⟨b6, o6, rfl⟩ := K9.out.2.sl.some' (by omega)
          obtain ⟨g1, g2, g3, g4, g5, g6⟩ := GL.out.1 i xr hx
          have dp : (xr.v == port) = false := by simp [GL.out.2 xr (List.mem_of_getElem? hx)]
          obtain ⟨V1, hV1⟩ : ∃ e, (vof P xr.v S).1 = e := ⟨_, rfl⟩
          have CV : Hid (∀ q : Later wr, Calls Try.prog 25 #[.agg xp.cs, .int .i64 xr.v, .int .i64 S] q.val fun r w' => r = .returned (.tuple #[.int .i64 V1, .bool true]) ∧ Below q.val.heap.size q.val w') := fun q => by
            have k := rvof_any xp P xr.v S q.val ((K9.out.1.ip.below J.out).below q.below)
            rw [hV1, g1] at k
            exact k
          obtain ⟨DF, hDF⟩ : ∃ e, S4.dcF xr.ps = e := ⟨_, rfl⟩
          have HX : Hid (LX[i]? = some xr ∧ r7[i]? = some zr ∧ zr.v = xr.v ∧ S4.Src wS (.slice zr.a zr.n zr.c) xr.ps ∧ (∀ b ∈ xr.ps, 0 ≤ b ∧ b ≤ 255) ∧ xr.ps.length ≤ 1900 ∧ ∀ y : Mb, 0 < i → LX[i - 1]? = some y → y.v < xr.v) := ⟨hx, hz, hzx, hsx, g4, g5, g6⟩
          have HD : Hid (S4.dcE xr.ps = 0 ∧ S4.dcF xr.ps = DF ∧ DF.v = V1) := ⟨g2, hDF, by rw [← hDF, ← hV1]; exact g3⟩
          have f0 := fun q : Later wr => ((K9.out.2.sl.below J.out).below q.below |> fun h => lY0 h hz)
          rw [hzx] at f0
          have f1 := fun q : Later wr => ((K9.out.1.pp.below J.out).below q.below).ld
          clear hz hx hzx hsx g1 g2 g3 g4 g5 g6 hV1 hDF
          go_wp2_with fail
          refine wp_region_later (by kernel_rfl) (by kernel_rfl) ?_
          repeat (go_big_quiet_step (first
            | exact rfl
            | (go_at_call 25; with_reducible exact Calls.later_of (CV.out _))))
          refine wpQuiet_nil ?_
          intro _ hw'
          obtain ⟨q, rfl⟩ := hw'
          obtain ⟨X9, hX9⟩ : ∃ e, q.val = e := ⟨_, rfl⟩
          have KX : Hid (Below wS.heap.size wS X9) := by rw [← hX9]; exact below_over J.out q.below
          rw [hX9]
          clear hX9 f0 f1 CV J
          have c1 : X9.cell? ⟨b6, o6 + i * 2 + 1, none⟩ = some (.slice zr.a zr.n zr.c) := lY1 (K9.out.2.sl.below KX.out) HX.out.2.1
          have CE : Hid (Calls Try.prog 29 #[.slice zr.a zr.n zr.c] X9 fun r w' => ∃ u, r = .returned (.tuple #[.agg (S4.fcs DF u), .int .i64 0]) ∧ S4.Own w' X9.heap.size u (S4.dcR xr.ps) ∧ Below X9.heap.size X9 w') := by
            have k := S4.dref_any (.slice zr.a zr.n zr.c) xr.ps X9 (HX.out.2.2.2.1.below KX.out) HX.out.2.2.2.2.1 HX.out.2.2.2.2.2.1
            unfold S4.DcOut at k
            rw [HD.out.1, HD.out.2.1] at k
            exact k
          go_wp2_with fail
          refine CE.out.mono ?_
          rintro _ X10 ⟨u10, rfl, o10, bx10⟩
          obtain ⟨Y10, s10, m10, by10, z10⟩ := FrAt.put X10 DF u10 o10.one
          have K10 : Hid (Below wS.heap.size wS Y10 ∧ FrAt Y10 X10.heap.size DF u10) := ⟨below_over (below_over KX.out bx10) by10, m10⟩
          clear o10 bx10 m10 by10 z10 c1 CE KX
          have f0 : ∀ q : Later Y10, q.val.cell? ⟨X10.heap.size, 15, none⟩ = some (.int .i64 V1) := fun q => by rw [← HD.out.2.2]; exact (K10.out.2.below q.below).c15
          have nV : (V1 != V1) = false := by simp
          cases i with
          | zero =>
            have d1 : decide ((0 : Int) > 0) = false := by decide
            have d2 : decide ((0 : Int) < 0) = false := by decide
            have f1 : ∀ q : Later Y10, q.val.cell? ⟨b6, o6, none⟩ = some (.int .i64 xr.v) := fun q => by have := lY0 ((K9.out.2.sl.below K10.out.1).below q.below) HX.out.2.1; rw [HX.out.2.2.1, Nat.zero_mul, Nat.add_zero] at this; exact this
            go_wp2_with fail
            refine wp_region_later (by kernel_rfl) (by kernel_rfl) ?_
            repeat (go_big_quiet_step (first | exact rfl))
            refine wpQuiet_nil ?_
            intro _ hw'
            obtain ⟨q, rfl⟩ := hw'
            obtain ⟨X11, hX11⟩ : ∃ e, q.val = e := ⟨_, rfl⟩
            have K11 : Hid (Below wS.heap.size wS X11) := by rw [← hX11]; exact below_over K10.out.1 q.below
            rw [hX11]
            clear hX11 f0 f1 nV K10
            go_wp2
            go_roundw
            case rel => exact ⟨0 + 1, by omega, by go_num, K11.out⟩
            case measure => simp [intOf]; omega
          | succ j =>
            obtain ⟨x', hx'⟩ : ∃ t, LX[j]? = some t := ⟨_, List.getElem?_eq_getElem (by rw [K9.out.2.len]; omega)⟩
            obtain ⟨z', hz'⟩ : ∃ t, r7[j]? = some t := ⟨_, List.getElem?_eq_getElem (by rw [K9.out.2.sl.len]; omega)⟩
            have hlt := HX.out.2.2.2.2.2.2 x' (by omega) hx'
            have hzz := (K9.out.2.al.at' j z' x' hz' hx').1
            obtain ⟨I, hI⟩ : ∃ t : Int, ((j + 1 : Nat) : Int) = t := ⟨_, rfl⟩
            have hj0 : (0 : Int) ≤ (j : Int) := by omega
            have hj1 : (j : Int) < (n7 : Int) := by omega
            have hj2 : I - 1 = (j : Int) := by omega
            have hj3 : decide (I > 0) = true := by simp; omega
            have hj4 : decide (0 < I) = true := by simp; omega
            have hj5 : (0 : Int) ≤ I := by omega
            have hj6 : I.toNat = j + 1 := by omega
            have hj7 : I < (n7 : Int) := by omega
            have f1 : ∀ q : Later Y10, q.val.cell? ⟨b6, o6 + (j + 1) * 2, none⟩ = some (.int .i64 xr.v) := fun q => by have := lY0 ((K9.out.2.sl.below K10.out.1).below q.below) HX.out.2.1; rw [HX.out.2.2.1] at this; exact this
            have f2 : ∀ q : Later Y10, q.val.cell? ⟨b6, o6 + j * 2, none⟩ = some (.int .i64 x'.v) := fun q => by have := lY0 ((K9.out.2.sl.below K10.out.1).below q.below) hz'; rw [hzz] at this; exact this
            have d1 : decide (xr.v ≤ x'.v) = false := by simp; omega
            have HN : Hid (j + 1 < n7 ∧ ((j + 1 : Nat) : Int) = I) := ⟨hit, hI⟩
            rw [hI]
            clear hx' hz' hlt hzz hI hi0 hi1 hi hit
            go_wp2_with fail
            refine wp_region_later (by kernel_rfl) (by kernel_rfl) ?_
            repeat (go_big_quiet_step (first | exact rfl))
            refine wpQuiet_nil ?_
            intro _ hw'
            obtain ⟨q, rfl⟩ := hw'
            obtain ⟨X11, hX11⟩ : ∃ e, q.val = e := ⟨_, rfl⟩
            have K11 : Hid (Below wS.heap.size wS X11) := by rw [← hX11]; exact below_over K10.out.1 q.below
            rw [hX11]
            clear hX11 f0 f1 f2 nV K10
            go_wp2
            go_roundw
            case rel => exact ⟨j + 1 + 1, by have := HN.out; omega, by have := HN.out; go_num, K11.out⟩
            case measure => have := HN.out; simp [intOf]; omega
        · obtain rfl : i = n7 := by omega
          have hi2 : ¬ (i : Int) < (i : Int) := by omega
          have KB : Hid (Below w.heap.size w wr) := below_over K9.out.1.bel J.out
          clear hit
          go_wp2_with fail
          refine (awake_any wr).mono ?_
          rintro _ X12 ⟨rfl, bx12⟩
          have K12 : Hid (Below w.heap.size w X12) := below_over KB.out bx12
          clear bx12
          go_wp2
          go_ret
          exact ⟨rfl, K12.out⟩
end

end Go.Proofs.Ytgjagedngdhdaaa
