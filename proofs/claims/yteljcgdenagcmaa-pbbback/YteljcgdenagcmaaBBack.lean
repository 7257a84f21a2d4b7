/-
  What is encoded is decoded, what is decoded is encoded: the bytes of the backbone's frames.
-/
import Derived.Test.YteljcgdenagcmaaBDec
import Derived.Test.YteljcgdenagcmaaBackF
namespace Go.Proofs.Yteljcgdenagcmaa
set_option linter.unusedVariables false
set_option maxRecDepth 4000
set_option linter.unusedSimpArgs false
open Go.RowKit

theorem fold_data (l : List Int) : ∀ r : ByteArray, (l.foldl (fun r n => r.push (UInt8.ofNat n.toNat)) r).data.toList = r.data.toList ++ l.map (fun n => UInt8.ofNat n.toNat) := by
  induction l with
  | nil => intro r; simp
  | cons x l ih => intro r; rw [List.foldl_cons, ih]; simp [ByteArray.push]
theorem bs_data (l : List Int) : (bs l).data.toList = l.map (fun n => UInt8.ofNat n.toNat) := by
  unfold bs
  rw [fold_data]
  rfl
theorem map_inj {l m : List Int} (hl : ∀ x ∈ l, 0 ≤ x ∧ x ≤ 255) (hm : ∀ x ∈ m, 0 ≤ x ∧ x ≤ 255) (h : l.map (fun n => UInt8.ofNat n.toNat) = m.map (fun n => UInt8.ofNat n.toNat)) : l = m := by
  induction l generalizing m with
  | nil => cases m with
    | nil => rfl
    | cons y m => simp at h
  | cons x l ih => cases m with
    | nil => simp at h
    | cons y m =>
      simp only [List.map_cons, List.cons.injEq] at h
      have hx := hl x (by simp)
      have hy := hm y (by simp)
      have e : x.toNat = y.toNat := by
        have := congrArg UInt8.toNat h.1
        simp only [UInt8.toNat_ofNat'] at this
        omega
      have : x = y := by omega
      subst this
      rw [ih (fun z hz => hl z (by simp [hz])) (fun z hz => hm z (by simp [hz])) h.2]
theorem loop_list (b : ByteArray) : ∀ (n i : Nat) (r : List UInt8), b.size - i = n → i ≤ b.size → ByteArray.toList.loop b i r = r.reverse ++ b.data.toList.drop i := by
  intro n
  induction n with
  | zero =>
    intro i r h hi
    have : i = b.size := by omega
    subst this
    unfold ByteArray.toList.loop
    rw [if_neg (by omega), List.drop_eq_nil_of_le (by rw [Array.length_toList]; exact Nat.le_refl _)]
    simp
  | succ n ih =>
    intro i r h hi
    have hlt : i < b.size := by omega
    unfold ByteArray.toList.loop
    rw [if_pos hlt, ih (i + 1) _ (by omega) (by omega)]
    have h2 : i < b.data.toList.length := by rw [Array.length_toList]; exact hlt
    rw [List.drop_eq_getElem_cons h2]
    have e : b.get! i = b.data.toList[i] := by
      show b.data[i]! = _
      rw [getElem!_pos b.data i hlt]
      simp
    rw [e]
    simp
theorem toList_data (b : ByteArray) : b.toList = b.data.toList := by
  unfold ByteArray.toList
  rw [loop_list b _ 0 [] rfl (by omega)]
  simp
theorem beqL_iff {l m : List Int} (hl : ∀ x ∈ l, 0 ≤ x ∧ x ≤ 255) (hm : ∀ x ∈ m, 0 ≤ x ∧ x ≤ 255) : beqL l m = true ↔ l = m := by
  constructor
  · intro h
    unfold beqL at h
    have h' := eq_of_beq h
    rw [toList_data, toList_data, bs_data, bs_data] at h'
    exact map_inj hl hm h'
  · rintro rfl
    exact beqL_self l

/-- The bytes that stand between, of what was read. -/
theorem raw_enc {l : List Int} (h36 : 36 ≤ l.length) (hb : ∀ x ∈ l, 0 ≤ x ∧ x ≤ 255) (he : tkE (l.drop 14) = 0) (hi : tiE (l.drop 18) = 0) :
    tagOk (rawB l).p (rawB l).v = true ∧ itagOk (rawB l).q (rawB l).i = true ∧ bencL (rawB l) (l.drop 34) = l.take 12 ++ (136 :: 168 :: ((l.drop 14).take 2 ++ (136 :: 231 :: l.drop 18))) := by
  have h14 : ∀ x ∈ l.drop 14, 0 ≤ x ∧ x ≤ 255 := fun x hx => hb x (List.mem_of_mem_drop hx)
  have h18 : ∀ x ∈ l.drop 18, 0 ≤ x ∧ x ≤ 255 := fun x hx => hb x (List.mem_of_mem_drop hx)
  obtain ⟨t1, t2⟩ := tk_back he h14
  obtain ⟨i1, i2⟩ := ti_back hi h18
  have r1 : tkR (l.drop 14) = l.drop 16 := by unfold tkR; rw [if_pos he, List.drop_drop]
  have r2 : tiR (l.drop 18) = l.drop 34 := by unfold tiR; rw [if_pos hi, List.drop_drop]
  rw [r1] at t2
  rw [r2] at i2
  refine ⟨t1, i1, ?_⟩
  have e1 : tagL (rawB l).p (rawB l).e (rawB l).v = (l.drop 14).take 2 := by
    have h2 := congrArg (List.take 2) t2
    rw [List.take_append_of_le_length (by simp [tagL]), List.take_of_length_le (by simp [tagL])] at h2
    exact h2
  have e2 : (rawB l).il ++ l.drop 34 = l.drop 18 := i2
  have e3 : (rawB l).d.l ++ (rawB l).s.l = l.take 12 := by
    have h1 := list6 (l := l) (k := 0) (by omega)
    have h2 := list6 (l := l) (k := 6) (by omega)
    show (m6 l 0).l ++ (m6 l 6).l = _
    rw [← h1, ← h2, List.drop_zero]
    have := List.take_append_drop 6 (l.take 12)
    rw [List.take_take, List.drop_take] at this
    exact this
  unfold bencL btL
  rw [e3, e1]
  simp only [List.append_assoc, List.cons_append]
  rw [e2]

theorem ty_two {l : List Int} (h : 2 ≤ l.length) (hb : ∀ x ∈ l, 0 ≤ x ∧ x ≤ 255) (N M : Int) (hN : 0 ≤ N ∧ N ≤ 255) (hM : 0 ≤ M ∧ M ≤ 255) : tyN l = N * 256 + M ↔ l = N :: M :: l.drop 2 := by
  match l, h with
  | x :: y :: r, _ =>
    have hx := hb x (by simp)
    have hy := hb y (by simp)
    have : tyN (x :: y :: r) = x * 256 + y := tyN_val (by simp) rfl rfl
    rw [this]
    constructor
    · intro e
      have e1 : x = N := by omega
      have e2 : y = M := by omega
      subst e1 e2
      rfl
    · intro e
      simp only [List.cons.injEq] at e
      obtain ⟨rfl, rfl, _⟩ := e
      rfl

/-- The bytes of what was read are the bytes: the types are right. -/
theorem raw_same {l : List Int} (h36 : 36 ≤ l.length) (hb : ∀ x ∈ l, 0 ≤ x ∧ x ≤ 255) (he : tkE (l.drop 14) = 0) (hi : tiE (l.drop 18) = 0) :
    bencL (rawB l) (l.drop 34) = l ↔ wrongB l = false := by
  obtain ⟨_, _, e⟩ := raw_enc h36 hb he hi
  have h12 : ∀ x ∈ l.drop 12, 0 ≤ x ∧ x ≤ 255 := fun x hx => hb x (List.mem_of_mem_drop hx)
  have h16 : ∀ x ∈ l.drop 16, 0 ≤ x ∧ x ≤ 255 := fun x hx => hb x (List.mem_of_mem_drop hx)
  have q1 := ty_two (l := l.drop 12) (by simp; omega) h12 136 168 (by omega) (by omega)
  have q2 := ty_two (l := l.drop 16) (by simp; omega) h16 136 231 (by omega) (by omega)
  rw [List.drop_drop] at q1 q2
  have d1 : l = l.take 12 ++ l.drop 12 := (List.take_append_drop 12 l).symm
  have d2 : l.drop 14 = (l.drop 14).take 2 ++ l.drop 16 := by
    have := List.take_append_drop 2 (l.drop 14)
    rw [List.drop_drop] at this
    exact this.symm
  rw [e]
  have hw : wrongB l = false ↔ tyN (l.drop 12) = 34984 ∧ tyN (l.drop 16) = 35047 := by
    unfold wrongB
    rw [he, hi]
    simp
  rw [hw]
  constructor
  · intro h
    have l12 : (l.take 12).length = 12 := by simp; omega
    have l2 : ((l.drop 14).take 2).length = 2 := by simp; omega
    have h1 := congrArg (List.drop 12) h
    rw [List.drop_left' l12] at h1
    have h2 := congrArg (List.drop 2) h1
    rw [List.drop_drop] at h2
    have h3 : List.take 2 (List.drop 14 l) ++ 136 :: 231 :: List.drop 18 l = l.drop 14 := h2
    have h4 := congrArg (List.drop 2) h3
    rw [List.drop_left' l2, List.drop_drop] at h4
    rw [h3] at h1
    exact ⟨q1.2 h1.symm, q2.2 h4.symm⟩
  · rintro ⟨h1, h2⟩
    have y1 := q1.1 h1
    have y2 := q2.1 h2
    conv => rhs; rw [d1, y1, d2, y2]

theorem chk_zero {f : Fr} {l : List Int} (h : chkF f l = 0) : l.length ≤ 1502 ∧ (f.t = true → tagOk f.p f.v = true) ∧ 2 ≤ l.length := by
  unfold chkF at h
  by_cases h1 : 1502 < l.length
  · rw [if_pos h1] at h; omega
  · rw [if_neg h1] at h
    cases hb : badF f l
    · unfold badF at hb
      simp only [Bool.or_eq_false_iff, decide_eq_false_iff_not] at hb
      refine ⟨by omega, fun ht => ?_, by omega⟩
      have := hb.2.2.2
      rw [ht] at this
      simpa using this
    · rw [hb] at h; simp at h

theorem benc_len (f : Bf) (l : List Int) : (bencL f l).length = 34 + l.length := by
  unfold bencL
  rw [List.length_append, List.length_append, btL_len]
  simp [M6.l]
theorem benc_drop (f : Bf) (l : List Int) : (bencL f l).drop 12 = 136 :: 168 :: (tagL f.p f.e f.v ++ (136 :: 231 :: (f.il ++ l))) ∧ (bencL f l).drop 14 = tagL f.p f.e f.v ++ (136 :: 231 :: (f.il ++ l)) ∧ (bencL f l).drop 16 = 136 :: 231 :: (f.il ++ l) ∧ (bencL f l).drop 18 = f.il ++ l ∧ (bencL f l).drop 34 = l ∧ m6 (bencL f l) 0 = f.d ∧ m6 (bencL f l) 6 = f.s := by
  obtain ⟨⟨a, b, c, d, e, g⟩, ⟨a', b', c', d', e', g'⟩, p, q, v, ip, ie, iu, ii, x, y⟩ := f
  exact ⟨rfl, rfl, rfl, rfl, rfl, rfl, rfl⟩
theorem benc_raw {f : Bf} {l : List Int} (h : chkB f l = 0) : rawB (bencL f l) = f ∧ (bencL f l).drop 34 = l ∧ wrongB (bencL f l) = false := by
  obtain ⟨h1, hq, hk, _, _, _, _⟩ := bchk_zero h
  obtain ⟨d12, d14, d16, d18, d34, m0, m1⟩ := benc_drop f l
  obtain ⟨t1, t2, t3, t4, _, _⟩ := tk_put (d := f.e) (136 :: 231 :: (f.il ++ l)) hq
  obtain ⟨i1, i2, i3, i4, i5, x4, x5, x6, x7, x8, x9, y4, y5, y6, y7, y8, y9, _, _⟩ := ti_put (d := f.g) (u := f.u) (a0 := f.x.a) (a1 := f.x.b) (a2 := f.x.c) (a3 := f.x.d) (a4 := f.x.e) (a5 := f.x.f) (s0 := f.y.a) (s1 := f.y.b) (s2 := f.y.c) (s3 := f.y.d) (s4 := f.y.e) (s5 := f.y.f) l hk
  refine ⟨?_, d34, ?_⟩
  · unfold rawB
    rw [m0, m1, d14, t2, t3, t4, d18]
    unfold Bf.il
    rw [i2, i3, i4, i5, x4, x5, x6, x7, x8, x9, y4, y5, y6, y7, y8, y9]
  · unfold wrongB
    rw [d12, d14, d16, d18, t1, show tiE (f.il ++ l) = 0 from i1]
    have e1 : tyN (136 :: 168 :: (tagL f.p f.e f.v ++ (136 :: 231 :: (f.il ++ l)))) = 136 * 256 + 168 := tyN_val (by simp) rfl rfl
    have e2 : tyN (136 :: 231 :: (f.il ++ l)) = 136 * 256 + 231 := tyN_val (by simp) rfl rfl
    rw [e1, e2]
    rfl
theorem benc_dec {f : Bf} {l : List Int} (h : chkB f l = 0) : bdE (bencL f l) = 0 ∧ bdF (bencL f l) = f ∧ bdR (bencL f l) = l := by
  obtain ⟨h1, h2, h3⟩ := benc_raw h
  obtain ⟨c1, _, _, _, c5, _⟩ := bchk_zero h
  have c6 := (chk_zero c5).2.2
  have e : bdE (bencL f l) = 0 := by
    unfold bdE
    rw [if_neg (by rw [benc_len]; omega), if_neg (by rw [benc_len]; omega), h1, h2, h3, h]
    rfl
  exact ⟨e, by unfold bdF; rw [if_pos e, h1], by unfold bdR; rw [if_pos e, h2]⟩
theorem il_bytes {f : Bf} (hf : f.ok) (hk : itagOk f.q f.i = true) : ∀ x ∈ f.il, 0 ≤ x ∧ x ≤ 255 := by
  have hb := itagOk_iff.1 hk
  have hd := bitN_lt f.g
  have hu := bitN_lt f.u
  intro x hx
  unfold Bf.il itagL at hx
  simp only [List.mem_append] at hx
  rcases hx with (hx | hx) | hx
  · simp only [List.mem_cons, List.not_mem_nil, or_false] at hx
    rcases hx with rfl | rfl | rfl | rfl <;> omega
  · exact hf.2.2.1 x hx
  · exact hf.2.2.2 x hx
theorem benc_bytes {f : Bf} {l : List Int} (hf : f.ok) (hb : ∀ x ∈ l, 0 ≤ x ∧ x ≤ 255) (h : chkB f l = 0) : ∀ x ∈ bencL f l, 0 ≤ x ∧ x ≤ 255 := by
  obtain ⟨_, hq, hk, _⟩ := bchk_zero h
  obtain ⟨_, _, _, _, _, hT⟩ := tk_put (d := f.e) [] hq
  intro x hx
  unfold bencL btL at hx
  simp only [List.mem_append, List.mem_cons] at hx
  rcases hx with ((hx | hx) | hx) | hx
  · exact hf.1 x hx
  · exact hf.2.1 x hx
  · rcases hx with rfl | rfl | hx | rfl | rfl | hx
    · omega
    · omega
    · exact hT x hx
    · omega
    · omega
    · exact il_bytes hf hk x hx
  · exact hb x hx
theorem bd_zero {B : List Int} (h : bdE B = 0) : 36 ≤ B.length ∧ B.length ≤ 1536 ∧ wrongB B = false ∧ chkB (rawB B) (B.drop 34) = 0 ∧ bdF B = rawB B ∧ bdR B = B.drop 34 := by
  have e1 : bdF B = rawB B := by unfold bdF; rw [if_pos h]
  have e2 : bdR B = B.drop 34 := by unfold bdR; rw [if_pos h]
  unfold bdE at h
  by_cases h1 : B.length < 36
  · rw [if_pos h1] at h; omega
  by_cases h2 : 1536 < B.length
  · rw [if_neg h1, if_pos h2] at h; omega
  rw [if_neg h1, if_neg h2] at h
  cases hw : wrongB B
  · rw [hw] at h
    refine ⟨by omega, by omega, rfl, ?_, e1, e2⟩
    by_cases hc : chkB (rawB B) (B.drop 34) = 0
    · exact hc
    · have : (chkB (rawB B) (B.drop 34) != 0) = true := by simpa using hc
      rw [this] at h
      simp at h
  · rw [hw] at h; simp at h
theorem bdec_enc {B : List Int} (hb : ∀ x ∈ B, 0 ≤ x ∧ x ≤ 255) (h : bdE B = 0) : chkB (bdF B) (bdR B) = 0 ∧ bencL (bdF B) (bdR B) = B := by
  obtain ⟨h1, h2, h3, h4, e1, e2⟩ := bd_zero h
  rw [e1, e2]
  refine ⟨h4, ?_⟩
  have hw := h3
  unfold wrongB at hw
  simp only [Bool.or_eq_false_iff, bne_eq_false_iff_eq] at hw
  exact (raw_same h1 hb hw.2.1 hw.2.2.2).2 h3
theorem bd_ok' {B : List Int} (hb : ∀ x ∈ B, 0 ≤ x ∧ x ≤ 255) : (bdF B).ok ∧ ∀ x ∈ bdR B, 0 ≤ x ∧ x ≤ 255 := by
  by_cases h : bdE B = 0
  · obtain ⟨_, _, _, _, e1, e2⟩ := bd_zero h
    rw [e1, e2]
    exact ⟨rawB_ok hb, fun x hx => hb x (List.mem_of_mem_drop hx)⟩
  · unfold bdF bdR
    rw [if_neg h, if_neg h]
    refine ⟨⟨?_, ?_, ?_, ?_⟩, by simp⟩
    all_goals
      intro x hx
      simp only [M6.l, zeroB, List.mem_cons, List.not_mem_nil, or_false] at hx
      omega
end Go.Proofs.Yteljcgdenagcmaa
