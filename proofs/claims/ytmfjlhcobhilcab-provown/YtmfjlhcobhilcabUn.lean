/-
  What is added, and then deleted, is as it was; commands one behind the other; how many there may be. Plain laws.
-/
import Derived.Test.YtmfjlhcobhilcabPf
import Derived.Test.YtmfjlhcobhilcabTwn
namespace Go.Proofs.Ytmfjlhcobhilcab
set_option linter.unusedVariables false
set_option maxRecDepth 4000
set_option linter.unusedSimpArgs false

theorem put_fil {α : Type} {c : α → Int} {x : α} (hx : c x = 0) : ∀ {l : List α}, (∀ y ∈ l, c y ≠ 0) → (putL c x l).filter (fun y => c y != 0) = l
  | [], _ => by simp [putL, hx]
  | y :: l, h => by
    have hy := h y (by simp)
    have hl : l.filter (fun y => c y != 0) = l := List.filter_eq_self.2 fun z hz => by simpa using h z (by simp [hz])
    rw [putL]
    split
    · rw [List.filter_cons, if_pos (by simpa using hy), put_fil hx fun z hz => h z (by simp [hz])]
    · try rw [if_neg hy]
      rw [List.filter_cons, if_neg (by simp [hx]), List.filter_cons, if_pos (by simpa using hy), hl]
theorem put_ne {α : Type} {c : α → Int} {x : α} {l : List α} (h : ∀ y ∈ l, c y ≠ 0) : putL c x l ≠ l := fun e => by
  have := (put_perm (c := c) (x := x) h).length_eq
  rw [e] at this
  simp at this
theorem cmI_self (a : Int) : cmI a a = 0 := cmI_eq.2 rfl
theorem cmM_self (a : Mp) : cmM a a = 0 := cmM_eq.2 ⟨rfl, rfl⟩
theorem whn_ok {p q r : Pv} {e : Int} (h : whn p q e = (r, 0)) : e = 0 ∧ r = q := by
  unfold whn at h
  split at h
  · rename_i h0
    cases h
    exact ⟨h0, rfl⟩
  · rename_i h0
    cases h
    exact absurd rfl h0
theorem do_k {p : Pv} (h : chk p = true) (c : Cd) : doC p c = doK p c := by unfold doC; rw [if_pos h]
theorem ms_ne {p : Pv} {l : List Mp} (h : l ≠ p.ms) : ({ p with ms := l } : Pv) ≠ p := fun e => h (congrArg Pv.ms e)
theorem cs_ne {p : Pv} {l : List Cr} (h : l ≠ p.cs) : ({ p with cs := l } : Pv) ≠ p := fun e => h (congrArg Pv.cs e)
theorem bs_ne {p : Pv} {l : List Mb} (h : l ≠ p.bs) : ({ p with bs := l } : Pv) ≠ p := fun e => h (congrArg Pv.bs e)
/-- With an error nothing changes. -/
theorem do_err {p : Pv} {c : Cd} (h : (doC p c).2 ≠ 0) : (doC p c).1 = p := by
  have hw : ∀ {q : Pv} {e : Int}, (whn p q e).2 ≠ 0 → (whn p q e).1 = p := fun {q e} h => by
    unfold whn at h ⊢
    split
    · rename_i h0
      rw [if_pos h0] at h
      exact absurd rfl h
    · rfl
  unfold doC at h ⊢
  split
  · rename_i hc
    rw [if_pos hc] at h
    unfold doK at h ⊢
    repeat' split
    all_goals first | rfl | skip
    all_goals simp_all
  · rfl
theorem un_map {p a : Pv} {m : Mp} (h : chk p = true) (c : Cr) (b : Mb) (hd : doC p ⟨1, m, c, b⟩ = (a, 0)) (c' : Cr) (b' : Mb) : doC a ⟨2, m, c', b'⟩ = (p, 0) ∧ a ≠ p := by
  have ha : chk a = true := by have := do_chk ⟨1, m, c, b⟩ h; rw [hd] at this; exact this
  rw [do_k h] at hd
  unfold doK at hd
  rw [if_pos rfl] at hd
  obtain ⟨h0, rfl⟩ := whn_ok hd
  obtain ⟨r1, r2, r3, r4, r5, r6, r7⟩ := refM_zero h0
  have hne : ∀ y ∈ p.ms, cmM y m ≠ 0 := fun y hy e => by
    have := fnd_false r4 y hy
    have h' := cmM_eq.1 e
    simp [h'.1, h'.2] at this
  refine ⟨?_, ms_ne (put_ne hne)⟩
  rw [do_k ha]
  unfold doK
  rw [if_neg (by show ¬ (2 : Int) = 1; decide), if_pos rfl]
  have hk : keepM { p with ms := putL (cmM · m) m p.ms } m = 0 := by
    unfold keepM
    rw [if_neg]
    have : (putL (cmM · m) m p.ms).any (eqM · m) = true := List.any_eq_true.2 ⟨m, put_self, by simp [eqM]⟩
    show ¬ (putL (cmM · m) m p.ms).any (eqM · m) = false
    rw [this]
    decide
  unfold whn
  rw [if_pos hk]
  show ({ p with ms := (putL (cmM · m) m p.ms).filter (fun y => cmM y m != 0) }, (0 : Int)) = (p, 0)
  rw [put_fil (c := (cmM · m)) (cmM_self m) hne]
theorem un_carry {p a : Pv} {c : Cr} (h : chk p = true) (m : Mp) (b : Mb) (hd : doC p ⟨3, m, c, b⟩ = (a, 0)) (m' : Mp) (b' : Mb) : doC a ⟨4, m', c, b'⟩ = (p, 0) ∧ a ≠ p := by
  have ha : chk a = true := by have := do_chk ⟨3, m, c, b⟩ h; rw [hd] at this; exact this
  rw [do_k h] at hd
  unfold doK at hd
  rw [if_neg (by show ¬ (3 : Int) = 1; decide), if_neg (by show ¬ (3 : Int) = 2; decide), if_pos rfl] at hd
  obtain ⟨h0, rfl⟩ := whn_ok hd
  obtain ⟨r1, r2, r3, r4, r5⟩ := refC_zero h0
  have hne : ∀ y ∈ p.cs, cmC y c ≠ 0 := fun y hy e => by
    have := fnd_false r3 y hy
    simp at this
    exact this (cmI_eq.1 e)
  refine ⟨?_, cs_ne (put_ne hne)⟩
  rw [do_k ha]
  unfold doK
  rw [if_neg (by show ¬ (4 : Int) = 1; decide), if_neg (by show ¬ (4 : Int) = 2; decide), if_neg (by show ¬ (4 : Int) = 3; decide), if_pos rfl]
  have hatt : att p c.s = [] := by
    refine List.map_eq_nil_iff.2 (List.filter_eq_nil_iff.2 fun m hm e => ?_)
    have hM' := (gM_iff p).1 ((chk_iff p).1 h).2.2.2.2.2
    have := hM'.1 m hm
    unfold okM0 at this
    simp only [Bool.and_eq_true] at this
    have e' : m.s = c.s := by simpa using e
    rw [e', r3] at this
    exact absurd this.2.2 (by decide)
  have hk : keepC { p with cs := putL (cmC · c) c p.cs } c = 0 := by
    unfold keepC
    have : (putL (cmC · c) c p.cs).any (eqC · c) = true := List.any_eq_true.2 ⟨c, put_self, by simp [eqC]⟩
    rw [if_neg (by show ¬ (putL (cmC · c) c p.cs).any (eqC · c) = false; rw [this]; decide), if_neg (by show ¬ 0 < (att p c.s).length; rw [hatt]; simp)]
  unfold whn
  rw [if_pos hk]
  show ({ p with cs := (putL (cmC · c) c p.cs).filter (fun y => cmC y c != 0) }, (0 : Int)) = (p, 0)
  rw [put_fil (c := (cmC · c)) (cmI_self c.s) hne]
theorem un_member {p a : Pv} {b : Mb} (h : chk p = true) (m : Mp) (c : Cr) (hw : pts p b.v = none) (hd : doC p ⟨5, m, c, b⟩ = (a, 0)) (m' : Mp) (c' : Cr) : doC a ⟨6, m', c', b⟩ = (p, 0) ∧ a ≠ p := by
  have ha : chk a = true := by have := do_chk ⟨5, m, c, b⟩ h; rw [hd] at this; exact this
  rw [do_k h] at hd
  unfold doK at hd
  rw [if_neg (by show ¬ (5 : Int) = 1; decide), if_neg (by show ¬ (5 : Int) = 2; decide), if_neg (by show ¬ (5 : Int) = 3; decide), if_neg (by show ¬ (5 : Int) = 4; decide), if_pos rfl] at hd
  obtain ⟨h0, rfl⟩ := whn_ok hd
  have hne : ∀ y ∈ p.bs, cmB y b ≠ 0 := fun y hy e => by
    have := (ptl_some (v := b.v) (l := p.bs)).2 ⟨y, hy, cmI_eq.1 e⟩
    have hw' : ptl b.v p.bs = none := hw
    rw [hw'] at this
    cases this
  refine ⟨?_, bs_ne (put_ne hne)⟩
  rw [do_k ha]
  unfold doK
  rw [if_neg (by show ¬ (6 : Int) = 1; decide), if_neg (by show ¬ (6 : Int) = 2; decide), if_neg (by show ¬ (6 : Int) = 3; decide), if_neg (by show ¬ (6 : Int) = 4; decide), if_neg (by show ¬ (6 : Int) = 5; decide), if_pos rfl]
  have hsv : svs p b.v = [] := by
    refine List.map_eq_nil_iff.2 (List.filter_eq_nil_iff.2 fun k hk e => ?_)
    have hC' := (gC_iff p).1 ((chk_iff p).1 h).2.2.2.2.1
    have := (hC'.1 k hk).2
    have e' : k.v = b.v := by simpa using e
    rw [e', hw] at this
    cases this
  have hk : keepB { p with bs := putL (cmB · b) b p.bs } b.v = 0 := by
    unfold keepB
    have : (pts { p with bs := putL (cmB · b) b p.bs } b.v).isSome = true := ptl_some.2 ⟨b, put_self, rfl⟩
    rw [if_neg (by rw [this]; decide), if_neg (by show ¬ 0 < (svs p b.v).length; rw [hsv]; simp)]
  unfold whn
  rw [if_pos hk]
  show ({ p with bs := (putL (cmB · b) b p.bs).filter (fun y => cmB y b != 0) }, (0 : Int)) = (p, 0)
  rw [put_fil (c := (cmB · b)) (cmI_self b.v) hne]
/-! ### sizes -/
theorem ris_len : ∀ {l : List Int} {lo hi : Int}, ris ltI l = true → (∀ x ∈ l, lo ≤ x ∧ x < hi) → lo ≤ hi → (l.length : Int) ≤ hi - lo
  | [], lo, hi, _, _, h => by simp; omega
  | x :: l, lo, hi, h, k, hl => by
    have h' := (ris_cons ltI_tr x l).1 h
    have hx := k x (by simp)
    have := ris_len (lo := x + 1) (hi := hi) h'.2 (fun y hy => ⟨by have := h'.1 y hy; simp [ltI] at this; omega, (k y (by simp [hy])).2⟩) (by omega)
    rw [List.length_cons]
    omega
theorem okB_len {p : Pv} (hk : p.ks.length ≤ 8) {m : Mb} (h : okB p m = true) : m.ps.length ≤ 8 := by
  unfold okB at h
  simp only [Bool.and_eq_true, List.all_eq_true] at h
  have := ris_len (lo := 0) (hi := p.ks.length) h.2.1 (fun x hx => by
    have := h.2.2 x hx
    unfold isK hasP at this
    simp at this
    omega) (by omega)
  omega
theorem chk_sz {p : Pv} (h : chk p = true) : Sz p := by
  rw [chk_iff] at h
  obtain ⟨h1, h2, ⟨l1, l2, l3⟩, hB, hC, hM⟩ := h
  unfold gK at h2
  simp only [Bool.and_eq_true, decide_eq_true_eq] at h2
  exact ⟨by omega, by omega, by omega, by omega, fun m hm => Nat.le_trans (okB_len h2.2.1 (((gB_iff p).1 hB).1 m hm)) (by decide)⟩
/-! ### commands, one behind the other -/
/-- A command whose member has not many more ports than there may be. -/
def shD (c : Cd) : Cd := { c with b := ⟨c.b.v, c.b.ps.take 10⟩ }
def stepP (p : Pv) (c : Cd) : Pv := (doC p (shD c)).1
/-- What comes of commands. -/
def runP (p : Pv) (l : List Cd) : Pv := l.foldl stepP p
theorem run_chk {p : Pv} (h : chk p = true) : ∀ (l : List Cd), chk (runP p l) = true
  | [] => h
  | c :: l => run_chk (do_chk (shD c) h) l
theorem run_next {p : Pv} {l : List Cd} {i : Nat} {c : Cd} (h : l[i]? = some c) : runP p (l.take (i + 1)) = stepP (runP p (l.take i)) c := by
  rw [List.take_add_one, h]
  simp [runP]
theorem sh_len (c : Cd) : (shD c).b.ps.length ≤ 1000 := Nat.le_trans (List.length_take_le ..) (by decide)
/-- Ports of kinds by bits. -/
def kdP (f : Nat → Bool) (n : Nat) : List Int := (List.range n).map fun i => if f i then 2 else 1
theorem kdP_next (f : Nat → Bool) (n : Nat) : kdP f (n + 1) = kdP f n ++ [if f n then 2 else 1] := by simp [kdP, List.range_succ]
theorem kdP_len (f : Nat → Bool) (n : Nat) : (kdP f n).length = n := by simp [kdP]
theorem kdP_ok {f : Nat → Bool} {n : Nat} (h1 : 1 ≤ n) (h2 : n ≤ 8) : gK (kdP f n) = true := by
  unfold gK
  rw [kdP_len]
  simp only [Bool.and_eq_true, decide_eq_true_eq, List.all_eq_true]
  refine ⟨h1, h2, fun k hk => ?_⟩
  obtain ⟨i, _, rfl⟩ := List.mem_map.1 hk
  split <;> rfl
end Go.Proofs.Ytmfjlhcobhilcab
