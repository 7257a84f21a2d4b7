/-
  How many maps, carries and members there may be: what comes of commands in a row. Plain laws.
-/
import Derived.Test.YtmfjlhcobhilcabUn
namespace Go.Proofs.Ytmfjlhcobhilcab
set_option linter.unusedVariables false
set_option maxRecDepth 4000
set_option linter.unusedSimpArgs false

structure MyB (p : Pv) (i : Nat) : Prop where
  ok : chk p = true
  ks : p.ks = [2, 1, 1]
  ms : p.ms = []
  cs : p.cs = []
  len : p.bs.length = i
  top : ∀ m ∈ p.bs, m.v ≤ (i : Int)
  all : ∀ v : Int, 1 ≤ v → v ≤ (i : Int) → (pts p v).isSome = true
theorem do_5 {p : Pv} (h : chk p = true) (m : Mp) (c : Cr) (b : Mb) : doC p ⟨5, m, c, b⟩ = whn p { p with bs := putL (cmB · b) b p.bs } (refB p b) := by
  rw [do_k h]
  unfold doK
  rw [if_neg (by show ¬ (5 : Int) = 1; decide), if_neg (by show ¬ (5 : Int) = 2; decide), if_neg (by show ¬ (5 : Int) = 3; decide), if_neg (by show ¬ (5 : Int) = 4; decide), if_pos rfl]
theorem do_3 {p : Pv} (h : chk p = true) (m : Mp) (c : Cr) (b : Mb) : doC p ⟨3, m, c, b⟩ = whn p { p with cs := putL (cmC · c) c p.cs } (refC p c) := by
  rw [do_k h]
  unfold doK
  rw [if_neg (by show ¬ (3 : Int) = 1; decide), if_neg (by show ¬ (3 : Int) = 2; decide), if_pos rfl]
theorem do_1 {p : Pv} (h : chk p = true) (m : Mp) (c : Cr) (b : Mb) : doC p ⟨1, m, c, b⟩ = whn p { p with ms := putL (cmM · m) m p.ms } (refM p m) := by
  rw [do_k h]
  unfold doK
  rw [if_pos rfl]
theorem whn_0 (p q : Pv) : whn p q 0 = (q, 0) := rfl
theorem whn_3 (p q : Pv) : whn p q 3 = (p, 3) := rfl
theorem my_k0 {p : Pv} (h : p.ks = [2, 1, 1]) : hasP p 0 = true ∧ isK p 0 2 = true := by
  unfold isK hasP kAt
  rw [h]
  exact ⟨rfl, rfl⟩
theorem isV_of {n : Int} (h1 : 1 ≤ n) (h2 : n ≤ 4094) : isV n = true := by simp [isV, h1, h2]
theorem isS_of {n : Int} (h1 : 1 ≤ n) (h2 : n ≤ 16777215) : isS n = true := by simp [isS, h1, h2]
theorem myB_ref {p : Pv} {i : Nat} (h : MyB p i) (hi : i ≤ 64) : refB p ⟨1 + (i : Int), [0]⟩ = if i < 64 then 0 else 3 := by
  have k := my_k0 h.ks
  unfold refB
  have e1 : (isV (1 + (i : Int)) && ris ltI [0]) = true := by rw [isV_of (by omega) (by omega)]; rfl
  have e2 : ([0] : List Int).all (hasP p) = true := by simp [k.1]
  have e3 : ([0] : List Int).all (fun i => isK p i 2) = true := by simp [k.2]
  rw [if_neg (by show ¬ (isV (1 + (i : Int)) && ris ltI [0]) = false; rw [e1]; decide), if_neg (by show ¬ ([0] : List Int).all (hasP p) = false; rw [e2]; decide), if_neg (by show ¬ ([0] : List Int).all (fun i => isK p i 2) = false; rw [e3]; decide)]
  rw [h.len]
  by_cases hlt : i < 64
  · rw [if_pos hlt, if_neg]
    simp; omega
  · rw [if_neg hlt, if_pos]
    have : (pts p (1 + (i : Int))).isSome = false := by
      cases hp : (pts p (1 + (i : Int))).isSome with
      | false => rfl
      | true =>
        obtain ⟨x, hx, e⟩ := ptl_some.1 hp
        have := h.top x hx
        omega
    show (decide (64 ≤ i) && !(pts p (1 + (i : Int))).isSome) = true
    rw [this]
    simp; omega
theorem myB_step {p : Pv} {i : Nat} (h : MyB p i) (hi : i < 64) (m : Mp) (c : Cr) : ∃ q, doC p ⟨5, m, c, ⟨1 + (i : Int), [0]⟩⟩ = (q, 0) ∧ MyB q (i + 1) := by
  have hne : ∀ y ∈ p.bs, cmB y ⟨1 + (i : Int), [0]⟩ ≠ 0 := fun y hy e => by
    have e1 : y.v = 1 + (i : Int) := cmI_eq.1 e
    have := h.top y hy
    omega
  have hd := do_5 h.ok m c ⟨1 + (i : Int), [0]⟩
  rw [myB_ref h (by omega), if_pos hi, whn_0] at hd
  refine ⟨_, hd, ?_, h.ks, h.ms, h.cs, ?_, fun m hm => ?_, fun v h1 h2 => ?_⟩
  · have := do_chk ⟨5, m, c, ⟨1 + (i : Int), [0]⟩⟩ h.ok
    rw [hd] at this
    exact this
  · have := (put_perm (c := (cmB · ⟨1 + (i : Int), [0]⟩)) (x := ⟨1 + (i : Int), [0]⟩) hne).length_eq
    rw [List.length_cons, h.len] at this
    exact this
  · rcases put_mem hm with e | hm
    · rw [e]; show 1 + (i : Int) ≤ _; omega
    · have := h.top m hm; omega
  · by_cases hv : v ≤ (i : Int)
    · obtain ⟨x, hx, e⟩ := ptl_some.1 (h.all v h1 hv)
      exact ptl_some.2 ⟨x, put_old hx (hne x hx), e⟩
    · exact ptl_some.2 ⟨_, put_self, by show 1 + (i : Int) = v; omega⟩
theorem myB_end {p : Pv} (h : MyB p 64) (m : Mp) (c : Cr) : doC p ⟨5, m, c, ⟨1 + (64 : Nat), [0]⟩⟩ = (p, 3) := by
  have hd := do_5 h.ok m c ⟨1 + ((64 : Nat) : Int), [0]⟩
  rw [myB_ref h (by omega), if_neg (by omega), whn_3] at hd
  exact hd
structure MyC (p : Pv) (i : Nat) : Prop where
  ok : chk p = true
  ks : p.ks = [2, 1, 1]
  ms : p.ms = []
  len : p.cs.length = i
  bl : p.bs.length = 64
  mem : ∀ v : Int, 1 ≤ v → v ≤ 64 → (pts p v).isSome = true
  top : ∀ m ∈ p.cs, m.s ≤ (i : Int)
  all : ∀ v : Int, 1 ≤ v → v ≤ (i : Int) → (car p v).2 = true
theorem MyB.done {p : Pv} (h : MyB p 64) : MyC p 0 := ⟨h.ok, h.ks, h.ms, (by rw [h.cs]; rfl), h.len, fun v h1 h2 => h.all v h1 h2, (fun m hm => by rw [h.cs] at hm; cases hm), fun v h1 h2 => by omega⟩
theorem myC_ref {p : Pv} {i : Nat} (h : MyC p i) (hi : i ≤ 64) {v : Int} (h1 : 1 ≤ v) (h2 : v ≤ 64) : refC p ⟨1 + (i : Int), v⟩ = if i < 64 then 0 else 3 := by
  have e1 : (isS (1 + (i : Int)) && isV v) = true := by rw [isS_of (by omega) (by omega), isV_of h1 (by omega)]; rfl
  have e2 : (car p (1 + (i : Int))).2 = false := by
    cases hp : (car p (1 + (i : Int))).2 with
    | false => rfl
    | true =>
      obtain ⟨x, hx, e⟩ := car_some.1 hp
      have := h.top x hx
      omega
  unfold refC
  rw [if_neg (by show ¬ (isS (1 + (i : Int)) && isV v) = false; rw [e1]; decide), if_neg (by show ¬ (car p (1 + (i : Int))).2 = true; rw [e2]; decide), if_neg (by show ¬ (pts p v).isSome = false; rw [h.mem v h1 h2]; decide), h.len]
  by_cases hlt : i < 64
  · rw [if_pos hlt, if_neg (by omega)]
  · rw [if_neg hlt, if_pos (by omega)]
theorem myC_step {p : Pv} {i : Nat} (h : MyC p i) (hi : i < 64) {v : Int} (h1 : 1 ≤ v) (h2 : v ≤ 64) (m : Mp) (b : Mb) : ∃ q, doC p ⟨3, m, ⟨1 + (i : Int), v⟩, b⟩ = (q, 0) ∧ MyC q (i + 1) := by
  have hne : ∀ y ∈ p.cs, cmC y ⟨1 + (i : Int), v⟩ ≠ 0 := fun y hy e => by
    have e1 : y.s = 1 + (i : Int) := cmI_eq.1 e
    have := h.top y hy
    omega
  have hd := do_3 h.ok m ⟨1 + (i : Int), v⟩ b
  rw [myC_ref h (by omega) h1 h2, if_pos hi, whn_0] at hd
  refine ⟨_, hd, ?_, h.ks, h.ms, ?_, h.bl, h.mem, fun m hm => ?_, fun u k1 k2 => ?_⟩
  · have := do_chk ⟨3, m, ⟨1 + (i : Int), v⟩, b⟩ h.ok
    rw [hd] at this
    exact this
  · have := (put_perm (c := (cmC · ⟨1 + (i : Int), v⟩)) (x := ⟨1 + (i : Int), v⟩) hne).length_eq
    rw [List.length_cons, h.len] at this
    exact this
  · rcases put_mem hm with e | hm
    · rw [e]; show 1 + (i : Int) ≤ _; omega
    · have := h.top m hm; omega
  · by_cases hv : u ≤ (i : Int)
    · obtain ⟨x, hx, e⟩ := car_some.1 (h.all u k1 hv)
      exact car_some.2 ⟨x, put_old hx (hne x hx), e⟩
    · exact car_some.2 ⟨_, put_self, by show 1 + (i : Int) = u; omega⟩
theorem myC_end {p : Pv} (h : MyC p 64) {v : Int} (h1 : 1 ≤ v) (h2 : v ≤ 64) (m : Mp) (b : Mb) : doC p ⟨3, m, ⟨1 + (64 : Nat), v⟩, b⟩ = (p, 3) := by
  have hd := do_3 h.ok m ⟨1 + ((64 : Nat) : Int), v⟩ b
  rw [myC_ref h (by omega) h1 h2, if_neg (by omega), whn_3] at hd
  exact hd
structure MyM (p : Pv) (i : Nat) : Prop where
  ok : chk p = true
  ks : p.ks = [2, 1, 1]
  len : p.ms.length = i
  bl : p.bs.length = 64
  cl : p.cs.length = 64
  car : ∀ v : Int, 1 ≤ v → v ≤ 64 → (car p v).2 = true
  all : ∀ m ∈ p.ms, ∃ j : Nat, j < i ∧ m.p = 1 + (j : Int) % 2 ∧ m.v = 100 + (j : Int) ∧ m.s = 1 + (j : Int) / 2
theorem MyC.done {p : Pv} (h : MyC p 64) : MyM p 0 := ⟨h.ok, h.ks, (by rw [h.ms]; rfl), h.bl, h.len, fun v h1 h2 => h.all v h1 h2, fun m hm => by rw [h.ms] at hm; cases hm⟩
theorem fnd_not {α : Type} {c : α → Bool} {g : α → Int} {l : List α} (h : ∀ m ∈ l, c m = false) : (fnd c g l).2 = false := by rw [fnd_none h]
theorem my_k1 {p : Pv} (h : p.ks = [2, 1, 1]) {q : Int} (hq : q = 1 ∨ q = 2) : hasP p q = true ∧ isK p q 1 = true := by
  unfold isK hasP kAt
  rw [h]
  rcases hq with rfl | rfl <;> exact ⟨rfl, rfl⟩
def myM (i : Nat) : Mp := ⟨1 + (i : Int) % 2, 100 + (i : Int), 1 + (i : Int) / 2⟩
theorem myM_ref {p : Pv} {i : Nat} (h : MyM p i) (hi : i ≤ 64) : refM p (myM i) = if i < 64 then 0 else 3 := by
  have k := my_k1 h.ks (q := 1 + (i : Int) % 2) (by omega)
  have e1 : (isV (myM i).v && isS (myM i).s) = true := by
    show (isV (100 + (i : Int)) && isS (1 + (i : Int) / 2)) = true
    rw [isV_of (by omega) (by omega), isS_of (by omega) (by omega)]; rfl
  have e2 : (svc p (myM i).p (myM i).v).2 = false := fnd_not fun m hm => by
    obtain ⟨j, hj, a, b, c⟩ := h.all m hm
    rw [a, b]
    show ((1 + (j : Int) % 2 == 1 + (i : Int) % 2) && (100 + (j : Int) == 100 + (i : Int))) = false
    simp; omega
  have e3 : (vof p (myM i).p (myM i).s).2 = false := fnd_not fun m hm => by
    obtain ⟨j, hj, a, b, c⟩ := h.all m hm
    rw [a, c]
    show ((1 + (j : Int) % 2 == 1 + (i : Int) % 2) && (1 + (j : Int) / 2 == 1 + (i : Int) / 2)) = false
    rw [Bool.and_eq_false_iff, beq_eq_false_iff_ne, beq_eq_false_iff_ne]
    omega
  have e4 : (Go.Proofs.Ytmfjlhcobhilcab.car p (myM i).s).2 = true := h.car _ (by show 1 ≤ 1 + (i : Int) / 2; omega) (by show 1 + (i : Int) / 2 ≤ 64; omega)
  unfold refM
  rw [if_neg (by rw [e1]; decide), if_neg (by show ¬ hasP p (1 + (i : Int) % 2) = false; rw [k.1]; decide), if_neg (by show ¬ isK p (1 + (i : Int) % 2) 1 = false; rw [k.2]; decide), if_neg (by rw [e2, e3]; decide), if_neg (by rw [e4]; decide), h.len]
  by_cases hlt : i < 64
  · rw [if_pos hlt, if_neg (by omega)]
  · rw [if_neg hlt, if_pos (by omega)]
theorem myM_step {p : Pv} {i : Nat} (h : MyM p i) (hi : i < 64) (c : Cr) (b : Mb) : ∃ q, doC p ⟨1, myM i, c, b⟩ = (q, 0) ∧ MyM q (i + 1) := by
  have hne : ∀ y ∈ p.ms, cmM y (myM i) ≠ 0 := fun y hy e => by
    have e' := (cmM_eq.1 e).2
    obtain ⟨j, hj, a, b, c⟩ := h.all y hy
    rw [b] at e'
    have e' : 100 + (j : Int) = 100 + (i : Int) := e'
    omega
  have hd := do_1 h.ok (myM i) c b
  rw [myM_ref h (by omega), if_pos hi, whn_0] at hd
  refine ⟨_, hd, ?_, h.ks, ?_, h.bl, h.cl, h.car, fun m hm => ?_⟩
  · have := do_chk ⟨1, myM i, c, b⟩ h.ok
    rw [hd] at this
    exact this
  · have := (put_perm (c := (cmM · (myM i))) (x := myM i) hne).length_eq
    rw [List.length_cons, h.len] at this
    exact this
  · rcases put_mem hm with e | hm
    · rw [e]; exact ⟨i, by omega, rfl, rfl, rfl⟩
    · obtain ⟨j, hj, r⟩ := h.all m hm
      exact ⟨j, by omega, r⟩
theorem myM_end {p : Pv} (h : MyM p 64) (c : Cr) (b : Mb) : doC p ⟨1, myM 64, c, b⟩ = (p, 3) := by
  have hd := do_1 h.ok (myM 64) c b
  rw [myM_ref h (by omega), if_neg (by omega), whn_3] at hd
  exact hd
end Go.Proofs.Ytmfjlhcobhilcab
