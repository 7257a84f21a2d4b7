/-
  Least ways in graphs of few nodes: what one comes to by going on edge by edge, in whichever order, is one and the same. Plain laws, no program.
-/
import Derived.Handy
namespace Go.Proofs.Ytcagdfdhpbeolaa
set_option linter.unusedVariables false
set_option maxRecDepth 4000
set_option linter.unusedSimpArgs false

/-- A step that may be gone: from me to you, at a cost. -/
structure St where
  me : Nat
  you : Nat
  c : Nat
/-- Where a step leads me nearer, I go. -/
def relax (f : Nat → Nat) (s : St) : Nat → Nat := fun i => if i = s.me ∧ f s.you + s.c < f s.me then f s.you + s.c else f i
/-- What a node has by a way: the end's own, and the costs of the steps. -/
def Val (S : List St) (init : Nat → Nat) (i x : Nat) : Prop := ∀ C : Nat → Nat → Prop, (∀ v, C v (init v)) → (∀ s x, s ∈ S → C s.you x → C s.me (x + s.c)) → C i x
theorem Val.own {S : List St} {init : Nat → Nat} (v : Nat) : Val S init v (init v) := fun _ h _ => h v
theorem Val.go {S : List St} {init : Nat → Nat} (s : St) (x : Nat) (hs : s ∈ S) (h : Val S init s.you x) : Val S init s.me (x + s.c) := fun C h1 h2 => h2 s x hs (h C h1 h2)
theorem Val.ind {S : List St} {init : Nat → Nat} {motive : ∀ i x : Nat, Val S init i x → Prop} (own : ∀ v, motive v (init v) (Val.own v)) (go : ∀ (s : St) (x : Nat) (hs : s ∈ S) (h : Val S init s.you x), motive s.you x h → motive s.me (x + s.c) (Val.go s x hs h)) {i x : Nat} (h : Val S init i x) : motive i x h := by
  obtain ⟨_, k⟩ := h (fun i x => ∃ h : Val S init i x, motive i x h) (fun v => ⟨_, own v⟩) (fun s x hs ⟨h, k⟩ => ⟨_, go s x hs h k⟩)
  exact k
/-- .. of at most k steps. -/
def ValK (S : List St) (init : Nat → Nat) (k i x : Nat) : Prop := ∀ C : Nat → Nat → Nat → Prop, (∀ k v, C k v (init v)) → (∀ k s x, s ∈ S → C k s.you x → C (k + 1) s.me (x + s.c)) → C k i x
theorem ValK.own {S : List St} {init : Nat → Nat} (k v : Nat) : ValK S init k v (init v) := fun _ h _ => h k v
theorem ValK.go {S : List St} {init : Nat → Nat} (k : Nat) (s : St) (x : Nat) (hs : s ∈ S) (h : ValK S init k s.you x) : ValK S init (k + 1) s.me (x + s.c) := fun C h1 h2 => h2 k s x hs (h C h1 h2)
theorem ValK.ind {S : List St} {init : Nat → Nat} {motive : ∀ k i x : Nat, ValK S init k i x → Prop} (own : ∀ k v, motive k v (init v) (ValK.own k v)) (go : ∀ (k : Nat) (s : St) (x : Nat) (hs : s ∈ S) (h : ValK S init k s.you x), motive k s.you x h → motive (k + 1) s.me (x + s.c) (ValK.go k s x hs h)) {k i x : Nat} (h : ValK S init k i x) : motive k i x h := by
  obtain ⟨_, t⟩ := h (fun k i x => ∃ h : ValK S init k i x, motive k i x h) (fun k v => ⟨_, own k v⟩) (fun k s x hs ⟨h, t⟩ => ⟨_, go k s x hs h t⟩)
  exact t
/-- A way whose nodes all have no more than it gives them. -/
def Wy (S : List St) (init f : Nat → Nat) (i x : Nat) (P : List Nat) : Prop := ∀ C : Nat → Nat → List Nat → Prop, (∀ v, f v ≤ init v → C v (init v) [v]) → (∀ s x P, s ∈ S → C s.you x P → f s.me ≤ x + s.c → C s.me (x + s.c) (s.me :: P)) → C i x P
theorem Wy.own {S : List St} {init f : Nat → Nat} (v : Nat) (hv : f v ≤ init v) : Wy S init f v (init v) [v] := fun _ h _ => h v hv
theorem Wy.go {S : List St} {init f : Nat → Nat} (s : St) (x : Nat) (P : List Nat) (hs : s ∈ S) (h : Wy S init f s.you x P) (hl : f s.me ≤ x + s.c) : Wy S init f s.me (x + s.c) (s.me :: P) := fun C h1 h2 => h2 s x P hs (h C h1 h2) hl
theorem Wy.ind {S : List St} {init f : Nat → Nat} {motive : ∀ (i x : Nat) (P : List Nat), Wy S init f i x P → Prop} (own : ∀ v (hv : f v ≤ init v), motive v (init v) [v] (Wy.own v hv)) (go : ∀ (s : St) (x : Nat) (P : List Nat) (hs : s ∈ S) (h : Wy S init f s.you x P) (hl : f s.me ≤ x + s.c), motive s.you x P h → motive s.me (x + s.c) (s.me :: P) (Wy.go s x P hs h hl)) {i x : Nat} {P : List Nat} (h : Wy S init f i x P) : motive i x P h := by
  obtain ⟨_, k⟩ := h (fun i x P => ∃ h : Wy S init f i x P, motive i x P h) (fun v hv => ⟨_, own v hv⟩) (fun s x P hs ⟨h, k⟩ hl => ⟨_, go s x P hs h hl k⟩)
  exact k
theorem Wy.mem {S : List St} {init f : Nat → Nat} {i x : Nat} {P : List Nat} (h : Wy S init f i x P) : ∀ u ∈ P, f u ≤ x := by
  induction h using Wy.ind with
  | own v hv => intro u hu; simp at hu; subst hu; exact hv
  | go s x P hs _ hl ih =>
    intro u hu
    rcases List.mem_cons.1 hu with rfl | hu
    · exact hl
    · have := ih u hu; omega
theorem Wy.mono {S : List St} {init f g : Nat → Nat} (hg : ∀ i, g i ≤ f i) {i x : Nat} {P : List Nat} (h : Wy S init f i x P) : Wy S init g i x P := by
  induction h using Wy.ind with
  | own v hv => exact .own v (Nat.le_trans (hg v) hv)
  | go s x P hs _ hl ih => exact .go s x P hs ih (Nat.le_trans (hg _) hl)
theorem Wy.val {S : List St} {init f : Nat → Nat} {i x : Nat} {P : List Nat} (h : Wy S init f i x P) : Val S init i x := by
  induction h using Wy.ind with
  | own v hv => exact .own v
  | go s x P hs _ hl ih => exact .go s x hs ih
theorem Wy.head {S : List St} {init f : Nat → Nat} {i x : Nat} {P : List Nat} (h : Wy S init f i x P) : i ∈ P := by
  induction h using Wy.ind <;> simp
theorem Wy.valk {S : List St} {init f : Nat → Nat} {i x : Nat} {P : List Nat} (h : Wy S init f i x P) : ∀ k, P.length ≤ k + 1 → ValK S init k i x := by
  induction h using Wy.ind with
  | own v hv => intro k _; exact .own k v
  | go s x P hs hw hl ih =>
    intro k hk
    have hp : 0 < P.length := List.length_pos_of_mem (Wy.head hw)
    simp at hk
    obtain ⟨j, rfl⟩ : ∃ j, k = j + 1 := ⟨k - 1, by omega⟩
    exact .go j s x hs (ih j hk)
/-- A way's end, and what its steps cost. -/
theorem Wy.most {S : List St} {init f : Nat → Nat} {n C : Nat} (hn : ∀ s ∈ S, s.me < n ∧ s.you < n) (hC : ∀ s ∈ S, s.c ≤ C) {i x : Nat} {P : List Nat} (h : Wy S init f i x P) (hi : i < n) : ∃ v k, v < n ∧ x = init v + k ∧ k + C ≤ P.length * C := by
  induction h using Wy.ind with
  | own v hv => exact ⟨v, 0, hi, rfl, by simp⟩
  | go s x P hs hw hl ih =>
    obtain ⟨v, k, hv, e, hk⟩ := ih (hn s hs).2
    refine ⟨v, k + s.c, hv, by omega, ?_⟩
    have := hC s hs
    simp only [List.length_cons, Nat.add_mul, Nat.one_mul]
    omega
/-- Every node has what some way gives it that passes no node twice. -/
def Inv (S : List St) (init : Nat → Nat) (n : Nat) (f : Nat → Nat) : Prop :=
  (∀ i, f i ≤ init i) ∧ ∀ i, i < n → ∃ P, Wy S init f i (f i) P ∧ P.Nodup ∧ ∀ u ∈ P, u < n
theorem Inv.start (S : List St) (init : Nat → Nat) (n : Nat) : Inv S init n init :=
  ⟨fun _ => Nat.le_refl _, fun i hi => ⟨[i], .own i (Nat.le_refl _), by simp, by simpa using hi⟩⟩
theorem relax_le (f : Nat → Nat) (s : St) (i : Nat) : relax f s i ≤ f i := by
  unfold relax
  split
  · next h => obtain ⟨rfl, h⟩ := h; omega
  · exact Nat.le_refl _
theorem relax_me (f : Nat → Nat) (s : St) : relax f s s.me ≤ f s.you + s.c := by
  unfold relax
  split
  · exact Nat.le_refl _
  · next h => simp at h; omega
theorem Inv.far {S : List St} {init : Nat → Nat} {n : Nat} {f : Nat → Nat} {s : St} {P : List Nat} (hw : Wy S init f s.you (f s.you) P) (h : f s.you + s.c < f s.me) : s.me ∉ P := by
  intro hm
  have := hw.mem _ hm
  omega
theorem Inv.relax {S : List St} {init : Nat → Nat} {n : Nat} {f : Nat → Nat} (h : Inv S init n f) (hn : ∀ s ∈ S, s.me < n ∧ s.you < n) {s : St} (hs : s ∈ S) : Inv S init n (relax f s) := by
  refine ⟨fun i => Nat.le_trans (relax_le f s i) (h.1 i), fun i hi => ?_⟩
  by_cases hc : i = s.me ∧ f s.you + s.c < f s.me
  · obtain ⟨rfl, hc⟩ := hc
    obtain ⟨P, hw, hd, hp⟩ := h.2 s.you (hn s hs).2
    have e : Proofs.Ytcagdfdhpbeolaa.relax f s s.me = f s.you + s.c := by unfold Proofs.Ytcagdfdhpbeolaa.relax; rw [if_pos ⟨rfl, hc⟩]
    refine ⟨s.me :: P, ?_, List.nodup_cons.2 ⟨Inv.far (n := n) hw hc, hd⟩, fun u hu => ?_⟩
    · rw [e]
      exact .go s _ P hs (hw.mono (relax_le f s)) (by rw [e]; exact Nat.le_refl _)
    · rcases List.mem_cons.1 hu with rfl | hu
      · exact hi
      · exact hp u hu
  · obtain ⟨P, hw, hd, hp⟩ := h.2 i hi
    have e : Proofs.Ytcagdfdhpbeolaa.relax f s i = f i := by unfold Proofs.Ytcagdfdhpbeolaa.relax; rw [if_neg hc]
    rw [e]
    exact ⟨P, hw.mono (relax_le f s), hd, hp⟩
/-- No step leads nearer. -/
def Fix (S : List St) (f : Nat → Nat) : Prop := ∀ s ∈ S, f s.me ≤ f s.you + s.c
/-- All that is asked of what nodes have in the end. -/
structure Least (S : List St) (init : Nat → Nat) (n : Nat) (f : Nat → Nat) : Prop where
  fix : Fix S f
  low : ∀ i, i < n → f i ≤ init i
  val : ∀ i, i < n → Val S init i (f i)
theorem Least.of {S : List St} {init : Nat → Nat} {n : Nat} {f : Nat → Nat} (h : Inv S init n f) (k : Fix S f) : Least S init n f :=
  ⟨k, fun i _ => h.1 i, fun i hi => by obtain ⟨P, hw, _⟩ := h.2 i hi; exact hw.val⟩
theorem Least.le {S : List St} {init : Nat → Nat} {n : Nat} {f : Nat → Nat} (h : Least S init n f) (hn : ∀ s ∈ S, s.me < n ∧ s.you < n) {i x : Nat} (hv : Val S init i x) (hi : i < n) : f i ≤ x := by
  induction hv using Val.ind with
  | own v => exact h.low v hi
  | go s x hs _ ih =>
    have := h.fix s hs
    have := ih (hn s hs).2
    omega
/-- There is one answer. -/
theorem Least.one {S T : List St} {init : Nat → Nat} {n : Nat} {f g : Nat → Nat} (h : Least S init n f) (k : Least T init n g) (hn : ∀ s ∈ S, s.me < n ∧ s.you < n) (hm : ∀ s ∈ T, s.me < n ∧ s.you < n) (hST : ∀ s ∈ S, s ∈ T) (hTS : ∀ s ∈ T, s ∈ S) (i : Nat) (hi : i < n) : f i = g i := by
  have m : ∀ {A B : List St} (hAB : ∀ s ∈ A, s ∈ B) {i x : Nat}, Val A init i x → Val B init i x := by
    intro A B hAB i x hv
    induction hv using Val.ind with
    | own v => exact .own v
    | go s x hs _ ih => exact .go s x (hAB s hs) ih
  have h1 := h.le hn (m hTS (k.val i hi)) hi
  have h2 := k.le hm (m hST (h.val i hi)) hi
  omega
theorem Val.more {A B : List St} {init : Nat → Nat} (hAB : ∀ s ∈ A, s ∈ B) {i x : Nat} (hv : Val A init i x) : Val B init i x := by
  induction hv using Val.ind with
  | own v => exact .own v
  | go s x hs _ ih => exact .go s x (hAB s hs) ih
/-! ### rows without any twice -/
theorem nodup_most : ∀ (n : Nat) (P : List Nat), P.Nodup → (∀ u ∈ P, u < n) → P.length ≤ n
  | 0, P, _, h => by
    cases P with
    | nil => simp
    | cons a l => exact absurd (h a (by simp)) (by omega)
  | n + 1, P, hd, h => by
    have h1 := nodup_most n (P.erase n) (hd.erase n) (fun u hu => by
      have := (List.Nodup.mem_erase_iff hd).1 hu
      have := h u this.2
      omega)
    by_cases hm : n ∈ P
    · rw [List.length_erase_of_mem hm] at h1
      omega
    · rw [List.erase_of_not_mem hm] at h1
      omega
theorem nodup_sub {l m : List Nat} (hd : l.Nodup) (hs : ∀ u ∈ l, u ∈ m) : l.length ≤ m.length := by
  induction l generalizing m with
  | nil => simp
  | cons a l ih =>
    rw [List.nodup_cons] at hd
    have h1 := ih (m := m.erase a) hd.2 (fun u hu => (List.mem_erase_of_ne (fun e : u = a => hd.1 (e ▸ hu))).2 (hs u (by simp [hu])))
    have hm : a ∈ m := hs a (by simp)
    rw [List.length_erase_of_mem hm] at h1
    have : 0 < m.length := List.length_pos_of_mem hm
    simp
    omega
theorem nodup_map {α β : Type} {f : α → β} {l : List α} (hd : l.Nodup) (hi : ∀ a ∈ l, ∀ b ∈ l, f a = f b → a = b) : (l.map f).Nodup := by
  induction l with
  | nil => simp
  | cons a l ih =>
    rw [List.nodup_cons] at hd
    rw [List.map_cons, List.nodup_cons]
    refine ⟨fun h => ?_, ih hd.2 (fun x hx y hy => hi x (by simp [hx]) y (by simp [hy]))⟩
    obtain ⟨b, hb, e⟩ := List.mem_map.1 h
    have := hi b (by simp [hb]) a (by simp) e
    exact hd.1 (this ▸ hb)
/-! ### as often as there are nodes -/
theorem fold_le (S : List St) (f : Nat → Nat) (i : Nat) : S.foldl relax f i ≤ f i := by
  induction S generalizing f with
  | nil => exact Nat.le_refl _
  | cons s S ih => exact Nat.le_trans (ih (relax f s)) (relax_le f s i)
theorem fold_all (S : List St) (f : Nat → Nat) : ∀ s ∈ S, S.foldl relax f s.me ≤ f s.you + s.c := by
  induction S generalizing f with
  | nil => intro s hs; cases hs
  | cons t S ih =>
    intro s hs
    rcases List.mem_cons.1 hs with rfl | hs
    · exact Nat.le_trans (fold_le S _ _) (relax_me f s)
    · have h1 := ih (relax f t) s hs
      have h2 := relax_le f t s.you
      exact Nat.le_trans h1 (by omega)
theorem fold_inv {S T : List St} {init : Nat → Nat} {n : Nat} (hn : ∀ s ∈ S, s.me < n ∧ s.you < n) (hT : ∀ s ∈ T, s ∈ S) {f : Nat → Nat} (h : Inv S init n f) : Inv S init n (T.foldl relax f) := by
  induction T generalizing f with
  | nil => exact h
  | cons s T ih => exact ih (fun s hs => hT s (by simp [hs])) (h.relax hn (hT s (by simp)))
def rounds' (S : List St) (init : Nat → Nat) : Nat → Nat → Nat
  | 0 => init
  | k + 1 => S.foldl relax (rounds' S init k)
theorem rounds_inv {S : List St} {init : Nat → Nat} {n : Nat} (hn : ∀ s ∈ S, s.me < n ∧ s.you < n) (k : Nat) : Inv S init n (rounds' S init k) := by
  induction k with
  | zero => exact Inv.start S init n
  | succ k ih => exact fold_inv hn (fun _ h => h) ih
theorem rounds_low (S : List St) (init : Nat → Nat) (m v : Nat) : rounds' S init m v ≤ init v := by
  induction m with
  | zero => exact Nat.le_refl _
  | succ m ih => exact Nat.le_trans (fold_le S _ _) ih
theorem rounds_le {S : List St} {init : Nat → Nat} {k i x : Nat} (h : ValK S init k i x) : ∀ m, k ≤ m → rounds' S init m i ≤ x := by
  induction h using ValK.ind with
  | own k v =>
    intro m _
    exact rounds_low S init m v
  | go k s x hs _ ih =>
    intro m hm
    obtain ⟨j, rfl⟩ : ∃ j, m = j + 1 := ⟨m - 1, by omega⟩
    have h1 := fold_all S (rounds' S init j) s hs
    have h2 := ih j (by omega)
    exact Nat.le_trans h1 (by omega)
theorem rounds_least {S : List St} {init : Nat → Nat} {n : Nat} (hn : ∀ s ∈ S, s.me < n ∧ s.you < n) : Least S init n (rounds' S init n) := by
  have hi := rounds_inv (init := init) hn n
  refine Least.of hi fun s hs => ?_
  refine Decidable.byContradiction fun hc => ?_
  obtain ⟨P, hw, hd, hp⟩ := hi.2 s.you (hn s hs).2
  have hm := Inv.far (n := n) hw (by omega)
  have hl := nodup_most n (s.me :: P) (List.nodup_cons.2 ⟨hm, hd⟩) (fun u hu => by
    rcases List.mem_cons.1 hu with rfl | hu
    · exact (hn s hs).1
    · exact hp u hu)
  simp at hl
  have hv := ValK.go (P.length - 1) s _ hs (hw.valk (P.length - 1) (by omega))
  have hpos : 0 < P.length := List.length_pos_of_mem hw.head
  have := rounds_le hv n (by omega)
  omega
/-! ### how much there is left to fall -/
def total (f : Nat → Nat) : Nat → Nat
  | 0 => 0
  | n + 1 => total f n + f n
theorem total_le {f g : Nat → Nat} : ∀ (n : Nat), (∀ i, i < n → g i ≤ f i) → total g n ≤ total f n
  | 0, _ => Nat.le_refl _
  | n + 1, h => by
    have := total_le n (fun i hi => h i (by omega))
    have := h n (by omega)
    simp only [total]
    omega
theorem total_lt {f g : Nat → Nat} : ∀ (n : Nat), (∀ i, i < n → g i ≤ f i) → (∃ i, i < n ∧ g i < f i) → total g n < total f n
  | 0, _, ⟨i, hi, _⟩ => by omega
  | n + 1, h, ⟨i, hi, hl⟩ => by
    simp only [total]
    have h2 := h n (by omega)
    by_cases e : i = n
    · subst e
      have := total_le i (fun j hj => h j (by omega))
      omega
    · have := total_lt n (fun j hj => h j (by omega)) ⟨i, by omega, hl⟩
      omega
/-- The costs of what nodes have are those of few steps. -/
theorem Inv.most {S : List St} {init : Nat → Nat} {n C : Nat} {f : Nat → Nat} (h : Inv S init n f) (hn : ∀ s ∈ S, s.me < n ∧ s.you < n) (hC : ∀ s ∈ S, s.c ≤ C) {i : Nat} (hi : i < n) : ∃ v k, v < n ∧ f i = init v + k ∧ k + C ≤ n * C := by
  obtain ⟨P, hw, hd, hp⟩ := h.2 i hi
  obtain ⟨v, k, hv, e, hk⟩ := hw.most hn hC hi
  have := nodup_most n P hd hp
  exact ⟨v, k, hv, e, Nat.le_trans hk (Nat.mul_le_mul_right C this)⟩
end Go.Proofs.Ytcagdfdhpbeolaa
