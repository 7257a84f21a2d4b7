/-
  What was learned last of a key: plain laws.
-/
import Derived.Test.YtoelpbajaadfeaaOpen
import Derived.Test.YtoelpbajaadfeaaRFind
namespace Go.Proofs.Ytoelpbajaadfeaa
set_option linter.unusedVariables false
set_option maxRecDepth 4000
set_option linter.unusedSimpArgs false
open Go.RowKit

theorem look_put {l : List En} (hs : Srt l) (e : En) (q : Int) : look (put l e) q = if e.rk = q then some e else look l q := by
  split
  · next h =>
    subst h
    exact (hs.put e).look ((mem_put hs).2 (.inl rfl))
  · next h =>
    cases hl : look l q with
    | none =>
      refine look_none.2 (fun x hx => ?_)
      rcases (mem_put hs).1 hx with rfl | ⟨hx, _⟩
      · exact h
      · exact look_none.1 hl x hx
    | some x =>
      obtain ⟨hx, e2⟩ := look_mem hl
      have := (hs.put e).look ((mem_put hs).2 (.inr ⟨hx, fun e3 => h (by rw [← e3, e2])⟩))
      rwa [e2] at this
theorem look_filter {l : List En} (hs : Srt l) (p : En → Bool) (q : Int) : look (l.filter p) q = (look l q).bind (fun x => if p x then some x else none) := by
  cases hl : look l q with
  | none =>
    refine look_none.2 (fun x hx => ?_)
    exact look_none.1 hl x (List.mem_filter.1 hx).1
  | some x =>
    obtain ⟨hx, e⟩ := look_mem hl
    show look (l.filter p) q = if p x then some x else none
    split
    · next hp =>
      have := (hs.filter p).look (List.mem_filter.2 ⟨hx, hp⟩)
      rwa [e] at this
    · next hp =>
      refine look_none.2 (fun y hy => ?_)
      obtain ⟨hy1, hy2⟩ := List.mem_filter.1 hy
      intro e2
      rw [hs.inj hy1 hx (by rw [e2, e])] at hy2
      exact hp hy2
/-- Behind which address a key was learned last. -/
def lastOf (acc : List En) (q : Int) : Option Ad := acc.foldl (fun r y => if y.rk = q then some y.bm else r) none
theorem lastOf_snoc (acc : List En) (y : En) (q : Int) : lastOf (acc ++ [y]) q = if y.rk = q then some y.bm else lastOf acc q := by
  simp [lastOf, List.foldl_append]
theorem last_fold {q : Int} : ∀ (acc : List En) (r : Option Ad) {x : Ad}, acc.foldl (fun r y => if y.rk = q then some y.bm else r) r = some x → r = some x ∨ ∃ y ∈ acc, y.rk = q
  | [], r, x, h => .inl h
  | y :: s, r, x, h => by
    rw [List.foldl_cons] at h
    by_cases e : y.rk = q
    · exact .inr ⟨y, by simp, e⟩
    · rw [if_neg e] at h
      rcases last_fold s r h with h | ⟨z, hz, ez⟩
      · exact .inl h
      · exact .inr ⟨z, by simp [hz], ez⟩
theorem lastOf_some {acc : List En} {q : Int} {x : Ad} (h : lastOf acc q = some x) : ∃ y ∈ acc, y.rk = q := by
  rcases last_fold acc none h with h | h
  · cases h
  · exact h
/-- The base holds just what was learned last. -/
def Fd (l acc : List En) : Prop := ∀ q, (look l q).map (·.bm) = lastOf acc q
/-- What a call that was taken leaves in the list. -/
def Oq.kn (o : Oq) : En := ⟨o.k, o.b, 0⟩
def cF : Cf := ⟨256, 1048576⟩
theorem cF_ok : okC cF = true := by decide
theorem Fd.learn {l acc : List En} (h : Fd l acc) (hs : Srt l) (hl : l.length < 256) (o : Oq) :
    (learnS cF l o.en = (put l o.en, 0) ∧ Fd (put l o.en) (acc ++ [o.kn])) ∨ learnS cF l o.en = (l, 80) := by
  unfold learnS
  split
  · refine .inl ⟨?_, fun q => ?_⟩
    · unfold putS
      rw [if_pos (.inr (by show (l.length : Int) < 256; omega))]
    · rw [look_put hs, lastOf_snoc]
      show _ = if o.en.rk = q then some o.b else _
      split
      · rfl
      · exact h q
  · exact .inr rfl
theorem length_put_le {l : List En} (hs : Srt l) (e : En) : (put l e).length ≤ l.length + 1 := by
  rw [length_put hs]
  split <;> omega
theorem Oq.kn_wf {o : Oq} (h : o.wf) : o.kn.wf := ⟨h.k, h.b, by simp [Oq.kn]⟩
/-- Is one of these of that key? -/
def hasK (acc : List En) (q : Int) : Bool := decide (∃ y ∈ acc, y.rk = q)
theorem hasK_snoc (acc : List En) (y : En) (q : Int) : hasK (acc ++ [y]) q = (hasK acc q || decide (y.rk = q)) := by
  unfold hasK
  rw [Bool.eq_iff_iff]
  simp only [decide_eq_true_eq, Bool.or_eq_true, List.mem_append, List.mem_singleton]
  constructor
  · rintro ⟨z, hz | rfl, e⟩
    · exact .inl ⟨z, hz, e⟩
    · exact .inr e
  · rintro (⟨z, hz, e⟩ | e)
    · exact ⟨z, .inl hz, e⟩
    · exact ⟨y, .inr rfl, e⟩
theorem Fd.has {l acc : List En} (h : Fd l acc) (hs : Srt l) {x : En} (hx : x ∈ l) : hasK acc x.rk = true := by
  have h1 := h x.rk
  rw [hs.look hx] at h1
  obtain ⟨y, hy, e⟩ := lastOf_some h1.symm
  exact decide_eq_true ⟨y, hy, e⟩
theorem Fd.found {l acc : List En} (h : Fd l acc) {q : Int} {x : Ad} (hx : lastOf acc q = some x) : plA l q = x ∧ (look l q).isSome = true := by
  have h1 := h q
  rw [hx] at h1
  unfold plA
  cases hl : look l q with
  | none => rw [hl] at h1; cases h1
  | some y => rw [hl] at h1; exact ⟨by simpa using h1, rfl⟩
/-- The search for the last one: what it has found when the rows up to k have come. -/
def Wt (acc : List En) (i k : Nat) (q : Int) (x : Ad) : Prop := (k = i ∧ ∃ y, acc[i]? = some y ∧ y.bm = x ∧ y.rk = q) ∨ (i < k ∧ lastOf (acc.take k) q = some x)
theorem Wt.hit {acc : List En} {i k : Nat} {q : Int} {x : Ad} {y : En} (h : Wt acc i k q x) (hy : acc[k]? = some y) (he : y.rk = q) : Wt acc i (k + 1) q y.bm := by
  have htk : acc.take (k + 1) = acc.take k ++ [y] := by rw [List.take_add_one, hy]; rfl
  refine .inr ⟨by rcases h with ⟨h, _⟩ | ⟨h, _⟩ <;> omega, ?_⟩
  rw [htk, lastOf_snoc, if_pos he]
theorem Wt.miss {acc : List En} {i k : Nat} {q : Int} {x : Ad} {y : En} (h : Wt acc i k q x) (hy : acc[k]? = some y) (he : y.rk ≠ q) : Wt acc i (k + 1) q x := by
  have htk : acc.take (k + 1) = acc.take k ++ [y] := by rw [List.take_add_one, hy]; rfl
  rcases h with ⟨rfl, z, hz, _, e⟩ | ⟨h, h2⟩
  · rw [hy] at hz
    cases hz
    exact absurd e he
  · refine .inr ⟨by omega, ?_⟩
    rw [htk, lastOf_snoc, if_neg he, h2]
theorem beq_en {x y : En} (hx : x.wf) (hy : y.wf) : (x.k.vid = y.k.vid ∧ x.k.ad = y.k.ad) ↔ x.rk = y.rk := by
  constructor
  · rintro ⟨h1, h2⟩
    have : x.k = y.k := by
      rw [← kyOf_ad x.k, ← kyOf_ad y.k, h1, h2]
    exact congrArg Ky.rk this
  · intro h
    have := Ky.inj hx.k hy.k h
    rw [this]
    exact ⟨rfl, rfl⟩
end Go.Proofs.Ytoelpbajaadfeaa
