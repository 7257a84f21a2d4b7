/-
  A step as a plain function: the first rule that is so, and its deed. And what follows from it here.
-/
import Derived.Test.YtlchejbggnbccaaGreatBbb
import Derived.Test.YtlchejbggnbccaaGreatB13d
import Derived.Test.YtlchejbggnbccaaGreatBba
import Derived.Test.YtlchejbggnbccaaGreatB13a
import Derived.Deep.RegionHeld3
namespace Go.Proofs.YtlchejbggnbccaaGreat
set_option linter.unusedVariables false
set_option linter.unusedSimpArgs false
set_option maxRecDepth 4000
section
namespace S13
open Go.RowKit

def fnOf (F : Nat) (k : Nat) (l : List Pt) : List Pt :=
  if F = 205 then l.set k (begP (gtP l k)) else
  if F = 206 then l.set k (rolP (gtP l k)) else
  if F = 241 then l.set k (disP (gtP l k)) else
  if F = 245 then l.set k (blkP (gtP l k)) else
  if F = 265 then l.set k (agrRP (gtP l k)) else
  if F = 276 then l.set k (agrP (gtP l k)) else
  if F = 267 then l.set k (rrdP (gtP l k)) else
  if F = 268 then l.set k (lrnP (gtP l k)) else
  if F = 269 then l.set k (fwdP (gtP l k)) else
  if F = 270 then l.set k (rcnP (gtP l k)) else
  if F = 272 then l.set k (prsP (gtP l k)) else
  if F = 273 then l.set k (synP (gtP l k)) else
  if F = 274 then l.set k (stpP (gtP l k)) else
  if F = 275 then l.set k (fwdDP (gtP l k)) else
  if F = 278 then l.set k (bkuP (gtP l k)) else
  if F = 293 then (l.set k (prdP (gtP l k))).map syncP else if F = 266 then l.map rerP else l
structure Deed (F : Nat) : Prop where
  does : DeedN F (fnOf F)
  enter : ∀ (x : Value) (V : World), (callFunc F #[x]).run Tryz.prog V = .ok (.enter F #[x]) V
theorem d_begin : Deed 205 := ⟨begP_deed.n, fun x V => by go_simp⟩
theorem d_takeRole : Deed 206 := ⟨rolP_deed.n, fun x V => by go_simp⟩
theorem d_disabled : Deed 241 := ⟨disP_deed.n, fun x V => by go_simp⟩
theorem d_blocked : Deed 245 := ⟨blkP_deed.n, fun x V => by go_simp⟩
theorem d_agreeAsRoot : Deed 265 := ⟨agrRP_deed.n, fun x V => by go_simp⟩
theorem d_agree : Deed 276 := ⟨agrP_deed.n, fun x V => by go_simp⟩
theorem d_reRooted : Deed 267 := ⟨rrdP_deed.n, fun x V => by go_simp⟩
theorem d_learn : Deed 268 := ⟨lrnP_deed.n, fun x V => by go_simp⟩
theorem d_forward : Deed 269 := ⟨fwdP_deed.n, fun x V => by go_simp⟩
theorem d_recent : Deed 270 := ⟨rcnP_deed.n, fun x V => by go_simp⟩
theorem d_propose : Deed 272 := ⟨prsP_deed.n, fun x V => by go_simp⟩
theorem d_synced : Deed 273 := ⟨synP_deed.n, fun x V => by go_simp⟩
theorem d_stop : Deed 274 := ⟨stpP_deed.n, fun x V => by go_simp⟩
theorem d_forwardAsDesignated : Deed 275 := ⟨fwdDP_deed.n, fun x V => by go_simp⟩
theorem d_backup : Deed 278 := ⟨bkuP_deed.n, fun x V => by go_simp⟩
theorem d_bringInStep : Deed 293 := ⟨brg_deed, fun x V => by go_simp⟩
theorem d_askReRoot : Deed 266 := ⟨ask_deed, fun x V => by go_simp⟩
theorem dsg_deeds (p : Pt) : ∀ x ∈ dsgR p, Deed x.2 := by
  intro x hx
  simp only [dsgR, List.cons_append, List.nil_append, List.mem_cons, List.not_mem_nil, or_false] at hx
  rcases hx with rfl | rfl | rfl | rfl | rfl | rfl
  · exact d_propose
  · exact d_synced
  · exact d_reRooted
  · exact d_stop
  · exact d_learn
  · exact d_forwardAsDesignated
theorem root_deeds (l : List Pt) (k : Nat) : ∀ x ∈ rootR l k, Deed x.2 := by
  intro x hx
  simp only [rootR, List.cons_append, List.nil_append, List.mem_cons, List.not_mem_nil, or_false] at hx
  rcases hx with rfl | rfl | rfl | rfl | rfl | rfl | rfl
  · exact d_bringInStep
  · exact d_agreeAsRoot
  · exact d_askReRoot
  · exact d_reRooted
  · exact d_learn
  · exact d_forward
  · exact d_recent
theorem alt_deeds (l : List Pt) (k : Nat) : ∀ x ∈ altR l k, Deed x.2 := by
  intro x hx
  simp only [altR, List.cons_append, List.nil_append, List.mem_cons, List.not_mem_nil, or_false] at hx
  rcases hx with rfl | rfl | rfl | rfl
  · exact d_bringInStep
  · exact d_agree
  · exact d_blocked
  · exact d_backup
theorem st_deeds (l : List Pt) (k : Nat) : ∀ x ∈ stR l k, Deed x.2 := by
  unfold stR
  intro x hx
  split at hx
  · rw [List.mem_singleton] at hx; subst hx; exact d_disabled
  · split at hx
    · rw [List.mem_singleton] at hx; subst hx; exact d_disabled
    · split at hx
      · exact root_deeds l k x hx
      · split at hx
        · exact dsg_deeds _ x hx
        · split at hx
          · rw [List.mem_singleton] at hx; subst hx; exact d_blocked
          · split at hx
            · exact alt_deeds l k x hx
            · cases hx
theorem rul_deeds (l : List Pt) (k : Nat) : ∀ x ∈ rulL l k, Deed x.2 := by
  unfold rulL
  intro x hx
  split at hx
  · cases hx
  · rw [List.mem_append] at hx
    rcases hx with hx | hx
    · simp only [List.mem_cons, List.not_mem_nil, or_false] at hx
      rcases hx with rfl | rfl
      · exact d_begin
      · exact d_takeRole
    · exact st_deeds l k x hx
theorem rul_len (l : List Pt) (k : Nat) : (rulL l k).length ≤ 9 := by
  unfold rulL
  have := stR_len l k
  split
  · simp
  · simp only [List.length_append, List.length_cons, List.length_nil]; omega
def firstF : List (Bool × Nat) → Option Nat
  | [] => none
  | (true, F) :: _ => some F
  | (false, _) :: r => firstF r
theorem first_none : ∀ (rs : List (Bool × Nat)), (∀ (j : Nat) (x : Bool × Nat), rs[j]? = some x → x.1 = false) → firstF rs = none
  | [], _ => rfl
  | (true, F) :: r, h => by have := h 0 (true, F) rfl; cases this
  | (false, F) :: r, h => by
    unfold firstF
    exact first_none r (fun j x hx => h (j + 1) x (by simpa using hx))
theorem first_at : ∀ (rs : List (Bool × Nat)) (i : Nat) (F : Nat), rs[i]? = some (true, F) → (∀ (j : Nat) (x : Bool × Nat), j < i → rs[j]? = some x → x.1 = false) → firstF rs = some F
  | [], i, F, h, _ => by simp at h
  | (true, G) :: r, i, F, h, hb => by
    cases i with
    | zero => simp at h; subst h; rfl
    | succ i => have := hb 0 (true, G) (by omega) rfl; cases this
  | (false, G) :: r, i, F, h, hb => by
    cases i with
    | zero => simp at h
    | succ i =>
      unfold firstF
      exact first_at r i F (by simpa using h) (fun j x hj hx => hb (j + 1) x (by omega) (by simpa using hx))
def stepO (l : List Pt) (k : Nat) : Option (List Pt) := (firstF (rulL l k)).map fun F => fnOf F k l
def stepL (l : List Pt) (i : Int) : List Pt := if 0 ≤ i ∧ i < l.length then (stepO l i.toNat).getD l else l
def stepB (l : List Pt) (i : Int) : Bool := if 0 ≤ i ∧ i < l.length then (stepO l i.toNat).isSome else false
theorem fn_len (F k : Nat) (l : List Pt) : (fnOf F k l).length = l.length := by
  unfold fnOf
  by_cases h0 : F = 205
  · rw [if_pos h0]; simp only [List.length_set, List.length_map]
  rw [if_neg h0]
  by_cases h1 : F = 206
  · rw [if_pos h1]; simp only [List.length_set, List.length_map]
  rw [if_neg h1]
  by_cases h2 : F = 241
  · rw [if_pos h2]; simp only [List.length_set, List.length_map]
  rw [if_neg h2]
  by_cases h3 : F = 245
  · rw [if_pos h3]; simp only [List.length_set, List.length_map]
  rw [if_neg h3]
  by_cases h4 : F = 265
  · rw [if_pos h4]; simp only [List.length_set, List.length_map]
  rw [if_neg h4]
  by_cases h5 : F = 276
  · rw [if_pos h5]; simp only [List.length_set, List.length_map]
  rw [if_neg h5]
  by_cases h6 : F = 267
  · rw [if_pos h6]; simp only [List.length_set, List.length_map]
  rw [if_neg h6]
  by_cases h7 : F = 268
  · rw [if_pos h7]; simp only [List.length_set, List.length_map]
  rw [if_neg h7]
  by_cases h8 : F = 269
  · rw [if_pos h8]; simp only [List.length_set, List.length_map]
  rw [if_neg h8]
  by_cases h9 : F = 270
  · rw [if_pos h9]; simp only [List.length_set, List.length_map]
  rw [if_neg h9]
  by_cases h10 : F = 272
  · rw [if_pos h10]; simp only [List.length_set, List.length_map]
  rw [if_neg h10]
  by_cases h11 : F = 273
  · rw [if_pos h11]; simp only [List.length_set, List.length_map]
  rw [if_neg h11]
  by_cases h12 : F = 274
  · rw [if_pos h12]; simp only [List.length_set, List.length_map]
  rw [if_neg h12]
  by_cases h13 : F = 275
  · rw [if_pos h13]; simp only [List.length_set, List.length_map]
  rw [if_neg h13]
  by_cases h14 : F = 278
  · rw [if_pos h14]; simp only [List.length_set, List.length_map]
  rw [if_neg h14]
  by_cases h15 : F = 293
  · rw [if_pos h15]; simp only [List.length_set, List.length_map]
  rw [if_neg h15]
  by_cases h16 : F = 266
  · rw [if_pos h16]; simp only [List.length_set, List.length_map]
  rw [if_neg h16]
theorem step_in {l : List Pt} {k : Nat} (h : k < l.length) : stepL l (k : Int) = (stepO l k).getD l ∧ stepB l (k : Int) = (stepO l k).isSome := by
  unfold stepL stepB
  rw [if_pos ⟨by omega, by omega⟩, if_pos ⟨by omega, by omega⟩]
  exact ⟨rfl, rfl⟩
theorem step_out {l : List Pt} {i : Int} (h : ¬ (0 ≤ i ∧ i < l.length)) : stepL l i = l ∧ stepB l i = false := by
  unfold stepL stepB
  rw [if_neg h, if_neg h]
  exact ⟨rfl, rfl⟩
end S13
end
section
namespace S13
open Go.RowKit

theorem bd50c (c0 c1 c2 c3 c4 c5 c6 c7 c8 c9 c10 c11 c12 c13 c14 c15 v : Value) (k : Int) (w : World) : (Instr.build 182 #[(0, .agg #[c0, c1, c2, c3, c4, c5, c6, c7, c8, c9, c10, c11, c12, c13, c14, c15, v]), (1, .int .i64 k)]).run Tryz.prog w = .ok (.agg #[c0, c1, c2, c3, c4, c5, c6, c7, c8, c9, c10, c11, c12, c13, c14, c15, v, .int .i64 k]) w := by kernel_rfl
theorem bd50 (h : Hd) (v : Value) (k : Int) (w : World) : (Instr.build 182 #[(0, .agg (trc h v)), (1, .int .i64 k)]).run Tryz.prog w = .ok (.agg (chc h v k)) w := by
  have hl := h.len
  rw [lenH] at hl
  unfold trc chc
  match h.cl, hl with
  | [c0, c1, c2, c3, c4, c5, c6, c7, c8, c9, c10, c11, c12, c13, c14, c15], _ => exact bd50c c0 c1 c2 c3 c4 c5 c6 c7 c8 c9 c10 c11 c12 c13 c14 c15 v k w
def bdS (x : Array (Nat × Value)) : Sem Value := Instr.build 182 x
theorem bdE (x : Array (Nat × Value)) : Instr.build 182 x = bdS x := rfl
theorem bdS_is (h : Hd) (v : Value) (k : Int) (w : World) : (bdS #[(0, .agg (trc h v)), (1, .int .i64 k)]).run Tryz.prog w = .ok (.agg (chc h v k)) w := bd50 h v k w
structure SS (W0 W : World) (t d b : Nat) (h : Hd) (g o n c k : Nat) (l : List Pt) (ra : Option Addr) (m rc : Nat) (rs : List (Bool × Nat)) : Prop where
  tre : RvAt W t 39 (trc h (.slice (some ⟨g, o, none⟩) n c))
  cs : CS W b h g o n c k l
  rul : RsAt W ra m rc b rs
  bel : Below W0.heap.size W0 W
theorem SS.below {W0 W V : World} {t d b g o n c k m rc : Nat} {h : Hd} {l : List Pt} {ra : Option Addr} {rs : List (Bool × Nat)} (s : SS W0 W t d b h g o n c k l ra m rc rs) (e : Below W.heap.size W V) : SS W0 V t d b h g o n c k l ra m rc rs := ⟨s.tre.below e, s.cs.below e, s.rul.below e, below_over s.bel e⟩
attribute [local go_sem ↓] ldT stT bdE ldRu stRu
set_option maxHeartbeats 8000000 in
theorem pstep_any (h : Hd) (a : Option Addr) (n c : Nat) (l : List Pt) (i : Int) (w : World) (hs : SlAt w a n c l) (hn : n ≤ 1000) :
    Calls Tryz.prog 132 #[.agg (trc h (.slice a n c)), .int .i64 i] w fun r w' => ∃ a' c', r = .returned (.tuple #[.agg (trc h (.slice a' n c')), .bool (stepB l i)]) ∧ SlAt w' a' n c' (stepL l i) ∧ Below w.heap.size w w' ∧ Fro w a a' := by
  obtain ⟨W, hW, r0, r1, bW, zW⟩ := two_t w h (.slice a n c)
  have l0 := r0.tld
  have c16 := r0.t16
  have H : Hid (SlAt W a n c l ∧ l.length = n ∧ RvAt W w.heap.size 39 (trc h (.slice a n c)) ∧ RvAt W (w.heap.size + 1) 39 (trc zeroH (.slice none 0 0)) ∧ Below w.heap.size w W ∧ W.heap.size = w.heap.size + 2) := ⟨hs.below bW, hs.len, r0, r1, bW, zW⟩
  clear hs r0 r1 bW
  by_cases hi : 0 ≤ i ∧ i < (n : Int)
  rotate_left
  · obtain ⟨e1, e2⟩ := step_out (l := l) (i := i) (by rw [H.out.2.1]; exact hi)
    rw [e1, e2]
    obtain ⟨U, sU, rU, gU⟩ := H.out.2.2.2.1.tst (g := h) (y := .slice a n c) rfl
    have G : Hid (RvAt U (w.heap.size + 1) 39 (trc h (.slice a n c)) ∧ SlAt U a n c l ∧ Below w.heap.size w U) := ⟨rU, H.out.1.keptT H.out.2.2.2.1 gU, gro H.out.2.2.2.2.1 gU (by omega) H.out.2.2.2.2.1.size⟩
    clear rU gU e1 e2 zW
    go_enter Tryz.func132, Tryz.ntmps132
    go_wp2_with fail
    go_step3
    by_cases h0 : i < 0
    · go_wp2
      try rw [Exit.noGoto_ret]
      refine bodyPost_ret (results_rowtmp rtT Tryz.results132 _ _ _ _ rfl G.out.1 (trc_size _ _)) rfl ?_
      exact ⟨a, c, rfl, G.out.2.1, G.out.2.2, Or.inl rfl⟩
    · have h1 : (n : Int) ≤ i := by omega
      go_wp2
      try rw [Exit.noGoto_ret]
      refine bodyPost_ret (results_rowtmp rtT Tryz.results132 _ _ _ _ rfl G.out.1 (trc_size _ _)) rfl ?_
      exact ⟨a, c, rfl, G.out.2.1, G.out.2.2, Or.inl rfl⟩
  obtain ⟨k, hk⟩ : ∃ k : Nat, i = (k : Int) := ⟨i.toNat, by omega⟩
  subst hk
  have hkn : k < n := by omega
  have hkl : k < l.length := by rw [H.out.2.1]; exact hkn
  have hin0 : ¬ (k : Int) < 0 := by omega
  have hin1 : ¬ (n : Int) ≤ (k : Int) := by omega
  obtain ⟨g, o, rfl⟩ := H.out.1.some' (by omega)
  obtain ⟨e1, e2⟩ := step_in hkl
  rw [e1, e2]
  obtain ⟨OO, hOO⟩ : ∃ z, stepO l k = z := ⟨_, rfl⟩
  rw [hOO]
  have EO : Hid (firstF (rulL l k) = none → OO = none) := fun e => by rw [← hOO]; unfold stepO; rw [e]; rfl
  have EF : Hid (∀ F, firstF (rulL l k) = some F → OO = some (fnOf F k l)) := fun F e => by rw [← hOO]; unfold stepO; rw [e]; rfl
  clear hOO e1 e2
  have DD : Hid (∀ x ∈ rulL l k, Deed x.2) := rul_deeds l k
  have LL : Hid ((rulL l k).length ≤ 9) := rul_len l k
  -- the port that is to be changed
  obtain ⟨W1, hW1⟩ : ∃ W1, W.alloc (.cells (chc h (.slice (some ⟨g, o, none⟩) n c) (k : Int)) 182) = W1 := ⟨_, rfl⟩
  have b1 : Below W.heap.size W W1 := by rw [← hW1]; exact (Below.refl _ _).alloc (Nat.le_refl _) _
  have r1 : RvAt W1 W.heap.size 182 (chc h (.slice (some ⟨g, o, none⟩) n c) (k : Int)) := by rw [← hW1]; exact RvAt.new W _ _
  have CS1 : Hid (CS W1 W.heap.size h g o n c k l) := ⟨r1, H.out.1.below b1, hkn, hn⟩
  have B1 : Hid (Below W.heap.size W W1) := b1
  have bd := bdS_is h (.slice (some ⟨g, o, none⟩) n c) (k : Int)
  clear b1 r1 hi
  obtain ⟨b, hb⟩ : ∃ b, W.heap.size = b := ⟨_, rfl⟩
  have HB : Hid (W.heap.size = b) := hb
  rw [hb] at CS1
  clear zW
  go_enter Tryz.func132, Tryz.ntmps132
  go_wp2_with fail
  go_step3
  go_wp2_with fail
  go_step3
  go_wp2_with fail
  refine (rules_any CS1.out).mono ?_
  rintro _ W2 ⟨v, rfl, o2, b2⟩
  obtain ⟨ra, rc, rfl, hr, _⟩ := o2.form
  obtain ⟨RL, hRL⟩ : ∃ z, rulL l k = z := ⟨_, rfl⟩
  rw [hRL] at hr DD LL EO EF ⊢
  clear hRL
  obtain ⟨m, hm⟩ : ∃ m, RL.length = m := ⟨_, rfl⟩
  rw [hm] at hr LL ⊢
  have HM : Hid (RL.length = m) := hm
  have hm9 := LL.out
  have S2 : Hid (SS W W2 w.heap.size (w.heap.size + 1) b h g o n c k l ra m rc RL) := ⟨(H.out.2.2.1.below B1.out).below b2, CS1.out.below b2, hr, below_over B1.out b2⟩
  clear o2 b2 hr hm CS1 B1 l0 c16 bd hW1 hb
  go_wp2_with fail
  go_loopw [7, 27] (fun v7 v27 wr => ∃ j : Nat, j ≤ m ∧ v27 = .int .i64 j ∧ v7 = .bool false ∧ (∀ (t : Nat) (x : Bool × Nat), t < j → RL[t]? = some x → x.1 = false) ∧ SS W wr w.heap.size (w.heap.size + 1) b h g o n c k l ra m rc RL) (fun _ v27 _ => m - (intOf v27).toNat)
  case atStart => exact ⟨0, by omega, rfl, rfl, fun t x ht => by omega, S2.out⟩
  case round =>
    obtain ⟨j, hj, rfl, rfl, hlow, hS⟩ := hrel
    have JL : Hid (∀ (t : Nat) (x : Bool × Nat), t < j → RL[t]? = some x → x.1 = false) := hlow
    have hj0 : (0 : Int) ≤ (j : Int) := by omega
    by_cases hjm : j < m
    · have hj1 : (j : Int) < (m : Int) := by omega
      have hjl : j < RL.length := by rw [HM.out]; exact hjm
      obtain ⟨gr, hgr⟩ : ∃ gr, ra = some ⟨gr, 0, none⟩ := by
        cases ra with
        | none => have := (hS.rul.nil rfl).1; omega
        | some x => obtain ⟨gr, rfl⟩ := hS.rul.form x rfl; exact ⟨gr, rfl⟩
      obtain ⟨xj, hxj⟩ : ∃ x, RL[j]? = some x := ⟨_, List.getElem?_eq_getElem hjl⟩
      have lr : (ldS 186 (.pointer (some ⟨gr, j * 2, none⟩))).run Tryz.prog wr = .ok (.agg (rcC b xj)) wr := by
        have := hS.rul
        rw [hgr] at this
        exact this.ld hxj
      obtain ⟨V, sV, rV, bV, zV⟩ := row_new rtRu wr #[.bool false, .nilFunc] (rcC b xj) rfl rfl (rcC_one b xj)
      have c0 := rV.cell 0 (.bool xj.1) rfl
      have c1 : V.cell? ⟨wr.heap.size, 1, none⟩ = some (.func (.func xj.2) #[.pointer (some ⟨b, 0, none⟩)] #[]) := rV.cell 1 (dv b xj.2) rfl
      have J : Hid (SS W V w.heap.size (w.heap.size + 1) b h g o n c k l ra m rc RL) := hS.below bV
      have XJ : Hid (RL[j]? = some xj) := hxj
      have R9 : Hid (RvAt V wr.heap.size 186 (rcC b xj) ∧ wr.heap.size < V.heap.size ∧ W.heap.size ≤ wr.heap.size) := ⟨rV, rV.lt, hS.bel.size⟩
      clear hS rV bV zV hlow hxj hjl
      subst hgr
      obtain ⟨so, F⟩ := xj
      simp only at c0 c1
      cases so
      · have NX : Hid (∀ (t : Nat) (x : Bool × Nat), t < j + 1 → RL[t]? = some x → x.1 = false) := fun t x ht hx => by
          by_cases e : t = j
          · subst e; have := XJ.out; rw [this] at hx; cases hx; rfl
          · exact JL.out t x (by omega) hx
        go_wp2
        go_roundw
        case rel => exact ⟨j + 1, by omega, by go_num, rfl, NX.out, J.out⟩
        case measure => simp [intOf]; omega
      · have OF : OO = some (fnOf F k l) := EF.out F (first_at RL j F XJ.out JL.out)
        have D : Hid (DeedN F (fnOf F)) := (DD.out (true, F) (List.mem_of_getElem? XJ.out)).does
        have en := (DD.out (true, F) (List.mem_of_getElem? XJ.out)).enter
        have lt := J.out.tre.tld
        obtain ⟨wz, hwz⟩ : ∃ z, wr.heap.size = z := ⟨_, rfl⟩
        rw [hwz] at sV c0 c1 R9
        go_wp2_with fail
        refine (copy_any h (some ⟨g, o, none⟩) n c l V J.out.cs.sl hn).mono ?_
        rintro _ X ⟨v, rfl, ox, bx⟩
        have hlen : l.length = n := H.out.2.1
        have JX := J.out.below bx
        obtain ⟨Y, sY, rY, gY⟩ := JX.cs.var.hst (g := h) (y := v) ox.one
        have hbW := HB.out
        have DP0 : Hid (∃ g' c', DP W Y b h g' c' n k (k * 77) l (gtP l k)) := by
          rcases ox.pat with ⟨_, rfl⟩ | ⟨g', c', rfl, hg', hp⟩
          · simp at hlen; omega
          · have hbl := J.out.cs.var.lt
            rw [hlen] at rY
            exact ⟨g', c', rY, by rw [set_gtP hkl]; exact hp.keptBut gY (by simp; omega), hlen, gro JX.bel gY (by omega) JX.bel.size, by omega, Nat.le_trans J.out.bel.size hg', by omega, hkn, hn, rfl⟩
        have c1Y : Y.cell? ⟨wz, 1, none⟩ = some (.func (.func F) #[.pointer (some ⟨b, 0, none⟩)] #[]) := ((R9.out.1.below bx).keptBut gY (by have := JX.cs.var.apart (R9.out.1.below bx) (by decide); simpa using this.symm)).cell 1 _ rfl
        obtain ⟨g', c', DPY⟩ := DP0.out
        have DY : Hid (DP W Y b h g' c' n k (k * 77) l (gtP l k)) := DPY
        clear ox bx rY gY DPY DP0 JX lt c0 c1 lr
        go_wp2_with fail
        refine (D.out W Y b h g' c' n k (k * 77) l (gtP l k) DY.out).mono ?_
        rintro _ Z ⟨rfl, g2, c2, DZ⟩
        rw [set_gtP hkl] at DZ
        have lz := DZ.var.htree
        have sl2 := DZ.cs.sl
        rw [set_gtP (by rw [fn_len]; exact hkl)] at sl2
        have rd := H.out.2.2.2.1.below DZ.bel
        obtain ⟨U, sU, rU, gU⟩ := rd.tst (g := h) (y := .slice (some ⟨g2, 0, none⟩) n c2) rfl
        have G : Hid (RvAt U (w.heap.size + 1) 39 (trc h (.slice (some ⟨g2, 0, none⟩) n c2)) ∧ SlAt U (some ⟨g2, 0, none⟩) n c2 (OO.getD l) ∧ Below w.heap.size w U ∧ OO.isSome = true) := by
          rw [OF]
          exact ⟨rU, sl2.keptT rd gU, gro (below_over H.out.2.2.2.2.1 DZ.bel) gU (by omega) (below_over H.out.2.2.2.2.1 DZ.bel).size, rfl⟩
        have FR : Hid (w.heap.size ≤ g2) := Nat.le_trans H.out.2.2.2.2.1.size DZ.hg
        clear DZ sl2 rd rU gU DY OF sY sV en c1Y
        go_wp2
        try rw [Exit.noGoto_ret]
        refine bodyPost_ret (results_rowtmp rtT Tryz.results132 _ _ _ _ rfl G.out.1 (trc_size _ _)) rfl ?_
        exact ⟨some ⟨g2, 0, none⟩, c2, by rw [G.out.2.2.2]; rfl, G.out.2.1, G.out.2.2.1, Or.inr (Nw.of FR.out)⟩
    · have hjm' : j = m := by omega
      subst hjm'
      have hj1 : ¬ (j : Int) < (j : Int) := by omega
      have ON : OO = none := EO.out (first_none RL (fun t x hx => JL.out t x (by rw [← HM.out]; exact (List.getElem?_eq_some_iff.1 hx).1) hx))
      have lz := hS.cs.var.htree
      have rd := H.out.2.2.2.1.below hS.bel
      obtain ⟨U, sU, rU, gU⟩ := rd.tst (g := h) (y := .slice (some ⟨g, o, none⟩) n c) rfl
      have G : Hid (RvAt U (w.heap.size + 1) 39 (trc h (.slice (some ⟨g, o, none⟩) n c)) ∧ SlAt U (some ⟨g, o, none⟩) n c (OO.getD l) ∧ Below w.heap.size w U ∧ OO.isSome = false) := by
        rw [ON]
        exact ⟨rU, hS.cs.sl.keptT rd gU, gro (below_over H.out.2.2.2.2.1 hS.bel) gU (by omega) (below_over H.out.2.2.2.2.1 hS.bel).size, rfl⟩
      clear hS rd rU gU ON hlow
      go_wp2
      try rw [Exit.noGoto_ret]
      refine bodyPost_ret (results_rowtmp rtT Tryz.results132 _ _ _ _ rfl G.out.1 (trc_size _ _)) rfl ?_
      exact ⟨some ⟨g, o, none⟩, c, by rw [G.out.2.2.2]; rfl, G.out.2.1, G.out.2.2.1, Or.inl rfl⟩
end S13
end
end Go.Proofs.YtlchejbggnbccaaGreat
