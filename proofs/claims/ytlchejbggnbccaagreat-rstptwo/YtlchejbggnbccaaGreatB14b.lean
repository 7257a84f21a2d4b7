/-
  Trees one of whose ports is changed: the walks of there, NewWhile, Prop and of the six deeds, each for every tree. And what follows from it here.
-/
import Derived.Test.YtlchejbggnbccaaGreatBbb
import Derived.Test.YtlchejbggnbccaaGreatB14a
namespace Go.Proofs.YtlchejbggnbccaaGreat
set_option linter.unusedVariables false
set_option linter.unusedSimpArgs false
set_option maxRecDepth 4000
section
namespace S14
open Go.RowKit

attribute [local go_sem ↓] ldP stP stB ldT stT st32
theorem there_any (h : Hd) (a : Option Addr) (n c : Nat) (i : Int) (w : World) :
    Calls Tryz.prog 168 #[.agg (trc h (.slice a n c)), .int .i64 i] w fun r w' => r = .returned (.bool (decide (0 ≤ i) && decide (i < n))) ∧ Below w.heap.size w w' := by
  obtain ⟨W, hW, r0, bW, zW⟩ := one_t w h (.slice a n c)
  have c16 := r0.t16
  have F : Hid (Below w.heap.size w W) := bW
  clear r0 bW zW
  go_enter Tryz.func168, Tryz.ntmps168
  by_cases h1 : 0 ≤ i
  · by_cases h2 : i < (n : Int)
    · go_wp2
      go_ret
      exact ⟨by simp [h1, h2], F.out⟩
    · go_wp2
      go_ret
      exact ⟨by simp [h1, h2], F.out⟩
  · go_wp2
    go_ret
    exact ⟨by simp; omega, F.out⟩
theorem there_in {h : Hd} {a : Option Addr} {n c k : Nat} {w : World} (hk : k < n) :
    Calls Tryz.prog 168 #[.agg (trc h (.slice a n c)), .int .i64 (k : Int)] w fun r w' => r = .returned (.bool true) ∧ Below w.heap.size w w' :=
  (there_any h a n c k w).mono fun r w' ⟨hr, hb⟩ => ⟨by rw [hr]; simp; omega, hb⟩
theorem ent_quiet (x : Value) (V : World) : (callFunc 216 #[x]).run Tryz.prog V = .ok (.enter 216 #[x]) V := by go_simp
theorem ent_learns (x : Value) (V : World) : (callFunc 247 #[x]).run Tryz.prog V = .ok (.enter 247 #[x]) V := by go_simp
theorem ent_detected (x : Value) (V : World) : (callFunc 250 #[x]).run Tryz.prog V = .ok (.enter 250 #[x]) V := by go_simp
theorem ent_notified (x : Value) (V : World) : (callFunc 251 #[x]).run Tryz.prog V = .ok (.enter 251 #[x]) V := by go_simp
theorem ent_propagating (x : Value) (V : World) : (callFunc 252 #[x]).run Tryz.prog V = .ok (.enter 252 #[x]) V := by go_simp
theorem ent_acknowledged (x : Value) (V : World) : (callFunc 253 #[x]).run Tryz.prog V = .ok (.enter 253 #[x]) V := by go_simp
theorem ent_new (x y : Value) (V : World) : (callFunc 279 #[x, y]).run Tryz.prog V = .ok (.enter 279 #[x, y]) V := by go_simp
set_option maxHeartbeats 2000000 in
theorem new_in (h : Hd) (a : Option Addr) (n c : Nat) (l : List Pt) (k : Nat) (w : World) (hs : SlAt w a n c l) (hn : n ≤ 1000) (hk : k < n) :
    Calls Tryz.prog 249 #[.agg (trc h (.slice a n c)), .int .i64 (k : Int)] w fun r w' => TRes w h n (l.set k (nwP h (gtP l k))) r w' := by
  obtain ⟨W, hW, r0, r1, bW, zW⟩ := two_t w h (.slice a n c)
  have l0 := r0.tld
  have H : Hid (TS w W w.heap.size (w.heap.size + 1) h (.slice a n c) ∧ SlAt W a n c l ∧ n ≤ 1000 ∧ k < n ∧ l.length = n) := ⟨⟨r0, r1, bW, by omega⟩, hs.below bW, hn, hk, hs.len⟩
  clear hs hn hk r0 r1 bW zW
  have T : Hid _ := there_in (h := h) (a := a) (c := c) (w := W) H.out.2.2.2.1
  go_enter Tryz.func249, Tryz.ntmps249
  go_wp2_with fail
  refine Calls.mono T.out ?_
  rintro _ V ⟨rfl, bV⟩
  have lV := (H.out.1.below bV).var.tld
  have K : Hid (TS w V w.heap.size (w.heap.size + 1) h (.slice a n c)) := H.out.1.below bV
  have C : Hid _ := changed_new w.heap.size ent_new h a n c l k V (H.out.2.1.below bV) H.out.2.2.1 H.out.2.2.2.1 _ K.out.var
  clear bV T l0
  go_wp2_with fail
  refine Calls.mono C.out ?_
  rintro _ X ⟨a2, c2, rfl, s2, b2, f2⟩
  have FR2 : Hid (Nw w a2) := f2.up K.out.bel.size
  clear f2
  obtain ⟨U, sU, h1, h2, gU⟩ := (K.out.below b2).tell (y := .slice a2 n c2) rfl
  have G : Hid (RvAt U (w.heap.size + 1) 39 (trc h (.slice a2 n c2)) ∧ SlAt U a2 n c2 (l.set k (nwP h (gtP l k))) ∧ Below w.heap.size w U) := ⟨h1, s2.keptT (K.out.below b2).out gU, h2⟩
  clear h1 h2 gU s2 b2 lV K C
  go_wp2
  refine bodyPost_ret (results_row rtT Tryz.results249 _ _ _ _ rfl G.out.1 (trc_size _ _)) rfl ?_
  exact ⟨a2, c2, rfl, G.out.2.1, G.out.2.2, FR2.out⟩
set_option maxHeartbeats 2000000 in
theorem quiet_in (h : Hd) (a : Option Addr) (n c : Nat) (l : List Pt) (k : Nat) (w : World) (hs : SlAt w a n c l) (hn : n ≤ 1000) (hk : k < n) :
    Calls Tryz.prog 172 #[.agg (trc h (.slice a n c)), .int .i64 (k : Int)] w fun r w' => TRes w h n (l.set k (quiP (gtP l k))) r w' := by
  obtain ⟨W, hW, r0, r1, bW, zW⟩ := two_t w h (.slice a n c)
  have l0 := r0.tld
  have H : Hid (TS w W w.heap.size (w.heap.size + 1) h (.slice a n c) ∧ SlAt W a n c l ∧ n ≤ 1000 ∧ k < n ∧ l.length = n) := ⟨⟨r0, r1, bW, by omega⟩, hs.below bW, hn, hk, hs.len⟩
  clear hs hn hk r0 r1 bW zW
  go_enter Tryz.func172, Tryz.ntmps172
  go_wp2_with fail
  refine (changed_any _ _ chg_quiet ent_quiet h a n c (l) k W H.out.2.1 H.out.2.2.1 H.out.2.2.2.1).mono ?_
  rintro _ X0 ⟨a0, c0, rfl, s0, b0, f0⟩
  have FR0 : Hid (Nw w a0) := f0.up H.out.1.bel.size
  clear f0
  have T0 : Hid (TS w X0 w.heap.size (w.heap.size + 1) h (.slice a n c) ∧ SlAt X0 a0 n c0 (l.set k (quiP (gtP l k)))) := ⟨(H.out.1).below b0, s0⟩
  clear s0 b0
  obtain ⟨U, sU, h1, h2, gU⟩ := (T0.out.1).tell (y := .slice a0 n c0) rfl
  have G : Hid (RvAt U (w.heap.size + 1) 39 (trc h (.slice a0 n c0)) ∧ SlAt U a0 n c0 (l.set k (quiP (gtP l k))) ∧ Below w.heap.size w U) := ⟨h1, T0.out.2.keptT (T0.out.1).out gU, h2⟩
  clear h1 h2 gU
  go_wp2
  refine bodyPost_ret (results_row rtT Tryz.results172 _ _ _ _ rfl G.out.1 (trc_size _ _)) rfl ?_
  exact ⟨a0, c0, rfl, G.out.2.1, G.out.2.2, FR0.out⟩
set_option maxHeartbeats 2000000 in
theorem learns_in (h : Hd) (a : Option Addr) (n c : Nat) (l : List Pt) (k : Nat) (w : World) (hs : SlAt w a n c l) (hn : n ≤ 1000) (hk : k < n) :
    Calls Tryz.prog 208 #[.agg (trc h (.slice a n c)), .int .i64 (k : Int)] w fun r w' => TRes w h n (l.set k (lrnP (gtP l k))) r w' := by
  obtain ⟨W, hW, r0, r1, bW, zW⟩ := two_t w h (.slice a n c)
  have l0 := r0.tld
  have H : Hid (TS w W w.heap.size (w.heap.size + 1) h (.slice a n c) ∧ SlAt W a n c l ∧ n ≤ 1000 ∧ k < n ∧ l.length = n) := ⟨⟨r0, r1, bW, by omega⟩, hs.below bW, hn, hk, hs.len⟩
  clear hs hn hk r0 r1 bW zW
  go_enter Tryz.func208, Tryz.ntmps208
  go_wp2_with fail
  refine (changed_any _ _ chg_learns ent_learns h a n c (l) k W H.out.2.1 H.out.2.2.1 H.out.2.2.2.1).mono ?_
  rintro _ X0 ⟨a0, c0, rfl, s0, b0, f0⟩
  have FR0 : Hid (Nw w a0) := f0.up H.out.1.bel.size
  clear f0
  have T0 : Hid (TS w X0 w.heap.size (w.heap.size + 1) h (.slice a n c) ∧ SlAt X0 a0 n c0 (l.set k (lrnP (gtP l k)))) := ⟨(H.out.1).below b0, s0⟩
  clear s0 b0
  obtain ⟨U, sU, h1, h2, gU⟩ := (T0.out.1).tell (y := .slice a0 n c0) rfl
  have G : Hid (RvAt U (w.heap.size + 1) 39 (trc h (.slice a0 n c0)) ∧ SlAt U a0 n c0 (l.set k (lrnP (gtP l k))) ∧ Below w.heap.size w U) := ⟨h1, T0.out.2.keptT (T0.out.1).out gU, h2⟩
  clear h1 h2 gU
  go_wp2
  refine bodyPost_ret (results_row rtT Tryz.results208 _ _ _ _ rfl G.out.1 (trc_size _ _)) rfl ?_
  exact ⟨a0, c0, rfl, G.out.2.1, G.out.2.2, FR0.out⟩
set_option maxHeartbeats 2000000 in
theorem acknowledged_in (h : Hd) (a : Option Addr) (n c : Nat) (l : List Pt) (k : Nat) (w : World) (hs : SlAt w a n c l) (hn : n ≤ 1000) (hk : k < n) :
    Calls Tryz.prog 214 #[.agg (trc h (.slice a n c)), .int .i64 (k : Int)] w fun r w' => TRes w h n (l.set k (ackP (gtP l k))) r w' := by
  obtain ⟨W, hW, r0, r1, bW, zW⟩ := two_t w h (.slice a n c)
  have l0 := r0.tld
  have H : Hid (TS w W w.heap.size (w.heap.size + 1) h (.slice a n c) ∧ SlAt W a n c l ∧ n ≤ 1000 ∧ k < n ∧ l.length = n) := ⟨⟨r0, r1, bW, by omega⟩, hs.below bW, hn, hk, hs.len⟩
  clear hs hn hk r0 r1 bW zW
  go_enter Tryz.func214, Tryz.ntmps214
  go_wp2_with fail
  refine (changed_any _ _ chg_acknowledged ent_acknowledged h a n c (l) k W H.out.2.1 H.out.2.2.1 H.out.2.2.2.1).mono ?_
  rintro _ X0 ⟨a0, c0, rfl, s0, b0, f0⟩
  have FR0 : Hid (Nw w a0) := f0.up H.out.1.bel.size
  clear f0
  have T0 : Hid (TS w X0 w.heap.size (w.heap.size + 1) h (.slice a n c) ∧ SlAt X0 a0 n c0 (l.set k (ackP (gtP l k)))) := ⟨(H.out.1).below b0, s0⟩
  clear s0 b0
  obtain ⟨U, sU, h1, h2, gU⟩ := (T0.out.1).tell (y := .slice a0 n c0) rfl
  have G : Hid (RvAt U (w.heap.size + 1) 39 (trc h (.slice a0 n c0)) ∧ SlAt U a0 n c0 (l.set k (ackP (gtP l k))) ∧ Below w.heap.size w U) := ⟨h1, T0.out.2.keptT (T0.out.1).out gU, h2⟩
  clear h1 h2 gU
  go_wp2
  refine bodyPost_ret (results_row rtT Tryz.results214 _ _ _ _ rfl G.out.1 (trc_size _ _)) rfl ?_
  exact ⟨a0, c0, rfl, G.out.2.1, G.out.2.2, FR0.out⟩
theorem set_two (l : List Pt) (k : Nat) (q : Pt) (f : Pt → Pt) (hk : k < l.length) : (l.set k q).set k (f (gtP (l.set k q) k)) = l.set k (f q) := by
  rw [List.set_set, gtP_put hk]
theorem spr_two (l : List Pt) (k : Nat) (q : Pt) (f : Pt → Pt) (hk : k < l.length) : (prpL (l.set k q) k).set k (f (gtP (prpL (l.set k q) k) k)) = sprL l k (f q) := by
  rw [prp_set, spr_set, spr_at q hk, if_pos rfl]
set_option maxHeartbeats 2000000 in
theorem propagating_in (h : Hd) (a : Option Addr) (n c : Nat) (l : List Pt) (k : Nat) (w : World) (hs : SlAt w a n c l) (hn : n ≤ 1000) (hk : k < n) :
    Calls Tryz.prog 213 #[.agg (trc h (.slice a n c)), .int .i64 (k : Int)] w fun r w' => TRes w h n (l.set k (prgP h (gtP l k))) r w' := by
  obtain ⟨W, hW, r0, r1, bW, zW⟩ := two_t w h (.slice a n c)
  have l0 := r0.tld
  have H : Hid (TS w W w.heap.size (w.heap.size + 1) h (.slice a n c) ∧ SlAt W a n c l ∧ n ≤ 1000 ∧ k < n ∧ l.length = n) := ⟨⟨r0, r1, bW, by omega⟩, hs.below bW, hn, hk, hs.len⟩
  clear hs hn hk r0 r1 bW zW
  go_enter Tryz.func213, Tryz.ntmps213
  go_wp2_with fail
  refine (new_in h a n c (l) k W H.out.2.1 H.out.2.2.1 H.out.2.2.2.1).mono ?_
  rintro _ X0 ⟨a0, c0, rfl, s0, b0, f0⟩
  have FR0 : Hid (Nw w a0) := f0.up H.out.1.bel.size
  clear f0
  have T0 : Hid (TS w X0 w.heap.size (w.heap.size + 1) h (.slice a n c) ∧ SlAt X0 a0 n c0 (l.set k (nwP h (gtP l k)))) := ⟨(H.out.1).below b0, s0⟩
  clear s0 b0
  go_wp2_with fail
  refine (changed_any _ _ chg_propagating ent_propagating h a0 n c0 (l.set k (nwP h (gtP l k))) k X0 T0.out.2 H.out.2.2.1 H.out.2.2.2.1).mono ?_
  rintro _ X1 ⟨a1, c1, rfl, s1, b1, f1⟩
  have FR1 : Hid (Nw w a1) := f1.up T0.out.1.bel.size
  clear f1
  have T1 : Hid (TS w X1 w.heap.size (w.heap.size + 1) h (.slice a n c) ∧ SlAt X1 a1 n c1 ((l.set k (nwP h (gtP l k))).set k (flsP (gtP (l.set k (nwP h (gtP l k))) k)))) := ⟨(T0.out.1).below b1, s1⟩
  clear s1 b1
  obtain ⟨U, sU, h1, h2, gU⟩ := (T1.out.1).tell (y := .slice a1 n c1) rfl
  have G : Hid (RvAt U (w.heap.size + 1) 39 (trc h (.slice a1 n c1)) ∧ SlAt U a1 n c1 (l.set k (prgP h (gtP l k))) ∧ Below w.heap.size w U) := by
    rw [← (show _ = l.set k (prgP h (gtP l k)) from set_two l k (nwP h (gtP l k)) flsP (by rw [H.out.2.2.2.2]; exact H.out.2.2.2.1))]
    exact ⟨h1, T1.out.2.keptT (T1.out.1).out gU, h2⟩
  clear h1 h2 gU
  go_wp2
  refine bodyPost_ret (results_row rtT Tryz.results213 _ _ _ _ rfl G.out.1 (trc_size _ _)) rfl ?_
  exact ⟨a1, c1, rfl, G.out.2.1, G.out.2.2, FR1.out⟩
set_option maxHeartbeats 4000000 in
theorem prop_in (h : Hd) (a : Option Addr) (n c : Nat) (l : List Pt) (k : Nat) (w : World) (hs : SlAt w a n c l) (hn : n ≤ 1000) (hk : k < n) :
    Calls Tryz.prog 248 #[.agg (trc h (.slice a n c)), .int .i64 (k : Int)] w fun r w' => TRes w h n (prpL l k) r w' := by
  obtain ⟨W, hW, r0, r1, bW, zW⟩ := two_t w h (.slice a n c)
  have l0 := r0.tld
  have H : Hid (TS w W w.heap.size (w.heap.size + 1) h (.slice a n c) ∧ SlAt W a n c l ∧ n ≤ 1000 ∧ k < n ∧ l.length = n) := ⟨⟨r0, r1, bW, by omega⟩, hs.below bW, hn, hk, hs.len⟩
  clear hs hn hk r0 r1 bW zW
  have T : Hid _ := there_in (h := h) (a := a) (c := c) (w := W) H.out.2.2.2.1
  have c16 := H.out.1.var.t16
  go_enter Tryz.func248, Tryz.ntmps248
  go_wp2_with fail
  try go_step3
  go_wp2_with fail
  refine Calls.mono T.out ?_
  rintro _ V ⟨rfl, bV⟩
  have c16V := (H.out.1.below bV).var.t16
  have K : Hid (TS w V w.heap.size (w.heap.size + 1) h (.slice a n c) ∧ SlAt V a n c l) := ⟨H.out.1.below bV, H.out.2.1.below bV⟩
  clear bV T l0 c16 hW
  go_wp2_with fail
  refine (clone_any a n c l V K.out.2 H.out.2.2.1).mono ?_
  rintro _ W2 ⟨v, rfl, o2, b2⟩
  have hl := H.out.2.2.2.2
  have hk := H.out.2.2.2.1
  have lt1 : w.heap.size + 1 < V.heap.size := K.out.1.out.lt
  obtain ⟨W3, s3, r3, g3⟩ := (K.out.1.var.below b2).tset o2.one
  have o3 := o2.keptBut g3 (o2.apart (by omega))
  have q3 := (K.out.1.out.below b2).keptBut g3 (by simp only [ne_eq, Option.some.injEq]; omega)
  have b3 : Below w.heap.size w W3 := gro (below_over K.out.1.bel b2) g3 (Nat.le_refl _) (by have := b2.size; omega)
  clear b2 g3 o2 c16V K
  rcases o3.pat with ⟨hv, hle⟩ | ⟨g, cc, hv, hg, hp⟩
  · rw [hle] at hl; simp at hl; omega
  · rw [hl] at hv
    subst hv
    have c16 := r3.t16
    have hn1 : n ≤ 1000 := H.out.2.2.1
    have K : Hid (RvAt W3 w.heap.size 39 (trc h (.slice (some ⟨g, 0, none⟩) n cc)) ∧ RvAt W3 (w.heap.size + 1) 39 (trc zeroH (.slice none 0 0)) ∧ Below w.heap.size w W3 ∧ w.heap.size + 2 ≤ g ∧ l.length = n ∧ PAt W3 g cc l ∧ k < n) := ⟨r3, q3, b3, by omega, hl, hp, hk⟩
    clear hp hg r3 q3 b3 o3 hl hk lt1 H
    go_wp2_with fail
    go_step3
    go_wp2_with fail
    go_loopw [5, 18] (fun v5 v18 wr => ∃ i : Nat, i ≤ n ∧ v18 = .int .i64 i ∧ PAt wr g cc (mapI (tcP k) l i) ∧ W3.grownBy wr (some g)) (fun _ v18 _ => n - (intOf v18).toNat)
    case atStart => exact ⟨0, by omega, rfl, by rw [mapI_zero]; exact K.out.2.2.2.2.2.1, World.grownBy.refl _ _⟩
    case round =>
      obtain ⟨i, hi, rfl, hpi, hgi⟩ := hrel
      have hg := K.out.2.2.2.1
      have hr := K.out.1.keptBut hgi (by simp; omega)
      have hin0 : (0 : Int) ≤ (i : Int) := by omega
      by_cases hit : i < n
      · have hin1 : (i : Int) < (n : Int) := by omega
        have hil : i < l.length := by rw [K.out.2.2.2.2.1]; exact hit
        by_cases hik : i = k
        · have J : Hid (PAt wr g cc (mapI (tcP k) l (i + 1)) ∧ W3.grownBy wr (some g)) := by
            have e := mapI_next (f := tcP k) hil
            have e2 : tcP k i (gtP l i) = gtP l i := by unfold tcP; rw [if_pos hik]
            rw [e2] at e
            have e3 : (mapI (tcP k) l i).set i (gtP l i) = mapI (tcP k) l i := by
              have := set_self (l := mapI (tcP k) l i) (k := i) (by rw [mapI_len]; exact hil)
              have e4 : gtP (mapI (tcP k) l i) i = gtP l i := by
                have h1 := gtP_at (l := mapI (tcP k) l i) (i := i) (by rw [mapI_len]; exact hil)
                rw [mapI_at hil] at h1
                exact (Option.some.inj h1).symm
              rw [e4] at this
              exact this
            rw [← e, e3]
            exact ⟨hpi, hgi⟩
          subst hik
          clear hpi hgi hr c16
          go_wp2
          go_roundw
          case rel => exact ⟨i + 1, by omega, by go_num, J.out.1, J.out.2⟩
          case measure => simp [intOf]; omega
        · have hne : ((i : Int) == (k : Int)) = false := by simp; omega
          obtain ⟨V1, e1, p1, g1⟩ := hpi.st1 (q := i * 77 + 27) (j := 27) (v := .bool true) (mapI_at hil) info2.1 (by omega) rfl (fit_bit kb27) rfl
          have J : Hid (PAt V1 g cc (mapI (tcP k) l (i + 1)) ∧ W3.grownBy V1 (some g)) := by
            have e := mapI_next (f := tcP k) hil
            have e2 : tcP k i (gtP l i) = (gtP l i).setB 27 kb27 true := by unfold tcP; rw [if_neg hik]
            rw [e2] at e
            rw [← e]
            exact ⟨p1, grown_self hgi g1⟩
          have c16 := hr.t16
          clear hpi hgi hr p1 g1 hik
          go_wp2
          go_roundw
          case rel => exact ⟨i + 1, by omega, by go_num, J.out.1, J.out.2⟩
          case measure => simp [intOf]; omega
      · have hin : i = n := by omega
        subst hin
        have hin1 : ¬ (i : Int) < (i : Int) := by omega
        have l3 := hr.tld
        have q3 := K.out.2.1.keptBut hgi (by simp; omega)
        obtain ⟨W4, s4, r4, g4⟩ := q3.tst (g := h) (y := .slice (some ⟨g, 0, none⟩) i cc) rfl
        have pe := hpi.keptBut g4 (by simp; omega)
        have e : mapI (tcP k) l i = prpL l k := by
          have := mapI_all (tcP k) l
          rw [K.out.2.2.2.2.1] at this
          exact this
        rw [e] at pe
        have se := pe.sl
        rw [prpL_len, K.out.2.2.2.2.1] at se
        have be : Below w.heap.size w W4 := gro (gro K.out.2.2.1 hgi (by omega) K.out.2.2.1.size) g4 (by omega) (by have := K.out.2.2.1.size; have := hgi.size; omega)
        have G : Hid (RvAt W4 (w.heap.size + 1) 39 (trc h (.slice (some ⟨g, 0, none⟩) i cc)) ∧ SlAt W4 (some ⟨g, 0, none⟩) i cc (prpL l k) ∧ Below w.heap.size w W4) := ⟨r4, se, be⟩
        clear hpi hgi hr q3 r4 g4 pe be se e c16
        go_wp2
        try rw [Exit.noGoto_ret]
        refine bodyPost_ret (results_row rtT Tryz.results248 _ _ _ _ rfl G.out.1 (trc_size _ _)) rfl ?_
        exact ⟨some ⟨g, 0, none⟩, cc, rfl, G.out.2.1, G.out.2.2, Nw.of (by have := K.out.2.2.2.1; omega)⟩
set_option maxHeartbeats 2000000 in
theorem detected_in (h : Hd) (a : Option Addr) (n c : Nat) (l : List Pt) (k : Nat) (w : World) (hs : SlAt w a n c l) (hn : n ≤ 1000) (hk : k < n) :
    Calls Tryz.prog 210 #[.agg (trc h (.slice a n c)), .int .i64 (k : Int)] w fun r w' => TRes w h n (sprL l k (detP h (gtP l k))) r w' := by
  obtain ⟨W, hW, r0, r1, bW, zW⟩ := two_t w h (.slice a n c)
  have l0 := r0.tld
  have H : Hid (TS w W w.heap.size (w.heap.size + 1) h (.slice a n c) ∧ SlAt W a n c l ∧ n ≤ 1000 ∧ k < n ∧ l.length = n) := ⟨⟨r0, r1, bW, by omega⟩, hs.below bW, hn, hk, hs.len⟩
  clear hs hn hk r0 r1 bW zW
  go_enter Tryz.func210, Tryz.ntmps210
  go_wp2_with fail
  refine (new_in h a n c (l) k W H.out.2.1 H.out.2.2.1 H.out.2.2.2.1).mono ?_
  rintro _ X0 ⟨a0, c0, rfl, s0, b0, f0⟩
  have FR0 : Hid (Nw w a0) := f0.up H.out.1.bel.size
  clear f0
  have T0 : Hid (TS w X0 w.heap.size (w.heap.size + 1) h (.slice a n c) ∧ SlAt X0 a0 n c0 (l.set k (nwP h (gtP l k)))) := ⟨(H.out.1).below b0, s0⟩
  clear s0 b0
  go_wp2_with fail
  refine (prop_in h a0 n c0 (l.set k (nwP h (gtP l k))) k X0 T0.out.2 H.out.2.2.1 H.out.2.2.2.1).mono ?_
  rintro _ X1 ⟨a1, c1, rfl, s1, b1, f1⟩
  have FR1 : Hid (Nw w a1) := f1.up T0.out.1.bel.size
  clear f1
  have T1 : Hid (TS w X1 w.heap.size (w.heap.size + 1) h (.slice a n c) ∧ SlAt X1 a1 n c1 (prpL (l.set k (nwP h (gtP l k))) k)) := ⟨(T0.out.1).below b1, s1⟩
  clear s1 b1
  go_wp2_with fail
  refine (changed_any _ _ chg_detected ent_detected h a1 n c1 (prpL (l.set k (nwP h (gtP l k))) k) k X1 T1.out.2 H.out.2.2.1 H.out.2.2.2.1).mono ?_
  rintro _ X2 ⟨a2, c2, rfl, s2, b2, f2⟩
  have FR2 : Hid (Nw w a2) := f2.up T1.out.1.bel.size
  clear f2
  have T2 : Hid (TS w X2 w.heap.size (w.heap.size + 1) h (.slice a n c) ∧ SlAt X2 a2 n c2 ((prpL (l.set k (nwP h (gtP l k))) k).set k (actP (gtP (prpL (l.set k (nwP h (gtP l k))) k) k)))) := ⟨(T1.out.1).below b2, s2⟩
  clear s2 b2
  obtain ⟨U, sU, h1, h2, gU⟩ := (T2.out.1).tell (y := .slice a2 n c2) rfl
  have G : Hid (RvAt U (w.heap.size + 1) 39 (trc h (.slice a2 n c2)) ∧ SlAt U a2 n c2 (sprL l k (detP h (gtP l k))) ∧ Below w.heap.size w U) := by
    rw [← (show _ = sprL l k (detP h (gtP l k)) from spr_two l k (nwP h (gtP l k)) actP (by rw [H.out.2.2.2.2]; exact H.out.2.2.2.1))]
    exact ⟨h1, T2.out.2.keptT (T2.out.1).out gU, h2⟩
  clear h1 h2 gU
  go_wp2
  refine bodyPost_ret (results_row rtT Tryz.results210 _ _ _ _ rfl G.out.1 (trc_size _ _)) rfl ?_
  exact ⟨a2, c2, rfl, G.out.2.1, G.out.2.2, FR2.out⟩
theorem set_one (l : List Pt) (k : Nat) (f : Pt → Pt) (hk : k < l.length) : (prpL l k).set k (f (gtP (prpL l k) k)) = sprL l k (f (gtP l k)) := by
  rw [prp_spr hk, spr_set, spr_at _ hk, if_pos rfl]
set_option maxHeartbeats 2000000 in
theorem notified_in (h : Hd) (a : Option Addr) (n c : Nat) (l : List Pt) (k : Nat) (w : World) (hs : SlAt w a n c l) (hn : n ≤ 1000) (hk : k < n) :
    Calls Tryz.prog 212 #[.agg (trc h (.slice a n c)), .int .i64 (k : Int)] w fun r w' => TRes w h n (sprL l k (ntfP h (gtP l k))) r w' := by
  obtain ⟨g, o, rfl⟩ := hs.some' (by omega)
  obtain ⟨LL, hLL⟩ : ∃ z, sprL l k (ntfP h (gtP l k)) = z := ⟨_, rfl⟩
  rw [hLL]
  have EL : Hid (sprL l k (ntfP h (gtP l k)) = LL) := hLL
  clear hLL
  obtain ⟨W, hW, r0, r1, bW, zW⟩ := two_t w h (.slice (some ⟨g, o, none⟩) n c)
  have l0 := r0.tld
  have H : Hid (TS w W w.heap.size (w.heap.size + 1) h (.slice (some ⟨g, o, none⟩) n c) ∧ SlAt W (some ⟨g, o, none⟩) n c l ∧ n ≤ 1000 ∧ k < n ∧ l.length = n) := ⟨⟨r0, r1, bW, by omega⟩, hs.below bW, hn, hk, hs.len⟩
  clear hs hn hk r0 r1 bW zW
  have hkl : k < l.length := (by rw [H.out.2.2.2.2]; exact H.out.2.2.2.1)
  have hin0 : (0 : Int) ≤ (k : Int) := by omega
  have hin1 : (k : Int) < (n : Int) := by have := H.out.2.2.2.1; omega
  have c16 := H.out.1.var.t16
  have c19 := H.out.2.1.cell (gtP_at hkl) ((gtP l k).bit (j := 19) rfl) (by omega)
  cases h19 : (gtP l k).bt 19
  · rw [h19] at c19
    have E : Hid ((prpL l k).set k (heaP (gtP (prpL l k) k)) = LL) := by
      rw [← EL.out, set_one l k heaP hkl]
      unfold ntfP heaQ
      rw [if_neg (by rw [h19]; decide)]
      exact rfl
    clear h19 EL hkl
    go_enter Tryz.func212, Tryz.ntmps212
    go_wp2_with fail
    refine (prop_in h (some ⟨g, o, none⟩) n c l k W H.out.2.1 H.out.2.2.1 H.out.2.2.2.1).mono ?_
    rintro _ X0 ⟨a0, c0, rfl, s0, b0, f0⟩
    have FR0 : Hid (Nw w a0) := f0.up H.out.1.bel.size
    clear f0
    have T0 : Hid (TS w X0 w.heap.size (w.heap.size + 1) h (.slice (some ⟨g, o, none⟩) n c) ∧ SlAt X0 a0 n c0 (prpL l k)) := ⟨H.out.1.below b0, s0⟩
    clear s0 b0
    go_wp2_with fail
    refine (changed_any _ _ chg_notified ent_notified h a0 n c0 (prpL l k) k X0 T0.out.2 H.out.2.2.1 H.out.2.2.2.1).mono ?_
    rintro _ X1 ⟨a1, c1, rfl, s1, b1, f1⟩
    have FR1 : Hid (Nw w a1) := f1.up T0.out.1.bel.size
    clear f1
    rw [E.out] at s1
    have T1 : Hid (TS w X1 w.heap.size (w.heap.size + 1) h (.slice (some ⟨g, o, none⟩) n c) ∧ SlAt X1 a1 n c1 LL) := ⟨T0.out.1.below b1, s1⟩
    clear s1 b1
    obtain ⟨U, sU, h1, h2, gU⟩ := (T1.out.1).tell (y := .slice a1 n c1) rfl
    have G : Hid (RvAt U (w.heap.size + 1) 39 (trc h (.slice a1 n c1)) ∧ SlAt U a1 n c1 (LL) ∧ Below w.heap.size w U) := ⟨h1, T1.out.2.keptT (T1.out.1).out gU, h2⟩
    clear h1 h2 gU
    go_wp2
    refine bodyPost_ret (results_row rtT Tryz.results212 _ _ _ _ rfl G.out.1 (trc_size _ _)) rfl ?_
    exact ⟨a1, c1, rfl, G.out.2.1, G.out.2.2, FR1.out⟩
  · rw [h19] at c19
    have E : Hid ((prpL (l.set k (nwP h (gtP l k))) k).set k (heaP (gtP (prpL (l.set k (nwP h (gtP l k))) k) k)) = LL) := by
      rw [← EL.out, spr_two l k (nwP h (gtP l k)) heaP hkl]
      unfold ntfP heaQ
      rw [if_pos h19]
      exact rfl
    clear h19 EL hkl
    go_enter Tryz.func212, Tryz.ntmps212
    go_wp2_with fail
    refine (new_in h (some ⟨g, o, none⟩) n c l k W H.out.2.1 H.out.2.2.1 H.out.2.2.2.1).mono ?_
    rintro _ X ⟨aa, ca, rfl, sa, ba, _⟩
    obtain ⟨Y, sY, rY, gY⟩ := (H.out.1.below ba).var.tst (g := h) (y := .slice aa n ca) rfl
    have TY : Hid (TS w Y w.heap.size (w.heap.size + 1) h (.slice aa n ca) ∧ SlAt Y aa n ca (l.set k (nwP h (gtP l k)))) := ⟨⟨rY, (H.out.1.below ba).out.keptBut gY (by simp), gro (H.out.1.below ba).bel gY (Nat.le_refl _) (H.out.1.below ba).bel.size, by omega⟩, sa.keptT (H.out.1.below ba).var gY⟩
    have lY := rY.tld
    clear sa ba rY gY
    go_wp2_with fail
    refine (prop_in h aa n ca (l.set k (nwP h (gtP l k))) k Y TY.out.2 H.out.2.2.1 H.out.2.2.2.1).mono ?_
    rintro _ X0 ⟨a0, c0, rfl, s0, b0, f0⟩
    have FR0 : Hid (Nw w a0) := f0.up TY.out.1.bel.size
    clear f0
    have T0 : Hid (TS w X0 w.heap.size (w.heap.size + 1) h (.slice aa n ca) ∧ SlAt X0 a0 n c0 (prpL (l.set k (nwP h (gtP l k))) k)) := ⟨TY.out.1.below b0, s0⟩
    clear s0 b0
    go_wp2_with fail
    refine (changed_any _ _ chg_notified ent_notified h a0 n c0 (prpL (l.set k (nwP h (gtP l k))) k) k X0 T0.out.2 H.out.2.2.1 H.out.2.2.2.1).mono ?_
    rintro _ X1 ⟨a1, c1, rfl, s1, b1, f1⟩
    have FR1 : Hid (Nw w a1) := f1.up T0.out.1.bel.size
    clear f1
    rw [E.out] at s1
    have T1 : Hid (TS w X1 w.heap.size (w.heap.size + 1) h (.slice aa n ca) ∧ SlAt X1 a1 n c1 LL) := ⟨T0.out.1.below b1, s1⟩
    clear s1 b1
    obtain ⟨U, sU, h1, h2, gU⟩ := (T1.out.1).tell (y := .slice a1 n c1) rfl
    have G : Hid (RvAt U (w.heap.size + 1) 39 (trc h (.slice a1 n c1)) ∧ SlAt U a1 n c1 (LL) ∧ Below w.heap.size w U) := ⟨h1, T1.out.2.keptT (T1.out.1).out gU, h2⟩
    clear h1 h2 gU
    go_wp2
    refine bodyPost_ret (results_row rtT Tryz.results212 _ _ _ _ rfl G.out.1 (trc_size _ _)) rfl ?_
    exact ⟨a1, c1, rfl, G.out.2.1, G.out.2.2, FR1.out⟩
end S14
end
section
namespace S14
open Go.RowKit

attribute [local go_sem ↓] ldP stP stB stU stW ldT stT st32 alP
attribute [local go_sem] alP_run
theorem hasp_any (p : Pt) (w : World) : Calls Tryz.prog 209 #[.agg p.cs] w fun r w' => r = .returned (.bool (hasB p)) ∧ Below w.heap.size w w' := by
  obtain ⟨W, hW, r0, bW, zW⟩ := new_p w p
  have c30 := r0.num (j := 30) (k := .i64) rfl
  have H : Hid (Below w.heap.size w W) := bW
  obtain ⟨B, hB⟩ : ∃ z, hasB p = z := ⟨_, rfl⟩
  rw [hB]
  have E : Hid (((p.nm 30 == 3) || (p.nm 30 == 4)) = B) := hB
  obtain ⟨N, hN⟩ : ∃ z, p.nm 30 = z := ⟨_, rfl⟩
  rw [hN] at c30 E
  clear r0 bW zW hB hN
  by_cases h3 : N = 3
  · subst h3
    go_enter Tryz.func209, Tryz.ntmps209
    go_wp2
    go_ret
    exact ⟨by rw [← E.out]; rfl, H.out⟩
  · have x3 : (N == 3) = false := beq_eq_false_iff_ne.2 h3
    clear h3
    go_enter Tryz.func209, Tryz.ntmps209
    go_wp2
    go_ret
    exact ⟨by rw [← E.out, x3]; rfl, H.out⟩
theorem told_any (p : Pt) (w : World) : Calls Tryz.prog 211 #[.agg p.cs] w fun r w' => r = .returned (.bool (tldB p)) ∧ Below w.heap.size w w' := by
  obtain ⟨W, hW, r0, bW, zW⟩ := new_p w p
  have c17 := r0.bit (j := 17) rfl
  have c19 := r0.bit (j := 19) rfl
  have c18 := r0.bit (j := 18) rfl
  have c27 := r0.bit (j := 27) rfl
  have H : Hid (Below w.heap.size w W) := bW
  obtain ⟨B, hB⟩ : ∃ z, tldB p = z := ⟨_, rfl⟩
  rw [hB]
  have E : Hid ((((p.bt 17 || p.bt 19) || p.bt 18) || p.bt 27) = B) := hB
  clear r0 bW zW hB
  obtain ⟨b17, h17⟩ : ∃ z, p.bt 17 = z := ⟨_, rfl⟩
  obtain ⟨b19, h19⟩ : ∃ z, p.bt 19 = z := ⟨_, rfl⟩
  obtain ⟨b18, h18⟩ : ∃ z, p.bt 18 = z := ⟨_, rfl⟩
  obtain ⟨b27, h27⟩ : ∃ z, p.bt 27 = z := ⟨_, rfl⟩
  rw [h17] at c17 E
  rw [h19] at c19 E
  rw [h18] at c18 E
  rw [h27] at c27 E
  clear h17 h19 h18 h27
  cases b17
  · cases b19
    · cases b18
      · go_enter Tryz.func211, Tryz.ntmps211
        go_wp2
        go_ret
        exact ⟨by rw [← E.out]; rfl, H.out⟩
      · go_enter Tryz.func211, Tryz.ntmps211
        go_wp2
        go_ret
        exact ⟨by rw [← E.out]; rfl, H.out⟩
    · go_enter Tryz.func211, Tryz.ntmps211
      go_wp2
      go_ret
      exact ⟨by rw [← E.out]; rfl, H.out⟩
  · go_enter Tryz.func211, Tryz.ntmps211
    go_wp2
    go_ret
    exact ⟨by rw [← E.out]; rfl, H.out⟩
set_option maxHeartbeats 4000000 in
theorem ina_in (h : Hd) (a : Option Addr) (n c : Nat) (l : List Pt) (k : Nat) (w : World) (hs : SlAt w a n c l) (hn : n ≤ 1000) (hk : k < n) :
    Calls Tryz.prog 169 #[.agg (trc h (.slice a n c)), .int .i64 (k : Int)] w fun r w' => TBf w h a n l (inaO l k) r w' := by
  obtain ⟨OO, hOO⟩ : ∃ z, inaO l k = z := ⟨_, rfl⟩
  rw [hOO]
  have EO : Hid (inaO l k = OO) := hOO
  clear hOO
  obtain ⟨g, o, rfl⟩ := hs.some' (by omega)
  have HL : Hid (l.length = n ∧ n ≤ 1000 ∧ k < n) := ⟨hs.len, hn, hk⟩
  have hkl : k < l.length := by rw [HL.out.1]; exact hk
  have hin0 : (0 : Int) ≤ (k : Int) := by omega
  have hin1 : (k : Int) < (n : Int) := by omega
  obtain ⟨W, hW, r0, r1, bW, zW⟩ := two_t w h (.slice (some ⟨g, o, none⟩) n c)
  have c16 := r0.t16
  have lp := (hs.below bW).ld (gtP_at hkl)
  obtain ⟨p, hp⟩ : ∃ p, gtP l k = p := ⟨_, rfl⟩
  rw [hp] at lp
  have HP : Hid (gtP l k = p) := hp
  obtain ⟨W0, s0, r0', b0, z0⟩ := var_p W p
  obtain ⟨Z, hZ⟩ : ∃ Z, W.heap.size = Z := ⟨_, rfl⟩
  rw [hZ] at s0 r0'
  have T0 : Hid (TP w W0 w.heap.size (w.heap.size + 1) Z h g o n c l p) := ⟨⟨r0.below b0, r1.below b0, below_over bW b0, by omega⟩, (hs.below bW).below b0, r0', by omega, hs.low (by omega)⟩
  obtain ⟨b9, h9⟩ : ∃ z, p.bt 9 = z := ⟨_, rfl⟩
  obtain ⟨b6, h6⟩ : ∃ z, p.bt 6 = z := ⟨_, rfl⟩
  have EB : Hid (p.bt 9 = b9 ∧ p.bt 6 = b6) := ⟨h9, h6⟩
  clear hs hn hk r0 r1 bW zW b0 z0 r0' hp hkl h9 h6
  cases b9
  · have E : OO = none := by
      rw [← EO.out]
      unfold inaO
      rw [HP.out]
      rw [if_neg (by rw [EB.out.1]; simp)]
    have E : Hid (OO = none) := E
    have c9 := T0.out.pv.pbit (j := 9) rfl
    rw [EB.out.1] at c9
    have c6 := T0.out.pv.pbit (j := 6) rfl
    rw [EB.out.2] at c6
    have lt0 := T0.out.tre.var.tld
    go_enter Tryz.func169, Tryz.ntmps169
    obtain ⟨U, sU, h1, h2, gU⟩ := T0.out.tre.tell (y := .slice (some ⟨g, o, none⟩) n c) rfl
    have G : Hid (RvAt U (w.heap.size + 1) 39 (trc h (.slice (some ⟨g, o, none⟩) n c)) ∧ SlAt U (some ⟨g, o, none⟩) n c (OO.getD l) ∧ Below w.heap.size w U ∧ OO.isSome = false) := by
      rw [E.out]
      exact ⟨h1, T0.out.sl.keptT T0.out.tre.out gU, h2, rfl⟩
    clear h1 h2 gU
    go_wp2
    refine bodyPost_ret (results_tb Tryz.results169 _ _ _ _ _ rfl G.out.1) rfl ?_
    exact ⟨some ⟨g, o, none⟩, c, by rw [G.out.2.2.2]; rfl, G.out.2.1, G.out.2.2.1, Or.inl rfl⟩
  · cases b6
    · have E : OO = some (l.set k (lrnP p)) := by
        rw [← EO.out]
        unfold inaO
        rw [HP.out]
        rw [if_pos (by rw [EB.out.1, EB.out.2]; simp)]
      have E : Hid (OO = some (l.set k (lrnP p))) := E
      have c9 := T0.out.pv.pbit (j := 9) rfl
      rw [EB.out.1] at c9
      have c6 := T0.out.pv.pbit (j := 6) rfl
      rw [EB.out.2] at c6
      have lt0 := T0.out.tre.var.tld
      go_enter Tryz.func169, Tryz.ntmps169
      go_wp2_with fail
      refine (learns_in h (some ⟨g, o, none⟩) n c l k W0 T0.out.sl HL.out.2.1 HL.out.2.2).mono ?_
      rintro _ X ⟨a2, c2, rfl, s2, b2, f2⟩
      have FR : Hid (Nw w a2) := f2.up T0.out.tre.bel.size
      clear f2
      rw [HP.out] at s2
      obtain ⟨U, sU, h1, h2, gU⟩ := (T0.out.tre.below b2).tell (y := .slice a2 n c2) rfl
      have G : Hid (RvAt U (w.heap.size + 1) 39 (trc h (.slice a2 n c2)) ∧ SlAt U a2 n c2 (OO.getD l) ∧ Below w.heap.size w U ∧ OO.isSome = true) := by
        rw [E.out]
        exact ⟨h1, s2.keptT (T0.out.tre.below b2).out gU, h2, rfl⟩
      clear h1 h2 gU s2 b2
      go_wp2
      refine bodyPost_ret (results_tb Tryz.results169 _ _ _ _ _ rfl G.out.1) rfl ?_
      exact ⟨a2, c2, by rw [G.out.2.2.2]; rfl, G.out.2.1, G.out.2.2.1, Or.inr FR.out⟩
    · have E : OO = none := by
        rw [← EO.out]
        unfold inaO
        rw [HP.out]
        rw [if_neg (by rw [EB.out.1, EB.out.2]; simp)]
      have E : Hid (OO = none) := E
      have c9 := T0.out.pv.pbit (j := 9) rfl
      rw [EB.out.1] at c9
      have c6 := T0.out.pv.pbit (j := 6) rfl
      rw [EB.out.2] at c6
      have lt0 := T0.out.tre.var.tld
      go_enter Tryz.func169, Tryz.ntmps169
      obtain ⟨U, sU, h1, h2, gU⟩ := T0.out.tre.tell (y := .slice (some ⟨g, o, none⟩) n c) rfl
      have G : Hid (RvAt U (w.heap.size + 1) 39 (trc h (.slice (some ⟨g, o, none⟩) n c)) ∧ SlAt U (some ⟨g, o, none⟩) n c (OO.getD l) ∧ Below w.heap.size w U ∧ OO.isSome = false) := by
        rw [E.out]
        exact ⟨h1, T0.out.sl.keptT T0.out.tre.out gU, h2, rfl⟩
      clear h1 h2 gU
      go_wp2
      refine bodyPost_ret (results_tb Tryz.results169 _ _ _ _ _ rfl G.out.1) rfl ?_
      exact ⟨some ⟨g, o, none⟩, c, by rw [G.out.2.2.2]; rfl, G.out.2.1, G.out.2.2.1, Or.inl rfl⟩
end S14
end
section
namespace S14
open Go.RowKit

attribute [local go_sem ↓] ldP stP stB stU stW ldT stT st32 alP
attribute [local go_sem] alP_run
set_option maxHeartbeats 4000000 in
theorem lea_in (h : Hd) (a : Option Addr) (n c : Nat) (l : List Pt) (k : Nat) (w : World) (hs : SlAt w a n c l) (hn : n ≤ 1000) (hk : k < n) :
    Calls Tryz.prog 170 #[.agg (trc h (.slice a n c)), .int .i64 (k : Int)] w fun r w' => TBf w h a n l (leaO h l k) r w' := by
  obtain ⟨OO, hOO⟩ : ∃ z, leaO h l k = z := ⟨_, rfl⟩
  rw [hOO]
  have EO : Hid (leaO h l k = OO) := hOO
  clear hOO
  obtain ⟨g, o, rfl⟩ := hs.some' (by omega)
  have HL : Hid (l.length = n ∧ n ≤ 1000 ∧ k < n) := ⟨hs.len, hn, hk⟩
  have hkl : k < l.length := by rw [HL.out.1]; exact hk
  have hin0 : (0 : Int) ≤ (k : Int) := by omega
  have hin1 : (k : Int) < (n : Int) := by omega
  obtain ⟨W, hW, r0, r1, bW, zW⟩ := two_t w h (.slice (some ⟨g, o, none⟩) n c)
  have c16 := r0.t16
  have lp := (hs.below bW).ld (gtP_at hkl)
  obtain ⟨p, hp⟩ : ∃ p, gtP l k = p := ⟨_, rfl⟩
  rw [hp] at lp
  have HP : Hid (gtP l k = p) := hp
  obtain ⟨W0, s0, r0', b0, z0⟩ := var_p W p
  obtain ⟨Z, hZ⟩ : ∃ Z, W.heap.size = Z := ⟨_, rfl⟩
  rw [hZ] at s0 r0'
  have T0 : Hid (TP w W0 w.heap.size (w.heap.size + 1) Z h g o n c l p) := ⟨⟨r0.below b0, r1.below b0, below_over bW b0, by omega⟩, (hs.below bW).below b0, r0', by omega, hs.low (by omega)⟩
  obtain ⟨b7, h7⟩ : ∃ z, p.bt 7 = z := ⟨_, rfl⟩
  obtain ⟨b9, h9⟩ : ∃ z, p.bt 9 = z := ⟨_, rfl⟩
  obtain ⟨b10, h10⟩ : ∃ z, p.bt 10 = z := ⟨_, rfl⟩
  obtain ⟨PB, hPB⟩ : ∃ z, hasB p = z := ⟨_, rfl⟩
  have EP : Hid (hasB p = PB) := hPB
  obtain ⟨TB, hTB⟩ : ∃ z, tldB p = z := ⟨_, rfl⟩
  have ET : Hid (tldB p = TB) := hTB
  have EB : Hid (p.bt 7 = b7 ∧ p.bt 9 = b9 ∧ p.bt 10 = b10) := ⟨h7, h9, h10⟩
  clear hs hn hk r0 r1 bW zW b0 z0 r0' hp hkl h7 h9 h10 hPB hTB
  cases PB
  · cases b9
    · cases b10
      · cases TB
        · have E : OO = some (l.set k (quiP p)) := by
            rw [← EO.out]
            unfold leaO
            rw [HP.out]
            rw [if_neg (by rw [EP.out]; simp), if_pos (by rw [EP.out, EB.out.2.1, EB.out.2.2, ET.out]; simp)]
          have E : Hid (OO = some (l.set k (quiP p))) := E
          have c7 := T0.out.pv.pbit (j := 7) rfl
          rw [EB.out.1] at c7
          have c9 := T0.out.pv.pbit (j := 9) rfl
          rw [EB.out.2.1] at c9
          have c10 := T0.out.pv.pbit (j := 10) rfl
          rw [EB.out.2.2] at c10
          have lp0 := T0.out.pv.pld
          go_enter Tryz.func170, Tryz.ntmps170
          go_wp2_with fail
          refine (hasp_any p W0).mono ?_
          rintro _ W1 ⟨rfl, b1_⟩
          rw [EP.out]
          have T1 : Hid (TP w W1 w.heap.size (w.heap.size + 1) Z h g o n c l p) := T0.out.below b1_
          clear c7 c9 c10 lp0 b1_
          have c7 := T1.out.pv.pbit (j := 7) rfl
          rw [EB.out.1] at c7
          have c9 := T1.out.pv.pbit (j := 9) rfl
          rw [EB.out.2.1] at c9
          have c10 := T1.out.pv.pbit (j := 10) rfl
          rw [EB.out.2.2] at c10
          have lp1 := T1.out.pv.pld
          go_wp2_with fail
          refine (hasp_any p W1).mono ?_
          rintro _ W2 ⟨rfl, b2_⟩
          rw [EP.out]
          have T2 : Hid (TP w W2 w.heap.size (w.heap.size + 1) Z h g o n c l p) := T1.out.below b2_
          clear c7 c9 c10 lp1 b2_
          have c7 := T2.out.pv.pbit (j := 7) rfl
          rw [EB.out.1] at c7
          have c9 := T2.out.pv.pbit (j := 9) rfl
          rw [EB.out.2.1] at c9
          have c10 := T2.out.pv.pbit (j := 10) rfl
          rw [EB.out.2.2] at c10
          have lp2 := T2.out.pv.pld
          go_wp2_with fail
          refine (told_any p W2).mono ?_
          rintro _ W3 ⟨rfl, b3_⟩
          rw [ET.out]
          have T3 : Hid (TP w W3 w.heap.size (w.heap.size + 1) Z h g o n c l p) := T2.out.below b3_
          clear c7 c9 c10 lp2 b3_
          have c7 := T3.out.pv.pbit (j := 7) rfl
          rw [EB.out.1] at c7
          have c9 := T3.out.pv.pbit (j := 9) rfl
          rw [EB.out.2.1] at c9
          have c10 := T3.out.pv.pbit (j := 10) rfl
          rw [EB.out.2.2] at c10
          have lp3 := T3.out.pv.pld
          have lt0 := T3.out.tre.var.tld
          go_wp2_with fail
          refine (quiet_in h (some ⟨g, o, none⟩) n c l k W3 T3.out.sl HL.out.2.1 HL.out.2.2).mono ?_
          rintro _ X ⟨a2, c2, rfl, s2, b2, f2⟩
          have FR : Hid (Nw w a2) := f2.up T3.out.tre.bel.size
          clear f2
          rw [HP.out] at s2
          obtain ⟨U, sU, h1, h2, gU⟩ := (T3.out.tre.below b2).tell (y := .slice a2 n c2) rfl
          have G : Hid (RvAt U (w.heap.size + 1) 39 (trc h (.slice a2 n c2)) ∧ SlAt U a2 n c2 (OO.getD l) ∧ Below w.heap.size w U ∧ OO.isSome = true) := by
            rw [E.out]
            exact ⟨h1, s2.keptT (T3.out.tre.below b2).out gU, h2, rfl⟩
          clear h1 h2 gU s2 b2
          go_wp2
          refine bodyPost_ret (results_tb Tryz.results170 _ _ _ _ _ rfl G.out.1) rfl ?_
          exact ⟨a2, c2, by rw [G.out.2.2.2]; rfl, G.out.2.1, G.out.2.2.1, Or.inr FR.out⟩
        · have E : OO = some (l.set k (lrnP p)) := by
            rw [← EO.out]
            unfold leaO
            rw [HP.out]
            rw [if_neg (by rw [EP.out]; simp), if_neg (by rw [EP.out, EB.out.2.1, EB.out.2.2, ET.out]; simp), if_pos ET.out]
          have E : Hid (OO = some (l.set k (lrnP p))) := E
          have c7 := T0.out.pv.pbit (j := 7) rfl
          rw [EB.out.1] at c7
          have c9 := T0.out.pv.pbit (j := 9) rfl
          rw [EB.out.2.1] at c9
          have c10 := T0.out.pv.pbit (j := 10) rfl
          rw [EB.out.2.2] at c10
          have lp0 := T0.out.pv.pld
          go_enter Tryz.func170, Tryz.ntmps170
          go_wp2_with fail
          refine (hasp_any p W0).mono ?_
          rintro _ W1 ⟨rfl, b1_⟩
          rw [EP.out]
          have T1 : Hid (TP w W1 w.heap.size (w.heap.size + 1) Z h g o n c l p) := T0.out.below b1_
          clear c7 c9 c10 lp0 b1_
          have c7 := T1.out.pv.pbit (j := 7) rfl
          rw [EB.out.1] at c7
          have c9 := T1.out.pv.pbit (j := 9) rfl
          rw [EB.out.2.1] at c9
          have c10 := T1.out.pv.pbit (j := 10) rfl
          rw [EB.out.2.2] at c10
          have lp1 := T1.out.pv.pld
          go_wp2_with fail
          refine (hasp_any p W1).mono ?_
          rintro _ W2 ⟨rfl, b2_⟩
          rw [EP.out]
          have T2 : Hid (TP w W2 w.heap.size (w.heap.size + 1) Z h g o n c l p) := T1.out.below b2_
          clear c7 c9 c10 lp1 b2_
          have c7 := T2.out.pv.pbit (j := 7) rfl
          rw [EB.out.1] at c7
          have c9 := T2.out.pv.pbit (j := 9) rfl
          rw [EB.out.2.1] at c9
          have c10 := T2.out.pv.pbit (j := 10) rfl
          rw [EB.out.2.2] at c10
          have lp2 := T2.out.pv.pld
          go_wp2_with fail
          refine (told_any p W2).mono ?_
          rintro _ W3 ⟨rfl, b3_⟩
          rw [ET.out]
          have T3 : Hid (TP w W3 w.heap.size (w.heap.size + 1) Z h g o n c l p) := T2.out.below b3_
          clear c7 c9 c10 lp2 b3_
          have c7 := T3.out.pv.pbit (j := 7) rfl
          rw [EB.out.1] at c7
          have c9 := T3.out.pv.pbit (j := 9) rfl
          rw [EB.out.2.1] at c9
          have c10 := T3.out.pv.pbit (j := 10) rfl
          rw [EB.out.2.2] at c10
          have lp3 := T3.out.pv.pld
          go_wp2_with fail
          refine (told_any p W3).mono ?_
          rintro _ W4 ⟨rfl, b4_⟩
          rw [ET.out]
          have T4 : Hid (TP w W4 w.heap.size (w.heap.size + 1) Z h g o n c l p) := T3.out.below b4_
          clear c7 c9 c10 lp3 b4_
          have c7 := T4.out.pv.pbit (j := 7) rfl
          rw [EB.out.1] at c7
          have c9 := T4.out.pv.pbit (j := 9) rfl
          rw [EB.out.2.1] at c9
          have c10 := T4.out.pv.pbit (j := 10) rfl
          rw [EB.out.2.2] at c10
          have lp4 := T4.out.pv.pld
          have lt0 := T4.out.tre.var.tld
          go_wp2_with fail
          refine (learns_in h (some ⟨g, o, none⟩) n c l k W4 T4.out.sl HL.out.2.1 HL.out.2.2).mono ?_
          rintro _ X ⟨a2, c2, rfl, s2, b2, f2⟩
          have FR : Hid (Nw w a2) := f2.up T4.out.tre.bel.size
          clear f2
          rw [HP.out] at s2
          obtain ⟨U, sU, h1, h2, gU⟩ := (T4.out.tre.below b2).tell (y := .slice a2 n c2) rfl
          have G : Hid (RvAt U (w.heap.size + 1) 39 (trc h (.slice a2 n c2)) ∧ SlAt U a2 n c2 (OO.getD l) ∧ Below w.heap.size w U ∧ OO.isSome = true) := by
            rw [E.out]
            exact ⟨h1, s2.keptT (T4.out.tre.below b2).out gU, h2, rfl⟩
          clear h1 h2 gU s2 b2
          go_wp2
          refine bodyPost_ret (results_tb Tryz.results170 _ _ _ _ _ rfl G.out.1) rfl ?_
          exact ⟨a2, c2, by rw [G.out.2.2.2]; rfl, G.out.2.1, G.out.2.2.1, Or.inr FR.out⟩
      · cases TB
        · have E : OO = none := by
            rw [← EO.out]
            unfold leaO
            rw [HP.out]
            rw [if_neg (by rw [EP.out]; simp), if_neg (by rw [EP.out, EB.out.2.1, EB.out.2.2]; simp), if_neg (by rw [ET.out]; simp)]
          have E : Hid (OO = none) := E
          have c7 := T0.out.pv.pbit (j := 7) rfl
          rw [EB.out.1] at c7
          have c9 := T0.out.pv.pbit (j := 9) rfl
          rw [EB.out.2.1] at c9
          have c10 := T0.out.pv.pbit (j := 10) rfl
          rw [EB.out.2.2] at c10
          have lp0 := T0.out.pv.pld
          go_enter Tryz.func170, Tryz.ntmps170
          go_wp2_with fail
          refine (hasp_any p W0).mono ?_
          rintro _ W1 ⟨rfl, b1_⟩
          rw [EP.out]
          have T1 : Hid (TP w W1 w.heap.size (w.heap.size + 1) Z h g o n c l p) := T0.out.below b1_
          clear c7 c9 c10 lp0 b1_
          have c7 := T1.out.pv.pbit (j := 7) rfl
          rw [EB.out.1] at c7
          have c9 := T1.out.pv.pbit (j := 9) rfl
          rw [EB.out.2.1] at c9
          have c10 := T1.out.pv.pbit (j := 10) rfl
          rw [EB.out.2.2] at c10
          have lp1 := T1.out.pv.pld
          go_wp2_with fail
          refine (hasp_any p W1).mono ?_
          rintro _ W2 ⟨rfl, b2_⟩
          rw [EP.out]
          have T2 : Hid (TP w W2 w.heap.size (w.heap.size + 1) Z h g o n c l p) := T1.out.below b2_
          clear c7 c9 c10 lp1 b2_
          have c7 := T2.out.pv.pbit (j := 7) rfl
          rw [EB.out.1] at c7
          have c9 := T2.out.pv.pbit (j := 9) rfl
          rw [EB.out.2.1] at c9
          have c10 := T2.out.pv.pbit (j := 10) rfl
          rw [EB.out.2.2] at c10
          have lp2 := T2.out.pv.pld
          go_wp2_with fail
          refine (told_any p W2).mono ?_
          rintro _ W3 ⟨rfl, b3_⟩
          rw [ET.out]
          have T3 : Hid (TP w W3 w.heap.size (w.heap.size + 1) Z h g o n c l p) := T2.out.below b3_
          clear c7 c9 c10 lp2 b3_
          have c7 := T3.out.pv.pbit (j := 7) rfl
          rw [EB.out.1] at c7
          have c9 := T3.out.pv.pbit (j := 9) rfl
          rw [EB.out.2.1] at c9
          have c10 := T3.out.pv.pbit (j := 10) rfl
          rw [EB.out.2.2] at c10
          have lp3 := T3.out.pv.pld
          have lt0 := T3.out.tre.var.tld
          obtain ⟨U, sU, h1, h2, gU⟩ := T3.out.tre.tell (y := .slice (some ⟨g, o, none⟩) n c) rfl
          have G : Hid (RvAt U (w.heap.size + 1) 39 (trc h (.slice (some ⟨g, o, none⟩) n c)) ∧ SlAt U (some ⟨g, o, none⟩) n c (OO.getD l) ∧ Below w.heap.size w U ∧ OO.isSome = false) := by
            rw [E.out]
            exact ⟨h1, T3.out.sl.keptT T3.out.tre.out gU, h2, rfl⟩
          clear h1 h2 gU
          go_wp2
          refine bodyPost_ret (results_tb Tryz.results170 _ _ _ _ _ rfl G.out.1) rfl ?_
          exact ⟨some ⟨g, o, none⟩, c, by rw [G.out.2.2.2]; rfl, G.out.2.1, G.out.2.2.1, Or.inl rfl⟩
        · have E : OO = some (l.set k (lrnP p)) := by
            rw [← EO.out]
            unfold leaO
            rw [HP.out]
            rw [if_neg (by rw [EP.out]; simp), if_neg (by rw [EP.out, EB.out.2.1, EB.out.2.2]; simp), if_pos ET.out]
          have E : Hid (OO = some (l.set k (lrnP p))) := E
          have c7 := T0.out.pv.pbit (j := 7) rfl
          rw [EB.out.1] at c7
          have c9 := T0.out.pv.pbit (j := 9) rfl
          rw [EB.out.2.1] at c9
          have c10 := T0.out.pv.pbit (j := 10) rfl
          rw [EB.out.2.2] at c10
          have lp0 := T0.out.pv.pld
          go_enter Tryz.func170, Tryz.ntmps170
          go_wp2_with fail
          refine (hasp_any p W0).mono ?_
          rintro _ W1 ⟨rfl, b1_⟩
          rw [EP.out]
          have T1 : Hid (TP w W1 w.heap.size (w.heap.size + 1) Z h g o n c l p) := T0.out.below b1_
          clear c7 c9 c10 lp0 b1_
          have c7 := T1.out.pv.pbit (j := 7) rfl
          rw [EB.out.1] at c7
          have c9 := T1.out.pv.pbit (j := 9) rfl
          rw [EB.out.2.1] at c9
          have c10 := T1.out.pv.pbit (j := 10) rfl
          rw [EB.out.2.2] at c10
          have lp1 := T1.out.pv.pld
          go_wp2_with fail
          refine (hasp_any p W1).mono ?_
          rintro _ W2 ⟨rfl, b2_⟩
          rw [EP.out]
          have T2 : Hid (TP w W2 w.heap.size (w.heap.size + 1) Z h g o n c l p) := T1.out.below b2_
          clear c7 c9 c10 lp1 b2_
          have c7 := T2.out.pv.pbit (j := 7) rfl
          rw [EB.out.1] at c7
          have c9 := T2.out.pv.pbit (j := 9) rfl
          rw [EB.out.2.1] at c9
          have c10 := T2.out.pv.pbit (j := 10) rfl
          rw [EB.out.2.2] at c10
          have lp2 := T2.out.pv.pld
          go_wp2_with fail
          refine (told_any p W2).mono ?_
          rintro _ W3 ⟨rfl, b3_⟩
          rw [ET.out]
          have T3 : Hid (TP w W3 w.heap.size (w.heap.size + 1) Z h g o n c l p) := T2.out.below b3_
          clear c7 c9 c10 lp2 b3_
          have c7 := T3.out.pv.pbit (j := 7) rfl
          rw [EB.out.1] at c7
          have c9 := T3.out.pv.pbit (j := 9) rfl
          rw [EB.out.2.1] at c9
          have c10 := T3.out.pv.pbit (j := 10) rfl
          rw [EB.out.2.2] at c10
          have lp3 := T3.out.pv.pld
          have lt0 := T3.out.tre.var.tld
          go_wp2_with fail
          refine (learns_in h (some ⟨g, o, none⟩) n c l k W3 T3.out.sl HL.out.2.1 HL.out.2.2).mono ?_
          rintro _ X ⟨a2, c2, rfl, s2, b2, f2⟩
          have FR : Hid (Nw w a2) := f2.up T3.out.tre.bel.size
          clear f2
          rw [HP.out] at s2
          obtain ⟨U, sU, h1, h2, gU⟩ := (T3.out.tre.below b2).tell (y := .slice a2 n c2) rfl
          have G : Hid (RvAt U (w.heap.size + 1) 39 (trc h (.slice a2 n c2)) ∧ SlAt U a2 n c2 (OO.getD l) ∧ Below w.heap.size w U ∧ OO.isSome = true) := by
            rw [E.out]
            exact ⟨h1, s2.keptT (T3.out.tre.below b2).out gU, h2, rfl⟩
          clear h1 h2 gU s2 b2
          go_wp2
          refine bodyPost_ret (results_tb Tryz.results170 _ _ _ _ _ rfl G.out.1) rfl ?_
          exact ⟨a2, c2, by rw [G.out.2.2.2]; rfl, G.out.2.1, G.out.2.2.1, Or.inr FR.out⟩
    · cases TB
      · have E : OO = none := by
          rw [← EO.out]
          unfold leaO
          rw [HP.out]
          rw [if_neg (by rw [EP.out]; simp), if_neg (by rw [EP.out, EB.out.2.1]; simp), if_neg (by rw [ET.out]; simp)]
        have E : Hid (OO = none) := E
        have c7 := T0.out.pv.pbit (j := 7) rfl
        rw [EB.out.1] at c7
        have c9 := T0.out.pv.pbit (j := 9) rfl
        rw [EB.out.2.1] at c9
        have c10 := T0.out.pv.pbit (j := 10) rfl
        rw [EB.out.2.2] at c10
        have lp0 := T0.out.pv.pld
        go_enter Tryz.func170, Tryz.ntmps170
        go_wp2_with fail
        refine (hasp_any p W0).mono ?_
        rintro _ W1 ⟨rfl, b1_⟩
        rw [EP.out]
        have T1 : Hid (TP w W1 w.heap.size (w.heap.size + 1) Z h g o n c l p) := T0.out.below b1_
        clear c7 c9 c10 lp0 b1_
        have c7 := T1.out.pv.pbit (j := 7) rfl
        rw [EB.out.1] at c7
        have c9 := T1.out.pv.pbit (j := 9) rfl
        rw [EB.out.2.1] at c9
        have c10 := T1.out.pv.pbit (j := 10) rfl
        rw [EB.out.2.2] at c10
        have lp1 := T1.out.pv.pld
        go_wp2_with fail
        refine (hasp_any p W1).mono ?_
        rintro _ W2 ⟨rfl, b2_⟩
        rw [EP.out]
        have T2 : Hid (TP w W2 w.heap.size (w.heap.size + 1) Z h g o n c l p) := T1.out.below b2_
        clear c7 c9 c10 lp1 b2_
        have c7 := T2.out.pv.pbit (j := 7) rfl
        rw [EB.out.1] at c7
        have c9 := T2.out.pv.pbit (j := 9) rfl
        rw [EB.out.2.1] at c9
        have c10 := T2.out.pv.pbit (j := 10) rfl
        rw [EB.out.2.2] at c10
        have lp2 := T2.out.pv.pld
        go_wp2_with fail
        refine (told_any p W2).mono ?_
        rintro _ W3 ⟨rfl, b3_⟩
        rw [ET.out]
        have T3 : Hid (TP w W3 w.heap.size (w.heap.size + 1) Z h g o n c l p) := T2.out.below b3_
        clear c7 c9 c10 lp2 b3_
        have c7 := T3.out.pv.pbit (j := 7) rfl
        rw [EB.out.1] at c7
        have c9 := T3.out.pv.pbit (j := 9) rfl
        rw [EB.out.2.1] at c9
        have c10 := T3.out.pv.pbit (j := 10) rfl
        rw [EB.out.2.2] at c10
        have lp3 := T3.out.pv.pld
        have lt0 := T3.out.tre.var.tld
        obtain ⟨U, sU, h1, h2, gU⟩ := T3.out.tre.tell (y := .slice (some ⟨g, o, none⟩) n c) rfl
        have G : Hid (RvAt U (w.heap.size + 1) 39 (trc h (.slice (some ⟨g, o, none⟩) n c)) ∧ SlAt U (some ⟨g, o, none⟩) n c (OO.getD l) ∧ Below w.heap.size w U ∧ OO.isSome = false) := by
          rw [E.out]
          exact ⟨h1, T3.out.sl.keptT T3.out.tre.out gU, h2, rfl⟩
        clear h1 h2 gU
        go_wp2
        refine bodyPost_ret (results_tb Tryz.results170 _ _ _ _ _ rfl G.out.1) rfl ?_
        exact ⟨some ⟨g, o, none⟩, c, by rw [G.out.2.2.2]; rfl, G.out.2.1, G.out.2.2.1, Or.inl rfl⟩
      · have E : OO = some (l.set k (lrnP p)) := by
          rw [← EO.out]
          unfold leaO
          rw [HP.out]
          rw [if_neg (by rw [EP.out]; simp), if_neg (by rw [EP.out, EB.out.2.1]; simp), if_pos ET.out]
        have E : Hid (OO = some (l.set k (lrnP p))) := E
        have c7 := T0.out.pv.pbit (j := 7) rfl
        rw [EB.out.1] at c7
        have c9 := T0.out.pv.pbit (j := 9) rfl
        rw [EB.out.2.1] at c9
        have c10 := T0.out.pv.pbit (j := 10) rfl
        rw [EB.out.2.2] at c10
        have lp0 := T0.out.pv.pld
        go_enter Tryz.func170, Tryz.ntmps170
        go_wp2_with fail
        refine (hasp_any p W0).mono ?_
        rintro _ W1 ⟨rfl, b1_⟩
        rw [EP.out]
        have T1 : Hid (TP w W1 w.heap.size (w.heap.size + 1) Z h g o n c l p) := T0.out.below b1_
        clear c7 c9 c10 lp0 b1_
        have c7 := T1.out.pv.pbit (j := 7) rfl
        rw [EB.out.1] at c7
        have c9 := T1.out.pv.pbit (j := 9) rfl
        rw [EB.out.2.1] at c9
        have c10 := T1.out.pv.pbit (j := 10) rfl
        rw [EB.out.2.2] at c10
        have lp1 := T1.out.pv.pld
        go_wp2_with fail
        refine (hasp_any p W1).mono ?_
        rintro _ W2 ⟨rfl, b2_⟩
        rw [EP.out]
        have T2 : Hid (TP w W2 w.heap.size (w.heap.size + 1) Z h g o n c l p) := T1.out.below b2_
        clear c7 c9 c10 lp1 b2_
        have c7 := T2.out.pv.pbit (j := 7) rfl
        rw [EB.out.1] at c7
        have c9 := T2.out.pv.pbit (j := 9) rfl
        rw [EB.out.2.1] at c9
        have c10 := T2.out.pv.pbit (j := 10) rfl
        rw [EB.out.2.2] at c10
        have lp2 := T2.out.pv.pld
        go_wp2_with fail
        refine (told_any p W2).mono ?_
        rintro _ W3 ⟨rfl, b3_⟩
        rw [ET.out]
        have T3 : Hid (TP w W3 w.heap.size (w.heap.size + 1) Z h g o n c l p) := T2.out.below b3_
        clear c7 c9 c10 lp2 b3_
        have c7 := T3.out.pv.pbit (j := 7) rfl
        rw [EB.out.1] at c7
        have c9 := T3.out.pv.pbit (j := 9) rfl
        rw [EB.out.2.1] at c9
        have c10 := T3.out.pv.pbit (j := 10) rfl
        rw [EB.out.2.2] at c10
        have lp3 := T3.out.pv.pld
        have lt0 := T3.out.tre.var.tld
        go_wp2_with fail
        refine (learns_in h (some ⟨g, o, none⟩) n c l k W3 T3.out.sl HL.out.2.1 HL.out.2.2).mono ?_
        rintro _ X ⟨a2, c2, rfl, s2, b2, f2⟩
        have FR : Hid (Nw w a2) := f2.up T3.out.tre.bel.size
        clear f2
        rw [HP.out] at s2
        obtain ⟨U, sU, h1, h2, gU⟩ := (T3.out.tre.below b2).tell (y := .slice a2 n c2) rfl
        have G : Hid (RvAt U (w.heap.size + 1) 39 (trc h (.slice a2 n c2)) ∧ SlAt U a2 n c2 (OO.getD l) ∧ Below w.heap.size w U ∧ OO.isSome = true) := by
          rw [E.out]
          exact ⟨h1, s2.keptT (T3.out.tre.below b2).out gU, h2, rfl⟩
        clear h1 h2 gU s2 b2
        go_wp2
        refine bodyPost_ret (results_tb Tryz.results170 _ _ _ _ _ rfl G.out.1) rfl ?_
        exact ⟨a2, c2, by rw [G.out.2.2.2]; rfl, G.out.2.1, G.out.2.2.1, Or.inr FR.out⟩
  · cases b7
    · cases TB
      · have E : OO = none := by
          rw [← EO.out]
          unfold leaO
          rw [HP.out]
          rw [if_neg (by rw [EP.out, EB.out.1]; simp), if_neg (by rw [EP.out]; simp), if_neg (by rw [ET.out]; simp)]
        have E : Hid (OO = none) := E
        have c7 := T0.out.pv.pbit (j := 7) rfl
        rw [EB.out.1] at c7
        have c9 := T0.out.pv.pbit (j := 9) rfl
        rw [EB.out.2.1] at c9
        have c10 := T0.out.pv.pbit (j := 10) rfl
        rw [EB.out.2.2] at c10
        have lp0 := T0.out.pv.pld
        go_enter Tryz.func170, Tryz.ntmps170
        go_wp2_with fail
        refine (hasp_any p W0).mono ?_
        rintro _ W1 ⟨rfl, b1_⟩
        rw [EP.out]
        have T1 : Hid (TP w W1 w.heap.size (w.heap.size + 1) Z h g o n c l p) := T0.out.below b1_
        clear c7 c9 c10 lp0 b1_
        have c7 := T1.out.pv.pbit (j := 7) rfl
        rw [EB.out.1] at c7
        have c9 := T1.out.pv.pbit (j := 9) rfl
        rw [EB.out.2.1] at c9
        have c10 := T1.out.pv.pbit (j := 10) rfl
        rw [EB.out.2.2] at c10
        have lp1 := T1.out.pv.pld
        go_wp2_with fail
        refine (hasp_any p W1).mono ?_
        rintro _ W2 ⟨rfl, b2_⟩
        rw [EP.out]
        have T2 : Hid (TP w W2 w.heap.size (w.heap.size + 1) Z h g o n c l p) := T1.out.below b2_
        clear c7 c9 c10 lp1 b2_
        have c7 := T2.out.pv.pbit (j := 7) rfl
        rw [EB.out.1] at c7
        have c9 := T2.out.pv.pbit (j := 9) rfl
        rw [EB.out.2.1] at c9
        have c10 := T2.out.pv.pbit (j := 10) rfl
        rw [EB.out.2.2] at c10
        have lp2 := T2.out.pv.pld
        go_wp2_with fail
        refine (told_any p W2).mono ?_
        rintro _ W3 ⟨rfl, b3_⟩
        rw [ET.out]
        have T3 : Hid (TP w W3 w.heap.size (w.heap.size + 1) Z h g o n c l p) := T2.out.below b3_
        clear c7 c9 c10 lp2 b3_
        have c7 := T3.out.pv.pbit (j := 7) rfl
        rw [EB.out.1] at c7
        have c9 := T3.out.pv.pbit (j := 9) rfl
        rw [EB.out.2.1] at c9
        have c10 := T3.out.pv.pbit (j := 10) rfl
        rw [EB.out.2.2] at c10
        have lp3 := T3.out.pv.pld
        have lt0 := T3.out.tre.var.tld
        obtain ⟨U, sU, h1, h2, gU⟩ := T3.out.tre.tell (y := .slice (some ⟨g, o, none⟩) n c) rfl
        have G : Hid (RvAt U (w.heap.size + 1) 39 (trc h (.slice (some ⟨g, o, none⟩) n c)) ∧ SlAt U (some ⟨g, o, none⟩) n c (OO.getD l) ∧ Below w.heap.size w U ∧ OO.isSome = false) := by
          rw [E.out]
          exact ⟨h1, T3.out.sl.keptT T3.out.tre.out gU, h2, rfl⟩
        clear h1 h2 gU
        go_wp2
        refine bodyPost_ret (results_tb Tryz.results170 _ _ _ _ _ rfl G.out.1) rfl ?_
        exact ⟨some ⟨g, o, none⟩, c, by rw [G.out.2.2.2]; rfl, G.out.2.1, G.out.2.2.1, Or.inl rfl⟩
      · have E : OO = some (l.set k (lrnP p)) := by
          rw [← EO.out]
          unfold leaO
          rw [HP.out]
          rw [if_neg (by rw [EP.out, EB.out.1]; simp), if_neg (by rw [EP.out]; simp), if_pos ET.out]
        have E : Hid (OO = some (l.set k (lrnP p))) := E
        have c7 := T0.out.pv.pbit (j := 7) rfl
        rw [EB.out.1] at c7
        have c9 := T0.out.pv.pbit (j := 9) rfl
        rw [EB.out.2.1] at c9
        have c10 := T0.out.pv.pbit (j := 10) rfl
        rw [EB.out.2.2] at c10
        have lp0 := T0.out.pv.pld
        go_enter Tryz.func170, Tryz.ntmps170
        go_wp2_with fail
        refine (hasp_any p W0).mono ?_
        rintro _ W1 ⟨rfl, b1_⟩
        rw [EP.out]
        have T1 : Hid (TP w W1 w.heap.size (w.heap.size + 1) Z h g o n c l p) := T0.out.below b1_
        clear c7 c9 c10 lp0 b1_
        have c7 := T1.out.pv.pbit (j := 7) rfl
        rw [EB.out.1] at c7
        have c9 := T1.out.pv.pbit (j := 9) rfl
        rw [EB.out.2.1] at c9
        have c10 := T1.out.pv.pbit (j := 10) rfl
        rw [EB.out.2.2] at c10
        have lp1 := T1.out.pv.pld
        go_wp2_with fail
        refine (hasp_any p W1).mono ?_
        rintro _ W2 ⟨rfl, b2_⟩
        rw [EP.out]
        have T2 : Hid (TP w W2 w.heap.size (w.heap.size + 1) Z h g o n c l p) := T1.out.below b2_
        clear c7 c9 c10 lp1 b2_
        have c7 := T2.out.pv.pbit (j := 7) rfl
        rw [EB.out.1] at c7
        have c9 := T2.out.pv.pbit (j := 9) rfl
        rw [EB.out.2.1] at c9
        have c10 := T2.out.pv.pbit (j := 10) rfl
        rw [EB.out.2.2] at c10
        have lp2 := T2.out.pv.pld
        go_wp2_with fail
        refine (told_any p W2).mono ?_
        rintro _ W3 ⟨rfl, b3_⟩
        rw [ET.out]
        have T3 : Hid (TP w W3 w.heap.size (w.heap.size + 1) Z h g o n c l p) := T2.out.below b3_
        clear c7 c9 c10 lp2 b3_
        have c7 := T3.out.pv.pbit (j := 7) rfl
        rw [EB.out.1] at c7
        have c9 := T3.out.pv.pbit (j := 9) rfl
        rw [EB.out.2.1] at c9
        have c10 := T3.out.pv.pbit (j := 10) rfl
        rw [EB.out.2.2] at c10
        have lp3 := T3.out.pv.pld
        have lt0 := T3.out.tre.var.tld
        go_wp2_with fail
        refine (learns_in h (some ⟨g, o, none⟩) n c l k W3 T3.out.sl HL.out.2.1 HL.out.2.2).mono ?_
        rintro _ X ⟨a2, c2, rfl, s2, b2, f2⟩
        have FR : Hid (Nw w a2) := f2.up T3.out.tre.bel.size
        clear f2
        rw [HP.out] at s2
        obtain ⟨U, sU, h1, h2, gU⟩ := (T3.out.tre.below b2).tell (y := .slice a2 n c2) rfl
        have G : Hid (RvAt U (w.heap.size + 1) 39 (trc h (.slice a2 n c2)) ∧ SlAt U a2 n c2 (OO.getD l) ∧ Below w.heap.size w U ∧ OO.isSome = true) := by
          rw [E.out]
          exact ⟨h1, s2.keptT (T3.out.tre.below b2).out gU, h2, rfl⟩
        clear h1 h2 gU s2 b2
        go_wp2
        refine bodyPost_ret (results_tb Tryz.results170 _ _ _ _ _ rfl G.out.1) rfl ?_
        exact ⟨a2, c2, by rw [G.out.2.2.2]; rfl, G.out.2.1, G.out.2.2.1, Or.inr FR.out⟩
    · have E : OO = some (sprL l k (detP h p)) := by
        rw [← EO.out]
        unfold leaO
        rw [HP.out]
        rw [if_pos (by rw [EP.out, EB.out.1]; simp)]
      have E : Hid (OO = some (sprL l k (detP h p))) := E
      have c7 := T0.out.pv.pbit (j := 7) rfl
      rw [EB.out.1] at c7
      have c9 := T0.out.pv.pbit (j := 9) rfl
      rw [EB.out.2.1] at c9
      have c10 := T0.out.pv.pbit (j := 10) rfl
      rw [EB.out.2.2] at c10
      have lp0 := T0.out.pv.pld
      go_enter Tryz.func170, Tryz.ntmps170
      go_wp2_with fail
      refine (hasp_any p W0).mono ?_
      rintro _ W1 ⟨rfl, b1_⟩
      rw [EP.out]
      have T1 : Hid (TP w W1 w.heap.size (w.heap.size + 1) Z h g o n c l p) := T0.out.below b1_
      clear c7 c9 c10 lp0 b1_
      have c7 := T1.out.pv.pbit (j := 7) rfl
      rw [EB.out.1] at c7
      have c9 := T1.out.pv.pbit (j := 9) rfl
      rw [EB.out.2.1] at c9
      have c10 := T1.out.pv.pbit (j := 10) rfl
      rw [EB.out.2.2] at c10
      have lp1 := T1.out.pv.pld
      have lt0 := T1.out.tre.var.tld
      go_wp2_with fail
      refine (detected_in h (some ⟨g, o, none⟩) n c l k W1 T1.out.sl HL.out.2.1 HL.out.2.2).mono ?_
      rintro _ X ⟨a2, c2, rfl, s2, b2, f2⟩
      have FR : Hid (Nw w a2) := f2.up T1.out.tre.bel.size
      clear f2
      rw [HP.out] at s2
      obtain ⟨U, sU, h1, h2, gU⟩ := (T1.out.tre.below b2).tell (y := .slice a2 n c2) rfl
      have G : Hid (RvAt U (w.heap.size + 1) 39 (trc h (.slice a2 n c2)) ∧ SlAt U a2 n c2 (OO.getD l) ∧ Below w.heap.size w U ∧ OO.isSome = true) := by
        rw [E.out]
        exact ⟨h1, s2.keptT (T1.out.tre.below b2).out gU, h2, rfl⟩
      clear h1 h2 gU s2 b2
      go_wp2
      refine bodyPost_ret (results_tb Tryz.results170 _ _ _ _ _ rfl G.out.1) rfl ?_
      exact ⟨a2, c2, by rw [G.out.2.2.2]; rfl, G.out.2.1, G.out.2.2.1, Or.inr FR.out⟩
end S14
end
end Go.Proofs.YtlchejbggnbccaaGreat
