/-
  The walks of what is taken of a Config and an RST alike.
-/
import Derived.Test.YtfpoopllkmnagaaDoorSmall
import Derived.Test.YtfpoopllkmnagaaDoorEqs
namespace Go.Proofs.YtfpoopllkmnagaaDoor
set_option linter.unusedVariables false
set_option maxRecDepth 4000
set_option linter.unusedSimpArgs false
open Go.RowKit

attribute [local go_sem ↓] ldS32 ldS49 ldS28 ldS30 ldS83 stS32 stS49 stS28 stS30 eqP_eq nqP_eq eqM_eq nqM_eq nqV_eq nqT_eq


theorem and_bit (f p : Nat) (hf : f < 256) (hp : p < 8) : (bits .and .u64 (f : Int) ((2 ^ p : Nat) : Int) != 0) = flB f (2 ^ p) := by
  have hp8 : p = 0 ∨ p = 1 ∨ p = 2 ∨ p = 3 ∨ p = 4 ∨ p = 5 ∨ p = 6 ∨ p = 7 := by omega
  have key : ∀ f : Fin 256, ∀ p : Fin 8, (bits .and .u64 ((f.val : Nat) : Int) ((2 ^ p.val : Nat) : Int) != 0) = flB f.val (2 ^ p.val) := by decide +kernel
  exact key ⟨f, hf⟩ ⟨p, hp⟩

theorem rolesC_at (n : Nat) (h : n < 4) : rolesC[n]? = some (.int .i64 (roOf n)) := by
  have h4 : n = 0 ∨ n = 1 ∨ n = 2 ∨ n = 3 := by omega
  rcases h4 with rfl | rfl | rfl | rfl <;> rfl

/-- A message with other flags. -/
def withF (m : Bp) (f : Nat) : Bp := ⟨m.k, flB f 1, flB f 128, flB f 2, flB f 16, flB f 32, flB f 64, roOf (f / 4 % 4), m.rt, m.co, m.br, m.po, m.a, m.x, m.h, m.d⟩

set_option maxHeartbeats 1000000 in
theorem setFlags_any (m : Bp) (f b : Nat) (w : World) (hR : Rl w) (h : PvAt w b m) (hb : b ≠ 0) (hf : f < 256) :
    Calls Tryd.prog 43 #[.pointer (some ⟨b, 0, none⟩), .int .u64 (f : Nat)] w fun r w' => r = .returned (.tuple #[]) ∧ PvAt w' b (withF m f) ∧ Ch (fun i => i = b) w w' := by
  have c1 := h.c1
  have c2 := h.c2
  have c3 := h.c3
  have c4 := h.c4
  have c5 := h.c5
  have c6 := h.c6
  have c7 := h.c7
  have lv := h.live
  have hi : f / 4 % 4 < 4 := Nat.mod_lt _ (by omega)
  have cr := hR.cell (f / 4 % 4) _ (rolesC_at _ hi)
  have b1 := and_bit f 0 hf (by omega)
  have b2 := and_bit f 1 hf (by omega)
  have b16 := and_bit f 4 hf (by omega)
  have b32 := and_bit f 5 hf (by omega)
  have b64 := and_bit f 6 hf (by omega)
  have b128 := and_bit f 7 hf (by omega)
  have hb' : (0 = b) = False := by simp [Ne.symm hb]
  have H : Hid (PvAt w b m) := h
  have HB : Hid ((bits .and .u64 (f : Int) 1 != 0) = flB f 1 ∧ (bits .and .u64 (f : Int) 2 != 0) = flB f 2 ∧ (bits .and .u64 (f : Int) 16 != 0) = flB f 16 ∧ (bits .and .u64 (f : Int) 32 != 0) = flB f 32 ∧ (bits .and .u64 (f : Int) 64 != 0) = flB f 64 ∧ (bits .and .u64 (f : Int) 128 != 0) = flB f 128) := ⟨b1, b2, b16, b32, b64, b128⟩
  clear h hR b1 b2 b16 b32 b64 b128
  go_enter Tryd.func43, Tryd.ntmps43
  go_wp2
  go_end0
  obtain ⟨e1, e2, e3, e4, e5, e6⟩ := HB.out
  rw [e1, e2, e3, e4, e5, e6]
  refine ⟨rfl, ?_, ?_⟩
  · have := H.out
    unfold PvAt RvAt at this ⊢
    rw [heap_setCell_same _ b 2 _ 32 _ (heap_setCell_same _ b 6 _ 32 _ (heap_setCell_same _ b 5 _ 32 _ (heap_setCell_same _ b 4 _ 32 _ (heap_setCell_same _ b 7 _ 32 _ (heap_setCell_same _ b 3 _ 32 _ (heap_setCell_same w b 1 m.cs 32 _ this))))))]
    rfl
  · have h0 : Ch (fun i => i = b) w w := Ch.refl _ w
    have h1 := h0.setCell ⟨b, 1, none⟩ (.bool (flB f 1)) (fun _ => rfl)
    have h2 := h1.setCell ⟨b, 3, none⟩ (.bool (flB f 2)) (fun _ => rfl)
    have h3 := h2.setCell ⟨b, 7, none⟩ (.int .i64 (roOf (f / 4 % 4))) (fun _ => rfl)
    have h4 := h3.setCell ⟨b, 4, none⟩ (.bool (flB f 16)) (fun _ => rfl)
    have h5 := h4.setCell ⟨b, 5, none⟩ (.bool (flB f 32)) (fun _ => rfl)
    have h6 := h5.setCell ⟨b, 6, none⟩ (.bool (flB f 64)) (fun _ => rfl)
    exact h6.setCell ⟨b, 2, none⟩ (.bool (flB f 128)) (fun _ => rfl)

theorem PvAt.put {W : World} {b : Nat} {m : Bp} (h : PvAt W b m) (k : Nat) (v : Value) (n : Bp) (hn : m.cs.setIfInBounds k v = n.cs) : PvAt (W.setCell ⟨b, k, none⟩ v) b n := by
  unfold PvAt RvAt at *
  rw [heap_setCell_same W b k m.cs 32 v h, hn]

/-- In the midst of taking: the taker's state, the message's variable, the closure's box. -/
structure TB (w W : World) (b o L c x g : Nat) (l : List Int) (mB tB : Nat) (k : Nat) (m : Bp) : Prop where
  st : TSt W b o L c x g l k
  pv : PvAt W mB m
  bx : W.heap[tB]? = some (.cells #[.func (.func 42) #[] #[.pointer (some ⟨x, 0, none⟩), .pointer (some ⟨g, 0, none⟩)]] 66 (0, 0))
  ch : Ch (fun i => i = g ∨ i = mB) w W
  ne : mB ≠ b ∧ mB ≠ g ∧ mB ≠ x ∧ tB ≠ g ∧ tB ≠ mB ∧ tB ≠ b ∧ tB ≠ x
theorem TB.take {w W : World} {b o L c x g : Nat} {l : List Int} {mB tB k : Nat} {m : Bp} (h : TB w W b o L c x g l mB tB k m) (hb : ∀ x ∈ l, 0 ≤ x ∧ x ≤ 255) (y : Int) (s : Nat) (hy : y = (s : Int)) (hs : s ≤ 8) (hk : k + s ≤ l.length) :
    Calls Tryd.prog 42 #[.int .i64 y, .pointer (some ⟨x, 0, none⟩), .pointer (some ⟨g, 0, none⟩)] W fun r w' => r = .returned (.int .u64 (nu (sub l k s) : Nat)) ∧ TB w w' b o L c x g l mB tB (k + s) m := by
  subst hy
  refine (take_any s b o L c x g k l W h.st hb hs hk).mono ?_
  rintro _ w' ⟨rfl, h1, h2⟩
  obtain ⟨n1, n2, n3, n4, n5, n6, n7⟩ := h.ne
  exact ⟨rfl, h1, h2.pv h.pv n2, (h2.block tB (lt_of_block h.bx) n4).trans h.bx, h.ch.trans (h2.wide fun i hi e => Or.inl e), h.ne⟩
theorem TB.set {w W : World} {b o L c x g : Nat} {l : List Int} {mB tB k : Nat} {m : Bp} (h : TB w W b o L c x g l mB tB k m) (j : Nat) (v : Value) (n : Bp) (hn : m.cs.setIfInBounds j v = n.cs) : TB w (W.setCell ⟨mB, j, none⟩ v) b o L c x g l mB tB k n := by
  obtain ⟨n1, n2, n3, n4, n5, n6, n7⟩ := h.ne
  have hc : Ch (fun i => i = mB) W (W.setCell ⟨mB, j, none⟩ v) := (Ch.refl _ W).setCell _ _ (fun _ => rfl)
  exact ⟨h.st.ch hc (Ne.symm n1) (Ne.symm n2) (Ne.symm n3), h.pv.put j v n hn, (hc.block tB (lt_of_block h.bx) n5).trans h.bx, h.ch.trans (hc.wide fun i _ e => Or.inr e), h.ne⟩

theorem sec_any {w W : World} {b o L c x g : Nat} {l : List Int} {mB tB k : Nat} {m : Bp} (h : TB w W b o L c x g l mB tB k m) (hb : ∀ x ∈ l, 0 ≤ x ∧ x ≤ 255) (hk : k + 2 ≤ l.length) :
    Calls Tryd.prog 44 #[.pointer (some ⟨tB, 0, none⟩)] W fun r w' => r = .returned (.int .u8 (nu (sub l k 2) / 256 : Nat)) ∧ TB w w' b o L c x g l mB tB (k + 2) m := by
  have hc := cell_of_one h.bx
  have hN := nu_ok (sub_ok hb k 2) 2 (sub_le _ _ _)
  have H : Hid (TB w W b o L c x g l mB tB k m ∧ (∀ x ∈ l, 0 ≤ x ∧ x ≤ 255) ∧ k + 2 ≤ l.length) := ⟨h, hb, hk⟩
  clear h hb hk
  go_enter Tryd.func44, Tryd.ntmps44
  go_wp2_with fail
  refine (H.out.1.take H.out.2.1 2 2 rfl (by omega) H.out.2.2).mono ?_
  rintro _ w' ⟨rfl, h1⟩
  have H1 : Hid (TB w w' b o L c x g l mB tB (k + 2) m) := h1
  obtain ⟨N, hNN⟩ : ∃ N, nu (sub l k 2) = N := ⟨_, rfl⟩
  rw [hNN] at hN ⊢
  have HNN : Hid (nu (sub l k 2) = N) := hNN
  clear h1 hc hNN
  go_wp2
  go_ret
  refine ⟨ret_int ?_, H1.out⟩
  rw [HNN.out]
  omega

set_option maxHeartbeats 4000000 in
theorem takeBody_any (m : Bp) (b o L c x g mB : Nat) (l : List Int) (w : World) (h : TSt w b o L c x g l 4) (hp : PvAt w mB m) (hR : Rl w) (h0 : mB ≠ 0) (hg0 : g ≠ 0) (n1 : mB ≠ b) (n2 : mB ≠ g) (n3 : mB ≠ x) (hb : ∀ x ∈ l, 0 ≤ x ∧ x ≤ 255) (hl : 35 ≤ l.length) :
    Calls Tryd.prog 30 #[.func (.func 42) #[] #[.pointer (some ⟨x, 0, none⟩), .pointer (some ⟨g, 0, none⟩)], .pointer (some ⟨mB, 0, none⟩)] w fun r w' => r = .returned (.tuple #[]) ∧ PvAt w' mB (cand m.k l) ∧ Ch (fun i => i = g ∨ i = mB) w w' := by
  have hbl := h.lt
  have hgl := lt_of_block h.at_
  have hxl := lt_of_block h.box
  have hml := hp.lt
  have hB : Below w.heap.size w (w.alloc (.cells #[.func (.func 42) #[] #[.pointer (some ⟨x, 0, none⟩), .pointer (some ⟨g, 0, none⟩)]] 66)) := (Below.refl _ _).alloc (Nat.le_refl _) _
  have hT : TB w (w.alloc (.cells #[.func (.func 42) #[] #[.pointer (some ⟨x, 0, none⟩), .pointer (some ⟨g, 0, none⟩)]] 66)) b o L c x g l mB w.heap.size 4 m :=
    ⟨h.below hB, hp.below hB, alloc_at w _, Ch.of hB, n1, n2, n3, by omega, by omega, by omega, by omega⟩
  have HR : Hid (Rl w ∧ mB ≠ 0 ∧ g ≠ 0) := ⟨hR, h0, hg0⟩
  have HL : Hid ((∀ x ∈ l, 0 ≤ x ∧ x ≤ 255) ∧ 35 ≤ l.length) := ⟨hb, hl⟩
  have H0 : Hid (TB w (w.alloc (.cells #[.func (.func 42) #[] #[.pointer (some ⟨x, 0, none⟩), .pointer (some ⟨g, 0, none⟩)]] 66)) b o L c x g l mB w.heap.size 4 m) := hT
  have t0 := cell_of_one hT.bx
  have f0 := nu_ok (sub_ok hb 4 1) 1 (sub_le _ _ _)
  have f1 := nu_ok (sub_ok hb 5 8) 8 (sub_le _ _ _)
  have f2 := nu_ok (sub_ok hb 13 4) 4 (sub_le _ _ _)
  have f3 := nu_ok (sub_ok hb 17 8) 8 (sub_le _ _ _)
  have f4 := nu_ok (sub_ok hb 25 2) 2 (sub_le _ _ _)
  have f5 := nu_ok (sub_ok hb 27 2) 2 (sub_le _ _ _)
  have f6 := nu_ok (sub_ok hb 29 2) 2 (sub_le _ _ _)
  have f7 := nu_ok (sub_ok hb 31 2) 2 (sub_le _ _ _)
  have f8 := nu_ok (sub_ok hb 33 2) 2 (sub_le _ _ _)
  clear h hp hR hb hl hB hT hbl hgl hxl hml h0 n1 n2 n3 hg0
  obtain ⟨N0, e0⟩ : ∃ N, nu (sub l 4 1) = N := ⟨_, rfl⟩
  rw [e0] at f0
  obtain ⟨N1, e1⟩ : ∃ N, nu (sub l 5 8) = N := ⟨_, rfl⟩
  rw [e1] at f1
  obtain ⟨N2, e2⟩ : ∃ N, nu (sub l 13 4) = N := ⟨_, rfl⟩
  rw [e2] at f2
  obtain ⟨N3, e3⟩ : ∃ N, nu (sub l 17 8) = N := ⟨_, rfl⟩
  rw [e3] at f3
  obtain ⟨N4, e4⟩ : ∃ N, nu (sub l 25 2) = N := ⟨_, rfl⟩
  rw [e4] at f4
  obtain ⟨N5, e5⟩ : ∃ N, nu (sub l 27 2) / 256 = N := ⟨_, rfl⟩
  have g5 : N5 < 256 := by omega
  obtain ⟨N6, e6⟩ : ∃ N, nu (sub l 29 2) / 256 = N := ⟨_, rfl⟩
  have g6 : N6 < 256 := by omega
  obtain ⟨N7, e7⟩ : ∃ N, nu (sub l 31 2) / 256 = N := ⟨_, rfl⟩
  have g7 : N7 < 256 := by omega
  obtain ⟨N8, e8⟩ : ∃ N, nu (sub l 33 2) / 256 = N := ⟨_, rfl⟩
  have g8 : N8 < 256 := by omega
  have E0 : Hid (nu (sub l 4 1) = N0) := e0
  have E1 : Hid (nu (sub l 5 8) = N1) := e1
  have E2 : Hid (nu (sub l 13 4) = N2) := e2
  have E3 : Hid (nu (sub l 17 8) = N3) := e3
  have E4 : Hid (nu (sub l 25 2) = N4) := e4
  have E5 : Hid (nu (sub l 27 2) / 256 = N5) := e5
  have E6 : Hid (nu (sub l 29 2) / 256 = N6) := e6
  have E7 : Hid (nu (sub l 31 2) / 256 = N7) := e7
  have E8 : Hid (nu (sub l 33 2) / 256 = N8) := e8
  clear e0 e1 e2 e3 e4 e5 e6 e7 e8 f5 f6 f7 f8
  go_enter Tryd.func30, Tryd.ntmps30
  go_wp2_with fail
  refine (H0.out.take HL.out.1 1 1 rfl (by omega) (by have := HL.out.2; omega)).mono ?_
  rintro _ W1 ⟨rfl, p1⟩
  rw [E0.out]
  have H1 : Hid (TB w W1 b o L c x g l mB w.heap.size 5 m) := p1
  have R1 : Hid (Rl W1) := p1.ch.rl HR.out.1 (by have := HR.out.2; omega)
  clear p1 H0 t0
  go_wp2_with fail
  refine (setFlags_any m N0 mB W1 R1.out H1.out.pv HR.out.2.1 (by omega)).mono ?_
  rintro _ W2 ⟨rfl, p2, c2⟩
  obtain ⟨m2, hm2⟩ : ∃ m2, withF m N0 = m2 := ⟨_, rfl⟩
  rw [hm2] at p2
  have H2 : Hid (TB w W2 b o L c x g l mB w.heap.size 5 m2) := ⟨H1.out.st.ch c2 (Ne.symm H1.out.ne.1) (Ne.symm H1.out.ne.2.1) (Ne.symm H1.out.ne.2.2.1), p2, (c2.block w.heap.size (lt_of_block H1.out.bx) H1.out.ne.2.2.2.2.1).trans H1.out.bx, H1.out.ch.trans (c2.wide fun i _ e => Or.inr e), H1.out.ne⟩
  have EM : Hid (withF m N0 = m2) := hm2
  have t2 := cell_of_one H2.out.bx
  clear p2 c2 H1 R1 hm2
  go_wp2_with fail
  refine (H2.out.take HL.out.1 8 8 rfl (by omega) (by have := HL.out.2; omega)).mono ?_
  rintro _ W3 ⟨rfl, p3⟩
  rw [E1.out]
  have q3 : TB w W3 b o L c x g l mB w.heap.size 13 m2 := p3
  have c3 := q3.pv.c8
  have v3 := q3.pv.live 8
  have s3 := q3.set 8 (.int .u64 (N1 : Nat)) (⟨m2.k, m2.tc, m2.ak, m2.pr, m2.le, m2.fo, m2.ag, m2.ro, N1, m2.co, m2.br, m2.po, m2.a, m2.x, m2.h, m2.d⟩ : Bp) rfl
  have H3 : Hid (TB w (W3.setCell ⟨mB, 8, none⟩ (.int .u64 (N1 : Nat))) b o L c x g l mB w.heap.size 13 (⟨m2.k, m2.tc, m2.ak, m2.pr, m2.le, m2.fo, m2.ag, m2.ro, N1, m2.co, m2.br, m2.po, m2.a, m2.x, m2.h, m2.d⟩ : Bp)) := s3
  have t3 := cell_of_one H3.out.bx
  clear p3 q3 s3 t2 H2
  go_wp2_with fail
  refine (H3.out.take HL.out.1 4 4 rfl (by omega) (by have := HL.out.2; omega)).mono ?_
  rintro _ W4 ⟨rfl, p4⟩
  rw [E2.out]
  have q4 : TB w W4 b o L c x g l mB w.heap.size 17 (⟨m2.k, m2.tc, m2.ak, m2.pr, m2.le, m2.fo, m2.ag, m2.ro, N1, m2.co, m2.br, m2.po, m2.a, m2.x, m2.h, m2.d⟩ : Bp) := p4
  have c4 := q4.pv.c9
  have v4 := q4.pv.live 9
  have s4 := q4.set 9 (.int .u32 (N2 : Nat)) (⟨m2.k, m2.tc, m2.ak, m2.pr, m2.le, m2.fo, m2.ag, m2.ro, N1, N2, m2.br, m2.po, m2.a, m2.x, m2.h, m2.d⟩ : Bp) rfl
  have H4 : Hid (TB w (W4.setCell ⟨mB, 9, none⟩ (.int .u32 (N2 : Nat))) b o L c x g l mB w.heap.size 17 (⟨m2.k, m2.tc, m2.ak, m2.pr, m2.le, m2.fo, m2.ag, m2.ro, N1, N2, m2.br, m2.po, m2.a, m2.x, m2.h, m2.d⟩ : Bp)) := s4
  have t4 := cell_of_one H4.out.bx
  clear p4 q4 s4 t3 H3 c3 v3
  go_wp2_with fail
  refine (H4.out.take HL.out.1 8 8 rfl (by omega) (by have := HL.out.2; omega)).mono ?_
  rintro _ W5 ⟨rfl, p5⟩
  rw [E3.out]
  have q5 : TB w W5 b o L c x g l mB w.heap.size 25 (⟨m2.k, m2.tc, m2.ak, m2.pr, m2.le, m2.fo, m2.ag, m2.ro, N1, N2, m2.br, m2.po, m2.a, m2.x, m2.h, m2.d⟩ : Bp) := p5
  have c5 := q5.pv.c10
  have v5 := q5.pv.live 10
  have s5 := q5.set 10 (.int .u64 (N3 : Nat)) (⟨m2.k, m2.tc, m2.ak, m2.pr, m2.le, m2.fo, m2.ag, m2.ro, N1, N2, N3, m2.po, m2.a, m2.x, m2.h, m2.d⟩ : Bp) rfl
  have H5 : Hid (TB w (W5.setCell ⟨mB, 10, none⟩ (.int .u64 (N3 : Nat))) b o L c x g l mB w.heap.size 25 (⟨m2.k, m2.tc, m2.ak, m2.pr, m2.le, m2.fo, m2.ag, m2.ro, N1, N2, N3, m2.po, m2.a, m2.x, m2.h, m2.d⟩ : Bp)) := s5
  have t5 := cell_of_one H5.out.bx
  clear p5 q5 s5 t4 H4 c4 v4
  go_wp2_with fail
  refine (H5.out.take HL.out.1 2 2 rfl (by omega) (by have := HL.out.2; omega)).mono ?_
  rintro _ W6 ⟨rfl, p6⟩
  rw [E4.out]
  have q6 : TB w W6 b o L c x g l mB w.heap.size 27 (⟨m2.k, m2.tc, m2.ak, m2.pr, m2.le, m2.fo, m2.ag, m2.ro, N1, N2, N3, m2.po, m2.a, m2.x, m2.h, m2.d⟩ : Bp) := p6
  have c6 := q6.pv.c11
  have v6 := q6.pv.live 11
  have s6 := q6.set 11 (.int .u16 (N4 : Nat)) (⟨m2.k, m2.tc, m2.ak, m2.pr, m2.le, m2.fo, m2.ag, m2.ro, N1, N2, N3, N4, m2.a, m2.x, m2.h, m2.d⟩ : Bp) rfl
  have H6 : Hid (TB w (W6.setCell ⟨mB, 11, none⟩ (.int .u16 (N4 : Nat))) b o L c x g l mB w.heap.size 27 (⟨m2.k, m2.tc, m2.ak, m2.pr, m2.le, m2.fo, m2.ag, m2.ro, N1, N2, N3, N4, m2.a, m2.x, m2.h, m2.d⟩ : Bp)) := s6
  have t6 := cell_of_one H6.out.bx
  clear p6 q6 s6 t5 H5 c5 v5
  go_wp2_with fail
  refine (sec_any H6.out HL.out.1 (by have := HL.out.2; omega)).mono ?_
  rintro _ W7 ⟨rfl, p7⟩
  rw [E5.out]
  have q7 : TB w W7 b o L c x g l mB w.heap.size 29 (⟨m2.k, m2.tc, m2.ak, m2.pr, m2.le, m2.fo, m2.ag, m2.ro, N1, N2, N3, N4, m2.a, m2.x, m2.h, m2.d⟩ : Bp) := p7
  have c7 := q7.pv.c12
  have v7 := q7.pv.live 12
  have s7 := q7.set 12 (.int .u8 (N5 : Nat)) (⟨m2.k, m2.tc, m2.ak, m2.pr, m2.le, m2.fo, m2.ag, m2.ro, N1, N2, N3, N4, N5, m2.x, m2.h, m2.d⟩ : Bp) rfl
  have H7 : Hid (TB w (W7.setCell ⟨mB, 12, none⟩ (.int .u8 (N5 : Nat))) b o L c x g l mB w.heap.size 29 (⟨m2.k, m2.tc, m2.ak, m2.pr, m2.le, m2.fo, m2.ag, m2.ro, N1, N2, N3, N4, N5, m2.x, m2.h, m2.d⟩ : Bp)) := s7
  have t7 := cell_of_one H7.out.bx
  clear p7 q7 s7 t6 H6 c6 v6
  go_wp2_with fail
  refine (sec_any H7.out HL.out.1 (by have := HL.out.2; omega)).mono ?_
  rintro _ W8 ⟨rfl, p8⟩
  rw [E6.out]
  have q8 : TB w W8 b o L c x g l mB w.heap.size 31 (⟨m2.k, m2.tc, m2.ak, m2.pr, m2.le, m2.fo, m2.ag, m2.ro, N1, N2, N3, N4, N5, m2.x, m2.h, m2.d⟩ : Bp) := p8
  have c8 := q8.pv.c13
  have v8 := q8.pv.live 13
  have s8 := q8.set 13 (.int .u8 (N6 : Nat)) (⟨m2.k, m2.tc, m2.ak, m2.pr, m2.le, m2.fo, m2.ag, m2.ro, N1, N2, N3, N4, N5, N6, m2.h, m2.d⟩ : Bp) rfl
  have H8 : Hid (TB w (W8.setCell ⟨mB, 13, none⟩ (.int .u8 (N6 : Nat))) b o L c x g l mB w.heap.size 31 (⟨m2.k, m2.tc, m2.ak, m2.pr, m2.le, m2.fo, m2.ag, m2.ro, N1, N2, N3, N4, N5, N6, m2.h, m2.d⟩ : Bp)) := s8
  have t8 := cell_of_one H8.out.bx
  clear p8 q8 s8 t7 H7 c7 v7
  go_wp2_with fail
  refine (sec_any H8.out HL.out.1 (by have := HL.out.2; omega)).mono ?_
  rintro _ W9 ⟨rfl, p9⟩
  rw [E7.out]
  have q9 : TB w W9 b o L c x g l mB w.heap.size 33 (⟨m2.k, m2.tc, m2.ak, m2.pr, m2.le, m2.fo, m2.ag, m2.ro, N1, N2, N3, N4, N5, N6, m2.h, m2.d⟩ : Bp) := p9
  have c9 := q9.pv.c14
  have v9 := q9.pv.live 14
  have s9 := q9.set 14 (.int .u8 (N7 : Nat)) (⟨m2.k, m2.tc, m2.ak, m2.pr, m2.le, m2.fo, m2.ag, m2.ro, N1, N2, N3, N4, N5, N6, N7, m2.d⟩ : Bp) rfl
  have H9 : Hid (TB w (W9.setCell ⟨mB, 14, none⟩ (.int .u8 (N7 : Nat))) b o L c x g l mB w.heap.size 33 (⟨m2.k, m2.tc, m2.ak, m2.pr, m2.le, m2.fo, m2.ag, m2.ro, N1, N2, N3, N4, N5, N6, N7, m2.d⟩ : Bp)) := s9
  have t9 := cell_of_one H9.out.bx
  clear p9 q9 s9 t8 H8 c8 v8
  go_wp2_with fail
  refine (sec_any H9.out HL.out.1 (by have := HL.out.2; omega)).mono ?_
  rintro _ W10 ⟨rfl, p10⟩
  rw [E8.out]
  have q10 : TB w W10 b o L c x g l mB w.heap.size 35 (⟨m2.k, m2.tc, m2.ak, m2.pr, m2.le, m2.fo, m2.ag, m2.ro, N1, N2, N3, N4, N5, N6, N7, m2.d⟩ : Bp) := p10
  have c10 := q10.pv.c15
  have v10 := q10.pv.live 15
  have s10 := q10.set 15 (.int .u8 (N8 : Nat)) (⟨m2.k, m2.tc, m2.ak, m2.pr, m2.le, m2.fo, m2.ag, m2.ro, N1, N2, N3, N4, N5, N6, N7, N8⟩ : Bp) rfl
  have H10 : Hid (TB w (W10.setCell ⟨mB, 15, none⟩ (.int .u8 (N8 : Nat))) b o L c x g l mB w.heap.size 35 (⟨m2.k, m2.tc, m2.ak, m2.pr, m2.le, m2.fo, m2.ag, m2.ro, N1, N2, N3, N4, N5, N6, N7, N8⟩ : Bp)) := s10
  have t10 := cell_of_one H10.out.bx
  clear p10 q10 s10 t9 H9 c9 v9
  go_wp2
  go_end0
  have hp := H10.out
  refine ⟨rfl, ?_, hp.ch⟩
  have e := hp.pv
  rw [← EM.out] at e
  unfold cand
  rw [E0.out, E1.out, E2.out, E3.out, E4.out, E5.out, E6.out, E7.out, E8.out]
  exact e
end Go.Proofs.YtfpoopllkmnagaaDoor
