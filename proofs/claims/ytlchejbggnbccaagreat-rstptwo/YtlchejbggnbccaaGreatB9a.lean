/-
  Trees whose ports are changed: each with its three changes; Up; the definition's Has and Up. Their walks. And what follows from it here.
-/
import Derived.Test.YtlchejbggnbccaaGreatBbb
import Derived.Test.YtlchejbggnbccaaGreatBba
import Derived.Deep.RegionHeld3
namespace Go.Proofs.YtlchejbggnbccaaGreat
set_option linter.unusedVariables false
set_option linter.unusedSimpArgs false
set_option maxRecDepth 4000
section
namespace S9
open Go.RowKit

def upP (b : Bool) (p : Pt) : Pt := p.setB 2 rfl b
def gtP (l : List Pt) (i : Nat) : Pt := l.getD i zeroP
theorem gtP_at {l : List Pt} {i : Nat} (h : i < l.length) : l[i]? = some (gtP l i) := by
  simp [gtP, List.getD_eq_getElem?_getD, List.getElem?_eq_getElem h]
def mapTo (f : Pt → Pt) (l : List Pt) (i : Nat) : List Pt := (l.take i).map f ++ l.drop i
theorem mapTo_at {f : Pt → Pt} {l : List Pt} {i : Nat} (h : i < l.length) : (mapTo f l i)[i]? = some (gtP l i) := by
  rw [← gtP_at h]
  unfold mapTo
  rw [List.getElem?_append_right (by simp; omega), List.length_map, List.length_take, Nat.min_eq_left (by omega), Nat.sub_self, List.getElem?_drop]
  rfl
theorem mapTo_next {f : Pt → Pt} {l : List Pt} {i : Nat} (h : i < l.length) : (mapTo f l i).set i (f (gtP l i)) = mapTo f l (i + 1) := by
  unfold mapTo
  have e : ((l.take i).map f).length = i := by simp; omega
  have hg : gtP l i = l[i] := by
    have := gtP_at h
    rw [List.getElem?_eq_getElem h] at this
    exact (Option.some.inj this).symm
  rw [List.set_append_right _ _ (by omega), e, Nat.sub_self, List.drop_eq_getElem_cons h, List.set_cons_zero, List.take_add_one, List.getElem?_eq_getElem h, hg, List.map_append, List.append_assoc]
  rfl
theorem mapTo_all (f : Pt → Pt) (l : List Pt) : mapTo f l l.length = l.map f := by simp [mapTo]
theorem mapTo_zero (f : Pt → Pt) (l : List Pt) : mapTo f l 0 = l := by simp [mapTo]
attribute [local go_sem ↓] ldP stP ldT stT apE st32 st4
def Chg (F : Nat) (f : Pt → Pt) : Prop := ∀ (W : World) (g c i q : Nat) (l : List Pt) (p : Pt), PAt W g c l → l[i]? = some p → q = i * 77 →
  Calls Tryz.prog F #[.pointer (some ⟨g, q, none⟩)] W fun r W' => r = .returned (.tuple #[]) ∧ PAt W' g c (l.set i (f p)) ∧ W.grownBy W' (some g)
set_option maxHeartbeats 4000000 in
theorem each_any (F : Nat) (f : Pt → Pt) (hF : Chg F f) (hc : ∀ (x : Value) (V : World), (callFunc F #[x]).run Tryz.prog V = .ok (.enter F #[x]) V) (h : Hd) (a : Option Addr) (n c : Nat) (l : List Pt) (w : World) (hs : SlAt w a n c l) (hn : n ≤ 1000) :
    Calls Tryz.prog 70 #[.agg (trc h (.slice a n c)), .func (.func F) #[] #[]] w fun r w' => ∃ v, r = .returned (.agg (trc h v)) ∧ Own w' w.heap.size v (l.map f) ∧ Below w.heap.size w w' := by
  obtain ⟨W, hW, r0, r1, bW, zW⟩ := two_t w h (.slice a n c)
  have l0 := r0.tld
  have H : Hid (SlAt W a n c l ∧ n ≤ 1000 ∧ l.length = n ∧ RvAt W w.heap.size 39 (trc h (.slice a n c)) ∧ RvAt W (w.heap.size + 1) 39 (trc zeroH (.slice none 0 0)) ∧ Below w.heap.size w W ∧ W.heap.size = w.heap.size + 2) := ⟨hs.below bW, hn, hs.len, r0, r1, bW, zW⟩
  clear hs hn r0 r1 bW zW
  go_enter Tryz.func70, Tryz.ntmps70
  go_wp2_with fail
  refine (copy_any h a n c l W H.out.1 H.out.2.1).mono ?_
  rintro _ W2 ⟨v, rfl, o2, b2⟩
  obtain ⟨W3, s3, r3, g3⟩ := (H.out.2.2.2.1.below b2).tst (g := h) (y := v) o2.one
  have z2 := H.out.2.2.2.2.2.2
  have o3 := o2.keptBut g3 (o2.apart (by omega))
  have q3 := (H.out.2.2.2.2.1.below b2).keptBut g3 (by simp)
  have b3 : Below w.heap.size w W3 := gro (below_over H.out.2.2.2.2.2.1 b2) g3 (Nat.le_refl _) (by have := b2.size; omega)
  clear b2 g3 l0
  rcases o3.pat with ⟨rfl, rfl⟩ | ⟨g, cc, rfl, hg, hp⟩
  · have c16 := r3.t16
    obtain ⟨W4, s4, r4, g4⟩ := q3.tst (g := h) (y := .slice none 0 0) rfl
    have l3 := r3.tld
    have G : Hid (RvAt W4 (w.heap.size + 1) 39 (trc h (.slice none 0 0)) ∧ Below w.heap.size w W4) := ⟨r4, gro b3 g4 (by omega) b3.size⟩
    clear r3 q3 b3 r4 g4 o2 o3 z2
    go_wp2_with fail
    go_rounds 1
    refine bodyPost_ret (results_row rtT Tryz.results70 _ _ _ _ rfl G.out.1 (trc_size _ _)) rfl ?_
    exact ⟨_, rfl, Own.nil _ _, G.out.2⟩
  · have hl := H.out.2.2.1
    have hn1 := H.out.2.1
    have G : Hid (RvAt W3 w.heap.size 39 (trc h (.slice (some ⟨g, 0, none⟩) l.length cc)) ∧ RvAt W3 (w.heap.size + 1) 39 (trc zeroH (.slice none 0 0)) ∧ Below w.heap.size w W3 ∧ PAt W3 g cc l ∧ w.heap.size + 2 ≤ g) := ⟨r3, q3, b3, hp, by omega⟩
    have c16 := r3.t16
    obtain ⟨X, hX⟩ : ∃ X, X = l.length := ⟨_, rfl⟩
    rw [← hX] at c16
    have hx0 : X ≤ 1000 := by omega
    have GX : Hid (X = l.length) := hX
    clear r3 q3 b3 hp hg hl hn1 o2 o3 z2 hX
    go_wp2_with fail
    go_loopw [5, 11] (fun v5 v11 wr => ∃ i : Nat, i ≤ X ∧ v11 = .int .i64 i ∧ PAt wr g cc (mapTo f l i) ∧ W3.grownBy wr (some g)) (fun _ v11 _ => X - (intOf v11).toNat)
    case atStart => exact ⟨0, by omega, rfl, by rw [mapTo_zero]; exact G.out.2.2.2.1, World.grownBy.refl _ _⟩
    case round =>
      obtain ⟨i, hi, rfl, hpi, hgi⟩ := hrel
      have J : Hid (PAt wr g cc (mapTo f l i) ∧ W3.grownBy wr (some g)) := ⟨hpi, hgi⟩
      have hr := G.out.1.keptBut hgi (by have := G.out.2.2.2.2; simp; omega)
      by_cases hit : i < X
      · have hin0 : (0 : Int) ≤ (i : Int) := by omega
        have hin1 : (i : Int) < (X : Int) := by omega
        have c16 := hr.t16
        rw [← GX.out] at c16
        clear hpi hgi hr
        go_wp2_with fail
        refine (hF wr g cc i (i * 77) (mapTo f l i) (gtP l i) J.out.1 (mapTo_at (by rw [← GX.out]; exact hit)) rfl).mono ?_
        rintro _ V ⟨rfl, pV, gV⟩
        rw [mapTo_next (by rw [← GX.out]; exact hit)] at pV
        go_wp2
        go_roundw
        case rel => exact ⟨i + 1, by omega, by go_num, pV, grown_self J.out.2 gV⟩
        case measure => simp [intOf]; omega
      · have hin : i = X := by omega
        subst hin
        have hin1 : ¬ (i : Int) < (i : Int) := by omega
        have l3 := hr.tld
        have q3 := G.out.2.1.keptBut hgi (by have := G.out.2.2.2.2; simp; omega)
        obtain ⟨W4, s4, r4, g4⟩ := q3.tst (g := h) (y := .slice (some ⟨g, 0, none⟩) l.length cc) rfl
        have pe := hpi.keptBut g4 (by have := G.out.2.2.2.2; simp; omega)
        rw [GX.out, mapTo_all] at pe
        have be : Below w.heap.size w W4 := gro (gro G.out.2.2.1 hgi (by have := G.out.2.2.2.2; omega) G.out.2.2.1.size) g4 (by omega) (by have := G.out.2.2.1.size; have := hgi.size; omega)
        have K : Hid (RvAt W4 (w.heap.size + 1) 39 (trc h (.slice (some ⟨g, 0, none⟩) l.length cc)) ∧ PAt W4 g cc (l.map f) ∧ Below w.heap.size w W4) := ⟨r4, pe, be⟩
        clear hpi hgi hr q3 r4 g4 pe be
        go_wp2
        refine bodyPost_ret (results_row rtT Tryz.results70 _ _ _ _ rfl K.out.1 (trc_size _ _)) rfl ?_
        refine ⟨_, rfl, ?_, K.out.2.2⟩
        have := K.out.2.1.own (B := w.heap.size) (by have := G.out.2.2.2.2; omega)
        rw [List.length_map] at this
        exact this
theorem ent39 (x : Value) (V : World) : (callFunc 71 #[x]).run Tryz.prog V = .ok (.enter 71 #[x]) V := by go_simp
end S9
end
section
namespace S9
open Go.RowKit

attribute [local go_sem ↓] ldP stP ldT stT apE st32 st4
theorem within_any (n lo hi : Int) (w : World) : Calls Tryz.prog 66 #[.int .i64 n, .int .i64 lo, .int .i64 hi] w fun r w' => r = .returned (.bool (decide (lo ≤ n) && decide (n ≤ hi))) ∧ Below w.heap.size w w' := by
  go_enter Tryz.func66, Tryz.ntmps66
  by_cases h1 : lo ≤ n
  · by_cases h2 : n ≤ hi
    · go_wp2
      go_ret
      exact ⟨by simp [h1, h2], Below.refl _ _⟩
    · go_wp2
      go_ret
      exact ⟨by simp [h1, h2], Below.refl _ _⟩
  · go_wp2
    go_ret
    exact ⟨by simp; omega, Below.refl _ _⟩
def upL (l : List Pt) (i : Int) (b : Bool) : List Pt := if 0 ≤ i ∧ i < l.length then l.set i.toNat (upP b (gtP l i.toNat)) else l
set_option maxHeartbeats 4000000 in
theorem up_any (h : Hd) (a : Option Addr) (n c : Nat) (l : List Pt) (i : Int) (b : Bool) (w : World) (hs : SlAt w a n c l) (hn : n ≤ 1000) :
    Calls Tryz.prog 43 #[.agg (trc h (.slice a n c)), .int .i64 i, .bool b] w fun r w' => ∃ v, r = .returned (.agg (trc h v)) ∧ Own w' w.heap.size v (upL l i b) ∧ Below w.heap.size w w' := by
  obtain ⟨W, hW, r0, r1, bW, zW⟩ := two_t w h (.slice a n c)
  have l0 := r0.tld
  have H : Hid (SlAt W a n c l ∧ n ≤ 1000 ∧ l.length = n ∧ RvAt W w.heap.size 39 (trc h (.slice a n c)) ∧ RvAt W (w.heap.size + 1) 39 (trc zeroH (.slice none 0 0)) ∧ Below w.heap.size w W ∧ W.heap.size = w.heap.size + 2) := ⟨hs.below bW, hn, hs.len, r0, r1, bW, zW⟩
  clear hs hn r0 r1 bW zW
  go_enter Tryz.func43, Tryz.ntmps43
  go_wp2_with fail
  refine (copy_any h a n c l W H.out.1 H.out.2.1).mono ?_
  rintro _ W2 ⟨v, rfl, o2, b2⟩
  obtain ⟨W3, s3, r3, g3⟩ := (H.out.2.2.2.1.below b2).tst (g := h) (y := v) o2.one
  have z2 := H.out.2.2.2.2.2.2
  have o3 := o2.keptBut g3 (o2.apart (by omega))
  have q3 := (H.out.2.2.2.2.1.below b2).keptBut g3 (by simp)
  have b3 : Below w.heap.size w W3 := gro (below_over H.out.2.2.2.2.2.1 b2) g3 (Nat.le_refl _) (by have := b2.size; omega)
  clear b2 g3 l0
  have q3' := q3
  obtain ⟨av, cv, hv, sv, _⟩ := o3.form
  obtain ⟨X, hX⟩ : ∃ X, X = l.length := ⟨_, rfl⟩
  rw [← hX] at hv
  have hx0 : X ≤ 1000 := by have := H.out.2.1; have := H.out.2.2.1; omega
  have c16 := r3.t16
  rw [hv] at c16
  have l3 := r3.tld
  rw [hv] at l3
  have G : Hid (RvAt W3 w.heap.size 39 (trc h v) ∧ RvAt W3 (w.heap.size + 1) 39 (trc zeroH (.slice none 0 0)) ∧ Below w.heap.size w W3 ∧ Own W3 (w.heap.size + 2) v l ∧ X = l.length ∧ v = .slice av X cv) := ⟨r3, q3, b3, o3.base (by omega), hX, hv⟩
  have hw1 : IntKind.i64.wrap ((X : Int) - 1) = (X : Int) - 1 := IntWalk.i64_in _ (by omega)
  clear r3 q3 q3' b3 o2 o3 z2 sv hX hv
  go_wp2_with fail
  refine (within_any i 0 ((X : Int) - 1) W3).mono ?_
  rintro _ W4 ⟨rfl, b4⟩
  by_cases hi : 0 ≤ i ∧ i < (X : Int)
  · have eb : (decide (0 ≤ i) && decide (i ≤ (X : Int) - 1)) = true := by simp; omega
    rw [eb]
    clear l3 c16
    have o4 := G.out.2.2.2.1.below b4
    have r4 := G.out.1.below b4
    have q4 := G.out.2.1.below b4
    have b4' := below_over G.out.2.2.1 b4
    obtain ⟨k, hk⟩ : ∃ k : Nat, i = (k : Int) := ⟨i.toNat, by omega⟩
    subst hk
    have hkX : k < X := by omega
    have hin0 : (0 : Int) ≤ (k : Int) := by omega
    have hin1 : (k : Int) < (X : Int) := by omega
    have hXl := G.out.2.2.2.2.1
    rcases o4.pat with ⟨hv, hl⟩ | ⟨g, cc, hv, hg, hp⟩
    · rw [hl] at hXl; simp at hXl; omega
    · have c16 := r4.t16
      rw [hv, ← hXl] at c16
      obtain ⟨V, sV, pV, gV⟩ := hp.st1 (q := k * 77 + 2) (j := 2) (v := .bool b) (gtP_at (i := k) (by omega)) info1.1 (by omega) rfl (fit_bit rfl) rfl
      have r5 := r4.keptBut gV (by simp; omega)
      have q5 := q4.keptBut gV (by simp; omega)
      have l5 := r5.tld
      obtain ⟨W6, s6, r6, g6⟩ := q5.tst (g := h) (y := v) (by rw [hv]; rfl)
      have p6 := pV.keptBut g6 (by simp; omega)
      have b6 : Below w.heap.size w W6 := gro (gro b4' gV (by omega) b4'.size) g6 (by omega) (by have := b4'.size; have := gV.size; omega)
      have eu : l.set k ((gtP l k).set 2 (.bool b) (fit_bit rfl)) = upL l (k : Int) b := by
        unfold upL
        rw [if_pos ⟨hin0, by omega⟩]
        rfl
      have ov : Own W6 w.heap.size v (upL l (k : Int) b) := by
        have := p6.own (B := w.heap.size) (by omega)
        rw [eu, ← eu, List.length_set, eu, ← hv] at this
        exact this
      have F : Hid (RvAt W6 (w.heap.size + 1) 39 (trc h v) ∧ Own W6 w.heap.size v (upL l (k : Int) b) ∧ Below w.heap.size w W6) := ⟨r6, ov, b6⟩
      clear hp pV gV r5 q5 r6 g6 p6 b6 eu ov r4 q4 o4 b4' hg b4 eb hv hXl
      go_wp2
      refine bodyPost_ret (results_row rtT Tryz.results43 _ _ _ _ rfl F.out.1 (trc_size _ _)) rfl ?_
      exact ⟨v, rfl, F.out.2.1, F.out.2.2⟩
  · have eb : (decide (0 ≤ i) && decide (i ≤ (X : Int) - 1)) = false := by simp; omega
    rw [eb]
    clear l3 c16
    have o4 := G.out.2.2.2.1.below b4
    have r4 := G.out.1.below b4
    have q4 := G.out.2.1.below b4
    have b4' := below_over G.out.2.2.1 b4
    have l5 := r4.tld
    obtain ⟨W6, s6, r6, g6⟩ := q4.tst (g := h) (y := v) o4.one
    have o6 := o4.keptBut g6 (o4.apart (by omega))
    have eu : upL l i b = l := by
      unfold upL
      rw [if_neg (by have := G.out.2.2.2.2.1; omega)]
    have F : Hid (RvAt W6 (w.heap.size + 1) 39 (trc h v) ∧ Own W6 w.heap.size v (upL l i b) ∧ Below w.heap.size w W6) := ⟨r6, by rw [eu]; exact o6.base (by omega), gro b4' g6 (by omega) b4'.size⟩
    clear o4 r4 q4 b4' r6 g6 o6 eu b4 eb hi
    go_wp2
    refine bodyPost_ret (results_row rtT Tryz.results43 _ _ _ _ rfl F.out.1 (trc_size _ _)) rfl ?_
    exact ⟨v, rfl, F.out.2.1, F.out.2.2⟩
end S9
end
section
namespace S9
open Go.RowKit

def dec1 (n : Int) : Int := if 0 < n then n - 1 else n
theorem dec1_in {n : Int} (h : 0 ≤ n ∧ n ≤ 255) : 0 ≤ dec1 n ∧ dec1 n ≤ 255 := by
  unfold dec1
  split <;> omega
def tm (i : Nat) : Nat := [65, 66, 67, 68, 69, 70, 71, 64].getD i 0
theorem tm_kd {i : Nat} (h : i < 8) : kdP[tm i]? = some (some .u8) := by
  match i, h with
  | 0, _ => rfl
  | 1, _ => rfl
  | 2, _ => rfl
  | 3, _ => rfl
  | 4, _ => rfl
  | 5, _ => rfl
  | 6, _ => rfl
  | 7, _ => rfl
def tickTo (p : Pt) : Nat → Pt
  | 0 => p
  | i + 1 => (tickTo p i).setU (tm i) (dec1 ((tickTo p i).nm (tm i)))
def tickP (p : Pt) : Pt := tickTo p 8
def tps (g q : Nat) : Array Value := #[.pointer (some ⟨g, q + 65, none⟩), .pointer (some ⟨g, q + 66, none⟩), .pointer (some ⟨g, q + 67, none⟩), .pointer (some ⟨g, q + 68, none⟩), .pointer (some ⟨g, q + 69, none⟩), .pointer (some ⟨g, q + 70, none⟩), .pointer (some ⟨g, q + 71, none⟩), .pointer (some ⟨g, q + 64, none⟩)]
theorem infoA : (Tryz.prog.info? 125).map (·.size) = some 8 := by kernel_rfl
theorem rtA : RowTy 125 8 := ⟨infoA, _, Tryz.underlying125, rfl⟩
theorem ldA (x : Value) : Instr.loadAt 125 x = ldS 125 x := rfl
theorem stA (x y : Value) : Instr.storeAt 125 x y = stS 125 x y := rfl
theorem tps_one (g q : Nat) : ∀ v ∈ (tps g q).toList, v.oneCell' = true := by
  intro v hv
  simp only [tps, List.mem_cons, List.not_mem_nil, or_false] at hv
  rcases hv with rfl | rfl | rfl | rfl | rfl | rfl | rfl | rfl <;> rfl
attribute [local go_sem ↓] ldP stP ldT stT apE st32 st4 st5 ldA stA
set_option maxHeartbeats 4000000 in
theorem timers_any (g q : Nat) (w : World) : Calls Tryz.prog 72 #[.pointer (some ⟨g, q, none⟩)] w fun r w' => r = .returned (.agg (tps g q)) ∧ Below w.heap.size w w' := by
  obtain ⟨W, hW⟩ : ∃ W, w.alloc (.cells #[.pointer none, .pointer none, .pointer none, .pointer none, .pointer none, .pointer none, .pointer none, .pointer none] 125) = W := ⟨_, rfl⟩
  have bW : Below w.heap.size w W := by rw [← hW]; exact (Below.refl _ _).alloc (Nat.le_refl _) _
  have rW : RvAt W w.heap.size 125 #[.pointer none, .pointer none, .pointer none, .pointer none, .pointer none, .pointer none, .pointer none, .pointer none] := by rw [← hW]; exact RvAt.new w _ _
  have H : Hid (RvAt W w.heap.size 125 #[.pointer none, .pointer none, .pointer none, .pointer none, .pointer none, .pointer none, .pointer none, .pointer none] ∧ Below w.heap.size w W) := ⟨rW, bW⟩
  clear bW rW
  go_enter Tryz.func72, Tryz.ntmps72
  go_wp2_with fail
  refine wp_region_later_tail 24 (by kernel_rfl) (by kernel_rfl) ?_
  simp only [List.take_succ_cons, List.take_zero]
  repeat (go_big_quiet_step (first | exact rfl))
  refine wpQuiet_nil ?_
  intro u
  simp only [List.drop_succ_cons, List.drop_zero]
  have rU := H.out.1.below u.below
  have sV := rU.st rtA rfl rfl (tps_one g q)
  have rV := rU.set (ds := tps g q)
  have bV : Below w.heap.size w (u.val.setRow w.heap.size (tps g q)) := below_setRow (below_over H.out.2 u.below) (Nat.le_refl _) _
  obtain ⟨V, hV⟩ : ∃ V, u.val.setRow w.heap.size (tps g q) = V := ⟨_, rfl⟩
  rw [hV] at sV rV bV
  unfold tps at sV
  have F : Hid (RvAt V w.heap.size 125 (tps g q) ∧ Below w.heap.size w V) := ⟨rV, bV⟩
  clear rU rV bV hV
  go_wp2
  refine bodyPost_ret (results_row rtA Tryz.results72 _ _ _ _ rfl F.out.1 rfl) rfl ?_
  exact ⟨rfl, F.out.2⟩
theorem ixA (g q i : Nat) (hi : i < 8) (w : World) : (Instr.index 125 (.agg (tps g q)) (.int .i64 (i : Int))).run Tryz.prog w = .ok (.pointer (some ⟨g, q + tm i, none⟩)) w := by
  match i, hi with
  | 0, _ => show (Instr.index 125 (.agg (tps g q)) (.int .i64 ((0 : Nat) : Int))).run Tryz.prog w = .ok (.pointer (some ⟨g, q + tm 0, none⟩)) w; kernel_rfl
  | 1, _ => show (Instr.index 125 (.agg (tps g q)) (.int .i64 ((1 : Nat) : Int))).run Tryz.prog w = .ok (.pointer (some ⟨g, q + tm 1, none⟩)) w; kernel_rfl
  | 2, _ => show (Instr.index 125 (.agg (tps g q)) (.int .i64 ((2 : Nat) : Int))).run Tryz.prog w = .ok (.pointer (some ⟨g, q + tm 2, none⟩)) w; kernel_rfl
  | 3, _ => show (Instr.index 125 (.agg (tps g q)) (.int .i64 ((3 : Nat) : Int))).run Tryz.prog w = .ok (.pointer (some ⟨g, q + tm 3, none⟩)) w; kernel_rfl
  | 4, _ => show (Instr.index 125 (.agg (tps g q)) (.int .i64 ((4 : Nat) : Int))).run Tryz.prog w = .ok (.pointer (some ⟨g, q + tm 4, none⟩)) w; kernel_rfl
  | 5, _ => show (Instr.index 125 (.agg (tps g q)) (.int .i64 ((5 : Nat) : Int))).run Tryz.prog w = .ok (.pointer (some ⟨g, q + tm 5, none⟩)) w; kernel_rfl
  | 6, _ => show (Instr.index 125 (.agg (tps g q)) (.int .i64 ((6 : Nat) : Int))).run Tryz.prog w = .ok (.pointer (some ⟨g, q + tm 6, none⟩)) w; kernel_rfl
  | 7, _ => show (Instr.index 125 (.agg (tps g q)) (.int .i64 ((7 : Nat) : Int))).run Tryz.prog w = .ok (.pointer (some ⟨g, q + tm 7, none⟩)) w; kernel_rfl
theorem gtP_set {l : List Pt} {i : Nat} {p : Pt} (h : i < l.length) : (l.set i p)[i]? = some p := by
  rw [List.getElem?_set, if_pos rfl, if_pos h]
set_option maxHeartbeats 4000000 in
theorem chg_tick : Chg 71 tickP := by
  intro W g c i q l p hp hi hq
  have hil : i < l.length := (List.getElem?_eq_some_iff.1 hi).1
  have e0 : l.set i (tickTo p 0) = l := by
    show l.set i p = l
    have : p = l[i] := by rw [List.getElem?_eq_getElem hil] at hi; exact (Option.some.inj hi).symm
    rw [this, List.set_getElem_self]
  have H : Hid (PAt W g c (l.set i (tickTo p 0)) ∧ q = i * 77 ∧ i < l.length) := ⟨by rw [e0]; exact hp, hq, hil⟩
  clear hp hi hq hil e0
  go_enter Tryz.func71, Tryz.ntmps71
  go_wp2_with fail
  refine (timers_any g q W).mono ?_
  rintro _ W1 ⟨rfl, b1⟩
  go_wp2_with fail
  go_loopw [3, 6] (fun v3 v6 wr => ∃ k : Nat, k ≤ 8 ∧ v6 = .int .i64 k ∧ PAt wr g c (l.set i (tickTo p k)) ∧ W.grownBy wr (some g)) (fun _ v6 _ => 8 - (intOf v6).toNat)
  case atStart => exact ⟨0, by omega, rfl, H.out.1.below b1, grown_of_below b1 _⟩
  case round =>
    obtain ⟨k, hk, rfl, hpk, hgk⟩ := hrel
    by_cases hk8 : k < 8
    · have ix := ixA g q k hk8
      have hin1 : (k : Int) < 8 := by omega
      have hat := gtP_set (p := tickTo p k) H.out.2.2
      have c0 : wr.cell? ⟨g, q + tm k, none⟩ = some (.int .u8 ((tickTo p k).nm (tm k))) := hpk.num hat (tm_kd hk8) (by rw [H.out.2.1])
      obtain ⟨m, hm⟩ : ∃ m, (tickTo p k).nm (tm k) = m := ⟨_, rfl⟩
      have hmr := (tickTo p k).u8 (tm_kd hk8)
      have et : tickTo p (k + 1) = (tickTo p k).setU (tm k) (dec1 m) := by rw [← hm]; rfl
      rw [hm] at c0 hmr
      have et2 := (tickTo p k).setU_is (tm_kd hk8) (wf8 (dec1_in hmr))
      rw [← et] at et2
      by_cases h0 : 0 < m
      · have ed : dec1 m = m - 1 := if_pos h0
        have hw : IntKind.u8.wrap (m - 1) = m - 1 := IntWalk.u8_in _ (by omega)
        obtain ⟨V, sV, pV, gV⟩ := hpk.st1 (q := q + tm k) (j := tm k) (v := .int .u8 (m - 1)) hat info1.2.1 (by rw [← lenP]; exact (List.getElem?_eq_some_iff.1 (tm_kd hk8)).1) rfl (fit_num (tm_kd hk8) (wf8 (by omega))) (by rw [H.out.2.1])
        have pV' : PAt V g c (l.set i (tickTo p (k + 1))) := by
          have e3 : (l.set i (tickTo p k)).set i ((tickTo p k).set (tm k) (.int .u8 (m - 1)) (fit_num (tm_kd hk8) (wf8 (by omega)))) = l.set i (tickTo p (k + 1)) := by
            rw [List.set_set, et2]
            congr 2
            rw [ed]
          rw [e3] at pV
          exact pV
        have J : Hid (PAt V g c (l.set i (tickTo p (k + 1))) ∧ W.grownBy V (some g)) := ⟨pV', grown_self hgk gV⟩
        clear hpk hgk hat hm et et2 ed pV pV' gV hk8
        go_wp2
        go_roundw
        case rel => exact ⟨k + 1, by omega, by go_num, J.out.1, J.out.2⟩
        case measure => simp [intOf]; omega
      · have ed : dec1 m = m := if_neg h0
        have e3 : tickTo p (k + 1) = tickTo p k := by
          rw [et2]
          refine Row.ext' (List.ext_getElem? fun t => ?_)
          show ((tickTo p k).cl.set (tm k) (.int .u8 (dec1 m)))[t]? = _
          rw [List.getElem?_set]
          split
          · rename_i e
            subst e
            rw [ed, ← hm, ← (tickTo p k).num (tm_kd hk8)]
            have := (List.getElem?_eq_some_iff.1 ((tickTo p k).num (tm_kd hk8))).1
            rw [if_pos this, (tickTo p k).num (tm_kd hk8)]
          · rfl
        have J : Hid (PAt wr g c (l.set i (tickTo p (k + 1))) ∧ W.grownBy wr (some g)) := ⟨by rw [e3]; exact hpk, hgk⟩
        clear hpk hgk hat hm et et2 ed e3 hk8
        go_wp2
        go_roundw
        case rel => exact ⟨k + 1, by omega, by go_num, J.out.1, J.out.2⟩
        case measure => simp [intOf]; omega
    · have hk' : k = 8 := by omega
      subst hk'
      have J : Hid (PAt wr g c (l.set i (tickTo p 8)) ∧ W.grownBy wr (some g)) := ⟨hpk, hgk⟩
      clear hpk hgk
      go_wp2
      go_end0
      exact ⟨rfl, J.out.1, J.out.2⟩
end S9
end
section
namespace S9
open Go.RowKit

def eq6 (a b c d e f a' b' c' d' e' f' : Int) : Bool := decide (a = a' ∧ b = b' ∧ c = c' ∧ d = d' ∧ e = e' ∧ f = f')
@[go_sem] theorem eqMac (a b c d e f a' b' c' d' e' f' : Int) (w : World) :
    (Op.equalIn 10000 102 (.agg #[.int .u8 a, .int .u8 b, .int .u8 c, .int .u8 d, .int .u8 e, .int .u8 f]) (.agg #[.int .u8 a', .int .u8 b', .int .u8 c', .int .u8 d', .int .u8 e', .int .u8 f'])).run Tryz.prog w = .ok (eq6 a b c d e f a' b' c' d' e' f') w := by
  have u5 := Tryz.underlying5
  have a5 := Tryz.isAgg5
  have z5 := Tryz.sizeOf5
  rw [show (10000 : Nat) = 9999 + 1 from rfl, Op.equalIn]
  simp only [Sem.run_bind, run_underlying Tryz.underlying102, Result.andThen_ok]
  simp only [Std.Legacy.Range.forIn_eq_forIn_range', Std.Legacy.Range.size, Nat.sub_zero, Nat.add_sub_cancel, Nat.div_one, List.range'_succ, List.range'_zero, List.forIn_cons, List.forIn_nil]
  go_simp
  unfold eq6
  by_cases h1 : a = a' <;> simp [h1]
  by_cases h2 : b = b' <;> simp [h2]
  by_cases h3 : c = c' <;> simp [h3]
  by_cases h4 : d = d' <;> simp [h4]
  by_cases h5 : e = e' <;> simp [h5]
  by_cases h6 : f = f' <;> simp [h6]
set_option maxHeartbeats 400000 in
theorem address_any (n : Int) (w : World) (hn : 0 ≤ n ∧ n ≤ 18446744073709551615) :
    Calls Tryz.prog 47 #[.int .u64 n] w fun r w' => r = .returned (.agg #[.int .u8 (n / 1099511627776 % 256), .int .u8 (n / 4294967296 % 256), .int .u8 (n / 16777216 % 256), .int .u8 (n / 65536 % 256), .int .u8 (n / 256 % 256), .int .u8 (n % 256)]) ∧ Below w.heap.size w w' := by
  go_enter Tryz.func47, Tryz.ntmps47
  go_wp2
  go_rounds 7
  go_returns
  exact ⟨rfl, by go_grown⟩
set_option maxHeartbeats 400000 in
theorem vwithin_any (n l m : Int) (w : World) :
    Calls Tryz.prog 129 #[.int .i64 n, .int .i64 l, .int .i64 m] w fun r w' => r = .returned (.bool (decide (l ≤ n ∧ n ≤ m))) ∧ Below w.heap.size w w' := by
  by_cases h : l ≤ n
  all_goals
    go_enter Tryz.func129, Tryz.ntmps129
    go_wp2
    go_ret
    refine ⟨ret_bool ?_, by go_grown⟩
    first | (simp [h]; done) | (simp [h]; omega)
def chkT (x h d : Int) : Int := if 6 ≤ x ∧ x ≤ 40 ∧ 1 ≤ h ∧ h ≤ 2 ∧ 4 ≤ d ∧ d ≤ 30 ∧ x ≤ 2 * (d - 1) ∧ 2 * (h + 1) ≤ x then 0 else 60
theorem within_is {n l m : Int} {b : Bool} (h : decide (l ≤ n ∧ n ≤ m) = b) (w : World) :
    Calls Tryz.prog 129 #[.int .i64 n, .int .i64 l, .int .i64 m] w fun r w' => r = .returned (.bool b) ∧ Below w.heap.size w w' := by
  have := vwithin_any n l m w
  rwa [h] at this
set_option maxHeartbeats 2000000 in
theorem check_any (a x h d : Int) (w : World) (hx : 0 ≤ x ∧ x ≤ 255) (hh : 0 ≤ h ∧ h ≤ 255) (hd : 0 ≤ d ∧ d ≤ 255) :
    Calls Tryz.prog 85 #[.agg #[.int .u8 a, .int .u8 x, .int .u8 h, .int .u8 d]] w fun r w' => r = .returned (.int .i64 (chkT x h d)) ∧ Below w.heap.size w w' := by
  have q := @Later.cell
  cases p1 : decide (6 ≤ x ∧ x ≤ 40) <;> cases p2 : decide (1 ≤ h ∧ h ≤ 2) <;> cases p3 : decide (4 ≤ d ∧ d ≤ 30)
  all_goals
    have P1 : Hid (∀ w : World, _) := within_is p1
    have P2 : Hid (∀ w : World, _) := within_is p2
    have P3 : Hid (∀ w : World, _) := within_is p3
    simp only [decide_eq_true_eq, decide_eq_false_iff_not] at p1 p2 p3
    go_enter Tryz.func85, Tryz.ntmps85
    go_wp2_with fail
    refine wp_region_later (by kernel_rfl) (by kernel_rfl) ?_
    repeat (go_big_quiet_step (first | exact rfl))
    refine wpQuiet_nil ?_
    intro _ hw'
    obtain ⟨y, rfl⟩ := hw'
    go_wp2_with (first
      | (go_at_call 129; with_reducible refine Calls.on_later2 (P1.out _) ?_; intro y1)
      | (go_at_call 129; with_reducible refine Calls.on_later2 (P2.out _) ?_; intro y1)
      | (go_at_call 129; with_reducible refine Calls.on_later2 (P3.out _) ?_; intro y1))
    all_goals
      go_ret
      refine ⟨ret_int ?_, below_later (by go_grown) _⟩
      unfold chkT
      split <;> omega
/-! ### costs -/
def badC (x : Int) : Bool := decide (x < 1) || decide (200000000 < x)
theorem wrong_any (x : Int) (w : World) : Calls Tryz.prog 87 #[.int .u32 x] w fun r w' => r = .returned (.bool (badC x)) ∧ Below w.heap.size w w' := by
  go_enter Tryz.func87, Tryz.ntmps87
  by_cases h1 : x < 1
  · go_wp2
    go_ret
    exact ⟨by unfold badC; simp [h1], Below.refl _ _⟩
  · by_cases h2 : 200000000 < x
    · go_wp2
      go_ret
      exact ⟨by unfold badC; simp [h2], Below.refl _ _⟩
    · go_wp2
      go_ret
      refine ⟨?_, Below.refl _ _⟩
      have : badC x = false := by unfold badC; simp; omega
      rw [this]
      simp
      try omega
structure CsAt (W : World) (a : Option Addr) (n c : Nat) (l : List Int) : Prop where
  len : l.length = n
  cap : n ≤ c
  max : c ≤ maxLen
  some' : 0 < n → ∃ b o, a = some ⟨b, o, none⟩
  bnd : ∀ x ∈ l, (Lit.int .u32 x).wf = true
  cells : ∀ b o, a = some ⟨b, o, none⟩ → ∀ j v, l[j]? = some v → W.cell? ⟨b, o + j, none⟩ = some (.int .u32 v)
theorem CsAt.below {W W' : World} {a : Option Addr} {n c : Nat} {l : List Int} (h : CsAt W a n c l) (hb : Below W.heap.size W W') : CsAt W' a n c l :=
  ⟨h.len, h.cap, h.max, h.some', h.bnd, fun b o e j v hv => by
    have := h.cells b o e j v hv
    exact (hb.cell (World.block_lt_of_cell? W _ this)).trans this⟩
theorem find_pre {l : List Int} {i : Nat} (hi : i < l.length) (h : ∀ j x, j < i → l[j]? = some x → badC x = false) (e : badC l[i] = true) : l.any badC = true := by
  rw [List.any_eq_true]
  exact ⟨l[i], List.getElem_mem _, e⟩
theorem find_no {l : List Int} (h : ∀ j x, j < l.length → l[j]? = some x → badC x = false) : l.any badC = false := by
  rw [List.any_eq_false]
  intro x hx
  obtain ⟨j, hj, e⟩ := List.mem_iff_getElem.1 hx
  have := h j x hj (by rw [List.getElem?_eq_getElem hj, e])
  simp [this]
set_option maxHeartbeats 4000000 in
theorem index_any (a : Option Addr) (n c : Nat) (l : List Int) (w : World) (hs : CsAt w a n c l) (hn : n ≤ 1000) :
    Calls Tryz.prog 130 #[.slice a n c, .func (.func 87) #[] #[]] w fun r w' => (∃ j : Int, r = .returned (.int .i64 j) ∧ (decide (0 ≤ j) = l.any badC)) ∧ Below w.heap.size w w' := by
  have H : Hid (CsAt w a n c l ∧ n ≤ 1000 ∧ l.length = n) := ⟨hs, hn, hs.len⟩
  have hnn : (n : Int) ≤ 1000 := by omega
  clear hs hn
  go_enter Tryz.func130, Tryz.ntmps130
  go_wp2_with fail
  go_loopw [8] (fun v8 wr => ∃ i : Nat, i ≤ n ∧ v8 = .int .i64 i ∧ (∀ j x, j < i → l[j]? = some x → badC x = false) ∧ Below w.heap.size w wr) (fun v8 _ => n - (intOf v8).toNat)
  case atStart => exact ⟨0, by omega, rfl, fun j x hj => by omega, Below.refl _ _⟩
  case round =>
    obtain ⟨i, hi, rfl, ht, hB⟩ := hrel
    have J : Hid ((∀ j x, j < i → l[j]? = some x → badC x = false) ∧ Below w.heap.size w wr) := ⟨ht, hB⟩
    have hin0 : (0 : Int) ≤ (i : Int) := by omega
    by_cases hit : i < n
    · have hin1 : (i : Int) < (n : Int) := by omega
      have hl : i < l.length := by rw [H.out.2.2]; exact hit
      obtain ⟨b, o, rfl⟩ := H.out.1.some' (by omega)
      have cx := (H.out.1.below hB).cells b o rfl i l[i] (List.getElem?_eq_getElem hl)
      have E : Hid (i < l.length ∧ l[i]? = some l[i]) := ⟨hl, List.getElem?_eq_getElem hl⟩
      obtain ⟨x, hx⟩ : ∃ x, l[i] = x := ⟨_, rfl⟩
      rw [hx] at cx E
      have HX : Hid (∀ h : i < l.length, l[i] = x) := fun _ => hx
      clear ht hB hl hx
      go_wp2_with fail
      refine (wrong_any x wr).mono ?_
      rintro _ V ⟨rfl, bV⟩
      cases hb : badC x
      · have N : Hid (∀ j x, j < i + 1 → l[j]? = some x → badC x = false) := fun j y hj hy => by
          by_cases hji : j = i
          · subst hji
            rw [E.out.2] at hy
            cases hy
            exact hb
          · exact J.out.1 j y (by omega) hy
        clear cx hb
        go_wp2
        go_roundw
        case rel => exact ⟨i + 1, by omega, by go_num, N.out, below_over J.out.2 bV⟩
        case measure => simp [intOf]; omega
      · have N : Hid (l.any badC = true) := find_pre E.out.1 J.out.1 (by rw [HX.out E.out.1]; exact hb)
        clear cx hb
        go_wp2
        go_ret
        exact ⟨⟨(i : Int), rfl, by rw [N.out]; simp⟩, below_over J.out.2 bV⟩
    · have hin : i = n := by omega
      subst hin
      have hin1 : ¬ (i : Int) < (i : Int) := by omega
      clear ht hB
      go_wp2
      go_ret
      exact ⟨⟨-1, rfl, by rw [find_no (fun j x hj => J.out.1 j x (by rw [← H.out.2.2]; exact hj))]; rfl⟩, J.out.2⟩
theorem contains_any (a : Option Addr) (n c : Nat) (l : List Int) (w : World) (hs : CsAt w a n c l) (hn : n ≤ 1000) :
    Calls Tryz.prog 86 #[.slice a n c, .func (.func 87) #[] #[]] w fun r w' => r = .returned (.bool (l.any badC)) ∧ Below w.heap.size w w' := by
  go_enter Tryz.func86, Tryz.ntmps86
  go_wp2_with fail
  refine (index_any a n c l w hs hn).mono ?_
  rintro _ V ⟨⟨j, rfl, hj⟩, bV⟩
  have F : Hid (decide (0 ≤ j) = l.any badC) := hj
  clear hj hs hn
  go_wp2
  go_ret
  exact ⟨by rw [← F.out]; rfl, bV⟩
end S9
end
section
namespace S9
open Go.RowKit

def cfc (c : Cf) (x : Value) : Array Value := (c.cl ++ [x]).toArray
theorem cfc_size (c : Cf) (x : Value) : (cfc c x).size = 7 := by simp [cfc, c.len, lenC]
theorem cfc_get {c : Cf} {x v : Value} {j : Nat} (hv : c.cl[j]? = some v) : (cfc c x)[j]? = some v := by
  have := (List.getElem?_eq_some_iff.1 hv).1
  simp only [cfc, List.getElem?_toArray]
  rw [List.getElem?_append_left this]
  exact hv
theorem cfc_6 (c : Cf) (x : Value) : (cfc c x)[6]? = some x := by
  have := c.len
  rw [lenC] at this
  simp only [cfc, List.getElem?_toArray]
  rw [List.getElem?_append_right (by omega), this]
  rfl
theorem cfc_one {c : Cf} {x : Value} (hx : x.oneCell' = true) : ∀ v ∈ (cfc c x).toList, v.oneCell' = true := by
  intro v hv
  simp only [cfc, List.mem_append, List.mem_singleton] at hv
  rcases hv with hv | rfl
  · exact c.one v hv
  · exact hx
theorem _root_.Go.Proofs.YtlchejbggnbccaaGreat.RvAt.cld {W : World} {b : Nat} {c : Cf} {x : Value} (hb : RvAt W b 27 (cfc c x)) : (ldS 27 (.pointer (some ⟨b, 0, none⟩))).run Tryz.prog W = .ok (.agg (cfc c x)) W := hb.ld rtC (cfc_size c x)
theorem _root_.Go.Proofs.YtlchejbggnbccaaGreat.RvAt.c6 {W : World} {b : Nat} {c : Cf} {x : Value} (hb : RvAt W b 27 (cfc c x)) : W.cell? ⟨b, 6, none⟩ = some x := hb.cell 6 _ (cfc_6 c x)
theorem _root_.Go.Proofs.YtlchejbggnbccaaGreat.RvAt.cnum {W : World} {b j : Nat} {k : IntKind} {c : Cf} {x : Value} (hb : RvAt W b 27 (cfc c x)) (hk : kdC[j]? = some (some k)) : W.cell? ⟨b, j, none⟩ = some (.int k (c.nm j)) := hb.cell j _ (cfc_get (c.num hk))
theorem _root_.Go.Proofs.YtlchejbggnbccaaGreat.RvAt.cT {W : World} {b : Nat} {c : Cf} {x : Value} (hb : RvAt W b 27 (cfc c x)) : (ldS 24 (.pointer (some ⟨b, 1, none⟩))).run Tryz.prog W = .ok (.agg #[.int .u8 (c.nm 1), .int .u8 (c.nm 2), .int .u8 (c.nm 3), .int .u8 (c.nm 4)]) W :=
  run_loadAt_mid W b 1 24 [.int .u8 (c.nm 1), .int .u8 (c.nm 2), .int .u8 (c.nm 3), .int .u8 (c.nm 4)] _ (fun j v hv => by
    match j, hv with
    | 0, hx => cases hx; exact hb.cnum rfl
    | 1, hx => cases hx; exact hb.cnum rfl
    | 2, hx => cases hx; exact hb.cnum rfl
    | 3, hx => cases hx; exact hb.cnum rfl
    | j + 4, hx => simp at hx) Tryz.underlying24 rfl infoTm
theorem one_c (w : World) (c : Cf) (x : Value) : ∃ W, w.alloc (.cells (cfc c x) 27) = W ∧ RvAt W w.heap.size 27 (cfc c x) ∧ Below w.heap.size w W ∧ W.heap.size = w.heap.size + 1 :=
  ⟨_, rfl, RvAt.new w _ _, (Below.refl _ _).alloc (Nat.le_refl _) _, by simp⟩
theorem _root_.Go.Proofs.YtlchejbggnbccaaGreat.Row.u8' {ks : List (Option IntKind)} (r : Row ks) {j : Nat} (h : ks[j]? = some (some .u8)) : 0 ≤ r.nm j ∧ r.nm j ≤ 255 := by
  have := r.nwf h
  simp [Lit.wf, IntKind.min, IntKind.max, IntKind.signed, IntKind.bits] at this
  omega
abbrev Okc (i t0 t1 t2 t3 u : Int) (l : List Int) : Prop := i % 281474976710656 ≠ 0 ∧ chkT t1 t2 t3 = 0 ∧ t0 = 0 ∧ 1 ≤ u ∧ u ≤ 10 ∧ 1 ≤ l.length ∧ l.length ≤ 8 ∧ l.any badC = false
def okC (c : Cf) (l : List Int) : Bool := decide (Okc (c.nm 0) (c.nm 1) (c.nm 2) (c.nm 3) (c.nm 4) (c.nm 5) l)
def erC (b : Bool) : Int := match b with | true => 0 | false => 90
theorem chk01 (x h d : Int) : chkT x h d = 0 ∨ chkT x h d = 60 := by
  unfold chkT
  split
  · exact Or.inl rfl
  · exact Or.inr rfl
theorem ad0 (n : Int) (hn : 0 ≤ n ∧ n ≤ 18446744073709551615) : eq6 (n / 1099511627776 % 256) (n / 4294967296 % 256) (n / 16777216 % 256) (n / 65536 % 256) (n / 256 % 256) (n % 256) 0 0 0 0 0 0 = decide (n % 281474976710656 = 0) := by
  unfold eq6
  rw [decide_eq_decide]
  constructor
  · rintro ⟨h1, h2, h3, h4, h5, h6⟩
    omega
  · intro h
    refine ⟨?_, ?_, ?_, ?_, ?_, ?_⟩ <;> omega
attribute [local go_sem ↓] ldT stT ldC stC ldTm
set_option maxHeartbeats 4000000 in
theorem checkc_any (c : Cf) (a : Option Addr) (n k : Nat) (l : List Int) (w : World) (hs : CsAt w a n k l) (hn : n ≤ 1000) :
    Calls Tryz.prog 64 #[.agg (cfc c (.slice a n k))] w fun r w' => r = .returned (.int .i64 (erC (okC c l))) ∧ Below w.heap.size w w' := by
  obtain ⟨W, hW, r0, bW, zW⟩ := one_c w c (.slice a n k)
  have H : Hid (CsAt W a n k l ∧ n ≤ 1000 ∧ l.length = n ∧ RvAt W w.heap.size 27 (cfc c (.slice a n k)) ∧ Below w.heap.size w W) := ⟨hs.below bW, hn, hs.len, r0, bW⟩
  have B : Hid ((0 ≤ c.nm 0 ∧ c.nm 0 ≤ 18446744073709551615) ∧ (0 ≤ c.nm 2 ∧ c.nm 2 ≤ 255) ∧ (0 ≤ c.nm 3 ∧ c.nm 3 ≤ 255) ∧ (0 ≤ c.nm 4 ∧ c.nm 4 ≤ 255) ∧ (0 ≤ c.nm 5 ∧ c.nm 5 ≤ 255)) := ⟨c.u64 rfl, c.u8' rfl, c.u8' rfl, c.u8' rfl, c.u8' rfl⟩
  have c0 := r0.cnum (j := 0) rfl
  have hnn : (n : Int) ≤ 1000 := by omega
  have E : Hid (okC c l = decide (Okc (c.nm 0) (c.nm 1) (c.nm 2) (c.nm 3) (c.nm 4) (c.nm 5) l)) := rfl
  clear hs hn r0 bW zW
  go_enter Tryz.func64, Tryz.ntmps64
  go_wp2_with fail
  refine (address_any (c.nm 0) W B.out.1).mono ?_
  rintro _ W1 ⟨rfl, b1⟩
  have e0 := ad0 (c.nm 0) B.out.1
  clear c0
  have ct := (H.out.2.2.2.1.below b1).cT
  have B1 : Hid (Below W.heap.size W W1) := b1
  clear b1
  by_cases k0 : c.nm 0 % 281474976710656 = 0
  · have e1 : decide (c.nm 0 % 281474976710656 = 0) = true := by simp [k0]
    rw [e1] at e0
    have N : Hid (okC c l = false) := by rw [E.out, decide_eq_false_iff_not]; exact fun h => h.1 k0
    clear ct
    go_wp2
    go_ret
    exact ⟨by rw [N.out]; rfl, below_over H.out.2.2.2.2 B1.out⟩
  have e1 : decide (c.nm 0 % 281474976710656 = 0) = false := by simp [k0]
  rw [e1] at e0
  go_wp2_with fail
  refine (check_any (c.nm 1) (c.nm 2) (c.nm 3) (c.nm 4) W1 B.out.2.1 B.out.2.2.1 B.out.2.2.2.1).mono ?_
  rintro _ W2 ⟨rfl, b2⟩
  have B2 : Hid (Below W.heap.size W W2) := below_over B1.out b2
  have cA := (H.out.2.2.2.1.below B2.out).cnum (j := 1) rfl
  have cH := (H.out.2.2.2.1.below B2.out).cnum (j := 5) rfl
  clear b2 ct e0 e1
  rcases chk01 (c.nm 2) (c.nm 3) (c.nm 4) with k1 | k1
  rotate_left
  · rw [k1]
    have N : Hid (okC c l = false) := by rw [E.out, decide_eq_false_iff_not]; exact fun h => by have := h.2.1; omega
    clear cA cH
    go_wp2
    go_ret
    exact ⟨by rw [N.out]; rfl, below_over H.out.2.2.2.2 B2.out⟩
  rw [k1]
  have K1 : Hid (chkT (c.nm 2) (c.nm 3) (c.nm 4) = 0) := k1
  clear k1
  by_cases k2 : c.nm 1 = 0
  rotate_left
  · have N : Hid (okC c l = false) := by rw [E.out, decide_eq_false_iff_not]; exact fun h => k2 h.2.2.1
    have k2b : (c.nm 1 == 0) = false := by simpa using k2
    have k2n : (c.nm 1 != 0) = true := by simpa using k2
    clear cH
    go_wp2
    go_ret
    exact ⟨by rw [N.out]; rfl, below_over H.out.2.2.2.2 B2.out⟩
  rw [k2] at cA
  have hb5 := B.out.2.2.2.2
  have hw5 : IntKind.i64.wrap (c.nm 5) = c.nm 5 := IntWalk.i64_in _ (by omega)
  go_wp2_with fail
  refine (within_any (c.nm 5) 1 10 W2).mono ?_
  rintro _ W3 ⟨rfl, b3⟩
  have B3 : Hid (Below W.heap.size W W3) := below_over B2.out b3
  have c6 := (H.out.2.2.2.1.below B3.out).c6
  clear b3 cA cH
  by_cases k3 : 1 ≤ c.nm 5 ∧ c.nm 5 ≤ 10
  rotate_left
  · have eb : (decide (1 ≤ c.nm 5) && decide (c.nm 5 ≤ 10)) = false := by simp; omega
    rw [eb]
    have N : Hid (okC c l = false) := by rw [E.out, decide_eq_false_iff_not]; exact fun h => k3 ⟨h.2.2.2.1, h.2.2.2.2.1⟩
    clear eb c6
    go_wp2
    go_ret
    exact ⟨by rw [N.out]; rfl, below_over H.out.2.2.2.2 B3.out⟩
  have eb : (decide (1 ≤ c.nm 5) && decide (c.nm 5 ≤ 10)) = true := by simp; omega
  rw [eb]
  clear eb
  go_wp2_with fail
  refine (within_any n 1 8 W3).mono ?_
  rintro _ W4 ⟨rfl, b4⟩
  have B4 : Hid (Below W.heap.size W W4) := below_over B3.out b4
  clear b4 c6
  have c6 := (H.out.2.2.2.1.below B4.out).c6
  by_cases k4 : 1 ≤ n ∧ n ≤ 8
  rotate_left
  · have eb : (decide ((1 : Int) ≤ n) && decide ((n : Int) ≤ 8)) = false := by simp; omega
    rw [eb]
    have N : Hid (okC c l = false) := by rw [E.out, decide_eq_false_iff_not]; exact fun h => k4 (by have := h.2.2.2.2.2.1; have := h.2.2.2.2.2.2.1; have := H.out.2.2.1; omega)
    clear eb c6
    go_wp2
    go_ret
    exact ⟨by rw [N.out]; rfl, below_over H.out.2.2.2.2 B4.out⟩
  have eb : (decide ((1 : Int) ≤ n) && decide ((n : Int) ≤ 8)) = true := by simp; omega
  rw [eb]
  clear eb
  go_wp2_with fail
  refine (contains_any a n k l W4 (H.out.1.below B4.out) H.out.2.1).mono ?_
  rintro _ W5 ⟨rfl, b5⟩
  have B5 : Hid (Below W.heap.size W W5) := below_over B4.out b5
  clear b5 c6
  cases k5 : l.any badC
  · have N : Hid (okC c l = true) := by rw [E.out, decide_eq_true_iff]; exact ⟨k0, K1.out, k2, k3.1, k3.2, by have := H.out.2.2.1; omega, by have := H.out.2.2.1; omega, k5⟩
    go_wp2
    go_ret
    exact ⟨by rw [N.out]; rfl, below_over H.out.2.2.2.2 B5.out⟩
  · have N : Hid (okC c l = false) := by rw [E.out, decide_eq_false_iff_not]; exact fun h => by have := h.2.2.2.2.2.2.2; rw [k5] at this; cases this
    go_wp2
    go_ret
    exact ⟨by rw [N.out]; rfl, below_over H.out.2.2.2.2 B5.out⟩
end S9
end
section
namespace S9
open Go.RowKit

section
variable {P : Program} {ops : Array Oper} {Q : Exit → Act → World → Prop} {md : Region.Mode} {S : World → Prop} {z : Nat}
def AnyZ (P : Program) (md : Region.Mode) (ops : Array Oper) (Q : Exit → Act → World → Prop) (S : World → Prop) (z : Nat) : Nat → Array Bool → Act → World → Prop
  | 0, done, a, w => Region.ready md ops done = [] ∧ Q .normal a w
  | f + 1, done, a, w => (Region.ready md ops done = [] → Q .normal a w) ∧ ∀ i ∈ Region.ready md ops done, wpOp P ops Q i (fun a' w' => ((done.setIfInBounds i true).getD z true = false → S w') ∧ AnyZ P md ops Q S z f (done.setIfInBounds i true) a' w') a w
theorem AnyZ.any : ∀ (f : Nat) (done : Array Bool) (a : Act) (w : World), AnyZ P md ops Q S z f done a w → wpAny P md ops Q f done a w
  | 0, _, _, _, h => h
  | f + 1, _, _, _, h => ⟨h.1, fun i hi => wpOp_mono (fun a' w' h' => AnyZ.any f _ a' w' h'.2) (h.2 i hi)⟩
def waitsB (md : Region.Mode) (ops : Array Oper) (z i : Nat) : Bool :=
  match ops[z]? with
  | some o => o.after.any (fun e => Region.binds md e && e.on == i)
  | none => false
theorem waits_unready {i : Nat} {done : Array Bool} (hw : waitsB md ops z i = true) (hr : i ∈ Region.ready md ops done) : z ∉ Region.ready md ops done := by
  intro hz
  obtain ⟨_, oz, ho, hall⟩ := mem_ready.1 hz
  unfold waitsB at hw
  rw [ho] at hw
  obtain ⟨e, he, hb⟩ := Array.any_eq_true'.1 hw
  simp only [Bool.and_eq_true, beq_iff_eq] at hb
  have h1 := hall e he hb.1
  have h0 := (mem_ready.1 hr).1
  rw [hb.2] at h1
  rcases Nat.lt_or_ge i done.size with h' | h'
  · simp [h'] at h0 h1
    rw [h0] at h1
    cases h1
  · simp [Array.getElem?_eq_none h'] at h1
theorem AnyZ.take {i : Nat} {oi : Oper} {v : Value} (hi : ops[i]? = some oi) (hsel : Region.noSelect ops = true) (hw : waitsB md ops z i = true)
    (hQ : ∀ c a w, Q (.panic c) (a.put oi.dst v) w → Q (.panic c) a w) :
    ∀ (f : Nat) (done : Array Bool) (a : Act) (w : World), Region.free md ops done i = true → (Region.ready md ops done).contains i = true → done.getD z true = false → YieldsIf P ops S oi v a → S w →
      AnyZ P md ops Q S z f (done.setIfInBounds i true) (a.put oi.dst v) w → AnyZ P md ops Q S z (f + 1) done a w := by
  have sel := Region.noSelect_spec hsel
  have core : ∀ (f : Nat) (done : Array Bool) (a : Act) (w : World),
      (∀ j oj, ops[j]? = some oj → j ≠ i → done.getD j true = false → (∀ e ∈ oj.after, Region.binds md e = true → e.on ≠ i) → oi.apart ops oj = true) →
      i ∈ Region.ready md ops done → done.getD z true = false → YieldsIf P ops S oi v a → S w → AnyZ P md ops Q S z f (done.setIfInBounds i true) (a.put oi.dst v) w → AnyZ P md ops Q S z (f + 1) done a w := by
    intro f
    induction f with
    | zero =>
      intro done a w _ hr hz hy hS H
      refine ⟨fun h => (by rw [h] at hr; cases hr), fun j hj => ?_⟩
      by_cases hji : j = i
      · subst hji
        exact hy.wpOp hi hS ⟨fun _ => hS, H⟩
      · have := ready_mono hj hji
        rw [H.1] at this
        cases this
    | succ f ih =>
      intro done a w hfree hr hz hy hS H
      refine ⟨fun h => (by rw [h] at hr; cases hr), fun j hj => ?_⟩
      by_cases hji : j = i
      · subst hji
        exact hy.wpOp hi hS ⟨fun _ => hS, H⟩
      · have hjz : j ≠ z := fun e => waits_unready hw hr (e ▸ hj)
        have hz' : (done.setIfInBounds j true).getD z true = false := by rw [getD_set_ne true hjz]; exact hz
        obtain ⟨hjun, oj, hoj, hall⟩ := mem_ready.1 hj
        have hun := (mem_ready.1 hr).1
        have hnot : ∀ e ∈ oj.after, Region.binds md e = true → e.on ≠ i := fun e he hb heq => by
          have h1 := hall e he hb
          rw [heq, getD_both hun] at h1
          cases h1
        have hiz : i ≠ z := fun e => by
          have := waits_unready hw hr
          rw [← e] at this
          exact this hr
        refine wpOp_mono (fun a' w' h3 => ?_)
          (wpOp_putIf hoj (hfree j oj hoj hji hjun hnot) (fun cs b => sel i oi cs b hi) (fun cs b => sel j oj cs b hoj) hQ hy (H.2 j (ready_mono hj hji)))
        have hS' : S w' := h3.2.1 (by rw [Array.setIfInBounds_comm _ _ (Ne.symm hji), getD_set_ne true hiz]; exact hz')
        refine ⟨fun _ => hS', ih (done.setIfInBounds j true) a' w' (fun k ok hk hki hun' hno => hfree k ok hk hki ?_ hno) (ready_mono hr (Ne.symm hji)) hz' h3.1 hS' ?_⟩
        · by_cases hjk : j = k
          · subst hjk; exact hjun
          · rw [getD_set_ne true hjk] at hun'; exact hun'
        · rw [Array.setIfInBounds_comm _ _ hji]
          exact h3.2.2
  exact fun f done a w hf hr hz hy hS H => core f done a w (Region.free_spec hi hf) (by simpa using hr) hz hy hS H
theorem unready_of {i : Nat} {done : Array Bool} (hw : waitsB md ops z i = true) (h0 : done.getD i true = false) : z ∉ Region.ready md ops done := by
  intro hz
  obtain ⟨_, oz, ho, hall⟩ := mem_ready.1 hz
  unfold waitsB at hw
  rw [ho] at hw
  obtain ⟨e, he, hb⟩ := Array.any_eq_true'.1 hw
  simp only [Bool.and_eq_true, beq_iff_eq] at hb
  have h1 := hall e he hb.1
  rw [hb.2] at h1
  rcases Nat.lt_or_ge i done.size with h' | h'
  · simp [h'] at h0 h1
    rw [h0] at h1
    cases h1
  · simp [Array.getElem?_eq_none h'] at h1
theorem AnyZ.take2 {i m : Nat} {oi : Oper} {v : Value} (hi : ops[i]? = some oi) (hsel : Region.noSelect ops = true) (hzm : waitsB md ops z m = true) (hmi : waitsB md ops m i = true)
    (hQ : ∀ c a w, Q (.panic c) (a.put oi.dst v) w → Q (.panic c) a w) :
    ∀ (f : Nat) (done : Array Bool) (a : Act) (w : World), Region.free md ops done i = true → (Region.ready md ops done).contains i = true → done.getD z true = false → done.getD m true = false → YieldsIf P ops S oi v a → S w →
      AnyZ P md ops Q S z f (done.setIfInBounds i true) (a.put oi.dst v) w → AnyZ P md ops Q S z (f + 1) done a w := by
  have sel := Region.noSelect_spec hsel
  have core : ∀ (f : Nat) (done : Array Bool) (a : Act) (w : World),
      (∀ j oj, ops[j]? = some oj → j ≠ i → done.getD j true = false → (∀ e ∈ oj.after, Region.binds md e = true → e.on ≠ i) → oi.apart ops oj = true) →
      i ∈ Region.ready md ops done → done.getD z true = false → done.getD m true = false → YieldsIf P ops S oi v a → S w → AnyZ P md ops Q S z f (done.setIfInBounds i true) (a.put oi.dst v) w → AnyZ P md ops Q S z (f + 1) done a w := by
    intro f
    induction f with
    | zero =>
      intro done a w _ hr hz hm hy hS H
      refine ⟨fun h => (by rw [h] at hr; cases hr), fun j hj => ?_⟩
      by_cases hji : j = i
      · subst hji
        exact hy.wpOp hi hS ⟨fun _ => hS, H⟩
      · have := ready_mono hj hji
        rw [H.1] at this
        cases this
    | succ f ih =>
      intro done a w hfree hr hz hm hy hS H
      refine ⟨fun h => (by rw [h] at hr; cases hr), fun j hj => ?_⟩
      by_cases hji : j = i
      · subst hji
        exact hy.wpOp hi hS ⟨fun _ => hS, H⟩
      · have hjm : j ≠ m := fun e => waits_unready hmi hr (e ▸ hj)
        have hnz : z ∉ Region.ready md ops done := unready_of hzm hm
        have hjz : j ≠ z := fun e => hnz (e ▸ hj)
        have hm' : (done.setIfInBounds j true).getD m true = false := by rw [getD_set_ne true hjm]; exact hm
        have hz' : (done.setIfInBounds j true).getD z true = false := by rw [getD_set_ne true hjz]; exact hz
        obtain ⟨hjun, oj, hoj, hall⟩ := mem_ready.1 hj
        have hun := (mem_ready.1 hr).1
        have hnot : ∀ e ∈ oj.after, Region.binds md e = true → e.on ≠ i := fun e he hb heq => by
          have h1 := hall e he hb
          rw [heq, getD_both hun] at h1
          cases h1
        have hiz : i ≠ z := fun e => hnz (e ▸ hr)
        refine wpOp_mono (fun a' w' h3 => ?_)
          (wpOp_putIf hoj (hfree j oj hoj hji hjun hnot) (fun cs b => sel i oi cs b hi) (fun cs b => sel j oj cs b hoj) hQ hy (H.2 j (ready_mono hj hji)))
        have hS' : S w' := h3.2.1 (by rw [Array.setIfInBounds_comm _ _ (Ne.symm hji), getD_set_ne true hiz]; exact hz')
        refine ⟨fun _ => hS', ih (done.setIfInBounds j true) a' w' (fun k ok hk hki hun' hno => hfree k ok hk hki ?_ hno) (ready_mono hr (Ne.symm hji)) hz' hm' h3.1 hS' ?_⟩
        · by_cases hjk : j = k
          · subst hjk; exact hjun
          · rw [getD_set_ne true hjk] at hun'; exact hun'
        · rw [Array.setIfInBounds_comm _ _ hji]
          exact h3.2.2
  exact fun f done a w hf hr hz hm hy hS H => core f done a w (Region.free_spec hi hf) (by simpa using hr) hz hm hy hS H
theorem AnyZ.takeT {i : Nat} {oi : Oper} {v : Value} (hi : ops[i]? = some oi) (hsel : Region.noSelect ops = true) (hzi : i ≠ z)
    (hQ : ∀ c a w, Q (.panic c) (a.put oi.dst v) w → Q (.panic c) a w) :
    ∀ (f : Nat) (done : Array Bool) (a : Act) (w : World), Region.free md ops done i = true → (Region.ready md ops done).contains i = true → YieldsIf P ops (fun _ => True) oi v a → (done.getD z true = false → S w) →
      AnyZ P md ops Q S z f (done.setIfInBounds i true) (a.put oi.dst v) w → AnyZ P md ops Q S z (f + 1) done a w := by
  have sel := Region.noSelect_spec hsel
  have core : ∀ (f : Nat) (done : Array Bool) (a : Act) (w : World),
      (∀ j oj, ops[j]? = some oj → j ≠ i → done.getD j true = false → (∀ e ∈ oj.after, Region.binds md e = true → e.on ≠ i) → oi.apart ops oj = true) →
      i ∈ Region.ready md ops done → YieldsIf P ops (fun _ => True) oi v a → (done.getD z true = false → S w) → AnyZ P md ops Q S z f (done.setIfInBounds i true) (a.put oi.dst v) w → AnyZ P md ops Q S z (f + 1) done a w := by
    intro f
    induction f with
    | zero =>
      intro done a w _ hr hy hS H
      refine ⟨fun h => (by rw [h] at hr; cases hr), fun j hj => ?_⟩
      by_cases hji : j = i
      · subst hji
        exact hy.wpOp hi trivial ⟨fun e => hS (by rw [getD_set_ne true hzi] at e; exact e), H⟩
      · have := ready_mono hj hji
        rw [H.1] at this
        cases this
    | succ f ih =>
      intro done a w hfree hr hy hS H
      refine ⟨fun h => (by rw [h] at hr; cases hr), fun j hj => ?_⟩
      by_cases hji : j = i
      · subst hji
        exact hy.wpOp hi trivial ⟨fun e => hS (by rw [getD_set_ne true hzi] at e; exact e), H⟩
      · obtain ⟨hjun, oj, hoj, hall⟩ := mem_ready.1 hj
        have hun := (mem_ready.1 hr).1
        have hnot : ∀ e ∈ oj.after, Region.binds md e = true → e.on ≠ i := fun e he hb heq => by
          have h1 := hall e he hb
          rw [heq, getD_both hun] at h1
          cases h1
        refine wpOp_mono (fun a' w' h3 => ?_)
          (wpOp_putIf hoj (hfree j oj hoj hji hjun hnot) (fun cs b => sel i oi cs b hi) (fun cs b => sel j oj cs b hoj) hQ hy (H.2 j (ready_mono hj hji)))
        have hS' : (done.setIfInBounds j true).getD z true = false → S w' := fun e => h3.2.1 (by rw [Array.setIfInBounds_comm _ _ (Ne.symm hji), getD_set_ne true hzi]; exact e)
        refine ⟨hS', ih (done.setIfInBounds j true) a' w' (fun k ok hk hki hun' hno => hfree k ok hk hki ?_ hno) (ready_mono hr (Ne.symm hji)) h3.1 hS' ?_⟩
        · by_cases hjk : j = k
          · subst hjk; exact hjun
          · rw [getD_set_ne true hjk] at hun'; exact hun'
        · rw [Array.setIfInBounds_comm _ _ hji]
          exact h3.2.2
  exact fun f done a w hf hr hy hS H => core f done a w (Region.free_spec hi hf) (by simpa using hr) hy hS H
theorem AnyZ.step {f i : Nat} {o : Oper} {done : Array Bool} {a : Act} {w : World} (hr : Region.ready md ops done = [i]) (ho : ops[i]? = some o)
    (h : ∀ K' : Act → World → Prop, Hid (∀ a w, S w → (S w → AnyZ P md ops Q S z f (done.setIfInBounds i true) a w) → K' a w) → if Region.wanted o (yielded ops a.tmps) = true then Oper.wp P o a w K' Q else K' (a.put o.dst undef) w) : AnyZ P md ops Q S z (f + 1) done a w := by
  refine ⟨fun h0 => (by rw [hr] at h0; cases h0), fun j hj => ?_⟩
  rw [hr, List.mem_singleton] at hj
  subst hj
  exact wpOp_step ho (fun K' hK => h K' (show ∀ a w, _ from fun a w hS hW => hK a w ⟨fun _ => hS, hW hS⟩))
theorem AnyZ.stepF {f i : Nat} {o : Oper} {done : Array Bool} {a : Act} {w : World} (hr : Region.ready md ops done = [i]) (ho : ops[i]? = some o) (hz : (done.setIfInBounds i true).getD z true = true)
    (h : ∀ K' : Act → World → Prop, Hid (∀ a w, AnyZ P md ops Q S z f (done.setIfInBounds i true) a w → K' a w) → if Region.wanted o (yielded ops a.tmps) = true then Oper.wp P o a w K' Q else K' (a.put o.dst undef) w) : AnyZ P md ops Q S z (f + 1) done a w := by
  refine ⟨fun h0 => (by rw [hr] at h0; cases h0), fun j hj => ?_⟩
  rw [hr, List.mem_singleton] at hj
  subst hj
  exact wpOp_step ho (fun K' hK => h K' (show ∀ a w, _ from fun a w hW => hK a w ⟨fun e => (by rw [hz] at e; cases e), hW⟩))
theorem AnyZ.done {done : Array Bool} {a : Act} {w : World} (hr : Region.ready md ops done = []) (h : Q .normal a w) : ∀ f, AnyZ P md ops Q S z f done a w
  | 0 => ⟨hr, h⟩
  | _ + 1 => ⟨fun _ => h, by rw [hr]; simp⟩
theorem AnyZ.start {id : Nat} {a : Act} {w : World} (hm : P.follows .mixedOrders = true) (hS : S w.drew) (h : S w.drew → AnyZ P .any ops Q S z ops.size (Array.replicate ops.size false) a w.drew) : (Code.region id ops true).wp P Q a w :=
  wp_region_any hm (AnyZ.any _ _ _ _ (h hS))
end
end S9
end
section
namespace S9
open Go.RowKit

def newP (a b : Int) : Pt :=
  if h : (Lit.int .u16 a).wf = true ∧ (Lit.int .u32 b).wf = true then (zeroP.set 0 (.int .u16 a) (fit_num rfl h.1)).set 1 (.int .u32 b) (fit_num rfl h.2) else zeroP
theorem newP_is {a b : Int} (ha : (Lit.int .u16 a).wf = true) (hb : (Lit.int .u32 b).wf = true) : newP a b = (zeroP.set 0 (.int .u16 a) (fit_num rfl ha)).set 1 (.int .u32 b) (fit_num rfl hb) := dif_pos ⟨ha, hb⟩
def newPs (l : List Int) : List Pt := l.mapIdx fun i x => newP (32769 + (i : Int)) x
theorem newPs_len (l : List Int) : (newPs l).length = l.length := by simp [newPs]
theorem newPs_next {l : List Int} {i : Nat} (h : i < l.length) : newPs (l.take (i + 1)) = newPs (l.take i) ++ [newP (32769 + (i : Int)) l[i]] := by
  have e : l.take (i + 1) = l.take i ++ [l[i]] := by rw [List.take_add_one, List.getElem?_eq_getElem h]; rfl
  unfold newPs
  rw [e, List.mapIdx_append]
  simp only [List.mapIdx_cons, List.mapIdx_nil, List.length_take]
  rw [Nat.min_eq_left (by omega), Nat.zero_add]
def newHl (c : Cf) : List Value := [.int .u64 (c.nm 0), .int .u8 (c.nm 1), .int .u8 (c.nm 2), .int .u8 (c.nm 3), .int .u8 (c.nm 4), .int .u8 (c.nm 5), .bool false, .int .u16 0, .int .u64 0, .int .u32 0, .int .u64 0, .int .u16 0, .int .u8 0, .int .u8 0, .int .u8 0, .int .u8 0]
def newH (c : Cf) : Hd := ⟨newHl c, by
  refine ⟨rfl, fun j k v hk hv => ?_⟩
  match j, hk, hv with
  | 0, hk, hv => cases hk; cases hv; exact ⟨_, rfl, c.nwf rfl⟩
  | 1, hk, hv => cases hk; cases hv; exact ⟨_, rfl, c.nwf rfl⟩
  | 2, hk, hv => cases hk; cases hv; exact ⟨_, rfl, c.nwf rfl⟩
  | 3, hk, hv => cases hk; cases hv; exact ⟨_, rfl, c.nwf rfl⟩
  | 4, hk, hv => cases hk; cases hv; exact ⟨_, rfl, c.nwf rfl⟩
  | 5, hk, hv => cases hk; cases hv; exact ⟨_, rfl, c.nwf rfl⟩
  | 6, hk, hv => cases hk; cases hv; exact ⟨_, rfl⟩
  | 7, hk, hv => cases hk; cases hv; exact ⟨_, rfl, by decide⟩
  | 8, hk, hv => cases hk; cases hv; exact ⟨_, rfl, by decide⟩
  | 9, hk, hv => cases hk; cases hv; exact ⟨_, rfl, by decide⟩
  | 10, hk, hv => cases hk; cases hv; exact ⟨_, rfl, by decide⟩
  | 11, hk, hv => cases hk; cases hv; exact ⟨_, rfl, by decide⟩
  | 12, hk, hv => cases hk; cases hv; exact ⟨_, rfl, by decide⟩
  | 13, hk, hv => cases hk; cases hv; exact ⟨_, rfl, by decide⟩
  | 14, hk, hv => cases hk; cases hv; exact ⟨_, rfl, by decide⟩
  | 15, hk, hv => cases hk; cases hv; exact ⟨_, rfl, by decide⟩
  | j + 16, hk, hv => simp [newHl] at hv⟩
def bdP (ps : Array (Nat × Value)) : Sem Value := Instr.build 74 ps
theorem bd55 (ps : Array (Nat × Value)) : Instr.build 74 ps = bdP ps := rfl
def bdT (ps : Array (Nat × Value)) : Sem Value := Instr.build 39 ps
theorem bd34 (ps : Array (Nat × Value)) : Instr.build 39 ps = bdT ps := rfl
def bsP (n : Nat) (ps : Array (Nat × Value)) : Sem Value := Instr.buildSlice 37 n ps
theorem bs32 (n : Nat) (ps : Array (Nat × Value)) : Instr.buildSlice 37 n ps = bsP n ps := rfl
def newC (a b : Int) : List Value := (zeroP.cl.set 0 (.int .u16 a)).set 1 (.int .u32 b)
theorem bdP_run (a b : Int) (w : World) : (bdP #[(0, .int .u16 a), (1, .int .u32 b)]).run Tryz.prog w = .ok (.agg (newC a b).toArray) w := by kernel_rfl
theorem bdP_is {a b : Int} (ha : (Lit.int .u16 a).wf = true) (hb : (Lit.int .u32 b).wf = true) (w : World) : (bdP #[(0, .int .u16 a), (1, .int .u32 b)]).run Tryz.prog w = .ok (.agg (newP a b).cs) w := by
  rw [bdP_run, newP_is ha hb]
  rfl
theorem bdT_run (i t0 t1 t2 t3 u : Int) (w : World) : (bdT #[(0, .int .u64 i), (1, .agg #[.int .u8 t0, .int .u8 t1, .int .u8 t2, .int .u8 t3]), (2, .int .u8 u)]).run Tryz.prog w = .ok (.agg #[.int .u64 i, .int .u8 t0, .int .u8 t1, .int .u8 t2, .int .u8 t3, .int .u8 u, .bool false, .int .u16 0, .int .u64 0, .int .u32 0, .int .u64 0, .int .u16 0, .int .u8 0, .int .u8 0, .int .u8 0, .int .u8 0, .slice none 0 0]) w := by kernel_rfl
theorem bdT_is (c : Cf) (w : World) : (bdT #[(0, .int .u64 (c.nm 0)), (1, .agg #[.int .u8 (c.nm 1), .int .u8 (c.nm 2), .int .u8 (c.nm 3), .int .u8 (c.nm 4)]), (2, .int .u8 (c.nm 5))]).run Tryz.prog w = .ok (.agg (trc (newH c) (.slice none 0 0))) w := by
  rw [bdT_run]
  rfl
theorem bdT_no (w : World) : (bdT #[]).run Tryz.prog w = .ok (.agg (trc zeroH (.slice none 0 0))) w := by
  have : (bdT #[]).run Tryz.prog w = .ok (.agg zeroT) w := by kernel_rfl
  rw [this, zeroT_is]
theorem fill_all : ∀ (l m : List Value) (k : Nat) (pre : List Value), l.length = m.length → pre.length = k → ((l.zipIdx k).foldl (fun (cs : Array Value) (x : Value × Nat) => cs.setIfInBounds (0 + x.2) x.1) (pre ++ m).toArray) = (pre ++ l).toArray
  | [], [], k, pre, _, _ => by simp
  | x :: l, y :: m, k, pre, h, hp => by
    rw [List.zipIdx_cons, List.foldl_cons]
    have e : ((pre ++ y :: m).toArray.setIfInBounds (0 + k) x) = ((pre ++ [x]) ++ m).toArray := by
      rw [Nat.zero_add, List.setIfInBounds_toArray, List.set_append_right _ _ (by omega), hp, Nat.sub_self, List.set_cons_zero]
      simp
    simp only
    rw [e, fill_all l m (k + 1) (pre ++ [x]) (by simpa using h) (by simp [hp])]
    simp
theorem bsP_is (p : Pt) (w : World) : (bsP 1 #[(0, .agg p.cs)]).run Tryz.prog w = .ok (.slice (some ⟨w.heap.size, 0, none⟩) 1 1) (w.alloc (.cells p.cs 74)) := by
  have hz : ∀ V : World, (sizeOf 74).run Tryz.prog V = .ok 77 V := Tryz.sizeOf74
  have hv : (zeroValue 74).run Tryz.prog w = .ok (.agg zeroP.cs) w := by kernel_rfl
  have hu : Tryz.prog.underlying 37 = some (.slice 74) := Tryz.underlying37
  have hf : Instr.fill (fun i => some (i * 77, 77)) ((Array.range (1 * 77)).map (zeroP.cs[· % zeroP.cs.size]!)) [(0, .agg p.cs)] = some p.cs := by
    have hps : p.cs.size = 77 := by rw [Row.csize, lenP]
    have e : ((Array.range (1 * 77)).map (zeroP.cs[· % zeroP.cs.size]!)).size = 77 := by simp
    unfold Instr.fill
    simp only [Value.cells, hps, e]
    rw [if_neg (by simp)]
    unfold Instr.fill
    have q := fill_all p.cl ((Array.range (1 * 77)).map (zeroP.cs[· % zeroP.cs.size]!)).toList 0 [] (by rw [Array.length_toList, e, Pt.len]) rfl
    simp only [List.nil_append, Array.toArray_toList] at q
    have e2 : p.cs = p.cl.toArray := rfl
    have e3 : p.cs.zipIdx.toList = p.cl.zipIdx := by rw [e2]; simp
    rw [← Array.foldl_toList, e3, e2, Nat.zero_mul]
    exact congrArg some q
  unfold bsP Instr.buildSlice
  simp only [Sem.run_bind, run_underlying hu, Result.andThen_ok, hz]
  simp [hv, hf, Value.cells]
  rfl
end S9
end
section
namespace S9
open Go.RowKit
theorem results_rowtmp {fn : Func} {k n t : Nat} {ty : TypeId} (T : RowTy ty n) (hr : fn.results = #[.cell k ty, .tmp t]) (tmps : Array Value) (w : World) (b : Nat) (cs : Array Value) (h2 : tmps.getD k undef = .pointer (some ⟨b, 0, none⟩)) (h : RvAt w b ty cs) (hn : cs.size = n) :
    (results fn tmps).run Tryz.prog w = .ok (.tuple #[.agg cs, tmps.getD t undef]) w := by
  have hl := h.lv T hn
  have h2' : tmps[k]?.getD undef = .pointer (some ⟨b, 0, none⟩) := by simpa using h2
  simp [results, hr, asAddr, hl, h2']
def hdN (b : Bool) (c : Cf) : Hd := match b with | true => newH c | false => zeroH
def psN (b : Bool) (l : List Int) : List Pt := match b with | true => newPs l | false => []
theorem two_ct (w : World) (c : Cf) (x : Value) : ∃ W, (w.alloc (.cells (cfc c x) 27)).alloc (.cells #[.int .u64 0, .int .u8 0, .int .u8 0, .int .u8 0, .int .u8 0, .int .u8 0, .bool false, .int .u16 0, .int .u64 0, .int .u32 0, .int .u64 0, .int .u16 0, .int .u8 0, .int .u8 0, .int .u8 0, .int .u8 0, .slice none 0 0] 39) = W ∧ RvAt W w.heap.size 27 (cfc c x) ∧ RvAt W (w.heap.size + 1) 39 (trc zeroH (.slice none 0 0)) ∧ Below w.heap.size w W ∧ W.heap.size = w.heap.size + 2 := by
  obtain ⟨A, hA⟩ : ∃ A, w.alloc (.cells (cfc c x) 27) = A := ⟨_, rfl⟩
  have bA : Below w.heap.size w A := by rw [← hA]; exact (Below.refl _ _).alloc (Nat.le_refl _) _
  have rA : RvAt A w.heap.size 27 (cfc c x) := by rw [← hA]; exact RvAt.new w _ _
  have zA : A.heap.size = w.heap.size + 1 := by rw [← hA]; simp
  rw [hA]
  have bB : Below A.heap.size A (A.alloc (.cells zeroT 39)) := (Below.refl _ _).alloc (Nat.le_refl _) _
  refine ⟨_, rfl, rA.below bB, ?_, below_over bA bB, by simp [zA]⟩
  rw [← zA, ← zeroT_is]
  exact RvAt.new A _ _
theorem new_t (W : World) (h : Hd) : ∃ W', (stS 39 (.pointer (some ⟨W.heap.size, 0, none⟩)) (.agg (trc h (.slice none 0 0)))).run Tryz.prog (W.alloc (.cells #[.int .u64 0, .int .u8 0, .int .u8 0, .int .u8 0, .int .u8 0, .int .u8 0, .bool false, .int .u16 0, .int .u64 0, .int .u32 0, .int .u64 0, .int .u16 0, .int .u8 0, .int .u8 0, .int .u8 0, .int .u8 0, .slice none 0 0] 39)) = .ok () W' ∧ RvAt W' W.heap.size 39 (trc h (.slice none 0 0)) ∧ Below W.heap.size W W' ∧ W'.heap.size = W.heap.size + 1 :=
  row_new rtT W zeroT _ rfl (trc_size _ _) (trc_one rfl)
attribute [local go_sem ↓] ldP stP ldT stT apE st32 ldC stC ldTm bd55 bd34 bs32
theorem wf16 {n : Int} (h : 0 ≤ n ∧ n ≤ 65535) : (Lit.int .u16 n).wf = true := by simp [Lit.wf, IntKind.min, IntKind.max, IntKind.signed, IntKind.bits]; omega
structure NSt (w U : World) (q b : Nat) (h : Hd) (v : Value) (ls : List Pt) : Prop where
  var : RvAt U q 39 (trc h v)
  own : Own U b v ls
  bel : Below w.heap.size w U
  lt : q < b
theorem NSt.app {w U : World} {q b : Nat} {h : Hd} {v : Value} {ls : List Pt} (s : NSt w U q b h v ls) (hw : w.heap.size ≤ q) (hb : b ≤ U.heap.size) (hl : ls.length ≤ 1000) (p : Pt) :
    ∃ v' X Y, (apS 37 #[v, .slice (some ⟨U.heap.size, 0, none⟩) 1 1]).run Tryz.prog (U.alloc (.cells p.cs 74)) = .ok v' X ∧ (stS 37 (.pointer (some ⟨q, 16, none⟩)) v').run Tryz.prog X = .ok () Y ∧ NSt w Y q b h v' (ls ++ [p]) ∧ b ≤ Y.heap.size ∧ U.grownBy X v.ownBlock ∧ (∀ z, z < q → Y.heap[z]? = U.heap[z]?) := by
  obtain ⟨A, hA⟩ : ∃ A, U.alloc (.cells p.cs 74) = A := ⟨_, rfl⟩
  have bA : Below U.heap.size U A := by rw [← hA]; exact (Below.refl _ _).alloc (Nat.le_refl _) _
  have sA : SlAt A (some ⟨U.heap.size, 0, none⟩) 1 1 [p] := by rw [← hA]; exact one_new U p
  have zA : b ≤ A.heap.size := Nat.le_trans hb bA.size
  obtain ⟨v', X, ap, o2, g2⟩ := (s.own.below bA).app sA (by simp; omega) zA 37
  have ob : ∀ j, v.ownBlock = some j → b ≤ j := fun j e => by
    rcases s.own.pat with ⟨rfl, _⟩ | ⟨g, cc, rfl, hg, _⟩
    · cases e
    · cases e; exact hg
  have rX := (s.var.below bA).keptBut g2 (fun e => by have := ob _ e.symm; have := s.lt; omega)
  obtain ⟨Y, sY, rY, gY⟩ := rX.tset o2.one
  have oY := o2.keptBut gY (o2.apart s.lt)
  have b1 : Below w.heap.size w X := (below_over s.bel bA).trans (below_of_grown g2 (by have := (below_over s.bel bA).size; omega) (fun j e => by have := ob j e; have := s.lt; omega))
  refine ⟨v', X, Y, by rw [hA]; exact ap, sY, ⟨rY, oY, gro b1 gY hw b1.size, s.lt⟩, by have := g2.size; have := gY.size; omega, ?_, fun z hz => ?_⟩
  rotate_left
  · have hq := (s.var).lt
    rw [gY.block z (by have := g2.size; have := bA.size; omega) (by simp; omega), g2.block z (by have := bA.size; omega) (fun e => by have := ob z e.symm; have := s.lt; omega), bA.block z (by omega)]
  exact ⟨g2.os.trans bA.os, g2.tape.trans bA.tape, g2.output.trans bA.output, Nat.le_trans bA.size g2.size, fun i hi hne => (g2.block i (Nat.lt_of_lt_of_le hi bA.size) hne).trans (bA.block i hi)⟩
set_option maxHeartbeats 8000000 in
theorem new_any (c : Cf) (a : Option Addr) (n k : Nat) (l : List Int) (w : World) (hs : CsAt w a n k l) (hn : n ≤ 1000) :
    Calls Tryz.prog 39 #[.agg (cfc c (.slice a n k))] w fun r w' => ∃ v, r = .returned (.tuple #[.agg (trc (hdN (okC c l) c) v), .int .i64 (erC (okC c l))]) ∧ Own w' w.heap.size v (psN (okC c l) l) ∧ Below w.heap.size w w' := by
  obtain ⟨W, hW, r0, r1, bW, zW⟩ := two_ct w c (.slice a n k)
  have H : Hid (CsAt W a n k l ∧ n ≤ 1000 ∧ l.length = n ∧ RvAt W w.heap.size 27 (cfc c (.slice a n k)) ∧ RvAt W (w.heap.size + 1) 39 (trc zeroH (.slice none 0 0)) ∧ Below w.heap.size w W ∧ W.heap.size = w.heap.size + 2) := ⟨hs.below bW, hn, hs.len, r0, r1, bW, zW⟩
  have hnn : (n : Int) ≤ 1000 := by omega
  have l0 := r0.cld
  clear hs hn r0 r1 bW zW
  go_enter Tryz.func39, Tryz.ntmps39
  go_wp2_with fail
  refine (checkc_any c a n k l W H.out.1 H.out.2.1).mono ?_
  rintro _ W1 ⟨rfl, b1⟩
  have B1 : Hid (Below W.heap.size W W1) := b1
  clear b1 l0
  obtain ⟨ok, hok⟩ : ∃ z, okC c l = z := ⟨_, rfl⟩
  rw [hok]
  have OK : Hid (okC c l = ok) := hok
  clear hok
  cases ok
  · have q1 := H.out.2.2.2.2.1.below B1.out
    obtain ⟨W2, s2, r2, g2⟩ := q1.tst (g := zeroH) (y := .slice none 0 0) rfl
    have bn := bdT_no
    have F : Hid (RvAt W2 (w.heap.size + 1) 39 (trc zeroH (.slice none 0 0)) ∧ Below w.heap.size w W2) := ⟨r2, gro (below_over H.out.2.2.2.2.2.1 B1.out) g2 (by omega) (below_over H.out.2.2.2.2.2.1 B1.out).size⟩
    clear q1 r2 g2
    go_wp2
    refine bodyPost_ret (results_rowtmp rtT Tryz.results39 _ _ _ _ rfl F.out.1 (trc_size _ _)) rfl ?_
    exact ⟨.slice none 0 0, by rw [OK.out]; rfl, by rw [OK.out]; exact Own.nil _ _, F.out.2⟩
  · have q0 := H.out.2.2.2.1.below B1.out
    have ci := q0.cnum (j := 0) rfl
    have ct := q0.cT
    have ch := q0.cnum (j := 5) rfl
    have bt := bdT_is c
    obtain ⟨T, sT, rT, bT, zT⟩ := new_t W1 (newH c)
    obtain ⟨q, hq⟩ : ∃ q, W1.heap.size = q := ⟨_, rfl⟩
    rw [hq] at sT rT zT
    have z1 := H.out.2.2.2.2.2.2
    have z2 := B1.out.size
    have c6 := (q0.below bT).c6
    have G : Hid (NSt w T q (q + 1) (newH c) (.slice none 0 0) [] ∧ RvAt T w.heap.size 27 (cfc c (.slice a n k)) ∧ RvAt T (w.heap.size + 1) 39 (trc zeroH (.slice none 0 0)) ∧ CsAt T a n k l ∧ w.heap.size + 2 ≤ q ∧ T.heap.size = q + 1 ∧ Below w.heap.size w T) :=
      ⟨⟨rT, Own.nil _ _, below_over (below_over H.out.2.2.2.2.2.1 B1.out) bT, by omega⟩, q0.below bT, (H.out.2.2.2.2.1.below B1.out).below bT, (H.out.1.below B1.out).below bT, by omega, by omega, below_over (below_over H.out.2.2.2.2.2.1 B1.out) bT⟩
    clear q0 rT bT zT z1 z2
    go_wp2_with fail
    clear ci ct ch bt sT
    go_loopw [24] (fun v24 wr => ∃ i : Nat, i ≤ n ∧ v24 = .int .i64 i ∧ ∃ v, NSt w wr q (q + 1) (newH c) v (newPs (l.take i)) ∧ q + 1 ≤ wr.heap.size ∧ (∀ z, z < q → wr.heap[z]? = T.heap[z]?)) (fun v24 _ => n - (intOf v24).toNat)
    case atStart => exact ⟨0, by omega, rfl, _, G.out.1, by have := G.out.2.2.2.2.2.1; omega, fun _ _ => rfl⟩
    case round =>
      obtain ⟨i, hi, rfl, v, hS, hz, hk⟩ := hrel
      have hin0 : (0 : Int) ≤ (i : Int) := by omega
      have kc : RvAt wr w.heap.size 27 (cfc c (.slice a n k)) := (hk _ (by have := G.out.2.2.2.2.1; omega)).trans G.out.2.1
      have kr : RvAt wr (w.heap.size + 1) 39 (trc zeroH (.slice none 0 0)) := (hk _ (by have := G.out.2.2.2.2.1; omega)).trans G.out.2.2.1
      have J : Hid (NSt w wr q (q + 1) (newH c) v (newPs (l.take i)) ∧ q + 1 ≤ wr.heap.size ∧ RvAt wr (w.heap.size + 1) 39 (trc zeroH (.slice none 0 0)) ∧ RvAt wr w.heap.size 27 (cfc c (.slice a n k)) ∧ (∀ z, z < q → wr.heap[z]? = T.heap[z]?)) := ⟨hS, hz, kr, kc, hk⟩
      by_cases hit : i < n
      · have hin1 : (i : Int) < (n : Int) := by omega
        have hl : i < l.length := by rw [H.out.2.2.1]; exact hit
        obtain ⟨b, o, rfl⟩ := H.out.1.some' (by omega)
        obtain ⟨x, hx⟩ : ∃ x, l[i] = x := ⟨_, rfl⟩
        have hxw : (Lit.int .u32 x).wf = true := by rw [← hx]; exact H.out.1.bnd _ (List.getElem_mem _)
        have cx := G.out.2.2.2.1.cells b o rfl i x (by rw [List.getElem?_eq_getElem hl, hx])
        have cx2 := H.out.1.cells b o rfl i x (by rw [List.getElem?_eq_getElem hl, hx])
        have hbq : b < W.heap.size := World.block_lt_of_cell? W _ cx2
        have cw : wr.cell? ⟨b, o + i, none⟩ = some (.int .u32 x) := (World.cell?_of_block (hk b (by have := G.out.2.2.2.2.1; have := H.out.2.2.2.2.2.2; omega))).trans cx
        have hw1 : IntKind.u16.wrap (i : Int) = (i : Int) := IntWalk.u16_in _ (by omega)
        have hw2 : IntKind.u16.wrap (32769 + (i : Int)) = 32769 + (i : Int) := IntWalk.u16_in _ (by omega)
        have hw3 : IntKind.i64.wrap (32769 + (i : Int)) = 32769 + (i : Int) := IntWalk.i64_in _ (by omega)
        have bp := bdP_is (wf16 (n := 32769 + (i : Int)) (by omega)) hxw
        have bs := bsP_is (newP (32769 + (i : Int)) x)
        have t16 := hS.var.t16
        obtain ⟨v', X, Y, ap, sY, nY, zY, gX, kY⟩ := hS.app (by have := G.out.2.2.2.2.1; omega) hz (by rw [newPs_len, List.length_take]; have := H.out.2.1; have := H.out.2.2.1; omega) (newP (32769 + (i : Int)) x)
        have bY : ∀ z, z < q → Y.heap[z]? = T.heap[z]? := fun z hz => (kY z hz).trans (hk z hz)
        have N : Hid (NSt w Y q (q + 1) (newH c) v' (newPs (l.take (i + 1))) ∧ q + 1 ≤ Y.heap.size ∧ (∀ z, z < q → Y.heap[z]? = T.heap[z]?)) := ⟨by rw [newPs_next hl, hx]; exact nY, zY, bY⟩
        clear hS hz hk kc kr hl hx cx cx2 hbq nY zY gX kY bY hxw
        go_wp2
        go_roundw
        case rel => exact ⟨i + 1, by omega, by go_num, v', N.out.1, N.out.2.1, N.out.2.2⟩
        case measure => simp [intOf]; omega
      · have hin : i = n := by omega
        subst hin
        have hin1 : ¬ (i : Int) < (i : Int) := by omega
        have lt := hS.var.tld
        obtain ⟨Y, sY, rY, gY⟩ := kr.tst (g := newH c) (y := v) hS.own.one
        have oY := hS.own.keptBut gY (hS.own.apart (by have := G.out.2.2.2.2.1; omega))
        have bY := gro hS.bel gY (by omega) hS.bel.size
        rw [List.take_of_length_le (by rw [H.out.2.2.1]; omega)] at oY
        have F : Hid (RvAt Y (w.heap.size + 1) 39 (trc (newH c) v) ∧ Own Y w.heap.size v (newPs l) ∧ Below w.heap.size w Y) := ⟨rY, oY.base (by have := G.out.2.2.2.2.1; omega), bY⟩
        clear hS hz hk kc kr rY gY oY bY
        go_wp2
        refine bodyPost_ret (results_rowtmp rtT Tryz.results39 _ _ _ _ rfl F.out.1 (trc_size _ _)) rfl ?_
        exact ⟨v, by rw [OK.out]; rfl, by rw [OK.out]; exact F.out.2.1, F.out.2.2⟩
end S9
end
end Go.Proofs.YtlchejbggnbccaaGreat
