/-
  Trees whose ports are changed: each with its three changes; Up; the definition's Has and Up. Their walks.
-/
import Derived.Test.YtdlleecfmebenaaCopy
namespace Go.Proofs.Ytdlleecfmebenaa
set_option linter.unusedVariables false
set_option maxRecDepth 4000
set_option linter.unusedSimpArgs false
open Go.RowKit

/-- A port that is up, or not; that is to be in step; that is asked whether it was root. -/
def upP (b : Bool) (p : Pt) : Pt := p.setB 2 kb2 b
def gtP (l : List Pt) (i : Nat) : Pt := l.getD i zeroP
theorem gtP_at {l : List Pt} {i : Nat} (h : i < l.length) : l[i]? = some (gtP l i) := by
  simp [gtP, List.getD_eq_getElem?_getD, List.getElem?_eq_getElem h]
/-- The first i ports changed. -/
def mapTo (f : Pt → Pt) (l : List Pt) (i : Nat) : List Pt := (l.take i).map f ++ l.drop i
theorem mapTo_len (f : Pt → Pt) (l : List Pt) (i : Nat) : (mapTo f l i).length = l.length := by
  simp [mapTo]; omega
theorem mapTo_at {f : Pt → Pt} {l : List Pt} {i : Nat} (h : i < l.length) : (mapTo f l i)[i]? = some (gtP l i) := by
  rw [← gtP_at h]
  unfold mapTo
  rw [List.getElem?_append_right (by simp; omega), List.length_map, List.length_take, Nat.min_eq_left (by omega), Nat.sub_self, List.getElem?_drop]
  rfl
theorem mapTo_next {f : Pt → Pt} {l : List Pt} {i : Nat} (h : i < l.length) : (mapTo f l i).set i (f (gtP l i)) = mapTo f l (i + 1) := by
  unfold mapTo
  have e : ((l.take i).map f).length = i := by simp; omega
  have hg : gtP l i = l[i] := by
    have := gtP_at h
    rw [List.getElem?_eq_getElem h] at this
    exact (Option.some.inj this).symm
  rw [List.set_append_right _ _ (by omega), e, Nat.sub_self, List.drop_eq_getElem_cons h, List.set_cons_zero, List.take_add_one, List.getElem?_eq_getElem h, hg, List.map_append, List.append_assoc]
  rfl
theorem mapTo_all (f : Pt → Pt) (l : List Pt) : mapTo f l l.length = l.map f := by simp [mapTo]
theorem mapTo_zero (f : Pt → Pt) (l : List Pt) : mapTo f l 0 = l := by simp [mapTo]
attribute [local go_sem ↓] ldP stP ldT stT apE st32 st4
def syncP (p : Pt) : Pt := p.setB 24 kb24 true
def rerP (p : Pt) : Pt := p.setB 20 kb20 true
/-- What each asks of a change. -/
def Chg (F : Nat) (f : Pt → Pt) : Prop := ∀ (W : World) (g c i q : Nat) (l : List Pt) (p : Pt), PAt W g c l → l[i]? = some p → q = i * 77 →
  Calls Try.prog F #[.pointer (some ⟨g, q, none⟩)] W fun r W' => r = .returned (.tuple #[]) ∧ PAt W' g c (l.set i (f p)) ∧ W.grownBy W' (some g)
theorem chg_sync : Chg 78 syncP := by
  intro W g c i q l p hp hi hq
  obtain ⟨V, s, hV, gV⟩ := hp.st1 (q := q + 24) (j := 24) (v := .bool true) hi info1.1 (by omega) rfl (fit_bit rfl) (by rw [hq])
  have F : Hid (PAt V g c (l.set i (syncP p)) ∧ W.grownBy V (some g)) := ⟨hV, gV⟩
  clear hV gV hp hi hq
  go_enter Try.func78, Try.ntmps78
  go_wp2
  go_end0
  exact ⟨rfl, F.out.1, F.out.2⟩
theorem chg_rer : Chg 77 rerP := by
  intro W g c i q l p hp hi hq
  obtain ⟨V, s, hV, gV⟩ := hp.st1 (q := q + 20) (j := 20) (v := .bool true) hi info1.1 (by omega) rfl (fit_bit rfl) (by rw [hq])
  have F : Hid (PAt V g c (l.set i (rerP p)) ∧ W.grownBy V (some g)) := ⟨hV, gV⟩
  clear hV gV hp hi hq
  go_enter Try.func77, Try.ntmps77
  go_wp2
  go_end0
  exact ⟨rfl, F.out.1, F.out.2⟩
set_option maxHeartbeats 4000000 in
theorem each_any (F : Nat) (f : Pt → Pt) (hF : Chg F f) (hc : ∀ (x : Value) (V : World), (callFunc F #[x]).run Try.prog V = .ok (.enter F #[x]) V) (h : Hd) (a : Option Addr) (n c : Nat) (l : List Pt) (w : World) (hs : SlAt w a n c l) (hn : n ≤ 1000) :
    Calls Try.prog 76 #[.agg (trc h (.slice a n c)), .func (.func F) #[] #[]] w fun r w' => ∃ v, r = .returned (.agg (trc h v)) ∧ Own w' w.heap.size v (l.map f) ∧ Below w.heap.size w w' := by
  obtain ⟨W, hW, r0, r1, bW, zW⟩ := two_t w h (.slice a n c)
  have l0 := r0.tld
  have H : Hid (SlAt W a n c l ∧ n ≤ 1000 ∧ l.length = n ∧ RvAt W w.heap.size 31 (trc h (.slice a n c)) ∧ RvAt W (w.heap.size + 1) 31 (trc zeroH (.slice none 0 0)) ∧ Below w.heap.size w W ∧ W.heap.size = w.heap.size + 2) := ⟨hs.below bW, hn, hs.len, r0, r1, bW, zW⟩
  clear hs hn r0 r1 bW zW
  go_enter Try.func76, Try.ntmps76
  go_wp2_with fail
  refine (copy_any h a n c l W H.out.1 H.out.2.1).mono ?_
  rintro _ W2 ⟨v, rfl, o2, b2⟩
  obtain ⟨W3, s3, r3, g3⟩ := (H.out.2.2.2.1.below b2).tst (g := h) (y := v) o2.one
  have z2 := H.out.2.2.2.2.2.2
  have o3 := o2.keptBut g3 (o2.apart (by omega))
  have q3 := (H.out.2.2.2.2.1.below b2).keptBut g3 (by simp)
  have b3 : Below w.heap.size w W3 := gro (below_over H.out.2.2.2.2.2.1 b2) g3 (Nat.le_refl _) (by have := b2.size; omega)
  clear b2 g3 l0
  rcases o3.pat with ⟨rfl, rfl⟩ | ⟨g, cc, rfl, hg, hp⟩
  · have c16 := r3.t16
    obtain ⟨W4, s4, r4, g4⟩ := q3.tst (g := h) (y := .slice none 0 0) rfl
    have l3 := r3.tld
    have G : Hid (RvAt W4 (w.heap.size + 1) 31 (trc h (.slice none 0 0)) ∧ Below w.heap.size w W4) := ⟨r4, gro b3 g4 (by omega) b3.size⟩
    clear r3 q3 b3 r4 g4 o2 o3 z2
    go_wp2_with fail
    go_rounds 1
    refine bodyPost_ret (results_row rtT Try.results76 _ _ _ _ rfl G.out.1 (trc_size _ _)) rfl ?_
    exact ⟨_, rfl, Own.nil _ _, G.out.2⟩
  · have hl := H.out.2.2.1
    have hn1 := H.out.2.1
    have G : Hid (RvAt W3 w.heap.size 31 (trc h (.slice (some ⟨g, 0, none⟩) l.length cc)) ∧ RvAt W3 (w.heap.size + 1) 31 (trc zeroH (.slice none 0 0)) ∧ Below w.heap.size w W3 ∧ PAt W3 g cc l ∧ w.heap.size + 2 ≤ g) := ⟨r3, q3, b3, hp, by omega⟩
    have c16 := r3.t16
    obtain ⟨X, hX⟩ : ∃ X, X = l.length := ⟨_, rfl⟩
    rw [← hX] at c16
    have hx0 : X ≤ 1000 := by omega
    have GX : Hid (X = l.length) := hX
    clear r3 q3 b3 hp hg hl hn1 o2 o3 z2 hX
    go_wp2_with fail
    go_loopw [5, 11] (fun v5 v11 wr => ∃ i : Nat, i ≤ X ∧ v11 = .int .i64 i ∧ PAt wr g cc (mapTo f l i) ∧ W3.grownBy wr (some g)) (fun _ v11 _ => X - (intOf v11).toNat)
    case atStart => exact ⟨0, by omega, rfl, by rw [mapTo_zero]; exact G.out.2.2.2.1, World.grownBy.refl _ _⟩
    case round =>
      obtain ⟨i, hi, rfl, hpi, hgi⟩ := hrel
      have J : Hid (PAt wr g cc (mapTo f l i) ∧ W3.grownBy wr (some g)) := ⟨hpi, hgi⟩
      have hr := G.out.1.keptBut hgi (by have := G.out.2.2.2.2; simp; omega)
      by_cases hit : i < X
      · have hin0 : (0 : Int) ≤ (i : Int) := by omega
        have hin1 : (i : Int) < (X : Int) := by omega
        have c16 := hr.t16
        rw [← GX.out] at c16
        clear hpi hgi hr
        go_wp2_with fail
        refine (hF wr g cc i (i * 77) (mapTo f l i) (gtP l i) J.out.1 (mapTo_at (by rw [← GX.out]; exact hit)) rfl).mono ?_
        rintro _ V ⟨rfl, pV, gV⟩
        rw [mapTo_next (by rw [← GX.out]; exact hit)] at pV
        go_wp2
        go_roundw
        case rel => exact ⟨i + 1, by omega, by go_num, pV, grown_self J.out.2 gV⟩
        case measure => simp [intOf]; omega
      · have hin : i = X := by omega
        subst hin
        have hin1 : ¬ (i : Int) < (i : Int) := by omega
        have l3 := hr.tld
        have q3 := G.out.2.1.keptBut hgi (by have := G.out.2.2.2.2; simp; omega)
        obtain ⟨W4, s4, r4, g4⟩ := q3.tst (g := h) (y := .slice (some ⟨g, 0, none⟩) l.length cc) rfl
        have pe := hpi.keptBut g4 (by have := G.out.2.2.2.2; simp; omega)
        rw [GX.out, mapTo_all] at pe
        have be : Below w.heap.size w W4 := gro (gro G.out.2.2.1 hgi (by have := G.out.2.2.2.2; omega) G.out.2.2.1.size) g4 (by omega) (by have := G.out.2.2.1.size; have := hgi.size; omega)
        have K : Hid (RvAt W4 (w.heap.size + 1) 31 (trc h (.slice (some ⟨g, 0, none⟩) l.length cc)) ∧ PAt W4 g cc (l.map f) ∧ Below w.heap.size w W4) := ⟨r4, pe, be⟩
        clear hpi hgi hr q3 r4 g4 pe be
        go_wp2
        refine bodyPost_ret (results_row rtT Try.results76 _ _ _ _ rfl K.out.1 (trc_size _ _)) rfl ?_
        refine ⟨_, rfl, ?_, K.out.2.2⟩
        have := K.out.2.1.own (B := w.heap.size) (by have := G.out.2.2.2.2; omega)
        rw [List.length_map] at this
        exact this
theorem ent42 (x : Value) (V : World) : (callFunc 78 #[x]).run Try.prog V = .ok (.enter 78 #[x]) V := by go_simp
theorem ent43 (x : Value) (V : World) : (callFunc 77 #[x]).run Try.prog V = .ok (.enter 77 #[x]) V := by go_simp
end Go.Proofs.Ytdlleecfmebenaa
