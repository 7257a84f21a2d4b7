/-
  Rows with one more, rows without one: walks of the code, each for every input.
-/
import Derived.Test.YtmfjlhcobhilcabSam
namespace Go.Proofs.Ytmfjlhcobhilcab
set_option linter.unusedVariables false
set_option maxRecDepth 4000
set_option linter.unusedSimpArgs false
open Go.RowKit
attribute [local go_sem ↓] ldM stM ldC stC ldB stB ldP stP apI bsI
attribute [local go_sem] bsI_is bsI2_is

attribute [local go_sem ↓] apM apC apB bsM bsC bsB mkM mkC mkB slM slC slB
attribute [local go_sem] bsM_is bsC_is bsB_is
theorem put_lt {α : Type} {c : α → Int} {x : α} {l : List α} {i : Nat} {y : α} (h : l[i]? = some y) (hc : c y < 0) : l.take i ++ putL c x (l.drop i) = l.take (i + 1) ++ putL c x (l.drop (i + 1)) := by
  rw [drop_at h, putL, if_pos hc, List.take_add_one, h]
  simp
theorem put_eq {α : Type} {c : α → Int} {x : α} {l : List α} {i : Nat} {y : α} (h : l[i]? = some y) (hc : c y = 0) : l.take i ++ putL c x (l.drop i) = l.take i ++ [x] ++ l.drop (i + 1) := by
  rw [drop_at h, putL, if_neg (by omega), if_pos hc]
  simp
theorem put_gt {α : Type} {c : α → Int} {x : α} {l : List α} {i : Nat} {y : α} (h : l[i]? = some y) (hc : 0 < c y) : l.take i ++ putL c x (l.drop i) = l.take i ++ [x] ++ l.drop i := by
  rw [drop_at h, putL, if_neg (by omega), if_neg (by omega)]
  simp
theorem put_end {α : Type} {c : α → Int} {x : α} {l : List α} {i : Nat} (h : l.length ≤ i) : l.take i ++ putL c x (l.drop i) = l.take i ++ [x] ++ l.drop i := by
  rw [drop_end h]
  simp [putL]
theorem own_app {α : Type} {e : El α} (k : e.Ok) {W : World} {B : Nat} {v : Value} {l m : List α} {a : Option Addr} {n c : Nat} (h : Own e W B v l) (hs : SlAt e W a n c m) (hl : l.length + m.length ≤ 100000) (hB : B ≤ W.heap.size) :
    ∃ v' W', (apS e.st e.st #[v, .slice a n c]).run Try.prog W = .ok v' W' ∧ Own e W' B v' (l ++ m) ∧ Below B W W' := by
  obtain ⟨v', W', h1, h2, h3⟩ := h.app k hs hl hB e.st
  exact ⟨v', W', h1, h2, below_of_grown h3 hB (fun j e => (h.blk j e).1)⟩
set_option maxHeartbeats 4000000 in
theorem putM_any (a : Option Addr) (n c : Nat) (l : List Mp) (x : Mp) (w : World) (hs : SlAt eM w a n c l) (hn : n ≤ 200) :
    Calls Try.prog 15 #[.slice a n c, .agg x.cs, .func (.func 16) #[] #[]] w fun r w' => (∃ v, r = .returned v ∧ Own eM w' w.heap.size v (putL (fun y : Mp => cmM y x) x l)) ∧ Below w.heap.size w w' := by
  obtain ⟨W, hW, r0, bW, zW⟩ := MpAt.new w x
  have hnn := hs.int
  have hn1 : (n : Int) + 1 ≤ 9223372036854775807 := by omega
  have hn2 : (0 : Int) ≤ (n : Int) + 1 := by omega
  obtain ⟨V, mk, oV, bV⟩ := room_new kM (by decide) (n + 1) (by omega) W
  have mk' : (mkS 25 (.int .i64 0) (.int .i64 ((n : Int) + 1))).run Try.prog W = .ok (.slice (some ⟨W.heap.size, 0, none⟩) 0 (n + 1)) V := mk
  obtain ⟨R, hR⟩ : ∃ z, putL (fun y : Mp => cmM y x) x l = z := ⟨_, rfl⟩
  have H : Hid (SlAt eM W a n c l ∧ l.length = n ∧ Below w.heap.size w W ∧ MpAt W w.heap.size x ∧ n ≤ 200 ∧ Below W.heap.size W V) := ⟨hs.below bW, hs.len, bW, r0, hn, bV⟩
  have HO : Hid (Own eM V W.heap.size (.slice (some ⟨W.heap.size, 0, none⟩) 0 (n + 1)) []) := oV
  have HR : Hid (R = l.take 0 ++ putL (fun y : Mp => cmM y x) x (l.drop 0)) := hR.symm
  rw [hR]
  clear hs bW zW r0 hR mk oV bV hn
  go_enter Try.func15, Try.ntmps15
  go_wp2_with fail
  go_loopw [7, 8] (fun u v wr => ∃ i : Nat, i ≤ n ∧ v = .int .i64 i ∧ R = l.take i ++ putL (fun y : Mp => cmM y x) x (l.drop i) ∧ Own eM wr W.heap.size u (l.take i) ∧ Below W.heap.size W wr) (fun u v _ => n - (intOf v).toNat)
  case atStart => exact ⟨0, by omega, rfl, HR.out, HO.out, H.out.2.2.2.2.2⟩
  case round =>
    obtain ⟨i, hi, rfl, hf, hO, hB⟩ := hrel
    have J : Hid (R = l.take i ++ putL (fun y : Mp => cmM y x) x (l.drop i) ∧ Own eM wr W.heap.size u7 (l.take i) ∧ Below W.heap.size W wr) := ⟨hf, hO, hB⟩
    have hi0 : (0 : Int) ≤ (i : Int) := by omega
    have hi2 : (i : Int) ≤ (n : Int) := by omega
    have hll : Hid ((l.take i).length = i) := by rw [List.length_take, H.out.2.1]; exact Nat.min_eq_left hi
    clear mk'
    by_cases hit : i < n
    · have hi1 : (i : Int) < (n : Int) := by omega
      obtain ⟨b, o, rfl⟩ := H.out.1.some' (by omega)
      obtain ⟨y, hy⟩ := lt_nth (l := l) (i := i) (by rw [H.out.2.1]; exact hit)
      have HX : Hid (l[i]? = some y) := hy
      have l0 := fun q : Later wr => lM ((H.out.1.below hB).below q.below) hy
      have l1 := fun q : Later wr => ((H.out.2.2.2.1.below hB).below q.below).ld
      obtain ⟨k, hk⟩ : ∃ z, cmM y x = z := ⟨_, rfl⟩
      have PP : Hid (∀ q : Later wr, _) := fun q : Later wr => byM_any y x q.val
      rw [hk] at PP
      have HK : Hid (cmM y x = k) := hk
      clear hf hO hB hy hk
      by_cases hk1 : k < 0
      · have d1 : decide (k < 0) = true := by simpa using hk1
        have E : Hid (R = l.take (i + 1) ++ putL (fun y : Mp => cmM y x) x (l.drop (i + 1)) ∧ l.take (i + 1) = l.take i ++ [y]) := ⟨by rw [J.out.1, put_lt HX.out (by show cmM y x < 0; rw [HK.out]; exact hk1)], by rw [List.take_add_one, HX.out]; rfl⟩
        clear hk1
        go_wp2_with fail
        refine wp_region_later (by kernel_rfl) (by kernel_rfl) ?_
        repeat (go_big_quiet_step (first | exact rfl | (go_at_call 16; with_reducible exact Calls.later_of (PP.out _))))
        refine wpQuiet_nil ?_
        intro _ hw'
        obtain ⟨q, rfl⟩ := hw'
        clear l0 l1 PP
        have l2 := lM ((H.out.1.below J.out.2.2).below q.below) HX.out
        obtain ⟨v', X, aX, oX, bX⟩ := nM (J.out.2.1.below q.below) (below_over J.out.2.2 q.below).size (by rw [hll.out]; have := H.out.2.2.2.2.1; omega) y
        have G : Hid (Own eM X W.heap.size v' (l.take i ++ [y]) ∧ Below W.heap.size W X) := ⟨oX, (below_over J.out.2.2 q.below).trans bX⟩
        clear oX bX
        go_wp2
        go_roundw
        case rel => exact ⟨i + 1, by omega, by go_num, E.out.1, by rw [E.out.2]; exact G.out.1, G.out.2⟩
        case measure => simp [intOf]; omega
      · have d1 : decide (k < 0) = false := by simpa using hk1
        by_cases hk2 : k = 0
        · subst hk2
          have E : Hid (R = l.take i ++ [x] ++ l.drop (i + 1)) := by rw [J.out.1, put_eq HX.out HK.out]; exact rfl
          have hi3 : (i : Int) + 1 ≤ 9223372036854775807 := by omega
          clear hk1
          go_wp2_with fail
          refine wp_region_later (by kernel_rfl) (by kernel_rfl) ?_
          repeat (go_big_quiet_step (first | exact rfl | (go_at_call 16; with_reducible exact Calls.later_of (PP.out _))))
          refine wpQuiet_nil ?_
          intro _ hw'
          obtain ⟨q, rfl⟩ := hw'
          clear l1 l0 PP
          have d2 := ((H.out.2.2.2.1.below J.out.2.2).below q.below).ld
          obtain ⟨v1, X, aX, oX, bX⟩ := nM (J.out.2.1.below q.below) (below_over J.out.2.2 q.below).size (by rw [hll.out]; have := H.out.2.2.2.2.1; omega) x
          have G : Hid (Own eM X W.heap.size v1 (l.take i ++ [x]) ∧ Below W.heap.size W X) := ⟨oX, (below_over J.out.2.2 q.below).trans bX⟩
          clear oX bX
          go_wp2_with fail
          clear d2 aX
          have l0 := fun k : Later X => lM ((H.out.1.below G.out.2).below k.below) HX.out
          have P2 : Hid (∀ k : Later X, _) := fun k : Later X => byM_any y x k.val
          rw [HK.out] at P2
          have l1 := fun k : Later X => ((H.out.2.2.2.1.below G.out.2).below k.below).ld
          refine wp_region_later (by kernel_rfl) (by kernel_rfl) ?_
          repeat (go_big_quiet_step (first | exact rfl | (go_at_call 16; with_reducible exact Calls.later_of (P2.out _))))
          refine wpQuiet_nil ?_
          intro _ hw'
          obtain ⟨s, rfl⟩ := hw'
          clear l1 l0 P2
          have sl : ∀ Z : World, (slS 25 (.slice (some ⟨b, o, none⟩ : Option Addr) n c) (some (.int .i64 ((i : Int) + 1))) none none).run Try.prog Z = .ok (.slice (if c = (i + 1) then (some ⟨b, o, none⟩ : Option Addr) else ((some ⟨b, o, none⟩ : Option Addr)).map (·.add ((i + 1) * eM.K))) (n - (i + 1)) (c - (i + 1))) Z := fun Z => slM_suf (some ⟨b, o, none⟩ : Option Addr) n c (i + 1) (by omega) Z
          obtain ⟨v2, Y, aY, oY, bY⟩ := own_app kM (G.out.1.below s.below) ((H.out.1.below (below_over G.out.2 s.below)).suf kM (i := (i + 1)) (by omega)) (by rw [List.length_append, hll.out, List.length_drop, H.out.2.1]; have := H.out.2.2.2.2.1; simp; omega) (below_over G.out.2 s.below).size
          obtain ⟨aa, haa⟩ : ∃ z, (if c = (i + 1) then (some ⟨b, o, none⟩ : Option Addr) else ((some ⟨b, o, none⟩ : Option Addr)).map (·.add ((i + 1) * eM.K))) = z := ⟨_, rfl⟩
          rw [haa] at sl aY
          have aY2 : (apS 25 25 #[v1, .slice aa (n - (i + 1)) (c - (i + 1))]).run Try.prog s.val = .ok v2 Y := aY
          have K : Hid (Own eM Y W.heap.size v2 (l.take i ++ [x] ++ l.drop (i + 1)) ∧ Below W.heap.size W Y) := ⟨oY, (below_over G.out.2 s.below).trans bY⟩
          clear oY bY aY haa
          go_wp2
          go_ret
          exact ⟨⟨_, rfl, by rw [E.out]; exact K.out.1.mono H.out.2.2.1.size⟩, below_over H.out.2.2.1 K.out.2⟩
        · have e2 : (k == 0) = false := by simp [hk2]
          have E : Hid (R = l.take i ++ [x] ++ l.drop i) := by rw [J.out.1, put_gt HX.out (by show 0 < cmM y x; rw [HK.out]; omega)]; exact rfl
          clear hk1 hk2
          go_wp2_with fail
          refine wp_region_later (by kernel_rfl) (by kernel_rfl) ?_
          repeat (go_big_quiet_step (first | exact rfl | (go_at_call 16; with_reducible exact Calls.later_of (PP.out _))))
          refine wpQuiet_nil ?_
          intro _ hw'
          obtain ⟨q, rfl⟩ := hw'
          clear l1 l0 PP
          have d2 := ((H.out.2.2.2.1.below J.out.2.2).below q.below).ld
          obtain ⟨v1, X, aX, oX, bX⟩ := nM (J.out.2.1.below q.below) (below_over J.out.2.2 q.below).size (by rw [hll.out]; have := H.out.2.2.2.2.1; omega) x
          have G : Hid (Own eM X W.heap.size v1 (l.take i ++ [x]) ∧ Below W.heap.size W X) := ⟨oX, (below_over J.out.2.2 q.below).trans bX⟩
          clear oX bX
          go_wp2_with fail
          clear d2 aX
          have l0 := fun k : Later X => lM ((H.out.1.below G.out.2).below k.below) HX.out
          have P2 : Hid (∀ k : Later X, _) := fun k : Later X => byM_any y x k.val
          rw [HK.out] at P2
          have l1 := fun k : Later X => ((H.out.2.2.2.1.below G.out.2).below k.below).ld
          refine wp_region_later (by kernel_rfl) (by kernel_rfl) ?_
          repeat (go_big_quiet_step (first | exact rfl | (go_at_call 16; with_reducible exact Calls.later_of (P2.out _))))
          refine wpQuiet_nil ?_
          intro _ hw'
          obtain ⟨s, rfl⟩ := hw'
          clear l1 l0 P2
          have sl : ∀ Z : World, (slS 25 (.slice (some ⟨b, o, none⟩ : Option Addr) n c) (some (.int .i64 (i : Int))) none none).run Try.prog Z = .ok (.slice (if c = i then (some ⟨b, o, none⟩ : Option Addr) else ((some ⟨b, o, none⟩ : Option Addr)).map (·.add (i * eM.K))) (n - i) (c - i)) Z := fun Z => slM_suf (some ⟨b, o, none⟩ : Option Addr) n c i (by omega) Z
          obtain ⟨v2, Y, aY, oY, bY⟩ := own_app kM (G.out.1.below s.below) ((H.out.1.below (below_over G.out.2 s.below)).suf kM (i := i) (by omega)) (by rw [List.length_append, hll.out, List.length_drop, H.out.2.1]; have := H.out.2.2.2.2.1; simp; omega) (below_over G.out.2 s.below).size
          obtain ⟨aa, haa⟩ : ∃ z, (if c = i then (some ⟨b, o, none⟩ : Option Addr) else ((some ⟨b, o, none⟩ : Option Addr)).map (·.add (i * eM.K))) = z := ⟨_, rfl⟩
          rw [haa] at sl aY
          have aY2 : (apS 25 25 #[v1, .slice aa (n - i) (c - i)]).run Try.prog s.val = .ok v2 Y := aY
          have K : Hid (Own eM Y W.heap.size v2 (l.take i ++ [x] ++ l.drop i) ∧ Below W.heap.size W Y) := ⟨oY, (below_over G.out.2 s.below).trans bY⟩
          clear oY bY aY haa
          go_wp2
          go_ret
          exact ⟨⟨_, rfl, by rw [E.out]; exact K.out.1.mono H.out.2.2.1.size⟩, below_over H.out.2.2.1 K.out.2⟩
    · have hin : i = n := by omega
      have hi1 : ¬ (i : Int) < (n : Int) := by omega
      have hi1' : decide ((i : Int) < (n : Int)) = false := by simp; omega
      have E : Hid (R = l.take i ++ [x] ++ l.drop i) := by rw [J.out.1, put_end (by rw [H.out.2.1, hin]; exact Nat.le_refl _)]; exact rfl
      have l1 := fun q : Later wr => ((H.out.2.2.2.1.below hB).below q.below).ld
      clear hf hO hB hin
      go_wp2_with fail
      refine wp_region_later (by kernel_rfl) (by kernel_rfl) ?_
      repeat (go_big_quiet_step (first | exact rfl))
      refine wpQuiet_nil ?_
      intro _ hw'
      obtain ⟨q, rfl⟩ := hw'
      clear l1
      have d2 := ((H.out.2.2.2.1.below J.out.2.2).below q.below).ld
      obtain ⟨v1, X, aX, oX, bX⟩ := nM (J.out.2.1.below q.below) (below_over J.out.2.2 q.below).size (by rw [hll.out]; have := H.out.2.2.2.2.1; omega) x
      have G : Hid (Own eM X W.heap.size v1 (l.take i ++ [x]) ∧ Below W.heap.size W X) := ⟨oX, (below_over J.out.2.2 q.below).trans bX⟩
      clear oX bX
      go_wp2_with fail
      clear d2 aX
      have l1 := fun k : Later X => ((H.out.2.2.2.1.below G.out.2).below k.below).ld
      refine wp_region_later (by kernel_rfl) (by kernel_rfl) ?_
      repeat (go_big_quiet_step (first | exact rfl))
      refine wpQuiet_nil ?_
      intro _ hw'
      obtain ⟨s, rfl⟩ := hw'
      clear l1
      have sl : ∀ Z : World, (slS 25 (.slice a n c) (some (.int .i64 (i : Int))) none none).run Try.prog Z = .ok (.slice (if c = i then a else (a).map (·.add (i * eM.K))) (n - i) (c - i)) Z := fun Z => slM_suf a n c i (by omega) Z
      obtain ⟨v2, Y, aY, oY, bY⟩ := own_app kM (G.out.1.below s.below) ((H.out.1.below (below_over G.out.2 s.below)).suf kM (i := i) (by omega)) (by rw [List.length_append, hll.out, List.length_drop, H.out.2.1]; have := H.out.2.2.2.2.1; simp; omega) (below_over G.out.2 s.below).size
      obtain ⟨aa, haa⟩ : ∃ z, (if c = i then a else (a).map (·.add (i * eM.K))) = z := ⟨_, rfl⟩
      rw [haa] at sl aY
      have aY2 : (apS 25 25 #[v1, .slice aa (n - i) (c - i)]).run Try.prog s.val = .ok v2 Y := aY
      have K : Hid (Own eM Y W.heap.size v2 (l.take i ++ [x] ++ l.drop i) ∧ Below W.heap.size W Y) := ⟨oY, (below_over G.out.2 s.below).trans bY⟩
      clear oY bY aY haa
      go_wp2
      go_ret
      exact ⟨⟨_, rfl, by rw [E.out]; exact K.out.1.mono H.out.2.2.1.size⟩, below_over H.out.2.2.1 K.out.2⟩
set_option maxHeartbeats 4000000 in
theorem woutM_any (a : Option Addr) (n c : Nat) (l : List Mp) (x : Mp) (w : World) (hs : SlAt eM w a n c l) (hn : n ≤ 200) :
    Calls Try.prog 18 #[.slice a n c, .agg x.cs, .func (.func 16) #[] #[]] w fun r w' => (∃ v, r = .returned v ∧ Own eM w' w.heap.size v (l.filter (fun y : Mp => cmM y x != 0))) ∧ Below w.heap.size w w' := by
  obtain ⟨W, hW, r0, bW, zW⟩ := MpAt.new w x
  have hnn := hs.int
  obtain ⟨R, hR⟩ : ∃ z, l.filter (fun y : Mp => cmM y x != 0) = z := ⟨_, rfl⟩
  have H : Hid (SlAt eM W a n c l ∧ l.length = n ∧ Below w.heap.size w W ∧ MpAt W w.heap.size x ∧ n ≤ 200) := ⟨hs.below bW, hs.len, bW, r0, hn⟩
  have HR : Hid (R = [] ++ (l.drop 0).filter (fun y : Mp => cmM y x != 0)) := hR.symm
  rw [hR]
  clear hs bW zW r0 hR hn
  go_enter Try.func18, Try.ntmps18
  go_wp2_with fail
  go_loopw [7, 12] (fun u v wr => ∃ (i : Nat) (acc : List Mp), i ≤ n ∧ v = .int .i64 i ∧ R = acc ++ (l.drop i).filter (fun y : Mp => cmM y x != 0) ∧ acc.length ≤ i ∧ Own eM wr W.heap.size u acc ∧ Below W.heap.size W wr) (fun u v _ => n - (intOf v).toNat)
  case atStart => exact ⟨0, [], by omega, rfl, HR.out, Nat.le_refl _, Own.nil _ _, Below.refl _ _⟩
  case round =>
    obtain ⟨i, acc, hi, rfl, hf, ha, hO, hB⟩ := hrel
    have J : Hid (R = acc ++ (l.drop i).filter (fun y : Mp => cmM y x != 0) ∧ acc.length ≤ i ∧ Own eM wr W.heap.size u7 acc ∧ Below W.heap.size W wr) := ⟨hf, ha, hO, hB⟩
    have hi0 : (0 : Int) ≤ (i : Int) := by omega
    by_cases hit : i < n
    · have hi1 : (i : Int) < (n : Int) := by omega
      obtain ⟨b, o, rfl⟩ := H.out.1.some' (by omega)
      obtain ⟨y, hy⟩ := lt_nth (l := l) (i := i) (by rw [H.out.2.1]; exact hit)
      have l0 := lM (H.out.1.below hB) hy
      obtain ⟨V, sV, mV, bV⟩ := MpAt.put wr y
      have d0 := mV.ld
      have d1 := ((H.out.2.2.2.1.below hB).below bV).ld
      have HX : Hid (l[i]? = some y) := hy
      obtain ⟨k, hk⟩ : ∃ z, cmM y x = z := ⟨_, rfl⟩
      have PP := byM_any y x V
      rw [hk] at PP
      have QQ : Hid (Calls _ _ _ _ _) := PP
      have MV : Hid (MpAt V wr.heap.size y ∧ Below W.heap.size W V ∧ Own eM V W.heap.size u7 acc) := ⟨mV, below_over hB bV, hO.below bV⟩
      have HK : Hid (cmM y x = k) := hk
      clear hf ha hO hB hy hk mV bV PP
      by_cases hk0 : k = 0
      · subst hk0
        have E : Hid (R = acc ++ (l.drop (i + 1)).filter (fun y : Mp => cmM y x != 0)) := by rw [J.out.1, drop_at HX.out, List.filter_cons, if_neg (by show ¬ ((cmM y x != 0) = true); rw [HK.out]; decide)]; exact rfl
        go_wp2_with fail
        refine QQ.out.mono ?_
        rintro _ Y ⟨rfl, hY⟩
        have G : Hid (Below W.heap.size W Y ∧ Own eM Y W.heap.size u7 acc) := ⟨below_over MV.out.2.1 hY, MV.out.2.2.below hY⟩
        clear hY d0 d1
        go_wp2
        go_roundw
        case rel => exact ⟨i + 1, acc, by omega, by go_num, E.out, by have := J.out.2.1; omega, G.out.2, G.out.1⟩
        case measure => simp [intOf]; omega
      · have e0 : (k != 0) = true := by simp [hk0]
        have E : Hid (R = (acc ++ [y]) ++ (l.drop (i + 1)).filter (fun y : Mp => cmM y x != 0)) := by rw [J.out.1, drop_at HX.out, List.filter_cons, if_pos (by show (cmM y x != 0) = true; rw [HK.out]; exact e0), List.append_assoc]; exact rfl
        clear hk0
        go_wp2_with fail
        refine QQ.out.mono ?_
        rintro _ Y ⟨rfl, hY⟩
        have G : Hid (Below W.heap.size W Y ∧ Own eM Y W.heap.size u7 acc ∧ MpAt Y wr.heap.size y) := ⟨below_over MV.out.2.1 hY, MV.out.2.2.below hY, MV.out.1.below hY⟩
        clear hY d0 d1
        have d2 := G.out.2.2.ld
        obtain ⟨v', X, aX, oX, bX⟩ := nM G.out.2.1 G.out.1.size (by have := H.out.2.2.2.2; have := J.out.2.1; omega) y
        have K : Hid (Own eM X W.heap.size v' (acc ++ [y]) ∧ Below W.heap.size W X) := ⟨oX, G.out.1.trans bX⟩
        clear oX bX
        go_wp2
        go_roundw
        case rel => exact ⟨i + 1, _, by omega, by go_num, E.out, by have := J.out.2.1; simp; omega, K.out.1, K.out.2⟩
        case measure => simp [intOf]; omega
    · have hin : i = n := by omega
      subst hin
      have hi1 : ¬ (i : Int) < (i : Int) := by omega
      have E : Hid (R = acc) := by rw [J.out.1, drop_end (by rw [H.out.2.1]; exact Nat.le_refl _), List.filter_nil, List.append_nil]; exact rfl
      clear hf ha hO hB
      go_wp2
      go_ret
      exact ⟨⟨_, rfl, by rw [E.out]; exact J.out.2.2.1.mono H.out.2.2.1.size⟩, below_over H.out.2.2.1 J.out.2.2.2⟩
set_option maxHeartbeats 4000000 in
theorem putC_any (a : Option Addr) (n c : Nat) (l : List Cr) (x : Cr) (w : World) (hs : SlAt eC w a n c l) (hn : n ≤ 200) :
    Calls Try.prog 20 #[.slice a n c, .agg x.cs, .func (.func 21) #[] #[]] w fun r w' => (∃ v, r = .returned v ∧ Own eC w' w.heap.size v (putL (fun y : Cr => cmC y x) x l)) ∧ Below w.heap.size w w' := by
  obtain ⟨W, hW, r0, bW, zW⟩ := CrAt.new w x
  have hnn := hs.int
  have hn1 : (n : Int) + 1 ≤ 9223372036854775807 := by omega
  have hn2 : (0 : Int) ≤ (n : Int) + 1 := by omega
  obtain ⟨V, mk, oV, bV⟩ := room_new kC (by decide) (n + 1) (by omega) W
  have mk' : (mkS 26 (.int .i64 0) (.int .i64 ((n : Int) + 1))).run Try.prog W = .ok (.slice (some ⟨W.heap.size, 0, none⟩) 0 (n + 1)) V := mk
  obtain ⟨R, hR⟩ : ∃ z, putL (fun y : Cr => cmC y x) x l = z := ⟨_, rfl⟩
  have H : Hid (SlAt eC W a n c l ∧ l.length = n ∧ Below w.heap.size w W ∧ CrAt W w.heap.size x ∧ n ≤ 200 ∧ Below W.heap.size W V) := ⟨hs.below bW, hs.len, bW, r0, hn, bV⟩
  have HO : Hid (Own eC V W.heap.size (.slice (some ⟨W.heap.size, 0, none⟩) 0 (n + 1)) []) := oV
  have HR : Hid (R = l.take 0 ++ putL (fun y : Cr => cmC y x) x (l.drop 0)) := hR.symm
  rw [hR]
  clear hs bW zW r0 hR mk oV bV hn
  go_enter Try.func20, Try.ntmps20
  go_wp2_with fail
  go_loopw [7, 8] (fun u v wr => ∃ i : Nat, i ≤ n ∧ v = .int .i64 i ∧ R = l.take i ++ putL (fun y : Cr => cmC y x) x (l.drop i) ∧ Own eC wr W.heap.size u (l.take i) ∧ Below W.heap.size W wr) (fun u v _ => n - (intOf v).toNat)
  case atStart => exact ⟨0, by omega, rfl, HR.out, HO.out, H.out.2.2.2.2.2⟩
  case round =>
    obtain ⟨i, hi, rfl, hf, hO, hB⟩ := hrel
    have J : Hid (R = l.take i ++ putL (fun y : Cr => cmC y x) x (l.drop i) ∧ Own eC wr W.heap.size u7 (l.take i) ∧ Below W.heap.size W wr) := ⟨hf, hO, hB⟩
    have hi0 : (0 : Int) ≤ (i : Int) := by omega
    have hi2 : (i : Int) ≤ (n : Int) := by omega
    have hll : Hid ((l.take i).length = i) := by rw [List.length_take, H.out.2.1]; exact Nat.min_eq_left hi
    clear mk'
    by_cases hit : i < n
    · have hi1 : (i : Int) < (n : Int) := by omega
      obtain ⟨b, o, rfl⟩ := H.out.1.some' (by omega)
      obtain ⟨y, hy⟩ := lt_nth (l := l) (i := i) (by rw [H.out.2.1]; exact hit)
      have HX : Hid (l[i]? = some y) := hy
      have l0 := fun q : Later wr => lC ((H.out.1.below hB).below q.below) hy
      have l1 := fun q : Later wr => ((H.out.2.2.2.1.below hB).below q.below).ld
      obtain ⟨k, hk⟩ : ∃ z, cmC y x = z := ⟨_, rfl⟩
      have PP : Hid (∀ q : Later wr, _) := fun q : Later wr => byC_any y x q.val
      rw [hk] at PP
      have HK : Hid (cmC y x = k) := hk
      clear hf hO hB hy hk
      by_cases hk1 : k < 0
      · have d1 : decide (k < 0) = true := by simpa using hk1
        have E : Hid (R = l.take (i + 1) ++ putL (fun y : Cr => cmC y x) x (l.drop (i + 1)) ∧ l.take (i + 1) = l.take i ++ [y]) := ⟨by rw [J.out.1, put_lt HX.out (by show cmC y x < 0; rw [HK.out]; exact hk1)], by rw [List.take_add_one, HX.out]; rfl⟩
        clear hk1
        go_wp2_with fail
        refine wp_region_later (by kernel_rfl) (by kernel_rfl) ?_
        repeat (go_big_quiet_step (first | exact rfl | (go_at_call 21; with_reducible exact Calls.later_of (PP.out _))))
        refine wpQuiet_nil ?_
        intro _ hw'
        obtain ⟨q, rfl⟩ := hw'
        clear l0 l1 PP
        have l2 := lC ((H.out.1.below J.out.2.2).below q.below) HX.out
        obtain ⟨v', X, aX, oX, bX⟩ := nC (J.out.2.1.below q.below) (below_over J.out.2.2 q.below).size (by rw [hll.out]; have := H.out.2.2.2.2.1; omega) y
        have G : Hid (Own eC X W.heap.size v' (l.take i ++ [y]) ∧ Below W.heap.size W X) := ⟨oX, (below_over J.out.2.2 q.below).trans bX⟩
        clear oX bX
        go_wp2
        go_roundw
        case rel => exact ⟨i + 1, by omega, by go_num, E.out.1, by rw [E.out.2]; exact G.out.1, G.out.2⟩
        case measure => simp [intOf]; omega
      · have d1 : decide (k < 0) = false := by simpa using hk1
        by_cases hk2 : k = 0
        · subst hk2
          have E : Hid (R = l.take i ++ [x] ++ l.drop (i + 1)) := by rw [J.out.1, put_eq HX.out HK.out]; exact rfl
          have hi3 : (i : Int) + 1 ≤ 9223372036854775807 := by omega
          clear hk1
          go_wp2_with fail
          refine wp_region_later (by kernel_rfl) (by kernel_rfl) ?_
          repeat (go_big_quiet_step (first | exact rfl | (go_at_call 21; with_reducible exact Calls.later_of (PP.out _))))
          refine wpQuiet_nil ?_
          intro _ hw'
          obtain ⟨q, rfl⟩ := hw'
          clear l1 l0 PP
          have d2 := ((H.out.2.2.2.1.below J.out.2.2).below q.below).ld
          obtain ⟨v1, X, aX, oX, bX⟩ := nC (J.out.2.1.below q.below) (below_over J.out.2.2 q.below).size (by rw [hll.out]; have := H.out.2.2.2.2.1; omega) x
          have G : Hid (Own eC X W.heap.size v1 (l.take i ++ [x]) ∧ Below W.heap.size W X) := ⟨oX, (below_over J.out.2.2 q.below).trans bX⟩
          clear oX bX
          go_wp2_with fail
          clear d2 aX
          have l0 := fun k : Later X => lC ((H.out.1.below G.out.2).below k.below) HX.out
          have P2 : Hid (∀ k : Later X, _) := fun k : Later X => byC_any y x k.val
          rw [HK.out] at P2
          have l1 := fun k : Later X => ((H.out.2.2.2.1.below G.out.2).below k.below).ld
          refine wp_region_later (by kernel_rfl) (by kernel_rfl) ?_
          repeat (go_big_quiet_step (first | exact rfl | (go_at_call 21; with_reducible exact Calls.later_of (P2.out _))))
          refine wpQuiet_nil ?_
          intro _ hw'
          obtain ⟨s, rfl⟩ := hw'
          clear l1 l0 P2
          have sl : ∀ Z : World, (slS 26 (.slice (some ⟨b, o, none⟩ : Option Addr) n c) (some (.int .i64 ((i : Int) + 1))) none none).run Try.prog Z = .ok (.slice (if c = (i + 1) then (some ⟨b, o, none⟩ : Option Addr) else ((some ⟨b, o, none⟩ : Option Addr)).map (·.add ((i + 1) * eC.K))) (n - (i + 1)) (c - (i + 1))) Z := fun Z => slC_suf (some ⟨b, o, none⟩ : Option Addr) n c (i + 1) (by omega) Z
          obtain ⟨v2, Y, aY, oY, bY⟩ := own_app kC (G.out.1.below s.below) ((H.out.1.below (below_over G.out.2 s.below)).suf kC (i := (i + 1)) (by omega)) (by rw [List.length_append, hll.out, List.length_drop, H.out.2.1]; have := H.out.2.2.2.2.1; simp; omega) (below_over G.out.2 s.below).size
          obtain ⟨aa, haa⟩ : ∃ z, (if c = (i + 1) then (some ⟨b, o, none⟩ : Option Addr) else ((some ⟨b, o, none⟩ : Option Addr)).map (·.add ((i + 1) * eC.K))) = z := ⟨_, rfl⟩
          rw [haa] at sl aY
          have aY2 : (apS 26 26 #[v1, .slice aa (n - (i + 1)) (c - (i + 1))]).run Try.prog s.val = .ok v2 Y := aY
          have K : Hid (Own eC Y W.heap.size v2 (l.take i ++ [x] ++ l.drop (i + 1)) ∧ Below W.heap.size W Y) := ⟨oY, (below_over G.out.2 s.below).trans bY⟩
          clear oY bY aY haa
          go_wp2
          go_ret
          exact ⟨⟨_, rfl, by rw [E.out]; exact K.out.1.mono H.out.2.2.1.size⟩, below_over H.out.2.2.1 K.out.2⟩
        · have e2 : (k == 0) = false := by simp [hk2]
          have E : Hid (R = l.take i ++ [x] ++ l.drop i) := by rw [J.out.1, put_gt HX.out (by show 0 < cmC y x; rw [HK.out]; omega)]; exact rfl
          clear hk1 hk2
          go_wp2_with fail
          refine wp_region_later (by kernel_rfl) (by kernel_rfl) ?_
          repeat (go_big_quiet_step (first | exact rfl | (go_at_call 21; with_reducible exact Calls.later_of (PP.out _))))
          refine wpQuiet_nil ?_
          intro _ hw'
          obtain ⟨q, rfl⟩ := hw'
          clear l1 l0 PP
          have d2 := ((H.out.2.2.2.1.below J.out.2.2).below q.below).ld
          obtain ⟨v1, X, aX, oX, bX⟩ := nC (J.out.2.1.below q.below) (below_over J.out.2.2 q.below).size (by rw [hll.out]; have := H.out.2.2.2.2.1; omega) x
          have G : Hid (Own eC X W.heap.size v1 (l.take i ++ [x]) ∧ Below W.heap.size W X) := ⟨oX, (below_over J.out.2.2 q.below).trans bX⟩
          clear oX bX
          go_wp2_with fail
          clear d2 aX
          have l0 := fun k : Later X => lC ((H.out.1.below G.out.2).below k.below) HX.out
          have P2 : Hid (∀ k : Later X, _) := fun k : Later X => byC_any y x k.val
          rw [HK.out] at P2
          have l1 := fun k : Later X => ((H.out.2.2.2.1.below G.out.2).below k.below).ld
          refine wp_region_later (by kernel_rfl) (by kernel_rfl) ?_
          repeat (go_big_quiet_step (first | exact rfl | (go_at_call 21; with_reducible exact Calls.later_of (P2.out _))))
          refine wpQuiet_nil ?_
          intro _ hw'
          obtain ⟨s, rfl⟩ := hw'
          clear l1 l0 P2
          have sl : ∀ Z : World, (slS 26 (.slice (some ⟨b, o, none⟩ : Option Addr) n c) (some (.int .i64 (i : Int))) none none).run Try.prog Z = .ok (.slice (if c = i then (some ⟨b, o, none⟩ : Option Addr) else ((some ⟨b, o, none⟩ : Option Addr)).map (·.add (i * eC.K))) (n - i) (c - i)) Z := fun Z => slC_suf (some ⟨b, o, none⟩ : Option Addr) n c i (by omega) Z
          obtain ⟨v2, Y, aY, oY, bY⟩ := own_app kC (G.out.1.below s.below) ((H.out.1.below (below_over G.out.2 s.below)).suf kC (i := i) (by omega)) (by rw [List.length_append, hll.out, List.length_drop, H.out.2.1]; have := H.out.2.2.2.2.1; simp; omega) (below_over G.out.2 s.below).size
          obtain ⟨aa, haa⟩ : ∃ z, (if c = i then (some ⟨b, o, none⟩ : Option Addr) else ((some ⟨b, o, none⟩ : Option Addr)).map (·.add (i * eC.K))) = z := ⟨_, rfl⟩
          rw [haa] at sl aY
          have aY2 : (apS 26 26 #[v1, .slice aa (n - i) (c - i)]).run Try.prog s.val = .ok v2 Y := aY
          have K : Hid (Own eC Y W.heap.size v2 (l.take i ++ [x] ++ l.drop i) ∧ Below W.heap.size W Y) := ⟨oY, (below_over G.out.2 s.below).trans bY⟩
          clear oY bY aY haa
          go_wp2
          go_ret
          exact ⟨⟨_, rfl, by rw [E.out]; exact K.out.1.mono H.out.2.2.1.size⟩, below_over H.out.2.2.1 K.out.2⟩
    · have hin : i = n := by omega
      have hi1 : ¬ (i : Int) < (n : Int) := by omega
      have hi1' : decide ((i : Int) < (n : Int)) = false := by simp; omega
      have E : Hid (R = l.take i ++ [x] ++ l.drop i) := by rw [J.out.1, put_end (by rw [H.out.2.1, hin]; exact Nat.le_refl _)]; exact rfl
      have l1 := fun q : Later wr => ((H.out.2.2.2.1.below hB).below q.below).ld
      clear hf hO hB hin
      go_wp2_with fail
      refine wp_region_later (by kernel_rfl) (by kernel_rfl) ?_
      repeat (go_big_quiet_step (first | exact rfl))
      refine wpQuiet_nil ?_
      intro _ hw'
      obtain ⟨q, rfl⟩ := hw'
      clear l1
      have d2 := ((H.out.2.2.2.1.below J.out.2.2).below q.below).ld
      obtain ⟨v1, X, aX, oX, bX⟩ := nC (J.out.2.1.below q.below) (below_over J.out.2.2 q.below).size (by rw [hll.out]; have := H.out.2.2.2.2.1; omega) x
      have G : Hid (Own eC X W.heap.size v1 (l.take i ++ [x]) ∧ Below W.heap.size W X) := ⟨oX, (below_over J.out.2.2 q.below).trans bX⟩
      clear oX bX
      go_wp2_with fail
      clear d2 aX
      have l1 := fun k : Later X => ((H.out.2.2.2.1.below G.out.2).below k.below).ld
      refine wp_region_later (by kernel_rfl) (by kernel_rfl) ?_
      repeat (go_big_quiet_step (first | exact rfl))
      refine wpQuiet_nil ?_
      intro _ hw'
      obtain ⟨s, rfl⟩ := hw'
      clear l1
      have sl : ∀ Z : World, (slS 26 (.slice a n c) (some (.int .i64 (i : Int))) none none).run Try.prog Z = .ok (.slice (if c = i then a else (a).map (·.add (i * eC.K))) (n - i) (c - i)) Z := fun Z => slC_suf a n c i (by omega) Z
      obtain ⟨v2, Y, aY, oY, bY⟩ := own_app kC (G.out.1.below s.below) ((H.out.1.below (below_over G.out.2 s.below)).suf kC (i := i) (by omega)) (by rw [List.length_append, hll.out, List.length_drop, H.out.2.1]; have := H.out.2.2.2.2.1; simp; omega) (below_over G.out.2 s.below).size
      obtain ⟨aa, haa⟩ : ∃ z, (if c = i then a else (a).map (·.add (i * eC.K))) = z := ⟨_, rfl⟩
      rw [haa] at sl aY
      have aY2 : (apS 26 26 #[v1, .slice aa (n - i) (c - i)]).run Try.prog s.val = .ok v2 Y := aY
      have K : Hid (Own eC Y W.heap.size v2 (l.take i ++ [x] ++ l.drop i) ∧ Below W.heap.size W Y) := ⟨oY, (below_over G.out.2 s.below).trans bY⟩
      clear oY bY aY haa
      go_wp2
      go_ret
      exact ⟨⟨_, rfl, by rw [E.out]; exact K.out.1.mono H.out.2.2.1.size⟩, below_over H.out.2.2.1 K.out.2⟩
set_option maxHeartbeats 4000000 in
theorem woutC_any (a : Option Addr) (n c : Nat) (l : List Cr) (x : Cr) (w : World) (hs : SlAt eC w a n c l) (hn : n ≤ 200) :
    Calls Try.prog 23 #[.slice a n c, .agg x.cs, .func (.func 21) #[] #[]] w fun r w' => (∃ v, r = .returned v ∧ Own eC w' w.heap.size v (l.filter (fun y : Cr => cmC y x != 0))) ∧ Below w.heap.size w w' := by
  obtain ⟨W, hW, r0, bW, zW⟩ := CrAt.new w x
  have hnn := hs.int
  obtain ⟨R, hR⟩ : ∃ z, l.filter (fun y : Cr => cmC y x != 0) = z := ⟨_, rfl⟩
  have H : Hid (SlAt eC W a n c l ∧ l.length = n ∧ Below w.heap.size w W ∧ CrAt W w.heap.size x ∧ n ≤ 200) := ⟨hs.below bW, hs.len, bW, r0, hn⟩
  have HR : Hid (R = [] ++ (l.drop 0).filter (fun y : Cr => cmC y x != 0)) := hR.symm
  rw [hR]
  clear hs bW zW r0 hR hn
  go_enter Try.func23, Try.ntmps23
  go_wp2_with fail
  go_loopw [7, 12] (fun u v wr => ∃ (i : Nat) (acc : List Cr), i ≤ n ∧ v = .int .i64 i ∧ R = acc ++ (l.drop i).filter (fun y : Cr => cmC y x != 0) ∧ acc.length ≤ i ∧ Own eC wr W.heap.size u acc ∧ Below W.heap.size W wr) (fun u v _ => n - (intOf v).toNat)
  case atStart => exact ⟨0, [], by omega, rfl, HR.out, Nat.le_refl _, Own.nil _ _, Below.refl _ _⟩
  case round =>
    obtain ⟨i, acc, hi, rfl, hf, ha, hO, hB⟩ := hrel
    have J : Hid (R = acc ++ (l.drop i).filter (fun y : Cr => cmC y x != 0) ∧ acc.length ≤ i ∧ Own eC wr W.heap.size u7 acc ∧ Below W.heap.size W wr) := ⟨hf, ha, hO, hB⟩
    have hi0 : (0 : Int) ≤ (i : Int) := by omega
    by_cases hit : i < n
    · have hi1 : (i : Int) < (n : Int) := by omega
      obtain ⟨b, o, rfl⟩ := H.out.1.some' (by omega)
      obtain ⟨y, hy⟩ := lt_nth (l := l) (i := i) (by rw [H.out.2.1]; exact hit)
      have l0 := lC (H.out.1.below hB) hy
      obtain ⟨V, sV, mV, bV⟩ := CrAt.put wr y
      have d0 := mV.ld
      have d1 := ((H.out.2.2.2.1.below hB).below bV).ld
      have HX : Hid (l[i]? = some y) := hy
      obtain ⟨k, hk⟩ : ∃ z, cmC y x = z := ⟨_, rfl⟩
      have PP := byC_any y x V
      rw [hk] at PP
      have QQ : Hid (Calls _ _ _ _ _) := PP
      have MV : Hid (CrAt V wr.heap.size y ∧ Below W.heap.size W V ∧ Own eC V W.heap.size u7 acc) := ⟨mV, below_over hB bV, hO.below bV⟩
      have HK : Hid (cmC y x = k) := hk
      clear hf ha hO hB hy hk mV bV PP
      by_cases hk0 : k = 0
      · subst hk0
        have E : Hid (R = acc ++ (l.drop (i + 1)).filter (fun y : Cr => cmC y x != 0)) := by rw [J.out.1, drop_at HX.out, List.filter_cons, if_neg (by show ¬ ((cmC y x != 0) = true); rw [HK.out]; decide)]; exact rfl
        go_wp2_with fail
        refine QQ.out.mono ?_
        rintro _ Y ⟨rfl, hY⟩
        have G : Hid (Below W.heap.size W Y ∧ Own eC Y W.heap.size u7 acc) := ⟨below_over MV.out.2.1 hY, MV.out.2.2.below hY⟩
        clear hY d0 d1
        go_wp2
        go_roundw
        case rel => exact ⟨i + 1, acc, by omega, by go_num, E.out, by have := J.out.2.1; omega, G.out.2, G.out.1⟩
        case measure => simp [intOf]; omega
      · have e0 : (k != 0) = true := by simp [hk0]
        have E : Hid (R = (acc ++ [y]) ++ (l.drop (i + 1)).filter (fun y : Cr => cmC y x != 0)) := by rw [J.out.1, drop_at HX.out, List.filter_cons, if_pos (by show (cmC y x != 0) = true; rw [HK.out]; exact e0), List.append_assoc]; exact rfl
        clear hk0
        go_wp2_with fail
        refine QQ.out.mono ?_
        rintro _ Y ⟨rfl, hY⟩
        have G : Hid (Below W.heap.size W Y ∧ Own eC Y W.heap.size u7 acc ∧ CrAt Y wr.heap.size y) := ⟨below_over MV.out.2.1 hY, MV.out.2.2.below hY, MV.out.1.below hY⟩
        clear hY d0 d1
        have d2 := G.out.2.2.ld
        obtain ⟨v', X, aX, oX, bX⟩ := nC G.out.2.1 G.out.1.size (by have := H.out.2.2.2.2; have := J.out.2.1; omega) y
        have K : Hid (Own eC X W.heap.size v' (acc ++ [y]) ∧ Below W.heap.size W X) := ⟨oX, G.out.1.trans bX⟩
        clear oX bX
        go_wp2
        go_roundw
        case rel => exact ⟨i + 1, _, by omega, by go_num, E.out, by have := J.out.2.1; simp; omega, K.out.1, K.out.2⟩
        case measure => simp [intOf]; omega
    · have hin : i = n := by omega
      subst hin
      have hi1 : ¬ (i : Int) < (i : Int) := by omega
      have E : Hid (R = acc) := by rw [J.out.1, drop_end (by rw [H.out.2.1]; exact Nat.le_refl _), List.filter_nil, List.append_nil]; exact rfl
      clear hf ha hO hB
      go_wp2
      go_ret
      exact ⟨⟨_, rfl, by rw [E.out]; exact J.out.2.2.1.mono H.out.2.2.1.size⟩, below_over H.out.2.2.1 J.out.2.2.2⟩
set_option maxHeartbeats 4000000 in
theorem putB_any (a : Option Addr) (n c : Nat) (l : List Mr) (x : Mr) (w : World) (hs : SlAt eB w a n c l) (hn : n ≤ 200) :
    Calls Try.prog 25 #[.slice a n c, .agg x.cs, .func (.func 27) #[] #[]] w fun r w' => (∃ v, r = .returned v ∧ Own eB w' w.heap.size v (putL (fun y : Mr => cmI y.v x.v) x l)) ∧ Below w.heap.size w w' := by
  obtain ⟨W, hW, r0, bW, zW⟩ := MrAt.new w x
  have hnn := hs.int
  have hn1 : (n : Int) + 1 ≤ 9223372036854775807 := by omega
  have hn2 : (0 : Int) ≤ (n : Int) + 1 := by omega
  obtain ⟨V, mk, oV, bV⟩ := room_new kB (by decide) (n + 1) (by omega) W
  have mk' : (mkS 27 (.int .i64 0) (.int .i64 ((n : Int) + 1))).run Try.prog W = .ok (.slice (some ⟨W.heap.size, 0, none⟩) 0 (n + 1)) V := mk
  obtain ⟨R, hR⟩ : ∃ z, putL (fun y : Mr => cmI y.v x.v) x l = z := ⟨_, rfl⟩
  have H : Hid (SlAt eB W a n c l ∧ l.length = n ∧ Below w.heap.size w W ∧ MrAt W w.heap.size x ∧ n ≤ 200 ∧ Below W.heap.size W V) := ⟨hs.below bW, hs.len, bW, r0, hn, bV⟩
  have HO : Hid (Own eB V W.heap.size (.slice (some ⟨W.heap.size, 0, none⟩) 0 (n + 1)) []) := oV
  have HR : Hid (R = l.take 0 ++ putL (fun y : Mr => cmI y.v x.v) x (l.drop 0)) := hR.symm
  rw [hR]
  clear hs bW zW r0 hR mk oV bV hn
  go_enter Try.func25, Try.ntmps25
  go_wp2_with fail
  go_loopw [7, 8] (fun u v wr => ∃ i : Nat, i ≤ n ∧ v = .int .i64 i ∧ R = l.take i ++ putL (fun y : Mr => cmI y.v x.v) x (l.drop i) ∧ Own eB wr W.heap.size u (l.take i) ∧ Below W.heap.size W wr) (fun u v _ => n - (intOf v).toNat)
  case atStart => exact ⟨0, by omega, rfl, HR.out, HO.out, H.out.2.2.2.2.2⟩
  case round =>
    obtain ⟨i, hi, rfl, hf, hO, hB⟩ := hrel
    have J : Hid (R = l.take i ++ putL (fun y : Mr => cmI y.v x.v) x (l.drop i) ∧ Own eB wr W.heap.size u7 (l.take i) ∧ Below W.heap.size W wr) := ⟨hf, hO, hB⟩
    have hi0 : (0 : Int) ≤ (i : Int) := by omega
    have hi2 : (i : Int) ≤ (n : Int) := by omega
    have hll : Hid ((l.take i).length = i) := by rw [List.length_take, H.out.2.1]; exact Nat.min_eq_left hi
    clear mk'
    by_cases hit : i < n
    · have hi1 : (i : Int) < (n : Int) := by omega
      obtain ⟨b, o, rfl⟩ := H.out.1.some' (by omega)
      obtain ⟨y, hy⟩ := lt_nth (l := l) (i := i) (by rw [H.out.2.1]; exact hit)
      have HX : Hid (l[i]? = some y) := hy
      have l0 := fun q : Later wr => lB ((H.out.1.below hB).below q.below) hy
      have l1 := fun q : Later wr => ((H.out.2.2.2.1.below hB).below q.below).ld
      obtain ⟨k, hk⟩ : ∃ z, cmI y.v x.v = z := ⟨_, rfl⟩
      have PP : Hid (∀ q : Later wr, _) := fun q : Later wr => byB_any y x q.val
      rw [hk] at PP
      have HK : Hid (cmI y.v x.v = k) := hk
      clear hf hO hB hy hk
      by_cases hk1 : k < 0
      · have d1 : decide (k < 0) = true := by simpa using hk1
        have E : Hid (R = l.take (i + 1) ++ putL (fun y : Mr => cmI y.v x.v) x (l.drop (i + 1)) ∧ l.take (i + 1) = l.take i ++ [y]) := ⟨by rw [J.out.1, put_lt HX.out (by show cmI y.v x.v < 0; rw [HK.out]; exact hk1)], by rw [List.take_add_one, HX.out]; rfl⟩
        clear hk1
        go_wp2_with fail
        refine wp_region_later (by kernel_rfl) (by kernel_rfl) ?_
        repeat (go_big_quiet_step (first | exact rfl | (go_at_call 27; with_reducible exact Calls.later_of (PP.out _))))
        refine wpQuiet_nil ?_
        intro _ hw'
        obtain ⟨q, rfl⟩ := hw'
        clear l0 l1 PP
        have l2 := lB ((H.out.1.below J.out.2.2).below q.below) HX.out
        obtain ⟨v', X, aX, oX, bX⟩ := nB (J.out.2.1.below q.below) (below_over J.out.2.2 q.below).size (by rw [hll.out]; have := H.out.2.2.2.2.1; omega) y
        have G : Hid (Own eB X W.heap.size v' (l.take i ++ [y]) ∧ Below W.heap.size W X) := ⟨oX, (below_over J.out.2.2 q.below).trans bX⟩
        clear oX bX
        go_wp2
        go_roundw
        case rel => exact ⟨i + 1, by omega, by go_num, E.out.1, by rw [E.out.2]; exact G.out.1, G.out.2⟩
        case measure => simp [intOf]; omega
      · have d1 : decide (k < 0) = false := by simpa using hk1
        by_cases hk2 : k = 0
        · subst hk2
          have E : Hid (R = l.take i ++ [x] ++ l.drop (i + 1)) := by rw [J.out.1, put_eq HX.out HK.out]; exact rfl
          have hi3 : (i : Int) + 1 ≤ 9223372036854775807 := by omega
          clear hk1
          go_wp2_with fail
          refine wp_region_later (by kernel_rfl) (by kernel_rfl) ?_
          repeat (go_big_quiet_step (first | exact rfl | (go_at_call 27; with_reducible exact Calls.later_of (PP.out _))))
          refine wpQuiet_nil ?_
          intro _ hw'
          obtain ⟨q, rfl⟩ := hw'
          clear l1 l0 PP
          have d2 := ((H.out.2.2.2.1.below J.out.2.2).below q.below).ld
          obtain ⟨v1, X, aX, oX, bX⟩ := nB (J.out.2.1.below q.below) (below_over J.out.2.2 q.below).size (by rw [hll.out]; have := H.out.2.2.2.2.1; omega) x
          have G : Hid (Own eB X W.heap.size v1 (l.take i ++ [x]) ∧ Below W.heap.size W X) := ⟨oX, (below_over J.out.2.2 q.below).trans bX⟩
          clear oX bX
          go_wp2_with fail
          clear d2 aX
          have l0 := fun k : Later X => lB ((H.out.1.below G.out.2).below k.below) HX.out
          have P2 : Hid (∀ k : Later X, _) := fun k : Later X => byB_any y x k.val
          rw [HK.out] at P2
          have l1 := fun k : Later X => ((H.out.2.2.2.1.below G.out.2).below k.below).ld
          refine wp_region_later (by kernel_rfl) (by kernel_rfl) ?_
          repeat (go_big_quiet_step (first | exact rfl | (go_at_call 27; with_reducible exact Calls.later_of (P2.out _))))
          refine wpQuiet_nil ?_
          intro _ hw'
          obtain ⟨s, rfl⟩ := hw'
          clear l1 l0 P2
          have sl : ∀ Z : World, (slS 27 (.slice (some ⟨b, o, none⟩ : Option Addr) n c) (some (.int .i64 ((i : Int) + 1))) none none).run Try.prog Z = .ok (.slice (if c = (i + 1) then (some ⟨b, o, none⟩ : Option Addr) else ((some ⟨b, o, none⟩ : Option Addr)).map (·.add ((i + 1) * eB.K))) (n - (i + 1)) (c - (i + 1))) Z := fun Z => slB_suf (some ⟨b, o, none⟩ : Option Addr) n c (i + 1) (by omega) Z
          obtain ⟨v2, Y, aY, oY, bY⟩ := own_app kB (G.out.1.below s.below) ((H.out.1.below (below_over G.out.2 s.below)).suf kB (i := (i + 1)) (by omega)) (by rw [List.length_append, hll.out, List.length_drop, H.out.2.1]; have := H.out.2.2.2.2.1; simp; omega) (below_over G.out.2 s.below).size
          obtain ⟨aa, haa⟩ : ∃ z, (if c = (i + 1) then (some ⟨b, o, none⟩ : Option Addr) else ((some ⟨b, o, none⟩ : Option Addr)).map (·.add ((i + 1) * eB.K))) = z := ⟨_, rfl⟩
          rw [haa] at sl aY
          have aY2 : (apS 27 27 #[v1, .slice aa (n - (i + 1)) (c - (i + 1))]).run Try.prog s.val = .ok v2 Y := aY
          have K : Hid (Own eB Y W.heap.size v2 (l.take i ++ [x] ++ l.drop (i + 1)) ∧ Below W.heap.size W Y) := ⟨oY, (below_over G.out.2 s.below).trans bY⟩
          clear oY bY aY haa
          go_wp2
          go_ret
          exact ⟨⟨_, rfl, by rw [E.out]; exact K.out.1.mono H.out.2.2.1.size⟩, below_over H.out.2.2.1 K.out.2⟩
        · have e2 : (k == 0) = false := by simp [hk2]
          have E : Hid (R = l.take i ++ [x] ++ l.drop i) := by rw [J.out.1, put_gt HX.out (by show 0 < cmI y.v x.v; rw [HK.out]; omega)]; exact rfl
          clear hk1 hk2
          go_wp2_with fail
          refine wp_region_later (by kernel_rfl) (by kernel_rfl) ?_
          repeat (go_big_quiet_step (first | exact rfl | (go_at_call 27; with_reducible exact Calls.later_of (PP.out _))))
          refine wpQuiet_nil ?_
          intro _ hw'
          obtain ⟨q, rfl⟩ := hw'
          clear l1 l0 PP
          have d2 := ((H.out.2.2.2.1.below J.out.2.2).below q.below).ld
          obtain ⟨v1, X, aX, oX, bX⟩ := nB (J.out.2.1.below q.below) (below_over J.out.2.2 q.below).size (by rw [hll.out]; have := H.out.2.2.2.2.1; omega) x
          have G : Hid (Own eB X W.heap.size v1 (l.take i ++ [x]) ∧ Below W.heap.size W X) := ⟨oX, (below_over J.out.2.2 q.below).trans bX⟩
          clear oX bX
          go_wp2_with fail
          clear d2 aX
          have l0 := fun k : Later X => lB ((H.out.1.below G.out.2).below k.below) HX.out
          have P2 : Hid (∀ k : Later X, _) := fun k : Later X => byB_any y x k.val
          rw [HK.out] at P2
          have l1 := fun k : Later X => ((H.out.2.2.2.1.below G.out.2).below k.below).ld
          refine wp_region_later (by kernel_rfl) (by kernel_rfl) ?_
          repeat (go_big_quiet_step (first | exact rfl | (go_at_call 27; with_reducible exact Calls.later_of (P2.out _))))
          refine wpQuiet_nil ?_
          intro _ hw'
          obtain ⟨s, rfl⟩ := hw'
          clear l1 l0 P2
          have sl : ∀ Z : World, (slS 27 (.slice (some ⟨b, o, none⟩ : Option Addr) n c) (some (.int .i64 (i : Int))) none none).run Try.prog Z = .ok (.slice (if c = i then (some ⟨b, o, none⟩ : Option Addr) else ((some ⟨b, o, none⟩ : Option Addr)).map (·.add (i * eB.K))) (n - i) (c - i)) Z := fun Z => slB_suf (some ⟨b, o, none⟩ : Option Addr) n c i (by omega) Z
          obtain ⟨v2, Y, aY, oY, bY⟩ := own_app kB (G.out.1.below s.below) ((H.out.1.below (below_over G.out.2 s.below)).suf kB (i := i) (by omega)) (by rw [List.length_append, hll.out, List.length_drop, H.out.2.1]; have := H.out.2.2.2.2.1; simp; omega) (below_over G.out.2 s.below).size
          obtain ⟨aa, haa⟩ : ∃ z, (if c = i then (some ⟨b, o, none⟩ : Option Addr) else ((some ⟨b, o, none⟩ : Option Addr)).map (·.add (i * eB.K))) = z := ⟨_, rfl⟩
          rw [haa] at sl aY
          have aY2 : (apS 27 27 #[v1, .slice aa (n - i) (c - i)]).run Try.prog s.val = .ok v2 Y := aY
          have K : Hid (Own eB Y W.heap.size v2 (l.take i ++ [x] ++ l.drop i) ∧ Below W.heap.size W Y) := ⟨oY, (below_over G.out.2 s.below).trans bY⟩
          clear oY bY aY haa
          go_wp2
          go_ret
          exact ⟨⟨_, rfl, by rw [E.out]; exact K.out.1.mono H.out.2.2.1.size⟩, below_over H.out.2.2.1 K.out.2⟩
    · have hin : i = n := by omega
      have hi1 : ¬ (i : Int) < (n : Int) := by omega
      have hi1' : decide ((i : Int) < (n : Int)) = false := by simp; omega
      have E : Hid (R = l.take i ++ [x] ++ l.drop i) := by rw [J.out.1, put_end (by rw [H.out.2.1, hin]; exact Nat.le_refl _)]; exact rfl
      have l1 := fun q : Later wr => ((H.out.2.2.2.1.below hB).below q.below).ld
      clear hf hO hB hin
      go_wp2_with fail
      refine wp_region_later (by kernel_rfl) (by kernel_rfl) ?_
      repeat (go_big_quiet_step (first | exact rfl))
      refine wpQuiet_nil ?_
      intro _ hw'
      obtain ⟨q, rfl⟩ := hw'
      clear l1
      have d2 := ((H.out.2.2.2.1.below J.out.2.2).below q.below).ld
      obtain ⟨v1, X, aX, oX, bX⟩ := nB (J.out.2.1.below q.below) (below_over J.out.2.2 q.below).size (by rw [hll.out]; have := H.out.2.2.2.2.1; omega) x
      have G : Hid (Own eB X W.heap.size v1 (l.take i ++ [x]) ∧ Below W.heap.size W X) := ⟨oX, (below_over J.out.2.2 q.below).trans bX⟩
      clear oX bX
      go_wp2_with fail
      clear d2 aX
      have l1 := fun k : Later X => ((H.out.2.2.2.1.below G.out.2).below k.below).ld
      refine wp_region_later (by kernel_rfl) (by kernel_rfl) ?_
      repeat (go_big_quiet_step (first | exact rfl))
      refine wpQuiet_nil ?_
      intro _ hw'
      obtain ⟨s, rfl⟩ := hw'
      clear l1
      have sl : ∀ Z : World, (slS 27 (.slice a n c) (some (.int .i64 (i : Int))) none none).run Try.prog Z = .ok (.slice (if c = i then a else (a).map (·.add (i * eB.K))) (n - i) (c - i)) Z := fun Z => slB_suf a n c i (by omega) Z
      obtain ⟨v2, Y, aY, oY, bY⟩ := own_app kB (G.out.1.below s.below) ((H.out.1.below (below_over G.out.2 s.below)).suf kB (i := i) (by omega)) (by rw [List.length_append, hll.out, List.length_drop, H.out.2.1]; have := H.out.2.2.2.2.1; simp; omega) (below_over G.out.2 s.below).size
      obtain ⟨aa, haa⟩ : ∃ z, (if c = i then a else (a).map (·.add (i * eB.K))) = z := ⟨_, rfl⟩
      rw [haa] at sl aY
      have aY2 : (apS 27 27 #[v1, .slice aa (n - i) (c - i)]).run Try.prog s.val = .ok v2 Y := aY
      have K : Hid (Own eB Y W.heap.size v2 (l.take i ++ [x] ++ l.drop i) ∧ Below W.heap.size W Y) := ⟨oY, (below_over G.out.2 s.below).trans bY⟩
      clear oY bY aY haa
      go_wp2
      go_ret
      exact ⟨⟨_, rfl, by rw [E.out]; exact K.out.1.mono H.out.2.2.1.size⟩, below_over H.out.2.2.1 K.out.2⟩
set_option maxHeartbeats 4000000 in
theorem woutB_any (a : Option Addr) (n c : Nat) (l : List Mr) (x : Mr) (w : World) (hs : SlAt eB w a n c l) (hn : n ≤ 200) :
    Calls Try.prog 29 #[.slice a n c, .agg x.cs, .func (.func 27) #[] #[]] w fun r w' => (∃ v, r = .returned v ∧ Own eB w' w.heap.size v (l.filter (fun y : Mr => cmI y.v x.v != 0))) ∧ Below w.heap.size w w' := by
  obtain ⟨W, hW, r0, bW, zW⟩ := MrAt.new w x
  have hnn := hs.int
  obtain ⟨R, hR⟩ : ∃ z, l.filter (fun y : Mr => cmI y.v x.v != 0) = z := ⟨_, rfl⟩
  have H : Hid (SlAt eB W a n c l ∧ l.length = n ∧ Below w.heap.size w W ∧ MrAt W w.heap.size x ∧ n ≤ 200) := ⟨hs.below bW, hs.len, bW, r0, hn⟩
  have HR : Hid (R = [] ++ (l.drop 0).filter (fun y : Mr => cmI y.v x.v != 0)) := hR.symm
  rw [hR]
  clear hs bW zW r0 hR hn
  go_enter Try.func29, Try.ntmps29
  go_wp2_with fail
  go_loopw [7, 12] (fun u v wr => ∃ (i : Nat) (acc : List Mr), i ≤ n ∧ v = .int .i64 i ∧ R = acc ++ (l.drop i).filter (fun y : Mr => cmI y.v x.v != 0) ∧ acc.length ≤ i ∧ Own eB wr W.heap.size u acc ∧ Below W.heap.size W wr) (fun u v _ => n - (intOf v).toNat)
  case atStart => exact ⟨0, [], by omega, rfl, HR.out, Nat.le_refl _, Own.nil _ _, Below.refl _ _⟩
  case round =>
    obtain ⟨i, acc, hi, rfl, hf, ha, hO, hB⟩ := hrel
    have J : Hid (R = acc ++ (l.drop i).filter (fun y : Mr => cmI y.v x.v != 0) ∧ acc.length ≤ i ∧ Own eB wr W.heap.size u7 acc ∧ Below W.heap.size W wr) := ⟨hf, ha, hO, hB⟩
    have hi0 : (0 : Int) ≤ (i : Int) := by omega
    by_cases hit : i < n
    · have hi1 : (i : Int) < (n : Int) := by omega
      obtain ⟨b, o, rfl⟩ := H.out.1.some' (by omega)
      obtain ⟨y, hy⟩ := lt_nth (l := l) (i := i) (by rw [H.out.2.1]; exact hit)
      have l0 := lB (H.out.1.below hB) hy
      obtain ⟨V, sV, mV, bV⟩ := MrAt.put wr y
      have d0 := mV.ld
      have d1 := ((H.out.2.2.2.1.below hB).below bV).ld
      have HX : Hid (l[i]? = some y) := hy
      obtain ⟨k, hk⟩ : ∃ z, cmI y.v x.v = z := ⟨_, rfl⟩
      have PP := byB_any y x V
      rw [hk] at PP
      have QQ : Hid (Calls _ _ _ _ _) := PP
      have MV : Hid (MrAt V wr.heap.size y ∧ Below W.heap.size W V ∧ Own eB V W.heap.size u7 acc) := ⟨mV, below_over hB bV, hO.below bV⟩
      have HK : Hid (cmI y.v x.v = k) := hk
      clear hf ha hO hB hy hk mV bV PP
      by_cases hk0 : k = 0
      · subst hk0
        have E : Hid (R = acc ++ (l.drop (i + 1)).filter (fun y : Mr => cmI y.v x.v != 0)) := by rw [J.out.1, drop_at HX.out, List.filter_cons, if_neg (by show ¬ ((cmI y.v x.v != 0) = true); rw [HK.out]; decide)]; exact rfl
        go_wp2_with fail
        refine QQ.out.mono ?_
        rintro _ Y ⟨rfl, hY⟩
        have G : Hid (Below W.heap.size W Y ∧ Own eB Y W.heap.size u7 acc) := ⟨below_over MV.out.2.1 hY, MV.out.2.2.below hY⟩
        clear hY d0 d1
        go_wp2
        go_roundw
        case rel => exact ⟨i + 1, acc, by omega, by go_num, E.out, by have := J.out.2.1; omega, G.out.2, G.out.1⟩
        case measure => simp [intOf]; omega
      · have e0 : (k != 0) = true := by simp [hk0]
        have E : Hid (R = (acc ++ [y]) ++ (l.drop (i + 1)).filter (fun y : Mr => cmI y.v x.v != 0)) := by rw [J.out.1, drop_at HX.out, List.filter_cons, if_pos (by show (cmI y.v x.v != 0) = true; rw [HK.out]; exact e0), List.append_assoc]; exact rfl
        clear hk0
        go_wp2_with fail
        refine QQ.out.mono ?_
        rintro _ Y ⟨rfl, hY⟩
        have G : Hid (Below W.heap.size W Y ∧ Own eB Y W.heap.size u7 acc ∧ MrAt Y wr.heap.size y) := ⟨below_over MV.out.2.1 hY, MV.out.2.2.below hY, MV.out.1.below hY⟩
        clear hY d0 d1
        have d2 := G.out.2.2.ld
        obtain ⟨v', X, aX, oX, bX⟩ := nB G.out.2.1 G.out.1.size (by have := H.out.2.2.2.2; have := J.out.2.1; omega) y
        have K : Hid (Own eB X W.heap.size v' (acc ++ [y]) ∧ Below W.heap.size W X) := ⟨oX, G.out.1.trans bX⟩
        clear oX bX
        go_wp2
        go_roundw
        case rel => exact ⟨i + 1, _, by omega, by go_num, E.out, by have := J.out.2.1; simp; omega, K.out.1, K.out.2⟩
        case measure => simp [intOf]; omega
    · have hin : i = n := by omega
      subst hin
      have hi1 : ¬ (i : Int) < (i : Int) := by omega
      have E : Hid (R = acc) := by rw [J.out.1, drop_end (by rw [H.out.2.1]; exact Nat.le_refl _), List.filter_nil, List.append_nil]; exact rfl
      clear hf ha hO hB
      go_wp2
      go_ret
      exact ⟨⟨_, rfl, by rw [E.out]; exact J.out.2.2.1.mono H.out.2.2.1.size⟩, below_over H.out.2.2.1 J.out.2.2.2⟩
end Go.Proofs.Ytmfjlhcobhilcab
