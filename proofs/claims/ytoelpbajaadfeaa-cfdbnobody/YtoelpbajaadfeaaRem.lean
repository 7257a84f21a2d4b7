/-
  The walk of remove, for every database and whatever shall go.
-/
import Derived.Test.YtoelpbajaadfeaaFind
namespace Go.Proofs.Ytoelpbajaadfeaa
set_option linter.unusedVariables false
set_option maxRecDepth 4000
set_option linter.unusedSimpArgs false
open Go.RowKit

attribute [local go_sem ↓] ldK stK ldM stM ldP stP
set_option maxHeartbeats 2000000 in
theorem remove_any (g : Nat) (lb : Array Value) (eg : ∀ args w, (callFunc g args).run Try.prog w = .ok (.enter g args) w) (sh : En → Bool) (p b : Nat) (c : Cf) (l : List En) (w : World) (h : Db w p b c l)
    (hsh : ∀ x ∈ l, ∀ W', w.grownBy W' (some b) → Calls Try.prog g (#[.agg x.k.cs, .agg x.pc] ++ lb) W' fun r w' => r = .returned (.bool (sh x)) ∧ Below W'.heap.size W' w') :
    Calls Try.prog 37 #[.pointer (some ⟨p, 0, none⟩), .func (.func g) #[] lb] w fun r w' => r = .returned (.int .i64 ((l.length : Int) - ((l.filter (fun x => !sh x)).length : Int))) ∧ Db w' p b c (l.filter (fun x => !sh x)) ∧ w.grownBy w' (some b) := by
  have c3 := h.c3
  have hl := h.map.len
  obtain ⟨W1, hr1, hR, bR, zR⟩ := h.map.range
  have H : Hid (Db w p b c l ∧ RgIs W1 b w.heap.size l l ∧ Below w.heap.size w W1 ∧ ∀ x ∈ l, ∀ W', w.grownBy W' (some b) → Calls Try.prog g (#[.agg x.k.cs, .agg x.pc] ++ lb) W' fun r w' => r = .returned (.bool (sh x)) ∧ Below W'.heap.size W' w') := ⟨h, hR, bR, hsh⟩
  clear h hR bR zR hsh
  go_enter Try.func37, Try.ntmps37
  go_wp2_with fail
  refine (made_any p _ _ c3).mono ?_
  rintro _ Y ⟨rfl, hY⟩
  rw [hY]
  clear hY Y
  simp only [Option.isSome_some]
  go_wp2_with fail
  clear hr1 c3 hl
  obtain ⟨rb, hrb⟩ : ∃ rb, rb = w.heap.size := ⟨_, rfl⟩
  have H' : Hid (RgIs W1 b rb l l ∧ rb = w.heap.size) := by rw [hrb]; exact ⟨H.out.2.1, rfl⟩
  rw [← hrb]
  clear hrb
  go_loopw [6] (fun _ wr => ∃ (todo m : List En), RgIs wr b rb m todo ∧ (∀ x, x ∈ m ↔ x ∈ l ∧ (x ∈ todo ∨ sh x = false)) ∧ w.grownBy wr (some b)) (fun _ wr => wr.rangeLeft b rb)
  case atStart => exact ⟨l, l, H'.out.1, fun x => ⟨fun hx => ⟨hx, .inl hx⟩, fun hx => hx.1⟩, grown_of_below H.out.2.2.1 _⟩
  case round =>
    obtain ⟨todo, m, hR, hm, hg⟩ := hrel
    have hpb := H.out.1.lt
    have hne := H.out.1.ne
    have hlm : (m.length : Int) ≤ c.room := by
      have h1 := srt_sub H.out.1.map.1 hR.1 (fun x hx => ((hm x).1 hx).1)
      have h2 := H.out.1.len
      omega
    have hDb : Db wr p b c m := H.out.1.turn hg hR.map hlm
    rcases hR.next 0 with ⟨rfl, hn⟩ | ⟨x, Wn, hx, hn, hR1, hlt, hg1, hz1, hen⟩
    · have hml : m = l.filter (fun x => !sh x) := srt_ext hR.1 (H.out.1.map.1.filter _) (fun x => by rw [hm x]; simp)
      subst hml
      have c3 := hDb.c3
      have hl := hDb.map.len
      have G : Hid (Db wr p b c (l.filter (fun x => !sh x)) ∧ w.grownBy wr (some b)) := ⟨hDb, hg⟩
      have hb1 := H.out.1.len
      have hb2 := H.out.1.wf.room
      clear hR hm hg hDb
      go_wp2
      go_ret
      exact ⟨rfl, G.out.1, G.out.2⟩
    · obtain ⟨Wa, Wb, sa, sb, ra, rv, bb, zb⟩ := kv_new Wn x.k x
      have hrb := H'.out.2
      have hxm : x ∈ m := hR.2.2.2.1 x hx
      have hxl : x ∈ l := ((hm x).1 hxm).1
      have hRb := hR1.kept (grown_of_below bb none) (by simp) (by simp)
      have gw : w.grownBy Wb (some b) := (hg.andThen hg1 (fun j e => by cases e; left; omega)).andThen (grown_of_below bb none) (fun j e => by cases e)
      have lk := ra.ld rtK (Ky.size _)
      have lp := rv.ld rtP (En.psize _)
      have hst := hR.2.2.1
      have hdm : ∀ y, y ∈ m ↔ y ∈ l ∧ (y = x ∨ y ∈ del todo x.rk ∨ sh y = false) := by
        intro y
        rw [hm y]
        constructor
        · rintro ⟨h1, h2 | h2⟩
          · by_cases e : y.rk = x.rk
            · exact ⟨h1, .inl (hst.inj h2 hx e)⟩
            · exact ⟨h1, .inr (.inl (mem_del.2 ⟨h2, e⟩))⟩
          · exact ⟨h1, .inr (.inr h2)⟩
        · rintro ⟨h1, h2 | h2 | h2⟩
          · rw [h2]; exact ⟨hxl, .inl hx⟩
          · exact ⟨h1, .inl (mem_del.1 h2).1⟩
          · exact ⟨h1, .inr h2⟩
      have G : Hid (RgIs Wb b rb m (del todo x.rk) ∧ Wb.rangeLeft b rb < wr.rangeLeft b rb ∧ w.grownBy Wb (some b) ∧ RvAt Wb Wn.heap.size 74 x.k.cs ∧ (∀ y, y ∈ m ↔ y ∈ l ∧ (y = x ∨ y ∈ del todo x.rk ∨ sh y = false)) ∧ x ∈ l ∧ x ∈ m ∧ (m.length : Int) ≤ c.room ∧ w.heap.size ≤ Wn.heap.size) :=
        ⟨hRb.1, by rw [hRb.2]; exact hlt, gw, ra, hdm, hxl, hxm, hlm, Nat.le_trans hg.size hg1.size⟩
      clear hR hR1 hlt hg1 hz1 hg bb zb ra rv hRb hrb hst hdm hxl hxm hlm hx hm gw hDb hpb hne
      go_wp2_with fail
      refine (H.out.2.2.2 x G.out.2.2.2.2.2.1 _ G.out.2.2.1).mono ?_
      rintro _ W3 ⟨rfl, b3⟩
      have hR3 := G.out.1.kept (grown_of_below b3 none) (by simp) (by simp)
      have G3 : Hid (RgIs W3 b rb m (del todo x.rk) ∧ W3.rangeLeft b rb < wr.rangeLeft b rb ∧ w.grownBy W3 (some b) ∧ RvAt W3 Wn.heap.size 74 x.k.cs) :=
        ⟨hR3.1, by rw [hR3.2]; exact G.out.2.1, G.out.2.2.1.andThen (grown_of_below b3 none) (fun j e => by cases e), G.out.2.2.2.1.below b3⟩
      clear b3 hR3 sa sb lk lp hn hen
      cases hs : sh x
      · have hm' : Hid (∀ y, y ∈ m ↔ y ∈ l ∧ (y ∈ del todo x.rk ∨ sh y = false)) := by
          intro y
          rw [G.out.2.2.2.2.1 y]
          constructor
          · rintro ⟨h1, h2 | h2 | h2⟩
            · rw [h2]; exact ⟨G.out.2.2.2.2.2.1, .inr hs⟩
            · exact ⟨h1, .inl h2⟩
            · exact ⟨h1, .inr h2⟩
          · rintro ⟨h1, h2⟩
            exact ⟨h1, .inr h2⟩
        clear hs
        go_wp2
        go_roundw
        case rel => exact ⟨_, _, G3.out.1, hm'.out, G3.out.2.2.1⟩
        case measure => exact G3.out.2.1
      · have hxw : Hid (x.k.wf) := (H.out.1.map.2.1 x G.out.2.2.2.2.2.1).k
        have hmr : MapIs W3 b m := G3.out.1.map
        have v3 := fun y : Later W3 => ((H.out.1.turn G3.out.2.2.1 hmr G.out.2.2.2.2.2.2.2.1).below y.below).c3
        have v1 := fun y : Later W3 => (G3.out.2.2.2.below y.below).ld rtK (Ky.size _)
        clear hmr
        go_wp2_with fail
        refine wp_region_later_tail 5 (by kernel_rfl) (by kernel_rfl) ?_
        simp only [List.take_succ_cons, List.take_zero]
        repeat (go_big_quiet_step (first | exact rfl))
        refine wpQuiet_nil ?_
        intro y
        simp only [List.drop_succ_cons, List.drop_zero]
        have hR4 := G3.out.1.kept (grown_of_below y.below none) (by simp) (by simp)
        obtain ⟨V5, s5, hR5, le5, g5, z5⟩ := hR4.1.drop (k := x.k) hxw.out (look_none.2 (fun z hz e => (mem_del.1 hz).2 e)) 0
        have G5 : Hid (RgIs V5 b rb (del m x.rk) (del todo x.rk) ∧ V5.rangeLeft b rb < wr.rangeLeft b rb ∧ w.grownBy V5 (some b)) :=
          ⟨hR5, by have := G3.out.2.1; have := hR4.2; omega, (G3.out.2.2.1.andThen (grown_of_below y.below none) (fun j e => by cases e)).andThen g5 (fun j e => .inr e)⟩
        have hm' : Hid (∀ z, z ∈ del m x.rk ↔ z ∈ l ∧ (z ∈ del todo x.rk ∨ sh z = false)) := by
          intro z
          rw [mem_del, G.out.2.2.2.2.1 z]
          constructor
          · rintro ⟨⟨h1, h2 | h2 | h2⟩, h3⟩
            · rw [h2] at h3; exact absurd rfl h3
            · exact ⟨h1, .inl h2⟩
            · exact ⟨h1, .inr h2⟩
          · rintro ⟨h1, h2 | h2⟩
            · exact ⟨⟨h1, .inr (.inl h2)⟩, (mem_del.1 h2).2⟩
            · refine ⟨⟨h1, .inr (.inr h2)⟩, fun e => ?_⟩
              rw [H.out.1.map.1.inj h1 G.out.2.2.2.2.2.1 e, hs] at h2
              cases h2
        clear hR4 hR5 le5 g5 z5 v1 v3 hs
        go_wp2
        go_roundw
        case rel => exact ⟨_, _, G5.out.1, hm'.out, G5.out.2.2⟩
        case measure => exact G5.out.2.1
end Go.Proofs.Ytoelpbajaadfeaa
