/-
  The steps of what is being led that change its ports where they stand, and what it tells: the walks, each for every tree. And what follows from it here.
-/
import Derived.Test.YtlchejbggnbccaaGreatA17c
import Derived.Shelf.SortM.Plain
import Derived.Shelf.SortM.SortNone
import Derived.Shelf.SlicesE.Compact
import Derived.Test.YtlchejbggnbccaaGreatRows
import Derived.Test.YtlchejbggnbccaaGreatAbb
import Derived.Test.YtlchejbggnbccaaGreatA12b
import Derived.Test.YtlchejbggnbccaaGreatA12a
namespace Go.Proofs.YtlchejbggnbccaaGreat
set_option linter.unusedVariables false
set_option linter.unusedSimpArgs false
set_option maxRecDepth 4000
section
namespace S17
open Go.RowKit
open S14 (gtP gtP_at set_self)

attribute [local go_sem ↓] ldP stP ldT stT ldDn stDn stLO stLI apLO apLI st4 alP
attribute [local go_sem] alP_run
set_option maxHeartbeats 4000000 in
theorem sta_any : StepC 93 2 := by
  intro w W L n c h a vo vf s i hS hn ho hf hi
  obtain ⟨b, o, rfl⟩ := hS.sl.some' (by omega)
  have hil : i < s.l.length := by rw [hS.sl.len]; exact hi
  have hin0 : (0 : Int) ≤ (i : Int) := by omega
  have hin1 : (i : Int) < (n : Int) := by omega
  have c16 := hS.c16
  have lp := hS.sl.ld (gtP_at hil)
  have S : Hid (LS w W L h (some ⟨b, o, none⟩) n c s.l vo vf s.o s.f) := hS
  obtain ⟨q, hq⟩ : ∃ z, (S14.pstO (gtP s.l i)).getD (gtP s.l i) = z := ⟨_, rfl⟩
  obtain ⟨bb, hbb⟩ : ∃ z, (S14.pstO (gtP s.l i)).isSome = z := ⟨_, rfl⟩
  have E : Hid ((stK h i s 2).b = (s.b || bb) ∧ stK h i s 2 = ⟨s.l.set i q, s.b || bb, s.o, s.f⟩) := ⟨by rw [← hbb]; rfl, by rw [← hbb, ← hq]; rfl⟩
  obtain ⟨p, hp⟩ : ∃ z, gtP s.l i = z := ⟨_, rfl⟩
  rw [hp] at lp hq hbb
  have P : Hid _ := S14.pst_any p
  clear hS ho hf hp
  go_enter Tryz.func93, Tryz.ntmps93
  go_wp2_with fail
  refine (P.out W).mono ?_
  rintro _ X ⟨e1, b1⟩
  rw [hq, hbb] at e1
  subst e1
  obtain ⟨Y, sY, rY, bY, zY⟩ := S11.var_p X q
  have T : Hid (LS w Y L h (some ⟨b, o, none⟩) n c s.l vo vf s.o s.f) := (S.out.below b1).below bY
  obtain ⟨z, hz⟩ : ∃ z, X.heap.size = z := ⟨_, rfl⟩
  rw [hz] at sY rY
  have f16 := fun x : Later Y => (T.out.below x.below).c16
  have fp := fun x : Later Y => (rY.below x.below).pld
  have KB : Hid (Kp W Y) := (Kp.of b1).trans (Kp.of bY)
  clear c16 lp b1 bY zY rY S P hq hbb
  go_wp2_with fail
  refine wp_region_later_tail 8 (by kernel_rfl) (by kernel_rfl) ?_
  simp only [List.take_succ_cons, List.take_zero]
  repeat (go_big_quiet_step (first | exact rfl))
  refine wpQuiet_nil ?_
  intro u
  simp only [List.drop_succ_cons, List.drop_zero]
  obtain ⟨V, sV, slV, gV⟩ := (T.out.below u.below).sl.stp (i := i) (p := q) hi
  have R : Hid (LS w V L h (some ⟨b, o, none⟩) n c (s.l.set i q) vo vf s.o s.f) := (T.out.below u.below).ports (by omega) slV gV
  have K2 : Hid (Kp W V) := by
    obtain ⟨cs, r⟩ := (T.out.below u.below).sl.soft _ rfl (by omega)
    exact (KB.out.trans (Kp.of u.below)).trans (Kp.row r gV (Or.inr (Or.inl rfl)))
  clear slV gV T f16 fp
  go_wp2
  go_ret
  refine ⟨bb, some ⟨b, o, none⟩, c, vo, vf, rfl, E.out.1, ?_, K2.out⟩
  rw [E.out.2]
  exact R.out
set_option maxHeartbeats 4000000 in
theorem flu_any : StepC 95 4 := by
  intro w W L n c h a vo vf s i hS hn ho hf hi
  obtain ⟨b, o, rfl⟩ := hS.sl.some' (by omega)
  have hil : i < s.l.length := by rw [hS.sl.len]; exact hi
  have hin0 : (0 : Int) ≤ (i : Int) := by omega
  have hin1 : (i : Int) < (n : Int) := by omega
  have c16 := hS.c16
  have c6 := hS.sl.cell (gtP_at hil) ((gtP s.l i).bit (j := 6) rfl) (by omega)
  have S : Hid (LS w W L h (some ⟨b, o, none⟩) n c s.l vo vf s.o s.f) := hS
  cases hb : (gtP s.l i).bt 6
  · have E : Hid (stK h i s 4 = s) := if_neg (by rw [hb]; simp)
    rw [hb] at c6
    clear hS ho hf hb
    go_enter Tryz.func95, Tryz.ntmps95
    go_wp2
    go_ret
    refine ⟨false, some ⟨b, o, none⟩, c, vo, vf, rfl, ?_, ?_, Kp.of (Below.refl _ _)⟩
    · rw [E.out]; simp
    · rw [E.out]; exact S.out
  · have E : Hid (stK h i s 4 = ⟨s.l.set i ((gtP s.l i).setB 6 kf6 false), true, s.o, s.f ++ [(i : Int)]⟩) := if_pos hb
    rw [hb] at c6
    obtain ⟨V, sV, slV, gV⟩ := hS.sl.stb (x := false) (gtP_at hil) kf6
    have R := hS.ports (by omega) slV gV
    have c18 := R.c18
    obtain ⟨v', X, ap, oX, gX⟩ := own_next kI R.fl R.bel.size hf (i : Int) 50
    have ap : (S16.apS 50 50 #[vf, .slice (some ⟨V.heap.size, 0, none⟩) 1 1]).run Tryz.prog (V.alloc (.cells #[.int .i64 (i : Int)] 3)) = .ok v' X := ap
    obtain ⟨Y, sY, RY, kY⟩ := R.flus gX oX
    have K2 : Hid (Kp W Y) := by
      obtain ⟨cs, r⟩ := hS.sl.soft _ rfl (by omega)
      exact (Kp.row r gV (Or.inr (Or.inl rfl))).trans kY
    clear kY
    have S2 : Hid (LS w Y L h (some ⟨b, o, none⟩) n c (s.l.set i ((gtP s.l i).setB 6 kf6 false)) vo v' s.o (s.f ++ [(i : Int)])) := RY
    clear hS ho hf hb S R slV gV oX gX RY
    go_enter Tryz.func95, Tryz.ntmps95
    go_wp2
    go_ret
    refine ⟨true, some ⟨b, o, none⟩, c, vo, v', rfl, ?_, ?_, K2.out⟩
    · rw [E.out]; simp
    · rw [E.out]; exact S2.out
theorem var_t (W : World) (h : Hd) (x : Value) (hx : x.oneCell' = true) : ∃ W', (stS 39 (.pointer (some ⟨W.heap.size, 0, none⟩)) (.agg (trc h x))).run Tryz.prog (W.alloc (.cells #[.int .u64 0, .int .u8 0, .int .u8 0, .int .u8 0, .int .u8 0, .int .u8 0, .bool false, .int .u16 0, .int .u64 0, .int .u32 0, .int .u64 0, .int .u16 0, .int .u8 0, .int .u8 0, .int .u8 0, .int .u8 0, .slice none 0 0] 39)) = .ok () W' ∧ RvAt W' W.heap.size 39 (trc h x) ∧ Below W.heap.size W W' ∧ W'.heap.size = W.heap.size + 1 :=
  row_new rtT W _ (trc h x) rfl (trc_size h x) (trc_one hx)
set_option maxHeartbeats 4000000 in
theorem trn_any : StepC 97 6 := by
  intro w W L n c h a vo vf s i hS hn ho hf hi
  have l0 := hS.tld
  have S : Hid (LS w W L h a n c s.l vo vf s.o s.f) := hS
  obtain ⟨bb, hbb⟩ : ∃ z, (S15.ptxO h s.l i).isSome = z := ⟨_, rfl⟩
  obtain ⟨lq, hlq⟩ : ∃ z, (S15.ptxO h s.l i).getD s.l = z := ⟨_, rfl⟩
  have E : Hid (stK h i s 6 = ⟨lq, s.b || bb, s.o ++ opt (S15.ptxU h s.l i), s.f⟩) := by rw [← hbb, ← hlq]; exact rfl
  have HO : Hid (s.o.length ≤ 90000) := ho
  have P : Hid _ := S15.ptx_in h a n c s.l i W hS.sl hn hi
  clear hS ho hf
  go_enter Tryz.func97, Tryz.ntmps97
  go_wp2_with fail
  refine Calls.mono P.out ?_
  rintro _ X ⟨a', c', v, rfl, s1, o1, b1, f1⟩
  rw [hbb]
  rw [hlq] at s1
  have N : Hid (Nw w a') := f1.elim (fun e => by rw [e]; exact S.out.nw) (fun q => q.up S.out.bel.size)
  obtain ⟨ao, mo, co, rfl, so⟩ := out_sl o1
  obtain ⟨Y, sY, rY, bY, zY⟩ := var_t X h (.slice a' n c') rfl
  have T := (S.out.below b1).below bY
  have c17 := T.c17
  obtain ⟨v', Z, ap, oZ, gZ⟩ := T.ou.app kO (so.below bY) (by have := HO.out; have := opt_len (S15.ptxU h s.l i); omega) T.bel.size 49
  have ap : (S16.apS 49 49 #[vo, .slice ao mo co]).run Tryz.prog Y = .ok v' Z := ap
  obtain ⟨U, sU, RU, kS, kR⟩ := T.outs gZ oZ
  obtain ⟨z, hz⟩ : ∃ z, X.heap.size = z := ⟨_, rfl⟩
  rw [hz] at sY rY
  have rU : RvAt U z 39 (trc h (.slice a' n c')) ∧ SlAt U a' n c' lq := ⟨kR _ _ _ rY (by decide) (by decide), kS _ _ _ _ (s1.below bY)⟩
  have KB : Hid (Kp W U) := ((Kp.of b1).trans (Kp.of bY)).trans (fun b t cs r h1 _ h3 _ => kR b t cs r h3 h1)
  have l5 := rU.1.tld
  have R : Hid (LS w U L h a n c s.l v' vf (s.o ++ opt (S15.ptxU h s.l i)) s.f ∧ SlAt U a' n c' lq) := ⟨RU, rU.2⟩
  clear l0 P s1 o1 b1 f1 rY bY zY T oZ gZ RU rU so kS kR
  go_wp2_with fail
  refine (take_any R.out.1 R.out.2 N.out bb).mono ?_
  rintro _ V ⟨rfl, s2, k2⟩
  have S2 : Hid _ := s2
  have K2 : Hid (Kp W V) := KB.out.trans k2
  clear s2 k2
  go_wp2
  go_ret
  refine ⟨bb, a', c', v', vf, rfl, ?_, ?_, K2.out⟩
  · rw [E.out]
  · rw [E.out]; exact S2.out
end S17
end
section
namespace S17
open Go.RowKit
open S14 (gtP gtP_at set_self)

def fvL (F L : Nat) : Value := .func (.func F) #[.pointer (some ⟨L, 0, none⟩)] #[]
def arr (L : Nat) : Array Value := #[fvL 91 L, fvL 92 L, fvL 93 L, fvL 94 L, fvL 95 L, fvL 96 L, fvL 97 L]
theorem infoA7 : (Tryz.prog.info? 128).map (·.size) = some 7 := by kernel_rfl
theorem rtA7 : RowTy 128 7 := ⟨infoA7, _, Tryz.underlying128, rfl⟩
theorem ldA7 (x : Value) : Instr.loadAt 128 x = ldS 128 x := rfl
theorem stA7 (x y : Value) : Instr.storeAt 128 x y = stS 128 x y := rfl
theorem arr_one (L : Nat) : ∀ v ∈ (arr L).toList, v.oneCell' = true := one_of rfl
theorem new_a7 (W : World) (L : Nat) : ∃ W', (stS 128 (.pointer (some ⟨W.heap.size, 0, none⟩)) (.agg (arr L))).run Tryz.prog (W.alloc (.cells #[.nilFunc, .nilFunc, .nilFunc, .nilFunc, .nilFunc, .nilFunc, .nilFunc] 128)) = .ok () W' ∧ RvAt W' W.heap.size 128 (arr L) ∧ Below W.heap.size W W' ∧ W'.heap.size = W.heap.size + 1 := row_new rtA7 W _ _ rfl rfl (arr_one L)
theorem ix0 (L : Nat) (w : World) : (Instr.index 128 (.agg (arr L)) (.int .i64 0)).run Tryz.prog w = .ok (.func (.func 91) #[.pointer (some ⟨L, 0, none⟩)] #[]) w := by kernel_rfl
theorem ix1 (L : Nat) (w : World) : (Instr.index 128 (.agg (arr L)) (.int .i64 1)).run Tryz.prog w = .ok (.func (.func 92) #[.pointer (some ⟨L, 0, none⟩)] #[]) w := by kernel_rfl
theorem ix2 (L : Nat) (w : World) : (Instr.index 128 (.agg (arr L)) (.int .i64 2)).run Tryz.prog w = .ok (.func (.func 93) #[.pointer (some ⟨L, 0, none⟩)] #[]) w := by kernel_rfl
theorem ix3 (L : Nat) (w : World) : (Instr.index 128 (.agg (arr L)) (.int .i64 3)).run Tryz.prog w = .ok (.func (.func 94) #[.pointer (some ⟨L, 0, none⟩)] #[]) w := by kernel_rfl
theorem ix4 (L : Nat) (w : World) : (Instr.index 128 (.agg (arr L)) (.int .i64 4)).run Tryz.prog w = .ok (.func (.func 95) #[.pointer (some ⟨L, 0, none⟩)] #[]) w := by kernel_rfl
theorem ix5 (L : Nat) (w : World) : (Instr.index 128 (.agg (arr L)) (.int .i64 5)).run Tryz.prog w = .ok (.func (.func 96) #[.pointer (some ⟨L, 0, none⟩)] #[]) w := by kernel_rfl
theorem ix6 (L : Nat) (w : World) : (Instr.index 128 (.agg (arr L)) (.int .i64 6)).run Tryz.prog w = .ok (.func (.func 97) #[.pointer (some ⟨L, 0, none⟩)] #[]) w := by kernel_rfl
attribute [local go_sem ↓] ldA7 stA7
attribute [local go_sem] ix0 ix1 ix2 ix3 ix4 ix5 ix6
set_option maxHeartbeats 2000000 in
theorem steps_any (L : Nat) (W : World) :
    Calls Tryz.prog 73 #[.pointer (some ⟨L, 0, none⟩)] W fun r V => r = .returned (.agg (arr L)) ∧ Below W.heap.size W V := by
  obtain ⟨V, sV, rV, bV, zV⟩ := new_a7 W L
  unfold arr fvL at sV
  have F : Hid (RvAt V W.heap.size 128 (arr L) ∧ Below W.heap.size W V) := ⟨rV, bV⟩
  clear rV bV zV
  go_enter Tryz.func73, Tryz.ntmps73
  go_wp2
  refine bodyPost_ret (results_row rtA7 Tryz.results73 _ _ _ _ rfl F.out.1 rfl) rfl ?_
  exact ⟨rfl, F.out.2⟩
def LT (w W : World) (L n : Nat) (h : Hd) (s : Ps) : Prop := ∃ (a : Option Addr) (c : Nat) (vo vf : Value), LS w W L h a n c s.l vo vf s.o s.f
theorem LT.below {w W V : World} {L n : Nat} {h : Hd} {s : Ps} (t : LT w W L n h s) (k : Below W.heap.size W V) : LT w V L n h s := by
  obtain ⟨a, c, vo, vf, q⟩ := t
  exact ⟨a, c, vo, vf, q.below k⟩
theorem stp0 {w W : World} {L n i : Nat} {h : Hd} {s : Ps} (t : LT w W L n h s) (hn : n ≤ 100) (ho : s.o.length ≤ 90000) (hf : s.f.length ≤ 90000) (hi : i < n) :
    Calls Tryz.prog 91 #[.pointer (some ⟨L, 0, none⟩), .int .i64 (i : Int)] W fun r V => ∃ x : Bool, r = .returned (.bool x) ∧ (stK h i s 0).b = (s.b || x) ∧ LT w V L n h (stK h i s 0) ∧ Kp W V := by
  obtain ⟨a, c, vo, vf, q⟩ := t
  exact (inf_any w W L n c h a vo vf s i q (by omega) ho hf hi).mono fun r V ⟨x, a', c', vo', vf', e, eb, q', k'⟩ => ⟨x, e, eb, ⟨a', c', vo', vf', q'⟩, k'⟩
theorem stp1 {w W : World} {L n i : Nat} {h : Hd} {s : Ps} (t : LT w W L n h s) (hn : n ≤ 100) (ho : s.o.length ≤ 90000) (hf : s.f.length ≤ 90000) (hi : i < n) :
    Calls Tryz.prog 92 #[.pointer (some ⟨L, 0, none⟩), .int .i64 (i : Int)] W fun r V => ∃ x : Bool, r = .returned (.bool x) ∧ (stK h i s 1).b = (s.b || x) ∧ LT w V L n h (stK h i s 1) ∧ Kp W V := by
  obtain ⟨a, c, vo, vf, q⟩ := t
  exact (tra_any w W L n c h a vo vf s i q (by omega) ho hf hi).mono fun r V ⟨x, a', c', vo', vf', e, eb, q', k'⟩ => ⟨x, e, eb, ⟨a', c', vo', vf', q'⟩, k'⟩
theorem stp2 {w W : World} {L n i : Nat} {h : Hd} {s : Ps} (t : LT w W L n h s) (hn : n ≤ 100) (ho : s.o.length ≤ 90000) (hf : s.f.length ≤ 90000) (hi : i < n) :
    Calls Tryz.prog 93 #[.pointer (some ⟨L, 0, none⟩), .int .i64 (i : Int)] W fun r V => ∃ x : Bool, r = .returned (.bool x) ∧ (stK h i s 2).b = (s.b || x) ∧ LT w V L n h (stK h i s 2) ∧ Kp W V := by
  obtain ⟨a, c, vo, vf, q⟩ := t
  exact (sta_any w W L n c h a vo vf s i q (by omega) ho hf hi).mono fun r V ⟨x, a', c', vo', vf', e, eb, q', k'⟩ => ⟨x, e, eb, ⟨a', c', vo', vf', q'⟩, k'⟩
theorem stp3 {w W : World} {L n i : Nat} {h : Hd} {s : Ps} (t : LT w W L n h s) (hn : n ≤ 100) (ho : s.o.length ≤ 90000) (hf : s.f.length ≤ 90000) (hi : i < n) :
    Calls Tryz.prog 94 #[.pointer (some ⟨L, 0, none⟩), .int .i64 (i : Int)] W fun r V => ∃ x : Bool, r = .returned (.bool x) ∧ (stK h i s 3).b = (s.b || x) ∧ LT w V L n h (stK h i s 3) ∧ Kp W V := by
  obtain ⟨a, c, vo, vf, q⟩ := t
  exact (top_any w W L n c h a vo vf s i q (by omega) ho hf hi).mono fun r V ⟨x, a', c', vo', vf', e, eb, q', k'⟩ => ⟨x, e, eb, ⟨a', c', vo', vf', q'⟩, k'⟩
theorem stp4 {w W : World} {L n i : Nat} {h : Hd} {s : Ps} (t : LT w W L n h s) (hn : n ≤ 100) (ho : s.o.length ≤ 90000) (hf : s.f.length ≤ 90000) (hi : i < n) :
    Calls Tryz.prog 95 #[.pointer (some ⟨L, 0, none⟩), .int .i64 (i : Int)] W fun r V => ∃ x : Bool, r = .returned (.bool x) ∧ (stK h i s 4).b = (s.b || x) ∧ LT w V L n h (stK h i s 4) ∧ Kp W V := by
  obtain ⟨a, c, vo, vf, q⟩ := t
  exact (flu_any w W L n c h a vo vf s i q (by omega) ho hf hi).mono fun r V ⟨x, a', c', vo', vf', e, eb, q', k'⟩ => ⟨x, e, eb, ⟨a', c', vo', vf', q'⟩, k'⟩
theorem stp5 {w W : World} {L n i : Nat} {h : Hd} {s : Ps} (t : LT w W L n h s) (hn : n ≤ 100) (ho : s.o.length ≤ 90000) (hf : s.f.length ≤ 90000) (hi : i < n) :
    Calls Tryz.prog 96 #[.pointer (some ⟨L, 0, none⟩), .int .i64 (i : Int)] W fun r V => ∃ x : Bool, r = .returned (.bool x) ∧ (stK h i s 5).b = (s.b || x) ∧ LT w V L n h (stK h i s 5) ∧ Kp W V := by
  obtain ⟨a, c, vo, vf, q⟩ := t
  exact (ver_any w W L n c h a vo vf s i q (by omega) ho hf hi).mono fun r V ⟨x, a', c', vo', vf', e, eb, q', k'⟩ => ⟨x, e, eb, ⟨a', c', vo', vf', q'⟩, k'⟩
theorem stp6 {w W : World} {L n i : Nat} {h : Hd} {s : Ps} (t : LT w W L n h s) (hn : n ≤ 100) (ho : s.o.length ≤ 90000) (hf : s.f.length ≤ 90000) (hi : i < n) :
    Calls Tryz.prog 97 #[.pointer (some ⟨L, 0, none⟩), .int .i64 (i : Int)] W fun r V => ∃ x : Bool, r = .returned (.bool x) ∧ (stK h i s 6).b = (s.b || x) ∧ LT w V L n h (stK h i s 6) ∧ Kp W V := by
  obtain ⟨a, c, vo, vf, q⟩ := t
  exact (trn_any w W L n c h a vo vf s i q (by omega) ho hf hi).mono fun r V ⟨x, a', c', vo', vf', e, eb, q', k'⟩ => ⟨x, e, eb, ⟨a', c', vo', vf', q'⟩, k'⟩
theorem run_go {n m : Nat} {t : Ts} (h : (pass n t).s.b = true) : runN n (m + 1) t = runN n m (pass n t) := if_pos h
theorem run_end {n m : Nat} {t : Ts} (h : (pass n t).s.b = false) : runN n (m + 1) t = pass n t := if_neg (by rw [h]; simp)
set_option maxHeartbeats 8000000 in
theorem rest_any {w W : World} {L n c : Nat} {h : Hd} {a : Option Addr} {l : List Pt} {vo vf : Value} (s : LS w W L h a n c l vo vf [] []) (hn : n ≤ 100) :
    Calls Tryz.prog 54 #[.pointer (some ⟨L, 0, none⟩)] W fun r V => r = .returned (.tuple #[]) ∧ LT w V L n (runN n 100 (start h l)).h (runN n 100 (start h l)).s ∧ Kp W V := by
  obtain ⟨T, hT⟩ : ∃ z, runN n 100 (start h l) = z := ⟨_, rfl⟩
  rw [hT]
  have S0 : Hid (LT w W L n (start h l).h (start h l).s ∧ runN n (100 - 0) (start h l) = T) := ⟨⟨a, c, vo, vf, s⟩, hT⟩
  have E0 : Hid ((start h l).s.o.length ≤ 0 ∧ (start h l).s.f.length ≤ 0) := ⟨Nat.le_refl _, Nat.le_refl _⟩
  obtain ⟨t0, ht0⟩ : ∃ z, start h l = z := ⟨_, rfl⟩
  rw [ht0] at S0 E0
  clear s hT ht0
  go_enter Tryz.func54, Tryz.ntmps54
  go_wp2_with fail
  go_step3
  go_wp2_with fail
  refine (steps_any L W).mono ?_
  rintro _ X ⟨rfl, b1⟩
  obtain ⟨Y, sY, rY, bY, zY⟩ := new_a7 X L
  obtain ⟨z, hz⟩ : ∃ z, X.heap.size = z := ⟨_, rfl⟩
  rw [hz] at sY rY
  have A0 : Hid (RvAt Y z 128 (arr L) ∧ LT w Y L n t0.h t0.s ∧ Kp W Y) := ⟨rY, (S0.out.1.below b1).below bY, (Kp.of b1).trans (Kp.of bY)⟩
  have HT : Hid (runN n (100 - 0) t0 = T) := S0.out.2
  clear b1 rY bY zY S0
  go_wp2_with fail
  try go_step3
  go_wp2_with fail
  go_loopw [9] (fun v9 wr => ∃ (j : Nat) (t : Ts), j ≤ 100 ∧ v9 = .int .i64 j ∧ runN n (100 - j) t = T ∧ LT w wr L n t.h t.s ∧ t.s.o.length ≤ j * n ∧ t.s.f.length ≤ j * n ∧ RvAt wr z 128 (arr L) ∧ Kp W wr) (fun v9 _ => 100 - (intOf v9).toNat)
  case atStart => exact ⟨0, t0, by omega, rfl, HT.out, A0.out.2.1, by rw [Nat.zero_mul]; exact E0.out.1, by rw [Nat.zero_mul]; exact E0.out.2, A0.out.1, A0.out.2.2⟩
  case round =>
    obtain ⟨j, t, hj, rfl, hrun, hL, ho, hf, hA, hK⟩ := hrel
    obtain ⟨V0, rfl⟩ : ∃ V, V = wr := ⟨_, rfl⟩
    by_cases hj1 : j < 100
    rotate_left
    · have hj2 : j = 100 := by omega
      subst hj2
      have F : Hid (LT w V0 L n T.h T.s ∧ Kp W V0) := by
        have : t = T := hrun
        rw [← this]
        exact ⟨hL, hK⟩
      clear hrun hL ho hf hA hK A0
      go_wp2
      try rw [Exit.noGoto_normal]
      go_end0
      exact ⟨rfl, F.out.1, F.out.2⟩
    have hj3 : (j : Int) < 100 := by omega
    have J : Hid (runN n (100 - j) t = T ∧ t.s.o.length ≤ j * n ∧ t.s.f.length ≤ j * n ∧ j * n + n ≤ 10000) := ⟨hrun, ho, hf, by have : j * n ≤ 99 * 100 := Nat.mul_le_mul (by omega) hn; omega⟩
    obtain ⟨a, c, vo, vf, q⟩ := hL
    have Q : Hid (LS w V0 L t.h a n c t.s.l vo vf t.s.o t.s.f ∧ RvAt V0 z 128 (arr L) ∧ Kp W V0) := ⟨q, hA, hK⟩
    clear hrun ho hf q hA hK A0
    go_wp2_with fail
    refine (sel_any Q.out.1 (by omega)).mono ?_
    rintro _ V1 ⟨rfl, a1, c1, q1, k1⟩
    obtain ⟨hh, ehh⟩ : ∃ z, S12.stpH t.h t.s.l = z := ⟨_, rfl⟩
    obtain ⟨s1, es1⟩ : ∃ z : Ps, (⟨S12.stpL t.h t.s.l, S12.stpB t.h t.s.l, t.s.o, t.s.f⟩ : Ps) = z := ⟨_, rfl⟩
    have EP : Hid (pass n t = ⟨hh, psN hh n s1⟩ ∧ s1.o.length ≤ j * n ∧ s1.f.length ≤ j * n) := ⟨by unfold pass; rw [ehh, es1], by rw [← es1]; exact J.out.2.1, by rw [← es1]; exact J.out.2.2.1⟩
    have eb1 : S12.stpB t.h t.s.l = s1.b := by rw [← es1]
    rw [eb1]
    have c16 := q1.c16
    have Q1 : Hid (LT w V1 L n hh s1 ∧ RvAt V1 z 128 (arr L) ∧ Kp W V1) := ⟨⟨a1, c1, vo, vf, by rw [← ehh, ← es1]; exact q1⟩, k1 _ _ _ Q.out.2.1 (by decide) (by decide) (by decide) (by decide), Q.out.2.2.trans k1⟩
    clear q1 k1 ehh es1 eb1 Q
    go_wp2_with fail
    go_loopw [3, 19] (fun v3 v19 wr => ∃ i : Nat, i ≤ n ∧ v19 = .int .i64 i ∧ v3 = .bool (psN hh i s1).b ∧ LT w wr L n hh (psN hh i s1) ∧ RvAt wr z 128 (arr L) ∧ Kp W wr) (fun _ v19 _ => n - (intOf v19).toNat)
    case atStart => exact ⟨0, by omega, rfl, rfl, Q1.out.1, Q1.out.2.1, Q1.out.2.2⟩
    case round =>
      obtain ⟨i, hi, rfl, rfl, hL, hA, hK⟩ := hrel
      obtain ⟨V2, rfl⟩ : ∃ V, V = wr := ⟨_, rfl⟩
      by_cases hi1 : i < n
      rotate_left
      · have hi2 : i = n := by omega
        subst hi2
        have hlt : ¬ (i : Int) < (i : Int) := by omega
        have PE := EP.out.1
        obtain ⟨sn, esn⟩ : ∃ z, psN hh i s1 = z := ⟨_, rfl⟩
        have LN := psN_o hh s1 i
        rw [esn] at PE hL LN ⊢
        have F : Hid (LT w V2 L i hh sn ∧ RvAt V2 z 128 (arr L) ∧ Kp W V2 ∧ pass i t = ⟨hh, sn⟩ ∧ sn.o.length ≤ (j + 1) * i ∧ sn.f.length ≤ (j + 1) * i) := ⟨hL, hA, hK, PE, by rw [Nat.succ_mul]; have := EP.out.2.1; omega, by rw [Nat.succ_mul]; have := EP.out.2.2; omega⟩
        clear hL hA hK PE LN esn c16 Q1 EP
        obtain ⟨bb, hbb⟩ : ∃ z, sn.b = z := ⟨_, rfl⟩
        rw [hbb]
        cases bb
        · have G : Hid (T = ⟨hh, sn⟩) := by
            have e1 : 100 - j = (100 - j - 1) + 1 := by omega
            have e2 := J.out.1
            rw [e1, run_end (by rw [F.out.2.2.2.1]; exact hbb), F.out.2.2.2.1] at e2
            exact e2.symm
          clear hbb
          go_wp2
          try rw [Exit.noGoto_normal]
          go_end0
          refine ⟨rfl, ?_, F.out.2.2.1⟩
          rw [G.out]
          exact F.out.1
        · have G : Hid (runN i (100 - (j + 1)) ⟨hh, sn⟩ = T) := by
            have e1 : 100 - j = (100 - (j + 1)) + 1 := by omega
            have e2 := J.out.1
            rw [e1, run_go (by rw [F.out.2.2.2.1]; exact hbb), F.out.2.2.2.1] at e2
            exact e2
          clear hbb
          go_wp2
          go_roundw
          case rel => exact ⟨j + 1, ⟨hh, sn⟩, by omega, by go_num, G.out, F.out.1, F.out.2.2.2.2.1, F.out.2.2.2.2.2, F.out.2.1, F.out.2.2.1⟩
          case measure => simp [intOf]; omega
      have hi3 : (i : Int) < (n : Int) := by omega
      obtain ⟨si, esi⟩ : ∃ z, psN hh i s1 = z := ⟨_, rfl⟩
      have LN := psN_o hh s1 i
      rw [esi] at hL LN ⊢
      have I : Hid (psN hh (i + 1) s1 = ptN hh i 7 si ∧ si.o.length ≤ 10000 ∧ si.f.length ≤ 10000) := ⟨by rw [← esi]; rfl, by have := EP.out.2.1; have := J.out.2.2.2; omega, by have := EP.out.2.2; have := J.out.2.2.2; omega⟩
      have la := hA.ld rtA7 rfl
      have Q2 : Hid (LT w V2 L n hh si ∧ RvAt V2 z 128 (arr L) ∧ Kp W V2) := ⟨hL, hA, hK⟩
      clear hL hA hK LN esi c16 Q1
      go_wp2_with fail
      go_loopw [3, 23] (fun v3 v23 wr => ∃ k : Nat, k ≤ 7 ∧ v23 = .int .i64 k ∧ v3 = .bool (ptN hh i k si).b ∧ LT w wr L n hh (ptN hh i k si) ∧ RvAt wr z 128 (arr L) ∧ Kp W wr) (fun _ v23 _ => 7 - (intOf v23).toNat)
      case atStart => exact ⟨0, by omega, rfl, rfl, Q2.out.1, Q2.out.2.1, Q2.out.2.2⟩
      case round =>
        obtain ⟨k, hk, rfl, rfl, hL, hA, hK⟩ := hrel
        clear la
        have LN := ptN_o hh i si k
        have hB : (ptN hh i k si).o.length ≤ 90000 ∧ (ptN hh i k si).f.length ≤ 90000 := by
          have := I.out.2.1
          have := I.out.2.2
          have h1 := LN.1
          have h2 := LN.2
          constructor
          · split at h1 <;> omega
          · split at h2 <;> omega
        clear LN
        obtain ⟨sk, esk⟩ : ∃ z, ptN hh i k si = z := ⟨_, rfl⟩
        rw [esk] at hL hB ⊢
        have K0 : Hid (LT w wr L n hh sk ∧ RvAt wr z 128 (arr L) ∧ Kp W wr ∧ sk.o.length ≤ 90000 ∧ sk.f.length ≤ 90000) := ⟨hL, hA, hK, hB.1, hB.2⟩
        have ES : Hid (ptN hh i k si = sk) := esk
        clear hL hA hK hB esk
        obtain ⟨bk, hbk⟩ : ∃ z, sk.b = z := ⟨_, rfl⟩
        have BK : Hid (sk.b = bk) := hbk
        rw [hbk]
        clear hbk
        rcases (show k = 0 ∨ k = 1 ∨ k = 2 ∨ k = 3 ∨ k = 4 ∨ k = 5 ∨ k = 6 ∨ k = 7 by omega) with rfl | rfl | rfl | rfl | rfl | rfl | rfl | rfl
        · go_wp2_with fail
          refine (stp0 K0.out.1 hn K0.out.2.2.2.1 K0.out.2.2.2.2 hi1).mono ?_
          rintro _ V3 ⟨x, rfl, eb, q3, k3⟩
          have KX : Hid (ptN hh i 1 si = stK hh i sk 0) := by rw [← ES.out]; exact rfl
          have Q3 : Hid (LT w V3 L n hh (stK hh i sk 0) ∧ RvAt V3 z 128 (arr L) ∧ Kp W V3 ∧ (stK hh i sk 0).b = (bk || x)) := ⟨q3, k3 _ _ _ K0.out.2.1 (by decide) (by decide) (by decide) (by decide), K0.out.2.2.1.trans k3, by rw [eb, BK.out]⟩
          clear eb q3 k3 K0
          cases x
          · go_wp2
            go_roundw
            case rel => exact ⟨1, by omega, by go_num, by rw [KX.out, Q3.out.2.2.2]; simp, by rw [KX.out]; exact Q3.out.1, Q3.out.2.1, Q3.out.2.2.1⟩
            case measure => simp [intOf]
          · go_wp2
            go_roundw
            case rel => exact ⟨1, by omega, by go_num, by rw [KX.out, Q3.out.2.2.2]; simp, by rw [KX.out]; exact Q3.out.1, Q3.out.2.1, Q3.out.2.2.1⟩
            case measure => simp [intOf]
        · go_wp2_with fail
          refine (stp1 K0.out.1 hn K0.out.2.2.2.1 K0.out.2.2.2.2 hi1).mono ?_
          rintro _ V3 ⟨x, rfl, eb, q3, k3⟩
          have KX : Hid (ptN hh i 2 si = stK hh i sk 1) := by rw [← ES.out]; exact rfl
          have Q3 : Hid (LT w V3 L n hh (stK hh i sk 1) ∧ RvAt V3 z 128 (arr L) ∧ Kp W V3 ∧ (stK hh i sk 1).b = (bk || x)) := ⟨q3, k3 _ _ _ K0.out.2.1 (by decide) (by decide) (by decide) (by decide), K0.out.2.2.1.trans k3, by rw [eb, BK.out]⟩
          clear eb q3 k3 K0
          cases x
          · go_wp2
            go_roundw
            case rel => exact ⟨2, by omega, by go_num, by rw [KX.out, Q3.out.2.2.2]; simp, by rw [KX.out]; exact Q3.out.1, Q3.out.2.1, Q3.out.2.2.1⟩
            case measure => simp [intOf]
          · go_wp2
            go_roundw
            case rel => exact ⟨2, by omega, by go_num, by rw [KX.out, Q3.out.2.2.2]; simp, by rw [KX.out]; exact Q3.out.1, Q3.out.2.1, Q3.out.2.2.1⟩
            case measure => simp [intOf]
        · go_wp2_with fail
          refine (stp2 K0.out.1 hn K0.out.2.2.2.1 K0.out.2.2.2.2 hi1).mono ?_
          rintro _ V3 ⟨x, rfl, eb, q3, k3⟩
          have KX : Hid (ptN hh i 3 si = stK hh i sk 2) := by rw [← ES.out]; exact rfl
          have Q3 : Hid (LT w V3 L n hh (stK hh i sk 2) ∧ RvAt V3 z 128 (arr L) ∧ Kp W V3 ∧ (stK hh i sk 2).b = (bk || x)) := ⟨q3, k3 _ _ _ K0.out.2.1 (by decide) (by decide) (by decide) (by decide), K0.out.2.2.1.trans k3, by rw [eb, BK.out]⟩
          clear eb q3 k3 K0
          cases x
          · go_wp2
            go_roundw
            case rel => exact ⟨3, by omega, by go_num, by rw [KX.out, Q3.out.2.2.2]; simp, by rw [KX.out]; exact Q3.out.1, Q3.out.2.1, Q3.out.2.2.1⟩
            case measure => simp [intOf]
          · go_wp2
            go_roundw
            case rel => exact ⟨3, by omega, by go_num, by rw [KX.out, Q3.out.2.2.2]; simp, by rw [KX.out]; exact Q3.out.1, Q3.out.2.1, Q3.out.2.2.1⟩
            case measure => simp [intOf]
        · go_wp2_with fail
          refine (stp3 K0.out.1 hn K0.out.2.2.2.1 K0.out.2.2.2.2 hi1).mono ?_
          rintro _ V3 ⟨x, rfl, eb, q3, k3⟩
          have KX : Hid (ptN hh i 4 si = stK hh i sk 3) := by rw [← ES.out]; exact rfl
          have Q3 : Hid (LT w V3 L n hh (stK hh i sk 3) ∧ RvAt V3 z 128 (arr L) ∧ Kp W V3 ∧ (stK hh i sk 3).b = (bk || x)) := ⟨q3, k3 _ _ _ K0.out.2.1 (by decide) (by decide) (by decide) (by decide), K0.out.2.2.1.trans k3, by rw [eb, BK.out]⟩
          clear eb q3 k3 K0
          cases x
          · go_wp2
            go_roundw
            case rel => exact ⟨4, by omega, by go_num, by rw [KX.out, Q3.out.2.2.2]; simp, by rw [KX.out]; exact Q3.out.1, Q3.out.2.1, Q3.out.2.2.1⟩
            case measure => simp [intOf]
          · go_wp2
            go_roundw
            case rel => exact ⟨4, by omega, by go_num, by rw [KX.out, Q3.out.2.2.2]; simp, by rw [KX.out]; exact Q3.out.1, Q3.out.2.1, Q3.out.2.2.1⟩
            case measure => simp [intOf]
        · go_wp2_with fail
          refine (stp4 K0.out.1 hn K0.out.2.2.2.1 K0.out.2.2.2.2 hi1).mono ?_
          rintro _ V3 ⟨x, rfl, eb, q3, k3⟩
          have KX : Hid (ptN hh i 5 si = stK hh i sk 4) := by rw [← ES.out]; exact rfl
          have Q3 : Hid (LT w V3 L n hh (stK hh i sk 4) ∧ RvAt V3 z 128 (arr L) ∧ Kp W V3 ∧ (stK hh i sk 4).b = (bk || x)) := ⟨q3, k3 _ _ _ K0.out.2.1 (by decide) (by decide) (by decide) (by decide), K0.out.2.2.1.trans k3, by rw [eb, BK.out]⟩
          clear eb q3 k3 K0
          cases x
          · go_wp2
            go_roundw
            case rel => exact ⟨5, by omega, by go_num, by rw [KX.out, Q3.out.2.2.2]; simp, by rw [KX.out]; exact Q3.out.1, Q3.out.2.1, Q3.out.2.2.1⟩
            case measure => simp [intOf]
          · go_wp2
            go_roundw
            case rel => exact ⟨5, by omega, by go_num, by rw [KX.out, Q3.out.2.2.2]; simp, by rw [KX.out]; exact Q3.out.1, Q3.out.2.1, Q3.out.2.2.1⟩
            case measure => simp [intOf]
        · go_wp2_with fail
          refine (stp5 K0.out.1 hn K0.out.2.2.2.1 K0.out.2.2.2.2 hi1).mono ?_
          rintro _ V3 ⟨x, rfl, eb, q3, k3⟩
          have KX : Hid (ptN hh i 6 si = stK hh i sk 5) := by rw [← ES.out]; exact rfl
          have Q3 : Hid (LT w V3 L n hh (stK hh i sk 5) ∧ RvAt V3 z 128 (arr L) ∧ Kp W V3 ∧ (stK hh i sk 5).b = (bk || x)) := ⟨q3, k3 _ _ _ K0.out.2.1 (by decide) (by decide) (by decide) (by decide), K0.out.2.2.1.trans k3, by rw [eb, BK.out]⟩
          clear eb q3 k3 K0
          cases x
          · go_wp2
            go_roundw
            case rel => exact ⟨6, by omega, by go_num, by rw [KX.out, Q3.out.2.2.2]; simp, by rw [KX.out]; exact Q3.out.1, Q3.out.2.1, Q3.out.2.2.1⟩
            case measure => simp [intOf]
          · go_wp2
            go_roundw
            case rel => exact ⟨6, by omega, by go_num, by rw [KX.out, Q3.out.2.2.2]; simp, by rw [KX.out]; exact Q3.out.1, Q3.out.2.1, Q3.out.2.2.1⟩
            case measure => simp [intOf]
        · go_wp2_with fail
          refine (stp6 K0.out.1 hn K0.out.2.2.2.1 K0.out.2.2.2.2 hi1).mono ?_
          rintro _ V3 ⟨x, rfl, eb, q3, k3⟩
          have KX : Hid (ptN hh i 7 si = stK hh i sk 6) := by rw [← ES.out]; exact rfl
          have Q3 : Hid (LT w V3 L n hh (stK hh i sk 6) ∧ RvAt V3 z 128 (arr L) ∧ Kp W V3 ∧ (stK hh i sk 6).b = (bk || x)) := ⟨q3, k3 _ _ _ K0.out.2.1 (by decide) (by decide) (by decide) (by decide), K0.out.2.2.1.trans k3, by rw [eb, BK.out]⟩
          clear eb q3 k3 K0
          cases x
          · go_wp2
            go_roundw
            case rel => exact ⟨7, by omega, by go_num, by rw [KX.out, Q3.out.2.2.2]; simp, by rw [KX.out]; exact Q3.out.1, Q3.out.2.1, Q3.out.2.2.1⟩
            case measure => simp [intOf]
          · go_wp2
            go_roundw
            case rel => exact ⟨7, by omega, by go_num, by rw [KX.out, Q3.out.2.2.2]; simp, by rw [KX.out]; exact Q3.out.1, Q3.out.2.1, Q3.out.2.2.1⟩
            case measure => simp [intOf]
        · have KX : Hid (psN hh (i + 1) s1 = sk) := by rw [I.out.1]; exact ES.out
          go_wp2
          go_roundw
          case rel => exact ⟨i + 1, by omega, by go_num, by rw [KX.out, BK.out], by rw [KX.out]; exact K0.out.1, K0.out.2.1, K0.out.2.2.1⟩
          case measure => simp [intOf]; omega
end S17
end
section
namespace S17
open Go.Shelf
def sortI_ren : Go.Shelf.Ren := ⟨fun | 5 => 55 | 8 => 76 | 7 => 75 | 19 => 109 | 20 => 110 | 10 => 100 | 11 => 101 | 12 => 102 | 13 => 103 | 14 => 104 | 15 => 105 | 16 => 106 | 17 => 107 | 18 => 108 | 30 => 140 | 31 => 141 | 32 => 142 | 33 => 143 | 34 => 144 | 35 => 145 | 40 => 187 | n => n, fun | 23 => 50 | 25 => 3 | 3 => 3 | 32 => 87 | 22 => 50 | 0 => 0 | 44 => 34 | 46 => 22 | 4 => 4 | 36 => 145 | 35 => 144 | 41 => 150 | 5 => 5 | 9 => 9 | 53 => 166 | 57 => 170 | 63 => 194 | 64 => 195 | n => n, fun | n => n⟩
theorem sortI : Go.Proofs.SlLaysM.n5 Tryz.prog sortI_ren := {
  mixed := by kernel_rfl
  f5 := ⟨Tryz.f55.name, by decide, Tryz.func55.trans (congrArg some (by kernel_rfl))⟩
  f7 := ⟨Tryz.f75.name, by decide, Tryz.func75.trans (congrArg some (by kernel_rfl))⟩
  f8 := Tryz.func76.trans (congrArg some (by kernel_rfl))
  f10 := ⟨Tryz.f100.name, by decide, Tryz.func100.trans (congrArg some (by kernel_rfl))⟩
  f11 := ⟨Tryz.f101.name, by decide, Tryz.func101.trans (congrArg some (by kernel_rfl))⟩
  f12 := ⟨Tryz.f102.name, by decide, Tryz.func102.trans (congrArg some (by kernel_rfl))⟩
  f13 := ⟨Tryz.f103.name, by decide, Tryz.func103.trans (congrArg some (by kernel_rfl))⟩
  f14 := ⟨Tryz.f104.name, by decide, Tryz.func104.trans (congrArg some (by kernel_rfl))⟩
  f15 := ⟨Tryz.f105.name, by decide, Tryz.func105.trans (congrArg some (by kernel_rfl))⟩
  f16 := ⟨Tryz.f106.name, by decide, Tryz.func106.trans (congrArg some (by kernel_rfl))⟩
  f17 := ⟨Tryz.f107.name, by decide, Tryz.func107.trans (congrArg some (by kernel_rfl))⟩
  f18 := ⟨Tryz.f108.name, by decide, Tryz.func108.trans (congrArg some (by kernel_rfl))⟩
  f19 := Tryz.func109.trans (congrArg some (by kernel_rfl))
  f20 := Tryz.func110.trans (congrArg some (by kernel_rfl))
  f30 := ⟨Tryz.f140.name, by decide, Tryz.func140.trans (congrArg some (by kernel_rfl))⟩
  f31 := Tryz.func141.trans (congrArg some (by kernel_rfl))
  f32 := Tryz.func142.trans (congrArg some (by kernel_rfl))
  f33 := ⟨Tryz.f143.name, by decide, Tryz.func143.trans (congrArg some (by kernel_rfl))⟩
  f34 := ⟨Tryz.f144.name, by decide, Tryz.func144.trans (congrArg some (by kernel_rfl))⟩
  f35 := ⟨Tryz.f145.name, by decide, Tryz.func145.trans (congrArg some (by kernel_rfl))⟩
  f40 := ⟨Tryz.f187.name, by decide, Tryz.func187.trans (congrArg some (by kernel_rfl))⟩
  t0 := Tryz.underlying0
  a0 := Tryz.isAgg0
  z0 := Tryz.sizeOf0
  v0 := Tryz.zeroValue0
  t3 := Tryz.underlying3
  a3 := Tryz.isAgg3
  z3 := Tryz.sizeOf3
  v3 := Tryz.zeroValue3
  t4 := Tryz.underlying4
  a4 := Tryz.isAgg4
  z4 := Tryz.sizeOf4
  v4 := Tryz.zeroValue4
  t5 := Tryz.underlying5
  a5 := Tryz.isAgg5
  z5 := Tryz.sizeOf5
  v5 := Tryz.zeroValue5
  t9 := Tryz.underlying9
  a9 := Tryz.isAgg9
  z9 := Tryz.sizeOf9
  v9 := Tryz.zeroValue9
  t22 := Tryz.underlying50
  a22 := Tryz.isAgg50
  z22 := Tryz.sizeOf50
  v22 := Tryz.zeroValue50
  t23 := Tryz.underlying50
  a23 := Tryz.isAgg50
  z23 := Tryz.sizeOf50
  v23 := Tryz.zeroValue50
  t25 := Tryz.underlying3
  a25 := Tryz.isAgg3
  z25 := Tryz.sizeOf3
  v25 := Tryz.zeroValue3
  t32 := Tryz.underlying87
  a32 := Tryz.isAgg87
  z32 := Tryz.sizeOf87
  v32 := Tryz.zeroValue87
  t35 := Tryz.underlying144
  a35 := Tryz.isAgg144
  z35 := Tryz.sizeOf144
  v35 := Tryz.zeroValue144
  t36 := Tryz.underlying145
  a36 := Tryz.isAgg145
  z36 := Tryz.sizeOf145
  v36 := Tryz.zeroValue145
  t41 := Tryz.underlying150
  a41 := Tryz.isAgg150
  z41 := Tryz.sizeOf150
  v41 := Tryz.zeroValue150
  t44 := Tryz.underlying34
  a44 := Tryz.isAgg34
  z44 := Tryz.sizeOf34
  v44 := Tryz.zeroValue34
  t46 := Tryz.underlying22
  a46 := Tryz.isAgg22
  z46 := Tryz.sizeOf22
  v46 := Tryz.zeroValue22
  t53 := Tryz.underlying166
  a53 := Tryz.isAgg166
  z53 := Tryz.sizeOf166
  v53 := Tryz.zeroValue166
  t57 := Tryz.underlying170
  a57 := Tryz.isAgg170
  z57 := Tryz.sizeOf170
  v57 := Tryz.zeroValue170
  t63 := Tryz.underlying194
  a63 := Tryz.isAgg194
  z63 := Tryz.sizeOf194
  v63 := Tryz.zeroValue194
  t64 := Tryz.underlying195
  a64 := Tryz.isAgg195
  z64 := Tryz.sizeOf195
  v64 := Tryz.zeroValue195 }
def compI_ren : Go.Shelf.Ren := ⟨fun | 43 => 56 | n => n, fun | 22 => 50 | 23 => 3 | 3 => 3 | 4 => 4 | 0 => 0 | n => n, fun | n => n⟩
theorem compI : Go.Proofs.SlLaysE.n43 Tryz.prog compI_ren := {
  mixed := by kernel_rfl
  f43 := ⟨Tryz.f56.name, by decide, Tryz.func56.trans (congrArg some (by kernel_rfl))⟩
  t0 := Tryz.underlying0
  a0 := Tryz.isAgg0
  z0 := Tryz.sizeOf0
  v0 := Tryz.zeroValue0
  t3 := Tryz.underlying3
  a3 := Tryz.isAgg3
  z3 := Tryz.sizeOf3
  v3 := Tryz.zeroValue3
  t4 := Tryz.underlying4
  a4 := Tryz.isAgg4
  z4 := Tryz.sizeOf4
  v4 := Tryz.zeroValue4
  t22 := Tryz.underlying50
  a22 := Tryz.isAgg50
  z22 := Tryz.sizeOf50
  v22 := Tryz.zeroValue50
  a23 := Tryz.isAgg3
  z23 := Tryz.sizeOf3 }
end S17
end
section
namespace S17
open Go.RowKit Go.Sort
open S14 (gtP gtP_at set_self)

theorem fl_int (l : List Int) : eI.fl l = l.map (Value.int .i64) := by
  induction l with
  | nil => rfl
  | cons x r ih =>
    unfold S16.El.fl at ih ⊢
    rw [List.flatMap_cons, ih]
    rfl
theorem holdsI {W : World} {g c : Nat} {l : List Int} (p : S16.PAt eI W g c l) : Holds (Value.int .i64) W g 0 l.toArray := by
  intro j hj
  have hj' : j < l.length := by simpa using hj
  obtain ⟨cur, hb, _, _, _, ht⟩ := p
  refine ⟨?_, by simp [World.frozen?, show W.heap[g]? = some (.cells cur 3 (0, 0)) from hb]⟩
  rw [Nat.zero_add]
  refine hb.cell j _ ?_
  rw [← Array.getElem?_toList]
  have h1 : (cur.toList.take (l.length * 1))[j]? = (l.map (Value.int .i64))[j]? := by rw [show cur.toList.take (l.length * 1) = eI.fl l from ht, fl_int]
  rw [List.getElem?_take_of_lt (by omega)] at h1
  rw [h1, List.getElem?_map, List.getElem?_eq_getElem hj', getElem!_pos l.toArray j hj]
  rfl
theorem put_take (cur : Array Value) (d : List Int) (h : d.length ≤ cur.size) : (putCells (Value.int .i64) 0 d.toArray cur).toList.take d.length = d.map (Value.int .i64) := by
  apply List.ext_getElem?
  intro j
  by_cases hj : j < d.length
  · rw [List.getElem?_take_of_lt hj, Array.getElem?_toList]
    simp [putCells, hj, show j < cur.size by omega]
  · rw [List.getElem?_take_eq_none (by omega), List.getElem?_eq_none (by simp; omega)]
theorem put_pat {W : World} {g c n : Nat} {l d : List Int} {os : Array Obj} (p : S16.PAt eI W g c l) (hd : d.length = l.length) :
    S16.PAt eI (grow (putRow (Value.int .i64) (Sort.ahead W n) g 0 d.toArray) os) g c d ∧ W.grownBy (grow (putRow (Value.int .i64) (Sort.ahead W n) g 0 d.toArray) os) (some g) := by
  obtain ⟨cur, hb, h1, h2, h3, h4⟩ := p
  have hg := hb.lt
  have h3' : cur.size = c := by simpa [eI] using h3
  refine ⟨⟨putCells (Value.int .i64) 0 d.toArray cur, ?_, by omega, h2, by simpa [putCells] using h3, ?_⟩, rfl, rfl, rfl, by simp, fun k hk hne => ?_⟩
  · show (grow (putRow (Value.int .i64) (Sort.ahead W n) g 0 d.toArray) os).heap[g]? = _
    rw [heap_grow_old _ _ (by simpa using hg)]
    simp [putRow, mapBlock, Sort.ahead, Array.getElem?_modify, show W.heap[g]? = some (.cells cur 3 (0, 0)) from hb, onCells, eI]
  · rw [fl_int]
    have := put_take cur d (by omega)
    simpa [eI] using this
  · rw [heap_grow_old _ _ (by simpa using hk)]
    have : g ≠ k := fun e => hne (by rw [e])
    simp [putRow, mapBlock, Sort.ahead, Array.getElem?_modify, this]
theorem pat_cut {W : World} {g c : Nat} {l m : List Int} (p : S16.PAt eI W g c (l ++ m)) : S16.PAt eI W g c l := by
  obtain ⟨cur, hb, h1, h2, h3, h4⟩ := p
  have hl : (l ++ m).length = l.length + m.length := List.length_append
  refine ⟨cur, hb, by omega, h2, h3, ?_⟩
  have e : cur.toList.take (l.length * eI.K) = (cur.toList.take ((l ++ m).length * eI.K)).take (l.length * eI.K) := by
    rw [List.take_take, Nat.min_eq_left (Nat.mul_le_mul_right _ (by omega))]
  rw [e, h4, S16.El.fl_app, List.take_left']
  rw [S16.El.fl_len kI]
theorem sort_any {W : World} {B : Nat} {v : Value} {l : List Int} (o : S16.Own eI W B v l) (hl : l.length ≤ 100000) :
    Calls Tryz.prog 55 #[v] W fun r V => r = .returned (.tuple #[]) ∧ S16.Own eI V B v (l.mergeSort fun x y => decide (x ≤ y)) ∧ W.grownBy V v.ownBlock := by
  rcases o.pat with ⟨rfl, rfl⟩ | ⟨g, c, rfl, hB, p⟩
  · have := AnyM.slices_Sort_int_none sortI none 0 W
    exact this.mono fun r V ⟨e, ew⟩ => ⟨e, by rw [ew]; simpa using o, by rw [ew]; exact World.grownBy.refl _ _⟩
  · have := AnyM.slices_Sort_int sortI g 0 c l W (holdsI p) p.lt (by omega)
    refine Calls.mono this fun r V ⟨e, n, os, ew⟩ => ?_
    have hlen : (l.mergeSort fun x y => decide (x ≤ y)).length = l.length := List.length_mergeSort _
    have q := put_pat (n := n) (os := os) (d := l.mergeSort fun x y => decide (x ≤ y)) p hlen
    rw [← ew] at q
    refine ⟨e, ?_, q.2⟩
    have := q.1.own kI hB
    rw [hlen] at this
    exact this
theorem compact_len (d : Array Int) : (Lib.compactUpTo d d.size).length ≤ d.size := by
  unfold Lib.compactUpTo
  rw [List.length_map]
  have := List.length_filter_le (Lib.keeps d) (List.range d.size)
  simpa using this
set_option maxHeartbeats 1000000 in
theorem comp_any {W : World} {B : Nat} {v : Value} {l : List Int} (o : S16.Own eI W B v l) (hl : l.length ≤ 100000) :
    Calls Tryz.prog 56 #[v] W fun r V => ∃ v', r = .returned v' ∧ S16.Own eI V B v' (Lib.compactUpTo l.toArray l.length) ∧ W.grownBy V v.ownBlock := by
  rcases o.pat with ⟨rfl, rfl⟩ | ⟨g, c, rfl, hB, p⟩
  · have F : Hid (S16.Own eI W B (.slice none 0 0) []) := o
    clear o
    go_enter Tryz.func56, Tryz.ntmps56
    go_wp2
    go_ret
    exact ⟨_, rfl, F.out, World.grownBy.refl _ _⟩
  · have hc : l.length ≤ c := by obtain ⟨_, _, h1, _⟩ := p; exact h1
    have := AnyE.slices_Compact compI (Value.int .i64) (fun _ => rfl) (EqlAt.intD _ _ _) (NeqAt.intD _ _ _) 0 (fun w => by kernel_rfl) g 0 c l.toArray W (holdsI p) (by simp; omega) (by simpa using hc)
    have hsz : l.toArray.size = l.length := rfl
    rw [hsz] at this
    refine Calls.mono this fun r V ⟨e, n, ew⟩ => ?_
    have hk := compact_len l.toArray
    rw [hsz] at hk
    have q := put_pat (n := n) (os := #[]) (d := Lib.compactUpTo l.toArray l.length ++ List.replicate (l.length - (Lib.compactUpTo l.toArray l.length).length) 0) p (by simp; omega)
    rw [grow_empty, ← ew] at q
    exact ⟨_, e, (pat_cut q.1).own kI hB, q.2⟩
/-! ### what is noted -/
theorem note_mem (l : List Int) (i : Int) : ∀ x, x ∈ noteL l i ↔ x ∈ l ∨ x = i := by
  induction l with
  | nil => intro x; simp [noteL]
  | cons y r ih =>
    intro x
    unfold noteL
    split
    · rw [List.mem_cons, ih, List.mem_cons, or_assoc]
    · split
      · next h1 h2 =>
        rw [List.mem_cons]
        constructor
        · exact fun h => Or.inl h
        · rintro (h | rfl)
          · exact h
          · exact Or.inl h2.symm
      · simp only [List.mem_cons]
        constructor
        · rintro (h | h | h)
          · exact Or.inr h
          · exact Or.inl (Or.inl h)
          · exact Or.inl (Or.inr h)
        · rintro ((h | h) | h)
          · exact Or.inr (Or.inl h)
          · exact Or.inr (Or.inr h)
          · exact Or.inl h
theorem note_sorted (l : List Int) (i : Int) (h : l.Pairwise (· < ·)) : (noteL l i).Pairwise (· < ·) := by
  induction l with
  | nil => simp [noteL]
  | cons y r ih =>
    rw [List.pairwise_cons] at h
    unfold noteL
    split
    · next h1 =>
      rw [List.pairwise_cons]
      refine ⟨fun x hx => ?_, ih h.2⟩
      rcases (note_mem r i x).1 hx with q | q
      · exact h.1 x q
      · rw [q]; exact h1
    · split
      · exact List.pairwise_cons.2 h
      · next h1 h2 =>
        rw [List.pairwise_cons]
        refine ⟨fun x hx => ?_, List.pairwise_cons.2 h⟩
        rcases List.mem_cons.1 hx with q | q
        · rw [q]; omega
        · have := h.1 x q; omega
theorem noted_fold (l : List Int) : ∀ (a : List Int), a.Pairwise (· < ·) → (l.foldl noteL a).Pairwise (· < ·) ∧ ∀ x, x ∈ l.foldl noteL a ↔ x ∈ a ∨ x ∈ l := by
  induction l with
  | nil => intro a h; exact ⟨h, by simp⟩
  | cons y r ih =>
    intro a h
    obtain ⟨h1, h2⟩ := ih (noteL a y) (note_sorted a y h)
    refine ⟨h1, fun x => ?_⟩
    rw [List.foldl_cons, h2, note_mem, List.mem_cons, or_assoc]
theorem sorted_ext : ∀ (a b : List Int), a.Pairwise (· < ·) → b.Pairwise (· < ·) → (∀ x, x ∈ a ↔ x ∈ b) → a = b
  | [], [], _, _, _ => rfl
  | [], y :: r, _, _, h => by have := (h y).2 (by simp); simp at this
  | x :: r, [], _, _, h => by have := (h x).1 (by simp); simp at this
  | x :: r, y :: s, ha, hb, h => by
    rw [List.pairwise_cons] at ha hb
    have e : x = y := by
      have h1 := (h x).1 (by simp)
      have h2 := (h y).2 (by simp)
      rcases List.mem_cons.1 h1 with q | q
      · exact q
      · rcases List.mem_cons.1 h2 with p | p
        · exact p.symm
        · have := hb.1 x q
          have := ha.1 y p
          omega
    subst e
    congr 1
    refine sorted_ext r s ha.2 hb.2 fun z => ?_
    have hz := h z
    simp only [List.mem_cons] at hz
    constructor
    · intro q
      rcases hz.1 (Or.inr q) with p | p
      · have := ha.1 z q; omega
      · exact p
    · intro q
      rcases hz.2 (Or.inr q) with p | p
      · have := hb.1 z q; omega
      · exact p
theorem compact_succ (d : Array Int) (m : Nat) : Lib.compactUpTo d (m + 1) = Lib.compactUpTo d m ++ (if Lib.keeps d m = true then [d[m]!] else []) := by
  unfold Lib.compactUpTo
  rw [List.range_succ, List.filter_append, List.map_append]
  congr 1
  cases h : Lib.keeps d m <;> simp [h]
theorem compact_is (s : List Int) (hs : s.Pairwise (· ≤ ·)) : ∀ m, m ≤ s.length → (Lib.compactUpTo s.toArray m).Pairwise (· < ·) ∧ ∀ x, x ∈ Lib.compactUpTo s.toArray m ↔ x ∈ s.take m
  | 0, _ => by simp [Lib.compactUpTo]
  | m + 1, hm => by
    obtain ⟨h1, h2⟩ := compact_is s hs m (by omega)
    have em : s.toArray[m]! = s[m]'(by omega) := by rw [getElem!_pos s.toArray m (by simp; omega)]; rfl
    have et : s.take (m + 1) = s.take m ++ [s[m]'(by omega)] := by rw [List.take_add_one, List.getElem?_eq_getElem (by omega)]; rfl
    have hle : ∀ x ∈ s.take m, x ≤ s[m]'(by omega) := fun x hx => by
      obtain ⟨k, hk, rfl⟩ := List.mem_iff_getElem.1 hx
      rw [List.getElem_take]
      rw [List.length_take] at hk
      exact List.pairwise_iff_getElem.1 hs k m (by omega) (by omega) (by omega)
    rw [compact_succ, et]
    by_cases hk : Lib.keeps s.toArray m = true
    · rw [if_pos hk, em]
      refine ⟨?_, fun x => by rw [List.mem_append, List.mem_append, h2]⟩
      rw [List.pairwise_append]
      refine ⟨h1, by simp, fun x hx y hy => ?_⟩
      simp only [List.mem_cons, List.not_mem_nil, or_false] at hy
      subst hy
      have hx' := (h2 x).1 hx
      have := hle x hx'
      by_cases h0 : m = 0
      · subst h0; simp at hx'
      · have hne : s.toArray[m]! ≠ s.toArray[m - 1]! := fun e => by
          have := Lib.keeps_neg (d := s.toArray) (m := m) (by omega) e
          rw [this] at hk
          cases hk
        have em1 : s.toArray[m - 1]! = s[m - 1]'(by omega) := by rw [getElem!_pos s.toArray (m - 1) (by simp; omega)]; rfl
        rw [em, em1] at hne
        obtain ⟨k, hk', rfl⟩ := List.mem_iff_getElem.1 hx'
        rw [List.getElem_take]
        rw [List.length_take] at hk'
        have a1 : s[k]'(by omega) ≤ s[m - 1]'(by omega) := by
          rcases Nat.lt_or_ge k (m - 1) with q | q
          · exact List.pairwise_iff_getElem.1 hs k (m - 1) (by omega) (by omega) q
          · have : k = m - 1 := by omega
            subst this
            exact Int.le_refl _
        have a2 := List.pairwise_iff_getElem.1 hs (m - 1) m (by omega) (by omega) (by omega)
        omega
    · rw [if_neg hk, List.append_nil]
      refine ⟨h1, fun x => ?_⟩
      rw [h2, List.mem_append]
      constructor
      · exact fun h => Or.inl h
      · rintro (h | h)
        · exact h
        · simp only [List.mem_cons, List.not_mem_nil, or_false] at h
          subst h
          have h0 : m ≠ 0 := fun e => hk (Lib.keeps_lt_one s.toArray m (by omega))
          have he : s.toArray[m]! = s.toArray[m - 1]! := Classical.byContradiction fun q => hk (Lib.keeps_pos q)
          have em1 : s.toArray[m - 1]! = s[m - 1]'(by omega) := by rw [getElem!_pos s.toArray (m - 1) (by simp; omega)]; rfl
          rw [em, em1] at he
          rw [he]
          refine List.mem_iff_getElem.2 ⟨m - 1, by rw [List.length_take]; omega, ?_⟩
          rw [List.getElem_take]
theorem noted_is (l : List Int) : Lib.compactUpTo (l.mergeSort fun x y => decide (x ≤ y)).toArray (l.mergeSort fun x y => decide (x ≤ y)).length = noted l := by
  have hs : (l.mergeSort fun x y => decide (x ≤ y)).Pairwise (· ≤ ·) := (List.pairwise_mergeSort (le := fun x y : Int => decide (x ≤ y)) (fun a b c h1 h2 => by simp at *; omega) (fun a b => by simp; omega) l).imp fun h => by simpa using h
  have hp := List.mergeSort_perm l (fun x y : Int => decide (x ≤ y))
  obtain ⟨h1, h2⟩ := compact_is _ hs _ (Nat.le_refl _)
  obtain ⟨n1, n2⟩ := noted_fold l [] List.Pairwise.nil
  refine sorted_ext _ _ h1 n1 fun x => ?_
  rw [h2, List.take_length, hp.mem_iff]
  show x ∈ l ↔ x ∈ l.foldl noteL []
  rw [n2]
  simp
end S17
end
section
namespace S17
open Go.RowKit
open S14 (gtP gtP_at set_self)
abbrev q31_5_0 : Oper := { dst := some 27, op := Op.move (Operand.tmp 4), type := 107, pos := "lead.go:21", after := #[], guard := none }
abbrev q31_5_1 : Oper := { dst := some 28, op := Op.nilCheck (Operand.tmp 27), type := 0, pos := "lead.go:21", after := #[{ on := 0, ground := Ground.data }], guard := none }
abbrev q31_5_2 : Oper := { dst := some 29, op := Op.fieldAddr 109 (Operand.tmp 28) 0, type := 0, pos := "lead.go:21", after := #[{ on := 1, ground := Ground.data }], guard := none }
abbrev q31_5_3 : Oper := { dst := some 30, op := Op.load 39 (Operand.tmp 29), type := 39, pos := "lead.go:21", after := #[{ on := 2, ground := Ground.data }], guard := none }
abbrev q31_5_4 : Oper := { dst := some 31, op := Op.move (Operand.tmp 4), type := 107, pos := "lead.go:21", after := #[{ on := 8, ground := Ground.gcOnly Departure.lateStores }], guard := none }
abbrev q31_5_5 : Oper := { dst := some 32, op := Op.nilCheck (Operand.tmp 31), type := 0, pos := "lead.go:21", after := #[{ on := 4, ground := Ground.data }, { on := 8, ground := Ground.gcOnly Departure.lateStores }], guard := none }
abbrev q31_5_6 : Oper := { dst := some 33, op := Op.fieldAddr 109 (Operand.tmp 32) 1, type := 0, pos := "lead.go:21", after := #[{ on := 5, ground := Ground.data }, { on := 8, ground := Ground.gcOnly Departure.lateStores }], guard := none }
abbrev q31_5_7 : Oper := { dst := some 34, op := Op.load 52 (Operand.tmp 33), type := 52, pos := "lead.go:21", after := #[{ on := 6, ground := Ground.data }, { on := 8, ground := Ground.gcOnly Departure.lateStores }], guard := none }
abbrev q31_5_8 : Oper := { dst := none, op := Op.store 39 (Operand.tmp 2) (Operand.tmp 30), type := 0, pos := "lead.go:21", after := #[{ on := 3, ground := Ground.data }, { on := 0, ground := Ground.phase }, { on := 1, ground := Ground.phase }, { on := 2, ground := Ground.phase }, { on := 3, ground := Ground.phase }, { on := 4, ground := Ground.textOnly Departure.lateStores }, { on := 5, ground := Ground.textOnly Departure.lateStores }, { on := 6, ground := Ground.textOnly Departure.lateStores }, { on := 7, ground := Ground.textOnly Departure.lateStores }], guard := none }
abbrev q31_5_9 : Oper := { dst := none, op := Op.store 52 (Operand.tmp 3) (Operand.tmp 34), type := 0, pos := "lead.go:21", after := #[{ on := 7, ground := Ground.data }, { on := 8, ground := Ground.chain }, { on := 0, ground := Ground.phase }, { on := 1, ground := Ground.phase }, { on := 2, ground := Ground.phase }, { on := 3, ground := Ground.phase }, { on := 4, ground := Ground.phase }, { on := 5, ground := Ground.phase }, { on := 6, ground := Ground.phase }, { on := 7, ground := Ground.phase }, { on := 8, ground := Ground.phase }], guard := none }

theorem bdLc (c0 c1 c2 c3 c4 c5 c6 c7 c8 c9 c10 c11 c12 c13 c14 c15 v : Value) (w : World) : (Instr.build 109 #[(0, .agg #[c0, c1, c2, c3, c4, c5, c6, c7, c8, c9, c10, c11, c12, c13, c14, c15, v])]).run Tryz.prog w = .ok (.agg #[c0, c1, c2, c3, c4, c5, c6, c7, c8, c9, c10, c11, c12, c13, c14, c15, v, .slice none 0 0, .slice none 0 0]) w := by kernel_rfl
def bdL (x : Array (Nat × Value)) : Sem Value := Instr.build 109 x
theorem bdLE (x : Array (Nat × Value)) : Instr.build 109 x = bdL x := rfl
theorem bdL_is (h : Hd) (v : Value) (w : World) : (bdL #[(0, .agg (trc h v))]).run Tryz.prog w = .ok (.agg (ldc h v (.slice none 0 0) (.slice none 0 0))) w := by
  have hl := h.len
  rw [lenH] at hl
  unfold bdL trc ldc
  match h.cl, hl with
  | [c0, c1, c2, c3, c4, c5, c6, c7, c8, c9, c10, c11, c12, c13, c14, c15], _ => exact bdLc c0 c1 c2 c3 c4 c5 c6 c7 c8 c9 c10 c11 c12 c13 c14 c15 v w
theorem three_td (w : World) (h : Hd) (x : Value) : ∃ W, ((w.alloc (.cells (trc h x) 39)).alloc (.cells #[.int .u64 0, .int .u8 0, .int .u8 0, .int .u8 0, .int .u8 0, .int .u8 0, .bool false, .int .u16 0, .int .u64 0, .int .u32 0, .int .u64 0, .int .u16 0, .int .u8 0, .int .u8 0, .int .u8 0, .int .u8 0, .slice none 0 0] 39)).alloc (.cells #[.slice none 0 0, .slice none 0 0] 52) = W ∧ RvAt W w.heap.size 39 (trc h x) ∧ RvAt W (w.heap.size + 1) 39 (trc zeroH (.slice none 0 0)) ∧ RvAt W (w.heap.size + 2) 52 #[.slice none 0 0, .slice none 0 0] ∧ Below w.heap.size w W ∧ W.heap.size = w.heap.size + 3 := by
  obtain ⟨A, hA, r0, r1, bA, zA⟩ := two_t w h x
  refine ⟨_, rfl, ?_⟩
  rw [hA]
  have b : Below A.heap.size A (A.alloc (.cells #[.slice none 0 0, .slice none 0 0] 52)) := (Below.refl _ _).alloc (Nat.le_refl _) _
  refine ⟨r0.below b, r1.below b, ?_, below_over bA b, by simp [zA]⟩
  have := RvAt.new A 52 #[.slice none 0 0, .slice none 0 0]
  rw [zA] at this
  exact this
theorem results_td {fn : Func} {k m : Nat} {td : TypeId} (hd : RowTy td 2) (hr : fn.results = #[.cell k 39, .cell m td]) (tmps : Array Value) (w : World) (b d : Nat) (h : Hd) (x vo vf : Value) (h2 : tmps.getD k undef = .pointer (some ⟨b, 0, none⟩)) (h3 : tmps.getD m undef = .pointer (some ⟨d, 0, none⟩)) (r : RvAt w b 39 (trc h x)) (q : RvAt w d td #[vo, vf]) :
    (results fn tmps).run Tryz.prog w = .ok (.tuple #[.agg (trc h x), .agg #[vo, vf]]) w := by
  have hl := r.lv rtT (trc_size h x)
  have hq := q.lv hd rfl
  have h2' : tmps[k]?.getD undef = .pointer (some ⟨b, 0, none⟩) := by simpa using h2
  have h3' : tmps[m]?.getD undef = .pointer (some ⟨d, 0, none⟩) := by simpa using h3
  simp [results, hr, asAddr, hl, hq, h2', h3']
theorem ld_tree {W : World} {L : Nat} {h : Hd} {x vo vf : Value} (r : RvAt W L 109 (ldc h x vo vf)) : (ldS 39 (.pointer (some ⟨L, 0, none⟩))).run Tryz.prog W = .ok (.agg (trc h x)) W :=
  run_loadAt_mid W L 0 39 (trc h x).toList _ (fun j v hv => by
    rw [Nat.zero_add]
    exact r.cell j v (ldc_tree (by simpa using hv))) Tryz.underlying39 rfl (by rw [Array.length_toList, trc_size]; exact infoT)
theorem ld_done {W : World} {L : Nat} {h : Hd} {x vo vf : Value} (r : RvAt W L 109 (ldc h x vo vf)) : (ldS 52 (.pointer (some ⟨L, 17, none⟩))).run Tryz.prog W = .ok (.agg #[vo, vf]) W :=
  run_loadAt_mid W L 17 52 [vo, vf] _ (fun j v hv => by
    have := ldc_get h x vo vf
    match j, hv with
    | 0, hv => cases hv; exact r.cell 17 _ this.2.1
    | 1, hv => cases hv; exact r.cell 18 _ this.2.2) Tryz.underlying52 rfl infoD
theorem LS.flu0 {w W X : World} {L n c : Nat} {h : Hd} {a : Option Addr} {l : List Pt} {vo vf : Value} {os : List Ot} {fs fs' : List Int} (s : LS w W L h a n c l vo vf os fs) (g : W.grownBy X vf.ownBlock) (ho : S16.Own eI X w.heap.size vf fs') : LS w X L h a n c l vo vf os fs' ∧ Kp W X := by
  have hv : RvAt X L 109 (ldc h (.slice a n c) vo vf) := s.var.keptBut g (by rcases s.lf with e | e <;> simp_all [Ne.symm])
  have hsl : SlAt X a n c l := by
    by_cases h0 : 0 < n
    · refine s.sl.keptBut g (fun x hx e => ?_)
      obtain ⟨cs, r⟩ := s.sl.soft x hx h0
      rcases own_type s.fl r (by decide) with q | q
      · rw [q] at e; cases e
      · exact q e.symm
    · exact ⟨⟨s.sl.len, s.sl.cap, s.sl.max, s.sl.nil, fun y _ h1 => absurd h1 h0⟩, fun y _ h1 => absurd h1 h0⟩
  have hf : S16.Own eO X w.heap.size vo os := by
    refine s.ou.keptBut g ?_
    rcases s.fl.pat with ⟨e, _⟩ | ⟨gg, cc, rfl, _, p⟩
    · subst e
      exact (Classical.em (vo.ownBlock = none)).imp id fun q e => q e
    · obtain ⟨cur, hc, _⟩ := p
      exact own_type s.ou hc (by decide)
  have hb : Below w.heap.size w X := s.bel.trans (below_of_grown g s.bel.size (fun j e => (s.fl.blk j e).1))
  exact ⟨⟨hv, hsl, s.nw, hf, ho, hb, s.hL⟩, Kp.own s.fl g (Or.inr rfl)⟩
theorem run_len (n : Nat) : ∀ (m : Nat) (t : Ts), (runN n m t).s.f.length ≤ t.s.f.length + m * n
  | 0, t => by simp [runN]
  | m + 1, t => by
    have h1 : (pass n t).s.f.length ≤ t.s.f.length + n := (psN_o (S12.stpH t.h t.s.l) ⟨S12.stpL t.h t.s.l, S12.stpB t.h t.s.l, t.s.o, t.s.f⟩ n).2
    unfold runN
    split
    · have := run_len n m (pass n t)
      rw [Nat.succ_mul]
      omega
    · rw [Nat.succ_mul]
      omega
attribute [local go_sem ↓] ldP stP ldT stT ldDn stDn stLO stLI bdLE
set_option maxHeartbeats 4000000 in
theorem run_any (h : Hd) (a : Option Addr) (n c : Nat) (l : List Pt) (w : World) (hs : SlAt w a n c l) (hn : n ≤ 100) :
    Calls Tryz.prog 31 #[.agg (trc h (.slice a n c))] w fun r V => ∃ a' c' vo vf, r = .returned (.tuple #[.agg (trc (runT h l).h (.slice a' n c')), .agg #[vo, vf]]) ∧ SlAt V a' n c' (runT h l).s.l ∧ Nw w a' ∧ S16.Own eO V w.heap.size vo (runT h l).s.o ∧ S16.Own eI V w.heap.size vf (noted (runT h l).s.f) ∧ Below w.heap.size w V := by
  obtain ⟨T, hT⟩ : ∃ z, runT h l = z := ⟨_, rfl⟩
  have HT : Hid (runN n 100 (start h l) = T ∧ T.s.f.length ≤ 10000) := by
    have e : runN n 100 (start h l) = T := by rw [← hT, ← hs.len]; rfl
    refine ⟨e, ?_⟩
    have := run_len n 100 (start h l)
    rw [e] at this
    have h0 : (start h l).s.f.length = 0 := rfl
    omega
  rw [hT]
  clear hT
  obtain ⟨W, hW, r0, r1, r2, bW, zW⟩ := three_td w h (.slice a n c)
  have l0 := r0.tld
  have H : Hid (SlAt W a n c l ∧ l.length = n ∧ RvAt W (w.heap.size + 1) 39 (trc zeroH (.slice none 0 0)) ∧ RvAt W (w.heap.size + 2) 52 #[.slice none 0 0, .slice none 0 0] ∧ Below w.heap.size w W) := ⟨hs.below bW, hs.len, r1, r2, bW⟩
  clear hs r0 r1 r2 bW zW
  go_enter Tryz.func31, Tryz.ntmps31
  go_wp2_with fail
  refine (copy_any h a n c l W H.out.1 (by omega)).mono ?_
  rintro _ X ⟨v, rfl, oX, bX⟩
  obtain ⟨a0, c0, rfl, s0, p0⟩ := oX.form
  rw [H.out.2.1] at s0
  have bd := bdL_is h (.slice a0 n c0)
  rw [← H.out.2.1] at bd
  obtain ⟨Y, hY⟩ : ∃ Y, X.alloc (.cells (ldc h (.slice a0 l.length c0) (.slice none 0 0) (.slice none 0 0)) 109) = Y := ⟨_, rfl⟩
  have bY : Below X.heap.size X Y := by rw [← hY]; exact (Below.refl _ _).alloc (Nat.le_refl _) _
  have rY : RvAt Y X.heap.size 109 (ldc h (.slice a0 l.length c0) (.slice none 0 0) (.slice none 0 0)) := by rw [← hY]; exact RvAt.new _ _ _
  have bw : Below w.heap.size w Y := below_over (below_over H.out.2.2.2.2 bX) bY
  have S : Hid (LS w Y X.heap.size h a0 n c0 l (.slice none 0 0) (.slice none 0 0) [] []) := by
    refine ⟨by rw [← H.out.2.1]; exact rY, s0.below bY, fun x hx => Nat.le_trans H.out.2.2.2.2.size (p0 x hx).1, S16.Own.nil _ _, S16.Own.nil _ _, bw, Nat.le_trans H.out.2.2.2.2.size bX.size⟩
  have R : Hid (RvAt Y (w.heap.size + 1) 39 (trc zeroH (.slice none 0 0)) ∧ RvAt Y (w.heap.size + 2) 52 #[.slice none 0 0, .slice none 0 0]) := ⟨(H.out.2.2.1.below bX).below bY, (H.out.2.2.2.1.below bX).below bY⟩
  obtain ⟨L, hL⟩ : ∃ L, X.heap.size = L := ⟨_, rfl⟩
  rw [hL] at S
  clear l0 oX bX s0 p0 bY rY bw
  go_wp2_with fail
  refine (rest_any S.out hn).mono ?_
  rintro _ V1 ⟨rfl, ⟨a1, c1, vo, vf, q1⟩, k1⟩
  rw [HT.out.1] at q1
  have c18 := q1.c18
  have R1 : Hid (RvAt V1 (w.heap.size + 1) 39 (trc zeroH (.slice none 0 0)) ∧ RvAt V1 (w.heap.size + 2) 52 #[.slice none 0 0, .slice none 0 0] ∧ LS w V1 L T.h a1 n c1 T.s.l vo vf T.s.o T.s.f) := ⟨k1 _ _ _ R.out.1 (by decide) (by decide) (by decide) (by decide), k1 _ _ _ R.out.2 (by decide) (by decide) (by decide) (by decide), q1⟩
  clear q1 k1 S R bd hY
  go_wp2_with fail
  refine (sort_any R1.out.2.2.fl (by have := HT.out.2; omega)).mono ?_
  rintro _ V2 ⟨rfl, o2, g2⟩
  obtain ⟨q2, k2⟩ := R1.out.2.2.flu0 g2 o2
  have d18 := q2.c18
  have R2 : Hid (RvAt V2 (w.heap.size + 1) 39 (trc zeroH (.slice none 0 0)) ∧ RvAt V2 (w.heap.size + 2) 52 #[.slice none 0 0, .slice none 0 0] ∧ LS w V2 L T.h a1 n c1 T.s.l vo vf T.s.o (T.s.f.mergeSort fun x y => decide (x ≤ y))) := ⟨k2 _ _ _ R1.out.1 (by decide) (by decide) (by decide) (by decide), k2 _ _ _ R1.out.2.1 (by decide) (by decide) (by decide) (by decide), q2⟩
  clear o2 g2 q2 k2 R1 c18
  go_wp2_with fail
  refine (comp_any R2.out.2.2.fl (by have := HT.out.2; rw [List.length_mergeSort]; omega)).mono ?_
  rintro _ V3 ⟨v', rfl, o3, g3⟩
  rw [noted_is] at o3
  obtain ⟨V4, s4, q4, k4⟩ := R2.out.2.2.flus g3 o3
  have R4 : Hid (RvAt V4 (w.heap.size + 1) 39 (trc zeroH (.slice none 0 0)) ∧ RvAt V4 (w.heap.size + 2) 52 #[.slice none 0 0, .slice none 0 0] ∧ LS w V4 L T.h a1 n c1 T.s.l vo v' T.s.o (noted T.s.f)) := ⟨k4 _ _ _ R2.out.1 (by decide) (by decide) (by decide) (by decide), k4 _ _ _ R2.out.2.1 (by decide) (by decide) (by decide) (by decide), q4⟩
  clear o3 g3 q4 k4 R2 d18
  go_upto_region 5 with fail
  clear s4
  obtain ⟨X9, hX⟩ : ∃ X0, World.drew V4 = X0 := ⟨_, rfl⟩
  have b9 : Below V4.heap.size V4 X9 := by rw [← hX]; exact (Below.refl _ _).drew
  have QU := R4.out.2.2.below b9
  have r9 := R4.out.1.below b9
  obtain ⟨U, sU, rU, gU⟩ := r9.tst (g := T.h) (y := .slice a1 n c1) rfl
  have dU := (R4.out.2.1.below b9).keptBut gU (by simp)
  have lU : RvAt U L 109 (ldc T.h (.slice a1 n c1) vo v') := QU.var.keptBut gU (by have := ne_type QU.var r9 (by decide); simpa using this)
  have sZ := dU.st (ds := #[vo, v']) rtD rfl rfl (by
    intro x hx
    simp only [List.mem_cons, List.not_mem_nil, or_false] at hx
    rcases hx with rfl | rfl
    · exact own_one QU.ou
    · exact own_one QU.fl)
  have gZ := grown_row U (w.heap.size + 2) #[vo, v']
  obtain ⟨Z, hZ⟩ : ∃ Z, U.setRow (w.heap.size + 2) #[vo, v'] = Z := ⟨_, rfl⟩
  rw [hZ] at sZ gZ
  have lZ := lU.keptBut gZ (by have := ne_type lU dU (by decide); simpa using this)
  have D : Hid (RvAt X9 L 109 (ldc T.h (.slice a1 n c1) vo v') ∧ RvAt U L 109 (ldc T.h (.slice a1 n c1) vo v') ∧ RvAt Z L 109 (ldc T.h (.slice a1 n c1) vo v')) := ⟨QU.var, lU, lZ⟩
  have F : Hid (RvAt Z (w.heap.size + 1) 39 (trc T.h (.slice a1 n c1)) ∧ RvAt Z (w.heap.size + 2) 52 #[vo, v'] ∧ SlAt Z a1 n c1 T.s.l ∧ Nw w a1 ∧ S16.Own eO Z w.heap.size vo T.s.o ∧ S16.Own eI Z w.heap.size v' (noted T.s.f) ∧ Below w.heap.size w Z) := by
    have o1 := QU.ou.keptBut gU (own_type QU.ou r9 (by decide))
    have o2 := QU.fl.keptBut gU (own_type QU.fl r9 (by decide))
    refine ⟨rU.keptBut gZ (by simp), by rw [← hZ]; exact dU.set, (QU.sl.keptT r9 gU).keptZ dU (by simp) gZ, QU.nw, o1.keptBut gZ (own_type o1 dU (by decide)), o2.keptBut gZ (own_type o2 dU (by decide)), gro (gro QU.bel gU (by omega) QU.bel.size) gZ (by omega) (Nat.le_trans QU.bel.size gU.size)⟩
  clear rU gU dU QU gZ hZ lU lZ r9 b9 R4
  refine wp_region_noPanic ?_
  refine wp_region_held_drew (S := fun w' => RvAt w' L 109 (ldc T.h (.slice a1 n c1) vo v')) (by kernel_rfl) (by rw [hX]; exact D.out.1) (fun hHeld => ?_)
  rw [hX] at hHeld ⊢
  clear hX
  refine wpAnyH_take (i := 0) (oi := q31_5_0) (v := ?_) rfl (by kernel_rfl) (by kernel_rfl) (by kernel_rfl) (fun _ _ _ h => h) (Or.inl ⟨by rfl, ?_⟩) hHeld ?_
  rotate_left
  · intro W_ hSw_
    have xt := ld_tree hSw_; have xd := ld_done hSw_; clear hSw_
    first | (go_simp; done) | (go_simp; with_reducible rfl)
  rotate_left
  refine wpAnyH_take (i := 1) (oi := q31_5_1) (v := ?_) rfl (by kernel_rfl) (by kernel_rfl) (by kernel_rfl) (fun _ _ _ h => h) (Or.inl ⟨by rfl, ?_⟩) hHeld ?_
  rotate_left
  · intro W_ hSw_
    have xt := ld_tree hSw_; have xd := ld_done hSw_; clear hSw_
    first | (go_simp; done) | (go_simp; with_reducible rfl)
  rotate_left
  refine wpAnyH_take (i := 2) (oi := q31_5_2) (v := ?_) rfl (by kernel_rfl) (by kernel_rfl) (by kernel_rfl) (fun _ _ _ h => h) (Or.inl ⟨by rfl, ?_⟩) hHeld ?_
  rotate_left
  · intro W_ hSw_
    have xt := ld_tree hSw_; have xd := ld_done hSw_; clear hSw_
    first | (go_simp; done) | (go_simp; with_reducible rfl)
  rotate_left
  refine wpAnyH_take (i := 3) (oi := q31_5_3) (v := ?_) rfl (by kernel_rfl) (by kernel_rfl) (by kernel_rfl) (fun _ _ _ h => h) (Or.inl ⟨by rfl, ?_⟩) hHeld ?_
  rotate_left
  · intro W_ hSw_
    have xt := ld_tree hSw_; have xd := ld_done hSw_; clear hSw_
    first | (go_simp; done) | (go_simp; with_reducible rfl)
  rotate_left
  refine wpAnyH_take (i := 4) (oi := q31_5_4) (v := ?_) rfl (by kernel_rfl) (by kernel_rfl) (by kernel_rfl) (fun _ _ _ h => h) (Or.inl ⟨by rfl, ?_⟩) hHeld ?_
  rotate_left
  · intro W_ hSw_
    have xt := ld_tree hSw_; have xd := ld_done hSw_; clear hSw_
    first | (go_simp; done) | (go_simp; with_reducible rfl)
  rotate_left
  refine wpAnyH_take (i := 5) (oi := q31_5_5) (v := ?_) rfl (by kernel_rfl) (by kernel_rfl) (by kernel_rfl) (fun _ _ _ h => h) (Or.inl ⟨by rfl, ?_⟩) hHeld ?_
  rotate_left
  · intro W_ hSw_
    have xt := ld_tree hSw_; have xd := ld_done hSw_; clear hSw_
    first | (go_simp; done) | (go_simp; with_reducible rfl)
  rotate_left
  refine wpAnyH_take (i := 6) (oi := q31_5_6) (v := ?_) rfl (by kernel_rfl) (by kernel_rfl) (by kernel_rfl) (fun _ _ _ h => h) (Or.inl ⟨by rfl, ?_⟩) hHeld ?_
  rotate_left
  · intro W_ hSw_
    have xt := ld_tree hSw_; have xd := ld_done hSw_; clear hSw_
    first | (go_simp; done) | (go_simp; with_reducible rfl)
  rotate_left
  refine wpAnyH_take (i := 7) (oi := q31_5_7) (v := ?_) rfl (by kernel_rfl) (by kernel_rfl) (by kernel_rfl) (fun _ _ _ h => h) (Or.inl ⟨by rfl, ?_⟩) hHeld ?_
  rotate_left
  · intro W_ hSw_
    have xt := ld_tree hSw_; have xd := ld_done hSw_; clear hSw_
    first | (go_simp; done) | (go_simp; with_reducible rfl)
  rotate_left
  try simp only [Act.put, List.setIfInBounds_toArray, List.set_cons_zero, List.set_cons_succ]
  refine wpAnyH_ready (rs := [8]) (by kernel_rfl) (by simp) ?_
  refine AllReadyH.cons (o := q31_5_8) rfl (fun K hK => ?_) AllReadyH.nil
  go_simp
  clear hHeld
  refine hK.out _ _ D.out.2.1 (fun hHeld => ?_)
  clear hK K
  try simp only [Act.put, List.setIfInBounds_toArray, List.set_cons_zero, List.set_cons_succ]
  refine wpAnyH_ready (rs := [9]) (by kernel_rfl) (by simp) ?_
  refine AllReadyH.cons (o := q31_5_9) rfl (fun K hK => ?_) AllReadyH.nil
  go_simp
  clear hHeld
  refine hK.out _ _ D.out.2.2 (fun hHeld => ?_)
  clear hK K
  try simp only [Act.put, List.setIfInBounds_toArray, List.set_cons_zero, List.set_cons_succ]
  refine wpAnyH_done (by kernel_rfl) ?_ _
  refine NoPanic.normal ?_
  clear hHeld
  clear sU sZ D
  go_wp2
  refine bodyPost_ret (results_td rtD Tryz.results31 _ _ _ _ _ _ _ _ rfl rfl F.out.1 F.out.2.1) rfl ?_
  exact ⟨a1, c1, vo, v', rfl, F.out.2.2⟩
end S17
end
section
namespace S17
open Go.RowKit
open S14 (gtP gtP_at set_self)
section
variable {w W V X : World} {h h' : Hd} {a a' : Option Addr} {n c c' : Nat} {l l' : List Pt} {vo vf vo' vf' : Value} {os os' : List Ot} {fs fs' : List Int}
theorem two_one {vo vf : Value} (h1 : vo.oneCell' = true) (h2 : vf.oneCell' = true) : ∀ v ∈ (#[vo, vf] : Array Value).toList, v.oneCell' = true := by
  intro x hx
  simp only [List.mem_cons, List.not_mem_nil, or_false] at hx
  rcases hx with rfl | rfl
  · exact h1
  · exact h2
end
theorem nilO (W : World) : isO W (.slice none 0 0) [] := ⟨none, 0, 0, rfl, S16.SlAt.none' W⟩
theorem nilI (W : World) : isI W (.slice none 0 0) [] := ⟨none, 0, 0, rfl, S16.SlAt.none' W⟩
attribute [local go_sem ↓] ldT stT ldEn stEn
end S17
end
section
namespace S17
open Go.RowKit
open S14 (gtP gtP_at set_self)

theorem ldO (x : Value) : Instr.loadAt 91 x = ldS 91 x := rfl
attribute [local go_sem ↓] ldO
structure DnAt (W : World) (v : Value) (os : List Ot) (fs : List Int) : Prop where
  out : ∃ vo vf, v = .agg #[vo, vf] ∧ isO W vo os ∧ isI W vf fs
theorem isO.len {W : World} {v : Value} {os : List Ot} (h : isO W v os) : ∃ a c, v = .slice a os.length c ∧ S16.SlAt eO W a os.length c os := by
  obtain ⟨a, n, c, rfl, s⟩ := h
  have e := s.len
  subst e
  exact ⟨a, c, rfl, s⟩
attribute [local go_sem ↓] ldDn ldEn
end S17
end
end Go.Proofs.YtlchejbggnbccaaGreat
