/-
  The walks of taking a type, and of a tag with another VLAN, for every input. A type ahead of any bytes, whatever it is. A tag held against itself.
-/
import Derived.Test.YtgjagedngdhdaaaJ11XWhole
import Derived.Test.YtgjagedngdhdaaaJ08XBytes
namespace Go.Proofs.Ytgjagedngdhdaaa

section
namespace S4
set_option linter.unusedVariables false
set_option linter.unusedSimpArgs false
open Go.RowKit

/-- What taking a type answers. -/
def tyE (l : List Int) : Int := if l.length < 2 then 6 else 0
def tyN (l : List Int) : Int := if l.length < 2 then 0 else tkN l
def tyR (l : List Int) : List Int := if l.length < 2 then [] else l.drop 2
def TyOut (w : World) (l : List Int) (r : Ending) (w' : World) : Prop :=
  ∃ s, r = .returned (.tuple #[.int .i64 (tyN l), s, .int .i64 (tyE l)]) ∧ Own w' w.heap.size s (tyR l) ∧ Below w.heap.size w w'

theorem ty_out_short {w w' : World} {l : List Int} (h : l.length < 2) (hb : Below w.heap.size w w') : TyOut w l (.returned (.tuple #[.int .i64 0, .slice none 0 0, .int .i64 6])) w' := by
  refine ⟨.slice none 0 0, ?_, ?_, hb⟩
  · unfold tyN tyE
    rw [if_pos h, if_pos h]
  · unfold tyR
    rw [if_pos h]
    exact own_nil _ _

theorem ty_out_long {w w' : World} {l : List Int} {s : Value} (N : Int) (h : ¬ l.length < 2) (hN : tkN l = N) (ho : Own w' w.heap.size s (l.drop 2)) (hb : Below w.heap.size w w') : TyOut w l (.returned (.tuple #[.int .i64 N, s, .int .i64 0])) w' := by
  refine ⟨s, ?_, ?_, hb⟩
  · unfold tyN tyE
    rw [if_neg h, if_neg h, hN]
  · unfold tyR
    rw [if_neg h]
    exact ho

attribute [local go_sem ↓] slS_eq

set_option maxHeartbeats 400000 in
theorem ttype_short (a : Option Addr) (n c : Nat) (l : List Int) (w : World) (h : Src w (.slice a n c) l) (hs : l.length < 2) :
    Calls Try.prog 90 #[.slice a n c] w fun r w' => TyOut w l r w' := by
  obtain ⟨hn, hc, hm⟩ := src_short h
  clear h
  have hn3 : (n : Int) < 2 := by omega
  have hs' : Hid (l.length < 2) := hs
  clear hn hs
  go_enter Try.func90, Try.ntmps90
  go_wp2
  go_returns
  exact ty_out_short hs'.out (Below.refl _ _)

theorem RdSt.later {w W W' : World} {b o L c x g n N k : Nat} (h : RdSt w W b o L c x g n N k) (hn : 0 < n) (hb : Below W.heap.size W W') : RdSt w W' b o L c x g n N k :=
  ⟨fun j hj => (hb.cell (p := ⟨b, o + j, none⟩) (World.block_lt_of_cell? _ _ (h.row j hj))).trans (h.row j hj), (hb.cell (p := ⟨x, 0, none⟩) (World.block_lt_of_cell? _ _ h.box)).trans h.box,
    (hb.block g (lt_of_block h.at_)).trans h.at_, h.below.trans (hb.mono h.below.size), h.bg, h.xg, h.hg⟩

set_option maxHeartbeats 800000 in
theorem ttype_long (b o n c N : Nat) (l : List Int) (w : World) (h : Src w (.slice (some ⟨b, o, none⟩) n c) l) (h2 : ¬ l.length < 2) (hl : l.length ≤ 2000) (hrow : ∀ j, j < 2 → w.cell? ⟨b, o + j, none⟩ = some (.int .u8 (byN 2 N j))) (hN : tkN l = (rN 2 N 0 16 : Nat)) :
    Calls Try.prog 90 #[.slice (some ⟨b, o, none⟩) n c] w fun r w' => TyOut w l r w' := by
  obtain ⟨hn, hc, hm⟩ := src_short h
  have hbw : b < w.heap.size := (by obtain ⟨b', o', e, h5, _⟩ := src_some h (by omega); cases e; exact h5)
  have hn2 : 2 ≤ n := by omega
  have hn4 : n ≤ 2000 := by omega
  have hn3 : ¬ (n : Int) < 2 := by omega
  have st : Hid (RdSt w ((w.alloc (.cells #[.slice (some ⟨b, o, none⟩) n c] 30)).alloc (.cells #[.int .i64 0] 3)) b o n c w.heap.size (w.heap.size + 1) 2 N 0) := RdSt.start w w b o n c 2 N (Below.refl _ _) hbw hrow
  have hH : Hid (Src w (.slice (some ⟨b, o, none⟩) n c) l) := h
  have hlD : (l.drop 2).length ≤ 2000 := by simp; omega
  have hN' : Hid (tkN l = (rN 2 N 0 16 : Nat) ∧ ¬ l.length < 2) := ⟨hN, h2⟩
  have hsl : ∀ W, (slS (.slice (some ⟨b, o, none⟩) n c) (some (.int .i64 2)) none none).run Try.prog W = .ok (dropV b o n c 2) W := fun W => slS_drop b o n c 2 hn2 hc hm W
  have hD : Hid (∀ W, Below w.heap.size w W → Src W (dropV b o n c 2) (l.drop 2)) := fun W hW => (src_dropV hH.out 2 hn2).below hW
  clear h hn hrow h2 hl hN
  go_enter Try.func90, Try.ntmps90
  go_wp2_with fail
  refine (readers_any _ _ _ _).mono ?_
  rintro _ _ ⟨rfl, rfl⟩
  obtain ⟨W3, hW3⟩ : ∃ W3, (w.alloc (.cells #[.slice (some ⟨b, o, none⟩) n c] 30)).alloc (.cells #[.int .i64 0] 3) = W3 := ⟨_, rfl⟩
  rw [hW3] at st ⊢
  have h3 : w.heap.size + 2 = W3.heap.size := by rw [← hW3]; simp
  have B3 : Hid (Below w.heap.size w W3) := st.out.below
  clear hW3
  go_wp2
  go_region_with ((first | (go_at_call 113; refine Calls.on_read ((st.out.later (by omega) (by first | exact (Below.refl _ _).drew | exact (Below.refl _ _).drew.trans hb7)).read 16 hn2 hn4 (by omega) (by omega) (by omega)) ?_; intro z9 hz9) | (go_at_call 66; refine (clone_v _ (l.drop 2) _ (hD.out _ (by first | exact (B3.out.drew) | exact B3.out.drew.trans (z9.below _ (by omega)))) hlD).mono ?_; rintro _ w7 ⟨s7, rfl, ho7, hb7⟩)))
  have zs := z9.size
  have zs' : z9.val.heap.size = W3.heap.size := zs
  have B7 : Hid (Below w.heap.size w w7) := (B3.out.drew.trans (z9.below _ (by omega))).trans (hb7.mono (by omega))
  have O7 : Hid (Own w7 w.heap.size s7 (l.drop 2)) := ho7.base (by omega)
  clear ho7 hb7 zs zs' hz9 st
  go_wp2
  go_returns
  exact ty_out_long _ hN'.out.2 hN'.out.1 O7.out B7.out

theorem ttype_any (a : Option Addr) (n c : Nat) (l : List Int) (w : World) (h : Src w (.slice a n c) l) (hl : l.length ≤ 2000) (hb : ∀ x ∈ l, 0 ≤ x ∧ x ≤ 255) :
    Calls Try.prog 90 #[.slice a n c] w fun r w' => TyOut w l r w' := by
  by_cases h2 : l.length < 2
  · exact ttype_short a n c l w h h2
  · obtain ⟨b, o, rfl, _, hj⟩ := src_some h (by omega)
    obtain ⟨N, hN, hN2, hby⟩ := two_bytes (by omega) hb
    refine ttype_long b o n c N l w h h2 hl (fun j hj2 => by rw [hj j (by omega), hby j hj2]) ?_
    rw [hN]
    unfold rN
    simp
    omega

/-- The answer of a tag with another VLAN. -/
def carOk (p v x : Int) : Bool := tagOk p v && tagOk p x

def carP (p v x : Int) : Int := if carOk p v x then p else 0
def carD (d : Bool) (p v x : Int) : Bool := if carOk p v x then d else false
def carV (p v x : Int) : Int := if carOk p v x then x else 0

theorem car_yes {p v x : Int} {d : Bool} {w w' : World} (h : 0 ≤ p ∧ p ≤ 7 ∧ 1 ≤ v ∧ v ≤ 4094 ∧ 1 ≤ x ∧ x ≤ 4094) (hb : Below w.heap.size w w') :
    Ending.returned (.tuple #[.agg #[.int .i64 p, .bool d, .int .i64 x], .int .i64 0]) = .returned (.tuple #[.agg #[.int .i64 (carP p v x), .bool (carD d p v x), .int .i64 (carV p v x)], .int .i64 (chk (carOk p v x))]) ∧ Below w.heap.size w w' := by
  have hk : carOk p v x = true := by unfold carOk; rw [tagOk_iff.2 (by omega), tagOk_iff.2 (by omega)]; rfl
  refine ⟨?_, hb⟩
  unfold carP carD carV
  rw [hk]
  rfl

theorem car_no {p v x : Int} {d : Bool} {w w' : World} (h : ¬ (0 ≤ p ∧ p ≤ 7 ∧ 1 ≤ v ∧ v ≤ 4094 ∧ 1 ≤ x ∧ x ≤ 4094)) (hb : Below w.heap.size w w') :
    Ending.returned (.tuple #[.agg #[.int .i64 0, .bool false, .int .i64 0], .int .i64 20]) = .returned (.tuple #[.agg #[.int .i64 (carP p v x), .bool (carD d p v x), .int .i64 (carV p v x)], .int .i64 (chk (carOk p v x))]) ∧ Below w.heap.size w w' := by
  have hk : carOk p v x = false := by
    cases hk : carOk p v x
    · rfl
    · unfold carOk at hk
      simp only [Bool.and_eq_true] at hk
      have h1 := tagOk_iff.1 hk.1
      have h2 := tagOk_iff.1 hk.2
      omega
  refine ⟨?_, hb⟩
  unfold carP carD carV
  rw [hk]
  rfl

end S4
end

section
namespace S4
set_option linter.unusedVariables false
open Go.RowKit

/-- The bytes that are told of a type and its parts. -/
def ptE (n : Int) : Int := if 0 ≤ n ∧ n ≤ 65535 then 0 else 1
def ptL (n : Int) (lf : Nat → List Int) (k : Nat) : List Int := if 0 ≤ n ∧ n ≤ 65535 then joined (typeL n) lf k else []

theorem ptype_any (n : Int) (pb k c : Nat) (vf : Nat → Value) (lf : Nat → List Int) (w : World) (hk : k ≤ 2) (hkc : k ≤ c) (hP : Parts w pb k vf lf) :
    Calls Try.prog 115 #[.int .i64 n, .slice (some ⟨pb, 0, none⟩) k c] w fun r w' => ∃ s, r = .returned (.tuple #[s, .int .i64 (ptE n)]) ∧ Own w' w.heap.size s (ptL n lf k) ∧ Below w.heap.size w w' := by
  unfold ptE ptL
  by_cases h : 0 ≤ n ∧ n ≤ 65535
  · rw [if_pos h, if_pos h]
    exact ptype_yes n pb k c vf lf w h hk hkc hP
  · rw [if_neg h, if_neg h]
    exact (ptype_no n _ w (by omega)).mono fun r w' ⟨hr, hb⟩ => ⟨_, hr, own_nil _ _, hb⟩

end S4
end

section
namespace S4
set_option linter.unusedVariables false
set_option linter.unusedSimpArgs false
open Go.RowKit

theorem eq25_self (n : Nat) (a b c d e f : Int) (w : World) :
    (Op.equalIn (n + 2) 23 (.agg #[.int .u8 a, .int .u8 b, .int .u8 c, .int .u8 d, .int .u8 e, .int .u8 f]) (.agg #[.int .u8 a, .int .u8 b, .int .u8 c, .int .u8 d, .int .u8 e, .int .u8 f])).run Try.prog w = .ok true w := by
  have u5 := Try.underlying5
  have a5 := Try.isAgg5
  have z5 := Try.sizeOf5
  rw [Op.equalIn]
  simp only [Sem.run_bind, run_underlying Try.underlying23, Result.andThen_ok]
  simp only [Std.Legacy.Range.forIn_eq_forIn_range', Std.Legacy.Range.size, Nat.sub_zero, Nat.add_sub_cancel, Nat.div_one, List.range'_succ, List.range'_zero, List.forIn_cons, List.forIn_nil]
  go_simp

theorem eq27_self (p : Int) (d u : Bool) (i : Int) (a0 a1 a2 a3 a4 a5 s0 s1 s2 s3 s4 s5 : Int) (w : World) : (binOp .eql 47 (.agg #[.int .i64 p, .bool d, .bool u, .int .i64 i, .int .u8 a0, .int .u8 a1, .int .u8 a2, .int .u8 a3, .int .u8 a4, .int .u8 a5, .int .u8 s0, .int .u8 s1, .int .u8 s2, .int .u8 s3, .int .u8 s4, .int .u8 s5]) (.agg #[.int .i64 p, .bool d, .bool u, .int .i64 i, .int .u8 a0, .int .u8 a1, .int .u8 a2, .int .u8 a3, .int .u8 a4, .int .u8 a5, .int .u8 s0, .int .u8 s1, .int .u8 s2, .int .u8 s3, .int .u8 s4, .int .u8 s5])).run Try.prog w = .ok (.bool true) w := by
  have h := eq25_self 9997
  go_simp

theorem eq23_self (p : Int) (d : Bool) (v : Int) (w : World) : (binOp .eql 32 (.agg #[.int .i64 p, .bool d, .int .i64 v]) (.agg #[.int .i64 p, .bool d, .int .i64 v])).run Try.prog w = .ok (.bool true) w := by
  go_simp
end S4
end

end Go.Proofs.Ytgjagedngdhdaaa
