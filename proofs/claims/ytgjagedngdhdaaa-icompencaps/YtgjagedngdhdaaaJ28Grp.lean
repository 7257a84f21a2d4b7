/-
  Services' groups: walks of code and definition, each for every input. The walks of the methods that go over a type and the tags of a frame of the backbone. The walk of the bytes of a frame of the backbone: for every one.
-/
import Derived.Test.YtgjagedngdhdaaaJ14Ib
import Derived.Test.YtgjagedngdhdaaaJ24XBInside
import Derived.Test.YtgjagedngdhdaaaJ23Rd
namespace Go.Proofs.Ytgjagedngdhdaaa

section
set_option linter.unusedVariables false
set_option maxRecDepth 4000
set_option linter.unusedSimpArgs false
open Go.RowKit

set_option maxHeartbeats 400000 in
theorem rfrom_any (n : Int) (w : World) (hn : 0 ≤ n ∧ n ≤ 18446744073709551615) :
    Calls Try.prog 69 #[.int .u64 n] w fun r w' => r = .returned (.agg #[.int .u8 (n / 1099511627776 % 256), .int .u8 (n / 4294967296 % 256), .int .u8 (n / 16777216 % 256), .int .u8 (n / 65536 % 256), .int .u8 (n / 256 % 256), .int .u8 (n % 256)]) ∧ Below w.heap.size w w' := by
  go_enter Try.func69, Try.ntmps69
  go_wp2
  go_rounds 7
  go_returns
  refine ⟨ret_agg6 ?_ ?_ ?_ ?_ rfl rfl, by go_grown⟩
  all_goals omega
set_option maxHeartbeats 400000 in
theorem from_any (n : Int) (w : World) (hn : 0 ≤ n ∧ n ≤ 18446744073709551615) :
    Calls Try.prog 68 #[.int .u64 n] w fun r w' => r = .returned (.agg #[.int .u8 (n / 1099511627776 % 256), .int .u8 (n / 4294967296 % 256), .int .u8 (n / 16777216 % 256), .int .u8 (n / 65536 % 256), .int .u8 (n / 256 % 256), .int .u8 (n % 256)]) ∧ Below w.heap.size w w' := by
  go_enter Try.func68, Try.ntmps68
  go_wp2
  go_rounds 7
  go_returns
  exact ⟨rfl, by go_grown⟩
theorem from_any_g (n : Int) (w : World) (h : 1 ≤ n ∧ n ≤ 16777215) :
    Calls Try.prog 68 #[.int .u64 (1230558461952 + n)] w fun r w' => r = .returned (.agg #[.int .u8 1, .int .u8 30, .int .u8 131, .int .u8 (n / 65536), .int .u8 (n / 256 % 256), .int .u8 (n % 256)]) ∧ Below w.heap.size w w' := by
  refine (from_any (1230558461952 + n) w (by omega)).mono fun r w' ⟨hr, hb⟩ => ⟨hr.trans (ret_agg6 ?_ ?_ ?_ ?_ ?_ ?_), hb⟩
  all_goals omega
set_option maxHeartbeats 400000 in
theorem mgroup_any (n : Int) (w : World) :
    Calls Try.prog 37 #[.int .i64 n] w fun r w' => r = .returned (.tuple #[.agg (mc (grM n)), .int .i64 (grE n)]) ∧ Below w.heap.size w w' := by
  by_cases h : 1 ≤ n ∧ n ≤ 16777215
  · have e : Hid (grM n = ⟨1, 30, 131, n / 65536, n / 256 % 256, n % 256⟩ ∧ grE n = 0) := ⟨grM_yes h, if_pos h⟩
    have hx := @Later.cell
    have hy := @Later.frozen
    go_enter Try.func37, Try.ntmps37
    go_wp2_with (go_at_call 68; refine Calls.on_later (from_any_g _ _ h) ?_; intro x)
    have hbx := below_later (w := w) (by go_grown) x
    rw [e.out.1, e.out.2]
    refine bodyPost_ret (v := .tuple #[.agg #[.int .u8 1, .int .u8 30, .int .u8 131, .int .u8 (n / 65536), .int .u8 (n / 256 % 256), .int .u8 (n % 256)], .int .i64 0]) (by simp [results, Try.results37, go_sem, hx]) rfl ⟨rfl, by go_grown⟩
  · have e : Hid (grM n = zM ∧ grE n = 1) := ⟨if_neg h, if_neg h⟩
    by_cases h1 : n < 1
    · clear h
      go_enter Try.func37, Try.ntmps37
      go_wp2
      go_returns
      exact ⟨by rw [e.out.1, e.out.2]; exact rfl, by go_grown⟩
    · have h2 : 16777215 < n := by omega
      clear h
      go_enter Try.func37, Try.ntmps37
      go_wp2
      go_returns
      exact ⟨by rw [e.out.1, e.out.2]; exact rfl, by go_grown⟩
theorem rfrom_any_g (n : Int) (w : World) (h : 1 ≤ n ∧ n ≤ 16777215) :
    Calls Try.prog 69 #[.int .u64 (1230558461952 + n)] w fun r w' => r = .returned (.agg #[.int .u8 1, .int .u8 30, .int .u8 131, .int .u8 (n / 65536), .int .u8 (n / 256 % 256), .int .u8 (n % 256)]) ∧ Below w.heap.size w w' := by
  refine (rfrom_any (1230558461952 + n) w (by omega)).mono fun r w' ⟨hr, hb⟩ => ⟨hr.trans (ret_agg6 ?_ ?_ ?_ ?_ ?_ ?_), hb⟩
  all_goals omega
set_option maxHeartbeats 400000 in
theorem rmgroup_any (n : Int) (w : World) :
    Calls Try.prog 38 #[.int .i64 n] w fun r w' => r = .returned (.tuple #[.agg (mc (grM n)), .int .i64 (grE n)]) ∧ Below w.heap.size w w' := by
  by_cases h : 1 ≤ n ∧ n ≤ 16777215
  · have e : Hid (grM n = ⟨1, 30, 131, n / 65536, n / 256 % 256, n % 256⟩ ∧ grE n = 0) := ⟨grM_yes h, if_pos h⟩
    have hx := @Later.cell
    have hy := @Later.frozen
    go_enter Try.func38, Try.ntmps38
    go_wp2_with (go_at_call 69; refine Calls.on_later (rfrom_any_g _ _ h) ?_; intro x)
    have hbx := below_later (w := w) (by go_grown) x
    rw [e.out.1, e.out.2]
    refine bodyPost_ret (v := .tuple #[.agg #[.int .u8 1, .int .u8 30, .int .u8 131, .int .u8 (n / 65536), .int .u8 (n / 256 % 256), .int .u8 (n % 256)], .int .i64 0]) (by simp [results, Try.results38, go_sem, hx]) rfl ⟨rfl, by go_grown⟩
  · have e : Hid (grM n = zM ∧ grE n = 1) := ⟨if_neg h, if_neg h⟩
    by_cases h1 : n < 1
    · clear h
      go_enter Try.func38, Try.ntmps38
      go_wp2
      go_returns
      exact ⟨by rw [e.out.1, e.out.2]; exact rfl, by go_grown⟩
    · have h2 : 16777215 < n := by omega
      clear h
      go_enter Try.func38, Try.ntmps38
      go_wp2
      go_returns
      exact ⟨by rw [e.out.1, e.out.2]; exact rfl, by go_grown⟩
attribute [local go_sem ↓] ldMc stMc
set_option maxHeartbeats 1000000 in
theorem group_any (n : Int) (w : World) : Calls Try.prog 15 #[.int .i64 n] w fun r w' => r = .returned (.agg (mc (grM n))) ∧ Below w.heap.size w w' := by
  obtain ⟨V, hV, m0, bV, zV⟩ := McAt.zero w
  have H : Hid (McAt V w.heap.size zM ∧ Below w.heap.size w V) := ⟨m0, bV⟩
  clear bV zV m0
  obtain ⟨G, hG⟩ : ∃ z, grM n = z := ⟨_, rfl⟩
  obtain ⟨E, hE⟩ : ∃ z, grE n = z := ⟨_, rfl⟩
  have C : Hid (Calls Try.prog 37 #[.int .i64 n] V fun r w' => r = .returned (.tuple #[.agg (mc G), .int .i64 E]) ∧ Below V.heap.size V w') := by rw [← hG, ← hE]; exact mgroup_any n V
  rw [hG]
  clear hG hE
  go_enter Try.func15, Try.ntmps15
  go_wp2_with fail
  refine C.out.mono ?_
  rintro _ X ⟨rfl, hX⟩
  obtain ⟨Y, sY, mY, bY⟩ := McAt.put X G
  have lY := mY.ld
  obtain ⟨Z, sZ, mZ, gZ⟩ := (H.out.1.below (below_over hX bY)).st G
  have K : Hid (McAt Z w.heap.size G ∧ Below w.heap.size w Z) := ⟨mZ, gro (below_over H.out.2 (below_over hX bY)) gZ (Nat.le_refl _) (below_over H.out.2 (below_over hX bY)).size⟩
  clear hX mY bY mZ gZ
  go_wp2
  refine bodyPost_ret (results_row rtMc Try.results15 _ _ _ _ rfl K.out.1 rfl) rfl ?_
  exact ⟨rfl, K.out.2⟩
set_option maxHeartbeats 1000000 in
theorem rgroup_any (n : Int) (w : World) : Calls Try.prog 16 #[.int .i64 n] w fun r w' => r = .returned (.agg (mc (grM n))) ∧ Below w.heap.size w w' := by
  obtain ⟨V, hV, m0, bV, zV⟩ := McAt.zero w
  have H : Hid (McAt V w.heap.size zM ∧ Below w.heap.size w V) := ⟨m0, bV⟩
  have ER : Hid (grE n = if 1 ≤ n ∧ n ≤ 16777215 then 0 else 1) := rfl
  have EM : Hid (grM n = if 1 ≤ n ∧ n ≤ 16777215 then ⟨1, 30, 131, n / 65536, n / 256 % 256, n % 256⟩ else zM) := rfl
  clear bV zV m0
  obtain ⟨G, hG⟩ : ∃ z, grM n = z := ⟨_, rfl⟩
  obtain ⟨E, hE⟩ : ∃ z, grE n = z := ⟨_, rfl⟩
  have C : Hid (Calls Try.prog 38 #[.int .i64 n] V fun r w' => r = .returned (.tuple #[.agg (mc G), .int .i64 E]) ∧ Below V.heap.size V w') := by rw [← hG, ← hE]; exact rmgroup_any n V
  rw [hG] at EM
  rw [hE] at ER
  rw [hG]
  clear hG hE
  go_enter Try.func16, Try.ntmps16
  go_wp2_with fail
  refine C.out.mono ?_
  rintro _ X ⟨rfl, hX⟩
  obtain ⟨Y, sY, mY, bY⟩ := McAt.put X G
  have lY := mY.ld
  have HY : Hid (Below w.heap.size w Y ∧ McAt Y w.heap.size zM) := ⟨below_over H.out.2 (below_over hX bY), H.out.1.below (below_over hX bY)⟩
  clear hX mY bY
  by_cases he : 1 ≤ n ∧ n ≤ 16777215
  · obtain rfl : E = 0 := by rw [ER.out, if_pos he]
    obtain ⟨Z, sZ, mZ, gZ⟩ := HY.out.2.st G
    have K : Hid (McAt Z w.heap.size G ∧ Below w.heap.size w Z) := ⟨mZ, gro HY.out.1 gZ (Nat.le_refl _) HY.out.1.size⟩
    clear mZ gZ he
    go_wp2
    refine bodyPost_ret (results_row rtMc Try.results16 _ _ _ _ rfl K.out.1 rfl) rfl ?_
    exact ⟨rfl, K.out.2⟩
  · obtain rfl : E = 1 := by rw [ER.out, if_neg he]
    obtain rfl : G = zM := by rw [EM.out, if_neg he]
    obtain ⟨Z, sZ, mZ, gZ⟩ := HY.out.2.st zM
    have K : Hid (McAt Z w.heap.size zM ∧ Below w.heap.size w Z) := ⟨mZ, gro HY.out.1 gZ (Nat.le_refl _) HY.out.1.size⟩
    rw [← mz_agg] at sZ
    clear mZ gZ he
    go_wp2
    refine bodyPost_ret (results_row rtMc Try.results16 _ _ _ _ rfl K.out.1 rfl) rfl ?_
    exact ⟨rfl, K.out.2⟩
end

section
namespace S4
set_option linter.unusedVariables false
set_option maxRecDepth 4000
set_option linter.unusedSimpArgs false
open Go.RowKit

attribute [local go_sem ↓] slS_eq ldS_MAC ldS_Tag ldI27 ldS_BFrame stS_BFrame stS_MAC stS_Tag stI27

theorem two_len {l : List Int} {k : Nat} (h : k < l.length) : (l.take k).length = k := by simp; omega

end S4
end

section
namespace S4
set_option linter.unusedVariables false
set_option maxRecDepth 4000
set_option linter.unusedSimpArgs false
open Go.RowKit

/-- What stands between the addresses and the rest. -/
def btL (f : Bf) : List Int := 136 :: 168 :: (tagL f.p f.e f.v ++ 136 :: 231 :: f.il)
/-- The bytes of such a frame. -/
def bencL (f : Bf) (l : List Int) : List Int := f.d.l ++ f.s.l ++ btL f ++ l
/-- The bytes that are told. -/
def bencO (f : Bf) (l : List Int) : List Int := if chkB f l = 0 then bencL f l else []
theorem btL_len (f : Bf) : (btL f).length = 22 := rfl
theorem il_len (f : Bf) : f.il.length = 16 := rfl

theorem bparts_one (W : World) (v0 : Value) (l0 : List Int) (h0 : Src W v0 l0) (k0 : l0.length ≤ 2000) : Parts (W.alloc (.cells #[v0] 30)) W.heap.size 1 (fun _ => v0) (fun _ => l0) := by
  intro j hj
  have hb : Below W.heap.size W (W.alloc (.cells #[v0] 30)) := (Below.refl _ _).alloc (Nat.le_refl _) _
  have hc := alloc_at W (.cells #[v0] 30)
  have hj' : j = 0 := by omega
  subst hj'
  exact ⟨cell_at hc 0 _ rfl, h0.below hb, k0⟩
theorem parts_two (W : World) (v0 v1 : Value) (l0 l1 : List Int) (h0 : Src W v0 l0) (h1 : Src W v1 l1) (k0 : l0.length ≤ 2000) (k1 : l1.length ≤ 2000) : Parts (W.alloc (.cells #[v0, v1] 30)) W.heap.size 2 (fun j => if j = 0 then v0 else v1) (fun j => if j = 0 then l0 else l1) := by
  intro j hj
  have hb : Below W.heap.size W (W.alloc (.cells #[v0, v1] 30)) := (Below.refl _ _).alloc (Nat.le_refl _) _
  have hc := alloc_at W (.cells #[v0, v1] 30)
  have hj' : j = 0 ∨ j = 1 := by omega
  rcases hj' with rfl | rfl
  · exact ⟨cell_at hc 0 _ rfl, h0.below hb, k0⟩
  · exact ⟨cell_at hc 1 _ rfl, h1.below hb, k1⟩

attribute [local go_sem ↓] slS_eq ldS_MAC ldS_Tag ldI27 ldS_BFrame ldS_Frame stS_Frame stS_BFrame nqS_eq eqS_eq

theorem bchk_zero {f : Bf} {l : List Int} (h : chkB f l = 0) : l.length ≤ 1502 ∧ tagOk f.p f.v = true ∧ itagOk f.q f.i = true ∧ f.i ≠ 0 ∧ chkF f.inn l = 0 ∧ f.s.kd = 1 ∧ f.d.kd ≠ 6 := by
  unfold chkB at h
  by_cases h1 : 1502 < l.length
  · rw [if_pos h1] at h; omega
  · rw [if_neg h1] at h
    cases hb : badB f l
    · unfold badB at hb
      simp only [Bool.or_eq_false_iff, Bool.not_eq_false'] at hb
      obtain ⟨b1, b2, b3, b4, b5, b6⟩ := hb
      exact ⟨by omega, b3, b4, by simpa using b5, by simpa using b6, by simpa using b1, by simpa using b2⟩
    · rw [hb] at h; simp at h

end S4
end

end Go.Proofs.Ytgjagedngdhdaaa
