/-
  Where a frame goes: the walks of Out and of its closure, for every input.
-/
import Derived.Test.YtcejfkkhmlebdaaCod
import Derived.Deep.Cut
import Derived.Deep.CutRange
namespace Go.Proofs.Ytcejfkkhmlebdaa
set_option linter.unusedVariables false
set_option maxRecDepth 4000
set_option linter.unusedSimpArgs false
open Go.RowKit
attribute [local go_sem ↓] ldM stM ldC stC ldB stB ldP stP apI bsI ldO ldF stF ldG stG bdG eqgO neqO eqlO
attribute [local go_sem] bsI_is bdG_is bdG_z fdG0 fdG1

/-! ### a slice of zeros, made; a variable of one cell -/
def mkS (t : TypeId) (x y : Value) : Sem Value := Instr.makeSlice t x y
theorem full_new {α : Type} {e : El α} (k : e.Ok) (z : α) (zv : Value) (hz : (Try.prog.info? e.ty).map (fun i => (i.zero, i.size, i.bytes)) = some (some zv, e.K, e.B)) (hc : zv.cells = e.f z) (n : Nat) (hn : n ≤ 1000) (w : World) :
    ∃ V, (mkS e.st (.int .i64 (n : Int)) (.int .i64 (n : Int))).run Try.prog w = .ok (.slice (some ⟨w.heap.size, 0, none⟩) n n) V ∧ PAt e V w.heap.size n (List.replicate n z) ∧ Below w.heap.size w V ∧ V.heap.size = w.heap.size + 1 := by
  obtain ⟨i0, hi, hz0, hz1, hz2⟩ := info_parts hz
  have hby := k.byt
  have hp := k.pos
  have hm1 : n * i0.bytes ≤ 1000 * 1000 := by rw [hz2]; exact Nat.mul_le_mul hn hby
  have hm3 : ((n * i0.bytes : Nat) : Int) ≤ ((1000 * 1000 : Nat) : Int) := Int.ofNat_le.2 hm1
  rw [Int.natCast_mul, Int.mul_comm] at hm3
  have hr := run_make (P := Try.prog) w e.st e.ty i0 zv k.slc hi hz0 .i64 .i64 (n : Int) (n : Int) (by omega) (by omega) (by omega) (by omega)
  rw [hz1] at hr
  simp only [Int.toNat_natCast] at hr
  refine ⟨_, hr, ⟨_, RvAt.new w _ _, by rw [List.length_replicate]; exact Nat.le_refl _, by unfold maxLen; omega, by rw [size_madeCells], ?_⟩, (Below.refl _ _).alloc (Nat.le_refl _) _, by simp⟩
  have hl : (madeCells zv.cells (n * e.K)).toList.length = n * e.K := by rw [Array.length_toList, size_madeCells]
  refine fl_is k (by rw [List.length_replicate, hl]; exact Nat.le_refl _) fun t ht => ?_
  rw [List.length_replicate] at ht
  have hd : t / e.K < n := Nat.div_lt_of_lt_mul (by rw [Nat.mul_comm]; exact ht)
  rw [List.getElem?_replicate, if_pos hd]
  simp only [Option.bind_some]
  unfold madeCells
  rw [Array.getElem?_toList, Array.getElem?_map, Array.getElem?_range, if_pos ht, hc, Array.getElem?_toList]
  have hs : (e.f z).size = e.K := k.size z
  have hlt : t % e.K < (e.f z).size := by rw [hs]; exact Nat.mod_lt _ hp
  simp only [Option.map_some]
  rw [hs, Array.getElem?_eq_getElem hlt, getElem!_pos (e.f z) _ hlt]
theorem mkL (x y : Value) : Instr.makeSlice 85 x y = mkS 85 x y := rfl
theorem stLs (x y : Value) : Instr.storeAt 85 x y = stS 85 x y := rfl
theorem infoLs : (Try.prog.info? 85).map (·.size) = some 1 := by kernel_rfl
theorem one_put (W : World) (ty : TypeId) (z v : Value) (hi : (Try.prog.info? ty).map (·.size) = some 1) (hv : v.oneCell' = true) :
    ∃ V, (stS ty (.pointer (some ⟨W.heap.size, 0, none⟩)) v).run Try.prog (W.alloc (.cells #[z] ty)) = .ok () V ∧ RvAt V W.heap.size ty #[v] ∧ Below W.heap.size W V ∧ V.heap.size = W.heap.size + 1 := by
  have h : RvAt (W.alloc (.cells #[z] ty)) W.heap.size ty #[z] := RvAt.new W _ _
  have hs := h.st1 (k := 0) (tv := ty) (v := v) hi (by show 0 < 1; omega) hv
  exact ⟨_, hs, RvAt.set h, below_setRow ((Below.refl _ _).alloc (Nat.le_refl _) _) (Nat.le_refl _) _, by simp⟩
theorem made_L (n : Nat) (hn : n ≤ 1000) (w : World) : ∃ V, (mkS 85 (.int .i64 (n : Int)) (.int .i64 (n : Int))).run Try.prog w = .ok (.slice (some ⟨w.heap.size, 0, none⟩) n n) V ∧ PAt eL V w.heap.size n (List.replicate n false) ∧ Below w.heap.size w V ∧ V.heap.size = w.heap.size + 1 :=
  full_new kL false (.bool false) (by kernel_rfl) rfl n hn w
/-! ### which ports it has gone to -/
def gnL (n : Nat) (acc : List Int) : List Bool := (List.range n).map (fun i : Nat => acc.any (· == (i : Int)))
theorem gnL_len (n : Nat) (acc : List Int) : (gnL n acc).length = n := by simp [gnL]
theorem gnL_at {n : Nat} (acc : List Int) {i : Nat} (h : i < n) : (gnL n acc)[i]? = some (acc.any (· == (i : Int))) := by
  unfold gnL
  rw [List.getElem?_map, List.getElem?_range h]
  rfl
theorem gnL_nil (n : Nat) : gnL n [] = List.replicate n false := by
  refine List.ext_getElem? fun i => ?_
  by_cases h : i < n
  · rw [gnL_at [] h, List.getElem?_replicate, if_pos h]
    rfl
  · rw [List.getElem?_eq_none (by rw [gnL_len]; omega), List.getElem?_eq_none (by rw [List.length_replicate]; omega)]
theorem gnL_set {n : Nat} (acc : List Int) {i : Nat} (h : i < n) : (gnL n acc).set i true = gnL n (acc ++ [(i : Int)]) := by
  refine List.ext_getElem? fun j => ?_
  by_cases hj : j < n
  · rw [gnL_at _ hj, List.getElem?_set]
    by_cases e : i = j
    · subst e
      rw [if_pos rfl, if_pos (by rw [gnL_len]; exact h)]
      simp
    · rw [if_neg e, gnL_at _ hj, List.any_append]
      have : ((i : Int) == (j : Int)) = false := by simp; omega
      simp [this]
  · rw [List.getElem?_eq_none (by rw [List.length_set, gnL_len]; omega), List.getElem?_eq_none (by rw [gnL_len]; omega)]
/-- May it go there? -/
def mayB (g : List Gt) (src : Int) (acc : List Int) (x : Int) : Bool := !(x == src) && (gAt g x).f && !(acc.any (· == x))
theorem gAt_f {g : List Gt} {x : Int} (h : (gAt g x).f = true) : 0 ≤ x ∧ x < (g.length : Int) := by
  unfold gAt at h
  split at h
  · cases h
  · rename_i h0
    refine ⟨by omega, ?_⟩
    by_cases hx : x.toNat < g.length
    · omega
    · rw [List.getElem?_eq_none (by omega)] at h
      cases h
set_option maxHeartbeats 4000000 in
theorem may_any (ga : Option Addr) (gn gc : Nat) (g : List Gt) (src x : Int) (acc : List Int) (bf bg bn gb : Nat) (w : World) (hf : RvAt w bf 3 #[.int .i64 src]) (hg : RvAt w bg 32 #[.slice ga gn gc]) (hn : RvAt w bn 85 #[.slice (some ⟨gb, 0, none⟩) gn gn]) (hs : SlAt eG w ga gn gc g) (hp : PAt eL w gb gn (gnL gn acc)) :
    Calls Try.prog 19 #[.int .i64 x, .pointer (some ⟨bf, 0, none⟩), .pointer (some ⟨bg, 0, none⟩), .pointer (some ⟨bn, 0, none⟩)] w fun r w' => r = .returned (.bool (mayB g src acc x)) ∧ Below w.heap.size w w' := by
  have hnn := hs.int
  have c0 := hf.cell 0 _ rfl
  have c1 := hg.cell 0 _ rfl
  by_cases h1 : x = src
  · have q : (x != src) = false := by simp [h1]
    have E0 : mayB g src acc x = false := by unfold mayB; simp [h1]
    have E : Hid (mayB g src acc x = false) := E0
    clear E0
    clear hf hg hn hs hp h1
    go_enter Try.func19, Try.ntmps19
    go_wp2
    go_ret
    exact ⟨ret_bool E.out.symm, Below.refl _ _⟩
  · have q : (x != src) = true := by simp [h1]
    have q' : (x == src) = false := by simp [h1]
    obtain ⟨gt, hgt⟩ : ∃ z, gAt g x = z := ⟨_, rfl⟩
    obtain ⟨gf, hgf⟩ : ∃ z, gt.f = z := ⟨_, rfl⟩
    have Q : Hid (Value.agg (gAt g x).cs = Value.agg gt.cs) := by rw [hgt]; exact rfl
    have E : Hid (mayB g src acc x = (gf && !(acc.any (· == x)))) := by unfold mayB; rw [q', hgt, hgf]; exact rfl
    have K : Hid ((gAt g x).f = gf) := by rw [hgt]; exact hgf
    have H : Hid (SlAt eG w ga gn gc g ∧ RvAt w bn 85 #[.slice (some ⟨gb, 0, none⟩) gn gn] ∧ PAt eL w gb gn (gnL gn acc)) := ⟨hs, hn, hp⟩
    clear hf hg hn hs hp h1 hgt q'
    go_enter Try.func19, Try.ntmps19
    go_wp2_with fail
    refine (Calls.ret_eq Q.out (gate_any ga gn gc g x w H.out.1)).mono ?_
    rintro _ X ⟨rfl, hX⟩
    have c2 := (H.out.2.1.below hX).cell 0 _ rfl
    clear c0 c1
    cases gf with
    | false =>
      have B : Hid (Below w.heap.size w X) := hX
      clear hX
      go_wp2
      go_ret
      exact ⟨ret_bool E.out.symm, B.out⟩
    | true =>
      have hr := gAt_f K.out
      rw [H.out.1.len] at hr
      obtain ⟨hx0, hx1⟩ := hr
      have hxn : x.toNat < gn := by omega
      have l0 := lL ((H.out.2.2.below hX).sl kL) (gnL_at acc hxn)
      rw [Int.toNat_of_nonneg hx0, Nat.zero_add] at l0
      obtain ⟨G, hG⟩ : ∃ z, acc.any (· == x) = z := ⟨_, rfl⟩
      rw [hG] at l0 E
      have B : Hid (Below w.heap.size w X) := hX
      clear hX hG
      go_wp2
      go_ret
      exact ⟨ret_bool E.out.symm, B.out⟩
/-- The ports that it goes to, of those that are to come. -/
def goL (g : List Gt) (src dst : Int) (ev : Bool) : List Int → List Int → List Int
  | acc, [] => acc
  | acc, x :: l => goL g src dst ev (if mayB g src acc x && (ev || x == dst) then acc ++ [x] else acc) l
theorem goL_yes {g : List Gt} {src dst : Int} {ev : Bool} {acc l : List Int} {i : Nat} {x : Int} (h : l[i]? = some x) (hc : (mayB g src acc x && (ev || x == dst)) = true) : goL g src dst ev acc (l.drop i) = goL g src dst ev (acc ++ [x]) (l.drop (i + 1)) := by
  rw [drop_at h, goL, if_pos hc]
theorem goL_no {g : List Gt} {src dst : Int} {ev : Bool} {acc l : List Int} {i : Nat} {x : Int} (h : l[i]? = some x) (hc : (mayB g src acc x && (ev || x == dst)) = false) : goL g src dst ev acc (l.drop i) = goL g src dst ev acc (l.drop (i + 1)) := by
  rw [drop_at h, goL, if_neg (by rw [hc]; decide)]
theorem goL_end {g : List Gt} {src dst : Int} {ev : Bool} {acc l : List Int} {i : Nat} (h : l.length ≤ i) : goL g src dst ev acc (l.drop i) = acc := by
  rw [drop_end h, goL]
/-- Where a frame goes. -/
def outL (p : Pv) (g : List Gt) (src : Int) (f : Bf) (dst : Int) (has : Bool) : List Int := if eqO f.d p.o then [] else goL g src dst (isMany f.d.a || !has) [] (mems p f.v)
def outB (p : Pv) (src : Int) (f : Bf) : Bool := decide (0 ≤ src) && (eqO f.d p.o || isMany f.d.a)
end Go.Proofs.Ytcejfkkhmlebdaa
