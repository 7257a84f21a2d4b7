/-
  The definition's queue: walks of New, Put, Take and Same, each for every input.
-/
import Derived.Test.YtoojoiindfgoeaaQp
namespace Go.Proofs.Ytoojoiindfgoeaa
set_option linter.unusedVariables false
set_option maxRecDepth 4000
set_option linter.unusedSimpArgs false
open Go.RowKit
theorem infoQ : (Try.prog.info? 29).map (·.size) = some 2 := by kernel_rfl
theorem infoL : (Try.prog.info? 27).map (·.size) = some 1 := by kernel_rfl
theorem rtQ : RowTy 29 2 := ⟨infoQ, _, Try.underlying29, rfl⟩
theorem ldQ (x : Value) : Instr.loadAt 29 x = ldS 29 x := rfl
theorem stQ (x y : Value) : Instr.storeAt 29 x y = stS 29 x y := rfl
theorem stL (x y : Value) : Instr.storeAt 27 x y = stS 27 x y := rfl
attribute [local go_sem ↓] apU apL bsU bsL ldQ stQ stL
attribute [local go_sem] bzU bzL b1S
/-- Its cells; z: its row. -/
def qcs (n : Int) (z : Value) : Array Value := #[.int .i64 n, z]
abbrev RqAt (W : World) (b : Nat) (n : Int) (z : Value) : Prop := RvAt W b 29 (qcs n z)
theorem qcs_one (n : Int) {z : Value} (hz : z.oneCell' = true) : ∀ v ∈ (qcs n z).toList, v.oneCell' = true := by
  intro v hv
  simp only [qcs, List.mem_cons, List.not_mem_nil, or_false] at hv
  rcases hv with rfl | rfl
  · rfl
  · exact hz
theorem RqAt.ld {W : World} {b : Nat} {n : Int} {z : Value} (h : RqAt W b n z) : (ldS 29 (.pointer (some ⟨b, 0, none⟩))).run Try.prog W = .ok (.agg #[.int .i64 n, z]) W := RvAt.ld rtQ h rfl
theorem RqAt.st {W : World} {b : Nat} {n : Int} {z : Value} (h : RqAt W b n z) (m : Int) (y : Value) (hy : y.oneCell' = true) : ∃ V, (stS 29 (.pointer (some ⟨b, 0, none⟩)) (.agg #[.int .i64 m, y])).run Try.prog W = .ok () V ∧ RqAt V b m y ∧ W.grownBy V (some b) := ⟨_, RvAt.st rtQ h rfl rfl (qcs_one m hy), RvAt.set h, grown_row _ _ _⟩
theorem RqAt.stL {W : World} {b : Nat} {n : Int} {z : Value} (h : RqAt W b n z) (y : Value) (hy : y.oneCell' = true) : ∃ V, (stS 27 (.pointer (some ⟨b, 1, none⟩)) y).run Try.prog W = .ok () V ∧ RqAt V b n y ∧ W.grownBy V (some b) := ⟨_, RvAt.st1 h infoL (by show 1 < 2; omega) hy, RvAt.set h, grown_row _ _ _⟩
/-- Rows of bytes that lead to L. -/
def RowsS (W : World) (a : Option Addr) (n c : Nat) (L : List (List Int)) : Prop := ∃ tt, SlAt eS W a n c tt ∧ Al (SrcS W) tt L
theorem RowsS.below {W W' : World} {a : Option Addr} {n c : Nat} {L : List (List Int)} (h : RowsS W a n c L) (hb : Below W.heap.size W W') : RowsS W' a n c L := by
  obtain ⟨tt, h1, h2⟩ := h
  exact ⟨tt, h1.below hb, h2.mono fun _ _ hh => hh.below hb⟩
theorem RowsS.len {W : World} {a : Option Addr} {n c : Nat} {L : List (List Int)} (h : RowsS W a n c L) : L.length = n := by
  obtain ⟨tt, h1, h2⟩ := h
  rw [← h2.len, h1.len]
theorem RowsS.int {W : World} {a : Option Addr} {n c : Nat} {L : List (List Int)} (h : RowsS W a n c L) : (n : Int) ≤ 9223372036854775807 := by
  obtain ⟨tt, h1, h2⟩ := h
  exact h1.int
/-- What New answers. -/
def rnN (room : Int) : Int := if 1 ≤ room ∧ room ≤ 32 then room else 0
def rnE (room : Int) : Int := if 1 ≤ room ∧ room ≤ 32 then 0 else 210
theorem ret_q {fn : Func} {k j : Nat} (hr : fn.results = #[.cell k 29, .tmp j]) {R : Ending → World → Prop} {a : Act} {w : World} {b : Nat} {n : Int} {x e : Value} (hd : a.defers = []) (h2 : a.tmps.getD k undef = .pointer (some ⟨b, 0, none⟩)) (h3 : a.tmps.getD j undef = e) (h : RqAt w b n x)
    (hR : R (.returned (.tuple #[.agg (qcs n x), e])) w) : bodyPost Try.prog fn R .ret a w := by
  have hl : (loadVar 29 ⟨b, 0, none⟩).run Try.prog w = .ok (.agg (qcs n x)) w := run_loadVar_row (P := Try.prog) w b 29 29 (qcs n x) (0, 0) _ h Try.underlying29 rfl infoQ
  have h2' : a.tmps[k]?.getD undef = .pointer (some ⟨b, 0, none⟩) := by simpa using h2
  have h3' : a.tmps[j]?.getD undef = e := by simpa using h3
  exact ⟨hd, _, by simp [results, hr, asAddr, hl, h2', h3'], hR⟩
set_option maxHeartbeats 2000000 in
theorem rnew_any (room : Int) (w : World) : Calls Try.prog 7 #[.int .i64 room] w fun e w' => e = .returned (.tuple #[.agg #[.int .i64 (rnN room), .slice none 0 0], .int .i64 (rnE room)]) ∧ Below w.heap.size w w' := by
  obtain ⟨V, hV⟩ : ∃ V, w.alloc (.cells #[.int .i64 0, .slice none 0 0] 29) = V := ⟨_, rfl⟩
  have r0 : RqAt V w.heap.size 0 (.slice none 0 0) := by rw [← hV]; exact RvAt.new w _ _
  have b0 : Below w.heap.size w V := by rw [← hV]; exact (Below.refl _ _).alloc (Nat.le_refl _) _
  by_cases hr : 1 ≤ room ∧ room ≤ 32
  · obtain ⟨U, sU, mU, gU⟩ := r0.st room (.slice none 0 0) rfl
    have G : Hid (RqAt U w.heap.size room (.slice none 0 0) ∧ Below w.heap.size w U ∧ rnN room = room ∧ rnE room = 0) := ⟨mU, gro b0 gU (Nat.le_refl _) b0.size, if_pos hr, if_pos hr⟩
    have h1 : ¬ room < 1 := by omega
    have h2 : ¬ 32 < room := by omega
    clear r0 b0 mU gU hr
    go_enter Try.func7, Try.ntmps7
    go_wp2
    refine ret_q Try.results7 rfl rfl rfl G.out.1 ?_
    exact ⟨by rw [G.out.2.2.1, G.out.2.2.2]; rfl, G.out.2.1⟩
  · obtain ⟨U, sU, mU, gU⟩ := r0.st 0 (.slice none 0 0) rfl
    have G : Hid (RqAt U w.heap.size 0 (.slice none 0 0) ∧ Below w.heap.size w U ∧ rnN room = 0 ∧ rnE room = 210) := ⟨mU, gro b0 gU (Nat.le_refl _) b0.size, if_neg hr, if_neg hr⟩
    by_cases h1 : room < 1
    · clear r0 b0 mU gU hr
      go_enter Try.func7, Try.ntmps7
      go_wp2
      refine ret_q Try.results7 rfl rfl rfl G.out.1 ?_
      exact ⟨by rw [G.out.2.2.1, G.out.2.2.2]; rfl, G.out.2.1⟩
    · have h2 : 32 < room := by omega
      clear r0 b0 mU gU hr
      go_enter Try.func7, Try.ntmps7
      go_wp2
      refine ret_q Try.results7 rfl rfl rfl G.out.1 ?_
      exact ⟨by rw [G.out.2.2.1, G.out.2.2.2]; rfl, G.out.2.1⟩
/-- A definition's queue, as a value: its row is the one that was, or a new one. -/
def RqIs (W0 W : World) (ra : Option Addr) (v : Value) (cap : Nat) (L : List (List Int)) : Prop := ∃ a n c, v = .agg #[.int .i64 cap, .slice a n c] ∧ RowsS W a n c L ∧ (a = ra ∨ ∀ y, a = some y → W0.heap.size ≤ y.block)
theorem RqAt.new (W : World) (n : Int) (z : Value) : ∃ V, W.alloc (.cells #[.int .i64 n, z] 29) = V ∧ RqAt V W.heap.size n z ∧ Below W.heap.size W V ∧ V.heap.size = W.heap.size + 1 := ⟨_, rfl, RvAt.new W _ _, (Below.refl _ _).alloc (Nat.le_refl _) _, by simp⟩
theorem RqAt.put (W : World) (n : Int) (z : Value) (hz : z.oneCell' = true) : ∃ V, (stS 29 (.pointer (some ⟨W.heap.size, 0, none⟩)) (.agg #[.int .i64 n, z])).run Try.prog (W.alloc (.cells #[.int .i64 0, .slice none 0 0] 29)) = .ok () V ∧ RqAt V W.heap.size n z ∧ Below W.heap.size W V := by
  obtain ⟨U, hU, r, b, z1⟩ := RqAt.new W 0 (.slice none 0 0)
  obtain ⟨V, s, m, g⟩ := r.st n z hz
  rw [hU]
  exact ⟨V, s, m, gro b g (Nat.le_refl _) b.size⟩
/-- Rows, copied into a new row. -/
theorem rows_copy {W : World} {a : Option Addr} {n c : Nat} {tt : List Sl} (h1 : SlAt eS W a n c tt) (hl : n ≤ 1000) (ty : TypeId) :
    ∃ v W', (apS 27 ty #[.slice (some ⟨W.heap.size, 0, none⟩) 0 0, .slice a n c]).run Try.prog (W.alloc (.cells #[] 33)) = .ok v W' ∧ Own eS W' W.heap.size v tt ∧ Below W.heap.size W W' := by
  obtain ⟨W1, hW1⟩ : ∃ W1, W.alloc (.cells #[] 33) = W1 := ⟨_, rfl⟩
  have b1 : Below W.heap.size W W1 := by rw [← hW1]; exact (Below.refl _ _).alloc (Nat.le_refl _) _
  have o1 : Own eS W1 W.heap.size (.slice (some ⟨W.heap.size, 0, none⟩) 0 0) [] := by rw [← hW1]; exact Own.zero kS W
  obtain ⟨v, W2, ap, o2, g2⟩ := o1.app kS (h1.below b1) (by have := h1.len; simp; omega) b1.size ty
  rw [List.nil_append] at o2
  have b2 : Below W.heap.size W W2 := b1.trans (below_of_grown g2 b1.size (fun j e => by cases e; exact Nat.le_refl _))
  rw [hW1]
  exact ⟨v, W2, ap, o2, b2⟩
theorem bytes_copy {W : World} {a : Option Addr} {n c : Nat} {l : List Int} (h1 : SlAt eU W a n c l) (hl : n ≤ 50000) (ty : TypeId) :
    ∃ v W', (apS 33 ty #[.slice (some ⟨W.heap.size, 0, none⟩) 0 0, .slice a n c]).run Try.prog (W.alloc (.cells #[] 5)) = .ok v W' ∧ Own eU W' W.heap.size v l ∧ Below W.heap.size W W' := by
  obtain ⟨W1, hW1⟩ : ∃ W1, W.alloc (.cells #[] 5) = W1 := ⟨_, rfl⟩
  have b1 : Below W.heap.size W W1 := by rw [← hW1]; exact (Below.refl _ _).alloc (Nat.le_refl _) _
  have o1 : Own eU W1 W.heap.size (.slice (some ⟨W.heap.size, 0, none⟩) 0 0) [] := by rw [← hW1]; exact Own.zero kU W
  obtain ⟨v, W2, ap, o2, g2⟩ := o1.app kU (h1.below b1) (by have := h1.len; simp; omega) b1.size ty
  rw [List.nil_append] at o2
  have b2 : Below W.heap.size W W2 := b1.trans (below_of_grown g2 b1.size (fun j e => by cases e; exact Nat.le_refl _))
  rw [hW1]
  exact ⟨v, W2, ap, o2, b2⟩
/-- A row more, appended to rows of one's own: the row stays, as it is none of them. -/
theorem rows_next {W : World} {B B2 : Nat} {v : Value} {tt : List Sl} (o : Own eS W B v tt) {x : Sl} {l : List Int} (ox : OwnS W B2 x l) (hd : ∀ g, v.ownBlock = some g → g < B2) (hB : B ≤ W.heap.size) (hl : tt.length ≤ 1000) (ty : TypeId) :
    ∃ v' W', (apS 27 ty #[v, .slice (some ⟨W.heap.size, 0, none⟩) 1 1]).run Try.prog (W.alloc (.cells #[x.v] 33)) = .ok v' W' ∧ Own eS W' B v' (tt ++ [x]) ∧ OwnS W' B2 x l ∧ W.grownBy W' v.ownBlock ∧ Below B W W' := by
  obtain ⟨Wa, hWa⟩ : ∃ e, W.alloc (.cells #[x.v] 33) = e := ⟨_, rfl⟩
  have ba : Below W.heap.size W Wa := by rw [← hWa]; exact (Below.refl _ _).alloc (Nat.le_refl _) _
  have s1 : SlAt eS Wa (some ⟨W.heap.size, 0, none⟩) 1 1 [x] := by rw [← hWa]; exact one_new W x kS
  obtain ⟨v', W', ap, o', g'⟩ := (o.below ba).app kS s1 (by simp; omega) (Nat.le_trans hB ba.size) ty
  rw [hWa]
  refine ⟨v', W', ap, o', ?_, grown_self (grown_of_below ba _) g', (ba.mono hB).trans (below_of_grown g' (Nat.le_trans hB ba.size) (fun j e => ((o.below ba).blk j e).1))⟩
  refine Own.keptBut (e := eU) (OwnS.below ox ba) g' ?_
  cases hq : x.v.ownBlock with
  | none => exact .inl rfl
  | some g =>
    refine .inr fun e => ?_
    have h3 := hd g e.symm
    have h4 := (Own.blk (e := eU) ox g hq).1
    omega
set_option maxHeartbeats 4000000 in
theorem rput_any {W : World} {cap : Nat} {L : List (List Int)} {ra : Option Addr} {rn rc : Nat} (h : RowsS W ra rn rc L) (hl : rn ≤ 500) {a : Option Addr} {n cc : Nat} {l : List Int} (hs : SlAt eU W a n cc l) (hc : cap ≤ 32) :
    Calls Try.prog 10 #[.agg #[.int .i64 cap, .slice ra rn rc], .slice a n cc] W fun e W' => ∃ v, e = .returned (.tuple #[v, .int .i64 (putE cap L l)]) ∧ RqIs W W' ra v cap (putL cap L l) ∧ Below W.heap.size W W' := by
  obtain ⟨V1, hV1, r1, b1, z1⟩ := RqAt.new W cap (.slice ra rn rc)
  obtain ⟨V, hV, r2, b2, z2⟩ := RqAt.new V1 0 (.slice none 0 0)
  have HL : Hid (L.length = rn ∧ l.length = n) := ⟨h.len, hs.len⟩
  have hn := hs.int
  have hrn := h.int
  have H : Hid (RqAt V W.heap.size cap (.slice ra rn rc) ∧ RqAt V V1.heap.size 0 (.slice none 0 0) ∧ Below W.heap.size W V ∧ V1.heap.size = W.heap.size + 1 ∧ V.heap.size = W.heap.size + 2) := ⟨r1.below b2, r2, below_over b1 b2, z1, by omega⟩
  have HX : Hid (RowsS W ra rn rc L ∧ SlAt eU W a n cc l) := ⟨h, hs⟩
  have l0 := H.out.1.ld
  have c1 : V.cell? ⟨W.heap.size, 1, none⟩ = some (.slice ra rn rc) := H.out.1.cell 1 _ rfl
  have c0 : V.cell? ⟨W.heap.size, 0, none⟩ = some (.int .i64 cap) := H.out.1.cell 0 _ rfl
  obtain ⟨Z, sZ, mZ, gZ⟩ := H.out.2.1.st cap (.slice ra rn rc) rfl
  clear h hs r1 r2 b1 b2 z1 z2
  by_cases h1 : 2048 < n
  · have h1' : (2048 : Int) < (n : Int) := by omega
    have P : Hid (putE cap L l = 2 ∧ putL cap L l = L) := by
      unfold putE putL
      rw [HL.out.2, if_pos h1, if_pos h1]
      exact ⟨rfl, rfl⟩
    have G : Hid (RqAt Z V1.heap.size cap (.slice ra rn rc) ∧ Below W.heap.size W Z) := ⟨mZ, gro H.out.2.2.1 gZ (by have := H.out.2.2.2; omega) H.out.2.2.1.size⟩
    clear mZ gZ h1
    go_enter Try.func10, Try.ntmps10
    go_wp2
    refine ret_q Try.results10 rfl rfl rfl G.out.1 ?_
    exact ⟨_, by rw [P.out.1]; rfl, ⟨ra, rn, rc, rfl, by rw [P.out.2]; exact HX.out.1.below G.out.2, .inl rfl⟩, G.out.2⟩
  · have h1' : ¬ (2048 : Int) < (n : Int) := by omega
    by_cases h2 : cap ≤ rn
    · have h2' : (cap : Int) ≤ (rn : Int) := by omega
      have P : Hid (putE cap L l = 71 ∧ putL cap L l = L) := by
        unfold putE putL
        rw [HL.out.2, if_neg h1, if_neg h1, HL.out.1, if_pos h2, if_pos h2]
        exact ⟨rfl, rfl⟩
      have G : Hid (RqAt Z V1.heap.size cap (.slice ra rn rc) ∧ Below W.heap.size W Z) := ⟨mZ, gro H.out.2.2.1 gZ (by have := H.out.2.2.2; omega) H.out.2.2.1.size⟩
      clear mZ gZ h1 h2
      go_enter Try.func10, Try.ntmps10
      go_wp2
      refine ret_q Try.results10 rfl rfl rfl G.out.1 ?_
      exact ⟨_, by rw [P.out.1]; rfl, ⟨ra, rn, rc, rfl, by rw [P.out.2]; exact HX.out.1.below G.out.2, .inl rfl⟩, G.out.2⟩
    · have h2' : ¬ (cap : Int) ≤ (rn : Int) := by omega
      have P : Hid (putE cap L l = 0 ∧ putL cap L l = L ++ [l]) := by
        unfold putE putL
        rw [HL.out.2, if_neg h1, if_neg h1, HL.out.1, if_neg h2, if_neg h2]
        exact ⟨rfl, rfl⟩
      clear Z sZ mZ gZ
      obtain ⟨tt, hs1, hs2⟩ := HX.out.1
      have htl : tt.length = rn := hs1.len
      obtain ⟨v1, X1, ap1, o1, b1⟩ := rows_copy (hs1.below H.out.2.2.1) (by omega) 27
      obtain ⟨Vz, hVz⟩ : ∃ e, V.alloc (.cells #[] 33) = e := ⟨_, rfl⟩
      have cz : Vz.cell? ⟨W.heap.size, 1, none⟩ = some (.slice ra rn rc) := (H.out.1.below (by rw [← hVz]; exact (Below.refl _ _).alloc (Nat.le_refl _) _)).cell 1 _ rfl
      rw [hVz] at ap1
      obtain ⟨v2, X2, ap2, o2, b2⟩ := bytes_copy (HX.out.2.below (below_over H.out.2.2.1 b1)) (by omega) 33
      obtain ⟨xa, xc, rfl, xs, _⟩ := o2.form
      obtain ⟨v3, X3, ap3, o3, xo, _, b3⟩ := rows_next (x := ⟨xa, l.length, xc⟩) (o1.below b2) o2 (fun g hg => (o1.blk g hg).2) (Nat.le_trans b1.size b2.size) (by omega) 27
      have ap3' : (apS 27 27 #[v1, .slice (some ⟨X2.heap.size, 0, none⟩) 1 1]).run Try.prog (X2.alloc (.cells #[.slice xa l.length xc] 33)) = .ok v3 X3 := ap3
      have b13 : Below V.heap.size V X3 := (b1.trans (b2.mono b1.size)).trans b3
      obtain ⟨a3, c3, rfl, s3, hbk⟩ := o3.form
      obtain ⟨N, hN⟩ : ∃ e, (tt ++ [(⟨xa, l.length, xc⟩ : Sl)]).length = e := ⟨_, rfl⟩
      rw [hN] at s3 ap3 ap3'
      obtain ⟨Y1, t1, m1, k1⟩ := RqAt.stL (H.out.1.below b13) (.slice a3 N c3) rfl
      have l1 := m1.ld
      obtain ⟨Y2, t2, m2, k2⟩ := RqAt.st (RvAt.keptBut (H.out.2.1.below b13) k1 (by have := H.out.2.2.2; simp; omega)) cap (.slice a3 N c3) rfl
      have G : Hid (RqAt Y2 V1.heap.size cap (.slice a3 N c3) ∧ Below W.heap.size W Y2 ∧ RowsS Y2 a3 N c3 (L ++ [l]) ∧ ∀ y, a3 = some y → W.heap.size ≤ y.block) := by
        have hv := H.out.2.2.2
        have h0 := below_over H.out.2.2.1 b13
        have h1 := gro h0 k1 (Nat.le_refl _) h0.size
        have h2 := gro h1 k2 (by omega) h1.size
        refine ⟨m2, h2, ⟨_, (s3.keptBut k1 ?_).keptBut k2 ?_, (hs2.mono fun _ _ hh => hh.below h2).snoc (OwnS.src (B := X1.heap.size) ?_)⟩, fun y hy => by have := (hbk y hy).1; omega⟩
        · intro x hx _
          have := (hbk x hx).1
          simp
          omega
        · intro x hx _
          have := (hbk x hx).1
          simp
          omega
        · have hne : ∀ g, g < V.heap.size → (Sl.v ⟨xa, l.length, xc⟩).ownBlock = none ∨ (Sl.v ⟨xa, l.length, xc⟩).ownBlock ≠ some g := fun g hg => by
            cases hq : (Sl.v ⟨xa, l.length, xc⟩).ownBlock with
            | none => exact .inl rfl
            | some g' =>
              have h4 := (Own.blk (e := eU) xo g' hq).1
              have := b1.size
              exact .inr (by simp; omega)
          exact Own.keptBut (e := eU) (Own.keptBut (e := eU) xo k1 (hne _ (by omega))) k2 (hne _ (by omega))
      clear m1 k1 m2 k2 xo o3 s3 b3 b13 hbk o2 b2 o1 b1 hs1 hs2 htl h1 h2 xs hN ap3
      go_enter Try.func10, Try.ntmps10
      go_wp2
      refine ret_q Try.results10 rfl rfl rfl G.out.1 ?_
      exact ⟨_, by rw [P.out.1]; rfl, ⟨a3, _, c3, rfl, by rw [P.out.2]; exact G.out.2.2.1, .inr G.out.2.2.2⟩, G.out.2.1⟩
end Go.Proofs.Ytoojoiindfgoeaa
