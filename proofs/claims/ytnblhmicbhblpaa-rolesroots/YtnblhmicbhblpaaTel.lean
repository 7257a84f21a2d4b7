/-
  tell: its walk, for every tree whose ports lie in a block of one's own.
-/
import Derived.Test.YtnblhmicbhblpaaHea
namespace Go.Proofs.Ytnblhmicbhblpaa
set_option linter.unusedVariables false
set_option maxRecDepth 4000
set_option linter.unusedSimpArgs false
open Go.RowKit

/-- A tree's variable whose ports are changed in place. -/
structure TS (w W : World) (b : Nat) (h : Hd) (a : Option Addr) (n c : Nat) (l : List Pt) : Prop where
  var : RvAt W b 31 (trc h (.slice a n c))
  ps : PA W a n c l
  gr : w.grownBy W (blk a)
  hb : w.heap.size ≤ b
  hg : ∀ g, blk a = some g → g < w.heap.size
theorem TS.below {w W V : World} {b n c : Nat} {h : Hd} {a : Option Addr} {l : List Pt} (s : TS w W b h a n c l) (k : Below W.heap.size W V) : TS w V b h a n c l :=
  ⟨s.var.below k, s.ps.below k, grown_self s.gr (grown_of_below k _), s.hb, s.hg⟩
theorem TS.go {w W V : World} {b n c g : Nat} {h : Hd} {a : Option Addr} {l l' : List Pt} (s : TS w W b h a n c l) (ha : a = some ⟨g, 0, none⟩) (hp : PAt V g c l') (hl : l'.length = l.length) (k : W.grownBy V (some g)) : TS w V b h a n c l' := by
  subst ha
  have := s.hg g rfl
  exact ⟨s.var.keptBut k (by have := s.hb; simp; omega), ⟨hl.trans s.ps.len, (fun e => by cases e), fun x e => by cases e; exact ⟨g, rfl, hp⟩⟩, grown_self s.gr k, s.hb, s.hg⟩
theorem TS.kept {w W V : World} {b n c t : Nat} {ty : TypeId} {cs : Array Value} {h : Hd} {a : Option Addr} {l : List Pt} (s : TS w W b h a n c l) (r : RvAt W t ty cs) (ht : w.heap.size ≤ t) {g : Nat} (ha : a = some ⟨g, 0, none⟩) (k : W.grownBy V (some g)) : RvAt V t ty cs := by
  subst ha
  have := s.hg g rfl
  exact r.keptBut k (by simp; omega)
theorem bd_des (h : Hd) (p : Pt) (w : World) : (bdS 28 #[(0, .int .u64 (h.nm 8)), (1, .int .u32 (h.nm 9)), (2, .int .u64 (h.nm 0)), (3, .int .u16 (p.nm 0))]).run Try.prog w = .ok (.agg (desV h (rOf h) p).cs) w := by
  have e0 : (rOf h).nm 0 = h.nm 8 := h.nm_sub 8 4 0 (by omega)
  have e1 : (rOf h).nm 1 = h.nm 9 := h.nm_sub 8 4 1 (by omega)
  show _ = Result.ok (Value.agg #[.int .u64 ((rOf h).nm 0), .int .u32 ((rOf h).nm 1), .int .u64 (h.nm 0), .int .u16 (p.nm 0)]) w
  rw [e0, e1]
  kernel_rfl
theorem new_tm (W : World) (t : Tm) : ∃ W', (stS 24 (.pointer (some ⟨W.heap.size, 0, none⟩)) (.agg t.cs)).run Try.prog (W.alloc (.cells #[.int .u8 0, .int .u8 0, .int .u8 0, .int .u8 0] 24)) = .ok () W' ∧ RvAt W' W.heap.size 24 t.cs ∧ Below W.heap.size W W' ∧ W'.heap.size = W.heap.size + 1 :=
  row_new rtTm W _ t.cs rfl (by rw [Row.csize, lenT]) t.one'
theorem RvAt.tmld {W : World} {b : Nat} {v : Tm} (hb : RvAt W b 24 v.cs) : (ldS 24 (.pointer (some ⟨b, 0, none⟩))).run Try.prog W = .ok (.agg v.cs) W := hb.ld rtTm (by rw [Row.csize, lenT])
theorem kt2 : kdT[2]? = some (some .u8) := rfl
theorem desT_is (h : Hd) (t : Tm) : t.setU 2 (h.nm 3) = desT h t := by
  have hw := wf8 (h.u8 (j := 3) rfl)
  apply Row.ext'
  have e : (t.setU 2 (h.nm 3)).cl = t.cl.set 2 (.int .u8 (h.nm 3)) := by rw [t.setU_is kt2 hw]; rfl
  rw [e, tm_cl]
  rfl
attribute [local go_sem ↓] ldP stP ldT stT ldV stV ldTm stTm stU bdV
set_option maxHeartbeats 8000000 in
theorem tell_any (h : Hd) (a : Option Addr) (n c : Nat) (l : List Pt) (w : World) (hs : PA w a n c l) (hn : n ≤ 1000) :
    Calls Try.prog 27 #[.agg (trc h (.slice a n c))] w fun r w' => r = .returned (.tuple #[]) ∧ PA w' a n c (l.map (telP h)) ∧ w.grownBy w' (blk a) := by
  obtain ⟨W, hW, r0, bW, zW⟩ := one_t w h (.slice a n c)
  have S0 : Hid (TS w W w.heap.size h a n c l) := ⟨r0, hs.below bW, grown_of_below bW _, Nat.le_refl _, hs.lt⟩
  have cU := r0.tU
  obtain ⟨W1, s1, r1, b1, z1⟩ := new_tm W (uOf h)
  have S1 := S0.out.below b1
  have c3 := S1.var.tnum (j := 3) (k := .u8) rfl
  obtain ⟨W2, s2, r2, g2⟩ := r1.setU kt2 (h.u8 (j := 3) rfl)
  rw [desT_is] at r2
  have hlt : ∀ g, blk a = some g → g < w.heap.size := hs.lt
  have zz : W.heap.size = w.heap.size + 1 := zW
  have S2 : Hid (TS w W2 w.heap.size h a n c l ∧ RvAt W2 W.heap.size 24 (desT h (uOf h)).cs ∧ l.length = n ∧ w.heap.size ≤ W.heap.size) := by
    have e := hlt
    have hbel := below_of_grown (B := W.heap.size) g2 (by omega) (fun j e => by cases e; exact Nat.le_refl _)
    have hbel2 : Below W.heap.size W1 W2 := hbel
    have kk : ∀ i, i < W.heap.size → W2.heap[i]? = W1.heap[i]? := fun i hi => hbel2.block i hi
    refine ⟨⟨S1.var.keptBut g2 (by simp; omega), S1.ps.kept g2 (fun b hb => by have := hlt b hb; simp; omega), ?_, S1.hb, S1.hg⟩, r2, hs.len, by omega⟩
    exact ⟨g2.os.trans S1.gr.os, g2.tape.trans S1.gr.tape, g2.output.trans S1.gr.output, Nat.le_trans S1.gr.size g2.size, fun i hi hne => (g2.block i (Nat.lt_of_lt_of_le hi S1.gr.size) (by simp; omega)).trans (S1.gr.block i hi hne)⟩
  have c16 := S2.out.1.var.t16
  obtain ⟨tb, htb⟩ : ∃ z, W.heap.size = z := ⟨_, rfl⟩
  rw [htb] at s1 s2 S2
  clear hs r0 bW zW r1 b1 z1 S1 r2 g2 hlt zz S0
  go_enter Try.func27, Try.ntmps27
  go_wp2_with fail
  go_loopw [14] (fun v14 wr => ∃ i : Nat, i ≤ n ∧ v14 = .int .i64 i ∧ TS w wr w.heap.size h a n c (mapI (fun _ => telP h) l i) ∧ RvAt wr tb 24 (desT h (uOf h)).cs) (fun v14 _ => n - (intOf v14).toNat)
  case atStart => exact ⟨0, by omega, rfl, by rw [mapI_zero]; exact S2.out.1, S2.out.2.1⟩
  case round =>
    obtain ⟨i, hi, rfl, hS, hT⟩ := hrel
    have hin0 : (0 : Int) ≤ (i : Int) := by omega
    by_cases hit : i < n
    · have hin1 : (i : Int) < (n : Int) := by omega
      have hil : i < l.length := by rw [S2.out.2.2.1]; exact hit
      cases a with
      | none => have := (hS.ps.nil rfl).1; omega
      | some x =>
      obtain ⟨g, rfl, hP⟩ := hS.ps.pat x rfl
      have hat := mapI_at (f := fun _ => telP h) hil
      obtain ⟨V1, e1, P1, g1⟩ := hP.rput hat (desV h (rOf h) (gtP l i)) kq32 kl32 (tv := 28) infoV rfl
      have S1 := hS.go rfl P1 (by rw [List.length_set]) g1
      have T1 := hS.kept hT S2.out.2.2.2 rfl g1
      have hat2 : ((mapI (fun _ => telP h) l i).set i ((gtP l i).put 32 (desV h (rOf h) (gtP l i)) kq32 kl32))[i]? = some ((gtP l i).put 32 (desV h (rOf h) (gtP l i)) kq32 kl32) := by
        rw [List.getElem?_set, if_pos rfl, if_pos (by rw [mapI_len]; exact hil)]
      obtain ⟨V2, e2, P2, g2⟩ := P1.rput hat2 (desT h (uOf h)) kq40 kl40 (tv := 24) infoTm rfl
      have S2' := S1.go rfl P2 (by rw [List.length_set]) g2
      have T2 := S1.kept T1 S2.out.2.2.2 rfl g2
      have hfin : ((mapI (fun _ => telP h) l i).set i ((gtP l i).put 32 (desV h (rOf h) (gtP l i)) kq32 kl32)).set i (((gtP l i).put 32 (desV h (rOf h) (gtP l i)) kq32 kl32).put 40 (desT h (uOf h)) kq40 kl40) = mapI (fun _ => telP h) l (i + 1) := by
        rw [List.set_set]
        exact mapI_next (f := fun _ => telP h) hil
      rw [hfin] at S2'
      have J : Hid (TS w V2 w.heap.size h (some ⟨g, 0, none⟩) n c (mapI (fun _ => telP h) l (i + 1)) ∧ RvAt V2 tb 24 (desT h (uOf h)).cs) := ⟨S2', T2⟩
      have f16 := hS.var.t16
      have q16 := fun z : Later wr => (hS.var.below z.below).t16
      have q8 := fun z : Later wr => (hS.var.below z.below).tnum (j := 8) (k := .u64) rfl
      have q9 := fun z : Later wr => (hS.var.below z.below).tnum (j := 9) (k := .u32) rfl
      have q0 := fun z : Later wr => (hS.var.below z.below).tnum (j := 0) (k := .u64) rfl
      have p0 := fun z : Later wr => (hP.below z.below).num hat (j := 0) (k := .u16) (q := i * 77) rfl rfl
      have P0 : Hid (TS w wr w.heap.size h (some ⟨g, 0, none⟩) n c (mapI (fun _ => telP h) l i) ∧ PAt wr g c (mapI (fun _ => telP h) l i) ∧ RvAt wr tb 24 (desT h (uOf h)).cs) := ⟨hS, hP, hT⟩
      have bb := bd_des h (gtP l i)
      clear hS hT hP S1 P1 g1 P2 g2 S2' T2 hfin T1 c16 cU c3 e1 e2 hat2
      go_wp2_with fail
      refine wp_region_later_tail 16 (by kernel_rfl) (by kernel_rfl) ?_
      simp only [List.take_succ_cons, List.take_zero]
      repeat (go_big_quiet_step (first | exact rfl))
      refine wpQuiet_nil ?_
      intro z
      simp only [List.drop_succ_cons, List.drop_zero]
      clear q16 q8 q9 q0 p0 bb J
      have hS := P0.out.1.below z.below
      have hP := P0.out.2.1.below z.below
      have hT := P0.out.2.2.below z.below
      obtain ⟨V1, e1, P1, g1⟩ := hP.rput hat (desV h (rOf h) (gtP l i)) kq32 kl32 (tv := 28) infoV rfl
      have S1 := hS.go rfl P1 (by rw [List.length_set]) g1
      have T1 := hS.kept hT S2.out.2.2.2 rfl g1
      have hat2 : ((mapI (fun _ => telP h) l i).set i ((gtP l i).put 32 (desV h (rOf h) (gtP l i)) kq32 kl32))[i]? = some ((gtP l i).put 32 (desV h (rOf h) (gtP l i)) kq32 kl32) := by
        rw [List.getElem?_set, if_pos rfl, if_pos (by rw [mapI_len]; exact hil)]
      obtain ⟨V2, e2, P2, g2⟩ := P1.rput hat2 (desT h (uOf h)) kq40 kl40 (tv := 24) infoTm rfl
      have S2' := S1.go rfl P2 (by rw [List.length_set]) g2
      have T2 := S1.kept T1 S2.out.2.2.2 rfl g2
      have hfin : ((mapI (fun _ => telP h) l i).set i ((gtP l i).put 32 (desV h (rOf h) (gtP l i)) kq32 kl32)).set i (((gtP l i).put 32 (desV h (rOf h) (gtP l i)) kq32 kl32).put 40 (desT h (uOf h)) kq40 kl40) = mapI (fun _ => telP h) l (i + 1) := by
        rw [List.set_set]
        exact mapI_next (f := fun _ => telP h) hil
      rw [hfin] at S2'
      have J : Hid (TS w V2 w.heap.size h (some ⟨g, 0, none⟩) n c (mapI (fun _ => telP h) l (i + 1)) ∧ RvAt V2 tb 24 (desT h (uOf h)).cs) := ⟨S2', T2⟩
      have lt1 := T1.tmld
      clear hS hP hT P1 g1 S1 T1 hat2 P2 g2 S2' T2 hfin P0 hat
      go_wp2
      go_roundw
      case rel => exact ⟨i + 1, by omega, by go_num, J.out.1, J.out.2⟩
      case measure => simp [intOf]; omega
    · have hin : i = n := by omega
      subst hin
      have hin1 : ¬ (i : Int) < (i : Int) := by omega
      have e : mapI (fun _ => telP h) l i = l.map (telP h) := by
        have := mapI_all (fun _ => telP h) l
        rw [S2.out.2.2.1] at this
        rw [this]
        refine List.ext_getElem? fun j => ?_
        rw [List.getElem?_mapIdx, List.getElem?_map]
      rw [e] at hS
      have F : Hid (PA wr a i c (l.map (telP h)) ∧ w.grownBy wr (blk a)) := ⟨hS.ps, hS.gr⟩
      clear hS hT e c16 cU c3
      go_wp2
      go_returns
      exact ⟨rfl, F.out.1, F.out.2⟩
end Go.Proofs.Ytnblhmicbhblpaa
