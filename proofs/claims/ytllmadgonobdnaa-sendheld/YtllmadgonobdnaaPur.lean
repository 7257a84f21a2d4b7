/-
  What a port tells, and what becomes of it, in plain terms: the messages, the steps of transmission and of the version.
-/
import Derived.Test.YtllmadgonobdnaaKit
namespace Go.Proofs.Ytllmadgonobdnaa
set_option linter.unusedVariables false
set_option maxRecDepth 4000
set_option linter.unusedSimpArgs false
open Go.RowKit

theorem kb23 : kdP[23]? = some none := rfl
theorem kb26 : kdP[26]? = some none := rfl
theorem ku64 : kdP[64]? = some (some .u8) := rfl
theorem ku66 : kdP[66]? = some (some .u8) := rfl
theorem ku67 : kdP[67]? = some (some .u8) := rfl
theorem kn75 : kdP[75]? = some (some .i64) := rfl
theorem kn76 : kdP[76]? = some (some .i64) := rfl
theorem km0 : kdM[0]? = some (some .i64) := rfl
theorem km1 : kdM[1]? = some none := rfl
theorem km2 : kdM[2]? = some none := rfl
theorem km3 : kdM[3]? = some none := rfl
theorem km4 : kdM[4]? = some none := rfl
theorem km5 : kdM[5]? = some none := rfl
theorem km6 : kdM[6]? = some none := rfl
theorem km7 : kdM[7]? = some (some .i64) := rfl
theorem mq8 : (kdM.drop 8).take kdV.length = kdV := rfl
theorem ml8 : 8 + kdV.length ≤ kdM.length := by decide
theorem mq12 : (kdM.drop 12).take kdT.length = kdT := rfl
theorem ml12 : 12 + kdT.length ≤ kdM.length := by decide
theorem vc_cl (v : Vc) : v.cl = [.int .u64 (v.nm 0), .int .u32 (v.nm 1), .int .u64 (v.nm 2), .int .u16 (v.nm 3)] := by
  have h0 := v.num (j := 0) (k := .u64) rfl
  have h1 := v.num (j := 1) (k := .u32) rfl
  have h2 := v.num (j := 2) (k := .u64) rfl
  have h3 := v.num (j := 3) (k := .u16) rfl
  have hl := v.len
  rw [lenV] at hl
  generalize v.cl = x at *
  match x, hl with
  | [a, b, c, d], _ =>
    simp only [List.getElem?_cons_zero, List.getElem?_cons_succ, Option.some.injEq] at h0 h1 h2 h3
    rw [h0, h1, h2, h3]
theorem tm_cl (v : Tm) : v.cl = [.int .u8 (v.nm 0), .int .u8 (v.nm 1), .int .u8 (v.nm 2), .int .u8 (v.nm 3)] := by
  have h0 := v.num (j := 0) (k := .u8) rfl
  have h1 := v.num (j := 1) (k := .u8) rfl
  have h2 := v.num (j := 2) (k := .u8) rfl
  have h3 := v.num (j := 3) (k := .u8) rfl
  have hl := v.len
  rw [lenT] at hl
  generalize v.cl = x at *
  match x, hl with
  | [a, b, c, d], _ =>
    simp only [List.getElem?_cons_zero, List.getElem?_cons_succ, Option.some.injEq] at h0 h1 h2 h3
    rw [h0, h1, h2, h3]
/-- A port's designated times. -/
def dsT (p : Pt) : Tm := ⟨(p.cl.drop 40).take 4, (p.sub 40 4).ok⟩
theorem RvAt.pdsT {W : World} {b : Nat} {p : Pt} (hb : RvAt W b 53 p.cs) : (ldS 24 (.pointer (some ⟨b, 40, none⟩))).run Try.prog W = .ok (.agg (dsT p).cs) W := hb.part rfl rfl Try.underlying24 rfl infoTm
/-- The role that a message tells. -/
def rolN (r : Int) : Int := if r = 2 then 1 else if r = 1 ∨ r = 3 ∨ r = 4 then r else 0
theorem rol_is (r : Int) : rolN r = 0 ∨ rolN r = 1 ∨ rolN r = 3 ∨ rolN r = 4 := by
  unfold rolN
  split
  · exact Or.inr (Or.inl rfl)
  · split
    · omega
    · exact Or.inl rfl
theorem rol_wf (r : Int) : (Lit.int .i64 (rolN r)).wf = true := by
  rcases rol_is r with h | h | h | h <;> rw [h] <;> decide
/-- Does it tell of a change? -/
def tcB (p : Pt) : Bool := !(p.nm 71 == 0)
def rstM (p : Pt) : Mg := ((((((((((zeroM.setN 0 km0 3 wi3).setN 7 km7 (rolN (p.nm 30)) (rol_wf _)).setB 3 km3 (p.bt 13)).setB 6 km6 (p.bt 3)).setB 4 km4 (p.bt 10)).setB 5 km5 (p.bt 8)).setB 1 km1 (tcB p)).setB 2 km2 false).put 8 (dsg p) mq8 ml8).put 12 (dsT p) mq12 ml12)
def cfgM (p : Pt) : Mg := ((((zeroM.setN 0 km0 1 wi1).setB 1 km1 (tcB p)).setB 2 km2 (p.bt 26)).put 8 (dsg p) mq8 ml8).put 12 (dsT p) mq12 ml12
def tcnM : Mg := zeroM.setN 0 km0 2 wi2
def kinN (p : Pt) : Int := if p.bt 23 = true then 3 else if p.nm 30 = 4 then 1 else 2
/-- What a port says. -/
def msgP (p : Pt) : Mg := if p.bt 23 = true then rstM p else if p.nm 30 = 4 then cfgM p else tcnM
/-- Does it say anything? -/
def voiB (p : Pt) : Bool := p.bt 23 || (p.nm 30 == 3) || (p.nm 30 == 4)
theorem put_two (r : Mg) (v : Vc) (t : Tm) : ((r.put 8 v mq8 ml8).put 12 t mq12 ml12).cl = r.cl.take 8 ++ v.cl ++ t.cl := by
  have hr := r.len
  have hv := v.len
  have ht := t.len
  rw [lenM] at hr
  rw [lenV] at hv
  rw [lenT] at ht
  show ((r.cl.take 8 ++ v.cl ++ r.cl.drop (8 + kdV.length)).take 12) ++ t.cl ++ ((r.cl.take 8 ++ v.cl ++ r.cl.drop (8 + kdV.length)).drop (12 + kdT.length)) = _
  rw [lenV, lenT]
  have h1 : (r.cl.take 8 ++ v.cl).length = 12 := by simp [hr, hv]
  rw [List.take_append_of_le_length (by omega), List.take_of_length_le (by omega)]
  rw [List.drop_eq_nil_of_le (by rw [List.length_append, h1, List.length_drop, hr]; omega), List.append_nil]
theorem rst_cl (p : Pt) : (rstM p).cl = [.int .i64 3, .bool (tcB p), .bool false, .bool (p.bt 13), .bool (p.bt 10), .bool (p.bt 8), .bool (p.bt 3), .int .i64 (rolN (p.nm 30))] ++ (dsg p).cl ++ (dsT p).cl := by
  unfold rstM
  rw [put_two]
  rfl
theorem cfg_cl (p : Pt) : (cfgM p).cl = [.int .i64 1, .bool (tcB p), .bool (p.bt 26), .bool false, .bool false, .bool false, .bool false, .int .i64 0] ++ (dsg p).cl ++ (dsT p).cl := by
  unfold cfgM
  rw [put_two]
  rfl
/-- Transmission: begun; reminded; sent; and the wait. -/
def begP (p : Pt) : Pt := ((p.setB 11 kb11 true).setU 64 0).setN 75 kn75 1 wi1
def remB (p : Pt) : Bool := p.bt 11 || (p.nm 30 == 4) || ((p.nm 30 == 3) && !(p.nm 71 == 0))
def remP (p : Pt) : Pt := p.setB 11 kb11 (remB p)
def waiN (p : Pt) : Int := if p.nm 42 = 0 then 1 else p.nm 42
def waiP (p : Pt) : Pt := p.setU 66 (waiN p)
def ackB (p : Pt) : Bool := p.bt 26 && (kinN p == 2)
def sntP (p : Pt) : Pt := ((p.setB 11 kb11 false).setU 64 (p.nm 64 + 1)).setB 26 kb26 (ackB p)
/-- Which case it is. -/
def ptxC (h : Hd) (p : Pt) : Nat :=
  if p.nm 75 = 1 then
    if p.bt 22 = true ∧ p.bt 28 = false then
      if p.nm 66 = 0 then 2
      else if p.bt 2 = true ∧ p.bt 11 = true ∧ p.nm 64 < h.nm 5 ∧ voiB p = true then 3 else 0
    else 0
  else 1
def ptxQ (p : Pt) : Nat → Pt
  | 0 => p
  | 1 => waiP (begP p)
  | 2 => waiP (remP p)
  | _ => waiP (sntP p)
/-- The version: it checks; it senses; it falls back. -/
def chkP (p : Pt) : Pt := ((p.setB 23 kb23 true).setU 67 3).setN 76 kn76 1 wi1
def senP (p : Pt) : Pt := ((p.setB 15 kb15 false).setB 16 kb16 false).setN 76 kn76 3 wi3
def falP (p : Pt) : Pt := ((p.setB 23 kb23 false).setU 67 3).setN 76 kn76 2 wi2
def ppmC (p : Pt) : Nat :=
  if p.nm 76 = 1 then (if p.bt 2 = false ∧ p.nm 67 ≠ 3 then 1 else if p.nm 67 = 0 then 2 else 0)
  else if p.nm 76 = 3 then (if p.bt 2 = false ∨ p.bt 23 = false ∧ p.bt 15 = true then 1 else if p.bt 23 = true ∧ p.bt 16 = true then 3 else 0)
  else if p.nm 76 = 2 then (if p.nm 67 = 0 ∨ p.bt 2 = false then 2 else 0)
  else 1
def ppmQ (p : Pt) : Nat → Pt
  | 0 => p
  | 1 => chkP p
  | 2 => senP p
  | _ => falP p
theorem u0 : (0 : Int) ≤ 0 ∧ (0 : Int) ≤ 255 := by decide
theorem u3 : (0 : Int) ≤ 3 ∧ (3 : Int) ≤ 255 := by decide
theorem wai_in (p : Pt) : 0 ≤ waiN p ∧ waiN p ≤ 255 := by
  have := p.u8 (j := 42) rfl
  unfold waiN
  split <;> omega
theorem wai_of {p q : Pt} (h : p.nm 42 = q.nm 42) : waiN p = waiN q := by unfold waiN; rw [h]
theorem setN_nm {ks : List (Option IntKind)} (r : Row ks) {i j : Nat} (h : ks[j]? = some (some .i64)) {n : Int} (hw : (Lit.int .i64 n).wf = true) (hn : i ≠ j) : (r.setN j h n hw).nm i = r.nm i := nm_of (by rw [r.setN_get, if_neg hn])
theorem setN_bt {ks : List (Option IntKind)} (r : Row ks) {i j : Nat} (h : ks[j]? = some (some .i64)) {n : Int} (hw : (Lit.int .i64 n).wf = true) (hn : i ≠ j) : (r.setN j h n hw).bt i = r.bt i := bt_of (by rw [r.setN_get, if_neg hn])
theorem setN_at {ks : List (Option IntKind)} (r : Row ks) {j : Nat} (h : ks[j]? = some (some .i64)) {n : Int} (hw : (Lit.int .i64 n).wf = true) : (r.setN j h n hw).nm j = n := r.nset _ (List.getElem?_eq_some_iff.1 h).1
theorem setU_bt {ks : List (Option IntKind)} (r : Row ks) {i j : Nat} {n : Int} (h : j ≠ i) : (r.setU j n).bt i = r.bt i := bt_of (r.setU_ne h)
/-- A message that goes out of a port. -/
def kdO : List (Option IntKind) := some .i64 :: kdM
abbrev Ot := Row kdO
theorem plainO : PlainTy 48 kdO := ⟨by kernel_rfl, by kernel_rfl, ⟨_, Try.underlying48⟩, by kernel_rfl⟩
theorem infoO : (Try.prog.info? 48).map (·.size) = some 17 := by kernel_rfl
theorem lenO : kdO.length = 17 := rfl
theorem fits_cons {k : Option IntKind} {ks : List (Option IntKind)} {v : Value} {l : List Value} (h : Fit k v) (g : Fits ks l) : Fits (k :: ks) (v :: l) := by
  refine ⟨by simp [g.len], fun j q x hq hx => ?_⟩
  cases j with
  | zero => cases hq; cases hx; exact h
  | succ j => exact g.at' j q x (by simpa using hq) (by simpa using hx)
def outR (i : Int) (h : (Lit.int .i64 i).wf = true) (m : Mg) : Ot := ⟨.int .i64 i :: m.cl, fits_cons ⟨i, rfl, h⟩ m.ok⟩
end Go.Proofs.Ytllmadgonobdnaa
