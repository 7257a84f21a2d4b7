/-
  What bytes decode to, and the walk: for every bytes.
-/
import Derived.Test.YteljcgdenagcmaaBWalk2
import Derived.Test.YteljcgdenagcmaaBEncode
namespace Go.Proofs.Yteljcgdenagcmaa
set_option linter.unusedVariables false
set_option maxRecDepth 4000
set_option linter.unusedSimpArgs false
open Go.RowKit

/-- The frame that bytes would be: part by part. -/
def rb1 (l : List Int) : Bf := ⟨m6 l 0, ⟨0, 0, 0, 0, 0, 0⟩, 0, false, 0, 0, false, false, 0, ⟨0, 0, 0, 0, 0, 0⟩, ⟨0, 0, 0, 0, 0, 0⟩⟩
def rb2 (l : List Int) : Bf := ⟨m6 l 0, m6 l 6, 0, false, 0, 0, false, false, 0, ⟨0, 0, 0, 0, 0, 0⟩, ⟨0, 0, 0, 0, 0, 0⟩⟩
def rb3 (l : List Int) : Bf := ⟨m6 l 0, m6 l 6, tkP (l.drop 14), tkD (l.drop 14), tkV (l.drop 14), 0, false, false, 0, ⟨0, 0, 0, 0, 0, 0⟩, ⟨0, 0, 0, 0, 0, 0⟩⟩
def rawB (l : List Int) : Bf := ⟨m6 l 0, m6 l 6, tkP (l.drop 14), tkD (l.drop 14), tkV (l.drop 14), tiP (l.drop 18), tiD (l.drop 18), tiU (l.drop 18), tiI (l.drop 18), ⟨tiX (l.drop 18) 4, tiX (l.drop 18) 5, tiX (l.drop 18) 6, tiX (l.drop 18) 7, tiX (l.drop 18) 8, tiX (l.drop 18) 9⟩, ⟨tiX (l.drop 18) 10, tiX (l.drop 18) 11, tiX (l.drop 18) 12, tiX (l.drop 18) 13, tiX (l.drop 18) 14, tiX (l.drop 18) 15⟩⟩
/-- Are types or tags wrong? -/
def wrongB (l : List Int) : Bool := (tyN (l.drop 12) != 34984) || ((tkE (l.drop 14) != 0) || ((tyN (l.drop 16) != 35047) || (tiE (l.drop 18) != 0)))
/-- The error of decoding. -/
def bdE (l : List Int) : Int := if l.length < 36 then 6 else if 1536 < l.length then 2 else if wrongB l || (chkB (rawB l) (l.drop 34) != 0) then 40 else 0
def bdF (l : List Int) : Bf := if bdE l = 0 then rawB l else zeroB
def bdR (l : List Int) : List Int := if bdE l = 0 then l.drop 34 else []
def BdOut (l : List Int) (w : World) (r : Ending) (w' : World) : Prop :=
  ∃ s, r = .returned (.tuple #[.agg (bcs (bdF l) s), .int .i64 (bdE l)]) ∧ Own w' w.heap.size s (bdR l) ∧ Below w.heap.size w w'
theorem bd_err {l : List Int} {w w' : World} (e : Int) (he : bdE l = e) (h0 : ¬ e = 0) (hb : Below w.heap.size w w') : BdOut l w (.returned (.tuple #[.agg (bcs zeroB (.slice none 0 0)), .int .i64 e])) w' := by
  refine ⟨.slice none 0 0, ?_, ?_, hb⟩
  · unfold bdF; rw [he, if_neg h0]
  · unfold bdR; rw [he, if_neg h0]; exact own_nil _ _
theorem bd_ok {l : List Int} {w w' : World} {s : Value} (he : bdE l = 0) (ho : Own w' w.heap.size s (l.drop 34)) (hb : Below w.heap.size w w') : BdOut l w (.returned (.tuple #[.agg (bcs (rawB l) s), .int .i64 0])) w' := by
  refine ⟨s, ?_, ?_, hb⟩
  · unfold bdF; rw [he, if_pos rfl]
  · unfold bdR; rw [he, if_pos rfl]; exact ho

theorem tiX_ok {l : List Int} (hb : ∀ x ∈ l, 0 ≤ x ∧ x ≤ 255) (k : Nat) : 0 ≤ tiX l k ∧ tiX l k ≤ 255 := by
  unfold tiX
  split
  · exact gt_ok hb k
  · omega
theorem rawB_ok {l : List Int} (hb : ∀ x ∈ l, 0 ≤ x ∧ x ≤ 255) : (rawB l).ok := by
  have h18 : ∀ x ∈ l.drop 18, 0 ≤ x ∧ x ≤ 255 := fun x hx => hb x (List.mem_of_mem_drop hx)
  refine ⟨m6_ok hb 0, m6_ok hb 6, ?_, ?_⟩
  all_goals
    intro x hx
    simp only [M6.l, rawB, List.mem_cons, List.not_mem_nil, or_false] at hx
    rcases hx with rfl | rfl | rfl | rfl | rfl | rfl <;> exact tiX_ok h18 _

theorem ty_take {l : List Int} (h : 2 ≤ l.length) : tyN (l.take 2) = tyN l := by
  match l, h with
  | x :: y :: r, _ => rfl
theorem tk_take {l : List Int} (h : 2 ≤ l.length) : tkE (l.take 2) = tkE l ∧ tkP (l.take 2) = tkP l ∧ tkD (l.take 2) = tkD l ∧ tkV (l.take 2) = tkV l := by
  have hn : tkN (l.take 2) = tkN l := by
    match l, h with
    | x :: y :: r, _ => rfl
  have he : tkE (l.take 2) = tkE l := by
    have h1 : ¬ (l.take 2).length < 2 := by simp; omega
    have h2 : ¬ l.length < 2 := by omega
    unfold tkE
    rw [hn, if_neg h1, if_neg h2]
  unfold tkP tkD tkV
  rw [hn, he]
  exact ⟨rfl, rfl, rfl, rfl⟩
theorem getD_take {l : List Int} {k j : Nat} (h : j < k) : (l.take k).getD j 0 = l.getD j 0 := by
  rw [List.getD_eq_getElem?_getD, List.getD_eq_getElem?_getD, List.getElem?_take_of_lt h]
theorem ti_take {l : List Int} (h : 16 ≤ l.length) : tiE (l.take 16) = tiE l ∧ tiP (l.take 16) = tiP l ∧ tiD (l.take 16) = tiD l ∧ tiU (l.take 16) = tiU l ∧ tiI (l.take 16) = tiI l ∧ ∀ k, k < 16 → tiX (l.take 16) k = tiX l k := by
  have he : tiE (l.take 16) = tiE l := by
    have h1 : ¬ (l.take 16).length < 16 := by simp; omega
    have h2 : ¬ l.length < 16 := by omega
    unfold tiE
    rw [if_neg h1, if_neg h2, getD_take (by omega)]
  refine ⟨he, ?_, ?_, ?_, ?_, ?_⟩
  · unfold tiP; rw [he, getD_take (by omega)]
  · unfold tiD; rw [he, getD_take (by omega)]
  · unfold tiU; rw [he, getD_take (by omega)]
  · unfold tiI; rw [he, getD_take (by omega), getD_take (by omega), getD_take (by omega)]
  · intro k hk; unfold tiX; rw [he, getD_take hk]
theorem m6_drop (l : List Int) (i k : Nat) : m6 (l.drop i) k = m6 l (i + k) := by
  have e : ∀ j, gt (l.drop i) j = gt l (i + j) := fun j => by
    unfold gt
    rw [List.getD_eq_getElem?_getD, List.getD_eq_getElem?_getD, List.getElem?_drop]
  unfold m6
  rw [e, e, e, e, e, e]
  simp [Nat.add_assoc]

theorem results_btwo {fn : Func} {k j : Nat} (hr : fn.results = #[.cell k 30, .tmp j]) (tmps : Array Value) (w : World) (b : Nat) (f : Bf) (x e : Value) (h2 : tmps.getD k undef = .pointer (some ⟨b, 0, none⟩)) (h3 : tmps.getD j undef = e) (h : BfAt w b f x) :
    (results fn tmps).run Try.prog w = .ok (.tuple #[.agg (bcs f x), e]) w := by
  have hl := h.lv
  have h2' : tmps[k]?.getD undef = .pointer (some ⟨b, 0, none⟩) := by simpa using h2
  have h3' : tmps[j]?.getD undef = e := by simpa using h3
  simp [results, hr, asAddr, hl, h2', h3']
theorem zeroB_new (W : World) : BfAt (W.alloc (.cells #[.int .u8 0, .int .u8 0, .int .u8 0, .int .u8 0, .int .u8 0, .int .u8 0, .int .u8 0, .int .u8 0, .int .u8 0, .int .u8 0, .int .u8 0, .int .u8 0, .int .i64 0, .bool false, .int .i64 0, .int .i64 0, .bool false, .bool false, .int .i64 0, .int .u8 0, .int .u8 0, .int .u8 0, .int .u8 0, .int .u8 0, .int .u8 0, .int .u8 0, .int .u8 0, .int .u8 0, .int .u8 0, .int .u8 0, .int .u8 0, .slice none 0 0] 30)) W.heap.size zeroB (.slice none 0 0) := BfAt.new W zeroB _
theorem BfAt.zst {W : World} {b : Nat} {f : Bf} {x : Value} (h : BfAt W b f x) : (stS 30 (.pointer (some ⟨b, 0, none⟩)) (.agg #[.int .u8 0, .int .u8 0, .int .u8 0, .int .u8 0, .int .u8 0, .int .u8 0, .int .u8 0, .int .u8 0, .int .u8 0, .int .u8 0, .int .u8 0, .int .u8 0, .int .i64 0, .bool false, .int .i64 0, .int .i64 0, .bool false, .bool false, .int .i64 0, .int .u8 0, .int .u8 0, .int .u8 0, .int .u8 0, .int .u8 0, .int .u8 0, .int .u8 0, .int .u8 0, .int .u8 0, .int .u8 0, .int .u8 0, .int .u8 0, .slice none 0 0])).run Try.prog W = .ok () (W.setRow b (bcs zeroB (.slice none 0 0))) := h.st (g := zeroB) (y := .slice none 0 0) rfl

/-- The variables of decoding: the answer's, the frame's, the walk's. -/
structure Dst (w W : World) (f : Bf) (x : Value) (b : Nat) (l : List Int) (g : Bool) (B o n c : Nat) : Prop where
  z : BfAt W w.heap.size zeroB (.slice none 0 0)
  fr : BfAt W (w.heap.size + 1) f x
  wk : Wst w W b l g B o n c
  lt : w.heap.size + 1 < b
theorem Dst.call {w W W' : World} {f : Bf} {x : Value} {b : Nat} {l l' : List Int} {g g' : Bool} {B o n c o' n' c' : Nat} (h : Dst w W f x b l g B o n c) (k : Wk W b W') (s : Wst w W' b l' g' B o' n' c') : Dst w W' f x b l' g' B o' n' c' :=
  ⟨k.bf h.z (by have := h.lt; omega), k.bf h.fr (by have := h.lt; omega), s, h.lt⟩
theorem Dst.upd {w W W' : World} {f f' : Bf} {x x' : Value} {b : Nat} {l : List Int} {g : Bool} {B o n c : Nat} (h : Dst w W f x b l g B o n c) (hf : BfAt W' (w.heap.size + 1) f' x') (ho : ∀ k, k ≠ w.heap.size + 1 → W'.heap[k]? = W.heap[k]?) (hb : Below w.heap.size w W') : Dst w W' f' x' b l g B o n c :=
  ⟨(ho _ (by omega)).trans h.z, hf, ⟨(ho _ (by have := h.lt; omega)).trans h.wk.at', h.wk.src, hb, h.wk.le⟩, h.lt⟩
theorem Dst.later {w W W' : World} {f : Bf} {x : Value} {b : Nat} {l : List Int} {g : Bool} {B o n c : Nat} (h : Dst w W f x b l g B o n c) (hb : Below W.heap.size W W') : Dst w W' f x b l g B o n c := ⟨h.z.below hb, h.fr.below hb, h.wk.later hb, h.lt⟩
theorem Dst.zat {w W : World} {f : Bf} {x : Value} {b : Nat} {l : List Int} {g : Bool} {B o n c : Nat} (h : Dst w W f x b l g B o n c) (h' : Bf) (y : Value) : BfAt (W.setRow w.heap.size (bcs h' y)) w.heap.size h' y ∧ Below w.heap.size w (W.setRow w.heap.size (bcs h' y)) := ⟨h.z.set, below_setRow h.wk.below (Nat.le_refl _) _⟩

attribute [local go_sem ↓] slS_eq ldS23 ldS25 ldI27 ldS30 stS30 stS23 stS25 stI27 stS70

set_option maxHeartbeats 1000000 in
theorem bdec_short (a : Option Addr) (n c : Nat) (l : List Int) (w : World) (h : Src w (.slice a n c) l) (hs : l.length < 36) :
    Calls Try.prog 19 #[.slice a n c] w fun r w' => BdOut l w r w' := by
  obtain ⟨hn, hc, hm⟩ := src_short h
  have hn3 : (n : Int) < 36 := by omega
  have HE : Hid (bdE l = 6) := by unfold bdE; rw [if_pos hs]; rfl
  have z := zeroB_new w
  have zs := z.zst
  have HZ : Hid _ := And.intro (z.set (g := zeroB) (y := .slice none 0 0)) (below_setRow ((Below.refl w.heap.size w).alloc (Nat.le_refl _) (.cells #[.int .u8 0, .int .u8 0, .int .u8 0, .int .u8 0, .int .u8 0, .int .u8 0, .int .u8 0, .int .u8 0, .int .u8 0, .int .u8 0, .int .u8 0, .int .u8 0, .int .i64 0, .bool false, .int .i64 0, .int .i64 0, .bool false, .bool false, .int .i64 0, .int .u8 0, .int .u8 0, .int .u8 0, .int .u8 0, .int .u8 0, .int .u8 0, .int .u8 0, .int .u8 0, .int .u8 0, .int .u8 0, .int .u8 0, .int .u8 0, .slice none 0 0] 30)) (Nat.le_refl w.heap.size) (bcs zeroB (.slice none 0 0)))
  clear h hs hn z
  go_enter Try.func19, Try.ntmps19
  go_wp2
  refine bodyPost_ret (results_btwo Try.results19 _ _ _ _ _ _ rfl rfl HZ.out.1) rfl ?_
  exact bd_err 6 HE.out (by omega) HZ.out.2

set_option maxHeartbeats 1000000 in
theorem bdec_long (a : Option Addr) (n c : Nat) (l : List Int) (w : World) (h : Src w (.slice a n c) l) (hs : 1536 < l.length) :
    Calls Try.prog 19 #[.slice a n c] w fun r w' => BdOut l w r w' := by
  obtain ⟨hn, hc, hm⟩ := src_short h
  have hn3 : ¬ (n : Int) < 36 := by omega
  have hn4 : 1536 < (n : Int) := by omega
  have HE : Hid (bdE l = 2) := by unfold bdE; rw [if_neg (by omega), if_pos hs]; rfl
  have z := zeroB_new w
  have zs := z.zst
  have HZ : Hid _ := And.intro (z.set (g := zeroB) (y := .slice none 0 0)) (below_setRow ((Below.refl w.heap.size w).alloc (Nat.le_refl _) (.cells #[.int .u8 0, .int .u8 0, .int .u8 0, .int .u8 0, .int .u8 0, .int .u8 0, .int .u8 0, .int .u8 0, .int .u8 0, .int .u8 0, .int .u8 0, .int .u8 0, .int .i64 0, .bool false, .int .i64 0, .int .i64 0, .bool false, .bool false, .int .i64 0, .int .u8 0, .int .u8 0, .int .u8 0, .int .u8 0, .int .u8 0, .int .u8 0, .int .u8 0, .int .u8 0, .int .u8 0, .int .u8 0, .int .u8 0, .int .u8 0, .slice none 0 0] 30)) (Nat.le_refl w.heap.size) (bcs zeroB (.slice none 0 0)))
  clear h hs hn z
  go_enter Try.func19, Try.ntmps19
  go_wp2
  refine bodyPost_ret (results_btwo Try.results19 _ _ _ _ _ _ rfl rfl HZ.out.1) rfl ?_
  exact bd_err 2 HE.out (by omega) HZ.out.2

set_option maxHeartbeats 2000000 in
theorem bdec_mid (B o n c : Nat) (l : List Int) (w : World) (h : Src w (.slice (some ⟨B, o, none⟩) n c) l) (h36 : 36 ≤ l.length) (h15 : l.length ≤ 1536) (hb : ∀ x ∈ l, 0 ≤ x ∧ x ≤ 255) :
    Calls Try.prog 19 #[(.slice (some ⟨B, o, none⟩) n c)] w fun r w' => BdOut l w r w' := by
  obtain ⟨hn, hc, hm⟩ := src_short h
  have hn3 : ¬ (n : Int) < 36 := by omega
  have hn4 : ¬ 1536 < (n : Int) := by omega
  have z0 := zeroB_new w
  have z1 : BfAt ((w.alloc (.cells #[.int .u8 0, .int .u8 0, .int .u8 0, .int .u8 0, .int .u8 0, .int .u8 0, .int .u8 0, .int .u8 0, .int .u8 0, .int .u8 0, .int .u8 0, .int .u8 0, .int .i64 0, .bool false, .int .i64 0, .int .i64 0, .bool false, .bool false, .int .i64 0, .int .u8 0, .int .u8 0, .int .u8 0, .int .u8 0, .int .u8 0, .int .u8 0, .int .u8 0, .int .u8 0, .int .u8 0, .int .u8 0, .int .u8 0, .int .u8 0, .slice none 0 0] 30)).alloc (.cells #[.int .u8 0, .int .u8 0, .int .u8 0, .int .u8 0, .int .u8 0, .int .u8 0, .int .u8 0, .int .u8 0, .int .u8 0, .int .u8 0, .int .u8 0, .int .u8 0, .int .i64 0, .bool false, .int .i64 0, .int .i64 0, .bool false, .bool false, .int .i64 0, .int .u8 0, .int .u8 0, .int .u8 0, .int .u8 0, .int .u8 0, .int .u8 0, .int .u8 0, .int .u8 0, .int .u8 0, .int .u8 0, .int .u8 0, .int .u8 0, .slice none 0 0] 30)) w.heap.size zeroB (.slice none 0 0) := z0.below ((Below.refl _ _).alloc (Nat.le_refl _) _)
  have f1 : BfAt ((w.alloc (.cells #[.int .u8 0, .int .u8 0, .int .u8 0, .int .u8 0, .int .u8 0, .int .u8 0, .int .u8 0, .int .u8 0, .int .u8 0, .int .u8 0, .int .u8 0, .int .u8 0, .int .i64 0, .bool false, .int .i64 0, .int .i64 0, .bool false, .bool false, .int .i64 0, .int .u8 0, .int .u8 0, .int .u8 0, .int .u8 0, .int .u8 0, .int .u8 0, .int .u8 0, .int .u8 0, .int .u8 0, .int .u8 0, .int .u8 0, .int .u8 0, .slice none 0 0] 30)).alloc (.cells #[.int .u8 0, .int .u8 0, .int .u8 0, .int .u8 0, .int .u8 0, .int .u8 0, .int .u8 0, .int .u8 0, .int .u8 0, .int .u8 0, .int .u8 0, .int .u8 0, .int .i64 0, .bool false, .int .i64 0, .int .i64 0, .bool false, .bool false, .int .i64 0, .int .u8 0, .int .u8 0, .int .u8 0, .int .u8 0, .int .u8 0, .int .u8 0, .int .u8 0, .int .u8 0, .int .u8 0, .int .u8 0, .int .u8 0, .int .u8 0, .slice none 0 0] 30)) (w.heap.size + 1) zeroB (.slice none 0 0) := by have := zeroB_new (w.alloc (.cells #[.int .u8 0, .int .u8 0, .int .u8 0, .int .u8 0, .int .u8 0, .int .u8 0, .int .u8 0, .int .u8 0, .int .u8 0, .int .u8 0, .int .u8 0, .int .u8 0, .int .i64 0, .bool false, .int .i64 0, .int .i64 0, .bool false, .bool false, .int .i64 0, .int .u8 0, .int .u8 0, .int .u8 0, .int .u8 0, .int .u8 0, .int .u8 0, .int .u8 0, .int .u8 0, .int .u8 0, .int .u8 0, .int .u8 0, .int .u8 0, .slice none 0 0] 30)); simpa using this
  have b1 : Below w.heap.size w ((w.alloc (.cells #[.int .u8 0, .int .u8 0, .int .u8 0, .int .u8 0, .int .u8 0, .int .u8 0, .int .u8 0, .int .u8 0, .int .u8 0, .int .u8 0, .int .u8 0, .int .u8 0, .int .i64 0, .bool false, .int .i64 0, .int .i64 0, .bool false, .bool false, .int .i64 0, .int .u8 0, .int .u8 0, .int .u8 0, .int .u8 0, .int .u8 0, .int .u8 0, .int .u8 0, .int .u8 0, .int .u8 0, .int .u8 0, .int .u8 0, .int .u8 0, .slice none 0 0] 30)).alloc (.cells #[.int .u8 0, .int .u8 0, .int .u8 0, .int .u8 0, .int .u8 0, .int .u8 0, .int .u8 0, .int .u8 0, .int .u8 0, .int .u8 0, .int .u8 0, .int .u8 0, .int .i64 0, .bool false, .int .i64 0, .int .i64 0, .bool false, .bool false, .int .i64 0, .int .u8 0, .int .u8 0, .int .u8 0, .int .u8 0, .int .u8 0, .int .u8 0, .int .u8 0, .int .u8 0, .int .u8 0, .int .u8 0, .int .u8 0, .int .u8 0, .slice none 0 0] 30)) := ((Below.refl _ _).alloc (Nat.le_refl _) _).alloc (by simp) _
  obtain ⟨V, hV⟩ : ∃ V, ((w.alloc (.cells #[.int .u8 0, .int .u8 0, .int .u8 0, .int .u8 0, .int .u8 0, .int .u8 0, .int .u8 0, .int .u8 0, .int .u8 0, .int .u8 0, .int .u8 0, .int .u8 0, .int .i64 0, .bool false, .int .i64 0, .int .i64 0, .bool false, .bool false, .int .i64 0, .int .u8 0, .int .u8 0, .int .u8 0, .int .u8 0, .int .u8 0, .int .u8 0, .int .u8 0, .int .u8 0, .int .u8 0, .int .u8 0, .int .u8 0, .int .u8 0, .slice none 0 0] 30)).alloc (.cells #[.int .u8 0, .int .u8 0, .int .u8 0, .int .u8 0, .int .u8 0, .int .u8 0, .int .u8 0, .int .u8 0, .int .u8 0, .int .u8 0, .int .u8 0, .int .u8 0, .int .i64 0, .bool false, .int .i64 0, .int .i64 0, .bool false, .bool false, .int .i64 0, .int .u8 0, .int .u8 0, .int .u8 0, .int .u8 0, .int .u8 0, .int .u8 0, .int .u8 0, .int .u8 0, .int .u8 0, .int .u8 0, .int .u8 0, .int .u8 0, .slice none 0 0] 30)) = V := ⟨_, rfl⟩
  rw [hV] at z1 f1 b1
  obtain ⟨W0, st0, r0, b0, q0⟩ := row_new rt70 V #[.slice none 0 0, .bool false] #[(.slice (some ⟨B, o, none⟩) n c), .bool false] rfl rfl (by
    intro c hc
    simp only [List.mem_cons, List.not_mem_nil, or_false] at hc
    rcases hc with rfl | rfl <;> rfl)
  have hlt := f1.lt
  have D0 : Hid (Dst w W0 zeroB (.slice none 0 0) V.heap.size l false B o n c) := ⟨z1.below b0, f1.below b0, ⟨r0, h, below_over b1 b0, by omega⟩, hlt⟩
  have HL : Hid (36 ≤ l.length ∧ l.length ≤ 1536 ∧ ∀ x ∈ l, 0 ≤ x ∧ x ≤ 255) := ⟨h36, h15, hb⟩
  have HD : Hid (∀ k, ∀ x ∈ l.drop k, 0 ≤ x ∧ x ≤ 255) := fun k x hx => hb x (List.mem_of_mem_drop hx)
  clear h hn hc hm z0 z1 f1 b1 r0 b0 q0 h36 h15 hb hlt
  go_enter Try.func19, Try.ntmps19
  go_wp2_with fail
  clear hV
  obtain ⟨b, hb⟩ : ∃ b, V.heap.size = b := ⟨_, rfl⟩
  rw [hb] at D0 ⊢
  clear hb st0 hn3 hn4
  refine (address_any w W0 b l false B o n c D0.out.wk (by have := HL.out.1; omega)).mono ?_
  rintro _ W1 ⟨rfl, s1, k1⟩
  have d1 := D0.out.call k1 s1
  obtain ⟨V1, st1, hf1, ho1, _, hb1⟩ := d1.fr.std (m6 l 0)
  have e1 := d1.upd hf1 ho1 (hb1 w (by omega) d1.wk.below)
  obtain ⟨o1, n1, c1, D1⟩ : ∃ o' n' c', Hid (Dst w V1 (rb1 l) (.slice none 0 0) b (l.drop 6) false B o' n' c') := ⟨_, _, _, e1⟩
  clear D0 s1 k1 d1 hf1 ho1 hb1 e1
  go_wp2_with fail
  refine (address_any w V1 b (l.drop 6) false B o1 n1 c1 D1.out.wk (by have := HL.out.1; simp; omega)).mono ?_
  rintro _ W2 ⟨rfl, s2, k2⟩
  rw [List.drop_drop] at s2
  have d2 := D1.out.call k2 s2
  obtain ⟨V2, st2, hf2, ho2, _, hb2⟩ := d2.fr.sts (m6 (l.drop 6) 0)
  have e2 := d2.upd hf2 ho2 (hb2 w (by omega) d2.wk.below)
  rw [m6_drop] at e2
  obtain ⟨o2, n2, c2, D2⟩ : ∃ o' n' c', Hid (Dst w V2 (rb2 l) (.slice none 0 0) b (l.drop 12) false B o' n' c') := ⟨_, _, _, e2⟩
  clear D1 s2 k2 d2 hf2 ho2 hb2 e2 st1
  go_wp2_with fail
  refine (expect_any w V2 b (l.drop 12) false B o2 n2 c2 34984 D2.out.wk (by have := HL.out.1; simp; omega) (HD.out 12)).mono ?_
  rintro _ W3 ⟨rfl, s3, k3⟩
  rw [List.drop_drop, ty_take (by have := HL.out.1; simp; omega)] at s3
  obtain ⟨g3, hg3⟩ : ∃ g, (false || (tyN (l.drop 12) != 34984)) = g := ⟨_, rfl⟩
  rw [hg3] at s3
  have G3 : Hid ((false || (tyN (l.drop 12) != 34984)) = g3) := hg3
  obtain ⟨o3, n3, c3, D3⟩ : ∃ o' n' c', Hid (Dst w W3 (rb2 l) (.slice none 0 0) b (l.drop 14) g3 B o' n' c') := ⟨_, _, _, D2.out.call k3 s3⟩
  clear D2 s3 k3 hg3 st2
  go_wp2_with fail
  refine (vlan_any w W3 b (l.drop 14) g3 B o3 n3 c3 D3.out.wk (by have := HL.out.1; simp; omega) (HD.out 14)).mono ?_
  rintro _ W4 ⟨rfl, s4, k4⟩
  obtain ⟨t1, t2, t3, t4⟩ := tk_take (l := l.drop 14) (by have := HL.out.1; simp; omega)
  rw [List.drop_drop, t1] at s4
  rw [t2, t3, t4]
  obtain ⟨g4, hg4⟩ : ∃ g, (g3 || (tkE (l.drop 14) != 0)) = g := ⟨_, rfl⟩
  rw [hg4] at s4
  have G4 : Hid ((g3 || (tkE (l.drop 14) != 0)) = g4) := hg4
  have d4 := D3.out.call k4 s4
  obtain ⟨V4, st4, hf4, ho4, _, hb4⟩ := d4.fr.stb (tkP (l.drop 14)) (tkD (l.drop 14)) (tkV (l.drop 14))
  have e4 := d4.upd hf4 ho4 (hb4 w (by omega) d4.wk.below)
  obtain ⟨o4, n4, c4, D4⟩ : ∃ o' n' c', Hid (Dst w V4 (rb3 l) (.slice none 0 0) b (l.drop 16) g4 B o' n' c') := ⟨_, _, _, e4⟩
  clear D3 s4 k4 d4 hf4 ho4 hb4 e4 hg4 t1 t2 t3 t4
  go_wp2_with fail
  refine (expect_any w V4 b (l.drop 16) g4 B o4 n4 c4 35047 D4.out.wk (by have := HL.out.1; simp; omega) (HD.out 16)).mono ?_
  rintro _ W5 ⟨rfl, s5, k5⟩
  rw [List.drop_drop, ty_take (by have := HL.out.1; simp; omega)] at s5
  obtain ⟨g5, hg5⟩ : ∃ g, (g4 || (tyN (l.drop 16) != 35047)) = g := ⟨_, rfl⟩
  rw [hg5] at s5
  have G5 : Hid ((g4 || (tyN (l.drop 16) != 35047)) = g5) := hg5
  obtain ⟨o5, n5, c5, D5⟩ : ∃ o' n' c', Hid (Dst w W5 (rb3 l) (.slice none 0 0) b (l.drop 18) g5 B o' n' c') := ⟨_, _, _, D4.out.call k5 s5⟩
  clear D4 s5 k5 hg5 st4
  go_wp2_with fail
  refine (serv_any w W5 b (l.drop 18) g5 B o5 n5 c5 D5.out.wk (by have := HL.out.1; simp; omega) (HD.out 18)).mono ?_
  rintro _ W6 ⟨rfl, s6, k6⟩
  obtain ⟨t0, t1, t2, t3, t4, t5⟩ := ti_take (l := l.drop 18) (by have := HL.out.1; simp; omega)
  rw [List.drop_drop, t0] at s6
  rw [t1, t2, t3, t4, t5 4 (by omega), t5 5 (by omega), t5 6 (by omega), t5 7 (by omega), t5 8 (by omega), t5 9 (by omega), t5 10 (by omega), t5 11 (by omega), t5 12 (by omega), t5 13 (by omega), t5 14 (by omega), t5 15 (by omega)]
  obtain ⟨g6, hg6⟩ : ∃ g, (g5 || (tiE (l.drop 18) != 0)) = g := ⟨_, rfl⟩
  rw [hg6] at s6
  have G6 : Hid ((g5 || (tiE (l.drop 18) != 0)) = g6) := hg6
  have d6 := D5.out.call k6 s6
  obtain ⟨V6, st6, hf6, ho6, _, hb6⟩ := d6.fr.sti (rawB l)
  have st6 : (stS 27 (.pointer (some ⟨w.heap.size + 1, 15, none⟩)) (.agg #[.int .i64 (tiP (l.drop 18)), .bool (tiD (l.drop 18)), .bool (tiU (l.drop 18)), .int .i64 (tiI (l.drop 18)), .int .u8 (tiX (l.drop 18) 4), .int .u8 (tiX (l.drop 18) 5), .int .u8 (tiX (l.drop 18) 6), .int .u8 (tiX (l.drop 18) 7), .int .u8 (tiX (l.drop 18) 8), .int .u8 (tiX (l.drop 18) 9), .int .u8 (tiX (l.drop 18) 10), .int .u8 (tiX (l.drop 18) 11), .int .u8 (tiX (l.drop 18) 12), .int .u8 (tiX (l.drop 18) 13), .int .u8 (tiX (l.drop 18) 14), .int .u8 (tiX (l.drop 18) 15)])).run Try.prog W6 = .ok () V6 := st6
  have e6 := d6.upd hf6 ho6 (hb6 w (by omega) d6.wk.below)
  obtain ⟨o6, n6, c6, D6⟩ : ∃ o' n' c', Hid (Dst w V6 (rawB l) (.slice none 0 0) b (l.drop 34) g6 B o' n' c') := ⟨_, _, _, e6⟩
  have G : Hid (wrongB l = g6) := by
    show _ = _
    rw [← G6.out, ← G5.out, ← G4.out, ← G3.out]
    simp [wrongB, Bool.or_assoc]
  clear D5 s6 k6 d6 hf6 ho6 hb6 e6 hg6 t0 t1 t2 t3 t4 t5 G3 G4 G5 G6
  have h0 := D6.out.wk.c0
  have h31 := D6.out.fr.c31
  have lv := D6.out.fr.live
  have hr7 := D6.out.fr.rest (.slice (some ⟨B, o6, none⟩) n6 c6)
  have e7 := D6.out.upd hr7 (fun k hk => heap_setCell_other _ _ _ _ (by simpa using hk)) (D6.out.wk.below.setCell (by simp) _)
  obtain ⟨V7, hV7⟩ : ∃ V, V6.setCell ⟨w.heap.size + 1, 31, none⟩ (.slice (some ⟨B, o6, none⟩) n6 c6) = V := ⟨_, rfl⟩
  rw [hV7] at e7
  have D7 : Hid (Dst w V7 (rawB l) (.slice (some ⟨B, o6, none⟩) n6 c6) b (l.drop 34) g6 B o6 n6 c6) := e7
  have h1 := e7.wk.c1
  have ld7 := e7.fr.ld
  have HK : Hid _ := bcheck_any (rawB l) (.slice (some ⟨B, o6, none⟩) n6 c6) (l.drop 34) V7 (e7.wk.src.below e7.wk.below) (HD.out 34) (rawB_ok HL.out.2.2)
  obtain ⟨E, hE⟩ : ∃ E, chkB (rawB l) (l.drop 34) = E := ⟨_, rfl⟩
  rw [hE] at HK
  have HE : Hid (bdE l = if g6 || (E != 0) then 40 else 0) := by
    show _ = _
    unfold bdE
    rw [if_neg (by have := HL.out.1; omega), if_neg (by have := HL.out.2.1; omega), G.out, hE]
  clear hr7 e7 hE D6 G
  cases g6
  rotate_left
  · have zs := D7.out.z.zst
    have HZ : Hid _ := D7.out.zat zeroB (.slice none 0 0)
    clear HK
    go_wp2
    refine bodyPost_ret (results_btwo Try.results19 _ _ _ _ _ _ rfl rfl HZ.out.1) rfl ?_
    exact bd_err 40 HE.out (by omega) HZ.out.2
  cases he : (E != 0)
  rotate_left
  · go_wp2_with fail
    refine Calls.mono HK.out ?_
    rintro _ W8 ⟨rfl, hb8⟩
    have d8 := D7.out.later hb8
    have zs := d8.z.zst
    have HZ : Hid _ := d8.zat zeroB (.slice none 0 0)
    clear HK d8 hb8
    go_wp2
    refine bodyPost_ret (results_btwo Try.results19 _ _ _ _ _ _ rfl rfl HZ.out.1) rfl ?_
    exact bd_err 40 (by rw [HE.out, he]; rfl) (by omega) HZ.out.2
  · go_wp2_with fail
    refine Calls.mono HK.out ?_
    rintro _ W8 ⟨rfl, hb8⟩
    have D8 : Hid (Dst w W8 (rawB l) (.slice (some ⟨B, o6, none⟩) n6 c6) b (l.drop 34) false B o6 n6 c6) := D7.out.later hb8
    have k31 := D8.out.fr.c31
    clear HK hb8 D7 ld7 h1 hV7 h0 h31 lv
    go_wp2_with fail
    refine (clone_v _ (l.drop 34) _ (D8.out.wk.src.below D8.out.wk.below) (by have := HL.out.2.1; simp; omega)).mono ?_
    rintro _ W9 ⟨s9, rfl, ho9, hb9⟩
    obtain ⟨a9, n9, c9, rfl⟩ := src_form ho9.src
    have D9 : Hid (Dst w W9 (rawB l) (.slice (some ⟨B, o6, none⟩) n6 c6) b (l.drop 34) false B o6 n6 c6) := D8.out.later hb9
    have O9 : Hid (Own W9 w.heap.size (.slice a9 n9 c9) (l.drop 34) ∧ ∀ k, (Value.slice a9 n9 c9).ownBlock = some k → w.heap.size + 1 < k) := ⟨ho9.base D8.out.wk.below.size, fun k hk => by have h1 := (ho9.block k hk).1; have h2 := D8.out.fr.lt; omega⟩
    have m31 := D9.out.fr.c31
    have lv := D9.out.fr.live
    have hrx := D9.out.fr.rest (.slice a9 n9 c9)
    have ex := D9.out.upd hrx (fun k hk => heap_setCell_other _ _ _ _ (by simpa using hk)) (D9.out.wk.below.setCell (by simp) _)
    have ldx := ex.fr.ld
    have stx := ex.z.st (g := rawB l) (y := .slice a9 n9 c9) rfl
    have HZ : Hid _ := ex.zat (rawB l) (.slice a9 n9 c9)
    clear hrx ex ho9 hb9 D8 k31
    go_wp2
    refine bodyPost_ret (results_btwo Try.results19 _ _ _ _ _ _ rfl rfl HZ.out.1) rfl ?_
    refine bd_ok (by rw [HE.out, he]; rfl) ?_ HZ.out.2
    refine O9.out.1.of_block fun k hk => ?_
    have := O9.out.2 k hk
    rw [setRow_other _ _ _ _ (by omega), heap_setCell_other _ _ _ _ (by simp; omega)]

theorem bdec_any (x : Value) (l : List Int) (w : World) (h : Src w x l) (hb : ∀ x ∈ l, 0 ≤ x ∧ x ≤ 255) :
    Calls Try.prog 19 #[x] w fun r w' => BdOut l w r w' := by
  obtain ⟨a, n, c, rfl⟩ := src_form h
  by_cases h1 : l.length < 36
  · exact bdec_short a n c l w h h1
  by_cases h2 : 1536 < l.length
  · exact bdec_long a n c l w h h2
  obtain ⟨b, o, rfl, _, _⟩ := src_some h (by omega)
  exact bdec_mid b o n c l w h (by omega) (by omega) hb
end Go.Proofs.Yteljcgdenagcmaa
