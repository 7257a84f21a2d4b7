/-
  What becomes of a frame at a port: walks of gateOf, members, isMember, In, Learns, Accept, each for every input.
-/
import Derived.Test.YtcejfkkhmlebdaaBf
namespace Go.Proofs.Ytcejfkkhmlebdaa
set_option linter.unusedVariables false
set_option maxRecDepth 4000
set_option linter.unusedSimpArgs false
open Go.RowKit
attribute [local go_sem ↓] ldM stM ldC stC ldB stB ldP stP apI bsI ldO ldF stF ldG stG bdG eqgO neqO eqlO
attribute [local go_sem] bsI_is bdG_is bdG_z fdG0 fdG1

set_option maxHeartbeats 2000000 in
theorem gate_any (a : Option Addr) (n c : Nat) (l : List Gt) (port : Int) (w : World) (hs : SlAt eG w a n c l) :
    Calls Try.prog 20 #[.slice a n c, .int .i64 port] w fun r w' => r = .returned (.agg (gAt l port).cs) ∧ Below w.heap.size w w' := by
  obtain ⟨V, s0, m0, bV, _⟩ := GtAt.put w (gAt l port)
  have hnn := hs.int
  have G : Hid (GtAt V w.heap.size (gAt l port) ∧ Below w.heap.size w V) := ⟨m0, bV⟩
  clear m0 bV
  by_cases h1 : port < 0
  · have d1 : decide (port < 0) = true := by simpa using h1
    rw [gAt_neg h1] at s0 G ⊢
    clear h1 hs
    go_enter Try.func20, Try.ntmps20
    go_wp2
    refine bodyPost_ret (results_row rtG Try.results20 _ _ _ _ rfl G.out.1 rfl) rfl ?_
    exact ⟨rfl, G.out.2⟩
  · have d1 : decide (port < 0) = false := by simpa using h1
    by_cases h2 : (n : Int) ≤ port
    · have d2 : decide (port ≥ (n : Int)) = true := by simpa using h2
      have d2' : decide ((n : Int) ≤ port) = true := by simpa using h2
      rw [gAt_out (by rw [hs.len]; exact h2)] at s0 G ⊢
      clear h1 h2 hs
      go_enter Try.func20, Try.ntmps20
      go_wp2
      refine bodyPost_ret (results_row rtG Try.results20 _ _ _ _ rfl G.out.1 rfl) rfl ?_
      exact ⟨rfl, G.out.2⟩
    · have d2 : decide (port ≥ (n : Int)) = false := by simpa using h2
      have d2' : decide ((n : Int) ≤ port) = false := by simpa using h2
      have hj : port.toNat < n := by omega
      have hj0 : (0 : Int) ≤ port := by omega
      have hj1 : port < (n : Int) := by omega
      obtain ⟨b, o, rfl⟩ := hs.some' (by omega)
      obtain ⟨y, hy⟩ := lt_nth (l := l) (i := port.toNat) (by rw [hs.len]; exact hj)
      rw [gAt_in h1 hy] at s0 G ⊢
      have l0 := lG (hs.below ((Below.refl _ _).alloc (Nat.le_refl _) (.cells #[.bool false, .bool false] 37))) hy
      clear h1 h2 hs hj hy
      go_enter Try.func20, Try.ntmps20
      go_wp2
      refine bodyPost_ret (results_row rtG Try.results20 _ _ _ _ rfl G.out.1 rfl) rfl ?_
      exact ⟨rfl, G.out.2⟩
/-- The ports of a frame's VLAN. -/
def mems (p : Pv) (v : Int) : List Int := (pts p v).getD []
theorem mem_any (x : Pr) (p : Pv) (f : Bf) (w : World) (h : IsPv w x p) (hl : ∀ m ∈ p.bs, m.ps.length ≤ 1000) :
    Calls Try.prog 21 #[.agg x.cs, .agg f.cs] w fun r w' => (∃ v, r = .returned v ∧ Own eI w' w.heap.size v (mems p f.v)) ∧ Below w.heap.size w w' := by
  obtain ⟨W, hW, r0, bW, zW⟩ := PrAt.new w x
  obtain ⟨V, hV, r1, bV, zV⟩ := FrAt.new W f
  have l0 := (r0.below bV).ld
  have c0 := r1.v
  have H : Hid (IsPv V x p ∧ Below w.heap.size w V ∧ ∀ m ∈ p.bs, m.ps.length ≤ 1000) := ⟨(h.below bW).below bV, below_over bW bV, hl⟩
  clear r0 r1 bW bV zW zV h hl
  go_enter Try.func21, Try.ntmps21
  go_wp2_with fail
  refine (pts_any x p f.v V H.out.1 H.out.2.2).mono ?_
  rintro _ X ⟨v, rfl, oX, bX⟩
  have G : Hid (Own eI X w.heap.size v (mems p f.v) ∧ Below w.heap.size w X) := ⟨oX.mono H.out.2.1.size, below_over H.out.2.1 bX⟩
  clear oX bX
  go_wp2
  go_ret
  exact ⟨⟨_, rfl, G.out.1⟩, G.out.2⟩
set_option maxHeartbeats 2000000 in
theorem idx_any (a : Option Addr) (n c : Nat) (l : List Int) (x : Int) (w : World) (hs : SlAt eI w a n c l) :
    Calls Try.prog 41 #[.slice a n c, .int .i64 x] w fun r w' => (∃ k : Int, r = .returned (.int .i64 k) ∧ decide (k ≥ 0) = l.any (· == x)) ∧ Below w.heap.size w w' := by
  have hnn := hs.int
  obtain ⟨R, hR⟩ : ∃ z, l.any (· == x) = z := ⟨_, rfl⟩
  have H : Hid (SlAt eI w a n c l ∧ l.length = n) := ⟨hs, hs.len⟩
  have HR : Hid (R = l.any (· == x)) := hR.symm
  rw [hR]
  clear hs hR
  go_enter Try.func41, Try.ntmps41
  go_wp2_with fail
  go_loopw [8] (fun v wr => ∃ i : Nat, i ≤ n ∧ v = .int .i64 i ∧ R = (l.drop i).any (· == x) ∧ Below w.heap.size w wr) (fun v _ => n - (intOf v).toNat)
  case atStart => exact ⟨0, by omega, rfl, HR.out, Below.refl _ _⟩
  case round =>
    obtain ⟨i, hi, rfl, hf, hB⟩ := hrel
    have J : Hid (R = (l.drop i).any (· == x) ∧ Below w.heap.size w wr) := ⟨hf, hB⟩
    have hi0 : (0 : Int) ≤ (i : Int) := by omega
    by_cases hit : i < n
    · have hi1 : (i : Int) < (n : Int) := by omega
      obtain ⟨b, o, rfl⟩ := H.out.1.some' (by omega)
      obtain ⟨y, hy⟩ := lt_nth (l := l) (i := i) (by rw [H.out.2]; exact hit)
      have l0 := lI (H.out.1.below J.out.2) hy
      have HX : Hid (l[i]? = some y) := hy
      clear hf hB hy
      by_cases e0 : x = y
      · have e1 : (x == y) = true := by simp [e0]
        have E : Hid (R = true) := by rw [J.out.1, drop_at HX.out, List.any_cons, show (y == x) = true by simp [e0]]; exact rfl
        clear e0
        go_wp2
        go_ret
        exact ⟨⟨_, rfl, by rw [E.out]; simp⟩, J.out.2⟩
      · have e1 : (x == y) = false := by simp [e0]
        have E : Hid (R = (l.drop (i + 1)).any (· == x)) := by rw [J.out.1, drop_at HX.out, List.any_cons, show (y == x) = false by simp; exact fun h => e0 h.symm]; exact rfl
        clear e0
        go_wp2
        go_roundw
        case rel => exact ⟨i + 1, by omega, by go_num, E.out, J.out.2⟩
        case measure => simp [intOf]; omega
    · have hin : i = n := by omega
      subst hin
      have hi1 : ¬ (i : Int) < (i : Int) := by omega
      have E : Hid (R = false) := by rw [J.out.1, drop_end (by rw [H.out.2]; exact Nat.le_refl _)]; exact rfl
      clear hf hB
      go_wp2
      go_ret
      exact ⟨⟨_, rfl, by rw [E.out]; rfl⟩, J.out.2⟩
theorem has_any (a : Option Addr) (n c : Nat) (l : List Int) (x : Int) (w : World) (hs : SlAt eI w a n c l) :
    Calls Try.prog 37 #[.slice a n c, .int .i64 x] w fun r w' => r = .returned (.bool (l.any (· == x))) ∧ Below w.heap.size w w' := by
  have Q : Hid (Calls _ _ _ _ _) := idx_any a n c l x w hs
  clear hs
  go_enter Try.func37, Try.ntmps37
  go_wp2_with fail
  refine Q.out.mono ?_
  rintro _ Y ⟨⟨k, rfl, hk⟩, hY⟩
  have G : Hid (decide (k ≥ 0) = l.any (· == x) ∧ Below w.heap.size w Y) := ⟨hk, hY⟩
  clear hk hY
  go_wp2
  go_ret
  exact ⟨ret_bool G.out.1, G.out.2⟩
/-- Is a port a member for a frame? -/
def isM (p : Pv) (v port : Int) : Bool := (mems p v).any (· == port)
theorem ism_any (x : Pr) (p : Pv) (f : Bf) (port : Int) (w : World) (h : IsPv w x p) (hl : ∀ m ∈ p.bs, m.ps.length ≤ 1000) :
    Calls Try.prog 26 #[.agg x.cs, .int .i64 port, .agg f.cs] w fun r w' => r = .returned (.bool (isM p f.v port)) ∧ Below w.heap.size w w' := by
  obtain ⟨W, hW, r0, bW, zW⟩ := PrAt.new w x
  obtain ⟨V, hV, r1, bV, zV⟩ := FrAt.new W f
  have l0 := (r0.below bV).ld
  have l1 := r1.ld
  have H : Hid (IsPv V x p ∧ Below w.heap.size w V ∧ ∀ m ∈ p.bs, m.ps.length ≤ 1000) := ⟨(h.below bW).below bV, below_over bW bV, hl⟩
  clear r0 r1 bW bV zW zV h hl
  have P := mem_any x p f V H.out.1 H.out.2.2
  obtain ⟨L, hL⟩ : ∃ z, mems p f.v = z := ⟨_, rfl⟩
  rw [show isM p f.v port = L.any (· == port) by unfold isM; rw [hL]]
  rw [hL] at P
  have Q : Hid (Calls _ _ _ _ _) := P
  clear P hL
  go_enter Try.func26, Try.ntmps26
  go_wp2_with fail
  refine Q.out.mono ?_
  rintro _ X ⟨⟨v, rfl, oX⟩, bX⟩
  obtain ⟨a, c, rfl, sX, _⟩ := oX.form
  obtain ⟨n, hn⟩ : ∃ z, L.length = z := ⟨_, rfl⟩
  rw [hn] at sX ⊢
  have G : Hid (SlAt eI X a n c L ∧ Below w.heap.size w X) := ⟨sX, below_over H.out.2.1 bX⟩
  clear sX oX bX hn
  go_wp2_with fail
  refine (has_any a n c L port X G.out.1).mono ?_
  rintro _ Y ⟨rfl, hY⟩
  go_wp2
  go_ret
  exact ⟨rfl, below_over G.out.2 hY⟩
def inF (a b : Bool) (k : Int) (g : Bool) : Int := if a = false then 8 else if b = true then 11 else if k = 4 then 10 else if g = false then 9 else 0
/-- Why a frame does not come in. -/
def inC (p : Pv) (g : List Gt) (port : Int) (f : Bf) : Int :=
  inF (isM p f.v port) (eqO f.s p.o) (cls f.d) (gAt g port).f
set_option maxHeartbeats 4000000 in
theorem in_any (x : Pr) (p : Pv) (ga : Option Addr) (gn gc : Nat) (g : List Gt) (port : Int) (f : Bf) (w : World) (h : IsPv w x p) (hl : ∀ m ∈ p.bs, m.ps.length ≤ 1000) (hg : SlAt eG w ga gn gc g) (hf : f.ok) :
    Calls Try.prog 15 #[.agg x.cs, .slice ga gn gc, .int .i64 port, .agg f.cs] w fun r w' => r = .returned (.int .i64 (inC p g port f)) ∧ Below w.heap.size w w' := by
  obtain ⟨W, hW, r0, bW, zW⟩ := PrAt.new w x
  obtain ⟨V, hV, r1, bV, zV⟩ := FrAt.new W f
  have H : Hid (IsPv V x p ∧ Below w.heap.size w V ∧ (∀ m ∈ p.bs, m.ps.length ≤ 1000) ∧ SlAt eG V ga gn gc g ∧ f.ok ∧ PrAt V w.heap.size x ∧ FrAt V W.heap.size f) := ⟨(h.below bW).below bV, below_over bW bV, hl, (hg.below bW).below bV, hf, r0.below bV, r1⟩
  have hO : x.o = p.o := h.o
  clear r0 r1 bW bV zW zV h hl hg hf
  have l0 := H.out.2.2.2.2.2.1.ld
  have l1 := H.out.2.2.2.2.2.2.ld
  obtain ⟨b1, h1⟩ : ∃ z, isM p f.v port = z := ⟨_, rfl⟩
  obtain ⟨b2, h2⟩ : ∃ z, eqO f.s x.o = z := ⟨_, rfl⟩
  obtain ⟨k3, h3⟩ : ∃ z, cls f.d = z := ⟨_, rfl⟩
  obtain ⟨gt, h4⟩ : ∃ z, gAt g port = z := ⟨_, rfl⟩
  have E : inC p g port f = inF b1 b2 k3 gt.f := by unfold inC; rw [h1, ← hO, h2, h3, h4]
  obtain ⟨gf, hgf⟩ : ∃ z, gt.f = z := ⟨_, rfl⟩
  rw [hgf] at E
  rw [E]
  have Q1 : Hid (isM p f.v port = b1) := h1
  have Q3 : Hid (kindOf f.d.a f.d.b f.d.c f.d.d f.d.e f.d.f = k3) := h3
  have Q4 : Hid (Value.agg (gAt g port).cs = Value.agg gt.cs) := by rw [h4]; exact rfl
  clear E h1 h3 h4 hO
  go_enter Try.func15, Try.ntmps15
  go_wp2_with fail
  refine (ret_b (ism_any x p f port V H.out.1 H.out.2.2.1) Q1.out).mono ?_
  rintro _ X1 ⟨rfl, hb1⟩
  clear l0 l1
  have M1 : Hid (Below w.heap.size w X1 ∧ SlAt eG X1 ga gn gc g) := ⟨below_over H.out.2.1 hb1, H.out.2.2.2.1.below hb1⟩
  have l2 := (H.out.2.2.2.2.2.1.below hb1).own'
  have l3 := (H.out.2.2.2.2.2.2.below hb1).sa
  have l4 := (H.out.2.2.2.2.2.2.below hb1).da
  clear hb1
  cases b1 with
  | false =>
    clear l2 l3 l4
    go_wp2
    go_ret
    exact ⟨rfl, M1.out.1⟩
  | true =>
    cases b2 with
    | true =>
      go_wp2
      go_ret
      exact ⟨rfl, M1.out.1⟩
    | false =>
      go_wp2_with fail
      refine (ret_i (kind_any f.d.a f.d.b f.d.c f.d.d f.d.e f.d.f X1 H.out.2.2.2.2.1.d) Q3.out).mono ?_
      rintro _ X2 ⟨rfl, hb2⟩
      have M2 : Hid (Below w.heap.size w X2 ∧ SlAt eG X2 ga gn gc g) := ⟨below_over M1.out.1 hb2, M1.out.2.below hb2⟩
      clear hb2 l2 l3 l4
      by_cases e4 : k3 = 4
      · have q4 : (k3 == 4) = true := by simp [e4]
        have Z : Hid (k3 = 4) := e4
        clear e4
        go_wp2
        go_ret
        exact ⟨ret_int (by rw [Z.out]; exact rfl), M2.out.1⟩
      · have q4 : (k3 == 4) = false := by simp [e4]
        have Z : Hid (¬ k3 = 4) := e4
        clear e4
        go_wp2_with fail
        refine (Calls.ret_eq Q4.out (gate_any ga gn gc g port X2 M2.out.2)).mono ?_
        rintro _ X3 ⟨rfl, hb3⟩
        have M3 : Hid (Below w.heap.size w X3) := below_over M2.out.1 hb3
        clear hb3
        cases gf with
        | false =>
          go_wp2
          go_ret
          exact ⟨ret_int (by unfold inF; rw [if_neg (by decide), if_neg (by decide), if_neg Z.out]; exact rfl), M3.out⟩
        | true =>
          go_wp2
          go_ret
          exact ⟨ret_int (by unfold inF; rw [if_neg (by decide), if_neg (by decide), if_neg Z.out]; exact rfl), M3.out⟩
/-- Is a frame's sender learned? -/
def lrC (p : Pv) (g : List Gt) (port : Int) (f : Bf) : Bool := isM p f.v port && (gAt g port).l && !(eqO f.s p.o) && (cls f.s == 1)
set_option maxHeartbeats 4000000 in
theorem learns_any (x : Pr) (p : Pv) (ga : Option Addr) (gn gc : Nat) (g : List Gt) (port : Int) (f : Bf) (w : World) (h : IsPv w x p) (hl : ∀ m ∈ p.bs, m.ps.length ≤ 1000) (hg : SlAt eG w ga gn gc g) (hf : f.ok) :
    Calls Try.prog 17 #[.agg x.cs, .slice ga gn gc, .int .i64 port, .agg f.cs] w fun r w' => r = .returned (.bool (lrC p g port f)) ∧ Below w.heap.size w w' := by
  obtain ⟨W, hW, r0, bW, zW⟩ := PrAt.new w x
  obtain ⟨V, hV, r1, bV, zV⟩ := FrAt.new W f
  have H : Hid (IsPv V x p ∧ Below w.heap.size w V ∧ (∀ m ∈ p.bs, m.ps.length ≤ 1000) ∧ SlAt eG V ga gn gc g ∧ f.ok ∧ PrAt V w.heap.size x ∧ FrAt V W.heap.size f) := ⟨(h.below bW).below bV, below_over bW bV, hl, (hg.below bW).below bV, hf, r0.below bV, r1⟩
  have hO : x.o = p.o := h.o
  clear r0 r1 bW bV zW zV h hl hg hf
  have l0 := H.out.2.2.2.2.2.1.ld
  have l1 := H.out.2.2.2.2.2.2.ld
  obtain ⟨b1, h1⟩ : ∃ z, isM p f.v port = z := ⟨_, rfl⟩
  obtain ⟨b2, h2⟩ : ∃ z, eqO f.s x.o = z := ⟨_, rfl⟩
  obtain ⟨k3, h3⟩ : ∃ z, cls f.s = z := ⟨_, rfl⟩
  obtain ⟨gt, h4⟩ : ∃ z, gAt g port = z := ⟨_, rfl⟩
  have E : lrC p g port f = (b1 && gt.l && !b2 && (k3 == 1)) := by unfold lrC; rw [h1, ← hO, h2, h3, h4]
  obtain ⟨gl, hgl⟩ : ∃ z, gt.l = z := ⟨_, rfl⟩
  rw [hgl] at E
  rw [E]
  have Q1 : Hid (isM p f.v port = b1) := h1
  have Q3 : Hid (kindOf f.s.a f.s.b f.s.c f.s.d f.s.e f.s.f = k3) := h3
  have Q4 : Hid (Value.agg (gAt g port).cs = Value.agg gt.cs) := by rw [h4]; exact rfl
  clear E h1 h3 h4 hO
  go_enter Try.func17, Try.ntmps17
  go_wp2_with fail
  refine (ret_b (ism_any x p f port V H.out.1 H.out.2.2.1) Q1.out).mono ?_
  rintro _ X1 ⟨rfl, hb1⟩
  clear l0 l1
  have M1 : Hid (Below w.heap.size w X1 ∧ SlAt eG X1 ga gn gc g ∧ PrAt X1 w.heap.size x ∧ FrAt X1 W.heap.size f) := ⟨below_over H.out.2.1 hb1, H.out.2.2.2.1.below hb1, H.out.2.2.2.2.2.1.below hb1, H.out.2.2.2.2.2.2.below hb1⟩
  clear hb1
  cases b1 with
  | false =>
    go_wp2
    go_ret
    exact ⟨rfl, M1.out.1⟩
  | true =>
    go_wp2_with fail
    refine (Calls.ret_eq Q4.out (gate_any ga gn gc g port X1 M1.out.2.1)).mono ?_
    rintro _ X2 ⟨rfl, hb2⟩
    have M2 : Hid (Below w.heap.size w X2) := below_over M1.out.1 hb2
    have l2 := (M1.out.2.2.1.below hb2).own'
    have l3 := (M1.out.2.2.2.below hb2).sa
    clear hb2
    cases gl with
    | false =>
      clear l2 l3
      go_wp2
      go_ret
      exact ⟨rfl, M2.out⟩
    | true =>
      cases b2 with
      | true =>
        go_wp2
        go_ret
        exact ⟨rfl, M2.out⟩
      | false =>
        go_wp2_with fail
        refine (ret_i (kind_any f.s.a f.s.b f.s.c f.s.d f.s.e f.s.f X2 H.out.2.2.2.2.1.s) Q3.out).mono ?_
        rintro _ X3 ⟨rfl, hb3⟩
        have M3 : Hid (Below w.heap.size w X3) := below_over M2.out hb3
        clear hb3 l2 l3
        go_wp2
        go_ret
        exact ⟨rfl, M3.out⟩
def acF (b : Bool) (v u : Int) : Int := if b = true ∧ v = u then 0 else 7
/-- Why a frame is not for the bridge's customers. -/
def acC (p : Pv) (f : Bf) : Int := acF (car p f.i).2 (car p f.i).1 f.v
set_option maxHeartbeats 4000000 in
theorem accept_any (x : Pr) (p : Pv) (f : Bf) (w : World) (h : IsPv w x p) :
    Calls Try.prog 16 #[.agg x.cs, .agg f.cs] w fun r w' => r = .returned (.int .i64 (acC p f)) ∧ Below w.heap.size w w' := by
  obtain ⟨W, hW, r0, bW, zW⟩ := PrAt.new w x
  obtain ⟨V, hV, r1, bV, zV⟩ := FrAt.new W f
  have H : Hid (IsPv V x p ∧ Below w.heap.size w V ∧ FrAt V W.heap.size f) := ⟨(h.below bW).below bV, below_over bW bV, r1⟩
  have l0 := (r0.below bV).ld
  have c0 := r1.i
  clear r0 r1 bW bV zW zV h
  obtain ⟨⟨cv, cb⟩, hc⟩ : ∃ z, car p f.i = z := ⟨_, rfl⟩
  have Q : Hid (Value.tuple #[.int .i64 (car p f.i).1, .bool (car p f.i).2] = Value.tuple #[.int .i64 cv, .bool cb]) := by rw [hc]; exact rfl
  have E : acC p f = acF cb cv f.v := by unfold acC; rw [hc]
  rw [E]
  clear E hc
  go_enter Try.func16, Try.ntmps16
  go_wp2_with fail
  refine (Calls.ret_eq Q.out (car_any x p f.i V H.out.1)).mono ?_
  rintro _ X1 ⟨rfl, hb⟩
  have M : Hid (Below w.heap.size w X1) := below_over H.out.2.1 hb
  have c1 := (H.out.2.2.below hb).v
  clear hb l0 c0
  cases cb with
  | false =>
    go_wp2
    go_ret
    exact ⟨ret_int (by unfold acF; rw [if_neg (by simp)]), M.out⟩
  | true =>
    by_cases e : cv = f.v
    · have q : (cv != f.v) = false := by simp [e]
      have Z : Hid (cv = f.v) := e
      clear e
      go_wp2
      go_ret
      exact ⟨ret_int (by unfold acF; rw [if_pos ⟨rfl, Z.out⟩]), M.out⟩
    · have q : (cv != f.v) = true := by simp [e]
      have Z : Hid (¬ cv = f.v) := e
      clear e
      go_wp2
      go_ret
      exact ⟨ret_int (by unfold acF; rw [if_neg (fun h => Z.out h.2)]), M.out⟩
end Go.Proofs.Ytcejfkkhmlebdaa
