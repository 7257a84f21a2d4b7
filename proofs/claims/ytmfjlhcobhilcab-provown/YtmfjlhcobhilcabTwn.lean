/-
  What is provisioned in memory of one's own: plain laws, and the walks of twinMember and twin, each for every input.
-/
import Derived.Test.YtmfjlhcobhilcabPut
namespace Go.Proofs.Ytmfjlhcobhilcab
set_option linter.unusedVariables false
set_option maxRecDepth 4000
set_option linter.unusedSimpArgs false
open Go.RowKit
attribute [local go_sem ↓] ldM stM ldC stC ldB stB ldP stP apI bsI
attribute [local go_sem] bsI_is bsI2_is

attribute [local go_sem ↓] stIs stKs stMs stCs stBs
/-- Two rows, one for one. -/
def Al (R : Mr → Mb → Prop) : List Mr → List Mb → Prop
  | [], [] => True
  | x :: r, y :: l => R x y ∧ Al R r l
  | _, _ => False
theorem Al.len {R : Mr → Mb → Prop} : ∀ {r : List Mr} {l : List Mb}, Al R r l → r.length = l.length
  | [], [], _ => rfl
  | x :: r, y :: l, h => by rw [List.length_cons, List.length_cons, h.2.len]
  | [], _ :: _, h => h.elim
  | _ :: _, [], h => h.elim
theorem Al.mono {R S : Mr → Mb → Prop} (hm : ∀ x y, R x y → S x y) : ∀ {r : List Mr} {l : List Mb}, Al R r l → Al S r l
  | [], [], _ => trivial
  | x :: r, y :: l, h => ⟨hm x y h.1, h.2.mono hm⟩
  | [], _ :: _, h => h.elim
  | _ :: _, [], h => h.elim
theorem Al.snoc {R : Mr → Mb → Prop} {x : Mr} {y : Mb} (hx : R x y) : ∀ {r : List Mr} {l : List Mb}, Al R r l → Al R (r ++ [x]) (l ++ [y])
  | [], [], _ => ⟨hx, trivial⟩
  | a :: r, b :: l, h => ⟨h.1, h.2.snoc hx⟩
  | [], _ :: _, h => h.elim
  | _ :: _, [], h => h.elim
theorem Al.put {R : Mr → Mb → Prop} {x : Mr} {y : Mb} {c : Mr → Int} {d : Mb → Int} (hx : R x y) (hc : ∀ a b, R a b → c a = d b) : ∀ {r : List Mr} {l : List Mb}, Al R r l → Al R (putL c x r) (putL d y l)
  | [], [], _ => ⟨hx, trivial⟩
  | a :: r, b :: l, h => by
    rw [putL, putL, hc a b h.1]
    split
    · exact ⟨h.1, h.2.put hx hc⟩
    · split
      · exact ⟨hx, h.2⟩
      · exact ⟨hx, h.1, h.2⟩
  | [], _ :: _, h => h.elim
  | _ :: _, [], h => h.elim
theorem Al.fil {R : Mr → Mb → Prop} {c : Mr → Bool} {d : Mb → Bool} (hc : ∀ a b, R a b → c a = d b) : ∀ {r : List Mr} {l : List Mb}, Al R r l → Al R (r.filter c) (l.filter d)
  | [], [], _ => trivial
  | a :: r, b :: l, h => by
    rw [List.filter_cons, List.filter_cons, hc a b h.1]
    split
    · exact ⟨h.1, h.2.fil hc⟩
    · exact h.2.fil hc
  | [], _ :: _, h => h.elim
  | _ :: _, [], h => h.elim
theorem Al.at' {R : Mr → Mb → Prop} : ∀ {r : List Mr} {l : List Mb}, Al R r l → ∀ (i : Nat) (x : Mr) (y : Mb), r[i]? = some x → l[i]? = some y → R x y
  | [], [], _, i, x, y, hx, _ => by simp at hx
  | a :: r, b :: l, h, 0, x, y, hx, hy => by
    simp at hx hy
    rw [← hx, ← hy]
    exact h.1
  | a :: r, b :: l, h, i + 1, x, y, hx, hy => h.2.at' i x y (by simpa using hx) (by simpa using hy)
  | [], _ :: _, h, _, _, _, _, _ => h.elim
  | _ :: _, [], h, _, _, _, _, _ => h.elim
/-- A member whose ports are one's own. -/
def OwnP (W : World) (B : Nat) (x : Mr) (y : Mb) : Prop := x.v = y.v ∧ Own eI W B (.slice x.a x.n x.c) y.ps
theorem Al.mem {W : World} {B : Nat} {r : List Mr} {l : List Mb} (h : Al (OwnP W B) r l) : Mem W r l := by
  refine ⟨h.len, fun i x y hx hy => ?_⟩
  obtain ⟨h1, h2⟩ := h.at' i x y hx hy
  obtain ⟨a, c, e, hs, _⟩ := h2.form
  simp only [Value.slice.injEq] at e
  rw [e.1, e.2.1, e.2.2]
  exact ⟨h1, hs⟩
/-- What is provisioned, all in memory from B on. -/
structure IsOwn (W : World) (B : Nat) (x : Pr) (p : Pv) : Prop where
  o : x.o = p.o
  wf : p.o.wf
  k : Own eK W B x.k p.ks
  m : Own eM W B x.m p.ms
  c : Own eC W B x.c p.cs
  b : ∃ r, Own eB W B x.b r ∧ Al (OwnP W B) r p.bs
theorem IsOwn.pv {W : World} {B : Nat} {x : Pr} {p : Pv} (h : IsOwn W B x p) : IsPv W x p := by
  obtain ⟨r, h1, h2⟩ := h.b
  exact ⟨h.o, h.wf, h.k.slv, h.m.slv, h.c.slv, ⟨r, h1.slv, h2.mem⟩⟩
theorem IsOwn.below {W W' : World} {B : Nat} {x : Pr} {p : Pv} (h : IsOwn W B x p) (hb : Below W.heap.size W W') : IsOwn W' B x p := by
  obtain ⟨r, h1, h2⟩ := h.b
  exact ⟨h.o, h.wf, h.k.below hb, h.m.below hb, h.c.below hb, ⟨r, h1.below hb, h2.mono fun a b h => ⟨h.1, h.2.below hb⟩⟩⟩
theorem IsOwn.mono {W : World} {B B' : Nat} {x : Pr} {p : Pv} (h : IsOwn W B x p) (hb : B' ≤ B) : IsOwn W B' x p := by
  obtain ⟨r, h1, h2⟩ := h.b
  exact ⟨h.o, h.wf, h.k.mono hb, h.m.mono hb, h.c.mono hb, ⟨r, h1.mono hb, h2.mono fun a b h => ⟨h.1, h.2.mono hb⟩⟩⟩
theorem Own.kept {α : Type} {e : El α} {W W' : World} {B g : Nat} {v : Value} {l : List α} (h : Own e W B v l) (hg : W.grownBy W' (some g)) (hl : g < B) : Own e W' B v l := by
  refine h.keptBut hg ?_
  cases hv : v.ownBlock with
  | none => exact Or.inl rfl
  | some k =>
    refine Or.inr fun e => ?_
    cases e
    have := (h.blk g hv).1
    omega
theorem IsOwn.kept {W W' : World} {B g : Nat} {x : Pr} {p : Pv} (h : IsOwn W B x p) (hg : W.grownBy W' (some g)) (hl : g < B) : IsOwn W' B x p := by
  obtain ⟨r, h1, h2⟩ := h.b
  exact ⟨h.o, h.wf, h.k.kept hg hl, h.m.kept hg hl, h.c.kept hg hl, ⟨r, h1.kept hg hl, h2.mono fun a b h => ⟨h.1, h.2.kept hg hl⟩⟩⟩
/-- Rows of another type are not touched by a store into a block of rows. -/
theorem Own.other {α β : Type} {e : El α} {f : El β} {W W' : World} {B g c : Nat} {v : Value} {l : List α} {m : List β} (h : Own e W B v l) (hp : PAt f W g c m) (hne : e.ty ≠ f.ty) (hg : W.grownBy W' (some g)) : Own e W' B v l := by
  refine h.keptBut hg ?_
  rcases h.pat with ⟨rfl, _⟩ | ⟨g', c', rfl, _, hq⟩
  · exact Or.inl rfl
  · refine Or.inr fun e' => hne ?_
    have e2 : g' = g := by simpa [Value.ownBlock] using e'
    subst e2
    obtain ⟨cur, h1, _⟩ := hp
    obtain ⟨cur', h2, _⟩ := hq
    have h3 := h1.symm.trans h2
    simp only [Option.some.injEq, Obj.cells.injEq] at h3
    exact h3.2.1.symm
/-! ### variables stored into -/
theorem PrAt.stK {W : World} {b : Nat} {x : Pr} (h : PrAt W b x) (v : Value) (hv : v.oneCell' = true) : ∃ V, (stS 24 (.pointer (some ⟨b, 6, none⟩)) v).run Try.prog W = .ok () V ∧ PrAt V b { x with k := v } ∧ W.grownBy V (some b) := ⟨_, RvAt.st1 h infoKs (by show 6 < 10; omega) hv, RvAt.set h, grown_row _ _ _⟩
theorem PrAt.stM {W : World} {b : Nat} {x : Pr} (h : PrAt W b x) (v : Value) (hv : v.oneCell' = true) : ∃ V, (stS 25 (.pointer (some ⟨b, 7, none⟩)) v).run Try.prog W = .ok () V ∧ PrAt V b { x with m := v } ∧ W.grownBy V (some b) := ⟨_, RvAt.st1 h infoMs (by show 7 < 10; omega) hv, RvAt.set h, grown_row _ _ _⟩
theorem PrAt.stC {W : World} {b : Nat} {x : Pr} (h : PrAt W b x) (v : Value) (hv : v.oneCell' = true) : ∃ V, (stS 26 (.pointer (some ⟨b, 8, none⟩)) v).run Try.prog W = .ok () V ∧ PrAt V b { x with c := v } ∧ W.grownBy V (some b) := ⟨_, RvAt.st1 h infoCs (by show 8 < 10; omega) hv, RvAt.set h, grown_row _ _ _⟩
theorem PrAt.stB {W : World} {b : Nat} {x : Pr} (h : PrAt W b x) (v : Value) (hv : v.oneCell' = true) : ∃ V, (stS 27 (.pointer (some ⟨b, 9, none⟩)) v).run Try.prog W = .ok () V ∧ PrAt V b { x with b := v } ∧ W.grownBy V (some b) := ⟨_, RvAt.st1 h infoBs (by show 9 < 10; omega) hv, RvAt.set h, grown_row _ _ _⟩
theorem PrAt.st {W : World} {b : Nat} {x y : Pr} (h : PrAt W b x) (hy : ∀ v ∈ y.cs.toList, v.oneCell' = true) : ∃ V, (stS 29 (.pointer (some ⟨b, 0, none⟩)) (.agg y.cs)).run Try.prog W = .ok () V ∧ PrAt V b y ∧ W.grownBy V (some b) := ⟨_, RvAt.st rtP h rfl rfl hy, RvAt.set h, grown_row _ _ _⟩
theorem MrAt.stP {W : World} {b : Nat} {x : Mr} (h : MrAt W b x) (a : Option Addr) (n c : Nat) : ∃ V, (stS 36 (.pointer (some ⟨b, 1, none⟩)) (.slice a n c)).run Try.prog W = .ok () V ∧ MrAt V b ⟨x.v, a, n, c⟩ ∧ W.grownBy V (some b) := ⟨_, RvAt.st1 h infoIs (by show 1 < 2; omega) rfl, RvAt.set h, grown_row _ _ _⟩
theorem MrAt.st {W : World} {b : Nat} {x : Mr} (h : MrAt W b x) (y : Mr) : ∃ V, (stS 38 (.pointer (some ⟨b, 0, none⟩)) (.agg y.cs)).run Try.prog W = .ok () V ∧ MrAt V b y ∧ W.grownBy V (some b) := ⟨_, RvAt.st rtB h rfl rfl (one_of rfl), RvAt.set h, grown_row _ _ _⟩
theorem MrAt.keptBut {W W' : World} {b : Nat} {x : Mr} {row : Option Nat} (h : MrAt W b x) (hg : W.grownBy W' row) (hn : some b ≠ row) : MrAt W' b x := RvAt.keptBut h hg hn
theorem PrAt.keptBut {W W' : World} {b : Nat} {x : Pr} {row : Option Nat} (h : PrAt W b x) (hg : W.grownBy W' row) (hn : some b ≠ row) : PrAt W' b x := RvAt.keptBut h hg hn
def zR : Mr := ⟨0, none, 0, 0⟩
theorem MrAt.zero (W : World) : ∃ V, W.alloc (.cells #[.int .i64 0, .slice none 0 0] 38) = V ∧ MrAt V W.heap.size zR ∧ Below W.heap.size W V ∧ V.heap.size = W.heap.size + 1 := MrAt.new W zR
def zP : Pr := ⟨⟨0, 0, 0, 0, 0, 0⟩, .slice none 0 0, .slice none 0 0, .slice none 0 0, .slice none 0 0⟩
theorem PrAt.zero (W : World) : ∃ V, W.alloc (.cells #[.int .u8 0, .int .u8 0, .int .u8 0, .int .u8 0, .int .u8 0, .int .u8 0, .slice none 0 0, .slice none 0 0, .slice none 0 0, .slice none 0 0] 29) = V ∧ PrAt V W.heap.size zP ∧ Below W.heap.size W V ∧ V.heap.size = W.heap.size + 1 := PrAt.new W zP
set_option maxHeartbeats 2000000 in
theorem twinm_any (y : Mr) (l : List Int) (w : World) (hs : SlAt eI w y.a y.n y.c l) (hn : y.n ≤ 1000) :
    Calls Try.prog 26 #[.agg y.cs] w fun r w' => (∃ z : Mr, r = .returned (.agg z.cs) ∧ OwnP w' w.heap.size z ⟨y.v, l⟩) ∧ Below w.heap.size w w' := by
  obtain ⟨W, hW, m0, bW, zW⟩ := MrAt.new w y
  obtain ⟨V, hV, m1, bV, zV⟩ := MrAt.zero W
  have k1 := (m0.below bV).c1
  have H : Hid (MrAt V w.heap.size y ∧ MrAt V W.heap.size zR ∧ Below w.heap.size w V ∧ SlAt eI w y.a y.n y.c l ∧ y.n ≤ 1000 ∧ W.heap.size = w.heap.size + 1 ∧ V.heap.size = w.heap.size + 2) := ⟨m0.below bV, m1, below_over bW bV, hs, hn, zW, by rw [zV, zW]⟩
  clear m0 m1 bW bV zW zV hs hn
  go_enter Try.func26, Try.ntmps26
  go_wp2_with fail
  refine (cloneI_any y.a y.n y.c l V (H.out.2.2.2.1.below H.out.2.2.1) H.out.2.2.2.2.1).mono ?_
  rintro _ X ⟨v, rfl, oX, bX⟩
  obtain ⟨a, c, rfl, _, _⟩ := oX.form
  obtain ⟨Y, sY, mY, gY⟩ := (H.out.1.below bX).stP a l.length c
  have m2 := (H.out.2.1.below bX).keptBut gY (by rw [H.out.2.2.2.2.2.1]; simp)
  have oY := oX.kept gY (by rw [H.out.2.2.2.2.2.2]; omega)
  have l0 := mY.ld
  obtain ⟨Z, sZ, mZ, gZ⟩ := m2.st ⟨y.v, a, l.length, c⟩
  have oZ := oY.kept gZ (by rw [H.out.2.2.2.2.2.1, H.out.2.2.2.2.2.2]; omega)
  have bY : Below w.heap.size w Y := gro (below_over H.out.2.2.1 bX) gY (Nat.le_refl _) (below_over H.out.2.2.1 bX).size
  have bZ : Below w.heap.size w Z := gro bY gZ (by rw [H.out.2.2.2.2.2.1]; omega) bY.size
  have G : Hid (MrAt Z W.heap.size ⟨y.v, a, l.length, c⟩ ∧ Own eI Z w.heap.size (.slice a l.length c) l ∧ Below w.heap.size w Z) := ⟨mZ, oZ.mono (by rw [H.out.2.2.2.2.2.2]; omega), bZ⟩
  clear oX bX mY gY m2 oY mZ gZ oZ bY bZ k1
  go_wp2
  refine bodyPost_ret (results_row rtB Try.results26 _ _ _ _ rfl G.out.1 rfl) rfl ?_
  exact ⟨⟨_, rfl, rfl, G.out.2.1⟩, G.out.2.2⟩
/-- What is not too much to be copied. -/
def Sz (p : Pv) : Prop := p.ks.length ≤ 100 ∧ p.ms.length ≤ 100 ∧ p.cs.length ≤ 100 ∧ p.bs.length ≤ 100 ∧ ∀ m ∈ p.bs, m.ps.length ≤ 1000
/-- twin's variables. -/
structure TwS (w V : World) (x : Pr) : Prop where
  var : PrAt V w.heap.size x
  res : PrAt V (w.heap.size + 1) zP
  bel : Below w.heap.size w V
  siz : w.heap.size + 2 ≤ V.heap.size
theorem TwS.below {w V V' : World} {x : Pr} (h : TwS w V x) (hb : Below V.heap.size V V') : TwS w V' x := ⟨h.var.below hb, h.res.below hb, below_over h.bel hb, Nat.le_trans h.siz hb.size⟩
theorem TwS.set {w V V' : World} {x y : Pr} (h : TwS w V x) (hy : PrAt V' w.heap.size y) (hg : V.grownBy V' (some w.heap.size)) : TwS w V' y := ⟨hy, h.res.keptBut hg (by simp), gro h.bel hg (Nat.le_refl _) h.bel.size, Nat.le_trans h.siz hg.size⟩
theorem take_one {l : List Mb} {i : Nat} {z : Mb} (h : l[i]? = some z) : l.take (i + 1) = l.take i ++ [z] := by rw [List.take_add_one, h]; rfl
set_option maxHeartbeats 8000000 in
theorem twin_any (x : Pr) (p : Pv) (w : World) (h : IsPv w x p) (hz : Sz p) :
    Calls Try.prog 12 #[.agg x.cs] w fun r w' => (∃ y : Pr, r = .returned (.agg y.cs) ∧ IsOwn w' w.heap.size y p) ∧ Below w.heap.size w w' := by
  obtain ⟨ka, kn, kc, kv, ks⟩ := h.k
  obtain ⟨ma, mn, mc, mv, ms⟩ := h.m
  obtain ⟨ca, cn, cc, cv, cs⟩ := h.c
  obtain ⟨rr, ⟨ba, bn, bc, bv, bs⟩, bm⟩ := h.b
  obtain ⟨W, hW, m0, bW, zW⟩ := PrAt.new w x
  obtain ⟨V0, hV, m1, bV, zV⟩ := PrAt.zero W
  have T0 : Hid (TwS w V0 x) := ⟨m0.below bV, by rw [zW] at m1; exact m1, below_over bW bV, by rw [zV, zW]; omega⟩
  have H : Hid (SlAt eK w ka kn kc p.ks ∧ SlAt eM w ma mn mc p.ms ∧ SlAt eC w ca cn cc p.cs ∧ SlAt eB w ba bn bc rr ∧ Mem w rr p.bs ∧ Sz p) := ⟨ks, ms, cs, bs, bm, hz⟩
  have HV : Hid (x.k = .slice ka kn kc ∧ x.m = .slice ma mn mc ∧ x.c = .slice ca cn cc ∧ x.b = .slice ba bn bc) := ⟨kv, mv, cv, bv⟩
  have HN : Hid (kn ≤ 1000 ∧ mn ≤ 1000 ∧ cn ≤ 1000 ∧ bn ≤ 1000) := by
    have h1 := ks.len
    have h2 := ms.len
    have h3 := cs.len
    have h4 := bs.len
    have h5 := bm.len
    have h6 := hz
    unfold Sz at h6
    show _ ∧ _
    omega
  have HO : Hid (x.o = p.o ∧ p.o.wf) := ⟨h.o, h.wf⟩
  clear h ks ms cs bs bm hz kv mv cv bv m0 m1 bW bV zV
  go_enter Try.func12, Try.ntmps12
  have c0 := T0.out.var.k
  rw [HV.out.1] at c0
  go_wp2_with fail
  refine (cloneK_any ka kn kc p.ks V0 (H.out.1.below T0.out.bel) HN.out.1).mono ?_
  rintro _ Y0 ⟨v0, rfl, o0, b0⟩
  obtain ⟨V1, s0, q0, g0⟩ := (T0.out.below b0).var.stK v0 o0.slv.one
  have T1 : Hid (TwS w V1 { x with k := v0 }) := (T0.out.below b0).set q0 g0
  have O1 : Hid (Own eK V1 (w.heap.size + 2) v0 p.ks) := (o0.mono T0.out.siz).kept g0 (by omega)
  clear o0 b0 q0 g0 c0
  have c1 : V1.cell? ⟨w.heap.size, 7, none⟩ = some x.m := T1.out.var.m
  rw [HV.out.2.1] at c1
  go_wp2_with fail
  refine (cloneM_any ma mn mc p.ms V1 (H.out.2.1.below T1.out.bel) HN.out.2.1).mono ?_
  rintro _ Y1 ⟨v1, rfl, o1, b1⟩
  obtain ⟨V2, s1, q1, g1⟩ := (T1.out.below b1).var.stM v1 o1.slv.one
  have T2 : Hid (TwS w V2 { { x with k := v0 } with m := v1 }) := (T1.out.below b1).set q1 g1
  have O2 : Hid (Own eK V2 (w.heap.size + 2) v0 p.ks ∧ Own eM V2 (w.heap.size + 2) v1 p.ms) := ⟨(O1.out.below b1).kept g1 (by omega), (o1.mono T1.out.siz).kept g1 (by omega)⟩
  clear o1 b1 q1 g1 c1
  have c2 : V2.cell? ⟨w.heap.size, 8, none⟩ = some x.c := T2.out.var.c
  rw [HV.out.2.2.1] at c2
  go_wp2_with fail
  refine (cloneC_any ca cn cc p.cs V2 (H.out.2.2.1.below T2.out.bel) HN.out.2.2.1).mono ?_
  rintro _ Y2 ⟨v2, rfl, o2, b2⟩
  obtain ⟨V3, s2, q2, g2⟩ := (T2.out.below b2).var.stC v2 o2.slv.one
  have T3 : Hid (TwS w V3 { { { x with k := v0 } with m := v1 } with c := v2 }) := (T2.out.below b2).set q2 g2
  have O3 : Hid (Own eK V3 (w.heap.size + 2) v0 p.ks ∧ Own eM V3 (w.heap.size + 2) v1 p.ms ∧ Own eC V3 (w.heap.size + 2) v2 p.cs) := ⟨(O2.out.1.below b2).kept g2 (by omega), (O2.out.2.below b2).kept g2 (by omega), (o2.mono T2.out.siz).kept g2 (by omega)⟩
  clear o2 b2 q2 g2 c2
  have c3 : V3.cell? ⟨w.heap.size, 9, none⟩ = some x.b := T3.out.var.b
  rw [HV.out.2.2.2] at c3
  go_wp2_with fail
  refine (cloneB_any ba bn bc rr V3 (H.out.2.2.2.1.below T3.out.bel) HN.out.2.2.2).mono ?_
  rintro _ Y3 ⟨v3, rfl, o3, b3⟩
  obtain ⟨V4, s3, q3, g3⟩ := (T3.out.below b3).var.stB v3 o3.slv.one
  have T4 : Hid (TwS w V4 { { { { x with k := v0 } with m := v1 } with c := v2 } with b := v3 }) := (T3.out.below b3).set q3 g3
  have O4 : Hid (Own eK V4 (w.heap.size + 2) v0 p.ks ∧ Own eM V4 (w.heap.size + 2) v1 p.ms ∧ Own eC V4 (w.heap.size + 2) v2 p.cs ∧ Own eB V4 (w.heap.size + 2) v3 rr) := ⟨(O3.out.1.below b3).kept g3 (by omega), (O3.out.2.1.below b3).kept g3 (by omega), (O3.out.2.2.below b3).kept g3 (by omega), (o3.mono T3.out.siz).kept g3 (by omega)⟩
  clear o3 b3 q3 g3 c3
  have T : Hid (TwS w V4 ⟨x.o, v0, v1, v2, v3⟩) := T4.out
  clear T0 T1 T2 T3 T4 O1 O2 O3
  obtain ⟨a3, n3, e3, f3, _⟩ := O4.out.2.2.2.form
  have hrn : rr.length = bn := H.out.2.2.2.1.len
  rw [hrn] at e3
  subst e3
  have hnn := f3.int
  rw [hrn] at hnn
  have c4 : V4.cell? ⟨w.heap.size, 9, none⟩ = some (.slice a3 bn n3) := T.out.var.b
  have HL : Hid (rr.length = bn ∧ p.bs.length = bn) := ⟨hrn, by rw [← H.out.2.2.2.2.1.len]; exact hrn⟩
  clear hrn f3
  go_wp2_with fail
  go_loopw [24] (fun v wr => ∃ (i : Nat) (dn : List Mr), i ≤ bn ∧ v = .int .i64 i ∧ dn.length = i ∧ Own eB wr (w.heap.size + 2) (.slice a3 bn n3) (dn ++ rr.drop i) ∧ Al (OwnP wr (w.heap.size + 2)) dn (p.bs.take i) ∧ TwS w wr ⟨x.o, v0, v1, v2, (.slice a3 bn n3)⟩ ∧ Own eK wr (w.heap.size + 2) v0 p.ks ∧ Own eM wr (w.heap.size + 2) v1 p.ms ∧ Own eC wr (w.heap.size + 2) v2 p.cs) (fun v _ => bn - (intOf v).toNat)
  case atStart => exact ⟨0, [], by omega, rfl, rfl, O4.out.2.2.2, trivial, T.out, O4.out.1, O4.out.2.1, O4.out.2.2.1⟩
  case round =>
    obtain ⟨i, dn, hi, rfl, hdl, hO, hA, hT, hK, hM, hC⟩ := hrel
    have J : Hid (dn.length = i ∧ Own eB wr (w.heap.size + 2) (.slice a3 bn n3) (dn ++ rr.drop i) ∧ Al (OwnP wr (w.heap.size + 2)) dn (p.bs.take i) ∧ TwS w wr ⟨x.o, v0, v1, v2, (.slice a3 bn n3)⟩ ∧ Own eK wr (w.heap.size + 2) v0 p.ks ∧ Own eM wr (w.heap.size + 2) v1 p.ms ∧ Own eC wr (w.heap.size + 2) v2 p.cs) := ⟨hdl, hO, hA, hT, hK, hM, hC⟩
    have hi0 : (0 : Int) ≤ (i : Int) := by omega
    clear hdl hO hA hT hK hM hC c4
    by_cases hit : i < bn
    · have hi1 : (i : Int) < (bn : Int) := by omega
      obtain ⟨y, z, hy, hz, hvz, hps⟩ := H.out.2.2.2.2.1.get (i := i) (by rw [HL.out.2]; exact hit)
      obtain ⟨g, c9, e9, hg9, hP⟩ := J.out.2.1.pat' (by rw [List.length_append, J.out.1, List.length_drop, HL.out.1]; omega)
      simp only [Value.slice.injEq] at e9
      obtain ⟨e91, e92, e93⟩ := e9
      subst e91 e93
      have hLi : (dn ++ rr.drop i)[i]? = some y := by
        rw [List.getElem?_append_right (by rw [J.out.1]; exact Nat.le_refl _), J.out.1, Nat.sub_self, List.getElem?_drop, Nat.add_zero]
        exact hy
      have l0 : (ldS 38 (.pointer (some ⟨g, i * 2, none⟩))).run Try.prog wr = .ok (.agg y.cs) wr := hP.ld kB hLi Try.underlying38 rfl (q := i * 2) rfl
      obtain ⟨V, sV, mV, bV⟩ := MrAt.put wr y
      have X : Hid (rr[i]? = some y ∧ p.bs[i]? = some z ∧ y.v = z.v ∧ SlAt eI w y.a y.n y.c z.ps ∧ w.heap.size + 2 ≤ g ∧ PAt eB V g n3 (dn ++ rr.drop i) ∧ MrAt V wr.heap.size y ∧ Below wr.heap.size wr V ∧ g < wr.heap.size ∧ bn = (dn ++ rr.drop i).length) := ⟨hy, hz, hvz, hps, hg9, hP.below bV, mV, bV, hP.lt, e92⟩
      clear hy hz hvz hps hg9 hP mV bV hLi e92
      go_wp2_with fail
      clear l0 sV
      obtain ⟨X0, hX0⟩ : ∃ X0, World.drew V = X0 := ⟨_, rfl⟩
      have B0 : Hid (Below V.heap.size V X0) := by rw [← hX0]; exact (Below.refl _ _).drew
      have TX : Hid (TwS w X0 ⟨x.o, v0, v1, v2, (.slice (some ⟨g, 0, none⟩) bn n3)⟩) := (J.out.2.2.2.1.below X.out.2.2.2.2.2.2.2.1).below B0.out
      have MX : Hid (MrAt X0 wr.heap.size y) := X.out.2.2.2.2.2.2.1.below B0.out
      refine wp_region_noPanic ?_
      refine wp_region_held_drew (S := fun w' => PrAt w' w.heap.size ⟨x.o, v0, v1, v2, (.slice (some ⟨g, 0, none⟩) bn n3)⟩ ∧ MrAt w' wr.heap.size y) (by kernel_rfl) (by rw [hX0]; exact ⟨TX.out.var, MX.out⟩) (fun hHeld => ?_)
      rw [hX0] at hHeld ⊢
      clear hX0
      refine wpAnyH_take (i := 0) (oi := { dst := some 29, op := Op.fieldAddr 29 (Operand.tmp 1) 4, type := 0, pos := "rows.go:65", after := #[], guard := none }) (v := ?_) rfl (by kernel_rfl) (by kernel_rfl) (by kernel_rfl) (fun _ _ _ h => h) (Or.inl ⟨by rfl, ?_⟩) hHeld ?_
      rotate_left
      · intro W_ hSw_
        have u0 : W_.cell? ⟨w.heap.size, 9, none⟩ = some (.slice (some ⟨g, 0, none⟩) bn n3) := hSw_.1.b; have u1 := hSw_.2.ld; clear hSw_
        first | (go_simp; done) | (go_simp; with_reducible rfl)
      rotate_left
      try simp only [Act.put, List.setIfInBounds_toArray, List.set_cons_zero, List.set_cons_succ]
      refine wpAnyH_take (i := 1) (oi := { dst := some 30, op := Op.load 27 (Operand.tmp 29), type := 27, pos := "rows.go:65", after := #[{ on := 0, ground := Ground.data }], guard := none }) (v := ?_) rfl (by kernel_rfl) (by kernel_rfl) (by kernel_rfl) (fun _ _ _ h => h) (Or.inl ⟨by rfl, ?_⟩) hHeld ?_
      rotate_left
      · intro W_ hSw_
        have u0 : W_.cell? ⟨w.heap.size, 9, none⟩ = some (.slice (some ⟨g, 0, none⟩) bn n3) := hSw_.1.b; have u1 := hSw_.2.ld; clear hSw_
        first | (go_simp; done) | (go_simp; with_reducible rfl)
      rotate_left
      try simp only [Act.put, List.setIfInBounds_toArray, List.set_cons_zero, List.set_cons_succ]
      refine wpAnyH_take (i := 2) (oi := { dst := some 31, op := Op.move (Operand.tmp 3), type := 3, pos := "rows.go:65", after := #[], guard := none }) (v := ?_) rfl (by kernel_rfl) (by kernel_rfl) (by kernel_rfl) (fun _ _ _ h => h) (Or.inl ⟨by rfl, ?_⟩) hHeld ?_
      rotate_left
      · intro W_ hSw_
        have u0 : W_.cell? ⟨w.heap.size, 9, none⟩ = some (.slice (some ⟨g, 0, none⟩) bn n3) := hSw_.1.b; have u1 := hSw_.2.ld; clear hSw_
        first | (go_simp; done) | (go_simp; with_reducible rfl)
      rotate_left
      try simp only [Act.put, List.setIfInBounds_toArray, List.set_cons_zero, List.set_cons_succ]
      refine wpAnyH_take (i := 3) (oi := { dst := some 32, op := Op.load 38 (Operand.tmp 4), type := 38, pos := "rows.go:65", after := #[], guard := none }) (v := ?_) rfl (by kernel_rfl) (by kernel_rfl) (by kernel_rfl) (fun _ _ _ h => h) (Or.inl ⟨by rfl, ?_⟩) hHeld ?_
      rotate_left
      · intro W_ hSw_
        have u0 : W_.cell? ⟨w.heap.size, 9, none⟩ = some (.slice (some ⟨g, 0, none⟩) bn n3) := hSw_.1.b; have u1 := hSw_.2.ld; clear hSw_
        first | (go_simp; done) | (go_simp; with_reducible rfl)
      rotate_left
      try simp only [Act.put, List.setIfInBounds_toArray, List.set_cons_zero, List.set_cons_succ]
      refine wpAnyH_ready (rs := [4]) (by kernel_rfl) (by simp) ?_
      refine AllReadyH.cons (o := { dst := some 33, op := Op.call { callee := Callee.value (Operand.func 26), args := #[Operand.tmp 32], argTypes := #[38] }, type := 38, pos := "rows.go:65", after := #[{ on := 3, ground := Ground.data }], guard := none }) rfl (fun K hK => ?_) AllReadyH.nil
      go_simp
      refine (twinm_any y z.ps X0 (X.out.2.2.2.1.below TX.out.bel) (by rw [← X.out.2.2.2.1.len]; exact H.out.2.2.2.2.2.2.2.2.2 z (List.mem_of_getElem? X.out.2.1))).mono ?_
      rintro _ Y ⟨⟨y', rfl, oP⟩, bY⟩
      obtain ⟨Z, sZ0, pZ, gZ⟩ := ((X.out.2.2.2.2.2.1.below B0.out).below bY).stp kB (i := i) (q := i * 2) (y := y') (by rw [← X.out.2.2.2.2.2.2.2.2.2]; exact hit) rfl
      have sZ : (stS 38 (.pointer (some ⟨g, i * 2, none⟩)) (.agg y'.cs)).run Try.prog Y = .ok () Z := sZ0
      clear sZ0
      have PY : Hid (PAt eB Y g n3 (dn ++ rr.drop i)) := (X.out.2.2.2.2.2.1.below B0.out).below bY
      have TY : Hid (TwS w Y ⟨x.o, v0, v1, v2, (.slice (some ⟨g, 0, none⟩) bn n3)⟩) := TX.out.below bY
      have MY : Hid (MrAt Y wr.heap.size y) := MX.out.below bY
      have OY : Hid (OwnP Y X0.heap.size y' ⟨y.v, z.ps⟩ ∧ Al (OwnP Y (w.heap.size + 2)) dn (p.bs.take i) ∧ Own eK Y (w.heap.size + 2) v0 p.ks ∧ Own eM Y (w.heap.size + 2) v1 p.ms ∧ Own eC Y (w.heap.size + 2) v2 p.cs) := by
        have bb : Below wr.heap.size wr Y := below_over X.out.2.2.2.2.2.2.2.1 (below_over B0.out bY)
        exact ⟨oP, J.out.2.2.1.mono fun a b h => ⟨h.1, h.2.below bb⟩, J.out.2.2.2.2.1.below bb, J.out.2.2.2.2.2.1.below bb, J.out.2.2.2.2.2.2.below bb⟩
      have GZ : Hid (Y.grownBy Z (some g) ∧ PAt eB Z g n3 ((dn ++ rr.drop i).set i y')) := ⟨gZ, pZ⟩
      clear oP bY gZ pZ
      clear hHeld
      refine hK.out _ _ ⟨TY.out.var, MY.out⟩ (fun hHeld => ?_)
      clear hK K
      try simp only [Act.put, List.setIfInBounds_toArray, List.set_cons_zero, List.set_cons_succ]
      refine wpAnyH_take (i := 5) (oi := { dst := some 34, op := Op.indexAddr 27 (Operand.tmp 30) (Operand.tmp 31), type := 0, pos := "rows.go:65", after := #[{ on := 1, ground := Ground.data }, { on := 2, ground := Ground.data }, { on := 0, ground := Ground.phase }, { on := 1, ground := Ground.phase }, { on := 2, ground := Ground.phase }, { on := 3, ground := Ground.phase }, { on := 4, ground := Ground.phase }], guard := none }) (v := ?_) rfl (by kernel_rfl) (by kernel_rfl) (by kernel_rfl) (fun _ _ _ h => h) (Or.inl ⟨by rfl, ?_⟩) hHeld ?_
      rotate_left
      · intro W_ hSw_
        have u0 : W_.cell? ⟨w.heap.size, 9, none⟩ = some (.slice (some ⟨g, 0, none⟩) bn n3) := hSw_.1.b; have u1 := hSw_.2.ld; clear hSw_
        first | (go_simp; done) | (go_simp; with_reducible rfl)
      rotate_left
      try simp only [Act.put, List.setIfInBounds_toArray, List.set_cons_zero, List.set_cons_succ]
      refine wpAnyH_ready (rs := [6]) (by kernel_rfl) (by simp) ?_
      refine AllReadyH.cons (o := { dst := none, op := Op.store 38 (Operand.tmp 34) (Operand.tmp 33), type := 0, pos := "rows.go:65", after := #[{ on := 5, ground := Ground.data }, { on := 4, ground := Ground.data }, { on := 4, ground := Ground.chain }, { on := 0, ground := Ground.phase }, { on := 1, ground := Ground.phase }, { on := 2, ground := Ground.phase }, { on := 3, ground := Ground.phase }, { on := 4, ground := Ground.phase }], guard := none }) rfl (fun K hK => ?_) AllReadyH.nil
      go_simp
      clear hHeld
      have NG : Hid (some w.heap.size ≠ some g ∧ some wr.heap.size ≠ some g ∧ some (w.heap.size + 1) ≠ some g) := by
        have := X.out.2.2.2.2.1
        have := X.out.2.2.2.2.2.2.2.2.1
        refine ⟨?_, ?_, ?_⟩ <;> (simp only [ne_eq, Option.some.injEq]; omega)
      have TZ : Hid (TwS w Z ⟨x.o, v0, v1, v2, (.slice (some ⟨g, 0, none⟩) bn n3)⟩) := ⟨TY.out.var.keptBut GZ.out.1 NG.out.1, TY.out.res.keptBut GZ.out.1 NG.out.2.2, gro TY.out.bel GZ.out.1 (by have := X.out.2.2.2.2.1; omega) TY.out.bel.size, Nat.le_trans TY.out.siz GZ.out.1.size⟩
      refine hK.out _ _ ⟨TZ.out.var, MY.out.keptBut GZ.out.1 NG.out.2.1⟩ (fun hHeld => ?_)
      clear hK K
      try simp only [Act.put, List.setIfInBounds_toArray, List.set_cons_zero, List.set_cons_succ]
      refine wpAnyH_done (by kernel_rfl) ?_ _
      refine NoPanic.normal ?_
      clear hHeld
      clear sZ
      have FS : (dn ++ rr.drop i).set i y' = (dn ++ [y']) ++ rr.drop (i + 1) := by
        rw [drop_at X.out.1, List.set_append_right _ _ (by rw [J.out.1]; exact Nat.le_refl _), J.out.1, Nat.sub_self, List.set_cons_zero, List.append_assoc]
        rfl
      have R : Hid (Own eB Z (w.heap.size + 2) (.slice (some ⟨g, 0, none⟩) bn n3) ((dn ++ [y']) ++ rr.drop (i + 1)) ∧ Al (OwnP Z (w.heap.size + 2)) (dn ++ [y']) (p.bs.take (i + 1)) ∧ Own eK Z (w.heap.size + 2) v0 p.ks ∧ Own eM Z (w.heap.size + 2) v1 p.ms ∧ Own eC Z (w.heap.size + 2) v2 p.cs) := by
        refine ⟨?_, ?_, OY.out.2.2.1.other PY.out (by decide) GZ.out.1, OY.out.2.2.2.1.other PY.out (by decide) GZ.out.1, OY.out.2.2.2.2.other PY.out (by decide) GZ.out.1⟩
        · have := GZ.out.2.own kB X.out.2.2.2.2.1
          rw [List.length_set, ← X.out.2.2.2.2.2.2.2.2.2, FS] at this
          exact this
        · rw [take_one X.out.2.1]
          refine Al.snoc ⟨?_, (OY.out.1.2.mono ?_).other PY.out (by decide) GZ.out.1⟩ (OY.out.2.1.mono fun a b h => ⟨h.1, h.2.other PY.out (by decide) GZ.out.1⟩)
          · rw [OY.out.1.1]
            exact X.out.2.2.1
          · have := TX.out.siz
            omega
      clear FS
      go_wp2
      go_roundw
      case rel => exact ⟨i + 1, dn ++ [y'], by omega, by go_num, by rw [List.length_append, J.out.1]; rfl, R.out.1, R.out.2.1, TZ.out, R.out.2.2⟩
      case measure => simp [intOf]; omega
    · have hin : i = bn := by omega
      have hi1 : ¬ (i : Int) < (bn : Int) := by omega
      have E : Hid (rr.drop i = [] ∧ p.bs.take i = p.bs) := ⟨drop_end (by rw [HL.out.1]; omega), List.take_of_length_le (by rw [HL.out.2]; omega)⟩
      clear hin
      have l0 := J.out.2.2.2.1.var.ld
      have ho : IsOwn wr (w.heap.size + 2) ⟨x.o, v0, v1, v2, (.slice a3 bn n3)⟩ p := by
        refine ⟨HO.out.1, HO.out.2, J.out.2.2.2.2.1, J.out.2.2.2.2.2.1, J.out.2.2.2.2.2.2, dn, ?_, ?_⟩
        · have := J.out.2.1
          rw [E.out.1, List.append_nil] at this
          exact this
        · have := J.out.2.2.1
          rw [E.out.2] at this
          exact this
      obtain ⟨Z, sZ, pZ, gZ⟩ := J.out.2.2.2.1.res.st (y := ⟨x.o, v0, v1, v2, (.slice a3 bn n3)⟩) ho.pv.one
      have G : Hid (PrAt Z (w.heap.size + 1) ⟨x.o, v0, v1, v2, (.slice a3 bn n3)⟩ ∧ IsOwn Z w.heap.size ⟨x.o, v0, v1, v2, (.slice a3 bn n3)⟩ p ∧ Below w.heap.size w Z) := ⟨pZ, (ho.kept gZ (by omega)).mono (by omega), gro J.out.2.2.2.1.bel gZ (by omega) J.out.2.2.2.1.bel.size⟩
      clear ho pZ gZ
      go_wp2
      refine bodyPost_ret (results_row rtP Try.results12 _ _ _ _ rfl G.out.1 rfl) rfl ?_
      exact ⟨⟨_, rfl, G.out.2.1⟩, G.out.2.2⟩
end Go.Proofs.Ytmfjlhcobhilcab
