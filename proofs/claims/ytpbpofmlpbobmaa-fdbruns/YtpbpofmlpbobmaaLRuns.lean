/-
  Every run of calls answers as defined: the walk of the law.
-/
import Derived.Test.YtpbpofmlpbobmaaLSwA
import Derived.Test.YtpbpofmlpbobmaaLSwB
import Derived.Test.YtpbpofmlpbobmaaLSwC
namespace Go.Proofs.Ytpbpofmlpbobmaa
set_option linter.unusedVariables false
set_option maxRecDepth 8000
set_option linter.unusedSimpArgs false
open Go.RowKit

attribute [local go_sem ↓] ldK stK ldM stM ldP stP ldE stE ldO stO ldR stR
set_option maxHeartbeats 4000000 in
theorem sw_any {K : Act → World → Prop} {Q' : Exit → Act → World → Prop} {x0 x1 x2 x3 x4 x5 x6 x7 x8 x10 x12 x13 x21 x22 x23 x24 x25 x26 x27 x28 x29 x30 x31 x32 x33 x34 x35 x36 x37 x38 x39 x40 x41 x42 x43 x44 x45 x46 x47 x48 x49 x50 x51 x52 x53 x54 x55 x56 x57 x58 x59 x60 x61 x62 x63 x64 x65 x66 x67 x68 x70 x71 x72 x73 x74 x75 x76 x77 x78 x79 x80 x81 x82 x83 x84 x85 x86 x87 x88 x89 x90 x91 x92 x93 x94 x95 x96 x97 x98 x99 x100 x101 x102 x103 x104 x105 x106 x107 x108 x109 x110 x111 x112 x113 x114 x115 x116 x117 x118 x119 x120 x121 x122 x123 x124 x125 x126 x127 x128 x129 x130 x131 x132 x133 x134 x135 x136 x137 x138 x139 x140 x141 x142 x143 x144 x145 x146 x147 x148 x149 x150 x151 x152 x153 x154 x155 x156 x157 x158 x159 x160 x161 x162 x163 x164 x165 x166 x167 x168 x169 x170 x171 x172 x173 x174 x175 x176 x177 x178 x179 x180 x181 x182 x183 x184 x185 x186 x187 x188 x189 x190 x191 x192 x193 x194 x195 x196 x197 x198 x199 x200 x201 x202 x203 x204 x205 x206 x207 x208 x209 x210 x211 x212 x213 x214 x215 x216 x217 x218 x219 x220 x221 x222 x223 x224 x225 x226 x227 x228 x229 x230 x231 x232 x233 x234 x235 x236 x237 x238 x239 x240 x241 : Value} {w V : World} {rb p b ob : Nat} {c : Cf} {m : List En} {a : Option Addr} {k : Nat} {o : Oq}
    (HV : Hid (St w V rb p b c m m a k ∧ RvAt V ob 36 o.cs ∧ o.k.wf ∧ ob ≠ b ∧ ob ≠ rb ∧ Wfs m ∧ Srt m ∧ m.length ≤ 1000 ∧ c.wf)) 
    (hK : ∀ (y9 y15 y16 y17 y18 y19 y20 y21 y69 y70 y71 y72 y73 y74 y75 y76 y77 y78 y79 y80 y81 y82 y83 y84 y85 y86 y87 y88 y89 y90 y91 y92 y93 y94 y95 y96 y97 y98 y99 y100 y101 y102 y103 y104 y105 y106 y107 y108 y109 y110 y111 y112 y113 y114 y115 y116 y117 y118 y119 y120 y121 y122 y123 y124 y125 y126 y127 y128 y129 y130 y131 y132 y133 y134 y135 y136 y137 y138 y139 y140 y141 y142 y143 y144 y145 y146 y147 y148 y149 y150 y151 y152 y153 y154 y155 y156 y157 y158 y159 y160 y161 y162 y163 y164 y165 y166 y167 y168 y169 y170 y171 y172 y173 y174 y175 y176 y177 y178 y179 y180 y181 y182 y183 y184 y185 y186 y187 y188 y189 y190 y191 y192 y193 y194 y195 y196 y197 y198 y199 y200 y201 y202 y203 y204 y205 y206 y207 y208 y209 y210 y211 y212 : Value) (wx : World), Sw w rb c y9 y15 y16 y17 y18 y19 y20 wx → K ⟨#[x0, x1, x2, x3, x4, x5, x6, x7, x8, y9, x10, .pointer (some ⟨rb, 0, none⟩), x12, x13, .pointer (some ⟨ob, 0, none⟩), y15, y16, y17, y18, y19, y20, y21, x22, x23, x24, x25, x26, x27, x28, x29, x30, x31, x32, x33, x34, x35, x36, x37, x38, x39, x40, x41, x42, x43, x44, x45, x46, x47, x48, x49, x50, x51, x52, x53, x54, x55, x56, x57, x58, x59, x60, x61, x62, x63, x64, x65, x66, x67, x68, y69, y70, y71, y72, y73, y74, y75, y76, y77, y78, y79, y80, y81, y82, y83, y84, y85, y86, y87, y88, y89, y90, y91, y92, y93, y94, y95, y96, y97, y98, y99, y100, y101, y102, y103, y104, y105, y106, y107, y108, y109, y110, y111, y112, y113, y114, y115, y116, y117, y118, y119, y120, y121, y122, y123, y124, y125, y126, y127, y128, y129, y130, y131, y132, y133, y134, y135, y136, y137, y138, y139, y140, y141, y142, y143, y144, y145, y146, y147, y148, y149, y150, y151, y152, y153, y154, y155, y156, y157, y158, y159, y160, y161, y162, y163, y164, y165, y166, y167, y168, y169, y170, y171, y172, y173, y174, y175, y176, y177, y178, y179, y180, y181, y182, y183, y184, y185, y186, y187, y188, y189, y190, y191, y192, y193, y194, y195, y196, y197, y198, y199, y200, y201, y202, y203, y204, y205, y206, y207, y208, y209, y210, y211, y212, x213, x214, x215, x216, x217, x218, x219, x220, x221, x222, x223, x224, x225, x226, x227, x228, x229, x230, x231, x232, x233, x234, x235, x236, x237, x238, x239, x240, x241], []⟩ wx) : swc.wp Try.prog (Exit.then K Q') ⟨#[x0, x1, x2, x3, x4, x5, x6, x7, x8, .pointer (some ⟨p, 0, none⟩), x10, .pointer (some ⟨rb, 0, none⟩), x12, x13, .pointer (some ⟨ob, 0, none⟩), .int .i64 0, .int .i64 0, .int .i64 0, .int .i64 0, .bool false, .bool false, x21, x22, x23, x24, x25, x26, x27, x28, x29, x30, x31, x32, x33, x34, x35, x36, x37, x38, x39, x40, x41, x42, x43, x44, x45, x46, x47, x48, x49, x50, x51, x52, x53, x54, x55, x56, x57, x58, x59, x60, x61, x62, x63, x64, x65, x66, x67, x68, .int .i64 o.kind, x70, x71, x72, x73, x74, x75, x76, x77, x78, x79, x80, x81, x82, x83, x84, x85, x86, x87, x88, x89, x90, x91, x92, x93, x94, x95, x96, x97, x98, x99, x100, x101, x102, x103, x104, x105, x106, x107, x108, x109, x110, x111, x112, x113, x114, x115, x116, x117, x118, x119, x120, x121, x122, x123, x124, x125, x126, x127, x128, x129, x130, x131, x132, x133, x134, x135, x136, x137, x138, x139, x140, x141, x142, x143, x144, x145, x146, x147, x148, x149, x150, x151, x152, x153, x154, x155, x156, x157, x158, x159, x160, x161, x162, x163, x164, x165, x166, x167, x168, x169, x170, x171, x172, x173, x174, x175, x176, x177, x178, x179, x180, x181, x182, x183, x184, x185, x186, x187, x188, x189, x190, x191, x192, x193, x194, x195, x196, x197, x198, x199, x200, x201, x202, x203, x204, x205, x206, x207, x208, x209, x210, x211, x212, x213, x214, x215, x216, x217, x218, x219, x220, x221, x222, x223, x224, x225, x226, x227, x228, x229, x230, x231, x232, x233, x234, x235, x236, x237, x238, x239, x240, x241], []⟩ V := by
  by_cases k1 : o.kind = 1
  · exact sw1 HV k1 hK
  by_cases k2 : o.kind = 2
  · exact sw2 HV k2 hK
  by_cases k3 : o.kind = 3
  · exact sw3 HV k3 hK
  by_cases k4 : o.kind = 4
  · exact sw4 HV k4 hK
  by_cases k5 : o.kind = 5
  · exact sw5 HV k5 hK
  by_cases k6 : o.kind = 6
  · exact sw6 HV k6 hK
  by_cases k7 : o.kind = 7
  · exact sw7 HV k7 hK
  by_cases k8 : o.kind = 8
  · exact sw8 HV k8 hK
  exact sw9 HV k1 k2 k3 k4 k5 k6 k7 k8 hK
set_option maxHeartbeats 8000000 in
theorem FdbRuns_walk (ports room age : Int) (la : Option Addr) (ln lc : Nat) (l : List Oq) (w : World) (h1 : -9223372036854775808 ≤ ports ∧ ports ≤ 9223372036854775807) (h2 : -9223372036854775808 ≤ room ∧ room ≤ 9223372036854775807) (h3 : -9223372036854775808 ≤ age ∧ age ≤ 9223372036854775807) (hl : OpsAt w la ln lc l) :
    Calls Try.prog 3 #[.int .i64 ports, .int .i64 room, .int .i64 age, .slice la ln lc] w fun r w' => r = .returned (.bool true) ∧ Below w.heap.size w w' := by
  obtain ⟨c, hc⟩ : ∃ c : Cf, c = ⟨ports, room, age⟩ := ⟨_, rfl⟩
  have e1 : ports = c.ports := by rw [hc]
  have e2 : room = c.room := by rw [hc]
  have e3 : age = c.age := by rw [hc]
  rw [e1, e2, e3]
  have HL : Hid (OpsAt w la ln lc l) := hl
  clear h1 h2 h3 e1 e2 e3 hc hl
  cases hk : okC c with
  | false =>
    go_enter Try.func3, Try.ntmps3
    go_wp2_with fail
    refine (new_no c _ hk).mono ?_
    rintro _ Y ⟨rfl, hY⟩
    rw [hY]
    clear hY Y
    go_wp2_with fail
    refine (rnew_any c _).mono ?_
    rintro _ W1 ⟨hr, b1⟩
    rcases hr with ⟨_, rfl⟩ | ⟨hr, _⟩
    · obtain ⟨W2, st2, r2, b2, z2⟩ := row_new rtR W1 #[.int .i64 0, .int .i64 0, .int .i64 0, .slice none 0 0] (Cf.rs ⟨0, 0, 0⟩ none 0 0) rfl rfl (Cf.rone _ _ _ _)
      have G2 : Hid (Below w.heap.size w W2) := below_over b1 b2
      clear r2 b2 z2 b1
      go_wp2_with fail
      refine (awake_any _).mono ?_
      rintro _ W3 ⟨rfl, b3⟩
      have G3 : Hid (Below w.heap.size w W3) := below_over G2.out b3
      clear b3 G2 st2
      go_wp2_with fail
      go_loopw [9, 13] (fun v9 v13 wr => v9 = .pointer none ∧ v13 = .int .i64 0 ∧ Below w.heap.size w wr) (fun _ v13 _ => 0)
      case atStart => exact ⟨rfl, rfl, G3.out⟩
      case round =>
        obtain ⟨rfl, rfl, hB⟩ := hrel
        by_cases hln : (0 : Int) < (ln : Int)
        · go_wp2
          go_ret
          exact ⟨rfl, hB⟩
        · have hln' : decide ((0 : Int) < (ln : Int)) = false := by simpa using hln
          go_wp2
          go_ret
          exact ⟨rfl, hB⟩
    · rw [hk] at hr; cases hr
  | true =>
    go_enter Try.func3, Try.ntmps3
    go_wp2_with fail
    refine (new_yes c _ hk).mono ?_
    rintro _ W1 ⟨p0, b0, rfl, d1, hp1, hb1, b1⟩
    have G1 : Hid (Db W1 p0 b0 c [] ∧ Below w.heap.size w W1 ∧ w.heap.size ≤ b0) := ⟨d1, b1, hb1⟩
    clear d1 b1 hp1 hb1
    go_wp2_with fail
    refine (rnew_any c _).mono ?_
    rintro _ W2 ⟨hr, b2⟩
    rcases hr with ⟨hr, _⟩ | ⟨_, rfl⟩
    · rw [hk] at hr; cases hr
    · obtain ⟨rb, hrb⟩ : ∃ rb, Hid (W2.heap.size = rb) := ⟨_, rfl⟩
      obtain ⟨W3, st3, r3, b3, z3⟩ := row_new rtR W2 #[.int .i64 0, .int .i64 0, .int .i64 0, .slice none 0 0] (c.rs none 0 0) rfl rfl (Cf.rone _ _ _ _)
      have G3 : Hid (St w W3 rb p0 b0 c [] [] none 0) := by
        have hlt := (G1.out.1.below b2).lt
        have hs := (below_over G1.out.2.1 b2).size
        have hrb' := hrb.out
        rw [hrb'] at r3
        exact ⟨(G1.out.1.below b2).below b3, r3, SlAt.none' _, (fun x hx => by cases hx), by omega, by omega, G1.out.2.2, by omega, below_over (below_over G1.out.2.1 b2) b3⟩
      clear r3 b3 z3 b2 G1
      go_wp2_with fail
      refine (awake_any _).mono ?_
      rintro _ W4 ⟨rfl, b4⟩
      have G4 : Hid (St w W4 rb p0 b0 c [] [] none 0) := G3.out.below b4
      clear b4 G3 st3
      rw [hrb.out]
      clear hrb
      go_wp2_with fail
      go_loopw [9, 13] (fun v9 v13 wr => ∃ (i p b : Nat) (m : List En) (a : Option Addr) (k : Nat), i ≤ 80 ∧ i ≤ ln ∧ v9 = .pointer (some ⟨p, 0, none⟩) ∧ v13 = .int .i64 i ∧ St w wr rb p b c m m a k) (fun _ v13 _ => 80 - (intOf v13).toNat)
      case atStart => exact ⟨0, p0, b0, [], none, 0, by omega, by omega, rfl, rfl, G4.out⟩
      case round =>
        clear G4
        obtain ⟨i, p, b, m, a, k, hi, hin, rfl, rfl, hS⟩ := hrel
        have hi0 : (0 : Int) ≤ (i : Int) := by omega
        by_cases hit : i < ln ∧ i < 80
        · have hi1 : (i : Int) < (ln : Int) := by omega
          have hi2 : (i : Int) < 80 := by omega
          obtain ⟨lb, lo, rfl⟩ := HL.out.2.2.2.1 (by omega)
          have ho := HL.out.wf i (by omega)
          have fl := (HL.out.below hS.bel).ld i (by omega)
          obtain ⟨o, hx⟩ : ∃ o, gtO l i = o := ⟨_, rfl⟩
          rw [hx] at ho fl
          obtain ⟨ob, hob⟩ : ∃ ob, Hid (wr.heap.size = ob) := ⟨_, rfl⟩
          obtain ⟨V, stV, rV, bV, zV⟩ := row_new rtO wr #[.int .i64 0, .int .i64 0, .int .u8 0, .int .u8 0, .int .u8 0, .int .u8 0, .int .u8 0, .int .u8 0, .int .i64 0, .int .i64 0] o.cs rfl rfl (Oq.one o)
          have HV : Hid (St w V rb p b c m m a k ∧ RvAt V ob 36 o.cs ∧ o.k.wf ∧ ob ≠ b ∧ ob ≠ rb ∧ Wfs m ∧ Srt m ∧ m.length ≤ 1000 ∧ c.wf) := by
            have h1 := hS.db.lt
            have h2 := RvAt.lt hS.rd
            have h3 := hS.db.len
            have h4 := hS.db.wf.room
            have hob' := hob.out
            rw [hob'] at rV
            exact ⟨hS.below bV, rV, ho.k, by omega, by omega, hS.db.map.2.1, hS.db.map.1, by omega, hS.db.wf⟩
          have c0 := HV.out.2.1.cell 0 (.int .i64 o.kind) rfl
          have c1 := HV.out.2.1.cell 1 (.int .i64 o.k.vid) rfl
          have c8 := HV.out.2.1.cell 8 (.int .i64 o.port) rfl
          have c9 := HV.out.2.1.cell 9 (.int .i64 o.tick) rfl
          have cm := HV.out.2.1.omac
          clear hS ho rV bV zV hx
          have c00 : V.cell? ⟨wr.heap.size, 0, none⟩ = some (.int .i64 o.kind) := by rw [hob.out]; exact c0
          go_upto_block 2 with fail
          rw [hob.out]
          clear c00 c0
          clear hob fl stV
          refine sw_any HV ?_
          intro y9 y15 y16 y17 y18 y19 y20 y21 y69 y70 y71 y72 y73 y74 y75 y76 y77 y78 y79 y80 y81 y82 y83 y84 y85 y86 y87 y88 y89 y90 y91 y92 y93 y94 y95 y96 y97 y98 y99 y100 y101 y102 y103 y104 y105 y106 y107 y108 y109 y110 y111 y112 y113 y114 y115 y116 y117 y118 y119 y120 y121 y122 y123 y124 y125 y126 y127 y128 y129 y130 y131 y132 y133 y134 y135 y136 y137 y138 y139 y140 y141 y142 y143 y144 y145 y146 y147 y148 y149 y150 y151 y152 y153 y154 y155 y156 y157 y158 y159 y160 y161 y162 y163 y164 y165 y166 y167 y168 y169 y170 y171 y172 y173 y174 y175 y176 y177 y178 y179 y180 y181 y182 y183 y184 y185 y186 y187 y188 y189 y190 y191 y192 y193 y194 y195 y196 y197 y198 y199 y200 y201 y202 y203 y204 y205 y206 y207 y208 y209 y210 y211 y212 X hcut
          obtain ⟨p', b', m', a', k', n, g, f, rfl, rfl, rfl, rfl, rfl, rfl, rfl, hS⟩ := hcut
          clear HV c1 c8 c9 cm
          have hlen := hS.db.len
          have hroom := hS.db.wf.room
          obtain ⟨z, hz⟩ : ∃ z, m'.length = z := ⟨_, rfl⟩
          have f3 := fun q : Later X => (hS.rd.below q.below).c3
          rw [hz] at f3
          have GS : Hid (St w X rb p' b' c m' m' a' k' ∧ m'.length = z ∧ z ≤ 1000) := ⟨hS, hz, by omega⟩
          obtain ⟨X0, hX0⟩ : ∃ X0, X.drew = X0 := ⟨_, rfl⟩
          have bX : Below X.heap.size X X0 := by rw [← hX0]; exact (Below.refl _ _).drew
          clear hS hlen hroom hz
          go_wp2_with fail
          refine wp_region_noPanic ?_
          refine wp_region_held_drew (S := fun w' => ∃ x : Later X, w' = x.val) (by kernel_rfl) ⟨⟨_, (Below.refl _ _).drew⟩, rfl⟩ (fun hHeld => ?_)
          rw [hX0] at hHeld ⊢
          refine wpAnyH_take (i := 0) (oi := { dst := some 213, op := Op.move (Operand.tmp 15), type := 3, pos := "law.go:78", after := #[], guard := none }) (v := ?_) rfl (by kernel_rfl) (by kernel_rfl) (by kernel_rfl) (fun _ _ _ h => h) (Or.inl ⟨by rfl, ?_⟩) hHeld ?_
          rotate_left
          · intro W_ hSw_
            obtain ⟨q, rfl⟩ := hSw_
            first | (go_simp; done) | (go_simp; with_reducible rfl)
          rotate_left
          try simp only [Act.put, List.setIfInBounds_toArray, List.set_cons_zero, List.set_cons_succ]
          refine wpAnyH_take (i := 1) (oi := { dst := some 214, op := Op.move (Operand.tmp 16), type := 3, pos := "law.go:78", after := #[], guard := none }) (v := ?_) rfl (by kernel_rfl) (by kernel_rfl) (by kernel_rfl) (fun _ _ _ h => h) (Or.inl ⟨by rfl, ?_⟩) hHeld ?_
          rotate_left
          · intro W_ hSw_
            obtain ⟨q, rfl⟩ := hSw_
            first | (go_simp; done) | (go_simp; with_reducible rfl)
          rotate_left
          try simp only [Act.put, List.setIfInBounds_toArray, List.set_cons_zero, List.set_cons_succ]
          refine wpAnyH_take (i := 2) (oi := { dst := some 215, op := Op.binOp BinOp.neq 3 (Operand.tmp 213) (Operand.tmp 214) 3, type := 4, pos := "law.go:78", after := #[{ on := 0, ground := Ground.data }, { on := 1, ground := Ground.data }], guard := none }) (v := ?_) rfl (by kernel_rfl) (by kernel_rfl) (by kernel_rfl) (fun _ _ _ h => h) (Or.inl ⟨by rfl, ?_⟩) hHeld ?_
          rotate_left
          · intro W_ hSw_
            obtain ⟨q, rfl⟩ := hSw_
            first | (go_simp; done) | (go_simp; with_reducible rfl)
          rotate_left
          try simp only [Act.put, List.setIfInBounds_toArray, List.set_cons_zero, List.set_cons_succ]
          refine wpAnyH_take (i := 3) (oi := { dst := some 216, op := Op.move (Operand.tmp 215), type := 4, pos := "law.go:78", after := #[{ on := 2, ground := Ground.data }], guard := none }) (v := ?_) rfl (by kernel_rfl) (by kernel_rfl) (by kernel_rfl) (fun _ _ _ h => h) (Or.inl ⟨by rfl, ?_⟩) hHeld ?_
          rotate_left
          · intro W_ hSw_
            obtain ⟨q, rfl⟩ := hSw_
            first | (go_simp; done) | (go_simp; with_reducible rfl)
          rotate_left
          try simp only [Act.put, List.setIfInBounds_toArray, List.set_cons_zero, List.set_cons_succ]
          refine wpAnyH_take (i := 4) (oi := { dst := some 217, op := Op.move (Operand.tmp 17), type := 24, pos := "law.go:78", after := #[{ on := 3, ground := Ground.guard }], guard := some (3, false) }) (v := ?_) rfl (by kernel_rfl) (by kernel_rfl) (by kernel_rfl) (fun _ _ _ h => h) (Or.inl ⟨by rfl, ?_⟩) hHeld ?_
          rotate_left
          · intro W_ hSw_
            obtain ⟨q, rfl⟩ := hSw_
            first | (go_simp; done) | (go_simp; with_reducible rfl)
          rotate_left
          try simp only [Act.put, List.setIfInBounds_toArray, List.set_cons_zero, List.set_cons_succ]
          refine wpAnyH_take (i := 5) (oi := { dst := some 218, op := Op.move (Operand.tmp 18), type := 3, pos := "law.go:78", after := #[{ on := 3, ground := Ground.guard }], guard := some (3, false) }) (v := ?_) rfl (by kernel_rfl) (by kernel_rfl) (by kernel_rfl) (fun _ _ _ h => h) (Or.inl ⟨by rfl, ?_⟩) hHeld ?_
          rotate_left
          · intro W_ hSw_
            obtain ⟨q, rfl⟩ := hSw_
            first | (go_simp; done) | (go_simp; with_reducible rfl)
          rotate_left
          try simp only [Act.put, List.setIfInBounds_toArray, List.set_cons_zero, List.set_cons_succ]
          refine wpAnyH_take (i := 6) (oi := { dst := some 219, op := Op.binOp BinOp.neq 3 (Operand.tmp 217) (Operand.tmp 218) 3, type := 4, pos := "law.go:78", after := #[{ on := 4, ground := Ground.data }, { on := 5, ground := Ground.data }, { on := 3, ground := Ground.guard }], guard := some (3, false) }) (v := ?_) rfl (by kernel_rfl) (by kernel_rfl) (by kernel_rfl) (fun _ _ _ h => h) (Or.inl ⟨by rfl, ?_⟩) hHeld ?_
          rotate_left
          · intro W_ hSw_
            obtain ⟨q, rfl⟩ := hSw_
            first | (go_simp; done) | (go_simp; with_reducible rfl)
          rotate_left
          try simp only [Act.put, List.setIfInBounds_toArray, List.set_cons_zero, List.set_cons_succ]
          refine wpAnyH_take (i := 7) (oi := { dst := some 220, op := Op.pick (Operand.tmp 216) (Operand.const (Value.bool true)) (Operand.tmp 219), type := 4, pos := "law.go:78", after := #[{ on := 3, ground := Ground.data }, { on := 6, ground := Ground.data }], guard := none }) (v := ?_) rfl (by kernel_rfl) (by kernel_rfl) (by kernel_rfl) (fun _ _ _ h => h) (Or.inl ⟨by rfl, ?_⟩) hHeld ?_
          rotate_left
          · intro W_ hSw_
            obtain ⟨q, rfl⟩ := hSw_
            first | (go_simp; done) | (go_simp; with_reducible rfl)
          rotate_left
          try simp only [Act.put, List.setIfInBounds_toArray, List.set_cons_zero, List.set_cons_succ]
          refine wpAnyH_take (i := 8) (oi := { dst := some 221, op := Op.move (Operand.tmp 220), type := 4, pos := "law.go:78", after := #[{ on := 7, ground := Ground.data }, { on := 3, ground := Ground.chain }], guard := none }) (v := ?_) rfl (by kernel_rfl) (by kernel_rfl) (by kernel_rfl) (fun _ _ _ h => h) (Or.inl ⟨by rfl, ?_⟩) hHeld ?_
          rotate_left
          · intro W_ hSw_
            obtain ⟨q, rfl⟩ := hSw_
            first | (go_simp; done) | (go_simp; with_reducible rfl)
          rotate_left
          try simp only [Act.put, List.setIfInBounds_toArray, List.set_cons_zero, List.set_cons_succ]
          refine wpAnyH_take (i := 9) (oi := { dst := some 222, op := Op.move (Operand.tmp 19), type := 4, pos := "law.go:78", after := #[{ on := 8, ground := Ground.guard }], guard := some (8, false) }) (v := ?_) rfl (by kernel_rfl) (by kernel_rfl) (by kernel_rfl) (fun _ _ _ h => h) (Or.inl ⟨by rfl, ?_⟩) hHeld ?_
          rotate_left
          · intro W_ hSw_
            obtain ⟨q, rfl⟩ := hSw_
            first | (go_simp; done) | (go_simp; with_reducible rfl)
          rotate_left
          try simp only [Act.put, List.setIfInBounds_toArray, List.set_cons_zero, List.set_cons_succ]
          refine wpAnyH_take (i := 10) (oi := { dst := some 223, op := Op.move (Operand.tmp 20), type := 4, pos := "law.go:78", after := #[{ on := 8, ground := Ground.guard }], guard := some (8, false) }) (v := ?_) rfl (by kernel_rfl) (by kernel_rfl) (by kernel_rfl) (fun _ _ _ h => h) (Or.inl ⟨by rfl, ?_⟩) hHeld ?_
          rotate_left
          · intro W_ hSw_
            obtain ⟨q, rfl⟩ := hSw_
            first | (go_simp; done) | (go_simp; with_reducible rfl)
          rotate_left
          try simp only [Act.put, List.setIfInBounds_toArray, List.set_cons_zero, List.set_cons_succ]
          refine wpAnyH_take (i := 11) (oi := { dst := some 224, op := Op.binOp BinOp.neq 4 (Operand.tmp 222) (Operand.tmp 223) 4, type := 4, pos := "law.go:78", after := #[{ on := 9, ground := Ground.data }, { on := 10, ground := Ground.data }, { on := 8, ground := Ground.guard }], guard := some (8, false) }) (v := ?_) rfl (by kernel_rfl) (by kernel_rfl) (by kernel_rfl) (fun _ _ _ h => h) (Or.inl ⟨by rfl, ?_⟩) hHeld ?_
          rotate_left
          · intro W_ hSw_
            obtain ⟨q, rfl⟩ := hSw_
            first | (go_simp; done) | (go_simp; with_reducible rfl)
          rotate_left
          try simp only [Act.put, List.setIfInBounds_toArray, List.set_cons_zero, List.set_cons_succ]
          refine wpAnyH_take (i := 12) (oi := { dst := some 225, op := Op.pick (Operand.tmp 221) (Operand.const (Value.bool true)) (Operand.tmp 224), type := 4, pos := "law.go:78", after := #[{ on := 8, ground := Ground.data }, { on := 11, ground := Ground.data }], guard := none }) (v := ?_) rfl (by kernel_rfl) (by kernel_rfl) (by kernel_rfl) (fun _ _ _ h => h) (Or.inl ⟨by rfl, ?_⟩) hHeld ?_
          rotate_left
          · intro W_ hSw_
            obtain ⟨q, rfl⟩ := hSw_
            first | (go_simp; done) | (go_simp; with_reducible rfl)
          rotate_left
          try simp only [Act.put, List.setIfInBounds_toArray, List.set_cons_zero, List.set_cons_succ]
          refine wpAnyH_take (i := 13) (oi := { dst := some 226, op := Op.move (Operand.tmp 225), type := 4, pos := "law.go:78", after := #[{ on := 12, ground := Ground.data }, { on := 8, ground := Ground.chain }], guard := none }) (v := ?_) rfl (by kernel_rfl) (by kernel_rfl) (by kernel_rfl) (fun _ _ _ h => h) (Or.inl ⟨by rfl, ?_⟩) hHeld ?_
          rotate_left
          · intro W_ hSw_
            obtain ⟨q, rfl⟩ := hSw_
            first | (go_simp; done) | (go_simp; with_reducible rfl)
          rotate_left
          try simp only [Act.put, List.setIfInBounds_toArray, List.set_cons_zero, List.set_cons_succ]
          refine wpAnyH_take (i := 14) (oi := { dst := some 227, op := Op.move (Operand.tmp 9), type := 23, pos := "law.go:78", after := #[{ on := 13, ground := Ground.guard }], guard := some (13, false) }) (v := ?_) rfl (by kernel_rfl) (by kernel_rfl) (by kernel_rfl) (fun _ _ _ h => h) (Or.inl ⟨by rfl, ?_⟩) hHeld ?_
          rotate_left
          · intro W_ hSw_
            obtain ⟨q, rfl⟩ := hSw_
            first | (go_simp; done) | (go_simp; with_reducible rfl)
          rotate_left
          try simp only [Act.put, List.setIfInBounds_toArray, List.set_cons_zero, List.set_cons_succ]
          refine wpAnyH_take (i := 16) (oi := { dst := some 229, op := Op.fieldAddr 29 (Operand.tmp 11) 3, type := 0, pos := "law.go:78", after := #[{ on := 13, ground := Ground.guard }], guard := some (13, false) }) (v := ?_) rfl (by kernel_rfl) (by kernel_rfl) (by kernel_rfl) (fun _ _ _ h => h) (Or.inl ⟨by rfl, ?_⟩) hHeld ?_
          rotate_left
          · intro W_ hSw_
            obtain ⟨q, rfl⟩ := hSw_
            first | (go_simp; done) | (go_simp; with_reducible rfl)
          rotate_left
          try simp only [Act.put, List.setIfInBounds_toArray, List.set_cons_zero, List.set_cons_succ]
          refine wpAnyH_take (i := 17) (oi := { dst := some 230, op := Op.load 27 (Operand.tmp 229), type := 27, pos := "law.go:78", after := #[{ on := 16, ground := Ground.data }, { on := 13, ground := Ground.guard }], guard := some (13, false) }) (v := ?_) rfl (by kernel_rfl) (by kernel_rfl) (by kernel_rfl) (fun _ _ _ h => h) (Or.inl ⟨by rfl, ?_⟩) hHeld ?_
          rotate_left
          · intro W_ hSw_
            obtain ⟨q, rfl⟩ := hSw_
            first | (go_simp; done) | (go_simp; with_reducible rfl)
          rotate_left
          try simp only [Act.put, List.setIfInBounds_toArray, List.set_cons_zero, List.set_cons_succ]
          refine wpAnyH_take (i := 18) (oi := { dst := some 231, op := Op.call { callee := Callee.builtin Builtin.len, args := #[Operand.tmp 230], argTypes := #[27] }, type := 3, pos := "law.go:78", after := #[{ on := 17, ground := Ground.data }, { on := 13, ground := Ground.guard }], guard := some (13, false) }) (v := ?_) rfl (by kernel_rfl) (by kernel_rfl) (by kernel_rfl) (fun _ _ _ h => h) (Or.inl ⟨by rfl, ?_⟩) hHeld ?_
          rotate_left
          · intro W_ hSw_
            obtain ⟨q, rfl⟩ := hSw_
            first | (go_simp; done) | (go_simp; with_reducible rfl)
          rotate_left
          try simp only [Act.put, List.setIfInBounds_toArray, List.set_cons_zero, List.set_cons_succ]
          refine wpAnyH_ready (rs := [15]) (by kernel_rfl) (by simp) ?_
          refine AllReadyH.cons (o := { dst := some 228, op := Op.call { callee := Callee.value (Operand.func 26), args := #[Operand.tmp 227], argTypes := #[23] }, type := 3, pos := "law.go:78", after := #[{ on := 14, ground := Ground.data }, { on := 13, ground := Ground.chain }, { on := 13, ground := Ground.guard }], guard := some (13, false) }) rfl (fun K hK => ?_) AllReadyH.nil
          go_simp
          refine (len_any p' b' c m' _ (GS.out.1.db.below bX)).mono ?_
          rintro _ Y ⟨rfl, hY⟩
          rw [hY, GS.out.2.1]
          clear hY Y hHeld
          refine hK.out _ _ ⟨⟨_, bX⟩, rfl⟩ (fun hHeld => ?_)
          clear hK K
          try simp only [Act.put, List.setIfInBounds_toArray, List.set_cons_zero, List.set_cons_succ]
          refine wpAnyH_take (i := 19) (oi := { dst := some 232, op := Op.binOp BinOp.neq 3 (Operand.tmp 228) (Operand.tmp 231) 3, type := 4, pos := "law.go:78", after := #[{ on := 15, ground := Ground.data }, { on := 18, ground := Ground.data }, { on := 13, ground := Ground.guard }], guard := some (13, false) }) (v := ?_) rfl (by kernel_rfl) (by kernel_rfl) (by kernel_rfl) (fun _ _ _ h => h) (Or.inl ⟨by rfl, ?_⟩) hHeld ?_
          rotate_left
          · intro W_ hSw_
            obtain ⟨q, rfl⟩ := hSw_
            first | (go_simp; done) | (go_simp; with_reducible rfl)
          rotate_left
          try simp only [Act.put, List.setIfInBounds_toArray, List.set_cons_zero, List.set_cons_succ]
          refine wpAnyH_take (i := 20) (oi := { dst := some 233, op := Op.pick (Operand.tmp 226) (Operand.const (Value.bool true)) (Operand.tmp 232), type := 4, pos := "law.go:78", after := #[{ on := 13, ground := Ground.data }, { on := 19, ground := Ground.data }], guard := none }) (v := ?_) rfl (by kernel_rfl) (by kernel_rfl) (by kernel_rfl) (fun _ _ _ h => h) (Or.inl ⟨by rfl, ?_⟩) hHeld ?_
          rotate_left
          · intro W_ hSw_
            obtain ⟨q, rfl⟩ := hSw_
            first | (go_simp; done) | (go_simp; with_reducible rfl)
          rotate_left
          try simp only [Act.put, List.setIfInBounds_toArray, List.set_cons_zero, List.set_cons_succ]
          refine wpAnyH_take (i := 21) (oi := { dst := some 234, op := Op.move (Operand.tmp 233), type := 4, pos := "law.go:78", after := #[{ on := 20, ground := Ground.data }, { on := 15, ground := Ground.chain }], guard := none }) (v := ?_) rfl (by kernel_rfl) (by kernel_rfl) (by kernel_rfl) (fun _ _ _ h => h) (Or.inl ⟨by rfl, ?_⟩) hHeld ?_
          rotate_left
          · intro W_ hSw_
            obtain ⟨q, rfl⟩ := hSw_
            first | (go_simp; done) | (go_simp; with_reducible rfl)
          rotate_left
          try simp only [Act.put, List.setIfInBounds_toArray, List.set_cons_zero, List.set_cons_succ]
          refine wpAnyH_take (i := 22) (oi := { dst := some 235, op := Op.move (Operand.tmp 9), type := 23, pos := "law.go:78", after := #[{ on := 21, ground := Ground.guard }], guard := some (21, false) }) (v := ?_) rfl (by kernel_rfl) (by kernel_rfl) (by kernel_rfl) (fun _ _ _ h => h) (Or.inl ⟨by rfl, ?_⟩) hHeld ?_
          rotate_left
          · intro W_ hSw_
            obtain ⟨q, rfl⟩ := hSw_
            first | (go_simp; done) | (go_simp; with_reducible rfl)
          rotate_left
          try simp only [Act.put, List.setIfInBounds_toArray, List.set_cons_zero, List.set_cons_succ]
          refine wpAnyH_take (i := 24) (oi := { dst := some 237, op := Op.fieldAddr 29 (Operand.tmp 11) 3, type := 0, pos := "law.go:78", after := #[{ on := 21, ground := Ground.guard }], guard := some (21, false) }) (v := ?_) rfl (by kernel_rfl) (by kernel_rfl) (by kernel_rfl) (fun _ _ _ h => h) (Or.inl ⟨by rfl, ?_⟩) hHeld ?_
          rotate_left
          · intro W_ hSw_
            obtain ⟨q, rfl⟩ := hSw_
            first | (go_simp; done) | (go_simp; with_reducible rfl)
          rotate_left
          try simp only [Act.put, List.setIfInBounds_toArray, List.set_cons_zero, List.set_cons_succ]
          refine wpAnyH_take (i := 25) (oi := { dst := some 238, op := Op.load 27 (Operand.tmp 237), type := 27, pos := "law.go:78", after := #[{ on := 24, ground := Ground.data }, { on := 21, ground := Ground.guard }], guard := some (21, false) }) (v := ?_) rfl (by kernel_rfl) (by kernel_rfl) (by kernel_rfl) (fun _ _ _ h => h) (Or.inl ⟨by rfl, ?_⟩) hHeld ?_
          rotate_left
          · intro W_ hSw_
            obtain ⟨q, rfl⟩ := hSw_
            first | (go_simp; done) | (go_simp; with_reducible rfl)
          rotate_left
          try simp only [Act.put, List.setIfInBounds_toArray, List.set_cons_zero, List.set_cons_succ]
          refine wpAnyH_ready (rs := [23]) (by kernel_rfl) (by simp) ?_
          refine AllReadyH.cons (o := { dst := some 236, op := Op.call { callee := Callee.value (Operand.func 28), args := #[Operand.tmp 235], argTypes := #[23] }, type := 27, pos := "law.go:78", after := #[{ on := 22, ground := Ground.data }, { on := 21, ground := Ground.chain }, { on := 21, ground := Ground.guard }], guard := some (21, false) }) rfl (fun K hK => ?_) AllReadyH.nil
          go_simp
          refine (all_any p' b' c m' _ (GS.out.1.db.below bX)).mono ?_
          rintro _ W7 ⟨v7, rfl, o7, b7⟩
          obtain ⟨a7, c7, rfl, s7, n7⟩ := o7.form
          rw [GS.out.2.1] at s7 ⊢
          have s8 := GS.out.1.sl.below (below_over bX b7)
          rw [GS.out.2.1] at s8
          have G7 : Hid (SlAt W7 a7 z c7 m' ∧ SlAt W7 a' z k' m' ∧ Below X.heap.size X W7) := ⟨s7, s8, below_over bX b7⟩
          clear o7 s7 s8 n7 b7 hHeld
          refine hK.out _ _ ⟨⟨_, G7.out.2.2⟩, rfl⟩ (fun hHeld => ?_)
          clear hK K
          try simp only [Act.put, List.setIfInBounds_toArray, List.set_cons_zero, List.set_cons_succ]
          refine wpAnyH_ready (rs := [26]) (by kernel_rfl) (by simp) ?_
          refine AllReadyH.cons (o := { dst := some 239, op := Op.call { callee := Callee.value (Operand.func 27), args := #[Operand.tmp 236, Operand.tmp 238], argTypes := #[27, 27] }, type := 4, pos := "law.go:78", after := #[{ on := 23, ground := Ground.data }, { on := 25, ground := Ground.data }, { on := 23, ground := Ground.chain }, { on := 21, ground := Ground.guard }], guard := some (21, false) }) rfl (fun K hK => ?_) AllReadyH.nil
          go_simp
          refine (same_eq a7 a' z c7 k' m' _ G7.out.1 G7.out.2.1 GS.out.2.2).mono ?_
          rintro _ W8 ⟨rfl, b8⟩
          have G8 : Hid (Below X.heap.size X W8) := below_over G7.out.2.2 b8
          clear b8 hHeld
          refine hK.out _ _ ⟨⟨_, G8.out⟩, rfl⟩ (fun hHeld => ?_)
          clear hK K
          try simp only [Act.put, List.setIfInBounds_toArray, List.set_cons_zero, List.set_cons_succ]
          refine wpAnyH_take (i := 27) (oi := { dst := some 240, op := Op.unOp UnOp.not 4 (Operand.tmp 239), type := 4, pos := "law.go:78", after := #[{ on := 26, ground := Ground.data }, { on := 21, ground := Ground.guard }], guard := some (21, false) }) (v := ?_) rfl (by kernel_rfl) (by kernel_rfl) (by kernel_rfl) (fun _ _ _ h => h) (Or.inl ⟨by rfl, ?_⟩) hHeld ?_
          rotate_left
          · intro W_ hSw_
            obtain ⟨q, rfl⟩ := hSw_
            first | (go_simp; done) | (go_simp; with_reducible rfl)
          rotate_left
          try simp only [Act.put, List.setIfInBounds_toArray, List.set_cons_zero, List.set_cons_succ]
          refine wpAnyH_take (i := 28) (oi := { dst := some 241, op := Op.pick (Operand.tmp 234) (Operand.const (Value.bool true)) (Operand.tmp 240), type := 4, pos := "law.go:78", after := #[{ on := 21, ground := Ground.data }, { on := 27, ground := Ground.data }], guard := none }) (v := ?_) rfl (by kernel_rfl) (by kernel_rfl) (by kernel_rfl) (fun _ _ _ h => h) (Or.inl ⟨by rfl, ?_⟩) hHeld ?_
          rotate_left
          · intro W_ hSw_
            obtain ⟨q, rfl⟩ := hSw_
            first | (go_simp; done) | (go_simp; with_reducible rfl)
          rotate_left
          try simp only [Act.put, List.setIfInBounds_toArray, List.set_cons_zero, List.set_cons_succ]
          refine wpAnyH_done (by kernel_rfl) ?_ _
          refine NoPanic.normal ?_
          clear hHeld
          clear f3 hX0 bX
          go_wp2
          go_roundw
          case rel => exact ⟨i + 1, p', b', m', a', k', by omega, by omega, rfl, by go_num, GS.out.1.below G8.out⟩
          case measure => simp [intOf]; omega
        · have HR : Hid (Below w.heap.size w wr) := hS.bel
          clear hS
          by_cases h1 : (i : Int) < (ln : Int)
          · have h2 : ¬ (i : Int) < 80 := by omega
            have h2' : decide ((i : Int) < 80) = false := by simpa using h2
            clear hit
            go_wp2
            go_ret
            exact ⟨rfl, HR.out⟩
          · have h1' : decide ((i : Int) < (ln : Int)) = false := by simpa using h1
            clear hit
            go_wp2
            go_ret
            exact ⟨rfl, HR.out⟩
end Go.Proofs.Ytpbpofmlpbobmaa
