/-
  There and back: plain facts on texts, and the contracts that follow.
-/
import Derived.Test.YticbihnnemojbaaParseAll
import Derived.Test.YticbihnnemojbaaGroup
namespace Go.Proofs.Yticbihnnemojbaa
set_option linter.unusedVariables false
open Go.RowKit

theorem bs_size (ns : List Int) : (bs ns).size = ns.length := by rw [← ByteArray.size_data, bs_data]; simp

theorem bt_bs (ns : List Int) (k : Nat) (n : Int) (h : ns[k]? = some n) (hn : 0 ≤ n ∧ n ≤ 255) : bt (bs ns) k = n := by
  have hk : k < ns.length := (List.getElem?_eq_some_iff.mp h).1
  unfold bt
  rw [dif_pos (by rw [bs_size]; exact hk)]
  have e : (bs ns)[k]'(by rw [bs_size]; exact hk) = UInt8.ofNat n.toNat := by
    rw [ByteArray.getElem_eq_getElem_data]
    simp only [bs_data]
    have h2 := (List.getElem?_eq_some_iff.mp h).2
    simp [h2]
  rw [e]
  simp
  omega

theorem dig_bd (k : Int) (h : 0 ≤ k ∧ k < 16) : 0 ≤ dig k ∧ dig k ≤ 255 := by unfold dig; split <;> omega
theorem val_dig (k : Int) (h : 0 ≤ k ∧ k < 16) : val (dig k) = k := by
  unfold dig val
  by_cases h1 : k < 10
  · rw [if_pos h1, if_pos (by omega)]; omega
  · rw [if_neg h1, if_neg (by omega), if_pos (by omega)]; omega
theorem dv_dig (k : Int) (h : 0 ≤ k ∧ k < 16) : dv (dig k) = k := by unfold dv; rw [val_dig k h, if_neg (by omega)]
theorem dok_dig (k : Int) (h : 0 ≤ k ∧ k < 16) : dok (dig k) = true := by unfold dok; rw [val_dig k h]; simp; omega
theorem dig_dv (c : Int) (h : dok c = true) : dig (dv c) = c := by
  have h' : 0 ≤ val c := by simpa [dok] using h
  unfold dv; rw [if_neg (by omega)]
  unfold val at h' ⊢
  unfold dig
  by_cases h1 : 48 ≤ c ∧ c ≤ 57
  · rw [if_pos h1]; rw [if_pos (by omega)]; omega
  · rw [if_neg h1] at h' ⊢
    by_cases h2 : 97 ≤ c ∧ c ≤ 102
    · rw [if_pos h2] at h' ⊢; rw [if_neg (by omega)]; omega
    · rw [if_neg h2] at h'; omega

theorem btx_0 (a b c d e f : Int) (h : 0 ≤ a ∧ a ≤ 255) : bt (txt a b c d e f) 0 = dig (a / 16) := bt_bs _ 0 _ rfl (dig_bd _ (by omega))
theorem btx_1 (a b c d e f : Int) (h : 0 ≤ a ∧ a ≤ 255) : bt (txt a b c d e f) 1 = dig (a % 16) := bt_bs _ 1 _ rfl (dig_bd _ (by omega))
theorem btx_2 (a b c d e f : Int)  : bt (txt a b c d e f) 2 = 45 := bt_bs _ 2 _ rfl (by omega)
theorem btx_3 (a b c d e f : Int) (h : 0 ≤ b ∧ b ≤ 255) : bt (txt a b c d e f) 3 = dig (b / 16) := bt_bs _ 3 _ rfl (dig_bd _ (by omega))
theorem btx_4 (a b c d e f : Int) (h : 0 ≤ b ∧ b ≤ 255) : bt (txt a b c d e f) 4 = dig (b % 16) := bt_bs _ 4 _ rfl (dig_bd _ (by omega))
theorem btx_5 (a b c d e f : Int)  : bt (txt a b c d e f) 5 = 45 := bt_bs _ 5 _ rfl (by omega)
theorem btx_6 (a b c d e f : Int) (h : 0 ≤ c ∧ c ≤ 255) : bt (txt a b c d e f) 6 = dig (c / 16) := bt_bs _ 6 _ rfl (dig_bd _ (by omega))
theorem btx_7 (a b c d e f : Int) (h : 0 ≤ c ∧ c ≤ 255) : bt (txt a b c d e f) 7 = dig (c % 16) := bt_bs _ 7 _ rfl (dig_bd _ (by omega))
theorem btx_8 (a b c d e f : Int)  : bt (txt a b c d e f) 8 = 45 := bt_bs _ 8 _ rfl (by omega)
theorem btx_9 (a b c d e f : Int) (h : 0 ≤ d ∧ d ≤ 255) : bt (txt a b c d e f) 9 = dig (d / 16) := bt_bs _ 9 _ rfl (dig_bd _ (by omega))
theorem btx_10 (a b c d e f : Int) (h : 0 ≤ d ∧ d ≤ 255) : bt (txt a b c d e f) 10 = dig (d % 16) := bt_bs _ 10 _ rfl (dig_bd _ (by omega))
theorem btx_11 (a b c d e f : Int)  : bt (txt a b c d e f) 11 = 45 := bt_bs _ 11 _ rfl (by omega)
theorem btx_12 (a b c d e f : Int) (h : 0 ≤ e ∧ e ≤ 255) : bt (txt a b c d e f) 12 = dig (e / 16) := bt_bs _ 12 _ rfl (dig_bd _ (by omega))
theorem btx_13 (a b c d e f : Int) (h : 0 ≤ e ∧ e ≤ 255) : bt (txt a b c d e f) 13 = dig (e % 16) := bt_bs _ 13 _ rfl (dig_bd _ (by omega))
theorem btx_14 (a b c d e f : Int)  : bt (txt a b c d e f) 14 = 45 := bt_bs _ 14 _ rfl (by omega)
theorem btx_15 (a b c d e f : Int) (h : 0 ≤ f ∧ f ≤ 255) : bt (txt a b c d e f) 15 = dig (f / 16) := bt_bs _ 15 _ rfl (dig_bd _ (by omega))
theorem btx_16 (a b c d e f : Int) (h : 0 ≤ f ∧ f ≤ 255) : bt (txt a b c d e f) 16 = dig (f % 16) := bt_bs _ 16 _ rfl (dig_bd _ (by omega))

theorem ok_txt (a b c d e f : Int) (ha : 0 ≤ a ∧ a ≤ 255) (hb : 0 ≤ b ∧ b ≤ 255) (hc : 0 ≤ c ∧ c ≤ 255) (hd : 0 ≤ d ∧ d ≤ 255) (he : 0 ≤ e ∧ e ≤ 255) (hf : 0 ≤ f ∧ f ≤ 255) : okT (txt a b c d e f) = true := by
  unfold okT
  rw [decide_eq_true_iff]
  refine ⟨by unfold txt; rw [bs_size]; rfl, ?_, ?_, ?_, ?_, ?_, ?_, ?_, ?_, ?_, ?_, ?_, ?_, ?_, ?_, ?_, ?_, ?_⟩
  · rw [btx_0 a b c d e f ha]; exact dok_dig _ (by omega)
  · rw [btx_1 a b c d e f ha]; exact dok_dig _ (by omega)
  · exact btx_2 a b c d e f
  · rw [btx_3 a b c d e f hb]; exact dok_dig _ (by omega)
  · rw [btx_4 a b c d e f hb]; exact dok_dig _ (by omega)
  · exact btx_5 a b c d e f
  · rw [btx_6 a b c d e f hc]; exact dok_dig _ (by omega)
  · rw [btx_7 a b c d e f hc]; exact dok_dig _ (by omega)
  · exact btx_8 a b c d e f
  · rw [btx_9 a b c d e f hd]; exact dok_dig _ (by omega)
  · rw [btx_10 a b c d e f hd]; exact dok_dig _ (by omega)
  · exact btx_11 a b c d e f
  · rw [btx_12 a b c d e f he]; exact dok_dig _ (by omega)
  · rw [btx_13 a b c d e f he]; exact dok_dig _ (by omega)
  · exact btx_14 a b c d e f
  · rw [btx_15 a b c d e f hf]; exact dok_dig _ (by omega)
  · rw [btx_16 a b c d e f hf]; exact dok_dig _ (by omega)
theorem ptx_0 (a b c d e f : Int) (ha : 0 ≤ a ∧ a ≤ 255) (hb : 0 ≤ b ∧ b ≤ 255) (hc : 0 ≤ c ∧ c ≤ 255) (hd : 0 ≤ d ∧ d ≤ 255) (he : 0 ≤ e ∧ e ≤ 255) (hf : 0 ≤ f ∧ f ≤ 255) : pbyte (txt a b c d e f) 0 = a := by
  unfold pbyte
  rw [if_pos (ok_txt a b c d e f ha hb hc hd he hf)]
  show dv (bt (txt a b c d e f) 0) * 16 + dv (bt (txt a b c d e f) 1) = a
  rw [btx_0 a b c d e f ha, btx_1 a b c d e f ha, dv_dig _ (by omega), dv_dig _ (by omega)]; omega
theorem ptx_1 (a b c d e f : Int) (ha : 0 ≤ a ∧ a ≤ 255) (hb : 0 ≤ b ∧ b ≤ 255) (hc : 0 ≤ c ∧ c ≤ 255) (hd : 0 ≤ d ∧ d ≤ 255) (he : 0 ≤ e ∧ e ≤ 255) (hf : 0 ≤ f ∧ f ≤ 255) : pbyte (txt a b c d e f) 1 = b := by
  unfold pbyte
  rw [if_pos (ok_txt a b c d e f ha hb hc hd he hf)]
  show dv (bt (txt a b c d e f) 3) * 16 + dv (bt (txt a b c d e f) 4) = b
  rw [btx_3 a b c d e f hb, btx_4 a b c d e f hb, dv_dig _ (by omega), dv_dig _ (by omega)]; omega
theorem ptx_2 (a b c d e f : Int) (ha : 0 ≤ a ∧ a ≤ 255) (hb : 0 ≤ b ∧ b ≤ 255) (hc : 0 ≤ c ∧ c ≤ 255) (hd : 0 ≤ d ∧ d ≤ 255) (he : 0 ≤ e ∧ e ≤ 255) (hf : 0 ≤ f ∧ f ≤ 255) : pbyte (txt a b c d e f) 2 = c := by
  unfold pbyte
  rw [if_pos (ok_txt a b c d e f ha hb hc hd he hf)]
  show dv (bt (txt a b c d e f) 6) * 16 + dv (bt (txt a b c d e f) 7) = c
  rw [btx_6 a b c d e f hc, btx_7 a b c d e f hc, dv_dig _ (by omega), dv_dig _ (by omega)]; omega
theorem ptx_3 (a b c d e f : Int) (ha : 0 ≤ a ∧ a ≤ 255) (hb : 0 ≤ b ∧ b ≤ 255) (hc : 0 ≤ c ∧ c ≤ 255) (hd : 0 ≤ d ∧ d ≤ 255) (he : 0 ≤ e ∧ e ≤ 255) (hf : 0 ≤ f ∧ f ≤ 255) : pbyte (txt a b c d e f) 3 = d := by
  unfold pbyte
  rw [if_pos (ok_txt a b c d e f ha hb hc hd he hf)]
  show dv (bt (txt a b c d e f) 9) * 16 + dv (bt (txt a b c d e f) 10) = d
  rw [btx_9 a b c d e f hd, btx_10 a b c d e f hd, dv_dig _ (by omega), dv_dig _ (by omega)]; omega
theorem ptx_4 (a b c d e f : Int) (ha : 0 ≤ a ∧ a ≤ 255) (hb : 0 ≤ b ∧ b ≤ 255) (hc : 0 ≤ c ∧ c ≤ 255) (hd : 0 ≤ d ∧ d ≤ 255) (he : 0 ≤ e ∧ e ≤ 255) (hf : 0 ≤ f ∧ f ≤ 255) : pbyte (txt a b c d e f) 4 = e := by
  unfold pbyte
  rw [if_pos (ok_txt a b c d e f ha hb hc hd he hf)]
  show dv (bt (txt a b c d e f) 12) * 16 + dv (bt (txt a b c d e f) 13) = e
  rw [btx_12 a b c d e f he, btx_13 a b c d e f he, dv_dig _ (by omega), dv_dig _ (by omega)]; omega
theorem ptx_5 (a b c d e f : Int) (ha : 0 ≤ a ∧ a ≤ 255) (hb : 0 ≤ b ∧ b ≤ 255) (hc : 0 ≤ c ∧ c ≤ 255) (hd : 0 ≤ d ∧ d ≤ 255) (he : 0 ≤ e ∧ e ≤ 255) (hf : 0 ≤ f ∧ f ≤ 255) : pbyte (txt a b c d e f) 5 = f := by
  unfold pbyte
  rw [if_pos (ok_txt a b c d e f ha hb hc hd he hf)]
  show dv (bt (txt a b c d e f) 15) * 16 + dv (bt (txt a b c d e f) 16) = f
  rw [btx_15 a b c d e f hf, btx_16 a b c d e f hf, dv_dig _ (by omega), dv_dig _ (by omega)]; omega

theorem parse_text (a b c d e f : Int) (w : World) (ha : 0 ≤ a ∧ a ≤ 255) (hb : 0 ≤ b ∧ b ≤ 255) (hc : 0 ≤ c ∧ c ≤ 255) (hd : 0 ≤ d ∧ d ≤ 255) (he : 0 ≤ e ∧ e ≤ 255) (hf : 0 ≤ f ∧ f ≤ 255) :
    Calls Try.prog 13 #[.string (txt a b c d e f)] w fun r w' => r = .returned (.tuple #[.agg #[.int .u8 a, .int .u8 b, .int .u8 c, .int .u8 d, .int .u8 e, .int .u8 f], .int .i64 0]) ∧ Below w.heap.size w w' := by
  refine (parse_all (txt a b c d e f) w (by unfold txt; rw [bs_size]; show 17 ≤ maxLen; decide)).mono fun r w' ⟨hr, hB⟩ => ⟨?_, hB⟩
  rw [hr, ptx_0 a b c d e f ha hb hc hd he hf, ptx_1 a b c d e f ha hb hc hd he hf, ptx_2 a b c d e f ha hb hc hd he hf, ptx_3 a b c d e f ha hb hc hd he hf, ptx_4 a b c d e f ha hb hc hd he hf, ptx_5 a b c d e f ha hb hc hd he hf]
  unfold perr
  rw [if_pos (ok_txt a b c d e f ha hb hc hd he hf)]

theorem from_num (a b c d e f : Int) (w : World) (ha : 0 ≤ a ∧ a ≤ 255) (hb : 0 ≤ b ∧ b ≤ 255) (hc : 0 ≤ c ∧ c ≤ 255) (hd : 0 ≤ d ∧ d ≤ 255) (he : 0 ≤ e ∧ e ≤ 255) (hf : 0 ≤ f ∧ f ≤ 255) :
    Calls Try.prog 23 #[.int .u64 (num a b c d e f)] w fun r w' => r = .returned (.agg #[.int .u8 a, .int .u8 b, .int .u8 c, .int .u8 d, .int .u8 e, .int .u8 f]) ∧ Below w.heap.size w w' := by
  have hn := num_bd ha hb hc hd he hf
  refine (from_any (num a b c d e f) w (by omega)).mono fun r w' ⟨hr, hB⟩ => ⟨hr.trans (ret_agg6 ?_ ?_ ?_ ?_ ?_ ?_), hB⟩
  all_goals (unfold num; omega)

theorem parse_yes (s : ByteArray) (w : World) (hs : s.size ≤ maxLen) (h : okT s = true) :
    Calls Try.prog 13 #[.string s] w fun r w' => r = .returned (.tuple #[.agg #[.int .u8 (pbyte s 0), .int .u8 (pbyte s 1), .int .u8 (pbyte s 2), .int .u8 (pbyte s 3), .int .u8 (pbyte s 4), .int .u8 (pbyte s 5)], .int .i64 0]) ∧ Below w.heap.size w w' := by
  refine (parse_all s w hs).mono fun r w' ⟨hr, hb⟩ => ⟨?_, hb⟩
  rw [hr]; unfold perr; rw [if_pos h]

theorem parse_bad (s : ByteArray) (w : World) (hs : s.size ≤ maxLen) (h : okT s = false) :
    Calls Try.prog 13 #[.string s] w fun r w' => r = .returned (.tuple #[.agg #[.int .u8 0, .int .u8 0, .int .u8 0, .int .u8 0, .int .u8 0, .int .u8 0], .int .i64 10]) ∧ Below w.heap.size w w' := by
  refine (parse_all s w hs).mono fun r w' ⟨hr, hb⟩ => ⟨?_, hb⟩
  rw [hr]; unfold perr pbyte; simp only [h, Bool.false_eq_true, if_false]

theorem bt_lit (l : List UInt8) (k : Nat) (h : k < l.length) : bt ⟨⟨l⟩⟩ k = ((l[k]'h).toNat : Int) := by
  unfold bt
  rw [dif_pos (show k < (ByteArray.mk ⟨l⟩).size from h)]
  rfl

theorem bs_of (s : ByteArray) (h : s.size = 17) : bs [bt s 0, bt s 1, bt s 2, bt s 3, bt s 4, bt s 5, bt s 6, bt s 7, bt s 8, bt s 9, bt s 10, bt s 11, bt s 12, bt s 13, bt s 14, bt s 15, bt s 16] = s := by
  obtain ⟨⟨l⟩⟩ := s
  match l, h with
  | [c0, c1, c2, c3, c4, c5, c6, c7, c8, c9, c10, c11, c12, c13, c14, c15, c16], _ =>
    apply ByteArray.ext
    rw [bs_data]
    rw [bt_lit _ 0 (by simp), bt_lit _ 1 (by simp), bt_lit _ 2 (by simp), bt_lit _ 3 (by simp), bt_lit _ 4 (by simp), bt_lit _ 5 (by simp), bt_lit _ 6 (by simp), bt_lit _ 7 (by simp), bt_lit _ 8 (by simp), bt_lit _ 9 (by simp), bt_lit _ 10 (by simp), bt_lit _ 11 (by simp), bt_lit _ 12 (by simp), bt_lit _ 13 (by simp), bt_lit _ 14 (by simp), bt_lit _ 15 (by simp), bt_lit _ 16 (by simp)]
    simp only [List.map_cons, List.map_nil, Int.toNat_natCast, UInt8.ofNat_toNat, List.getElem_cons_zero, List.getElem_cons_succ]

theorem txt_of (s : ByteArray) (h : okT s = true) : txt (pbyte s 0) (pbyte s 1) (pbyte s 2) (pbyte s 3) (pbyte s 4) (pbyte s 5) = s := by
  have ho := h
  unfold okT at ho
  rw [decide_eq_true_iff] at ho
  obtain ⟨hsz, g0, g1, g2, g3, g4, g5, g6, g7, g8, g9, g10, g11, g12, g13, g14, g15, g16⟩ := ho
  have nib : ∀ j, dig (pbyte s j / 16) = dig (dv (bt s (3 * j))) ∧ dig (pbyte s j % 16) = dig (dv (bt s (3 * j + 1))) := fun j => by
    have u := dv_bd (bt s (3 * j))
    have v := dv_bd (bt s (3 * j + 1))
    have e : pbyte s j = dv (bt s (3 * j)) * 16 + dv (bt s (3 * j + 1)) := by unfold pbyte; rw [if_pos h]
    rw [e]
    exact ⟨congrArg dig (by omega), congrArg dig (by omega)⟩
  have e : txt (pbyte s 0) (pbyte s 1) (pbyte s 2) (pbyte s 3) (pbyte s 4) (pbyte s 5) = bs [bt s 0, bt s 1, bt s 2, bt s 3, bt s 4, bt s 5, bt s 6, bt s 7, bt s 8, bt s 9, bt s 10, bt s 11, bt s 12, bt s 13, bt s 14, bt s 15, bt s 16] := by
    unfold txt
    rw [(nib 0).1, (nib 0).2, (nib 1).1, (nib 1).2, (nib 2).1, (nib 2).2, (nib 3).1, (nib 3).2, (nib 4).1, (nib 4).2, (nib 5).1, (nib 5).2]
    simp only [Nat.mul_zero, Nat.zero_add, Nat.reduceMul, Nat.reduceAdd]
    rw [dig_dv _ g0, dig_dv _ g1, dig_dv _ g3, dig_dv _ g4, dig_dv _ g6, dig_dv _ g7, dig_dv _ g9, dig_dv _ g10, dig_dv _ g12, dig_dv _ g13, dig_dv _ g15, dig_dv _ g16]
    simp only [g2, g5, g8, g11, g14]
  rw [e, bs_of s hsz]

theorem text_back (s : ByteArray) (w : World) (h : okT s = true) :
    Calls Try.prog 15 #[.agg #[.int .u8 (pbyte s 0), .int .u8 (pbyte s 1), .int .u8 (pbyte s 2), .int .u8 (pbyte s 3), .int .u8 (pbyte s 4), .int .u8 (pbyte s 5)]] w fun r w' => r = .returned (.string s) ∧ Below w.heap.size w w' := by
  refine (text_any _ _ _ _ _ _ w (pbyte_bd s 0) (pbyte_bd s 1) (pbyte_bd s 2) (pbyte_bd s 3) (pbyte_bd s 4) (pbyte_bd s 5)).mono fun r w' ⟨hr, hb⟩ => ⟨?_, hb⟩
  rw [hr, txt_of s h]

theorem isid_group (n : Int) (w : World) (h : 1 ≤ n ∧ n ≤ 16777215) :
    Calls Try.prog 19 #[.agg #[.int .u8 1, .int .u8 30, .int .u8 131, .int .u8 (n / 65536), .int .u8 (n / 256 % 256), .int .u8 (n % 256)]] w fun r w' => r = .returned (.tuple #[.int .i64 n, .bool true]) ∧ Below w.heap.size w w' := by
  refine (isid_any 1 30 131 (n / 65536) (n / 256 % 256) (n % 256) w (by omega) (by omega) (by omega) (by omega) (by omega) (by omega)).mono fun r w' ⟨hr, hb⟩ => ⟨?_, hb⟩
  have e : isidOf 1 30 131 (n / 65536) (n / 256 % 256) (n % 256) = n := by
    unfold isidOf
    rw [if_pos (by decide)]; omega
  rw [hr, e]
  have : (n != 0) = true := by simp; omega
  rw [this]
end Go.Proofs.Yticbihnnemojbaa
