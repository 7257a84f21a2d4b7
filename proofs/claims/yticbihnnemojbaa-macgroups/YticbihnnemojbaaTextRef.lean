/-
  The walk of the definition's own text of an address, for every input.
-/
import Derived.Test.YticbihnnemojbaaText
namespace Go.Proofs.Yticbihnnemojbaa
set_option linter.unusedVariables false
open Go.RowKit

theorem bs_data (ns : List Int) : (bs ns).data = (ns.map (fun n => UInt8.ofNat n.toNat)).toArray := by
  have gen : ∀ (ns : List Int) (s : ByteArray), (ns.foldl (fun r n => r.push (UInt8.ofNat n.toNat)) s).data = s.data ++ (ns.map (fun n => UInt8.ofNat n.toNat)).toArray := by
    intro ns
    induction ns with
    | nil => intro s; simp
    | cons n ns ih => intro s; simp only [List.foldl_cons, ih]; simp [ByteArray.push]
  unfold bs
  rw [gen]
  simp

theorem bs_append (xs ys : List Int) : bs xs ++ bs ys = bs (xs ++ ys) := by
  apply ByteArray.ext
  simp [bs_data]

theorem ext_fin : ∀ n : Fin 16, (ByteArray.mk #[48, 49, 50, 51, 52, 53, 54, 55, 56, 57, 97, 98, 99, 100, 101, 102]).extract n.val (n.val + 1) = bs [dig (n.val : Int)] := by decide

theorem ext_at (k : Int) (h : 0 ≤ k ∧ k < 16) : (ByteArray.mk #[48, 49, 50, 51, 52, 53, 54, 55, 56, 57, 97, 98, 99, 100, 101, 102]).extract k.toNat (k + 1).toNat = bs [dig k] := by
  have := ext_fin ⟨k.toNat, by omega⟩
  simp only at this
  have e1 : ((k.toNat : Nat) : Int) = k := by omega
  have e2 : (k + 1).toNat = k.toNat + 1 := by omega
  rw [e2, this, e1]

theorem ret_string {a b : ByteArray} (h : a = b) : Ending.returned (.string a) = .returned (.string b) := by rw [h]

/-- The text's part that stands behind k rounds. -/
def pre (a b c d e f : Int) : Nat → ByteArray
  | 0 => bs []
  | 1 => bs [dig (a / 16), dig (a % 16)]
  | 2 => bs [dig (a / 16), dig (a % 16), 45, dig (b / 16), dig (b % 16)]
  | 3 => bs [dig (a / 16), dig (a % 16), 45, dig (b / 16), dig (b % 16), 45, dig (c / 16), dig (c % 16)]
  | 4 => bs [dig (a / 16), dig (a % 16), 45, dig (b / 16), dig (b % 16), 45, dig (c / 16), dig (c % 16), 45, dig (d / 16), dig (d % 16)]
  | 5 => bs [dig (a / 16), dig (a % 16), 45, dig (b / 16), dig (b % 16), 45, dig (c / 16), dig (c % 16), 45, dig (d / 16), dig (d % 16), 45, dig (e / 16), dig (e % 16)]
  | 6 => bs [dig (a / 16), dig (a % 16), 45, dig (b / 16), dig (b % 16), 45, dig (c / 16), dig (c % 16), 45, dig (d / 16), dig (d % 16), 45, dig (e / 16), dig (e % 16), 45, dig (f / 16), dig (f % 16)]
  | _ => bs []

theorem pre_0 (a b c d e f : Int) (h : 0 ≤ a ∧ a ≤ 255) : pre a b c d e f 0 ++ (ByteArray.mk #[48, 49, 50, 51, 52, 53, 54, 55, 56, 57, 97, 98, 99, 100, 101, 102]).extract (a / 16).toNat (a / 16 + 1).toNat ++ (ByteArray.mk #[48, 49, 50, 51, 52, 53, 54, 55, 56, 57, 97, 98, 99, 100, 101, 102]).extract (a % 16).toNat (a % 16 + 1).toNat = pre a b c d e f 1 := by
  rw [ext_at (a / 16) (by omega), ext_at (a % 16) (by omega)]
  
  simp only [pre, bs_append, List.nil_append, List.cons_append]
theorem pre_1 (a b c d e f : Int) (h : 0 ≤ b ∧ b ≤ 255) : pre a b c d e f 1 ++ ByteArray.mk #[45] ++ (ByteArray.mk #[48, 49, 50, 51, 52, 53, 54, 55, 56, 57, 97, 98, 99, 100, 101, 102]).extract (b / 16).toNat (b / 16 + 1).toNat ++ (ByteArray.mk #[48, 49, 50, 51, 52, 53, 54, 55, 56, 57, 97, 98, 99, 100, 101, 102]).extract (b % 16).toNat (b % 16 + 1).toNat = pre a b c d e f 2 := by
  rw [ext_at (b / 16) (by omega), ext_at (b % 16) (by omega)]
  rw [show (ByteArray.mk #[45] : ByteArray) = bs [45] from by decide]
  simp only [pre, bs_append, List.nil_append, List.cons_append]
theorem pre_2 (a b c d e f : Int) (h : 0 ≤ c ∧ c ≤ 255) : pre a b c d e f 2 ++ ByteArray.mk #[45] ++ (ByteArray.mk #[48, 49, 50, 51, 52, 53, 54, 55, 56, 57, 97, 98, 99, 100, 101, 102]).extract (c / 16).toNat (c / 16 + 1).toNat ++ (ByteArray.mk #[48, 49, 50, 51, 52, 53, 54, 55, 56, 57, 97, 98, 99, 100, 101, 102]).extract (c % 16).toNat (c % 16 + 1).toNat = pre a b c d e f 3 := by
  rw [ext_at (c / 16) (by omega), ext_at (c % 16) (by omega)]
  rw [show (ByteArray.mk #[45] : ByteArray) = bs [45] from by decide]
  simp only [pre, bs_append, List.nil_append, List.cons_append]
theorem pre_3 (a b c d e f : Int) (h : 0 ≤ d ∧ d ≤ 255) : pre a b c d e f 3 ++ ByteArray.mk #[45] ++ (ByteArray.mk #[48, 49, 50, 51, 52, 53, 54, 55, 56, 57, 97, 98, 99, 100, 101, 102]).extract (d / 16).toNat (d / 16 + 1).toNat ++ (ByteArray.mk #[48, 49, 50, 51, 52, 53, 54, 55, 56, 57, 97, 98, 99, 100, 101, 102]).extract (d % 16).toNat (d % 16 + 1).toNat = pre a b c d e f 4 := by
  rw [ext_at (d / 16) (by omega), ext_at (d % 16) (by omega)]
  rw [show (ByteArray.mk #[45] : ByteArray) = bs [45] from by decide]
  simp only [pre, bs_append, List.nil_append, List.cons_append]
theorem pre_4 (a b c d e f : Int) (h : 0 ≤ e ∧ e ≤ 255) : pre a b c d e f 4 ++ ByteArray.mk #[45] ++ (ByteArray.mk #[48, 49, 50, 51, 52, 53, 54, 55, 56, 57, 97, 98, 99, 100, 101, 102]).extract (e / 16).toNat (e / 16 + 1).toNat ++ (ByteArray.mk #[48, 49, 50, 51, 52, 53, 54, 55, 56, 57, 97, 98, 99, 100, 101, 102]).extract (e % 16).toNat (e % 16 + 1).toNat = pre a b c d e f 5 := by
  rw [ext_at (e / 16) (by omega), ext_at (e % 16) (by omega)]
  rw [show (ByteArray.mk #[45] : ByteArray) = bs [45] from by decide]
  simp only [pre, bs_append, List.nil_append, List.cons_append]
theorem pre_5 (a b c d e f : Int) (h : 0 ≤ f ∧ f ≤ 255) : pre a b c d e f 5 ++ ByteArray.mk #[45] ++ (ByteArray.mk #[48, 49, 50, 51, 52, 53, 54, 55, 56, 57, 97, 98, 99, 100, 101, 102]).extract (f / 16).toNat (f / 16 + 1).toNat ++ (ByteArray.mk #[48, 49, 50, 51, 52, 53, 54, 55, 56, 57, 97, 98, 99, 100, 101, 102]).extract (f % 16).toNat (f % 16 + 1).toNat = pre a b c d e f 6 := by
  rw [ext_at (f / 16) (by omega), ext_at (f % 16) (by omega)]
  rw [show (ByteArray.mk #[45] : ByteArray) = bs [45] from by decide]
  simp only [pre, bs_append, List.nil_append, List.cons_append]

theorem pre_size (a b c d e f : Int) : ∀ k, (pre a b c d e f k).size ≤ 17 := by
  intro k
  have h : ∀ ns, (bs ns).size = ns.length := fun ns => by rw [← ByteArray.size_data, bs_data]; simp
  unfold pre
  split <;> simp [h]
theorem str_eq {a b : ByteArray} (h : a = b) : Value.string a = .string b := by rw [h]
theorem below_drewN (w : World) (n : Nat) : Below w.heap.size w (w.drewN n) :=
  ⟨rfl, rfl, rfl, Nat.le_refl _, fun _ _ => rfl⟩

set_option maxHeartbeats 1000000 in
theorem text_ref (a b c d e f : Int) (w : World) (ha : 0 ≤ a ∧ a ≤ 255) (hb : 0 ≤ b ∧ b ≤ 255) (hc : 0 ≤ c ∧ c ≤ 255) (hd : 0 ≤ d ∧ d ≤ 255) (he : 0 ≤ e ∧ e ≤ 255) (hf : 0 ≤ f ∧ f ≤ 255) :
    Calls Try.prog 16 #[.agg #[.int .u8 a, .int .u8 b, .int .u8 c, .int .u8 d, .int .u8 e, .int .u8 f]] w fun r w' => r = .returned (.string (txt a b c d e f)) ∧ Below w.heap.size w w' := by
  go_enter Try.func16, Try.ntmps16
  go_wp2
  go_loopw [3, 4] (fun v3 v4 wr => ∃ n : Nat, wr = (w.alloc (.cells #[.int .u8 a, .int .u8 b, .int .u8 c, .int .u8 d, .int .u8 e, .int .u8 f] 23)).drewN n ∧ (v4 = .int .i64 0 ∧ v3 = .string (pre a b c d e f 0) ∨ v4 = .int .i64 1 ∧ v3 = .string (pre a b c d e f 1) ∨ v4 = .int .i64 2 ∧ v3 = .string (pre a b c d e f 2) ∨ v4 = .int .i64 3 ∧ v3 = .string (pre a b c d e f 3) ∨ v4 = .int .i64 4 ∧ v3 = .string (pre a b c d e f 4) ∨ v4 = .int .i64 5 ∧ v3 = .string (pre a b c d e f 5) ∨ v4 = .int .i64 6 ∧ v3 = .string (pre a b c d e f 6))) (fun _ v4 _ => 6 - (intOf v4).toNat)
  case atStart => exact ⟨0, rfl, .inl ⟨rfl, rfl⟩⟩
  case round =>
    obtain ⟨n, rfl, hk⟩ := hrel
    rcases hk with ⟨rfl, rfl⟩ | ⟨rfl, rfl⟩ | ⟨rfl, rfl⟩ | ⟨rfl, rfl⟩ | ⟨rfl, rfl⟩ | ⟨rfl, rfl⟩ | ⟨rfl, rfl⟩
    · have hz := pre_size a b c d e f 0
      go_wp2
      go_quiet (fail)
      go_wp2
      go_roundw
      case rel => exact ⟨_, rfl, .inr (.inl ⟨rfl, str_eq (pre_0 a b c d e f ha)⟩)⟩
      case measure => simp [intOf]
    · have hz := pre_size a b c d e f 1
      go_wp2
      go_quiet (fail)
      go_wp2
      go_roundw
      case rel => exact ⟨_, rfl, .inr (.inr (.inl ⟨rfl, str_eq (pre_1 a b c d e f hb)⟩))⟩
      case measure => simp [intOf]
    · have hz := pre_size a b c d e f 2
      go_wp2
      go_quiet (fail)
      go_wp2
      go_roundw
      case rel => exact ⟨_, rfl, .inr (.inr (.inr (.inl ⟨rfl, str_eq (pre_2 a b c d e f hc)⟩)))⟩
      case measure => simp [intOf]
    · have hz := pre_size a b c d e f 3
      go_wp2
      go_quiet (fail)
      go_wp2
      go_roundw
      case rel => exact ⟨_, rfl, .inr (.inr (.inr (.inr (.inl ⟨rfl, str_eq (pre_3 a b c d e f hd)⟩))))⟩
      case measure => simp [intOf]
    · have hz := pre_size a b c d e f 4
      go_wp2
      go_quiet (fail)
      go_wp2
      go_roundw
      case rel => exact ⟨_, rfl, .inr (.inr (.inr (.inr (.inr (.inl ⟨rfl, str_eq (pre_4 a b c d e f he)⟩)))))⟩
      case measure => simp [intOf]
    · have hz := pre_size a b c d e f 5
      go_wp2
      go_quiet (fail)
      go_wp2
      go_roundw
      case rel => exact ⟨_, rfl, .inr (.inr (.inr (.inr (.inr (.inr (⟨rfl, str_eq (pre_5 a b c d e f hf)⟩))))))⟩
      case measure => simp [intOf]
    · go_wp2
      go_ret
      refine ⟨rfl, below_over (w := w) ?_ (below_drewN _ _)⟩
      go_grown
end Go.Proofs.Yticbihnnemojbaa
