/-
  The library's sort at entries: what All's function tells, and what the row holds behind the call.
-/
import Derived.Test.YtpbpofmlpbobmaaEns
namespace Go.Proofs.Ytpbpofmlpbobmaa
set_option linter.unusedVariables false
set_option maxRecDepth 4000
set_option linter.unusedSimpArgs false
open Go.RowKit Go.Sort

theorem bd_grow {W W' : World} (h : Bd W W') : ∃ q os, W' = grow (W.drewN q) os := by
  refine ⟨W'.drawn - W.drawn, W'.heap.extract W.heap.size W'.heap.size, ?_⟩
  obtain ⟨hb, hd⟩ := h
  obtain ⟨h1, t1, d1, o1, p1⟩ := W
  obtain ⟨h2, t2, d2, o2, p2⟩ := W'
  obtain ⟨ho, ht, hp, hs, hk⟩ := hb
  simp only at ho ht hp hs hk hd
  subst ho ht hp
  have e1 : h2 = h1 ++ h2.extract h1.size h2.size := by
    apply Array.ext_getElem?
    intro i
    rw [Array.getElem?_append]
    split
    · next h => exact hk i h
    · next h =>
      rw [Array.getElem?_extract]
      split
      · congr 1; omega
      · next h' => rw [Array.getElem?_eq_none (by omega)]
  have e2 : d2 = d1 + (d2 - d1) := by omega
  have e3 : ∀ n (w : World), w.drewN n = { w with drawn := w.drawn + n } := fun n w => by
    induction n generalizing w with
    | zero => rfl
    | succ n ih => rw [show w.drewN (n + 1) = (w.drewN n).drew from rfl, ih]; rfl
  rw [e3]
  simp only [grow]
  rw [← e1, ← e2]
attribute [local go_sem ↓] ldK stK ldM stM ldP stP ldE stE
set_option maxHeartbeats 1000000 in
theorem all1_any (x y : En) (w : World) (hx : x.wf) (hy : y.wf) :
    Calls Try.prog 45 #[.agg x.cs, .agg y.cs] w fun r w' => r = .returned (.int .i64 (cmpK x.k y.k)) ∧ Bd w w' := by
  obtain ⟨W, hW⟩ : ∃ W, (w.alloc (.cells x.cs 55)).alloc (.cells y.cs 55) = W := ⟨_, rfl⟩
  have bW : Bd w W := by rw [← hW]; exact ((Bd.refl w).alloc _).alloc _
  have r1 : RvAt W w.heap.size 55 x.cs := by rw [← hW]; exact (RvAt.new w _ _).below ((Below.refl _ _).alloc (Nat.le_refl _) _)
  have r2 : RvAt W (w.heap.size + 1) 55 y.cs := by rw [← hW]; have := RvAt.new (w.alloc (.cells x.cs 55)) 55 y.cs; simpa using this
  have a0 := r1.cell 0 (.int .i64 x.k.vid) rfl
  have b0 := r2.cell 0 (.int .i64 y.k.vid) rfl
  have m1 := r1.emac
  have m2 := r2.emac
  have H : Hid (Bd w W ∧ ∀ W', Calls Try.prog 46 #[.agg x.k.cs, .agg y.k.cs] W' fun r w' => r = .returned (.int .i64 (cmpK x.k y.k)) ∧ Bd W' w') := ⟨bW, fun W' => compare_any x.k y.k W' hx.k hy.k⟩
  clear r1 r2 bW hx hy
  go_enter Try.func45, Try.ntmps45
  go_wp2_with fail
  refine (H.out.2 _).mono ?_
  rintro _ W2 ⟨rfl, b2⟩
  have B2 := H.out.1.trans b2
  clear b2 H a0 b0 m1 m2 hW
  go_wp2
  go_ret
  exact ⟨rfl, B2⟩
/-- An entry that may stand in a database. -/
structure WEn where
  val : En
  property : val.wf
def wen0 : WEn := ⟨⟨zeroK, 0, false, 0⟩, ⟨zeroK_wf, by simp, by simp⟩⟩
def encE (x : WEn) : List Value := x.val.cl
def cfE (x y : WEn) : Int := cmpK x.val.k y.val.k
theorem ltE (x y : WEn) : ltOf cfE x y = decide (x.val.rk < y.val.rk) := by
  unfold ltOf cfE cmpK En.rk
  by_cases h1 : x.val.k.rk = y.val.k.rk
  · simp [h1]
  · by_cases h2 : x.val.k.rk < y.val.k.rk <;> simp [h1, h2]
theorem swoE : SWO (ltOf cfE) where
  irrefl x := by rw [ltE]; simp
  trans x y z h1 h2 := by rw [ltE] at *; simp at *; omega
  ntrans x y z h1 h2 := by rw [ltE] at *; simp at *; omega
theorem cmpLaysE [Inhabited WEn] (blk off size : Nat) (w : World) : CmpLays Try.prog 45 #[] encE 10 cfE blk off size w :=
  fun _ _ _ _ x y => (all1_any x.val y.val _ x.property y.property).mono fun _ _ ⟨he, hb⟩ => ⟨he, bd_grow hb⟩
/-- The row of entries, as the sort's laws have it. -/
theorem flat_flatK [Inhabited WEn] (d : List WEn) : (flatK encE 10 d.toArray).toList = (d.map (·.val)).flatMap En.cl := by
  apply List.ext_getElem?
  intro t
  rw [flat_get]
  by_cases h : t < d.length * 10
  · have h1 : t / 10 < d.length := by omega
    have h2 : t % 10 < 10 := by omega
    have hs : (flatK encE 10 d.toArray).size = d.length * 10 := by simp
    rw [Array.getElem?_toList, Array.getElem?_eq_getElem (by rw [hs]; exact h)]
    have := get_flatK encE 10 d.toArray t (by simpa using h)
    rw [getElem!_pos _ t (by rw [hs]; exact h)] at this
    rw [this]
    rw [getElem!_pos d.toArray (t / 10) (by simpa using h1)]
    simp only [List.getElem?_map, List.getElem?_eq_getElem h1, Option.map_some, Option.bind_some, List.getElem_toArray]
    have h3 : t % 10 < (encE d[t / 10]).length := h2
    rw [getElem!_pos (encE d[t / 10]) (t % 10) h3]
    exact (List.getElem?_eq_getElem h3).symm
  · rw [List.getElem?_eq_none (by simp; omega), List.getElem?_eq_none (by simp; omega)]
    rfl
theorem holdsE [Inhabited WEn] {W : World} {g : Nat} {cur : Array Value} {d : List WEn} (hb : W.heap[g]? = some (.cells cur 55 (0, 0))) (ht : cur.toList.take (d.length * 10) = (d.map (·.val)).flatMap En.cl) : HoldsK encE 10 W g 0 d.toArray := by
  intro j hj
  have hj' : j < d.length * 10 := by simpa using hj
  refine ⟨?_, by simp [World.frozen?, hb]⟩
  rw [Nat.zero_add]
  refine cell_at hb j _ ?_
  rw [← Array.getElem?_toList]
  have h1 : (cur.toList.take (d.length * 10))[j]? = (flatK encE 10 d.toArray).toList[j]? := by rw [ht, flat_flatK]
  rw [List.getElem?_take_of_lt hj'] at h1
  rw [h1, Array.getElem?_toList, Array.getElem?_eq_getElem hj, getElem!_pos _ j hj]
  rfl
theorem heap_sortK [Inhabited WEn] {w : World} {g n : Nat} {os : Array Obj} {cur : Array Value} {e : TypeId} {fr : Nat × Nat} (d : Array WEn) (hb : w.heap[g]? = some (.cells cur e fr)) :
    (sortWorldK encE 10 w g 0 n d os).heap[g]? = some (.cells (putCells id 0 (flatK encE 10 d) cur) e fr) := by
  have hg : g < w.heap.size := (Array.getElem?_eq_some_iff.1 hb).1
  unfold sortWorldK putRowK
  rw [heap_grow_old _ _ (by simpa using hg)]
  simp [putRow, mapBlock, Sort.ahead, Array.getElem?_modify, hb, onCells]
theorem grown_sortK [Inhabited WEn] {w : World} {g n : Nat} {os : Array Obj} (d : Array WEn) : w.grownBy (sortWorldK encE 10 w g 0 n d os) (some g) := by
  unfold sortWorldK putRowK
  refine ⟨rfl, rfl, rfl, by simp, fun k hk hne => ?_⟩
  rw [heap_grow_old _ _ (by simpa using hk)]
  have : g ≠ k := fun e => hne (by rw [e])
  simp [putRow, mapBlock, Sort.ahead, Array.getElem?_modify, this]
theorem take_putK (cur F : Array Value) (h : F.size ≤ cur.size) : (putCells id 0 F cur).toList.take F.size = F.toList := by
  apply List.ext_getElem?
  intro j
  by_cases hj : j < F.size
  · rw [List.getElem?_take_of_lt hj, Array.getElem?_toList, Array.getElem?_toList]
    simp [putCells, hj, show j < cur.size by omega]
  · rw [List.getElem?_take_eq_none (by omega), List.getElem?_eq_none (by simp; omega)]
/-- The entries l, in whatever order they came: sorted they are l. -/
theorem sorted_is [Inhabited WEn] {l : List En} {d d' : Array WEn} (hs : Srt l) (hp : PermIn 0 d.size d d') (ho : SortedIn (ltOf cfE) 0 d.size d') (hd : (d.toList.map (·.val)).Perm l) : d'.toList.map (·.val) = l := by
  obtain ⟨h1, _, h3⟩ := hp
  have e1 : d'.extract 0 d.size = d' := by rw [← h1]; simp
  have e2 : d.extract 0 d.size = d := by simp
  rw [e1, e2] at h3
  have hperm : (d'.toList.map (·.val)).Perm l := (h3.map _).trans hd
  refine srt_ext ?_ hs (fun x => hperm.mem_iff)
  have hne : (d'.toList.map (·.val)).Pairwise (fun x y => x.rk ≠ y.rk) := (hperm.pairwise_iff (fun {a b} (h : a.rk ≠ b.rk) => h.symm)).2 (hs.imp (fun {a b} h => by omega))
  unfold Srt
  rw [List.pairwise_map] at hne ⊢
  rw [List.pairwise_iff_getElem] at hne ⊢
  intro i j hi hj hij
  have h4 := hne i j hi hj hij
  have hi' : i < d'.size := by simpa using hi
  have hj' : j < d'.size := by simpa using hj
  have h5 := ho i j (Nat.zero_le _) hij (by omega)
  rw [ltE, getElem!_pos d' j hj', getElem!_pos d' i hi'] at h5
  have h6 := of_decide_eq_false h5
  simp only [Array.getElem_toList] at h4 ⊢
  omega
end Go.Proofs.Ytpbpofmlpbobmaa
