/-
  The library's sort on a row of one's own: the row is sorted, all else stays. Conditions stand in each theorem.
-/
import Derived.Test.YtmbceafeonjffaaSort
import Derived.Test.YtmbceafeonjffaaOwns
import Derived.Test.YtmbceafeonjffaaHp
import Derived.LoopTactic
import Derived.Deep.DeepCutAuto
namespace Go.Proofs.Ytmbceafeonjffaa
open Go.RowKit Plain
set_option linter.unusedVariables false
set_option maxRecDepth 100000
def srt (zs : List Int) : List Int := zs.mergeSort fun x y => decide (x ≤ y)
theorem srt_perm (zs : List Int) : (srt zs).Perm zs := List.mergeSort_perm zs _
theorem srt_len (zs : List Int) : (srt zs).length = zs.length := (srt_perm zs).length_eq
theorem srt_sorted (zs : List Int) : (srt zs).Pairwise (· ≤ ·) := by
  have h := List.pairwise_mergeSort (le := fun x y : Int => decide (x ≤ y)) (fun a b c h1 h2 => by simp at *; omega) (fun a b => by simp; omega) zs
  refine h.imp ?_
  intro a b hab
  simpa using hab

theorem insertion_nil (w : World) : Calls Try.prog 71 #[.slice none 0 0, .int .i64 0, .int .i64 0] w fun e w' => e = .returned (.tuple #[]) ∧ w = w' := by
  go_enter Try.func71, Try.ntmps71
  go_wp2
  go_loop [6] (fun s => s = .int .i64 1) (fun _ => 0)
  case atStart => rfl
  case round =>
    obtain rfl := hrel
    go_wp2
    go_end0
    exact ⟨rfl, rfl⟩
open Go.Shelf Go.Sort in
theorem len_0 (w : World) : Calls Try.prog 62 #[.int .u64 0] w fun e w' => e = .returned (.int .i64 0) ∧ w = w' := by
  have h : Calls Try.prog (l189_ren.f 125) #[.int .u64 0] w fun e w' => e = .returned (.int .i64 (Lib.bitLen (0 : Int).toNat)) ∧ w' = w := calls_of_every_depth fun D => AnyS.bits_LenIn { l189 with } D 0 w (by omega) (by omega)
  refine (show Calls Try.prog 62 #[.int .u64 0] w fun e w' => e = .returned (.int .i64 (Lib.bitLen (0 : Int).toNat)) ∧ w' = w from h).mono ?_
  rintro e w' ⟨rfl, rfl⟩
  exact ⟨rfl, rfl⟩
theorem pdq_nil (w : World) : Calls Try.prog 61 #[.slice none 0 0, .int .i64 0, .int .i64 0, .int .i64 0] w fun e w' => e = .returned (.tuple #[]) ∧ w = w' := by
  go_enter Try.func61, Try.ntmps61
  go_wp2
  go_loop [1, 2, 3, 8, 9] (fun a b c d e => a = .int .i64 0 ∧ b = .int .i64 0 ∧ c = .int .i64 0) (fun _ _ _ _ _ => 0)
  case atStart => exact ⟨rfl, rfl, rfl⟩
  case round =>
    obtain ⟨rfl, rfl, rfl⟩ := hrel
    go_wp2_with (go_at_call 71; refine (insertion_nil _).mono ?_; rintro e w' ⟨rfl, rfl⟩)
    refine bodyPost_ret (results_none rfl _ _ _) rfl ?_
    exact ⟨rfl, rfl⟩
theorem sort_nil (w : World) : Calls Try.prog 45 #[.slice none 0 0] w fun e w' => e = .returned (.tuple #[]) ∧ w = w' := by
  go_enter Try.func45, Try.ntmps45
  go_wp2_with (first | (go_at_call 62; refine (len_0 _).mono ?_; rintro e w' ⟨rfl, rfl⟩) | (go_at_call 61; refine (pdq_nil _).mono ?_; rintro e w' ⟨rfl, rfl⟩))
  go_end0
  exact ⟨rfl, rfl⟩
open Go.Shelf Go.Sort in
/-- the sort of a row of one's own -/
theorem sort_own {w : World} {base n : Nat} (zs : List Int) (v : Value) (h : w.ownsRow base 3 1 v n (zs.map (Value.int .i64))) (hl : n ≤ 1000000) :
    Calls Try.prog 45 #[v] w fun e w' => e = .returned (.tuple #[]) ∧ w'.ownsRow base 3 1 v n ((srt zs).map (Value.int .i64)) ∧ Keep v.ownBlock.toList w w' := by
  have hlen : zs.length = n := by have := h.1; simpa using this
  rcases h.2 with ⟨rfl, rfl⟩ | ⟨g, cap, cur, rfl, hg, hh, hnc, hcm, hcs, htk⟩
  · obtain rfl : zs = [] := List.length_eq_zero_iff.1 hlen
    refine (sort_nil w).mono ?_
    rintro e w' ⟨rfl, rfl⟩
    exact ⟨rfl, by simpa [srt] using h, Keep.refl _ _⟩
  · have hlt : g < w.heap.size := (Array.getElem?_eq_some_iff.1 hh).1
    have hcell : ∀ j, j < zs.length → cur[j]? = some (Value.int .i64 (zs.getD j 0)) := by
      intro j hj
      have e1 : cur.toList[j]? = (zs.map (Value.int .i64))[j]? := by
        rw [← htk, List.getElem?_take_of_lt (by omega)]
      rw [List.getElem?_map] at e1
      simp only [Array.getElem?_toList] at e1
      rw [e1]
      simp [List.getD, hj]
    have hH : Holds (Value.int .i64) w g 0 zs.toArray := by
      intro j hj
      have hj' : j < zs.length := by simpa using hj
      constructor
      · have := hcell j hj'
        simp only [World.cell?, hh, Nat.zero_add]
        simp [this, hj', List.getD]
      · simp [World.frozen?, hh]
    have hc := Any.slices_Sort_int l189 g 0 cap zs w hH hlt (by omega)
    rw [hlen] at hc
    refine hc.mono ?_
    rintro e w' ⟨rfl, k, os, rfl⟩
    have hsl : (srt zs).toArray.size = n := by simp [srt_len, hlen]
    have hblk : ∀ i, i ≠ g → i < w.heap.size → (grow (putRow (Value.int .i64) (Sort.ahead w k) g 0 (srt zs).toArray) os).heap[i]? = w.heap[i]? := by
      intro i hi hil
      rw [heap_grow_old _ _ (by simp; exact hil)]
      simp [putRow, mapBlock, Array.getElem?_modify, Ne.symm hi]
    refine ⟨rfl, ⟨by simp [srt_len, hlen], .inr ⟨g, cap, putCells (Value.int .i64) 0 (srt zs).toArray cur, rfl, hg, ?_, hnc, hcm, by simp [putCells, hcs], ?_⟩⟩, ?_⟩
    · show (grow (putRow (Value.int .i64) (Sort.ahead w k) g 0 (srt zs).toArray) os).heap[g]? = _
      rw [heap_grow_old _ _ (by simp; exact hlt)]
      show (w.heap.modify g (onCells (putCells (Value.int .i64) 0 (srt zs).toArray)))[g]? = _
      rw [Array.getElem?_modify, if_pos rfl, hh]
      rfl
    · apply List.ext_getElem?
      intro j
      by_cases hj : j < n
      · rw [List.getElem?_take_of_lt (by omega)]
        have hjs : j < (srt zs).length := by rw [srt_len]; omega
        have hjc : j < cur.size := by omega
        simp [putCells, hjs, hjc]
      · rw [List.getElem?_eq_none (by simp; omega), List.getElem?_eq_none (by simp [srt_len]; omega)]
    · refine ⟨rfl, rfl, rfl, by simp, fun i hi hn => hblk i (fun e => hn (by simp [Value.ownBlock, e])) hi⟩
end Go.Proofs.Ytmbceafeonjffaa
