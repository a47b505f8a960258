/-
  Several small texts in one: Sort, Sort2. Conditions stand in each theorem.
-/
import Derived.Test.YtmbceafeonjffaaGA
import Derived.Shelf.Sort.Plain
import Derived.Test.YtmbceafeonjffaaGI
import Derived.Test.YtmbceafeonjffaaHp
import Derived.LoopTactic
import Derived.Deep.DeepCutAuto
namespace Go.Proofs.Ytmbceafeonjffaa
open Go.Shelf
set_option maxRecDepth 100000
def l189_ren : Go.Shelf.Ren := ⟨fun
  | 189 => 45
  | 125 => 62
  | 257 => 61
  | 128 => 80
  | 129 => 81
  | 294 => 71
  | 295 => 72
  | 296 => 73
  | 297 => 74
  | 298 => 75
  | 299 => 76
  | 216 => 77
  | 300 => 78
  | 301 => 79
  | 328 => 84
  | 329 => 85
  | 330 => 86
  | 331 => 87
  | 332 => 88
  | 215 => 89
  | 343 => 92
  | n => n, fun
  | 28 => 29
  | 3 => 3
  | 46 => 113
  | 0 => 0
  | 51 => 71
  | 53 => 23
  | 4 => 4
  | 183 => 123
  | 182 => 122
  | 131 => 57
  | 5 => 5
  | 9 => 9
  | 218 => 133
  | 222 => 136
  | 228 => 140
  | 229 => 141
  | n => n, fun n => n⟩
theorem l189 : Lays.n189 Try.prog l189_ren := {
  mixed := by kernel_rfl,
  f125 := by kernel_rfl,
  f128 := by kernel_rfl,
  f129 := by kernel_rfl,
  f189 := by kernel_rfl,
  f215 := by kernel_rfl,
  f216 := by kernel_rfl,
  f257 := by kernel_rfl,
  f294 := by kernel_rfl,
  f295 := by kernel_rfl,
  f296 := by kernel_rfl,
  f297 := by kernel_rfl,
  f298 := by kernel_rfl,
  f299 := by kernel_rfl,
  f300 := by kernel_rfl,
  f301 := by kernel_rfl,
  f328 := by kernel_rfl,
  f329 := by kernel_rfl,
  f330 := by kernel_rfl,
  f331 := by kernel_rfl,
  f332 := by kernel_rfl,
  f343 := by kernel_rfl,
  t0 := Try.underlying0,
  a0 := Try.isAgg0,
  z0 := Try.sizeOf0,
  v0 := Try.zeroValue0,
  t3 := Try.underlying3,
  a3 := Try.isAgg3,
  z3 := Try.sizeOf3,
  v3 := Try.zeroValue3,
  t4 := Try.underlying4,
  a4 := Try.isAgg4,
  z4 := Try.sizeOf4,
  v4 := Try.zeroValue4,
  t5 := Try.underlying5,
  a5 := Try.isAgg5,
  z5 := Try.sizeOf5,
  v5 := Try.zeroValue5,
  t9 := Try.underlying9,
  a9 := Try.isAgg9,
  z9 := Try.sizeOf9,
  v9 := Try.zeroValue9,
  t28 := Try.underlying29,
  a28 := Try.isAgg29,
  z28 := Try.sizeOf29,
  v28 := Try.zeroValue29,
  t46 := Try.underlying113,
  a46 := Try.isAgg113,
  z46 := Try.sizeOf113,
  v46 := Try.zeroValue113,
  t51 := Try.underlying71,
  a51 := Try.isAgg71,
  z51 := Try.sizeOf71,
  v51 := Try.zeroValue71,
  t53 := Try.underlying23,
  a53 := Try.isAgg23,
  z53 := Try.sizeOf23,
  v53 := Try.zeroValue23,
  t131 := Try.underlying57,
  a131 := Try.isAgg57,
  z131 := Try.sizeOf57,
  v131 := Try.zeroValue57,
  t182 := Try.underlying122,
  a182 := Try.isAgg122,
  z182 := Try.sizeOf122,
  v182 := Try.zeroValue122,
  t183 := Try.underlying123,
  a183 := Try.isAgg123,
  z183 := Try.sizeOf123,
  v183 := Try.zeroValue123,
  t218 := Try.underlying133,
  a218 := Try.isAgg133,
  z218 := Try.sizeOf133,
  v218 := Try.zeroValue133,
  t222 := Try.underlying136,
  a222 := Try.isAgg136,
  z222 := Try.sizeOf136,
  v222 := Try.zeroValue136,
  t228 := Try.underlying140,
  a228 := Try.isAgg140,
  z228 := Try.sizeOf140,
  v228 := Try.zeroValue140,
  t229 := Try.underlying141,
  a229 := Try.isAgg141,
  z229 := Try.sizeOf141,
  v229 := Try.zeroValue141 }
end Go.Proofs.Ytmbceafeonjffaa

namespace Go.Proofs.Ytmbceafeonjffaa
open Go.RowKit Plain
set_option linter.unusedVariables false
set_option maxRecDepth 100000
def srt (zs : List Int) : List Int := zs.mergeSort fun x y => decide (x ≤ y)
theorem srt_perm (zs : List Int) : (srt zs).Perm zs := List.mergeSort_perm zs _
theorem srt_len (zs : List Int) : (srt zs).length = zs.length := (srt_perm zs).length_eq
theorem srt_sorted (zs : List Int) : (srt zs).Pairwise (· ≤ ·) := by
  have h := List.pairwise_mergeSort (le := fun x y : Int => decide (x ≤ y)) (fun a b c h1 h2 => by simp at *; omega) (fun a b => by simp; omega) zs
  refine h.imp ?_
  intro a b hab
  simpa using hab

theorem insertion_nil (w : World) : Calls Try.prog 71 #[.slice none 0 0, .int .i64 0, .int .i64 0] w fun e w' => e = .returned (.tuple #[]) ∧ w = w' := by
  go_enter Try.func71, Try.ntmps71
  go_wp2
  go_loop [6] (fun s => s = .int .i64 1) (fun _ => 0)
  case atStart => rfl
  case round =>
    obtain rfl := hrel
    go_wp2
    go_end0
    exact ⟨rfl, rfl⟩
open Go.Shelf Go.Sort in
theorem len_0 (w : World) : Calls Try.prog 62 #[.int .u64 0] w fun e w' => e = .returned (.int .i64 0) ∧ w = w' := by
  have h : Calls Try.prog (l189_ren.f 125) #[.int .u64 0] w fun e w' => e = .returned (.int .i64 (Lib.bitLen (0 : Int).toNat)) ∧ w' = w := calls_of_every_depth fun D => AnyS.bits_LenIn { l189 with } D 0 w (by omega) (by omega)
  refine (show Calls Try.prog 62 #[.int .u64 0] w fun e w' => e = .returned (.int .i64 (Lib.bitLen (0 : Int).toNat)) ∧ w' = w from h).mono ?_
  rintro e w' ⟨rfl, rfl⟩
  exact ⟨rfl, rfl⟩
theorem pdq_nil (w : World) : Calls Try.prog 61 #[.slice none 0 0, .int .i64 0, .int .i64 0, .int .i64 0] w fun e w' => e = .returned (.tuple #[]) ∧ w = w' := by
  go_enter Try.func61, Try.ntmps61
  go_wp2
  go_loop [1, 2, 3, 8, 9] (fun a b c d e => a = .int .i64 0 ∧ b = .int .i64 0 ∧ c = .int .i64 0) (fun _ _ _ _ _ => 0)
  case atStart => exact ⟨rfl, rfl, rfl⟩
  case round =>
    obtain ⟨rfl, rfl, rfl⟩ := hrel
    go_wp2_with (go_at_call 71; refine (insertion_nil _).mono ?_; rintro e w' ⟨rfl, rfl⟩)
    refine bodyPost_ret (results_none rfl _ _ _) rfl ?_
    exact ⟨rfl, rfl⟩
theorem sort_nil (w : World) : Calls Try.prog 45 #[.slice none 0 0] w fun e w' => e = .returned (.tuple #[]) ∧ w = w' := by
  go_enter Try.func45, Try.ntmps45
  go_wp2_with (first | (go_at_call 62; refine (len_0 _).mono ?_; rintro e w' ⟨rfl, rfl⟩) | (go_at_call 61; refine (pdq_nil _).mono ?_; rintro e w' ⟨rfl, rfl⟩))
  go_end0
  exact ⟨rfl, rfl⟩
open Go.Shelf Go.Sort in
/-- the sort of a row of one's own -/
theorem sort_own {w : World} {base n : Nat} (zs : List Int) (v : Value) (h : w.ownsRow base 3 1 v n (zs.map (Value.int .i64))) (hl : n ≤ 1000000) :
    Calls Try.prog 45 #[v] w fun e w' => e = .returned (.tuple #[]) ∧ w'.ownsRow base 3 1 v n ((srt zs).map (Value.int .i64)) ∧ Keep v.ownBlock.toList w w' := by
  have hlen : zs.length = n := by have := h.1; simpa using this
  rcases h.2 with ⟨rfl, rfl⟩ | ⟨g, cap, cur, rfl, hg, hh, hnc, hcm, hcs, htk⟩
  · obtain rfl : zs = [] := List.length_eq_zero_iff.1 hlen
    refine (sort_nil w).mono ?_
    rintro e w' ⟨rfl, rfl⟩
    exact ⟨rfl, by simpa [srt] using h, Keep.refl _ _⟩
  · have hlt : g < w.heap.size := (Array.getElem?_eq_some_iff.1 hh).1
    have hcell : ∀ j, j < zs.length → cur[j]? = some (Value.int .i64 (zs.getD j 0)) := by
      intro j hj
      have e1 : cur.toList[j]? = (zs.map (Value.int .i64))[j]? := by
        rw [← htk, List.getElem?_take_of_lt (by omega)]
      rw [List.getElem?_map] at e1
      simp only [Array.getElem?_toList] at e1
      rw [e1]
      simp [List.getD, hj]
    have hH : Holds (Value.int .i64) w g 0 zs.toArray := by
      intro j hj
      have hj' : j < zs.length := by simpa using hj
      constructor
      · have := hcell j hj'
        simp only [World.cell?, hh, Nat.zero_add]
        simp [this, hj', List.getD]
      · simp [World.frozen?, hh]
    have hc := Any.slices_Sort_int l189 g 0 cap zs w hH hlt (by omega)
    rw [hlen] at hc
    refine hc.mono ?_
    rintro e w' ⟨rfl, k, os, rfl⟩
    have hsl : (srt zs).toArray.size = n := by simp [srt_len, hlen]
    have hblk : ∀ i, i ≠ g → i < w.heap.size → (grow (putRow (Value.int .i64) (Sort.ahead w k) g 0 (srt zs).toArray) os).heap[i]? = w.heap[i]? := by
      intro i hi hil
      rw [heap_grow_old _ _ (by simp; exact hil)]
      simp [putRow, mapBlock, Array.getElem?_modify, Ne.symm hi]
    refine ⟨rfl, ⟨by simp [srt_len, hlen], .inr ⟨g, cap, putCells (Value.int .i64) 0 (srt zs).toArray cur, rfl, hg, ?_, hnc, hcm, by simp [putCells, hcs], ?_⟩⟩, ?_⟩
    · show (grow (putRow (Value.int .i64) (Sort.ahead w k) g 0 (srt zs).toArray) os).heap[g]? = _
      rw [heap_grow_old _ _ (by simp; exact hlt)]
      show (w.heap.modify g (onCells (putCells (Value.int .i64) 0 (srt zs).toArray)))[g]? = _
      rw [Array.getElem?_modify, if_pos rfl, hh]
      rfl
    · apply List.ext_getElem?
      intro j
      by_cases hj : j < n
      · rw [List.getElem?_take_of_lt (by omega)]
        have hjs : j < (srt zs).length := by rw [srt_len]; omega
        have hjc : j < cur.size := by omega
        simp [putCells, hjs, hjc]
      · rw [List.getElem?_eq_none (by simp; omega), List.getElem?_eq_none (by simp [srt_len]; omega)]
    · refine ⟨rfl, rfl, rfl, by simp, fun i hi hn => hblk i (fun e => hn (by simp [Value.ownBlock, e])) hi⟩
end Go.Proofs.Ytmbceafeonjffaa
