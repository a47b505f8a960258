/-
  Package epoch: ripe, things, Waiting. Conditions stand in each theorem.
-/
import Derived.Test.YtoeencklcemofaaEpGive
import Derived.Test.YtoeencklcemofaaCellsC
namespace Go.Proofs.Ytoeencklcemofaa
open Go.RowKit Go.Deep Plain
set_option linter.unusedVariables false
set_option maxRecDepth 100000

/-- gifts that lie one behind the other -/
def RdG (w : World) (A : Option Addr) (gs : List (Int × Int)) : Prop :=
  0 < gs.length → ∃ b off, A = some ⟨b, off, none⟩ ∧ b < w.heap.size ∧ ∀ i, i < gs.length → w.cell? ⟨b, off + i * 2, none⟩ = some (.int .u64 (gs.getD i default).1) ∧ w.cell? ⟨b, off + i * 2 + 1, none⟩ = some (.int .u64 (gs.getD i default).2)
theorem RdG.below {w w' : World} {A : Option Addr} {gs : List (Int × Int)} (h : RdG w A gs) (hb : Below w.heap.size w w') : RdG w' A gs := fun hp => by
  obtain ⟨b, off, e, hl, hc⟩ := h hp
  refine ⟨b, off, e, Nat.lt_of_lt_of_le hl hb.size, fun i hi => ?_⟩
  obtain ⟨h0, h1⟩ := hc i hi
  exact ⟨(hb.cell (p := ⟨b, off + i * 2, none⟩) hl).trans h0, (hb.cell (p := ⟨b, off + i * 2 + 1, none⟩) hl).trans h1⟩
/-- their epochs are no great numbers -/
def GOk (gs : List (Int × Int)) : Prop := ∀ i, i < gs.length → (0 ≤ (gs.getD i default).2 ∧ (gs.getD i default).2 ≤ 1000000000)

/-- so many of the first ones are ripe -/
def RipeAt (gs : List (Int × Int)) (now : Int) (k : Nat) : Prop := k ≤ gs.length ∧ (∀ j, j < k → (gs.getD j default).2 + 2 ≤ now) ∧ (k < gs.length → ¬ (gs.getD k default).2 + 2 ≤ now)
set_option maxHeartbeats 1000000 in
theorem ripe_any (A : Option Addr) (n c : Nat) (gs : List (Int × Int)) (now : Int) (w : World) (hn : gs.length = n) (hnm : n ≤ 1000000) (hR : RdG w A gs) (hG : GOk gs) :
    Calls Try.prog 91 #[.slice A n c, .int .u64 now] w fun e w' => ∃ k : Nat, e = .returned (.int .i64 k) ∧ RipeAt gs now k ∧ w' = w := by
  have HN := Lib.hid hn
  have HR := Lib.hid hR
  have HG := Lib.hid hG
  clear hn hR hG
  go_enter Try.func91, Try.ntmps91
  go_wp2
  go_loopw [5] (fun s5 wr => ∃ k : Nat, s5 = .int .i64 k ∧ k ≤ n ∧ (∀ j, j < k → (gs.getD j default).2 + 2 ≤ now) ∧ wr = w) (fun i _ => n - (intOf i).toNat)
  case atStart => exact ⟨0, rfl, by omega, fun j hj => absurd hj (by omega), rfl⟩
  case round =>
    obtain ⟨k, rfl, hk, hall, rfl⟩ := hrel
    have HALL := Lib.hid hall
    clear hall
    by_cases hlt : k < n
    · have i0 : (k : Int) < (n : Int) := by omega
      obtain ⟨b, off, rfl, hbl, hcell⟩ := HR.out (by rw [HN.out]; omega)
      obtain ⟨q0, q1⟩ := hcell k (by rw [HN.out]; exact hlt)
      obtain ⟨g0, g1⟩ := HG.out k (by rw [HN.out]; exact hlt)
      clear hcell
      obtain ⟨x, hx⟩ : ∃ x, x = (gs.getD k default).2 := ⟨_, rfl⟩
      rw [← hx] at q1 g0 g1
      have HX := Lib.hid hx
      clear hx
      by_cases hc : x + 2 ≤ now
      · have d1 : decide (x + 2 ≤ now) = true := by simpa using hc
        go_wp2
        go_roundw
        case rel =>
          refine ⟨k + 1, by go_num, by omega, fun j hj => ?_, trivial⟩
          by_cases e : j = k
          · subst e; rw [← HX.out]; exact hc
          · exact HALL.out j (by omega)
        case measure => simp [intOf]; omega
      · have d1 : decide (x + 2 ≤ now) = false := by simpa using hc
        go_wp2
        go_ret
        exact ⟨k, rfl, ⟨by rw [HN.out]; exact hk, HALL.out, fun _ => by rw [← HX.out]; omega⟩, rfl⟩
    · obtain rfl : k = n := by omega
      go_wp2
      go_ret
      exact ⟨k, rfl, ⟨by rw [HN.out]; exact Nat.le_refl _, HALL.out, fun h => absurd h (by rw [HN.out]; omega)⟩, rfl⟩


set_option maxHeartbeats 2000000 in
theorem things_any (A : Option Addr) (n c : Nat) (gs : List (Int × Int)) (w : World) (hn : gs.length = n) (hnm : n ≤ 1000000) (hR : RdG w A gs) :
    Calls Try.prog 92 #[.slice A n c] w fun e w' => ∃ zs, e = .returned (.slice (some ⟨w.heap.size, 0, none⟩) n n) ∧ zs = gs.map (·.1) ∧ Row .u64 24 w' w.heap.size zs ∧ Below w.heap.size w w' := by
  have HN := Lib.hid hn
  have HR := Lib.hid hR
  have hmk := mk64 n hnm w
  clear hn hR
  go_enter Try.func92, Try.ntmps92
  go_upto_region 2 with fail
  clear hmk
  have HR0 := Lib.hid (Row.made .u64 24 w n)
  have e4 : ((List.replicate n (0 : Int)).map (Value.int .u64)).toArray = Array.replicate n (Value.int .u64 0) := by simp
  rw [e4] at HR0
  have HB0 := Lib.hid (ball w (.cells (Array.replicate n (Value.int .u64 0)) 24))
  clear e4
  generalize w.alloc (.cells (Array.replicate n (Value.int .u64 0)) 24) = w1 at *
  obtain ⟨gz, hgz⟩ : ∃ g, g = w.heap.size := ⟨_, rfl⟩
  rw [← hgz] at HR0 ⊢
  have hgz' : w.heap.size ≤ gz := by omega
  have HGZ := Lib.hid hgz
  clear hgz
  go_wp2
  go_loopw [4, 5, 11] (fun s4 s5 s11 wr => ∃ (k : Nat) (zs : List Int), s11 = .int .i64 k ∧ k ≤ n ∧ zs.length = n ∧ (∀ j, j < k → zs.getD j 0 = (gs.map (·.1)).getD j 0) ∧ Row .u64 24 wr gz zs ∧ Below w.heap.size w wr) (fun _ _ i _ => n - (intOf i).toNat)
  case atStart => exact ⟨0, List.replicate n 0, rfl, by omega, List.length_replicate, fun j hj => absurd hj (by omega), HR0.out, HB0.out⟩
  case round =>
    obtain ⟨k, zs, rfl, hk, hzl, hag, hrow, hB⟩ := hrel
    have HZL := Lib.hid hzl
    have HAG := Lib.hid hag
    have HRW := Lib.hid hrow
    have HB := Lib.hid hB
    clear hzl hag hrow hB HR0 HB0
    by_cases hlt : k < n
    · have i0 : (k : Int) < (n : Int) := by omega
      obtain ⟨b, off, rfl, hbl, hcell⟩ := HR.out (by rw [HN.out]; omega)
      obtain ⟨q0, q1⟩ := hcell k (by rw [HN.out]; exact hlt)
      have p0 := (HB.out.cell (p := ⟨b, off + k * 2, none⟩) hbl).trans q0
      have p1 := (HB.out.cell (p := ⟨b, off + k * 2 + 1, none⟩) hbl).trans q1
      have HV := Lib.hid (show (gs.map (·.1)).getD k 0 = (gs.getD k default).1 by simp [List.getD, HN.out, hlt])
      clear hcell q0 q1
      generalize gs.getD k default = x at *
      obtain ⟨x0, x1⟩ := x
      simp only at p0 p1 HV
      have lg := HRW.out.lt
      have HRA := Lib.hid (HRW.out.alloc (.cells #[.int .u64 x0, .int .u64 x1] 142))
      have HBA := Lib.hid (HB.out.alloc HB.out.size (.cells #[.int .u64 x0, .int .u64 x1] 142))
      have f0 := HRA.out.free k
      have f1 := HRA.out.at (i := k) (by rw [HZL.out]; exact hlt)
      go_wp2
      go_roundw
      case rel =>
        refine ⟨k + 1, zs.set k x0, by go_num, by omega, by rw [List.length_set]; exact HZL.out, fun j hj => ?_, (HRW.out.set k x0).alloc _, (HB.out.setCell (p := ⟨gz, k, none⟩) hgz' _).alloc (HB.out.setCell (p := ⟨gz, k, none⟩) hgz' _).size _⟩
        by_cases e : j = k
        · subst e; rw [HV.out]; simp [List.getD, HZL.out, hlt]
        · rw [← HAG.out j (by omega)]; simp [List.getD, Ne.symm e]
      case measure => simp [intOf]; omega
    · obtain rfl : k = n := by omega
      go_wp2
      go_ret
      refine ⟨gs.map (·.1), by rw [← HGZ.out]; rfl, rfl, ?_, HB.out⟩
      rw [← agree_all (zs := zs) (l := gs.map (·.1)) (by rw [HZL.out, List.length_map, HN.out]) (by rw [List.length_map, HN.out]; exact HAG.out), ← HGZ.out]
      exact HRW.out
end Go.Proofs.Ytoeencklcemofaa
