/-
  Contract of cells.Copy. Conditions stand in each theorem.
-/
import Derived.Test.YtmbceafeonjffaaCellsN
import Derived.Test.YtmbceafeonjffaaNums
namespace Go.Proofs.Ytmbceafeonjffaa
open Go.RowKit Plain
set_option linter.unusedVariables false
set_option maxRecDepth 100000

theorem info64 : (Try.prog.info? 23).map (fun i => (i.zero, i.size, i.bytes)) = some (some (.int .u64 0), 1, 8) := by kernel_rfl
theorem mk64 (n : Nat) (hn : n ≤ 1000000) (w : World) : (Instr.makeSlice 43 (.int .i64 n) (.int .i64 n)).run Try.prog w = .ok (.slice (some ⟨w.heap.size, 0, none⟩) n n) (w.alloc (.cells ((List.replicate n (0 : Int)).map (Value.int .u64)).toArray 23)) :=
  run_mkN 43 23 .u64 8 Try.underlying43 info64 (by omega) n hn w

set_option maxHeartbeats 1000000 in
theorem copy_any {w : World} {gc gn n : Nat} {l : List Int} (h : Cl w gc gn n l) (hn : n ≤ 65536) :
    Calls Try.prog 52 #[.pointer (some ⟨gc, 0, none⟩)] w fun e w' => e = .returned (.slice (some ⟨w.heap.size, 0, none⟩) n n) ∧ Row .u64 23 w' w.heap.size l ∧ Below w.heap.size w w' := by
  have H := Lib.hid h
  have hm := mk64 n (by omega) w
  have lc := h.st.lt
  clear h
  go_enter Try.func52, Try.ntmps52
  go_wp2_with (go_at_call 39; refine (size_any H.out).mono ?_; rintro e w' ⟨rfl, rfl⟩)
  clear hm
  go_loopw [10] (fun i wr => ∃ (k : Nat) (zs : List Int), i = .int .i64 k ∧ k ≤ n ∧ zs.length = n ∧ (∀ j, j < k → zs.getD j 0 = l.getD j 0) ∧ Row .u64 23 wr w.heap.size zs ∧ Below w.heap.size w wr) (fun i _ => n - (intOf i).toNat)
  case atStart =>
    refine ⟨0, List.replicate n 0, rfl, by omega, List.length_replicate, (fun j hj => absurd hj (by omega)), ?_, (Below.refl _ _).alloc (Nat.le_refl _) _⟩
    have := Row.made .u64 23 w n
    rw [show ((List.replicate n (0 : Int)).map (Value.int .u64)).toArray = Array.replicate n (Value.int .u64 0) by simp] at this
    exact this
  case round =>
    obtain ⟨k, zs, rfl, hk, hz, ha, hr, hb⟩ := hrel
    have HZ := Lib.hid hz
    have HA := Lib.hid ha
    have HR := Lib.hid hr
    have HB := Lib.hid hb
    clear hz ha hr hb
    by_cases hlt : k < n
    · have i0 : (k : Int) < (n : Int) := by omega
      go_wp2_with fail
      refine (load_any (H.out.below HB.out) k hlt).mono ?_
      rintro e w2 ⟨rfl, rfl⟩
      have c0 := HR.out.at (i := k) (by rw [HZ.out]; exact hlt)
      have f0 := HR.out.free k
      go_wp2
      go_roundw
      case rel => exact ⟨k + 1, zs.set k (l.getD k 0), by go_num, by omega, by rw [List.length_set]; exact HZ.out, agree_set HA.out (by rw [HZ.out]; exact hlt), HR.out.set k _, HB.out.setCell (Nat.le_refl _) _⟩
      case measure => simp [intOf]; omega
    · obtain rfl : k = n := by omega
      go_wp2
      go_ret
      refine ⟨rfl, ?_, HB.out⟩
      rw [← agree_all (zs := zs) (l := l) (by rw [HZ.out, H.out.len]) (by rw [H.out.len]; exact HA.out)]
      exact HR.out
theorem copy_nil (w : World) :
    Calls Try.prog 52 #[.pointer none] w fun e w' => e = .returned (.slice (some ⟨w.heap.size, 0, none⟩) 0 0) ∧ Below w.heap.size w w' := by
  have hm := mk64 0 (by omega) w
  rw [show ((0 : Nat) : Int) = 0 from rfl] at hm
  go_enter Try.func52, Try.ntmps52
  go_wp2_with (go_at_call 39; refine (size_nil _).mono ?_; rintro e w' ⟨rfl, rfl⟩)
  clear hm
  go_loopw [10] (fun i wr => i = .int .i64 0 ∧ Below w.heap.size w wr) (fun i _ => 0)
  case atStart =>
    exact ⟨rfl, (Below.refl _ _).alloc (Nat.le_refl _) _⟩
  case round =>
    obtain ⟨rfl, hb⟩ := hrel
    go_wp2
    go_ret
    exact ⟨rfl, hb⟩
end Go.Proofs.Ytmbceafeonjffaa
