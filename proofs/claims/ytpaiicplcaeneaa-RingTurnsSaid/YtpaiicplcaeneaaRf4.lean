/-
  The document's ring (fanlightref20): Copy, All. Conditions stand in each theorem.
-/
import Derived.Test.YtpaiicplcaeneaaRf3
namespace Go.Proofs.Ytpaiicplcaeneaa
open Go.RowKit Go.Deep Plain
set_option linter.unusedVariables false
set_option maxRecDepth 100000
def alL (N go : Nat) (vs : List Int) (n : Nat) : List Int := (List.range n).map fun i => vs.getD ((go + i) % N) 0
theorem alL_succ (N go : Nat) (vs : List Int) (n : Nat) : alL N go vs (n + 1) = alL N go vs n ++ [vs.getD ((go + n) % N) 0] := by
  unfold alL; rw [List.range_succ, List.map_append]; rfl
theorem alL_len (N go : Nat) (vs : List Int) (n : Nat) : (alL N go vs n).length = n := by unfold alL; simp
theorem uC_app (a b : List Int) : uC (a ++ b) = uC a ++ uC b := by unfold uC; rw [List.map_append]
/-- a row of numbers that a call made -/
def UrOk (zs : List Int) (n : Nat) (w : World) (e : Ending) (w' : World) : Prop :=
  ∃ A c, e = .returned (.slice A n c) ∧ w'.ownsRow w.heap.size 22 1 (.slice A n c) n (uC zs) ∧ Below w.heap.size w w'
section
variable {w : World} {gf gl N go hd : Nat} {vs : List Int} {P G : Option Nat} {p g : FSt}
set_option maxHeartbeats 4000000 in
theorem fcopy_any (h : RfB w gf gl N go hd vs P G p g) :
    Calls Try.prog 26 #[.pointer (some ⟨gf, 0, none⟩)] w (UrOk (nL go hd vs) (2 + N) w) := by
  obtain ⟨iD, hiD, hzD, hsD, hbD⟩ := info_parts info64
  have r1 : w.cell? ⟨gf, 1, none⟩ = some (.int .u64 go) := h.rs.cell 1
  have r2 : w.cell? ⟨gf, 2, none⟩ = some (.int .u64 hd) := h.rs.cell 2
  have r3 : w.cell? ⟨gf, 3, none⟩ = some (.slice (some ⟨gl, 0, none⟩) N N) := h.rs.cell 3
  have hlt := h.rs.lt
  have n1 := h.n1
  have n2 := h.n2
  have HR := Lib.hid (h.rw'.alloc (.cells #[.int .u64 go, .int .u64 hd] 22))
  have HLN := Lib.hid h.len
  have hne1 := World.new_ne w ⟨gf, 1, none⟩ r1
  have hne2 := World.new_ne w ⟨gf, 2, none⟩ r2
  have hne3 := World.new_ne w ⟨gf, 3, none⟩ r3
  have HO := Lib.hid (show (w.alloc (.cells #[.int .u64 go, .int .u64 hd] 22)).drew.ownsRow w.heap.size 22 1 (.slice (some ⟨w.heap.size, 0, none⟩) 2 2) 2 [.int .u64 go, .int .u64 hd] from
    ⟨rfl, .inr ⟨w.heap.size, 2, #[.int .u64 go, .int .u64 hd], rfl, Nat.le_refl _, heap_alloc_new w _, Nat.le_refl _, by unfold maxLen; omega, rfl, rfl⟩⟩)
  clear h
  go_enter Try.func26, Try.ntmps26
  go_upto_region 1 with fail
  go_region_held3 (fun w' => w'.cell? ⟨gf, 1, none⟩ = some (.int .u64 go) ∧ w'.cell? ⟨gf, 2, none⟩ = some (.int .u64 hd) ∧ w'.cell? ⟨gf, 3, none⟩ = some (.slice (some ⟨gl, 0, none⟩) N N))
    (first
      | go_keep
      | (go_split_ands
         refine ⟨?_, ?_, ?_⟩
         · (rw [hgrow.cell_far _ (by simp; omega) (by simp [Value.ownBlock]; omega)]; go_keep)
         · (rw [hgrow.cell_far _ (by simp; omega) (by simp [Value.ownBlock]; omega)]; go_keep)
         · (rw [hgrow.cell_far _ (by simp; omega) (by simp [Value.ownBlock]; omega)]; go_keep)))
    ((refine step_append_lies _ (by rfl) _ _ _ (by rfl) w.heap.size 22 iD _ 1 8 Try.underlying34 hiD hzD hsD hbD rfl (by omega) (.slice (some ⟨w.heap.size, 0, none⟩) 2 2) 2 [.int .u64 go, .int .u64 hd] (by rfl) HO.out
          ⟨gl, 0, none⟩ N N (uC vs) (by rfl) (by simp [uC, HLN.out]) (by have hq := World.news_of_block (w := (w.alloc (.cells #[.int .u64 go, .int .u64 hd] 22)).drew) (B := gl) (cs := (vs.map (Value.int .u64)).toArray) (t := 22) (fr := (0, 0)) HR.out; simpa [uC] using hq) (by intro u hu; obtain ⟨x, _, rfl⟩ := List.mem_map.1 hu; rfl)
          (by omega) (by unfold maxLen; omega) (by omega) (by simp) (w.heap.size + 1) (by simp) ?_; intro gg cap w1 hown1 hgrow hat hlt1))
  have HO2 := Lib.hid (show w1.ownsRow w.heap.size 22 1 (.slice (some ⟨gg, 0, none⟩) (2 + N) cap) (2 + N) (uC (nL go hd vs)) from hown1)
  have HB2 := Lib.hid (show Below w.heap.size w w1 from ((ball w (.cells #[.int .u64 go, .int .u64 hd] 22)).drew).grown hgrow (by simp) (fun j hj => by have := (own_blk HO.out hj).1; omega))
  clear hown1 hgrow hat
  go_wp2
  go_ret
  exact ⟨_, _, rfl, HO2.out, HB2.out⟩
set_option maxHeartbeats 4000000 in
theorem fall_any (h : RfB w gf gl N go hd vs P G p g) (hle : go ≤ hd) (hm : hd ≤ 100000) :
    Calls Try.prog 27 #[.pointer (some ⟨gf, 0, none⟩)] w (UrOk (alL N go vs (hd - go)) (hd - go) w) := by
  obtain ⟨iD, hiD, hzD, hsD, hbD⟩ := info_parts info64
  have n1 := h.n1
  have n2 := h.n2
  have hltf := h.rs.lt
  have hltl := h.rw'.lt
  have r1 : w.cell? ⟨gf, 1, none⟩ = some (.int .u64 go) := h.rs.cell 1
  have H := Lib.hid h
  clear h
  go_enter Try.func27, Try.ntmps27
  go_wp2
  go_loopw [3, 4] (fun s3 s4 wt => ∃ (k : Nat) (A : Option Addr) (c : Nat), s3 = .slice A k c ∧ s4 = .int .u64 ((go + k : Nat) : Int) ∧ k ≤ hd - go ∧ wt.ownsRow w.heap.size 22 1 (.slice A k c) k (uC (alL N go vs k)) ∧ Below w.heap.size w wt) (fun _ k _ => hd - (intOf k).toNat)
  case atStart => exact ⟨0, none, 0, rfl, rfl, by omega, ⟨rfl, .inl ⟨rfl, rfl⟩⟩, Below.refl _ _⟩
  case round =>
    obtain ⟨k, A, c, rfl, rfl, hk, ho, hb⟩ := hrel
    have HO := Lib.hid ho
    have HB := Lib.hid hb
    have HF := Lib.hid (H.out.below hb)
    have hsz := hb.size
    clear ho hb
    have r0 : wr.cell? ⟨gf, 0, none⟩ = some (.int .i64 N) := HF.out.rs.cell 0
    have r2 : wr.cell? ⟨gf, 2, none⟩ = some (.int .u64 hd) := HF.out.rs.cell 2
    have r3 : wr.cell? ⟨gf, 3, none⟩ = some (.slice (some ⟨gl, 0, none⟩) N N) := HF.out.rs.cell 3
    by_cases hlt : k < hd - go
    · obtain ⟨m, hmm⟩ : ∃ m, (go + k) % N = m := ⟨_, rfl⟩
      have hml : m < N := by rw [← hmm]; exact Nat.mod_lt _ (by omega)
      have hq := HF.out.at' hml
      obtain ⟨x, hx⟩ : ∃ x, vs.getD m 0 = x := ⟨_, rfl⟩
      rw [hx] at hq
      have HS := Lib.hid (show uC (alL N go vs (k + 1)) = uC (alL N go vs k) ++ [.int .u64 x] by rw [alL_succ, hmm, hx, uC_app]; rfl)
      obtain ⟨j, hj⟩ : ∃ j, j = go + k := ⟨_, rfl⟩
      have ez : IntKind.u64.wrap ((j : Int).tmod (N : Int)) = (m : Int) := by
        rw [Int.tmod_eq_emod_of_nonneg (by omega), ← Int.natCast_emod, hj, hmm, IntKind.wrap_u64]; omega
      have ez2 : (j : Int).tmod (N : Int) = (m : Int) := by
        rw [Int.tmod_eq_emod_of_nonneg (by omega), ← Int.natCast_emod, hj, hmm]
      have eN : IntKind.u64.wrap (N : Int) = (N : Int) := by rw [IntKind.wrap_u64]; omega
      have nz : ((N : Int) == 0) = false := by simp; omega
      have nz2 : ¬ ((N : Int) = 0) := by omega
      have nz3 : (0 : Int) < (N : Int) := by omega
      have nz4 : (N : Int) ≠ 0 := by omega
      have nz5 : ¬ (N = 0) := by omega
      have ez3 : IntKind.u64.wrap ((j : Int).tmod (IntKind.u64.wrap (N : Int))) = (m : Int) := by rw [eN]; exact ez
      have i0 : (0 : Int) ≤ (m : Int) := by omega
      have i1 : (m : Int) < (N : Int) := by omega
      have hjl : j < hd := by omega
      rw [← hj]
      have HJ := Lib.hid hj
      have hne0 := World.new_ne wr ⟨gf, 0, none⟩ r0
      have hne3 := World.new_ne wr ⟨gf, 3, none⟩ r3
      have hneq := World.new_ne wr ⟨gl, m, none⟩ hq
      have HNF := Lib.hid (own_not HO.out HF.out.rs (by decide))
      have HNL := Lib.hid (show (Value.slice A k c).ownBlock ≠ some gl from fun e => by
        have := (own_blk HO.out e).1
        omega)
      clear hx hmm hj
      go_upto_region 5 with fail
      go_region_held3 (fun w' => w'.cell? ⟨gf, 0, none⟩ = some (.int .i64 N) ∧ w'.cell? ⟨gf, 3, none⟩ = some (.slice (some ⟨gl, 0, none⟩) N N) ∧ w'.cell? ⟨gl, m, none⟩ = some (.int .u64 x))
        (first
          | go_keep
          | (go_split_ands
             refine ⟨?_, ?_, ?_⟩
             · (rw [hgrow.cell_far _ (by simp; omega) HNF.out.symm]; assumption)
             · (rw [hgrow.cell_far _ (by simp; omega) HNF.out.symm]; assumption)
             · (rw [hgrow.cell_far _ (by simp; omega) HNL.out.symm]; assumption)))
        ((refine step_append_lies _ (by rfl) _ _ _ (by rfl) w.heap.size 22 iD _ 1 8 Try.underlying34 hiD hzD hsD hbD rfl (by omega) (.slice A k c) k (uC (alL N go vs k)) (by rfl) ((HO.out.alloc _).drew)
              ⟨wr.heap.size, 0, none⟩ 1 1 [.int .u64 x] (by rfl) (by rfl) (World.news_of_block (cs := #[.int .u64 x]) (t := 22) (fr := (0, 0)) (heap_alloc_new wr _)) (by simp [Value.oneCell'])
              (by omega) (by unfold maxLen; omega) (by omega) (by simp; omega) (wr.heap.size + 1) (by simp) ?_; intro gg cap w1 hown1 hgrow hat hlt1))
      have HO2 := Lib.hid (show w1.ownsRow w.heap.size 22 1 (.slice (some ⟨gg, 0, none⟩) (k + 1) cap) (k + 1) (uC (alL N go vs (k + 1))) by rw [HS.out]; exact hown1)
      have HB2 := Lib.hid (show Below w.heap.size w w1 from ((HB.out.alloc hsz (.cells #[.int .u64 x] 22)).drew).grown hgrow (by simp; omega) (fun j hj => (own_blk HO.out hj).1))
      clear hown1 hgrow hat
      have HJ2 := Lib.hid (show ((go + (k + 1) : Nat) : Int) = (j : Int) + 1 by rw [HJ.out]; omega)
      go_wp2
      go_roundw
      case rel => exact ⟨k + 1, some ⟨gg, 0, none⟩, cap, rfl, by rw [HJ2.out], by omega, HO2.out, HB2.out⟩
      case measure => simp [intOf]; omega
    · obtain rfl : k = hd - go := by omega
      have e1 : ((go + (hd - go) : Nat) : Int) = (hd : Int) := by omega
      rw [e1]
      clear e1
      go_wp2
      go_ret
      exact ⟨_, _, rfl, HO.out, HB.out⟩
end
end Go.Proofs.Ytpaiicplcaeneaa
