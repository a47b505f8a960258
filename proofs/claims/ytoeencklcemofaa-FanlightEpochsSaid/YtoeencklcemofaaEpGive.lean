/-
  Package epoch: Give. Conditions stand in each theorem.
-/
import Derived.Test.YtoeencklcemofaaEpNew
import Derived.Test.YtoeencklcemofaaOwns
import Derived.Deep.RegionLaw
import Derived.Deep.AppendLies
import Derived.WalkSpells
namespace Go.Proofs.Ytoeencklcemofaa
open Go.RowKit Go.Deep Plain
set_option linter.unusedVariables false
set_option maxRecDepth 100000

theorem infoGi : (Try.prog.info? 142).map (fun i => (i.zero, i.size, i.bytes)) = some (some (.agg #[.int .u64 0, .int .u64 0]), 2, 16) := by kernel_rfl
def giC (gs : List (Int × Int)) : List Value := gs.flatMap fun x => [.int .u64 x.1, .int .u64 x.2]

theorem giC_snoc (gs : List (Int × Int)) (x : Int × Int) : giC (gs ++ [x]) = giC gs ++ [.int .u64 x.1, .int .u64 x.2] := by unfold giC; simp
/-- the block of a row -/
def ownL (v : Value) : List Nat := match v.ownBlock with
  | some g => [g]
  | none => []
theorem Keep.own {w w' : World} {v : Value} (h : w.grownBy w' v.ownBlock) : Keep (ownL v) w w' := by
  unfold ownL
  cases hv : v.ownBlock with
  | none => rw [hv] at h; exact Keep.of_grownO h (fun _ h => by cases h)
  | some b => rw [hv] at h; exact Keep.of_grown h (by simp)

set_option maxHeartbeats 8000000 in
theorem eGive_any {w : World} {ge gc gn gg n base : Nat} {l : List Int} (h : EpB w ge gc gn gg n l) (i : Nat) (hi : i < n) (what : Int) (A : Option Addr) (k c : Nat) (gs : List (Int × Int)) (hk : gs.length = k) (hkm : k ≤ 100000) (cs : Array Value) (hbg : Blk w gg 140 cs) (ci : w.cell? ⟨gg, i, none⟩ = some (.slice A k c)) (how : w.ownsRow base 142 2 (.slice A k c) k (giC gs)) (hbase : base ≤ w.heap.size)
    (hA : ∀ g, (Value.slice A k c).ownBlock = some g → g ≠ ge ∧ g ≠ gg) :
    Calls Try.prog 59 #[.pointer (some ⟨ge, 0, none⟩), .int .i64 i, .int .u64 what] w fun e w' => e = .returned (.int .i64 0) ∧ ∃ gx cap, w'.ownsRow base 142 2 (.slice (some ⟨gx, 0, none⟩) (k + 1) cap) (k + 1) (giC (gs ++ [(what, l.getD 0 0)])) ∧ Blk w' gg 140 (cs.setIfInBounds i (.slice (some ⟨gx, 0, none⟩) (k + 1) cap)) ∧ Keep (gg :: ownL (.slice A k c)) w w' ∧ ((Value.slice A k c).ownBlock = some gx ∨ w.heap.size ≤ gx) := by
  have c1 := h.row
  have hn2 := h.n2
  have i0 : (i : Int) < (n : Int) := by omega
  have H := Lib.hid h
  have HI := Lib.hid (inC_nat hi)
  have HNOW := Lib.hid (fun W (hW : EpB W ge gc gn gg n l) => enow_any hW)
  have fg := hbg.frozen i
  have HO := Lib.hid how
  obtain ⟨nw, hnw⟩ : ∃ x, x = l.getD 0 0 := ⟨_, rfl⟩
  rw [← hnw] at HNOW ⊢
  obtain ⟨iD, hiD, hzD, hsD, hbD⟩ := info_parts infoGi
  have lg := hbg.lt
  have HBG := Lib.hid hbg
  have le := h.es.lt
  have HBE := Lib.hid h.es
  have ZE := Lib.hid (show some ge ≠ (Value.slice A k c).ownBlock from fun e => (hA ge e.symm).1 rfl)
  have a1 : ((w.drewN 1).alloc (.cells #[.int .u64 what, .int .u64 nw] 142)).cell? ⟨gg, i, none⟩ = some (.slice A k c) := (World.cell?_alloc_lt (w.drewN 1) _ ⟨gg, i, none⟩ lg).trans ci
  have a2 : ((w.drewN 1).alloc (.cells #[.int .u64 what, .int .u64 nw] 142)).cell? ⟨ge, 1, none⟩ = some (.slice (some ⟨gg, 0, none⟩) n n) := (World.cell?_alloc_lt (w.drewN 1) _ ⟨ge, 1, none⟩ le).trans c1
  have ZN := Lib.hid (show some gg ≠ (Value.slice A k c).ownBlock from fun e => (hA gg e.symm).2 rfl)
  clear h hbg how hnw
  go_enter Try.func59, Try.ntmps59
  go_upto_region 3 with (go_at_call 86; refine (ehas_any H.out _).mono ?_; rintro e w' ⟨rfl, rfl⟩; rw [HI.out])
  go_region_law (first
    | (refine step_append_lies _ (by rfl) _ _ _ (by rfl) base 142 iD _ 2 16 Try.underlying140 hiD hzD hsD hbD rfl (by omega) (.slice A k c) k (giC gs) (by rfl) ((HO.out.drew).alloc _)
        ⟨w.heap.size, 0, none⟩ 1 1 [.int .u64 what, .int .u64 nw] (by rfl) (by rfl) (World.news_of_block (cs := #[.int .u64 what, .int .u64 nw]) (t := 142) (fr := (0, 0)) (heap_alloc_new (w.drewN 1) _)) (by simp [Value.oneCell'])
        (by omega) (by unfold maxLen; omega) (by omega) (by simp; omega) (w.heap.size + 1) (by simp) ?_; intro gx cap w1 hown1 hgrow hat hlt1; have bz : Blk w1 gg 140 cs := (hgrow.block gg (by simp; omega) ZN.out).trans (Blk.alloc (Blk.drewN HBG.out 1) _); have z1 := (bz.cell i).trans ((HBG.out.cell i).symm.trans ci); have z2 := bz.frozen i; have be := (hgrow.block ge (by simp; omega) ZE.out).trans (Blk.alloc (Blk.drewN HBE.out 1) _); have z3 := Blk.cell be 1)
    | (go_simp; go_at_call 85; refine (HNOW.out _ (H.out.drewN 1)).mono ?_; rintro e w' ⟨rfl, rfl⟩))
  all_goals
    have hgx : gg ≠ gx := by
      intro e
      rcases hat with hat | hat
      · exact (hA gx hat).2 e.symm
      · omega
    have HOW := Lib.hid (own_grown (own_below hown1 (Below.refl _ _)) (grown_setCell w1 gg i (.slice (some ⟨gx, 0, none⟩) (k + 1) cap)) (fun g1 h1 h2 => by
      simp [Value.ownBlock] at h1 h2
      omega))
    have HBF := Lib.hid (Blk.set bz i (.slice (some ⟨gx, 0, none⟩) (k + 1) cap))
    have HKF := Lib.hid ((((Keep.refl (gg :: ownL (.slice A k c)) w).drewN 1).alloc (.cells #[.int .u64 what, .int .u64 nw] 142)).trans (((Keep.own hgrow).mono (fun x hx => List.mem_cons_of_mem _ hx)).setCell (p := ⟨gg, i, none⟩) (.inl (by simp)) (.slice (some ⟨gx, 0, none⟩) (k + 1) cap)))
    have HAT := Lib.hid (show (Value.slice A k c).ownBlock = some gx ∨ w.heap.size ≤ gx by
      rcases hat with hat | hat
      · exact .inl hat
      · exact .inr (by omega))
    clear hown1 hgrow hat bz be z1 z2 z3 a1 a2 ci c1 fg
    generalize w1.setCell ⟨gg, i, none⟩ (.slice (some ⟨gx, 0, none⟩) (k + 1) cap) = w9 at *
    go_wp2
    go_ret
    exact ⟨rfl, gx, cap, by rw [giC_snoc]; exact HOW.out, HBF.out, HKF.out, HAT.out⟩
end Go.Proofs.Ytoeencklcemofaa
