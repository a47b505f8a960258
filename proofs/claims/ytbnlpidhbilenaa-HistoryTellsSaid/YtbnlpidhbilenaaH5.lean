/-
  Package history: what happened, as it lies there; New, note, Now. Conditions stand in each theorem.
-/
import Derived.Test.YtbnlpidhbilenaaH2
import Derived.Test.YtbnlpidhbilenaaOwns
import Derived.Deep.RegionLaw
import Derived.Deep.AppendLies
import Derived.WalkSpells
namespace Go.Proofs.Ytbnlpidhbilenaa
open Go.RowKit Go.Deep Plain
set_option linter.unusedVariables false
set_option linter.unusedSimpArgs false
set_option maxRecDepth 100000
theorem retI {k : IntKind} {a b : Int} (h : a = b) : Ending.returned (.int k a) = .returned (.int k b) := by rw [h]
theorem infoEn : (Try.prog.info? 55).map (fun i => (i.zero, i.size, i.bytes)) = some (some (.agg #[.int .i64 0, .int .i64 0, .bool false, .bool false, .slice none 0 0, .int .i64 0, .int .i64 0, .slice none 0 0, .int .i64 0, .int .i64 0, .int .i64 0]), 11, 120) := by kernel_rfl
def enC (es : List En) : List Value := es.flatMap En.cs
theorem enC_snoc (es : List En) (x : En) : enC (es ++ [x]) = enC es ++ x.cs := by unfold enC; simp
theorem enC_one (es : List En) : ∀ u ∈ enC es, u.oneCell' = true := by
  intro u hu
  unfold enC at hu
  obtain ⟨o, _, hu⟩ := List.mem_flatMap.1 hu
  simp [En.cs] at hu
  rcases hu with rfl | rfl | rfl | rfl | rfl | rfl | rfl | rfl | rfl | rfl | rfl <;> rfl
/-- a History -/
structure HiS (w : World) (base gh : Nat) (now : Int) (v : Value) (es : List En) : Prop where
  st : Blk w gh 90 #[.int .i64 now, v]
  row : w.ownsRow base 55 11 v es.length (enC es)
  gb : base ≤ gh
theorem HiS.below {w w' : World} {base gh : Nat} {now : Int} {v : Value} {es : List En} (h : HiS w base gh now v es) (hb : Below w.heap.size w w') : HiS w' base gh now v es := ⟨h.st.below hb, own_below h.row hb, h.gb⟩
/-- the blocks of a History -/
def hiL (gh : Nat) (v : Value) : List Nat := gh :: v.ownBlock.toList
set_option maxHeartbeats 4000000 in
theorem note_any {w : World} {base gh : Nat} {now : Int} {A : Option Addr} {n c : Nat} {es : List En} (h : HiS w base gh now (.slice A n c) es) (hn : es.length = n) (hl : n ≤ 100000) (x : En) :
    Calls Try.prog 40 #[.pointer (some ⟨gh, 0, none⟩), x.val] w fun e w' => e = .returned (.int .i64 n) ∧ ∃ A' c', HiS w' base gh now (.slice A' (n + 1) c') (es ++ [x]) ∧ Keep (hiL gh (.slice A n c)) w w' ∧ ((Value.slice A n c).ownBlock = (Value.slice A' (n + 1) c').ownBlock ∨ ∀ g, (Value.slice A' (n + 1) c').ownBlock = some g → w.heap.size ≤ g) := by
  obtain ⟨iD, hiD, hzD, hsD, hbD⟩ := info_parts infoEn
  have hcs : enC (es ++ [x]) = enC es ++ x.cs := enC_snoc es x
  have HC := Lib.hid hcs
  subst hn
  clear hcs
  obtain ⟨b, e, ends, out, fA, fn, fc, tick, port, aA, an, ac, err, pr, po⟩ := x
  unfold En.val
  unfold En.cs at *
  have hal := ball w (.cells #[.int .i64 b, .int .i64 e, .bool ends, .bool out, .slice fA fn fc, .int .i64 tick, .int .i64 port, .slice aA an ac, .int .i64 err, .int .i64 pr, .int .i64 po] 55)
  have hgl := h.st.lt
  have hgb := h.gb
  have HZ := Lib.hid h
  have h1 := h.below hal
  have hx := Blk.new w 55 #[.int .i64 b, .int .i64 e, .bool ends, .bool out, .slice fA fn fc, .int .i64 tick, .int .i64 port, .slice aA an ac, .int .i64 err, .int .i64 pr, .int .i64 po]
  obtain ⟨w1, hw1⟩ : ∃ w1, w1 = w.alloc (.cells #[.int .i64 b, .int .i64 e, .bool ends, .bool out, .slice fA fn fc, .int .i64 tick, .int .i64 port, .slice aA an ac, .int .i64 err, .int .i64 pr, .int .i64 po] 55) := ⟨_, rfl⟩
  rw [← hw1] at h1 hx hal
  have HS1 := Lib.hid (show w1.heap.size = w.heap.size + 1 by rw [hw1]; simp)
  have HW := Lib.hid hw1
  have HAL := Lib.hid hal
  have H1 := Lib.hid h1
  have HX := Lib.hid hx
  have c1 : w1.cell? ⟨gh, 1, none⟩ = some (.slice A es.length c) := h1.st.cell 1
  have hlt1 := h1.st.lt
  have c2 : (w1.alloc (.cells #[.int .i64 b, .int .i64 e, .bool ends, .bool out, .slice fA fn fc, .int .i64 tick, .int .i64 port, .slice aA an ac, .int .i64 err, .int .i64 pr, .int .i64 po] 55)).cell? ⟨gh, 1, none⟩ = some (.slice A es.length c) := (World.cell?_alloc_lt w1 _ ⟨gh, 1, none⟩ hlt1).trans c1
  have f2 : (w1.alloc (.cells #[.int .i64 b, .int .i64 e, .bool ends, .bool out, .slice fA fn fc, .int .i64 tick, .int .i64 port, .slice aA an ac, .int .i64 err, .int .i64 pr, .int .i64 po] 55)).frozen? ⟨gh, 1, none⟩ = false := Blk.frozen (Blk.alloc h1.st _) 1
  have x0 : w1.cell? ⟨w.heap.size, 0, none⟩ = some (.int .i64 b) := hx.cell 0
  have x1 : w1.cell? ⟨w.heap.size, 1, none⟩ = some (.int .i64 e) := hx.cell 1
  have x2 : w1.cell? ⟨w.heap.size, 2, none⟩ = some (.bool ends) := hx.cell 2
  have x3 : w1.cell? ⟨w.heap.size, 3, none⟩ = some (.bool out) := hx.cell 3
  have x4 : w1.cell? ⟨w.heap.size, 4, none⟩ = some (.slice fA fn fc) := hx.cell 4
  have x5 : w1.cell? ⟨w.heap.size, 5, none⟩ = some (.int .i64 tick) := hx.cell 5
  have x6 : w1.cell? ⟨w.heap.size, 6, none⟩ = some (.int .i64 port) := hx.cell 6
  have x7 : w1.cell? ⟨w.heap.size, 7, none⟩ = some (.slice aA an ac) := hx.cell 7
  have x8 : w1.cell? ⟨w.heap.size, 8, none⟩ = some (.int .i64 err) := hx.cell 8
  have x9 : w1.cell? ⟨w.heap.size, 9, none⟩ = some (.int .i64 pr) := hx.cell 9
  have x10 : w1.cell? ⟨w.heap.size, 10, none⟩ = some (.int .i64 po) := hx.cell 10
  have hne : some gh ≠ (Value.slice A es.length c).ownBlock := fun e1 => by
    obtain ⟨_, _, cur, q⟩ := own_blk h.row e1.symm
    have := h.st
    unfold Blk at this
    rw [this] at q
    injection q with q
    injection q with _ q
    exact absurd q (by decide)
  have HNE := Lib.hid hne
  have HR1 := Lib.hid h1.row
  clear h hal h1 hx hw1 hne
  go_enter Try.func40, Try.ntmps40
  go_upto_region 1 with fail
  rw [← HW.out]
  go_region_law (first
    | (refine step_append_lies _ (by rfl) _ _ _ (by rfl) base 55 iD _ 11 120 Try.underlying36 hiD hzD hsD hbD rfl (by omega) (.slice A es.length c) _ (enC es) (by rfl) (own_below (HR1.out) (bthen (ball _ _) (bdrew _))) ⟨w1.heap.size, 0, none⟩ 1 1 (#[.int .i64 b, .int .i64 e, .bool ends, .bool out, .slice fA fn fc, .int .i64 tick, .int .i64 port, .slice aA an ac, .int .i64 err, .int .i64 pr, .int .i64 po]).toList (by rfl) (by rfl) (World.news_of_block (cs := #[.int .i64 b, .int .i64 e, .bool ends, .bool out, .slice fA fn fc, .int .i64 tick, .int .i64 port, .slice aA an ac, .int .i64 err, .int .i64 pr, .int .i64 po]) (t := 55) (fr := (0, 0)) (heap_alloc_new w1 _)) (by simp [Value.oneCell']) (by omega) (by unfold maxLen; omega) (by omega) (by simp; omega) (w1.heap.size + 1) (by simp) ?_; intro gy cap w5 hown5 hgrow hat hlt5; have bz := (hgrow.block gh (by simp; omega) (HNE.out)).trans (Blk.drew (Blk.alloc H1.out.st _)); have z1 := Blk.cell bz 1; have z2 := Blk.frozen bz 1))
  all_goals
    have HAT := Lib.hid hat
    have hgy : gh ≠ gy := fun e1 => by
      rcases hat with q | q
      · exact HNE.out (by rw [e1]; exact q.symm)
      · omega
    have HOW := Lib.hid (own_grown hown5 (grown_setCell w5 gh 1 (.slice (some ⟨gy, 0, none⟩) (es.length + 1) cap)) (fun g1 h1 h2 => by
      simp [Value.ownBlock] at h1 h2
      omega))
    have HBF := Lib.hid (Blk.set bz 1 (.slice (some ⟨gy, 0, none⟩) (es.length + 1) cap))
    have HKF := Lib.hid ((((Keep.of_below (bs := hiL gh (.slice A es.length c)) HAL.out).alloc (.cells #[.int .i64 b, .int .i64 e, .bool ends, .bool out, .slice fA fn fc, .int .i64 tick, .int .i64 port, .slice aA an ac, .int .i64 err, .int .i64 pr, .int .i64 po] 55)).drew).trans (((Keep.of_grownO hgrow (fun g1 h1 => by unfold hiL; rw [h1]; simp)) : Keep (hiL gh (.slice A es.length c)) _ w5).setCell (p := ⟨gh, 1, none⟩) (.inl (by unfold hiL; simp)) (.slice (some ⟨gy, 0, none⟩) (es.length + 1) cap)))
    clear hown5 hgrow bz z1 z2 c1 c2 f2 x0 x1 x2 x3 x4 x5 x6 x7 x8 x9 x10 hat
    generalize w5.setCell ⟨gh, 1, none⟩ (.slice (some ⟨gy, 0, none⟩) (es.length + 1) cap) = w9 at *
    have z9 : w9.cell? ⟨gh, 1, none⟩ = some (.slice (some ⟨gy, 0, none⟩) (es.length + 1) cap) := HBF.out.cell 1
    have e9 : wrap64 ((es.length : Int) + 1 - 1) = (es.length : Int) := by unfold wrap64; omega
    go_wp2
    go_ret
    refine ⟨retI (by omega), some ⟨gy, 0, none⟩, cap, ⟨HBF.out, ?_, hgb⟩, HKF.out, ?_⟩
    · rw [HC.out, List.length_append]
      exact HOW.out
    · rcases HAT.out with q | q
      · exact .inl q
      · refine .inr fun g hg => ?_
        simp [Value.ownBlock] at hg
        have := HS1.out
        omega
end Go.Proofs.Ytbnlpidhbilenaa
