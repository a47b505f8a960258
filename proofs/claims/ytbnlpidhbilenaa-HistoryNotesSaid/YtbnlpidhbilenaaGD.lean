/-
  Several small texts in one: H5, H6, H7, H8, Hen. Conditions stand in each theorem.
-/
import Derived.Test.YtbnlpidhbilenaaH2
import Derived.Test.YtbnlpidhbilenaaGB
import Derived.Deep.RegionLaw
import Derived.Deep.AppendLies
import Derived.WalkSpells
import Derived.Deep.RegionHeld3
import Derived.RegionTactic
import Derived.BigRegion
import Derived.Laws.MakeOwn
namespace Go.Proofs.Ytbnlpidhbilenaa
open Go.RowKit Go.Deep Plain
set_option linter.unusedVariables false
set_option linter.unusedSimpArgs false
set_option maxRecDepth 100000
theorem retI {k : IntKind} {a b : Int} (h : a = b) : Ending.returned (.int k a) = .returned (.int k b) := by rw [h]
theorem infoEn : (Try.prog.info? 55).map (fun i => (i.zero, i.size, i.bytes)) = some (some (.agg #[.int .i64 0, .int .i64 0, .bool false, .bool false, .slice none 0 0, .int .i64 0, .int .i64 0, .slice none 0 0, .int .i64 0, .int .i64 0, .int .i64 0]), 11, 120) := by kernel_rfl
def enC (es : List En) : List Value := es.flatMap En.cs
theorem enC_snoc (es : List En) (x : En) : enC (es ++ [x]) = enC es ++ x.cs := by unfold enC; simp
theorem enC_one (es : List En) : ∀ u ∈ enC es, u.oneCell' = true := by
  intro u hu
  unfold enC at hu
  obtain ⟨o, _, hu⟩ := List.mem_flatMap.1 hu
  simp [En.cs] at hu
  rcases hu with rfl | rfl | rfl | rfl | rfl | rfl | rfl | rfl | rfl | rfl | rfl <;> rfl
/-- a History -/
structure HiS (w : World) (base gh : Nat) (now : Int) (v : Value) (es : List En) : Prop where
  st : Blk w gh 90 #[.int .i64 now, v]
  row : w.ownsRow base 55 11 v es.length (enC es)
  gb : base ≤ gh
theorem HiS.below {w w' : World} {base gh : Nat} {now : Int} {v : Value} {es : List En} (h : HiS w base gh now v es) (hb : Below w.heap.size w w') : HiS w' base gh now v es := ⟨h.st.below hb, own_below h.row hb, h.gb⟩
/-- the blocks of a History -/
def hiL (gh : Nat) (v : Value) : List Nat := gh :: v.ownBlock.toList
set_option maxHeartbeats 4000000 in
theorem note_any {w : World} {base gh : Nat} {now : Int} {A : Option Addr} {n c : Nat} {es : List En} (h : HiS w base gh now (.slice A n c) es) (hn : es.length = n) (hl : n ≤ 100000) (x : En) :
    Calls Try.prog 40 #[.pointer (some ⟨gh, 0, none⟩), x.val] w fun e w' => e = .returned (.int .i64 n) ∧ ∃ A' c', HiS w' base gh now (.slice A' (n + 1) c') (es ++ [x]) ∧ Keep (hiL gh (.slice A n c)) w w' ∧ ((Value.slice A n c).ownBlock = (Value.slice A' (n + 1) c').ownBlock ∨ ∀ g, (Value.slice A' (n + 1) c').ownBlock = some g → w.heap.size ≤ g) := by
  obtain ⟨iD, hiD, hzD, hsD, hbD⟩ := info_parts infoEn
  have hcs : enC (es ++ [x]) = enC es ++ x.cs := enC_snoc es x
  have HC := Lib.hid hcs
  subst hn
  clear hcs
  obtain ⟨b, e, ends, out, fA, fn, fc, tick, port, aA, an, ac, err, pr, po⟩ := x
  unfold En.val
  unfold En.cs at *
  have hal := ball w (.cells #[.int .i64 b, .int .i64 e, .bool ends, .bool out, .slice fA fn fc, .int .i64 tick, .int .i64 port, .slice aA an ac, .int .i64 err, .int .i64 pr, .int .i64 po] 55)
  have hgl := h.st.lt
  have hgb := h.gb
  have HZ := Lib.hid h
  have h1 := h.below hal
  have hx := Blk.new w 55 #[.int .i64 b, .int .i64 e, .bool ends, .bool out, .slice fA fn fc, .int .i64 tick, .int .i64 port, .slice aA an ac, .int .i64 err, .int .i64 pr, .int .i64 po]
  obtain ⟨w1, hw1⟩ : ∃ w1, w1 = w.alloc (.cells #[.int .i64 b, .int .i64 e, .bool ends, .bool out, .slice fA fn fc, .int .i64 tick, .int .i64 port, .slice aA an ac, .int .i64 err, .int .i64 pr, .int .i64 po] 55) := ⟨_, rfl⟩
  rw [← hw1] at h1 hx hal
  have HS1 := Lib.hid (show w1.heap.size = w.heap.size + 1 by rw [hw1]; simp)
  have HW := Lib.hid hw1
  have HAL := Lib.hid hal
  have H1 := Lib.hid h1
  have HX := Lib.hid hx
  have c1 : w1.cell? ⟨gh, 1, none⟩ = some (.slice A es.length c) := h1.st.cell 1
  have hlt1 := h1.st.lt
  have c2 : (w1.alloc (.cells #[.int .i64 b, .int .i64 e, .bool ends, .bool out, .slice fA fn fc, .int .i64 tick, .int .i64 port, .slice aA an ac, .int .i64 err, .int .i64 pr, .int .i64 po] 55)).cell? ⟨gh, 1, none⟩ = some (.slice A es.length c) := (World.cell?_alloc_lt w1 _ ⟨gh, 1, none⟩ hlt1).trans c1
  have f2 : (w1.alloc (.cells #[.int .i64 b, .int .i64 e, .bool ends, .bool out, .slice fA fn fc, .int .i64 tick, .int .i64 port, .slice aA an ac, .int .i64 err, .int .i64 pr, .int .i64 po] 55)).frozen? ⟨gh, 1, none⟩ = false := Blk.frozen (Blk.alloc h1.st _) 1
  have x0 : w1.cell? ⟨w.heap.size, 0, none⟩ = some (.int .i64 b) := hx.cell 0
  have x1 : w1.cell? ⟨w.heap.size, 1, none⟩ = some (.int .i64 e) := hx.cell 1
  have x2 : w1.cell? ⟨w.heap.size, 2, none⟩ = some (.bool ends) := hx.cell 2
  have x3 : w1.cell? ⟨w.heap.size, 3, none⟩ = some (.bool out) := hx.cell 3
  have x4 : w1.cell? ⟨w.heap.size, 4, none⟩ = some (.slice fA fn fc) := hx.cell 4
  have x5 : w1.cell? ⟨w.heap.size, 5, none⟩ = some (.int .i64 tick) := hx.cell 5
  have x6 : w1.cell? ⟨w.heap.size, 6, none⟩ = some (.int .i64 port) := hx.cell 6
  have x7 : w1.cell? ⟨w.heap.size, 7, none⟩ = some (.slice aA an ac) := hx.cell 7
  have x8 : w1.cell? ⟨w.heap.size, 8, none⟩ = some (.int .i64 err) := hx.cell 8
  have x9 : w1.cell? ⟨w.heap.size, 9, none⟩ = some (.int .i64 pr) := hx.cell 9
  have x10 : w1.cell? ⟨w.heap.size, 10, none⟩ = some (.int .i64 po) := hx.cell 10
  have hne : some gh ≠ (Value.slice A es.length c).ownBlock := fun e1 => by
    obtain ⟨_, _, cur, q⟩ := own_blk h.row e1.symm
    have := h.st
    unfold Blk at this
    rw [this] at q
    injection q with q
    injection q with _ q
    exact absurd q (by decide)
  have HNE := Lib.hid hne
  have HR1 := Lib.hid h1.row
  clear h hal h1 hx hw1 hne
  go_enter Try.func40, Try.ntmps40
  go_upto_region 1 with fail
  rw [← HW.out]
  go_region_law (first
    | (refine step_append_lies _ (by rfl) _ _ _ (by rfl) base 55 iD _ 11 120 Try.underlying36 hiD hzD hsD hbD rfl (by omega) (.slice A es.length c) _ (enC es) (by rfl) (own_below (HR1.out) (bthen (ball _ _) (bdrew _))) ⟨w1.heap.size, 0, none⟩ 1 1 (#[.int .i64 b, .int .i64 e, .bool ends, .bool out, .slice fA fn fc, .int .i64 tick, .int .i64 port, .slice aA an ac, .int .i64 err, .int .i64 pr, .int .i64 po]).toList (by rfl) (by rfl) (World.news_of_block (cs := #[.int .i64 b, .int .i64 e, .bool ends, .bool out, .slice fA fn fc, .int .i64 tick, .int .i64 port, .slice aA an ac, .int .i64 err, .int .i64 pr, .int .i64 po]) (t := 55) (fr := (0, 0)) (heap_alloc_new w1 _)) (by simp [Value.oneCell']) (by omega) (by unfold maxLen; omega) (by omega) (by simp; omega) (w1.heap.size + 1) (by simp) ?_; intro gy cap w5 hown5 hgrow hat hlt5; have bz := (hgrow.block gh (by simp; omega) (HNE.out)).trans (Blk.drew (Blk.alloc H1.out.st _)); have z1 := Blk.cell bz 1; have z2 := Blk.frozen bz 1))
  all_goals
    have HAT := Lib.hid hat
    have hgy : gh ≠ gy := fun e1 => by
      rcases hat with q | q
      · exact HNE.out (by rw [e1]; exact q.symm)
      · omega
    have HOW := Lib.hid (own_grown hown5 (grown_setCell w5 gh 1 (.slice (some ⟨gy, 0, none⟩) (es.length + 1) cap)) (fun g1 h1 h2 => by
      simp [Value.ownBlock] at h1 h2
      omega))
    have HBF := Lib.hid (Blk.set bz 1 (.slice (some ⟨gy, 0, none⟩) (es.length + 1) cap))
    have HKF := Lib.hid ((((Keep.of_below (bs := hiL gh (.slice A es.length c)) HAL.out).alloc (.cells #[.int .i64 b, .int .i64 e, .bool ends, .bool out, .slice fA fn fc, .int .i64 tick, .int .i64 port, .slice aA an ac, .int .i64 err, .int .i64 pr, .int .i64 po] 55)).drew).trans (((Keep.of_grownO hgrow (fun g1 h1 => by unfold hiL; rw [h1]; simp)) : Keep (hiL gh (.slice A es.length c)) _ w5).setCell (p := ⟨gh, 1, none⟩) (.inl (by unfold hiL; simp)) (.slice (some ⟨gy, 0, none⟩) (es.length + 1) cap)))
    clear hown5 hgrow bz z1 z2 c1 c2 f2 x0 x1 x2 x3 x4 x5 x6 x7 x8 x9 x10 hat
    generalize w5.setCell ⟨gh, 1, none⟩ (.slice (some ⟨gy, 0, none⟩) (es.length + 1) cap) = w9 at *
    have z9 : w9.cell? ⟨gh, 1, none⟩ = some (.slice (some ⟨gy, 0, none⟩) (es.length + 1) cap) := HBF.out.cell 1
    have e9 : wrap64 ((es.length : Int) + 1 - 1) = (es.length : Int) := by unfold wrap64; omega
    go_wp2
    go_ret
    refine ⟨retI (by omega), some ⟨gy, 0, none⟩, cap, ⟨HBF.out, ?_, hgb⟩, HKF.out, ?_⟩
    · rw [HC.out, List.length_append]
      exact HOW.out
    · rcases HAT.out with q | q
      · exact .inl q
      · refine .inr fun g hg => ?_
        simp [Value.ownBlock] at hg
        have := HS1.out
        omega
end Go.Proofs.Ytbnlpidhbilenaa

namespace Go.Proofs.Ytbnlpidhbilenaa
open Go.RowKit Go.Deep Plain
set_option linter.unusedVariables false
set_option linter.unusedSimpArgs false
set_option maxRecDepth 100000
/-- a copy of bytes: of none none -/
def ClOk (A : Option Addr) (n : Nat) (zs : List Int) (w : World) (e : Ending) (w' : World) : Prop :=
  ∃ A' c', e = .returned (.slice A' n c') ∧ n ≤ c' ∧ c' ≤ 9223372036854775807 ∧ Rd w' A' zs ∧ (∀ p, A' = some p → w.heap.size ≤ p.block) ∧ (A' = none → c' = 0) ∧ Below w.heap.size w w'
theorem clone_any (A : Option Addr) (n c : Nat) (zs : List Int) (w : World) (hn : zs.length = n) (hl : n ≤ 1000000) (hR : Rd w A zs) (hA : A = none → c = 0) :
    Calls Try.prog 39 #[.slice A n c] w (ClOk A n zs w) := by
  cases A with
  | none =>
    have h0 : n = 0 := by
      rcases Nat.eq_zero_or_pos n with h | h
      · exact h
      · obtain ⟨b, off, q, _⟩ := hR.2 (by omega)
        cases q
    obtain rfl := hA rfl
    subst h0
    obtain rfl : zs = [] := List.length_eq_zero_iff.1 hn
    clear hA
    have hq : ∀ W, (binOp .eql 27 (.slice none 0 0) (.slice none 0 0)).run Try.prog W = .ok (.bool true) W := fun W => by rfl
    go_enter Try.func39, Try.ntmps39
    go_wp2
    go_ret
    exact ⟨none, 0, rfl, Nat.le_refl _, by omega, hR, (fun p h => by cases h), (fun _ => rfl), Below.refl _ _⟩
  | some p =>
    have Hn := Lib.hid hn
    have HR := Lib.hid hR
    clear hn hR hA
    have hq : ∀ W, (binOp .eql 27 (.slice (some p) n c) (.slice none 0 0)).run Try.prog W = .ok (.bool false) W := fun W => by rfl
    go_enter Try.func39, Try.ntmps39
    go_wp2_with (at_builtin; refine wpList_app rfl (.tmp 5) (.tmp 6) rfl rfl (Own.empty w (Nat.le_refl _)) zs rfl (HR.out.alloc _) Hn.out (by omega) (by simp) ?_)
    intro A' c' w1 ho hg hA
    have hb := below_app ((Below.refl _ _).alloc (Nat.le_refl _) _) hg (Own.empty w (Nat.le_refl _)) (Nat.le_refl _) (by simp)
    have Ho := Lib.hid ho
    have Hb := Lib.hid hb
    have HA := Lib.hid hA
    clear ho hg hA hb
    go_wp2
    go_ret
    have h2 : Own w1 w.heap.size A' n c' zs := Ho.out
    refine ⟨A', c', by simp, h2.cap, ?_, h2.rd, fun p hp => ?_, fun h => ?_, Hb.out⟩
    · rcases h2.row.2 with ⟨q, _⟩ | ⟨g, cap, cur, q, _, _, _, hcm, _⟩
      · injection q with q1 q2 q3
        omega
      · injection q with q1 q2 q3
        unfold maxLen at hcm
        omega
    · rcases h2.form with ⟨q, _⟩ | ⟨g, q, hg, _⟩
      · rw [q] at hp; cases hp
      · rw [q] at hp; injection hp with hp; rw [← hp]; exact hg
    · rcases h2.form with ⟨_, _, q⟩ | ⟨g, q, _, _⟩
      · exact q
      · rw [q] at h; cases h
theorem hnew_any (w : World) : Calls Try.prog 16 #[] w fun e w' => e = .returned (.pointer (some ⟨w.heap.size, 0, none⟩)) ∧ HiS w' w.heap.size w.heap.size 0 (.slice none 0 0) [] ∧ Below w.heap.size w w' := by
  have H := Lib.hid (show HiS (w.alloc (.cells #[.int .i64 0, .slice none 0 0] 90)) w.heap.size w.heap.size 0 (.slice none 0 0) [] from ⟨Blk.new w _ _, World.ownsRow_nil _ _ _ _, Nat.le_refl _⟩)
  have HB := Lib.hid (ball w (.cells #[.int .i64 0, .slice none 0 0] 90))
  go_enter Try.func16, Try.ntmps16
  go_wp2
  go_ret
  exact ⟨rfl, H.out, HB.out⟩
theorem hnow_any {w : World} {base gh : Nat} {now : Int} {v : Value} {es : List En} (h : HiS w base gh now v es) : Calls Try.prog 14 #[.pointer (some ⟨gh, 0, none⟩)] w fun e w' => e = .returned (.int .i64 now) ∧ w = w' := by
  have c := h.st.cell 0
  clear h
  go_enter Try.func14, Try.ntmps14
  go_wp2
  go_ret
  exact ⟨rfl, rfl⟩
theorem HiS.drew {w : World} {base gh : Nat} {now : Int} {v : Value} {es : List En} (h : HiS w base gh now v es) : HiS w.drew base gh now v es := ⟨h.st.drew, h.row, h.gb⟩
theorem HiS.keep {w w' : World} {base gh : Nat} {now : Int} {v : Value} {es : List En} {bs : List Nat} (h : HiS w base gh now v es) (hk : Keep bs w w') (h1 : gh ∉ bs) (h2 : ∀ g, v.ownBlock = some g → g ∉ bs) : HiS w' base gh now v es := ⟨hk.blk h.st h1, own_keep h.row hk h2, h.gb⟩
theorem HiS.ne {w : World} {base gh : Nat} {now : Int} {v : Value} {es : List En} (h : HiS w base gh now v es) : v.ownBlock ≠ some gh := fun e1 => by
  obtain ⟨_, _, cur, q⟩ := own_blk h.row e1
  have := h.st
  unfold Blk at this
  rw [this] at q
  injection q with q
  injection q with _ q
  exact absurd q (by decide)
/-- the moment goes on -/
theorem HiS.tick {w : World} {base gh : Nat} {now : Int} {v : Value} {es : List En} (h : HiS w base gh now v es) (x : Int) : HiS (w.setCell ⟨gh, 0, none⟩ (.int .i64 x)) base gh x v es :=
  ⟨h.st.set 0 (.int .i64 x), own_grown h.row (grown_setCell w gh 0 (.int .i64 x)) (fun g1 h1 h2 => by injection h2 with h2; subst h2; exact h.ne h1), h.gb⟩
theorem rd_keep {w w' : World} {A : Option Addr} {zs : List Int} {bs : List Nat} (h : Rd w A zs) (hk : Keep bs w w') (hn : ∀ p, A = some p → p.block ∉ bs) : Rd w' A zs := by
  refine ⟨h.1, fun hp => ?_⟩
  obtain ⟨b, off, e, hc⟩ := h.2 hp
  refine ⟨b, off, e, fun k hkk => ?_⟩
  have q := hc k hkk
  have hb : b < w.heap.size := block_lt_of_cell q
  rw [← q]
  exact hk.cell (p := ⟨b, off + k, none⟩) hb (hn ⟨b, off, none⟩ e)
/-- what Begin makes of it -/
def BgOk (base gh : Nat) (now : Int) (A : Option Addr) (n c : Nat) (es : List En) (out : Bool) (tick port : Int) (fA : Option Addr) (fn : Nat) (zs : List Int) (w : World) (e : Ending) (w' : World) : Prop :=
  e = .returned (.int .i64 n) ∧ ∃ A' c' fA' fc', HiS w' base gh (now + 1) (.slice A' (n + 1) c') (es ++ [⟨now + 1, -1, false, out, fA', fn, fc', tick, port, none, 0, 0, 0, 0, 0⟩]) ∧ Rd w' fA' zs ∧ fn ≤ fc' ∧ fc' ≤ 9223372036854775807 ∧
    (∀ p, fA' = some p → w.heap.size ≤ p.block) ∧ (fA' = none → fc' = 0) ∧ Keep (hiL gh (.slice A n c)) w w' ∧
    ((Value.slice A n c).ownBlock = (Value.slice A' (n + 1) c').ownBlock ∨ ∀ g, (Value.slice A' (n + 1) c').ownBlock = some g → w.heap.size ≤ g) ∧
    (0 < fn → ∀ p g, fA' = some p → (Value.slice A' (n + 1) c').ownBlock = some g → p.block ≠ g)
set_option maxHeartbeats 4000000 in
theorem begin_any {w : World} {base gh : Nat} {now : Int} {A : Option Addr} {n c : Nat} {es : List En} (h : HiS w base gh now (.slice A n c) es) (hn : es.length = n) (hl : n ≤ 1000) (n0 : 0 ≤ now) (n1 : now ≤ 100000) (out : Bool) (tick port : Int)
    (fA : Option Addr) (fn fc : Nat) (zs : List Int) (hz : zs.length = fn) (hfl : fn ≤ 1000000) (hR : Rd w fA zs) (hA : fA = none → fc = 0) :
    Calls Try.prog 11 #[.pointer (some ⟨gh, 0, none⟩), .agg #[.bool out, .slice fA fn fc, .int .i64 tick, .int .i64 port]] w (BgOk base gh now A n c es out tick port fA fn zs w) := by
  have hgl := h.st.lt
  have hal := ball w (.cells #[.bool out, .slice fA fn fc, .int .i64 tick, .int .i64 port] 29)
  have hx := Blk.new w 29 #[.bool out, .slice fA fn fc, .int .i64 tick, .int .i64 port]
  have HNL := Lib.hid (show ∀ g, (Value.slice A n c).ownBlock = some g → g < w.heap.size from fun g hg => (own_blk h.row hg).2.1)
  have HCl := Lib.hid (clone_any fA fn fc zs (w.alloc (.cells #[.bool out, .slice fA fn fc, .int .i64 tick, .int .i64 port] 29)) hz hfl (hR.alloc _) hA)
  have h1 := h.below hal
  obtain ⟨w1, hw1⟩ : ∃ w1, w1 = w.alloc (.cells #[.bool out, .slice fA fn fc, .int .i64 tick, .int .i64 port] 29) := ⟨_, rfl⟩
  rw [← hw1] at HCl h1 hx hal
  have HW := Lib.hid hw1
  have HAL := Lib.hid hal
  have H1 := Lib.hid h1
  have HX := Lib.hid hx
  have Hn := Lib.hid hn
  have q1 : w1.cell? ⟨w.heap.size, 1, none⟩ = some (.slice fA fn fc) := hx.cell 1
  have HZL := Lib.hid hz
  clear h hal h1 hx hw1 hz hR hA hn
  go_enter Try.func11, Try.ntmps11
  go_upto_region 3 with fail
  rw [← HW.out]
  go_upto_region 4 with (go_at_call 39; refine (HCl.out).mono ?_; rintro ee w2 ⟨fA', fc', rfl, hc1, hc2, hr2, hp2, hnn2, hb2⟩; have f1 := Blk.frozen (HX.out.below hb2) 1; have q2 := Blk.cell (HX.out.below hb2) 1)
  have hxc : Blk (w2.setCell ⟨w.heap.size, 1, none⟩ (.slice fA' fn fc')) w.heap.size 29 #[.bool out, .slice fA' fn fc', .int .i64 tick, .int .i64 port] := (HX.out.below hb2).set 1 (.slice fA' fn fc')
  have HSZ := Lib.hid (show w.heap.size ≤ w2.heap.size from Nat.le_trans HAL.out.size hb2.size)
  have hh3 : HiS (w2.setCell ⟨w.heap.size, 1, none⟩ (.slice fA' fn fc')) base gh now (.slice A n c) es := (H1.out.below hb2).keep (bs := [w.heap.size]) ((Keep.refl _ w2).setCell (.inl (by simp)) _) (by simp; omega) (fun g hg => by have := HNL.out g hg; simp; omega)
  have hk3 : Keep (hiL gh (.slice A n c)) w (w2.setCell ⟨w.heap.size, 1, none⟩ (.slice fA' fn fc')) := ((Keep.of_below HAL.out).trans (Keep.of_below (hb2.mono (Nat.le_refl _)))).setCell (.inr (Nat.le_refl _)) _
  have HR4 := Lib.hid (show Rd ((w2.setCell ⟨w.heap.size, 1, none⟩ (.slice fA' fn fc')).setCell ⟨gh, 0, none⟩ (.int .i64 (now + 1))) fA' zs from
    rd_keep hr2 (bs := [w.heap.size, gh]) (((Keep.refl _ w2).setCell (p := ⟨w.heap.size, 1, none⟩) (.inl (by simp)) (.slice fA' fn fc')) |>.setCell (p := ⟨gh, 0, none⟩) (.inl (by simp)) (.int .i64 (now + 1))) (fun p hp => by
      have q := hp2 p hp
      rw [HW.out, World.size_alloc] at q
      simp
      omega))
  clear f1 q2 q1
  generalize w2.setCell ⟨w.heap.size, 1, none⟩ (.slice fA' fn fc') = w3 at *
  have c0 : w3.cell? ⟨gh, 0, none⟩ = some (.int .i64 now) := hh3.st.cell 0
  have f0 : w3.frozen? ⟨gh, 0, none⟩ = false := Blk.frozen hh3.st 0
  have hne2 : gh ≠ w.heap.size := by omega
  have HH4 := Lib.hid (hh3.tick (now + 1))
  have HX4 := Lib.hid (hxc.ne (p := ⟨gh, 0, none⟩) hne2 (.int .i64 (now + 1)))
  have HK4 := Lib.hid (hk3.setCell (p := ⟨gh, 0, none⟩) (.inl (by unfold hiL; simp)) (.int .i64 (now + 1)))
  have HP := Lib.hid hp2
  have HNN := Lib.hid hnn2
  clear hh3 hk3 hxc hp2 hnn2 hr2 hb2 HCl HX H1 HAL
  go_upto_region 5 with fail
  generalize w3.setCell ⟨gh, 0, none⟩ (.int .i64 (now + 1)) = w4 at *
  clear c0 f0
  have q0 : w4.cell? ⟨w.heap.size, 0, none⟩ = some (.bool out) := HX4.out.cell 0
  have q1 : w4.cell? ⟨w.heap.size, 1, none⟩ = some (.slice fA' fn fc') := HX4.out.cell 1
  have q2 : w4.cell? ⟨w.heap.size, 2, none⟩ = some (.int .i64 tick) := HX4.out.cell 2
  have q3 : w4.cell? ⟨w.heap.size, 3, none⟩ = some (.int .i64 port) := HX4.out.cell 3
  have c0 : w4.cell? ⟨gh, 0, none⟩ = some (.int .i64 (now + 1)) := HH4.out.st.cell 0
  have HN := Lib.hid (note_any HH4.out.drew Hn.out (by omega) ⟨now + 1, -1, false, out, fA', fn, fc', tick, port, none, 0, 0, 0, 0, 0⟩)
  unfold En.val En.cs at HN
  go_region_law (go_simp; go_at_call 40; refine (HN.out).mono ?_; rintro ee w5 ⟨rfl, A', c', hh5, hk5, ho5⟩)
  all_goals
    have hsz5 := hk5.size
    have hsz4 : w.heap.size ≤ w4.heap.size := HK4.out.size
    have HF := Lib.hid (show BgOk base gh now A n c es out tick port fA fn zs w (.returned (.int .i64 n)) w5 from ⟨rfl, A', c', fA', fc', hh5,
      rd_keep (show Rd w4.drew fA' zs from HR4.out) hk5 (fun p hp => by
        have q := HP.out p hp
        rw [HW.out, World.size_alloc] at q
        intro hm
        unfold hiL at hm
        rcases List.mem_cons.1 hm with hm | hm
        · omega
        · rw [Option.mem_toList] at hm
          have := HNL.out _ hm
          omega),
      hc1, hc2, (fun p hp => by
        have q := HP.out p hp
        rw [HW.out, World.size_alloc] at q
        omega), HNN.out, (HK4.out.drew).trans hk5, (by
        rcases ho5 with q | q
        · exact .inl q
        · exact .inr fun g hg => Nat.le_trans hsz4 (q g hg)), (by
        intro hf0 p g hp hg e
        obtain ⟨b, off, eb, hcb⟩ := HR4.out.2 (by rw [HZL.out]; exact hf0)
        have q1 := HP.out p hp
        rw [HW.out, World.size_alloc] at q1
        rw [eb] at hp
        injection hp with hp
        have q2 : b < w4.heap.size := block_lt_of_cell (hcb 0 (by rw [HZL.out]; exact hf0))
        have q3 : p.block = b := by rw [← hp]
        rcases ho5 with q | q
        · rw [← q] at hg
          have := HNL.out g hg
          omega
        · have q4 : w4.heap.size ≤ g := q g hg
          omega)⟩)
    clear hh5 hk5 ho5 hsz5 hsz4 q0 q1 q2 q3 c0 HN HP HNN HR4 HH4 HX4 HK4
    go_wp2
    go_ret
    exact HF.out
end Go.Proofs.Ytbnlpidhbilenaa

namespace Go.Proofs.Ytbnlpidhbilenaa
open Go.RowKit Go.Deep Plain
set_option linter.unusedVariables false
set_option linter.unusedSimpArgs false
set_option maxRecDepth 100000
theorem enC_len (es : List En) : (enC es).length = es.length * 11 := by
  unfold enC
  induction es with
  | nil => rfl
  | cons o l ih => simp only [List.flatMap_cons, List.length_append, ih]; simp [En.cs]; omega
theorem enC_at (es : List En) : ∀ (i j : Nat), i < es.length → j < 11 → (enC es)[i * 11 + j]? = ((es.getD i en0).cs)[j]? := by
  induction es with
  | nil => intro i j h; simp at h
  | cons o l ih =>
    intro i j hi hj
    have e : enC (o :: l) = o.cs ++ enC l := rfl
    have hl : o.cs.length = 11 := rfl
    rw [e]
    cases i with
    | zero =>
      rw [List.getElem?_append_left (by omega)]
      simp [List.getD]
    | succ i =>
      rw [List.getElem?_append_right (by omega), hl, show (i + 1) * 11 + j - 11 = i * 11 + j by omega, ih i j (by simpa using hi) hj]
      simp [List.getD]
theorem enC_set (es : List En) : ∀ (i j : Nat) (y : En) (v : Value), i < es.length → j < 11 → y.cs = (es.getD i en0).cs.set j v → (enC es).set (i * 11 + j) v = enC (es.set i y) := by
  induction es with
  | nil => intro i j y v h; simp at h
  | cons o l ih =>
    intro i j y v hi hj hy
    have e : enC (o :: l) = o.cs ++ enC l := rfl
    have hl : o.cs.length = 11 := rfl
    cases i with
    | zero =>
      have hy' : y.cs = o.cs.set j v := by rw [hy]; simp [List.getD]
      have e2 : enC ((o :: l).set 0 y) = y.cs ++ enC l := rfl
      rw [e, e2, hy', List.set_append_left _ _ (by omega), Nat.zero_mul, Nat.zero_add]
    | succ i =>
      have e2 : enC ((o :: l).set (i + 1) y) = o.cs ++ enC (l.set i y) := rfl
      rw [e, e2, List.set_append_right _ _ (by omega), hl, show (i + 1) * 11 + j - 11 = i * 11 + j by omega, ih i j y v (by simpa using hi) hj (by rw [hy]; simp [List.getD])]
theorem HiS.at {w : World} {base gh gE : Nat} {now : Int} {n c : Nat} {es : List En} (h : HiS w base gh now (.slice (some ⟨gE, 0, none⟩) n c) es) (hn : es.length = n) (i : Nat) (hi : i < n) : At w ⟨gE, i * 11, none⟩ (es.getD i en0).cs := by
  intro j v hv
  have hj : j < 11 := by
    have := (List.getElem?_eq_some_iff.1 hv).1
    exact this
  have e : (⟨gE, i * 11, none⟩ : Addr).add j = ⟨gE, i * 11 + j, none⟩ := addr_add _ _ _
  have hr := h.row
  rw [hn] at hr
  rw [e, hr.cellAt (i * 11 + j) (by omega), enC_at es i j (by omega) hj, hv]
/-- one cell of an Entry is written -/
theorem HiS.put {w : World} {base gh gE : Nat} {now : Int} {n c : Nat} {es : List En} (h : HiS w base gh now (.slice (some ⟨gE, 0, none⟩) n c) es) (hn : es.length = n) (i j : Nat) (hi : i < n) (hj : j < 11) (v : Value) (y : En) (hy : y.cs = (es.getD i en0).cs.set j v) :
    HiS (w.setCell ⟨gE, i * 11 + j, none⟩ v) base gh now (.slice (some ⟨gE, 0, none⟩) n c) (es.set i y) := by
  have hr := h.row
  rw [hn] at hr
  refine ⟨h.st.ne (fun e => h.ne (show some gE = some gh by rw [show gE = gh from e])) v, ?_, h.gb⟩
  rw [List.length_set, hn, ← enC_set es i j y v (by omega) hj hy]
  exact (hr.stored (i * 11 + j) v).1
theorem HiS.put2 {w : World} {base gh gE : Nat} {now : Int} {n c : Nat} {es : List En} {i : Nat} {x0 : En} (h : HiS w base gh now (.slice (some ⟨gE, 0, none⟩) n c) (es.set i x0)) (hn : es.length = n) (j : Nat) (hi : i < n) (hj : j < 11) (v : Value) (y : En) (hy : y.cs = x0.cs.set j v) :
    HiS (w.setCell ⟨gE, i * 11 + j, none⟩ v) base gh now (.slice (some ⟨gE, 0, none⟩) n c) (es.set i y) := by
  have q := h.put (by rw [List.length_set]; exact hn) i j hi hj v y (by
    have hil : i < es.length := by omega
    have e : (es.set i x0).getD i en0 = x0 := by simp [List.getD, hil]
    rw [e]; exact hy)
  rw [List.set_set] at q
  exact q
theorem At.cell' {w : World} {b o : Nat} {cs : List Value} (h : At w ⟨b, o, none⟩ cs) (j : Nat) {v : Value} (hv : cs[j]? = some v) : w.cell? ⟨b, o + j, none⟩ = some v := by
  have := h j v hv
  rw [addr_add] at this
  exact this
theorem HiS.free {w : World} {base gh gE : Nat} {now : Int} {n c : Nat} {es : List En} (h : HiS w base gh now (.slice (some ⟨gE, 0, none⟩) n c) es) (j : Nat) : w.frozen? ⟨gE, j, none⟩ = false := by
  obtain ⟨_, _, cur, q⟩ := own_blk h.row (g := gE) rfl
  simp [World.frozen?, q]
theorem HiS.some {w : World} {base gh : Nat} {now : Int} {A : Option Addr} {n c : Nat} {es : List En} (h : HiS w base gh now (.slice A n c) es) (hn : es.length = n) (h0 : 0 < n) : ∃ gE, A = some ⟨gE, 0, none⟩ := by
  rcases h.row.2 with ⟨e, e2⟩ | ⟨g, cap, cur, e, _⟩
  · omega
  · injection e with e
    exact ⟨g, e⟩
/-- what End makes of it -/
def EdOk (base gh gE : Nat) (now : Int) (n c : Nat) (es : List En) (i : Nat) (x : En) (aA : Option Addr) (an : Nat) (az : List Int) (err P : Int) (w : World) (e : Ending) (w' : World) : Prop :=
  e = .returned (.int .i64 0) ∧ ∃ A' c', HiS w' base gh (now + 1) (.slice (some ⟨gE, 0, none⟩) n c) (es.set i { x with e := now + 1, aA := A', an := an, ac := c', err := err, port := P }) ∧ Rd w' A' az ∧ an ≤ c' ∧ c' ≤ 9223372036854775807 ∧
    (∀ p, A' = some p → w.heap.size ≤ p.block) ∧ (A' = none → c' = 0) ∧ Keep (hiL gh (.slice (some ⟨gE, 0, none⟩) n c)) w w'
set_option maxHeartbeats 8000000 in
theorem end_any {w : World} {base gh gE : Nat} {now : Int} {n c : Nat} {es : List En} (h : HiS w base gh now (.slice (some ⟨gE, 0, none⟩) n c) es) (hn : es.length = n) (hl : n ≤ 1000) (n0 : 0 ≤ now) (n1 : now ≤ 100000) (i : Nat) (hi : i < n) (x : En) (hx : es.getD i en0 = x) (hxe : x.e = -1)
    (aA : Option Addr) (an ac : Nat) (az : List Int) (hz : az.length = an) (hal : an ≤ 1000000) (hR : Rd w aA az) (hA : aA = none → ac = 0) (err P : Int)
    (hP : ∀ W A' c', Rd W A' az → an ≤ c' → (A' = none → c' = 0) → Calls Try.prog 42 #[.agg #[.bool x.out, .slice x.fA x.fn x.fc, .int .i64 x.tick, .int .i64 x.port], .agg #[.slice A' an c', .int .i64 err]] W (fun e w' => e = .returned (.int .i64 P) ∧ Below W.heap.size W w')) :
    Calls Try.prog 12 #[.pointer (some ⟨gh, 0, none⟩), .int .i64 i, .agg #[.slice aA an ac, .int .i64 err]] w (EdOk base gh gE now n c es i x aA an az err P w) := by
  have hAt := h.at hn i hi
  rw [hx] at hAt
  have HX := Lib.hid hx
  have HD := Lib.hid (isDone_any x)
  have HPO := Lib.hid hP
  clear hx hP
  obtain ⟨b, e, ends, out, fA, fn, fc, tick, port, oA, on, oc, oer, pr, po⟩ := x
  obtain rfl : e = -1 := hxe
  unfold En.val at HD
  unfold En.cs at HD hAt
  simp only at HPO hAt HD
  have hal1 := ball w (.cells #[.slice aA an ac, .int .i64 err] 33)
  have hgl := h.st.lt
  have hgE : gE < w.heap.size := (own_blk h.row rfl).2.1
  have HNE := Lib.hid (show gE ≠ gh from fun e => h.ne (show some gE = some gh by rw [e]))
  have HCl := Lib.hid (show ∀ W, Below w.heap.size w W → Calls Try.prog 39 #[.slice aA an ac] W (ClOk aA an az W) from fun W hW => clone_any aA an ac az W hz hal (hR.below hW) hA)
  have hb1 := Blk.new w 33 #[.slice aA an ac, .int .i64 err]
  have h1 := h.below hal1
  have hA1 := hAt.below hal1 hgE
  obtain ⟨w1, hw1⟩ : ∃ w1, w1 = w.alloc (.cells #[.slice aA an ac, .int .i64 err] 33) := ⟨_, rfl⟩
  rw [← hw1] at h1 hb1 hal1 hA1
  have HW := Lib.hid hw1
  have HAL := Lib.hid hal1
  have H1 := Lib.hid h1
  have HBa := Lib.hid hb1
  have HA1 := Lib.hid hA1
  have Hn := Lib.hid hn
  have q0 : w1.cell? ⟨w.heap.size, 0, none⟩ = some (.slice aA an ac) := hb1.cell 0
  have c1 : w1.cell? ⟨gh, 1, none⟩ = some (.slice (some ⟨gE, 0, none⟩) n c) := h1.st.cell 1
  have b1 : decide ((i : Int) < 0) = false := decide_eq_false (by omega)
  have b2 : decide ((n : Int) ≤ (i : Int)) = false := decide_eq_false (by omega)
  have b2' : decide (n ≤ i) = false := decide_eq_false (by omega)
  have b3 : ((-1 : Int) != -1) = false := by decide
  clear h h1 hal1 hb1 hw1 hz hR hA hn hAt hA1
  go_enter Try.func12, Try.ntmps12
  go_upto_region 1 with fail
  rw [← HW.out]
  go_upto_region 3 with (first | ((with_reducible refine gd_ldt 55 29 ?_); refine wpList_ldw (by rfl) 55 (.tmp 29) rfl _ rfl _ (HA1.out) sEn ?_) | (go_at_call 41; refine (HD.out _).mono ?_; rintro ee w2 ⟨rfl, hx2⟩; have HX2 := Lib.hid hx2; clear hx2))
  have q0 : w2.cell? ⟨w.heap.size, 0, none⟩ = some (.slice aA an ac) := (HBa.out.below HX2.out).cell 0
  have HC2 := Lib.hid (HCl.out w2 (bthen HAL.out HX2.out))
  go_upto_region 4 with (go_at_call 39; refine (HC2.out).mono ?_; rintro ee w3 ⟨A', c', rfl, hc1, hc2, hr3, hp3, hnn3, hb3⟩; have f1 := Blk.frozen ((HBa.out.below HX2.out).below hb3) 0; have q1 := Blk.cell ((HBa.out.below HX2.out).below hb3) 0; have q3 := Blk.cell (((HBa.out.below HX2.out).below hb3).set 0 (.slice A' an c')) 1)
  have hs1 : w.heap.size ≤ w1.heap.size := HAL.out.size
  have hs2 : w1.heap.size ≤ w2.heap.size := HX2.out.size
  have hs3 : w2.heap.size ≤ w3.heap.size := hb3.size
  have hng : w.heap.size < w1.heap.size := by rw [HW.out]; simp
  have HH3 := Lib.hid ((H1.out.below HX2.out).below hb3)
  have HH4 := Lib.hid (HH3.out.keep (bs := [w.heap.size]) ((Keep.refl _ w3).setCell (p := ⟨w.heap.size, 0, none⟩) (.inl (by simp)) (.slice A' an c')) (by simp; omega) (fun g hg => by simp [Value.ownBlock] at hg; simp; omega))
  have HB4 := Lib.hid (((HBa.out.below HX2.out).below hb3).set 0 (.slice A' an c'))
  have HK4 := Lib.hid ((((Keep.of_below (bs := hiL gh (.slice (some ⟨gE, 0, none⟩) n c)) HAL.out).trans (Keep.of_below HX2.out)).trans (Keep.of_below hb3)).setCell (p := ⟨w.heap.size, 0, none⟩) (.inr (Nat.le_refl _)) (.slice A' an c'))
  have HR4 := Lib.hid (rd_keep hr3 (bs := [w.heap.size]) ((Keep.refl _ w3).setCell (p := ⟨w.heap.size, 0, none⟩) (.inl (by simp)) (.slice A' an c')) (fun p hp => by have := hp3 p hp; simp; omega))
  have HP3 := Lib.hid hp3
  have HNN := Lib.hid hnn3
  clear f1 q1 q0 q3 hb3 hr3 hp3 hnn3 HH3 HC2
  generalize w3.setCell ⟨w.heap.size, 0, none⟩ (.slice A' an c') = w4 at *
  have c0 : w4.cell? ⟨gh, 0, none⟩ = some (.int .i64 now) := HH4.out.st.cell 0
  have f0 : w4.frozen? ⟨gh, 0, none⟩ = false := Blk.frozen HH4.out.st 0
  have hne2 : gh ≠ w.heap.size := by omega
  have HH5 := Lib.hid (HH4.out.tick (now + 1))
  have c5 : (w4.setCell ⟨gh, 0, none⟩ (.int .i64 (now + 1))).cell? ⟨gh, 1, none⟩ = some (.slice (some ⟨gE, 0, none⟩) n c) := HH5.out.st.cell 1
  have HB5 := Lib.hid (HB4.out.ne (p := ⟨gh, 0, none⟩) hne2 (.int .i64 (now + 1)))
  have HK5 := Lib.hid (HK4.out.setCell (p := ⟨gh, 0, none⟩) (.inl (by unfold hiL; simp)) (.int .i64 (now + 1)))
  have HR5 := Lib.hid (rd_keep HR4.out (bs := [gh]) ((Keep.refl _ w4).setCell (p := ⟨gh, 0, none⟩) (.inl (by simp)) (.int .i64 (now + 1))) (fun p hp => by have := HP3.out p hp; simp; omega))
  go_upto_region 6 with fail
  generalize w4.setCell ⟨gh, 0, none⟩ (.int .i64 (now + 1)) = w5 at *
  clear c0 f0 c5
  have hA5 := HH5.out.at Hn.out i hi
  rw [HX.out] at hA5
  have hgEs : gE ≠ w.heap.size := by omega
  have hgEh : gE ≠ gh := HNE.out
  have z0 : w5.cell? ⟨gh, 0, none⟩ = some (.int .i64 (now + 1)) := HH5.out.st.cell 0
  have z1 : w5.cell? ⟨w.heap.size, 0, none⟩ = some (.slice A' an c') := HB5.out.cell 0
  have z2 : w5.cell? ⟨w.heap.size, 1, none⟩ = some (.int .i64 err) := HB5.out.cell 1
  have y1 : w5.cell? ⟨gE, i * 11 + 1, none⟩ = some (.int .i64 (-1)) := hA5.cell' 1 rfl
  have y7 : w5.cell? ⟨gE, i * 11 + 7, none⟩ = some (.slice oA on oc) := hA5.cell' 7 rfl
  have y8 : w5.cell? ⟨gE, i * 11 + 8, none⟩ = some (.int .i64 oer) := hA5.cell' 8 rfl
  have g1 := HH5.out.free (i * 11 + 1)
  have g7 := HH5.out.free (i * 11 + 7)
  have g8 := HH5.out.free (i * 11 + 8)
  clear hA5
  go_region
  have HH6 := Lib.hid (((HH5.out.put Hn.out i 1 hi (by omega) (.int .i64 (now + 1)) ⟨b, now + 1, ends, out, fA, fn, fc, tick, port, oA, on, oc, oer, pr, po⟩ (by rw [HX.out]; rfl)).put2 Hn.out 7 hi (by omega) (.slice A' an c') ⟨b, now + 1, ends, out, fA, fn, fc, tick, port, A', an, c', oer, pr, po⟩ rfl).put2 Hn.out 8 hi (by omega) (.int .i64 err) ⟨b, now + 1, ends, out, fA, fn, fc, tick, port, A', an, c', err, pr, po⟩ rfl).drew
  have HB6 := Lib.hid (((HB5.out.ne (p := ⟨gE, i * 11 + 1, none⟩) hgEs (.int .i64 (now + 1))).ne (p := ⟨gE, i * 11 + 7, none⟩) hgEs (.slice A' an c')).ne (p := ⟨gE, i * 11 + 8, none⟩) hgEs (.int .i64 err)).drew
  have hm : gE ∈ hiL gh (.slice (some ⟨gE, 0, none⟩) n c) := by unfold hiL; simp [Value.ownBlock]
  have HK6 := Lib.hid (((HK5.out.setCell (p := ⟨gE, i * 11 + 1, none⟩) (.inl hm) (.int .i64 (now + 1))).setCell (p := ⟨gE, i * 11 + 7, none⟩) (.inl hm) (.slice A' an c')).setCell (p := ⟨gE, i * 11 + 8, none⟩) (.inl hm) (.int .i64 err)).drew
  have HR6 := Lib.hid (rd_keep HR5.out (bs := [gE]) ((((Keep.refl _ w5).setCell (p := ⟨gE, i * 11 + 1, none⟩) (.inl (by simp)) (.int .i64 (now + 1))).setCell (p := ⟨gE, i * 11 + 7, none⟩) (.inl (by simp)) (.slice A' an c')).setCell (p := ⟨gE, i * 11 + 8, none⟩) (.inl (by simp)) (.int .i64 err)).drew (fun p hp => by have := HP3.out p hp; simp; omega))
  have HK2 := Lib.hid ((((Keep.refl [gE] w5).setCell (p := ⟨gE, i * 11 + 1, none⟩) (.inl (by simp)) (.int .i64 (now + 1))).setCell (p := ⟨gE, i * 11 + 7, none⟩) (.inl (by simp)) (.slice A' an c')).setCell (p := ⟨gE, i * 11 + 8, none⟩) (.inl (by simp)) (.int .i64 err)).drew
  clear z0 z1 z2 y1 y7 y8 g1 g7 g8 HH5 HB5 HK5 HR5 HH4 HB4 HK4 HR4
  rw [show i * 11 + 7 + 1 = i * 11 + 8 from rfl]
  generalize (((w5.setCell ⟨gE, i * 11 + 1, none⟩ (.int .i64 (now + 1))).setCell ⟨gE, i * 11 + 7, none⟩ (.slice A' an c')).setCell ⟨gE, i * 11 + 8, none⟩ (.int .i64 err)).drew = w6 at *
  have hA6 := HH6.at (by rw [List.length_set]; exact Hn.out) i hi
  rw [show ((es.set i ⟨b, now + 1, ends, out, fA, fn, fc, tick, port, A', an, c', err, pr, po⟩).getD i en0) = ⟨b, now + 1, ends, out, fA, fn, fc, tick, port, A', an, c', err, pr, po⟩ by have := Hn.out; simp [List.getD, show i < es.length by omega]] at hA6
  have x3 : w6.cell? ⟨gE, i * 11 + 3, none⟩ = some (.bool out) := hA6.cell' 3 rfl
  have x4 : w6.cell? ⟨gE, i * 11 + 3 + 1, none⟩ = some (.slice fA fn fc) := hA6.cell' 4 rfl
  have x5 : w6.cell? ⟨gE, i * 11 + 3 + 2, none⟩ = some (.int .i64 tick) := hA6.cell' 5 rfl
  have x6 : w6.cell? ⟨gE, i * 11 + 3 + 3, none⟩ = some (.int .i64 port) := hA6.cell' 6 rfl
  have z1 : w6.cell? ⟨w.heap.size, 0, none⟩ = some (.slice A' an c') := HB6.cell 0
  have z2 : w6.cell? ⟨w.heap.size, 1, none⟩ = some (.int .i64 err) := HB6.cell 1
  have hls : gE < w6.heap.size := (own_blk HH6.row (g := gE) rfl).2.1
  have HC7 := Lib.hid (HPO.out w6.drew A' c' HR6.out hc1 HNN.out)
  have H6 := Lib.hid (show HiS w6.drew base gh (now + 1) (.slice (some ⟨gE, 0, none⟩) n c) (es.set i ⟨b, now + 1, ends, out, fA, fn, fc, tick, port, A', an, c', err, pr, po⟩) from HH6.drew)
  have HSZ6 := Lib.hid (show w.heap.size ≤ w6.heap.size from HK6.size)
  have HK6 := Lib.hid (show Keep (hiL gh (.slice (some ⟨gE, 0, none⟩) n c)) w w6 from HK6)
  clear hA6 HH6 HB6 HK2
  go_upto_region 7 with fail
  go_region_law (go_simp; go_at_call 42; refine (HC7.out).mono ?_; rintro ee w7 ⟨rfl, hb7⟩; have y6 := (hb7.cell (p := ⟨gE, i * 11 + 3 + 3, none⟩) hls).trans x6; have g6 := (H6.out.below hb7).free (i * 11 + 3 + 3))
  all_goals
    have HF := Lib.hid (show EdOk base gh gE now n c es i ⟨b, -1, ends, out, fA, fn, fc, tick, port, oA, on, oc, oer, pr, po⟩ aA an az err P w (.returned (.int .i64 0)) (w7.setCell ⟨gE, i * 11 + 6, none⟩ (.int .i64 P)) from
      ⟨rfl, A', c', (H6.out.below hb7).put2 Hn.out 6 hi (by omega) (.int .i64 P) ⟨b, now + 1, ends, out, fA, fn, fc, tick, P, A', an, c', err, pr, po⟩ rfl,
        rd_keep HR6.out (bs := [gE]) (((Keep.refl _ w6).drew.trans (Keep.of_below hb7)).setCell (p := ⟨gE, i * 11 + 6, none⟩) (.inl (by simp)) (.int .i64 P)) (fun p hp => by have := HP3.out p hp; simp; omega),
        hc1, hc2, (fun p hp => by have := HP3.out p hp; omega), HNN.out,
        ((HK6.out.drew).trans (Keep.of_below hb7)).setCell (p := ⟨gE, i * 11 + 6, none⟩) (.inl hm) (.int .i64 P)⟩)
    clear hb7 y6 g6 x3 x4 x5 x6 z1 z2
    rw [show i * 11 + 3 + 3 = i * 11 + 6 from rfl]
    generalize w7.setCell ⟨gE, i * 11 + 6, none⟩ (.int .i64 P) = w8 at *
    go_wp2
    go_ret
    exact HF.out
end Go.Proofs.Ytbnlpidhbilenaa

namespace Go.Proofs.Ytbnlpidhbilenaa
open Go.RowKit Go.Deep Plain
set_option linter.unusedVariables false
set_option linter.unusedSimpArgs false
set_option maxRecDepth 100000
theorem made_en (n : Nat) : madeCells #[.int .i64 0, .int .i64 0, .bool false, .bool false, .slice none 0 0, .int .i64 0, .int .i64 0, .slice none 0 0, .int .i64 0, .int .i64 0, .int .i64 0] (n * 11) = (enC (List.replicate n en0)).toArray := by
  apply Array.ext_getElem?
  intro j
  have hl : (enC (List.replicate n en0)).length = n * 11 := by rw [enC_len, List.length_replicate]
  by_cases hj : j < n * 11
  · have e := enC_at (List.replicate n en0) (j / 11) (j % 11) (by rw [List.length_replicate]; omega) (by omega)
    rw [show j / 11 * 11 + j % 11 = j by omega] at e
    have e2 : (List.replicate n en0).getD (j / 11) en0 = en0 := by simp [List.getD, show j / 11 < n by omega]
    rw [e2] at e
    simp only [List.getElem?_toArray]
    rw [e]
    unfold madeCells
    have hm : j % 11 < 11 := by omega
    simp [hj]
    generalize j % 11 = m at *
    obtain rfl | rfl | rfl | rfl | rfl | rfl | rfl | rfl | rfl | rfl | rfl : m = 0 ∨ m = 1 ∨ m = 2 ∨ m = 3 ∨ m = 4 ∨ m = 5 ∨ m = 6 ∨ m = 7 ∨ m = 8 ∨ m = 9 ∨ m = 10 := by omega
    all_goals rfl
  · rw [Array.getElem?_eq_none (by unfold madeCells; simp; omega), Array.getElem?_eq_none (by simp [hl]; omega)]
theorem run_mkEn (n : Nat) (hn : n ≤ 100000) (w : World) : (Instr.makeSlice 36 (.int .i64 n) (.int .i64 n)).run Try.prog w = .ok (.slice (some ⟨w.heap.size, 0, none⟩) n n) (w.alloc (.cells (enC (List.replicate n en0)).toArray 55)) := by
  obtain ⟨i, hi, hz, hs, hb⟩ := info_parts infoEn
  have h := run_make (P := Try.prog) w 36 55 i _ Try.underlying36 hi hz .i64 .i64 n n (by omega) (by omega) (by rw [hb]; omega) (by omega)
  rw [hs, Int.toNat_natCast, show (Value.agg #[.int .i64 0, .int .i64 0, .bool false, .bool false, .slice none 0 0, .int .i64 0, .int .i64 0, .slice none 0 0, .int .i64 0, .int .i64 0, .int .i64 0]).cells = #[.int .i64 0, .int .i64 0, .bool false, .bool false, .slice none 0 0, .int .i64 0, .int .i64 0, .slice none 0 0, .int .i64 0, .int .i64 0, .int .i64 0] from rfl, made_en] at h
  exact h
theorem enC_put (L : List En) (i : Nat) (y : En) (hi : i < L.length) : (enC L).take (i * 11) ++ y.cs ++ (enC L).drop (i * 11 + 11) = enC (L.set i y) := by
  have h1 : enC L = enC (L.take i) ++ enC (L.drop i) := by
    have q : enC (L.take i ++ L.drop i) = enC (L.take i) ++ enC (L.drop i) := by unfold enC; exact List.flatMap_append
    rw [List.take_append_drop] at q
    exact q
  have h2 : L.drop i = L[i] :: L.drop (i + 1) := List.drop_eq_getElem_cons hi
  have h3 : (enC (L.take i)).length = i * 11 := by rw [enC_len, List.length_take]; congr 1; omega
  have h4 : enC (L.drop i) = (L[i]).cs ++ enC (L.drop (i + 1)) := by rw [h2]; rfl
  have h5 : (enC L).take (i * 11) = enC (L.take i) := by rw [h1, List.take_append_of_le_length (by omega), List.take_of_length_le (by omega)]
  have h6 : (enC L).drop (i * 11 + 11) = enC (L.drop (i + 1)) := by
    rw [h1, h4, ← List.append_assoc, List.drop_append_of_le_length (by rw [List.length_append, h3]; exact Nat.le_refl _), List.drop_of_length_le (by rw [List.length_append, h3]; exact Nat.le_refl _), List.nil_append]
  rw [h5, h6, List.set_eq_take_append_cons_drop, if_pos hi]
  unfold enC
  simp
/-- the frames of an Entry read as these bytes -/
structure FrS (w : World) (x : En) (f a : List Int) : Prop where
  fr : Rd w x.fA f
  fl : f.length = x.fn
  f0 : x.fA = none → x.fc = 0
  fm : x.fn ≤ 1000000
  ar : Rd w x.aA a
  al : a.length = x.an
  a0 : x.aA = none → x.ac = 0
  am : x.an ≤ 1000000
theorem FrS.below {w w' : World} {x : En} {f a : List Int} (h : FrS w x f a) (hb : Below w.heap.size w w') : FrS w' x f a := ⟨h.fr.below hb, h.fl, h.f0, h.fm, h.ar.below hb, h.al, h.a0, h.am⟩
/-- the same Entry, with frames of its own -/
def En.like (x y : En) : Prop := y.b = x.b ∧ y.e = x.e ∧ y.ends = x.ends ∧ y.out = x.out ∧ y.fn = x.fn ∧ y.tick = x.tick ∧ y.port = x.port ∧ y.an = x.an ∧ y.err = x.err ∧ y.pr = x.pr ∧ y.po = x.po
theorem blk_rde {w : World} {g : Nat} {t : TypeId} {L : List En} (h : Blk w g t (enC L).toArray) : RdE w (some ⟨g, 0, none⟩) L := fun hp => ⟨g, 0, rfl, h.lt, fun i hi j v hv => by
  have hj : j < 11 := (List.getElem?_eq_some_iff.1 hv).1
  rw [addr_add, h.cell]
  simp only [List.getElem?_toArray]
  rw [Nat.zero_add, enC_at L i j hi hj, hv]⟩
/-- its frames lie behind a block -/
def NewS (g : Nat) (y : En) : Prop := (∀ p, y.fA = some p → g < p.block) ∧ (∀ p, y.aA = some p → g < p.block)
theorem frs_keep {w w' : World} {x : En} {f a : List Int} {g : Nat} (h : FrS w x f a) (hk : Keep [g] w w') (hn : NewS g x) : FrS w' x f a :=
  ⟨rd_keep h.fr hk (fun p hp => by have := hn.1 p hp; simp; omega), h.fl, h.f0, h.fm, rd_keep h.ar hk (fun p hp => by have := hn.2 p hp; simp; omega), h.al, h.a0, h.am⟩
/-- what All tells: so many Entries as there are, each like its own, in memory of its own -/
def AlOk (n : Nat) (es : List En) (F G : Nat → List Int) (w : World) (e : Ending) (w' : World) : Prop :=
  ∃ A' L, e = .returned (.slice A' n n) ∧ L.length = n ∧ RdE w' A' L ∧ Below w.heap.size w w' ∧ ∀ i, i < n → (es.getD i en0).like (L.getD i en0) ∧ FrS w' (L.getD i en0) (F i) (G i)
/-- the loop: the first k are done -/
def AllR (w0 : World) (gL n : Nat) (es : List En) (F G : Nat → List Int) (k : Nat) (wr : World) : Prop :=
  ∃ L : List En, L.length = n ∧ Blk wr gL 55 (enC L).toArray ∧ Below w0.heap.size w0 wr ∧ ∀ i, i < k → (es.getD i en0).like (L.getD i en0) ∧ FrS wr (L.getD i en0) (F i) (G i) ∧ NewS gL (L.getD i en0)
set_option maxHeartbeats 8000000 in
theorem all_any {w : World} {base gh gE : Nat} {now : Int} {n c : Nat} {es : List En} (h : HiS w base gh now (.slice (some ⟨gE, 0, none⟩) n c) es) (hn : es.length = n) (hl : n ≤ 1000) (F G : Nat → List Int) (hF : ∀ i, i < n → FrS w (es.getD i en0) (F i) (G i)) :
    Calls Try.prog 15 #[.pointer (some ⟨gh, 0, none⟩)] w (AlOk n es F G w) := by
  have hgl := h.st.lt
  have hgE : gE < w.heap.size := (own_blk h.row rfl).2.1
  have hmk := run_mkEn n (by omega) w
  have c1 : w.cell? ⟨gh, 1, none⟩ = some (.slice (some ⟨gE, 0, none⟩) n c) := h.st.cell 1
  have Hn := Lib.hid hn
  have HH := Lib.hid h
  have HFr := Lib.hid hF
  have HR0 := Lib.hid (show AllR w w.heap.size n es F G 0 (w.alloc (.cells (enC (List.replicate n en0)).toArray 55)) from ⟨List.replicate n en0, by simp, Blk.new w _ _, ball w _, fun i hi => absurd hi (by omega)⟩)
  clear h hn hF
  go_enter Try.func15, Try.ntmps15
  go_upto_region 4 with fail
  have c2 : (w.alloc (.cells (enC (List.replicate n en0)).toArray 55)).cell? ⟨gh, 1, none⟩ = some (.slice (some ⟨gE, 0, none⟩) n c) := (World.cell?_alloc_lt w _ ⟨gh, 1, none⟩ hgl).trans c1
  clear hmk
  generalize w.alloc (.cells (enC (List.replicate n en0)).toArray 55) = w1 at *
  obtain ⟨gL, hgL⟩ : ∃ g, g = w.heap.size := ⟨_, rfl⟩
  rw [← hgL] at HR0
  rw [← hgL]
  have HgL := Lib.hid hgL
  clear hgL c1
  go_wp2
  go_loopw [19] (fun s19 wr => ∃ k : Nat, k ≤ n ∧ s19 = .int .i64 k ∧ AllR w gL n es F G k wr) (fun s19 _ => n - (intOf s19).toNat)
  case atStart => exact ⟨0, Nat.zero_le _, rfl, HR0.out⟩
  case round =>
    obtain ⟨k, hk, rfl, hR⟩ := hrel
    have HR := Lib.hid hR
    clear hR
    by_cases hlt : k < n
    · have hbk : decide ((k : Int) < (n : Int)) = true := decide_eq_true (by omega)
      obtain ⟨L, hLl, hLb, hB, hLi⟩ := HR.out
      have HLl := Lib.hid hLl
      have HLi := Lib.hid hLi
      have HB := Lib.hid hB
      have HAx := Lib.hid ((HH.out.at Hn.out k hlt).below hB hgE)
      have HFx := Lib.hid ((HFr.out k hlt).below hB)
      have HX := Lib.hid (show es.getD k en0 = es.getD k en0 from rfl)
      obtain ⟨x, hx⟩ : ∃ x, x = es.getD k en0 := ⟨_, rfl⟩
      rw [← hx] at HAx HFx
      have HX := Lib.hid hx
      have HZ := Lib.hid (Blk.new wr 55 #[.int .i64 0, .int .i64 0, .bool false, .bool false, .slice none 0 0, .int .i64 0, .int .i64 0, .slice none 0 0, .int .i64 0, .int .i64 0, .int .i64 0])
      have HLb := Lib.hid (Blk.alloc hLb (.cells #[.int .i64 0, .int .i64 0, .bool false, .bool false, .slice none 0 0, .int .i64 0, .int .i64 0, .slice none 0 0, .int .i64 0, .int .i64 0, .int .i64 0] 55))
      have hlL := hLb.lt
      have HB1 := Lib.hid (bthen HB.out (ball wr (.cells #[.int .i64 0, .int .i64 0, .bool false, .bool false, .slice none 0 0, .int .i64 0, .int .i64 0, .slice none 0 0, .int .i64 0, .int .i64 0, .int .i64 0] 55)))
      have HS := Lib.hid (show w.heap.size ≤ wr.heap.size from HB.out.size)
      clear hx hB hLi hLl hLb
      obtain ⟨b, e, ends, out, fA, fn, fc, tick, port, aA, an, ac, err, pr, po⟩ := x
      unfold En.cs at HAx
      simp only at HAx
      go_upto_region 7 with (first | ((with_reducible refine gd_ldt 55 22 ?_); refine wpList_ldc rfl 55 (.tmp 22) rfl _ rfl _ (HAx.out) sEn ?_) | ((with_reducible refine gd_st 55 5 ?_); refine wpList_st rfl 55 (.tmp 5) _ rfl _ _ rfl _ rfl (HZ.out) sEn.2 (#[.int .i64 b, .int .i64 e, .bool ends, .bool out, .slice fA fn fc, .int .i64 tick, .int .i64 port, .slice aA an ac, .int .i64 err, .int .i64 pr, .int .i64 po]) rfl (Nat.le_of_ble_eq_true rfl) rfl ?_; intro w4 hb4 hg4 hs4))
      have HKW := Lib.hid (((Keep.refl [gL] wr).alloc (.cells #[.int .i64 0, .int .i64 0, .bool false, .bool false, .slice none 0 0, .int .i64 0, .int .i64 0, .slice none 0 0, .int .i64 0, .int .i64 0, .int .i64 0] 55)).new (Keep.of_grown hg4 (bs := wr.heap.size :: [gL]) (by simp)) (Nat.le_refl _))
      have hsw : w4.heap.size = wr.heap.size + 1 := by rw [hs4, World.size_alloc]
      have HB4 := Lib.hid (bgrown HB1.out hg4 HS.out)
      have HL4 := Lib.hid (Blk.grown HLb.out hg4 (by omega))
      have HK4 := Lib.hid hb4
      have HF4 := Lib.hid (show FrS w4 ⟨b, e, ends, out, fA, fn, fc, tick, port, aA, an, ac, err, pr, po⟩ (F k) (G k) from ((HFr.out k hlt)).below HB4.out |> fun h => by rw [← HX.out] at h; exact h)
      have x4 : w4.cell? ⟨wr.heap.size, 3 + 1, none⟩ = some (.slice fA fn fc) := hb4.cell 4
      have x7 : w4.cell? ⟨wr.heap.size, 7, none⟩ = some (.slice aA an ac) := hb4.cell 7
      have HC1 := Lib.hid (show ∀ W, Below w4.heap.size w4 W → Calls Try.prog 39 #[.slice fA fn fc] W (ClOk fA fn (F k) W) from fun W hW => clone_any fA fn fc (F k) W HF4.out.fl HF4.out.fm (HF4.out.fr.below hW) HF4.out.f0)
      have HC2 := Lib.hid (show ∀ W, Below w4.heap.size w4 W → Calls Try.prog 39 #[.slice aA an ac] W (ClOk aA an (G k) W) from fun W hW => clone_any aA an ac (G k) W HF4.out.al HF4.out.am (HF4.out.ar.below hW) HF4.out.a0)
      clear hb4 hg4 hs4 HZ HB1 HAx HFx HLb
      go_region_law (go_simp; go_at_call 39; first
        | ((with_reducible refine (HC1.out _ (bdrew w4)).mono ?_); rintro ee w5 ⟨fA', fc', rfl, hc1, hc2, hr5, hp5, hnn5, hb5⟩; have x7' := ((HK4.out.drew).below hb5).cell 7)
        | ((with_reducible refine (HC2.out _ (bthen (bdrew w4) hb5)).mono ?_); rintro ee w6 ⟨aA', ac', rfl, hd1, hd2, hr6, hp6, hnn6, hb6⟩; have y4 := (((HK4.out.drew).below hb5).below hb6).cell 4; have g4 := Blk.frozen (((HK4.out.drew).below hb5).below hb6) 4; have y7 := (((HK4.out.drew).below hb5).below hb6).cell 7; have g7 := Blk.frozen (((HK4.out.drew).below hb5).below hb6) 7))
      all_goals
        have hs45 : w4.heap.size ≤ w5.heap.size := hb5.size
        have hs56 : w5.heap.size ≤ w6.heap.size := hb6.size
        have hp5' : ∀ p, fA' = some p → w4.heap.size ≤ p.block := hp5
        have HX8 := Lib.hid (show Blk ((w6.setCell ⟨wr.heap.size, 4, none⟩ (.slice fA' fn fc')).setCell ⟨wr.heap.size, 7, none⟩ (.slice aA' an ac')) wr.heap.size 55 #[.int .i64 b, .int .i64 e, .bool ends, .bool out, .slice fA' fn fc', .int .i64 tick, .int .i64 port, .slice aA' an ac', .int .i64 err, .int .i64 pr, .int .i64 po] from ((((HK4.out.drew).below hb5).below hb6).set 4 (.slice fA' fn fc')).set 7 (.slice aA' an ac'))
        have HL8 := Lib.hid (((((HL4.out.drew).below hb5).below hb6).ne (p := ⟨wr.heap.size, 4, none⟩) (by simp; omega) (.slice fA' fn fc')).ne (p := ⟨wr.heap.size, 7, none⟩) (by simp; omega) (.slice aA' an ac'))
        have HW8 := Lib.hid (show Keep [gL] wr ((w6.setCell ⟨wr.heap.size, 4, none⟩ (.slice fA' fn fc')).setCell ⟨wr.heap.size, 7, none⟩ (.slice aA' an ac')) from
          (((HKW.out.drew.trans (Keep.of_below hb5)).trans (Keep.of_below hb6)).setCell (p := ⟨wr.heap.size, 4, none⟩) (.inr (Nat.le_refl _)) (.slice fA' fn fc')).setCell (p := ⟨wr.heap.size, 7, none⟩) (.inr (Nat.le_refl _)) (.slice aA' an ac'))
        have HR8 := Lib.hid (rd_keep hr5 (bs := [wr.heap.size]) (((Keep.of_below hb6).setCell (p := ⟨wr.heap.size, 4, none⟩) (.inl (by simp)) (.slice fA' fn fc')).setCell (p := ⟨wr.heap.size, 7, none⟩) (.inl (by simp)) (.slice aA' an ac')) (fun p hp => by have := hp5' p hp; simp; omega))
        have HT8 := Lib.hid (rd_keep hr6 (bs := [wr.heap.size]) (((Keep.refl _ w6).setCell (p := ⟨wr.heap.size, 4, none⟩) (.inl (by simp)) (.slice fA' fn fc')).setCell (p := ⟨wr.heap.size, 7, none⟩) (.inl (by simp)) (.slice aA' an ac')) (fun p hp => by have := hp6 p hp; simp; omega))
        have HB8 := Lib.hid (((bthen (bthen HB4.out.drew hb5) hb6).setCell (p := ⟨wr.heap.size, 4, none⟩) (HS.out) (.slice fA' fn fc')).setCell (p := ⟨wr.heap.size, 7, none⟩) (HS.out) (.slice aA' an ac'))
        have HN8 := Lib.hid (show NewS gL ⟨b, e, ends, out, fA', fn, fc', tick, port, aA', an, ac', err, pr, po⟩ from ⟨fun p hp => by have := hp5' p hp; omega, fun p hp => by have := hp6 p hp; omega⟩)
        have HNN5 := Lib.hid hnn5
        have HNN6 := Lib.hid hnn6
        clear x4 x7 x7' y4 g4 y7 g7 hb5 hb6 hr5 hr6 hp5 hp6 hp5' hnn5 hnn6
        go_upto_region 8 with fail
        generalize (w6.setCell ⟨wr.heap.size, 4, none⟩ (.slice fA' fn fc')).setCell ⟨wr.heap.size, 7, none⟩ (.slice aA' an ac') = w8 at *
        have HPut := Lib.hid (enC_put L k ⟨b, e, ends, out, fA', fn, fc', tick, port, aA', an, ac', err, pr, po⟩ (by have := HLl.out; omega))
        go_wp2_with (first | ((with_reducible refine gd_ldt 55 5 ?_); refine wpList_ldw (by rfl) 55 (.tmp 5) rfl _ rfl _ (Blk.at HX8.out) sEn ?_) | ((with_reducible refine gd_st 55 39 ?_); refine wpList_st rfl 55 (.tmp 39) _ rfl gL (k * 11) rfl (.agg #[.int .i64 b, .int .i64 e, .bool ends, .bool out, .slice fA' fn fc', .int .i64 tick, .int .i64 port, .slice aA' an ac', .int .i64 err, .int .i64 pr, .int .i64 po]) rfl (HL8.out) sEn.2 (enC (L.set k ⟨b, e, ends, out, fA', fn, fc', tick, port, aA', an, ac', err, pr, po⟩)).toArray (congrArg List.toArray HPut.out.symm) (by have := HLl.out; have := enC_len L; simp [Value.cells]; omega) rfl ?_; intro w9 hb9 hg9 hs9))
        go_roundw
        case rel =>
          have hk9 : Keep [gL] wr w9 := HW8.out.trans (Keep.of_grown hg9 (by simp))
          refine ⟨k + 1, by omega, by go_num, L.set k ⟨b, e, ends, out, fA', fn, fc', tick, port, aA', an, ac', err, pr, po⟩, by rw [List.length_set]; exact HLl.out, hb9, bgrown HB8.out hg9 (by have := HgL.out; omega), fun i hi => ?_⟩
          by_cases hik : i = k
          · subst hik
            have e : (L.set i ⟨b, e, ends, out, fA', fn, fc', tick, port, aA', an, ac', err, pr, po⟩).getD i en0 = ⟨b, e, ends, out, fA', fn, fc', tick, port, aA', an, ac', err, pr, po⟩ := by have := HLl.out; simp [List.getD, show i < L.length by omega]
            rw [e, ← HX.out]
            refine ⟨⟨rfl, rfl, rfl, rfl, rfl, rfl, rfl, rfl, rfl, rfl, rfl⟩, ⟨?_, HF4.out.fl, ?_, HF4.out.fm, ?_, HF4.out.al, ?_, HF4.out.am⟩, HN8.out⟩
            · exact rd_keep HR8.out (Keep.of_grown hg9 (bs := [gL]) (by simp)) (fun p hp => by have := HN8.out.1 p hp; simp; omega)
            · exact HNN5.out
            · exact rd_keep HT8.out (Keep.of_grown hg9 (bs := [gL]) (by simp)) (fun p hp => by have := HN8.out.2 p hp; simp; omega)
            · exact HNN6.out
          · have e : (L.set k ⟨b, e, ends, out, fA', fn, fc', tick, port, aA', an, ac', err, pr, po⟩).getD i en0 = L.getD i en0 := by simp [List.getD, List.getElem?_set_ne (fun h => hik h.symm)]
            rw [e]
            obtain ⟨h1, h2, h3⟩ := HLi.out i (by omega)
            exact ⟨h1, frs_keep h2 hk9 h3, h3⟩
        case measure => simp [intOf]; omega
    · have hbk : decide ((k : Int) < (n : Int)) = false := decide_eq_false (by omega)
      obtain rfl : k = n := by omega
      obtain ⟨L, hLl, hLb, hB, hLi⟩ := HR.out
      have HF := Lib.hid (show AlOk k es F G w (.returned (.slice (some ⟨gL, 0, none⟩) k k)) wr from ⟨some ⟨gL, 0, none⟩, L, rfl, hLl, blk_rde hLb, hB, fun i hi => ⟨(hLi i hi).1, (hLi i hi).2.1⟩⟩)
      clear hLl hLb hB hLi
      go_wp2
      go_ret
      exact HF.out
end Go.Proofs.Ytbnlpidhbilenaa

namespace Go.Proofs.Ytbnlpidhbilenaa
open Go.RowKit Go.Deep Plain
set_option linter.unusedVariables false
set_option linter.unusedSimpArgs false
set_option maxRecDepth 100000
theorem HiS.form {w : World} {base gh : Nat} {now : Int} {A : Option Addr} {n c : Nat} {es : List En} (h : HiS w base gh now (.slice A n c) es) (hn : es.length = n) : (A = none ∧ n = 0) ∨ ∃ gE, A = Option.some ⟨gE, 0, none⟩ := by
  rcases h.row.2 with ⟨e, e2⟩ | ⟨g, cap, cur, e, _⟩
  · injection e with e
    exact .inl ⟨e, by omega⟩
  · injection e with e
    exact .inr ⟨g, e⟩
set_option maxHeartbeats 4000000 in
theorem all_n0 {w : World} {base gh : Nat} {now : Int} {n c : Nat} {es : List En} (h : HiS w base gh now (.slice none n c) es) (hn : n = 0) (F G : Nat → List Int) :
    Calls Try.prog 15 #[.pointer (some ⟨gh, 0, none⟩)] w (AlOk n es F G w) := by
  have hgl := h.st.lt
  have hmk := run_mkEn n (by omega) w
  have c1 : w.cell? ⟨gh, 1, none⟩ = some (.slice none n c) := h.st.cell 1
  have HR0 := Lib.hid (show AlOk n es F G w (.returned (.slice (some ⟨w.heap.size, 0, none⟩) n n)) (w.alloc (.cells (enC (List.replicate n en0)).toArray 55)) from ⟨some ⟨w.heap.size, 0, none⟩, List.replicate n en0, rfl, by simp, fun hp => absurd hp (by simp [hn]), ball w _, fun i hi => absurd hi (by omega)⟩)
  have HN := Lib.hid hn
  clear h hn
  go_enter Try.func15, Try.ntmps15
  go_upto_region 4 with fail
  have c2 : (w.alloc (.cells (enC (List.replicate n en0)).toArray 55)).cell? ⟨gh, 1, none⟩ = some (.slice none n c) := (World.cell?_alloc_lt w _ ⟨gh, 1, none⟩ hgl).trans c1
  clear hmk
  generalize w.alloc (.cells (enC (List.replicate n en0)).toArray 55) = w1 at *
  clear c1
  go_wp2
  go_loopw [19] (fun s19 wr => ∃ k : Nat, k ≤ n ∧ s19 = .int .i64 k ∧ w1 = wr) (fun s19 _ => n - (intOf s19).toNat)
  case atStart => exact ⟨0, Nat.zero_le _, rfl, rfl⟩
  case round =>
    obtain ⟨k, hk, rfl, rfl⟩ := hrel
    have hn := HN.out
    have hbk : decide ((k : Int) < (n : Int)) = false := decide_eq_false (by omega)
    obtain rfl : k = n := by omega
    clear hn
    go_wp2
    go_ret
    exact HR0.out
theorem all_both {w : World} {base gh : Nat} {now : Int} {A : Option Addr} {n c : Nat} {es : List En} (h : HiS w base gh now (.slice A n c) es) (hn : es.length = n) (hl : n ≤ 1000) (F G : Nat → List Int) (hF : ∀ i, i < n → FrS w (es.getD i en0) (F i) (G i)) :
    Calls Try.prog 15 #[.pointer (some ⟨gh, 0, none⟩)] w (AlOk n es F G w) := by
  rcases h.form hn with ⟨rfl, h0⟩ | ⟨gE, rfl⟩
  · exact all_n0 h h0 F G
  · exact all_any h hn hl F G hF
set_option maxHeartbeats 4000000 in
theorem end_neg {w : World} {base gh : Nat} {now : Int} {v : Value} {es : List En} (h : HiS w base gh now v es) (i : Int) (hi : i < 0) (aA : Option Addr) (an ac : Nat) (err : Int) :
    Calls Try.prog 12 #[.pointer (some ⟨gh, 0, none⟩), .int .i64 i, .agg #[.slice aA an ac, .int .i64 err]] w fun e w' => e = .returned (.int .i64 1) ∧ Below w.heap.size w w' := by
  have HB := Lib.hid (ball w (.cells #[.slice aA an ac, .int .i64 err] 33))
  have b1 : decide (i < 0) = true := decide_eq_true hi
  clear h
  go_enter Try.func12, Try.ntmps12
  go_wp2
  go_ret
  exact ⟨rfl, HB.out⟩
set_option maxHeartbeats 4000000 in
theorem end_far {w : World} {base gh : Nat} {now : Int} {A : Option Addr} {n c : Nat} {es : List En} (h : HiS w base gh now (.slice A n c) es) (i : Int) (h0 : 0 ≤ i) (hi : (n : Int) ≤ i) (aA : Option Addr) (an ac : Nat) (err : Int) :
    Calls Try.prog 12 #[.pointer (some ⟨gh, 0, none⟩), .int .i64 i, .agg #[.slice aA an ac, .int .i64 err]] w fun e w' => e = .returned (.int .i64 1) ∧ Below w.heap.size w w' := by
  have HB := Lib.hid (ball w (.cells #[.slice aA an ac, .int .i64 err] 33))
  have c1 : (w.alloc (.cells #[.slice aA an ac, .int .i64 err] 33)).cell? ⟨gh, 1, none⟩ = some (.slice A n c) := (h.st.alloc _).cell 1
  have b1 : decide (i < 0) = false := decide_eq_false (by omega)
  have b2 : decide ((n : Int) ≤ i) = true := decide_eq_true hi
  clear h
  go_enter Try.func12, Try.ntmps12
  go_wp2
  go_ret
  exact ⟨rfl, HB.out⟩
set_option maxHeartbeats 4000000 in
theorem end_done {w : World} {base gh gE : Nat} {now : Int} {n c : Nat} {es : List En} (h : HiS w base gh now (.slice (some ⟨gE, 0, none⟩) n c) es) (hn : es.length = n) (i : Nat) (hi : i < n) (hx : (es.getD i en0).e ≠ -1) (aA : Option Addr) (an ac : Nat) (err : Int) :
    Calls Try.prog 12 #[.pointer (some ⟨gh, 0, none⟩), .int .i64 i, .agg #[.slice aA an ac, .int .i64 err]] w fun e w' => e = .returned (.int .i64 1) ∧ Below w.heap.size w w' := by
  have hgE : gE < w.heap.size := (own_blk h.row rfl).2.1
  have hAt := h.at hn i hi
  generalize es.getD i en0 = x at *
  have HD := Lib.hid (isDone_any x)
  obtain ⟨b, e, ends, out, fA, fn, fc, tick, port, oA, on, oc, oer, pr, po⟩ := x
  have q : (e != -1) = true := by simpa using hx
  have HQ := Lib.hid q
  clear hx q
  unfold En.val at HD
  unfold En.cs at HD hAt
  simp only at hAt HD
  have hal1 := ball w (.cells #[.slice aA an ac, .int .i64 err] 33)
  have hA1 := hAt.below hal1 hgE
  have c1 : (w.alloc (.cells #[.slice aA an ac, .int .i64 err] 33)).cell? ⟨gh, 1, none⟩ = some (.slice (some ⟨gE, 0, none⟩) n c) := (h.st.alloc _).cell 1
  obtain ⟨w1, hw1⟩ : ∃ w1, w1 = w.alloc (.cells #[.slice aA an ac, .int .i64 err] 33) := ⟨_, rfl⟩
  rw [← hw1] at hal1 hA1 c1
  have HW := Lib.hid hw1
  have HAL := Lib.hid hal1
  have HA1 := Lib.hid hA1
  have b1 : decide ((i : Int) < 0) = false := decide_eq_false (by omega)
  have b2 : decide ((n : Int) ≤ (i : Int)) = false := decide_eq_false (by omega)
  have b2' : decide (n ≤ i) = false := decide_eq_false (by omega)
  clear h hal1 hw1 hn hAt hA1
  go_enter Try.func12, Try.ntmps12
  go_upto_region 1 with fail
  rw [← HW.out]
  go_wp2_with (first | ((with_reducible refine gd_ldt 55 29 ?_); refine wpList_ldw (by rfl) 55 (.tmp 29) rfl _ rfl _ (HA1.out) sEn ?_) | (go_at_call 41; refine (HD.out _).mono ?_; rintro ee w2 ⟨rfl, hx2⟩; rw [HQ.out]; have HX2 := Lib.hid hx2; clear hx2))
  go_ret
  exact ⟨rfl, bthen HAL.out HX2.out⟩
theorem end_no {w : World} {base gh : Nat} {now : Int} {A : Option Addr} {n c : Nat} {es : List En} (h : HiS w base gh now (.slice A n c) es) (hn : es.length = n) (i : Int) (hi : i < 0 ∨ (n : Int) ≤ i ∨ (0 ≤ i ∧ i < n ∧ (es.getD i.toNat en0).e ≠ -1)) (aA : Option Addr) (an ac : Nat) (err : Int) :
    Calls Try.prog 12 #[.pointer (some ⟨gh, 0, none⟩), .int .i64 i, .agg #[.slice aA an ac, .int .i64 err]] w fun e w' => e = .returned (.int .i64 1) ∧ Below w.heap.size w w' := by
  by_cases h0 : i < 0
  · exact end_neg h i h0 aA an ac err
  by_cases h1 : (n : Int) ≤ i
  · exact end_far h i (by omega) h1 aA an ac err
  rcases hi with q | q | ⟨q0, q1, q2⟩
  · omega
  · omega
  · obtain ⟨k, rfl⟩ : ∃ k : Nat, i = k := ⟨i.toNat, by omega⟩
    obtain ⟨gE, rfl⟩ := h.some hn (by omega)
    exact end_done h hn k (by omega) (by simpa using q2) aA an ac err
end Go.Proofs.Ytbnlpidhbilenaa
