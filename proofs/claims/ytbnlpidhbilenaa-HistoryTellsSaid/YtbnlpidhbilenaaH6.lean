/-
  The library's bytes.Clone; package history: New, Now, Begin. Conditions stand in each theorem.
-/
import Derived.Test.YtbnlpidhbilenaaH5
import Derived.Test.YtbnlpidhbilenaaOwn
import Derived.Deep.RegionHeld3
namespace Go.Proofs.Ytbnlpidhbilenaa
open Go.RowKit Go.Deep Plain
set_option linter.unusedVariables false
set_option linter.unusedSimpArgs false
set_option maxRecDepth 100000
/-- a copy of bytes: of none none -/
def ClOk (A : Option Addr) (n : Nat) (zs : List Int) (w : World) (e : Ending) (w' : World) : Prop :=
  ∃ A' c', e = .returned (.slice A' n c') ∧ n ≤ c' ∧ c' ≤ 9223372036854775807 ∧ Rd w' A' zs ∧ (∀ p, A' = some p → w.heap.size ≤ p.block) ∧ (A' = none → c' = 0) ∧ Below w.heap.size w w'
theorem clone_any (A : Option Addr) (n c : Nat) (zs : List Int) (w : World) (hn : zs.length = n) (hl : n ≤ 1000000) (hR : Rd w A zs) (hA : A = none → c = 0) :
    Calls Try.prog 39 #[.slice A n c] w (ClOk A n zs w) := by
  cases A with
  | none =>
    have h0 : n = 0 := by
      rcases Nat.eq_zero_or_pos n with h | h
      · exact h
      · obtain ⟨b, off, q, _⟩ := hR.2 (by omega)
        cases q
    obtain rfl := hA rfl
    subst h0
    obtain rfl : zs = [] := List.length_eq_zero_iff.1 hn
    clear hA
    have hq : ∀ W, (binOp .eql 27 (.slice none 0 0) (.slice none 0 0)).run Try.prog W = .ok (.bool true) W := fun W => by rfl
    go_enter Try.func39, Try.ntmps39
    go_wp2
    go_ret
    exact ⟨none, 0, rfl, Nat.le_refl _, by omega, hR, (fun p h => by cases h), (fun _ => rfl), Below.refl _ _⟩
  | some p =>
    have Hn := Lib.hid hn
    have HR := Lib.hid hR
    clear hn hR hA
    have hq : ∀ W, (binOp .eql 27 (.slice (some p) n c) (.slice none 0 0)).run Try.prog W = .ok (.bool false) W := fun W => by rfl
    go_enter Try.func39, Try.ntmps39
    go_wp2_with (at_builtin; refine wpList_app rfl (.tmp 5) (.tmp 6) rfl rfl (Own.empty w (Nat.le_refl _)) zs rfl (HR.out.alloc _) Hn.out (by omega) (by simp) ?_)
    intro A' c' w1 ho hg hA
    have hb := below_app ((Below.refl _ _).alloc (Nat.le_refl _) _) hg (Own.empty w (Nat.le_refl _)) (Nat.le_refl _) (by simp)
    have Ho := Lib.hid ho
    have Hb := Lib.hid hb
    have HA := Lib.hid hA
    clear ho hg hA hb
    go_wp2
    go_ret
    have h2 : Own w1 w.heap.size A' n c' zs := Ho.out
    refine ⟨A', c', by simp, h2.cap, ?_, h2.rd, fun p hp => ?_, fun h => ?_, Hb.out⟩
    · rcases h2.row.2 with ⟨q, _⟩ | ⟨g, cap, cur, q, _, _, _, hcm, _⟩
      · injection q with q1 q2 q3
        omega
      · injection q with q1 q2 q3
        unfold maxLen at hcm
        omega
    · rcases h2.form with ⟨q, _⟩ | ⟨g, q, hg, _⟩
      · rw [q] at hp; cases hp
      · rw [q] at hp; injection hp with hp; rw [← hp]; exact hg
    · rcases h2.form with ⟨_, _, q⟩ | ⟨g, q, _, _⟩
      · exact q
      · rw [q] at h; cases h
theorem hnew_any (w : World) : Calls Try.prog 16 #[] w fun e w' => e = .returned (.pointer (some ⟨w.heap.size, 0, none⟩)) ∧ HiS w' w.heap.size w.heap.size 0 (.slice none 0 0) [] ∧ Below w.heap.size w w' := by
  have H := Lib.hid (show HiS (w.alloc (.cells #[.int .i64 0, .slice none 0 0] 90)) w.heap.size w.heap.size 0 (.slice none 0 0) [] from ⟨Blk.new w _ _, World.ownsRow_nil _ _ _ _, Nat.le_refl _⟩)
  have HB := Lib.hid (ball w (.cells #[.int .i64 0, .slice none 0 0] 90))
  go_enter Try.func16, Try.ntmps16
  go_wp2
  go_ret
  exact ⟨rfl, H.out, HB.out⟩
theorem hnow_any {w : World} {base gh : Nat} {now : Int} {v : Value} {es : List En} (h : HiS w base gh now v es) : Calls Try.prog 14 #[.pointer (some ⟨gh, 0, none⟩)] w fun e w' => e = .returned (.int .i64 now) ∧ w = w' := by
  have c := h.st.cell 0
  clear h
  go_enter Try.func14, Try.ntmps14
  go_wp2
  go_ret
  exact ⟨rfl, rfl⟩
theorem HiS.drew {w : World} {base gh : Nat} {now : Int} {v : Value} {es : List En} (h : HiS w base gh now v es) : HiS w.drew base gh now v es := ⟨h.st.drew, h.row, h.gb⟩
theorem HiS.keep {w w' : World} {base gh : Nat} {now : Int} {v : Value} {es : List En} {bs : List Nat} (h : HiS w base gh now v es) (hk : Keep bs w w') (h1 : gh ∉ bs) (h2 : ∀ g, v.ownBlock = some g → g ∉ bs) : HiS w' base gh now v es := ⟨hk.blk h.st h1, own_keep h.row hk h2, h.gb⟩
theorem HiS.ne {w : World} {base gh : Nat} {now : Int} {v : Value} {es : List En} (h : HiS w base gh now v es) : v.ownBlock ≠ some gh := fun e1 => by
  obtain ⟨_, _, cur, q⟩ := own_blk h.row e1
  have := h.st
  unfold Blk at this
  rw [this] at q
  injection q with q
  injection q with _ q
  exact absurd q (by decide)
/-- the moment goes on -/
theorem HiS.tick {w : World} {base gh : Nat} {now : Int} {v : Value} {es : List En} (h : HiS w base gh now v es) (x : Int) : HiS (w.setCell ⟨gh, 0, none⟩ (.int .i64 x)) base gh x v es :=
  ⟨h.st.set 0 (.int .i64 x), own_grown h.row (grown_setCell w gh 0 (.int .i64 x)) (fun g1 h1 h2 => by injection h2 with h2; subst h2; exact h.ne h1), h.gb⟩
theorem rd_keep {w w' : World} {A : Option Addr} {zs : List Int} {bs : List Nat} (h : Rd w A zs) (hk : Keep bs w w') (hn : ∀ p, A = some p → p.block ∉ bs) : Rd w' A zs := by
  refine ⟨h.1, fun hp => ?_⟩
  obtain ⟨b, off, e, hc⟩ := h.2 hp
  refine ⟨b, off, e, fun k hkk => ?_⟩
  have q := hc k hkk
  have hb : b < w.heap.size := block_lt_of_cell q
  rw [← q]
  exact hk.cell (p := ⟨b, off + k, none⟩) hb (hn ⟨b, off, none⟩ e)
/-- what Begin makes of it -/
def BgOk (base gh : Nat) (now : Int) (A : Option Addr) (n c : Nat) (es : List En) (out : Bool) (tick port : Int) (fA : Option Addr) (fn : Nat) (zs : List Int) (w : World) (e : Ending) (w' : World) : Prop :=
  e = .returned (.int .i64 n) ∧ ∃ A' c' fA' fc', HiS w' base gh (now + 1) (.slice A' (n + 1) c') (es ++ [⟨now + 1, -1, false, out, fA', fn, fc', tick, port, none, 0, 0, 0, 0, 0⟩]) ∧ Rd w' fA' zs ∧ fn ≤ fc' ∧ fc' ≤ 9223372036854775807 ∧
    (∀ p, fA' = some p → w.heap.size ≤ p.block) ∧ (fA' = none → fc' = 0) ∧ Keep (hiL gh (.slice A n c)) w w' ∧
    ((Value.slice A n c).ownBlock = (Value.slice A' (n + 1) c').ownBlock ∨ ∀ g, (Value.slice A' (n + 1) c').ownBlock = some g → w.heap.size ≤ g)
set_option maxHeartbeats 4000000 in
theorem begin_any {w : World} {base gh : Nat} {now : Int} {A : Option Addr} {n c : Nat} {es : List En} (h : HiS w base gh now (.slice A n c) es) (hn : es.length = n) (hl : n ≤ 1000) (n0 : 0 ≤ now) (n1 : now ≤ 100000) (out : Bool) (tick port : Int)
    (fA : Option Addr) (fn fc : Nat) (zs : List Int) (hz : zs.length = fn) (hfl : fn ≤ 1000000) (hR : Rd w fA zs) (hA : fA = none → fc = 0) :
    Calls Try.prog 11 #[.pointer (some ⟨gh, 0, none⟩), .agg #[.bool out, .slice fA fn fc, .int .i64 tick, .int .i64 port]] w (BgOk base gh now A n c es out tick port fA fn zs w) := by
  have hgl := h.st.lt
  have hal := ball w (.cells #[.bool out, .slice fA fn fc, .int .i64 tick, .int .i64 port] 29)
  have hx := Blk.new w 29 #[.bool out, .slice fA fn fc, .int .i64 tick, .int .i64 port]
  have HNL := Lib.hid (show ∀ g, (Value.slice A n c).ownBlock = some g → g < w.heap.size from fun g hg => (own_blk h.row hg).2.1)
  have HCl := Lib.hid (clone_any fA fn fc zs (w.alloc (.cells #[.bool out, .slice fA fn fc, .int .i64 tick, .int .i64 port] 29)) hz hfl (hR.alloc _) hA)
  have h1 := h.below hal
  obtain ⟨w1, hw1⟩ : ∃ w1, w1 = w.alloc (.cells #[.bool out, .slice fA fn fc, .int .i64 tick, .int .i64 port] 29) := ⟨_, rfl⟩
  rw [← hw1] at HCl h1 hx hal
  have HW := Lib.hid hw1
  have HAL := Lib.hid hal
  have H1 := Lib.hid h1
  have HX := Lib.hid hx
  have Hn := Lib.hid hn
  have q1 : w1.cell? ⟨w.heap.size, 1, none⟩ = some (.slice fA fn fc) := hx.cell 1
  clear h hal h1 hx hw1 hz hR hA hn
  go_enter Try.func11, Try.ntmps11
  go_upto_region 3 with fail
  rw [← HW.out]
  go_upto_region 4 with (go_at_call 39; refine (HCl.out).mono ?_; rintro ee w2 ⟨fA', fc', rfl, hc1, hc2, hr2, hp2, hnn2, hb2⟩; have f1 := Blk.frozen (HX.out.below hb2) 1; have q2 := Blk.cell (HX.out.below hb2) 1)
  have hxc : Blk (w2.setCell ⟨w.heap.size, 1, none⟩ (.slice fA' fn fc')) w.heap.size 29 #[.bool out, .slice fA' fn fc', .int .i64 tick, .int .i64 port] := (HX.out.below hb2).set 1 (.slice fA' fn fc')
  have HSZ := Lib.hid (show w.heap.size ≤ w2.heap.size from Nat.le_trans HAL.out.size hb2.size)
  have hh3 : HiS (w2.setCell ⟨w.heap.size, 1, none⟩ (.slice fA' fn fc')) base gh now (.slice A n c) es := (H1.out.below hb2).keep (bs := [w.heap.size]) ((Keep.refl _ w2).setCell (.inl (by simp)) _) (by simp; omega) (fun g hg => by have := HNL.out g hg; simp; omega)
  have hk3 : Keep (hiL gh (.slice A n c)) w (w2.setCell ⟨w.heap.size, 1, none⟩ (.slice fA' fn fc')) := ((Keep.of_below HAL.out).trans (Keep.of_below (hb2.mono (Nat.le_refl _)))).setCell (.inr (Nat.le_refl _)) _
  have HR4 := Lib.hid (show Rd ((w2.setCell ⟨w.heap.size, 1, none⟩ (.slice fA' fn fc')).setCell ⟨gh, 0, none⟩ (.int .i64 (now + 1))) fA' zs from
    rd_keep hr2 (bs := [w.heap.size, gh]) (((Keep.refl _ w2).setCell (p := ⟨w.heap.size, 1, none⟩) (.inl (by simp)) (.slice fA' fn fc')) |>.setCell (p := ⟨gh, 0, none⟩) (.inl (by simp)) (.int .i64 (now + 1))) (fun p hp => by
      have q := hp2 p hp
      rw [HW.out, World.size_alloc] at q
      simp
      omega))
  clear f1 q2 q1
  generalize w2.setCell ⟨w.heap.size, 1, none⟩ (.slice fA' fn fc') = w3 at *
  have c0 : w3.cell? ⟨gh, 0, none⟩ = some (.int .i64 now) := hh3.st.cell 0
  have f0 : w3.frozen? ⟨gh, 0, none⟩ = false := Blk.frozen hh3.st 0
  have hne2 : gh ≠ w.heap.size := by omega
  have HH4 := Lib.hid (hh3.tick (now + 1))
  have HX4 := Lib.hid (hxc.ne (p := ⟨gh, 0, none⟩) hne2 (.int .i64 (now + 1)))
  have HK4 := Lib.hid (hk3.setCell (p := ⟨gh, 0, none⟩) (.inl (by unfold hiL; simp)) (.int .i64 (now + 1)))
  have HP := Lib.hid hp2
  have HNN := Lib.hid hnn2
  clear hh3 hk3 hxc hp2 hnn2 hr2 hb2 HCl HX H1 HAL
  go_upto_region 5 with fail
  generalize w3.setCell ⟨gh, 0, none⟩ (.int .i64 (now + 1)) = w4 at *
  clear c0 f0
  have q0 : w4.cell? ⟨w.heap.size, 0, none⟩ = some (.bool out) := HX4.out.cell 0
  have q1 : w4.cell? ⟨w.heap.size, 1, none⟩ = some (.slice fA' fn fc') := HX4.out.cell 1
  have q2 : w4.cell? ⟨w.heap.size, 2, none⟩ = some (.int .i64 tick) := HX4.out.cell 2
  have q3 : w4.cell? ⟨w.heap.size, 3, none⟩ = some (.int .i64 port) := HX4.out.cell 3
  have c0 : w4.cell? ⟨gh, 0, none⟩ = some (.int .i64 (now + 1)) := HH4.out.st.cell 0
  have HN := Lib.hid (note_any HH4.out.drew Hn.out (by omega) ⟨now + 1, -1, false, out, fA', fn, fc', tick, port, none, 0, 0, 0, 0, 0⟩)
  unfold En.val En.cs at HN
  go_region_law (go_simp; go_at_call 40; refine (HN.out).mono ?_; rintro ee w5 ⟨rfl, A', c', hh5, hk5, ho5⟩)
  all_goals
    have hsz5 := hk5.size
    have hsz4 : w.heap.size ≤ w4.heap.size := HK4.out.size
    have HF := Lib.hid (show BgOk base gh now A n c es out tick port fA fn zs w (.returned (.int .i64 n)) w5 from ⟨rfl, A', c', fA', fc', hh5,
      rd_keep (show Rd w4.drew fA' zs from HR4.out) hk5 (fun p hp => by
        have q := HP.out p hp
        rw [HW.out, World.size_alloc] at q
        intro hm
        unfold hiL at hm
        rcases List.mem_cons.1 hm with hm | hm
        · omega
        · rw [Option.mem_toList] at hm
          have := HNL.out _ hm
          omega),
      hc1, hc2, (fun p hp => by
        have q := HP.out p hp
        rw [HW.out, World.size_alloc] at q
        omega), HNN.out, (HK4.out.drew).trans hk5, by
        rcases ho5 with q | q
        · exact .inl q
        · exact .inr fun g hg => Nat.le_trans hsz4 (q g hg)⟩)
    clear hh5 hk5 ho5 hsz5 hsz4 q0 q1 q2 q3 c0 HN HP HNN HR4 HH4 HX4 HK4
    go_wp2
    go_ret
    exact HF.out
end Go.Proofs.Ytbnlpidhbilenaa
