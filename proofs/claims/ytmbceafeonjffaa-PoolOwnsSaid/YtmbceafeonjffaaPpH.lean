/-
  law08: few, run. Conditions stand in each theorem.
-/
import Derived.Test.YtmbceafeonjffaaPpG
import Derived.Maps.AppendAt
namespace Go.Proofs.Ytmbceafeonjffaa
open Go.RowKit Go.Deep Plain
set_option linter.unusedVariables false
set_option linter.unusedSimpArgs false
set_option maxRecDepth 100000
theorem own0I {w : World} {g : Nat} (hb : Blk w g 3 #[]) : w.ownsRow g 3 1 (.slice (some ⟨g, 0, none⟩) 0 0) 0 (iv []) :=
  ⟨rfl, Or.inr ⟨g, 0, #[], rfl, Nat.le_refl _, hb, Nat.le_refl _, Nat.zero_le _, rfl, rfl⟩⟩
/-- many are appended to a row of none -/
theorem wpList_app0I {w : World} {g : Nat} {ops : Array Oper} {rest : List Oper} {o : Oper} {a : Act} {Q : Exit → Act → World → Prop} (hgd : o.guard = none) (s x : Operand)
    (ho : o.op = .call { callee := .builtin .append, args := #[s, x], argTypes := #[29, 29] })
    (hs : a.eval s = .slice (some ⟨g, 0, none⟩) 0 0) (hb : Blk w g 3 #[]) {B : Option Addr} {m d : Nat} (ys : List Int) (hx : a.eval x = .slice B m d) (hR : RdI w B ys) (hm : ys.length = m) (hl : m ≤ 1000000)
    (h : ∀ A' c' w', RdI w' A' ys → Keep [g] w w' → wpList Try.prog ops Q rest (a.put o.dst (.slice A' m c')) w') : wpList Try.prog ops Q (o :: rest) a w := by
  obtain ⟨i, hi, hz, hsz, hby⟩ := info_parts infoInt
  rcases B with _ | ad
  · have hm0 : ys = [] := by
      rcases Nat.eq_zero_or_pos ys.length with h0 | h0
      · exact List.length_eq_zero_iff.1 h0
      · obtain ⟨_, _, h, _⟩ := hR h0
        cases h
    subst hm0
    have hm0 : m = 0 := by simpa using hm.symm
    subst hm0
    by_cases hd : d = 0
    · subst hd
      refine wpList_append_own_none hgd s x 29 ho g 3 i 1 Try.underlying29 hi _ 0 (iv []) hs (own0I hb) hx ?_
      exact h (some ⟨g, 0, none⟩) 0 w (fun h => absurd h (by simp)) (Keep.refl _ _)
    · refine wpList_plain hgd fun K hK => ?_
      unfold Oper.wp execOp
      have hrun : (Builtin.append_ #[29, 29] o.type #[.slice (some ⟨g, 0, none⟩) 0 0, .slice none 0 d]).run Try.prog w = .ok (.slice (some ⟨g, 0, none⟩) 0 0) w := by
        simp [Builtin.append_, run_underlying Try.underlying29, sizeOf, typeInfo, hi, Builtin.lenOf, Builtin.firstCells, storeCells]
      simp only [ho, resolve, invoke, builtin, Sem.run_bind, Sem.run_pure, Result.andThen_ok, List.map_toArray, List.map_cons, List.map_nil, hs, hx, hrun]
      exact hK _ _ (h (some ⟨g, 0, none⟩) 0 w (fun h => absurd h (by simp)) (Keep.refl _ _))
  · have hcells : ∀ j u, (iv ys)[j]? = some u → w.cell? (ad.add j) = some u := by
      intro j u hu
      have hj : j < ys.length := by have := (List.getElem?_eq_some_iff.1 hu).1; simpa [iv] using this
      obtain ⟨b, off, e, _, hc⟩ := hR (by omega)
      injection e with e
      subst e
      rw [addr_add, hc j hj, ← hu]
      simp [iv, hj, List.getD]
    refine wpList_append_own_at w hgd s x 29 ho g 3 i (.int .i64 0) 1 8 Try.underlying29 hi hz hsz hby rfl (by decide) _ 0 (iv []) hs (own0I hb) ad m d (iv ys) hx (by simpa [iv] using hm) hcells (by intro u hu; obtain ⟨x, _, rfl⟩ := List.mem_map.1 hu; rfl) (by unfold maxLen; omega) (by omega) (Nat.le_of_lt hb.lt) ?_
    intro v' w' how hg hnil hat
    rw [Nat.zero_add] at how
    have hk : Keep [g] w w' := Keep.of_grownO hg (fun g1 h1 => by cases h1; simp)
    rcases how.2 with ⟨e, hn0⟩ | ⟨g', cap, cur, e, hb', hh, hnc, hcm, hcs, htk⟩
    · subst e
      have hn : m = 0 := by simpa using hn0
      subst hn
      have hm0 : ys = [] := List.length_eq_zero_iff.1 hm
      subst hm0
      exact h none 0 w' (fun h => absurd h (by simp)) hk
    · subst e
      refine h (some ⟨g', 0, none⟩) cap w' (fun hp => ?_) hk
      have hblk : Blk w' g' 3 cur := hh
      refine ⟨g', 0, rfl, hblk.lt, fun k hk' => ?_⟩
      rw [Nat.zero_add, hblk.cell k]
      rw [Nat.mul_one] at htk
      have h3 : (cur.toList.take m)[k]? = (iv ([] ++ ys))[k]? := by rw [htk]; simp [iv]
      rw [List.getElem?_take_of_lt (by omega)] at h3
      have h4 : (iv ([] ++ ys))[k]? = some (.int .i64 (ys.getD k 0)) := by simp [iv, hk', List.getD]
      rw [h4] at h3
      simpa using h3
set_option maxHeartbeats 4000000 in
theorem few_any {w : World} {A : Option Addr} {len cap : Nat} {zs : List Int} (hr : RdI w A zs) (hl : zs.length = len) (hc : len ≤ cap) (hm : cap ≤ maxLen) :
    Calls Try.prog 18 #[.slice A len cap] w fun e w' => ∃ A' m c', e = .returned (.slice A' m c') ∧ RdI w' A' (zs.take 40) ∧ (zs.take 40).length = m ∧ m ≤ 40 ∧ Below w.heap.size w w' := by
  obtain ⟨k, hk⟩ : ∃ k : Nat, min (len : Int) 40 = (k : Int) := ⟨min len 40, by omega⟩
  have hkl : (zs.take 40).length = k := by rw [List.length_take]; omega
  have hR : RdI w A (zs.take 40) := fun hp => by
    rw [List.length_take] at hp
    obtain ⟨b, off, e, hb, hcc⟩ := hr (by omega)
    refine ⟨b, off, e, hb, fun j hj => ?_⟩
    rw [List.length_take] at hj
    rw [hcc j (by omega)]
    simp [List.getD, List.getElem?_take_of_lt (show j < 40 by omega)]
  have hal := ball w (.cells #[] 3)
  have HR := Lib.hid (hR.below hal)
  have HB := Lib.hid hal
  have HE := Lib.hid (Blk.new w 3 #[])
  have HKL := Lib.hid hkl
  have hk40 : k ≤ 40 := by omega
  have hkc : k ≤ cap := by omega
  clear hr hR hkl hal
  go_enter Try.func18, Try.ntmps18
  go_wp2_with (at_builtin; refine wpList_app0I rfl (.tmp 3) (.tmp 8) rfl rfl (HE.out) (zs.take 40) rfl (HR.out) (HKL.out) (by omega) ?_; intro A' c' w' hr' hk'; have HR1 := Lib.hid hr'; have HK1 := Lib.hid hk'; clear hr' hk')
  go_ret
  exact ⟨A', k, c', rfl, HR1.out, HKL.out, hk40, HK1.out.below HB.out (Nat.le_refl _) (fun x hx => by rw [List.mem_singleton] at hx; omega)⟩
/-- many steps alone -/
def itP (n : Nat) (l : List Int) (s : Ps) : Nat → List Int × Ps
  | 0 => (l, s)
  | k + 1 => stpP n (itP n l s k).1 (itP n l s k).2
/-- what run tells -/
def RunOk (n gp gc gn gs : Nat) (size : Int) (l : List Int) (s : Ps) (w : World) (e : Ending) (w' : World) : Prop :=
  ∃ k, k ≤ 299 ∧ PoS w' gp gc gn n size (itP n l s k).1 ∧ StW w' gs gc n (itP n l s k).2 ∧ Keep [gn, gs] w w' ∧ (∀ j, 0 < j → j < k → (itP n l s j).2.nx ≠ 0) ∧ ((1 ≤ k ∧ (itP n l s k).2.nx = 0 ∧ e = .returned (.int .i64 k)) ∨ (k = 299 ∧ (itP n l s k).2.nx ≠ 0 ∧ e = .returned (.int .i64 (-1))))
def RunR (n gp gc gn gs : Nat) (size : Int) (l : List Int) (s : Ps) (w : World) (s5 : Value) (wr : World) : Prop :=
  ∃ k : Nat, k ≤ 299 ∧ s5 = .int .i64 ((k + 1 : Nat) : Int) ∧ PoS wr gp gc gn n size (itP n l s k).1 ∧ StW wr gs gc n (itP n l s k).2 ∧ Keep [gn, gs] w wr ∧ (∀ j, 0 < j → j ≤ k → (itP n l s j).2.nx ≠ 0)
set_option maxHeartbeats 4000000 in
theorem run8_any {w : World} {gp gc gn n gs : Nat} {size : Int} {l : List Int} {s : Ps} (hp : PoS w gp gc gn n size l) (hs : StW w gs gc n s) (hn : n ≤ 32) :
    Calls Try.prog 17 #[.pointer (some ⟨gp, 0, none⟩), .pointer (some ⟨gs, 0, none⟩)] w (RunOk n gp gc gn gs size l s w) := by
  have HP := Lib.hid hp
  have HS := Lib.hid hs
  clear hp hs
  go_enter Try.func17, Try.ntmps17
  go_wp2
  go_loopw [5] (fun s5 wr => RunR n gp gc gn gs size l s w s5 wr) (fun s5 _ => 300 - (intOf s5).toNat)
  case atStart => exact ⟨0, by omega, rfl, HP.out, HS.out, Keep.refl _ _, fun j h1 h2 => by omega⟩
  case round =>
    obtain ⟨k, hk, rfl, hp, hs, hkp, hnd⟩ := hrel
    have HD := Lib.hid (pDo_any hp hs hn)
    have HP1 := Lib.hid hp
    have HS1 := Lib.hid hs
    have HKP := Lib.hid hkp
    have HND := Lib.hid hnd
    have HIT := Lib.hid (show itP n l s (k + 1) = stpP n (itP n l s k).1 (itP n l s k).2 from rfl)
    clear hp hs hkp hnd HP HS
    by_cases hlt : k < 299
    · have d : decide (((k + 1 : Nat) : Int) < 300) = true := decide_eq_true (by omega)
      have d' : decide ((k : Int) + 1 < 300) = true := decide_eq_true (by omega)
      by_cases hx : (stpP n (itP n l s k).1 (itP n l s k).2).2.nx = 0
      · have HX := Lib.hid hx
        have HD1 := HD.out
        rw [decide_eq_true hx] at HD1
        have HDD := Lib.hid HD1
        clear hx HD HD1
        go_wp2_with (go_at_call 14; refine (HDD.out).mono ?_; rintro e w2 ⟨rfl, h2, s2, k2⟩; have H2 := Lib.hid h2; have S2 := Lib.hid s2; have K2 := Lib.hid k2; clear h2 s2 k2)
        refine bodyPost_ret (v := .int .i64 ((k : Int) + 1)) (by first | rfl | kernel_rfl | (simp [results, go_sem]; done)) rfl ?_
        exact ⟨k + 1, by omega, by rw [HIT.out]; exact H2.out, by rw [HIT.out]; exact S2.out, HKP.out.trans K2.out, fun j h1 h2 => HND.out j h1 (by omega), .inl ⟨by omega, by rw [HIT.out]; exact HX.out, rfl⟩⟩
      · have HX := Lib.hid hx
        have HD1 := HD.out
        rw [decide_eq_false hx] at HD1
        have HDD := Lib.hid HD1
        clear hx HD HD1
        go_wp2_with (go_at_call 14; refine (HDD.out).mono ?_; rintro e w2 ⟨rfl, h2, s2, k2⟩; have H2 := Lib.hid h2; have S2 := Lib.hid s2; have K2 := Lib.hid k2; clear h2 s2 k2)
        go_roundw
        case rel => exact ⟨k + 1, by omega, by go_num, by rw [HIT.out]; exact H2.out, by rw [HIT.out]; exact S2.out, HKP.out.trans K2.out, fun j h1 h2 => by
          by_cases e : j = k + 1
          · subst e; rw [HIT.out]; exact HX.out
          · exact HND.out j h1 (by omega)⟩
        case measure => simp [intOf]; omega
    · obtain rfl : k = 299 := by omega
      go_wp2
      go_ret
      exact ⟨299, by omega, HP1.out, HS1.out, HKP.out, fun j h1 h2 => HND.out j h1 (by omega), .inr ⟨rfl, HND.out 299 (by omega) (by omega), rfl⟩⟩
end Go.Proofs.Ytmbceafeonjffaa
