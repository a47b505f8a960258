/-
  Several small texts in one: CaD, CaE, CaF. Conditions stand in each theorem.
-/
import Derived.Test.YtmbceafeonjffaaGM
import Derived.Test.YtmbceafeonjffaaPpI
import Derived.Test.YtmbceafeonjffaaPpD
import Derived.Test.YtmbceafeonjffaaGL
namespace Go.Proofs.Ytmbceafeonjffaa
open Go.RowKit Go.Deep Plain
set_option linter.unusedVariables false
set_option linter.unusedSimpArgs false
set_option maxRecDepth 100000
abbrev ptP (o : Option Nat) : Value := .pointer (o.map fun g => ⟨g, 0, none⟩)
/-- a Cache: its struct in block ga, its numbers a row of its own, what goes back in block bk -/
structure CaS (w : World) (ga gp : Nat) (home : Nat) (A : Option Addr) (n c : Nat) (zs : List Int) (bk : Option Nat) (base : Nat) : Prop where
  st : Blk w ga 87 #[.pointer (some ⟨gp, 0, none⟩), .int .i64 home, .slice A n c, ptP bk]
  row : OwJ base w A n c zs
section
variable {w w' : World} {ga gp home n c base : Nat} {A : Option Addr} {zs : List Int} {bk : Option Nat}
theorem CaS.below (h : CaS w ga gp home A n c zs bk base) (hb : Below w.heap.size w w') : CaS w' ga gp home A n c zs bk base := ⟨h.st.below hb, h.row.below hb⟩
theorem CaS.drewN (h : CaS w ga gp home A n c zs bk base) (q : Nat) : CaS (w.drewN q) ga gp home A n c zs bk base := h.below (bdrewN w q)
theorem CaS.keep {bs : List Nat} (h : CaS w ga gp home A n c zs bk base) (hk : Keep bs w w') (h1 : ga ∉ bs) (h2 : ∀ g, (Value.slice A n c).ownBlock = some g → g ∉ bs) : CaS w' ga gp home A n c zs bk base := ⟨hk.blk h.st h1, h.row.keep hk h2⟩
theorem CaS.c0 (h : CaS w ga gp home A n c zs bk base) : w.cell? ⟨ga, 0, none⟩ = some (.pointer (some ⟨gp, 0, none⟩)) := h.st.cell 0
theorem CaS.c1 (h : CaS w ga gp home A n c zs bk base) : w.cell? ⟨ga, 1, none⟩ = some (.int .i64 home) := h.st.cell 1
theorem CaS.c2 (h : CaS w ga gp home A n c zs bk base) : w.cell? ⟨ga, 2, none⟩ = some (.slice A n c) := h.st.cell 2
theorem CaS.c3 (h : CaS w ga gp home A n c zs bk base) : w.cell? ⟨ga, 3, none⟩ = some (ptP bk) := h.st.cell 3
theorem CaS.free (h : CaS w ga gp home A n c zs bk base) (i : Nat) : w.frozen? ⟨ga, i, none⟩ = false := h.st.frozen i
/-- its row lies in no block of another type -/
theorem CaS.rowne (h : CaS w ga gp home A n c zs bk base) {b : Nat} {t : TypeId} {cs : Array Value} (hb : Blk w b t cs) (ht : t ≠ 3) : ∀ g, (Value.slice A n c).ownBlock = some g → g ≠ b := fun g hg e => by
  obtain ⟨_, _, cur, q⟩ := own_blk h.row hg
  subst e
  exact blkT hb (show Blk w g 3 cur from q) ht rfl
end
theorem wordOf_any {w : World} {gp gc gn n : Nat} {size : Int} {l : List Int} (h : PoS w gp gc gn n size l) (h1 : 1 ≤ n) (hn : n ≤ 32) (home : Int) :
    Calls Try.prog 54 #[.pointer (some ⟨gp, 0, none⟩), .int .i64 home] w fun e w' => ∃ K : Nat, K < n ∧ (∀ k : Nat, k < 1000000 → home = k → K = k % n) ∧ e = .returned (.int .i64 K) ∧ Below w.heap.size w w' := by
  obtain ⟨K, hK, hKl⟩ := pickN home (n : Int) (by omega) (by omega)
  have hKx : ∀ k : Nat, k < 1000000 → home = k → K = k % n := fun k hk e => by
    subst e
    have e1 : IntKind.u64.wrap (k : Int) = (k : Int) := by rw [IntKind.wrap_u64]; omega
    rw [e1, Int.tmod_eq_emod_of_nonneg (by omega)] at hK
    have e2 : ((k : Int) % (n : Int)) = ((k % n : Nat) : Int) := by simp
    have e3 : k % n < n := Nat.mod_lt _ (by omega)
    rw [e2] at hK
    generalize k % n = r at *
    unfold wrap64 at hK
    omega
  have HKX := Lib.hid hKx
  clear hKx
  have HCP := Lib.hid (pcopy_any8 h (by omega))
  have hw : IntKind.u64.wrap (n : Int) = (n : Int) := by rw [IntKind.wrap_u64]; omega
  have hnz : (n : Int) ≠ 0 := by omega
  have hnz' : n ≠ 0 := by omega
  have hnp : (0 : Int) < (n : Int) := by omega
  have d : ((n : Int) == 0) = false := by simp; omega
  clear h
  go_enter Try.func54, Try.ntmps54
  go_wp2_with (go_at_call 22; refine (HCP.out).mono ?_; rintro e w1 ⟨rfl, _, hb⟩; have HB := Lib.hid hb; clear hb)
  go_ret
  exact ⟨K, by omega, HKX.out, retP hK, HB.out⟩
theorem cnew_any {w : World} {gp gc gn n : Nat} {size : Int} {l : List Int} (h : PoS w gp gc gn n size l) (h1 : 1 ≤ n) (hn : n ≤ 32) (home : Int) :
    Calls Try.prog 24 #[.pointer (some ⟨gp, 0, none⟩), .int .i64 home] w fun e w' => ∃ ga K : Nat, w.heap.size ≤ ga ∧ K < n ∧ (∀ k : Nat, k < 1000000 → home = k → K = k % n) ∧ e = .returned (.tuple #[.pointer (some ⟨ga, 0, none⟩), .int .i64 0]) ∧ (∀ base, CaS w' ga gp K none 0 0 [] none base) ∧ Below w.heap.size w w' := by
  have HWO := Lib.hid (wordOf_any h h1 hn home)
  clear h
  go_enter Try.func24, Try.ntmps24
  go_wp2_with (go_at_call 54; refine (HWO.out).mono ?_; rintro e w1 ⟨K, hK, hKx, rfl, hb⟩; have HB := Lib.hid hb; have HKX := Lib.hid hKx; clear hb hKx)
  go_ret2
  exact ⟨w1.heap.size, K, HB.out.size, hK, HKX.out, rfl, fun base => ⟨Blk.new w1 _ _, OwJ.nil _ _⟩, bthen HB.out (ball w1 _)⟩
end Go.Proofs.Ytmbceafeonjffaa

namespace Go.Proofs.Ytmbceafeonjffaa
open Go.RowKit Go.Deep Plain
set_option linter.unusedVariables false
set_option linter.unusedSimpArgs false
set_option maxRecDepth 100000
/-- the newest number -/
def topF (zs : List Int) : Int := zs.getD (zs.length - 1) 0
section
variable {w w' : World} {ga gp home n c base : Nat} {A : Option Addr} {zs : List Int} {bk : Option Nat}
theorem OwJ.off (h : OwJ base w A n c zs) {b : Nat} {t : TypeId} {cs : Array Value} (hb : Blk w b t cs) (ht : t ≠ 3) : ∀ g, (Value.slice A n c).ownBlock = some g → g ∉ [b] := fun g hg e => by
  rw [List.mem_singleton] at e
  obtain ⟨_, _, cur, q⟩ := own_blk h hg
  subst e
  exact blkT hb (show Blk w g 3 cur from q) ht rfl
/-- another row in its place -/
theorem CaS.putR (h : CaS w ga gp home A n c zs bk base) {A' : Option Addr} {n' c' : Nat} {zs' : List Int} (hr : OwJ base w A' n' c' zs') : CaS (w.setCell ⟨ga, 2, none⟩ (.slice A' n' c')) ga gp home A' n' c' zs' bk base :=
  ⟨h.st.set 2 (.slice A' n' c'), hr.keep ((Keep.refl [ga] w).setCell (p := ⟨ga, 2, none⟩) (.inl (by simp)) _) (hr.off h.st (by decide))⟩
theorem CaS.putB (h : CaS w ga gp home A n c zs bk base) (o : Option Nat) : CaS (w.setCell ⟨ga, 3, none⟩ (ptP o)) ga gp home A n c zs o base :=
  ⟨h.st.set 3 (ptP o), h.row.keep ((Keep.refl [ga] w).setCell (p := ⟨ga, 3, none⟩) (.inl (by simp)) _) (h.row.off h.st (by decide))⟩
theorem CaS.putH (h : CaS w ga gp home A n c zs bk base) (k : Nat) : CaS (w.setCell ⟨ga, 1, none⟩ (.int .i64 k)) ga gp k A n c zs bk base :=
  ⟨h.st.set 1 (.int .i64 k), h.row.keep ((Keep.refl [ga] w).setCell (p := ⟨ga, 1, none⟩) (.inl (by simp)) _) (h.row.off h.st (by decide))⟩
theorem retT {k : IntKind} {a b : Int} {p q : Bool} (h : a = b) (h2 : p = q) : Ending.returned (.tuple #[.int k a, .bool p]) = .returned (.tuple #[.int k b, .bool q]) := by rw [h, h2]
set_option maxHeartbeats 4000000 in
theorem top_any (h : CaS w ga gp home A n c zs bk base) (hn : n ≤ 100000) :
    Calls Try.prog 53 #[.pointer (some ⟨ga, 0, none⟩)] w fun e w' => e = .returned (.tuple #[.int .i64 (topF zs), .bool (decide (0 < n))]) ∧ ∃ m, w' = w.drewN m := by
  have c2 := h.c2
  have hl := h.row.len
  by_cases h0 : n = 0
  · have d : ((n : Int) == 0) = true := by simp [h0]
    have HT := Lib.hid (show topF zs = 0 ∧ decide (0 < n) = false by
      have : zs = [] := List.length_eq_zero_iff.1 (by omega)
      rw [this]
      exact ⟨rfl, by simp [h0]⟩)
    clear h h0
    go_enter Try.func53, Try.ntmps53
    go_wp2
    go_ret2
    rw [HT.out.1, HT.out.2]
    exact ⟨rfl, 0, rfl⟩
  · have d : ((n : Int) == 0) = false := by simp [h0]
    obtain ⟨g, off, rfl, hg, hc⟩ := h.row.rd.rd (by omega)
    have hoff : off = 0 := by
      rcases h.row.shape with ⟨e, _⟩ | ⟨g', cur, e, _⟩
      · cases e
      · injection e with e; injection e
    subst hoff
    obtain ⟨m, hm⟩ : ∃ m, n = m + 1 := ⟨n - 1, by omega⟩
    have p0 : w.cell? ⟨g, m, none⟩ = some (.int .i64 (topF zs)) := by
      have := hc m (by omega)
      rw [Nat.zero_add] at this
      rw [this]
      unfold topF
      rw [hl, hm, Nat.add_sub_cancel]
    have HD := Lib.hid (show decide (0 < n) = true from decide_eq_true (by omega))
    have e1 : (n : Int) - 1 = (m : Int) := by omega
    have i1 : (m : Int) < (n : Int) := by omega
    have i2 : m < n := by omega
    clear h h0 hc hm hl
    generalize topF zs = t at *
    go_enter Try.func53, Try.ntmps53
    go_upto_region 3 with fail
    go_quiet (fail)
    go_wp2
    go_ret2
    rw [HD.out]
    exact ⟨rfl, nq, rfl⟩
set_option maxHeartbeats 4000000 in
theorem pop_any (h : CaS w ga gp home A n c zs bk base) (hn : n ≤ 100000) :
    Calls Try.prog 27 #[.pointer (some ⟨ga, 0, none⟩)] w fun e w' => e = .returned (.tuple #[.int .i64 (topF zs), .bool (decide (0 < n))]) ∧ CaS w' ga gp home A (n - 1) c (zs.take (n - 1)) bk base ∧ Keep [ga] w w' := by
  have HT := Lib.hid (top_any h hn)
  have HC := Lib.hid h
  have hl := h.row.len
  have hnc := h.row.nc
  generalize topF zs = t at *
  by_cases h0 : n = 0
  · have HD := Lib.hid (show decide (0 < n) = false by simp [h0])
    have HT2 := HT.out
    rw [HD.out] at HT2
    have HT3 := Lib.hid HT2
    have HZ := Lib.hid (show zs.take (n - 1) = zs ∧ n - 1 = n by
      have : zs = [] := List.length_eq_zero_iff.1 (by omega)
      rw [this]
      exact ⟨by simp, by omega⟩)
    clear h h0 HT HT2
    go_enter Try.func27, Try.ntmps27
    go_wp2_with (go_at_call 53; refine (HT3.out).mono ?_; rintro e w1 ⟨rfl, m, rfl⟩)
    go_ret2
    rw [HD.out, HZ.out.1, HZ.out.2]
    exact ⟨rfl, HC.out.drewN _, (Keep.refl [ga] w).drewN _⟩
  · have HD := Lib.hid (show decide (0 < n) = true from decide_eq_true (by omega))
    have HT2 := HT.out
    rw [HD.out] at HT2
    have HT3 := Lib.hid HT2
    obtain ⟨m, hm⟩ : ∃ m, n = m + 1 := ⟨n - 1, by omega⟩
    have HL := Lib.hid (h.row.less (show n - 1 ≤ n by omega))
    have e1 : (n : Int) - 1 = (m : Int) := by omega
    have HM := Lib.hid (show n - 1 = m by omega)
    have i1 : (m : Int) ≤ (c : Int) := by omega
    have i2 : m ≤ c := by omega
    clear h h0 HT HT2 hm
    go_enter Try.func27, Try.ntmps27
    go_upto_region 3 with (go_at_call 53; refine (HT3.out).mono ?_; rintro e w1 ⟨rfl, q, rfl⟩)
    have HC1 := Lib.hid (HC.out.drewN q)
    have HL1 := Lib.hid (HL.out.below (bdrewN w q))
    have HK1 := Lib.hid ((Keep.refl [ga] w).drewN q)
    clear HC HL
    generalize w.drewN q = w1 at *
    have c2 := HC1.out.c2
    have f2 := HC1.out.free 2
    go_region
    have HC2 := Lib.hid ((HC1.out.putR HL1.out).below (bdrew _))
    have HK2 := Lib.hid ((HK1.out.setCell (p := ⟨ga, 2, none⟩) (.inl (by simp)) (.slice A (n - 1) c)).drew)
    rw [HM.out] at HC2 HK2
    clear c2 f2 HC1 HL1 HK1
    generalize (w1.setCell ⟨ga, 2, none⟩ (.slice A m c)).drew = w5 at *
    go_wp2
    go_ret2
    rw [HD.out, HM.out]
    exact ⟨rfl, HC2.out, HK2.out⟩
set_option maxHeartbeats 4000000 in
theorem all_any (h : CaS w ga gp home A n c zs bk base) (hn : n ≤ 100000) :
    Calls Try.prog 35 #[.pointer (some ⟨ga, 0, none⟩)] w fun e w' => ∃ A' c', e = .returned (.slice A' n c') ∧ RdJ w' A' n c' zs ∧ Below w.heap.size w w' := by
  have c2 := h.c2
  have HCL := Lib.hid (clone_any h.row.rd (by omega))
  clear h
  go_enter Try.func35, Try.ntmps35
  go_wp2_with (go_at_call 57; refine (HCL.out).mono ?_; rintro e w1 ⟨A', c', rfl, hr, hb⟩; have HR := Lib.hid hr; have HB := Lib.hid hb; clear hr hb)
  go_ret
  exact ⟨A', c', rfl, HR.out, HB.out⟩
/-- what goes back -/
def bkF (bk : Option (Nat × Ps)) : List Int := match bk with
  | some p => leftF p.2.gi
  | none => []
set_option maxHeartbeats 4000000 in
theorem leaving_none (h : CaS w ga gp home A n c zs none base) :
    Calls Try.prog 37 #[.pointer (some ⟨ga, 0, none⟩)] w fun e w' => e = .returned (.slice none 0 0) ∧ w = w' := by
  have c3 : w.cell? ⟨ga, 3, none⟩ = some (.pointer none) := h.c3
  clear h
  go_enter Try.func37, Try.ntmps37
  go_wp2_with (go_at_call 13; refine (left_nil _).mono ?_; rintro e w1 ⟨rfl, rfl⟩)
  go_ret
  exact ⟨rfl, rfl⟩
set_option maxHeartbeats 4000000 in
theorem leaving_some {gb gc N : Nat} {s : Ps} (h : CaS w ga gp home A n c zs (some gb) base) (hs : StW w gb gc N s) (hN : N ≤ 32) :
    Calls Try.prog 37 #[.pointer (some ⟨ga, 0, none⟩)] w (RowOk (leftF s.gi) w) := by
  have c3 : w.cell? ⟨ga, 3, none⟩ = some (.pointer (some ⟨gb, 0, none⟩)) := h.c3
  have HL := Lib.hid (left_any hs hN)
  clear h hs
  go_enter Try.func37, Try.ntmps37
  go_wp2_with (go_at_call 13; refine (HL.out).mono ?_; rintro e w1 ⟨A', m, c', rfl, ho, hb⟩; have HO := Lib.hid ho; have HB := Lib.hid hb; clear ho hb)
  go_ret
  exact ⟨A', m, c', rfl, HO.out, HB.out⟩
end
end Go.Proofs.Ytmbceafeonjffaa

namespace Go.Proofs.Ytmbceafeonjffaa
open Go.RowKit Go.Deep Plain
set_option linter.unusedVariables false
set_option linter.unusedSimpArgs false
set_option maxRecDepth 100000
/-- a Step of a cache -/
def CsB (w : World) (gt : Nat) (ca ps : Option Nat) : Prop := Blk w gt 89 #[ptP ca, ptP ps]
section
variable {w w' : World} {ga gp gc gn N home n c base : Nat} {A : Option Addr} {zs : List Int} {bk : Option Nat} {size : Int} {l : List Int}
theorem CaS.of_put {v : Value} (st : Blk w ga 87 #[.pointer (some ⟨gp, 0, none⟩), .int .i64 home, v, ptP bk]) {A' : Option Addr} {n' c' : Nat} {zs' : List Int} (hr : OwJ base w A' n' c' zs') : CaS (w.setCell ⟨ga, 2, none⟩ (.slice A' n' c')) ga gp home A' n' c' zs' bk base :=
  ⟨st.set 2 (.slice A' n' c'), hr.keep ((Keep.refl [ga] w).setCell (p := ⟨ga, 2, none⟩) (.inl (by simp)) _) (hr.off st (by decide))⟩
theorem ownLs_blk (h : OwJ base w A n c zs) : ∀ g ∈ ownLs (.slice A n c), ∃ cs, Blk w g 3 cs := fun g hg => by
  unfold ownLs at hg
  split at hg
  · rename_i b hb
    obtain rfl : g = b := by simpa using hg
    obtain ⟨_, _, cur, q⟩ := own_blk h hb
    exact ⟨cur, q⟩
  · simp at hg
/-- a block of another type is not in such a row -/
theorem OwJ.out (h : OwJ base w A n c zs) {b : Nat} {t : TypeId} {cs : Array Value} (hb : Blk w b t cs) (ht : t ≠ 3) : b ∉ ownLs (.slice A n c) := fun hm => by
  obtain ⟨cur, q⟩ := ownLs_blk h b hm
  exact blkT hb q ht rfl
theorem StW.row {gb N : Nat} {s : Ps} (hs : StW w gb gc N s) (h : OwJ base w A n c zs) (hk : Keep (ownLs (.slice A n c)) w w') : StW w' gb gc N s :=
  hs.keep hk (fun hm => by obtain ⟨cur, q⟩ := ownLs_blk h gb hm; exact hs.typ q (by decide) rfl) (fun g hg => by obtain ⟨cur, q⟩ := ownLs_blk h g hg; exact NoG.typ q (by decide))
theorem StW.one {gb N b : Nat} {s : Ps} {t : TypeId} {cs : Array Value} (hs : StW w gb gc N s) (hb : Blk w b t cs) (h1 : t ≠ 78) (h2 : t ≠ 81) (hk : Keep [b] w w') : StW w' gb gc N s :=
  hs.keep hk (by simpa using fun e => hs.typ hb h1 e.symm) (fun g hg => by rw [List.mem_singleton] at hg; rw [hg]; exact NoG.typ hb h2)
/-- nothing goes back -/
def RestOk (ga : Nat) (w : World) (e : Ending) (w' : World) : Prop := ∃ gt, e = .returned (.pointer (some ⟨gt, 0, none⟩)) ∧ w.heap.size ≤ gt ∧ CsB w' gt (some ga) none ∧ Below w.heap.size w w'
set_option maxHeartbeats 4000000 in
theorem leave_rest (h : CaS w ga gp home A n c zs bk base) (m : Nat) (hm : bk ≠ none ∨ m = 0) :
    Calls Try.prog 56 #[.pointer (some ⟨ga, 0, none⟩), .int .i64 m] w (RestOk ga w) := by
  have c3 := h.c3
  clear h
  have hb := ball w (.cells #[.pointer (some ⟨ga, 0, none⟩), .pointer none] 89)
  have HB := Lib.hid hb
  have HS := Lib.hid (show CsB (w.alloc (.cells #[.pointer (some ⟨ga, 0, none⟩), .pointer none] 89)) w.heap.size (some ga) none from Blk.new w _ _)
  clear hb
  rcases bk with _ | gb
  · have hm0 : m = 0 := by rcases hm with q | q; exact absurd rfl q; exact q
    subst hm0
    clear hm
    go_enter Try.func56, Try.ntmps56
    go_wp2
    go_ret
    exact ⟨w.heap.size, rfl, Nat.le_refl _, HS.out, HB.out⟩
  · clear hm
    go_enter Try.func56, Try.ntmps56
    go_wp2
    go_ret
    exact ⟨w.heap.size, rfl, Nat.le_refl _, HS.out, HB.out⟩
/-- some go back -/
def LeaveOk (ga gp gc gn N home : Nat) (size : Int) (A : Option Addr) (n c : Nat) (zs : List Int) (base m : Nat) (w : World) (e : Ending) (w' : World) : Prop :=
  ∃ gt gb, e = .returned (.pointer (some ⟨gt, 0, none⟩)) ∧ w.heap.size ≤ gt ∧ w.heap.size ≤ gb ∧ CsB w' gt (some ga) (some gb) ∧ CaS w' ga gp home A (n - m) c (zs.drop m) (some gb) base ∧ StW w' gb gc N (backP (giftsF size (zs.take m))) ∧ Keep (ga :: ownLs (.slice A n c)) w w'
set_option maxHeartbeats 8000000 in
theorem leave_some (h : CaS w ga gp home A n c zs none base) (hp : PoS w gp gc gn N size l) (h1 : 1 ≤ N) (hN : N ≤ 32) (hs : size ≤ 32 * (N : Int)) (hn : n ≤ 100000) (m : Nat) (hm0 : 0 < m) (hm : m ≤ n) :
    Calls Try.prog 56 #[.pointer (some ⟨ga, 0, none⟩), .int .i64 m] w (LeaveOk ga gp gc gn N home size A n c zs base m w) := by
  have c3 : w.cell? ⟨ga, 3, none⟩ = some (.pointer none) := h.c3
  have c0 := h.c0
  have c2 := h.c2
  have hnc := h.row.nc
  have hr := h.row.rd.less hm
  have hrl := hr.len
  have HBK := Lib.hid (fun q => pBack_any (cap := c) (hp.drewN q) h1 hN hs (hr.rd.below (bdrewN w q)) hrl (by omega))
  have d : ((m : Int) == 0) = false := by simp; omega
  have i1 : (m : Int) ≤ (c : Int) := by omega
  have i2 : m ≤ c := by omega
  have hgl := h.st.lt
  have HC := Lib.hid h
  have f3 := h.free 3
  clear h hr hrl hp
  go_enter Try.func56, Try.ntmps56
  go_upto_region 3 with fail
  go_region_held3 (fun W => W.cell? ⟨ga, 0, none⟩ = some (.pointer (some ⟨gp, 0, none⟩)) ∧ W.cell? ⟨ga, 2, none⟩ = some (.slice A n c))
    (first | assumption | (exact ⟨c0, c2⟩) | (exact ⟨k0, k2⟩) | (refine ⟨(World.cell?_setCell_other _ _ _ _ ?_).trans k0, (World.cell?_setCell_other _ _ _ _ ?_).trans k2⟩ <;> (simp <;> omega)) | go_keep)
    (first | (go_at_call 12; refine (HBK.out 1).mono ?_; rintro e w2 ⟨gb, rfl, hgb, hsb, hb⟩; have k0 := (hb.cell (p := ⟨ga, 0, none⟩) hgl).trans c0; have k2 := (hb.cell (p := ⟨ga, 2, none⟩) hgl).trans c2; have k3 := (hb.cell (p := ⟨ga, 3, none⟩) hgl).trans c3; have hf3 := (HC.out.below (bthen (bdrewN w 1) hb)).free 3; have HSB := Lib.hid hsb; have HB := Lib.hid hb; clear hsb hb))
  have HC3 := Lib.hid (HC.out.below (bthen (bdrewN w 1) HB.out))
  have HB3 := Lib.hid (bthen (bdrewN w 1) HB.out)
  have hgbw : w.heap.size ≤ gb := hgb
  have HC4 := Lib.hid (HC3.out.putB (some gb))
  have HK4 := Lib.hid ((Keep.of_below (bs := ga :: ownLs (.slice A n c)) HB3.out).setCell (p := ⟨ga, 3, none⟩) (.inl (by simp)) (ptP (some gb)))
  have HS4 := Lib.hid (HSB.out.one HC3.out.st (by decide) (by decide) ((Keep.refl [ga] w2).setCell (p := ⟨ga, 3, none⟩) (.inl (by simp)) (ptP (some gb))))
  clear k0 k2 k3 hf3 HC3 HB3 HSB HB HC c0 c2 c3 f3 HBK
  have hpt : (Value.pointer (some ⟨gb, 0, none⟩)) = ptP (some gb) := rfl
  rw [hpt]
  generalize w2.setCell ⟨ga, 3, none⟩ (ptP (some gb)) = w3 at *
  have c2 := HC4.out.c2
  have HDE := Lib.hid (delI_any A n c m zs hn hm HC4.out.row)
  go_upto_region 5 with (go_at_call 69; refine (HDE.out).mono ?_; rintro e w5 ⟨rfl, hr5, hk5⟩; have hst5 := hk5.blk HC4.out.st (HC4.out.row.out HC4.out.st (by decide)); have f5 : w5.frozen? ⟨ga, 2, none⟩ = false := hst5.frozen 2; have k5 : w5.cell? ⟨ga, 2, none⟩ = some (.slice A n c) := hst5.cell 2; have HC6 := Lib.hid (CaS.of_put hst5 hr5); have HS6 := Lib.hid ((HS4.out.row HC4.out.row hk5).one hst5 (by decide) (by decide) ((Keep.refl [ga] w5).setCell (p := ⟨ga, 2, none⟩) (.inl (by simp)) (.slice A (n - m) c))); have HK6 := Lib.hid ((HK4.out.trans (hk5.mono (fun x hx => List.mem_cons_of_mem _ hx))).setCell (p := ⟨ga, 2, none⟩) (.inl (by simp)) (.slice A (n - m) c)); clear hr5 hk5 hst5)
  clear c2 k5 f5 HDE HC4 HS4 HK4
  generalize w5.setCell ⟨ga, 2, none⟩ (.slice A (n - m) c) = w6 at *
  have c3 : w6.cell? ⟨ga, 3, none⟩ = some (.pointer (some ⟨gb, 0, none⟩)) := HC6.out.c3
  have hb := ball w6 (.cells #[.pointer (some ⟨ga, 0, none⟩), .pointer (some ⟨gb, 0, none⟩)] 89)
  have HC7 := Lib.hid (HC6.out.below hb)
  have HS7 := Lib.hid (HS6.out.below hb)
  have HK7 := Lib.hid (HK6.out.trans (Keep.of_below hb))
  have HT := Lib.hid (show CsB (w6.alloc (.cells #[.pointer (some ⟨ga, 0, none⟩), .pointer (some ⟨gb, 0, none⟩)] 89)) w6.heap.size (some ga) (some gb) from Blk.new w6 _ _)
  have hz6 : w.heap.size ≤ w6.heap.size := HK6.out.size
  clear hb
  go_wp2
  go_ret
  exact ⟨w6.heap.size, gb, rfl, hz6, hgbw, HT.out, HC7.out, HS7.out, HK7.out⟩
end
end Go.Proofs.Ytmbceafeonjffaa
