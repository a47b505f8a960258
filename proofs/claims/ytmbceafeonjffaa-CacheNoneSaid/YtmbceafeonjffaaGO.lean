/-
  Several small texts in one: CaG, CaH. Conditions stand in each theorem.
-/
import Derived.Test.YtmbceafeonjffaaGN
namespace Go.Proofs.Ytmbceafeonjffaa
open Go.RowKit Go.Deep Plain
set_option linter.unusedVariables false
set_option linter.unusedSimpArgs false
set_option maxRecDepth 100000
section
variable {w w' : World} {ga gp gc gn N home n c base : Nat} {A : Option Addr} {zs : List Int} {bk : Option Nat} {size : Int} {l : List Int}
theorem PoS.rowK (hp : PoS w gp gc gn N size l) (h : OwJ base w A n c zs) (hk : Keep (ownLs (.slice A n c)) w w') : PoS w' gp gc gn N size l :=
  hp.keep hk (h.out hp.ps (by decide)) (h.out hp.cl.st (by decide)) (h.out hp.cl.nu (by decide))
theorem PoS.oneK (hp : PoS w gp gc gn N size l) {b : Nat} {t : TypeId} {cs : Array Value} (hb : Blk w b t cs) (h1 : t ≠ 73) (h2 : t ≠ 104) (h3 : t ≠ 108) (hk : Keep [b] w w') : PoS w' gp gc gn N size l :=
  hp.keep hk (by simpa using fun e => blkT hb hp.ps h1 e.symm) (by simpa using fun e => blkT hb hp.cl.st h2 e.symm) (by simpa using fun e => blkT hb hp.cl.nu h3 e.symm)
/-- what Put and Flush tell: the first m of zs2 go back, if none do -/
def MvOk (ga gp gc gn N home : Nat) (size : Int) (A : Option Addr) (n c : Nat) (zs2 : List Int) (m : Nat) (bk : Option Nat) (base : Nat) (w : World) (e : Ending) (w' : World) : Prop :=
  ∃ gt A' c' n', e = .returned (.pointer (some ⟨gt, 0, none⟩)) ∧ w.heap.size ≤ gt ∧ Keep (ga :: ownLs (.slice A n c)) w w' ∧ (∀ g, (Value.slice A' n' c').ownBlock = some g → (Value.slice A n c).ownBlock = some g ∨ w.heap.size ≤ g) ∧
    (((bk ≠ none ∨ m = 0) ∧ CsB w' gt (some ga) none ∧ CaS w' ga gp home A' n' c' zs2 bk base) ∨
     (bk = none ∧ 0 < m ∧ ∃ gb, w.heap.size ≤ gb ∧ CsB w' gt (some ga) (some gb) ∧ CaS w' ga gp home A' n' c' (zs2.drop m) (some gb) base ∧ StW w' gb gc N (backP (giftsF size (zs2.take m)))))
/-- leave, whatever stands there -/
theorem leave_any (h : CaS w ga gp home A n c zs bk base) (hp : PoS w gp gc gn N size l) (h1 : 1 ≤ N) (hN : N ≤ 32) (hs : size ≤ 32 * (N : Int)) (hn : n ≤ 100000) (m : Nat) (hm : m ≤ n) :
    Calls Try.prog 56 #[.pointer (some ⟨ga, 0, none⟩), .int .i64 m] w (MvOk ga gp gc gn N home size A n c zs m bk base w) := by
  by_cases q : bk ≠ none ∨ m = 0
  · refine (leave_rest h m q).mono ?_
    rintro e w' ⟨gt, rfl, hgt, hs, hb⟩
    exact ⟨gt, A, c, n, rfl, hgt, Keep.of_below hb, fun g hg => .inl hg, .inl ⟨q, hs, h.below hb⟩⟩
  · have hb : bk = none := Classical.byContradiction fun z => q (.inl z)
    have hm0 : 0 < m := Nat.pos_of_ne_zero fun z => q (.inr z)
    subst hb
    refine (leave_some h hp h1 hN hs hn m hm0 hm).mono ?_
    rintro e w' ⟨gt, gb, rfl, hgt, hgb, hs, hc, hst, hk⟩
    refine ⟨gt, A, c, n - m, rfl, hgt, hk, fun g hg => .inl ?_, .inr ⟨rfl, hm0, gb, hgb, hs, hc, hst⟩⟩
    cases A <;> exact hg
set_option maxHeartbeats 8000000 in
theorem put_any (h : CaS w ga gp home A n c zs bk base) (hp : PoS w gp gc gn N size l) (h1 : 1 ≤ N) (hN : N ≤ 32) (hs : size ≤ 32 * (N : Int)) (hn : n ≤ 10000) (hbase : base ≤ w.heap.size) (x : Int) :
    Calls Try.prog 28 #[.pointer (some ⟨ga, 0, none⟩), .int .i64 x] w (MvOk ga gp gc gn N home size A n c (zs ++ [x]) (if n + 1 ≤ 16 then 0 else 8) bk base w) := by
  have c2 := h.c2
  have f2 := h.free 2
  have HC := Lib.hid h
  have HP := Lib.hid hp
  clear h hp
  go_enter Try.func28, Try.ntmps28
  go_upto_region 4 with (at_builtin; refine wpList_addJ rfl (.tmp 11) (.tmp 13) rfl rfl (HC.out.row) (show Below base w w from Below.refl _ _) hbase x (by omega) _ rfl rfl ?_; intro A2 c2' w2 hI' hB' hK' hown; have hst := (hK'.blk HC.out.st (HC.out.row.out HC.out.st (by decide))); have k2 : w2.cell? ⟨ga, 2, none⟩ = some (.slice A n c) := hst.cell 2; have f2' : w2.frozen? ⟨ga, 2, none⟩ = false := hst.frozen 2; have HI := Lib.hid hI'; have HK := Lib.hid hK'; have HOW := Lib.hid hown; have HST := Lib.hid hst; clear hI' hB' hK' hown hst)
  have HC3 := Lib.hid (CaS.of_put HST.out HI.out)
  have hk3 := (Keep.refl [ga] w2).setCell (p := ⟨ga, 2, none⟩) (.inl (by simp)) (.slice A2 (n + 1) c2')
  have HP3 := Lib.hid ((HP.out.rowK HC.out.row HK.out).oneK HST.out (by decide) (by decide) (by decide) hk3)
  have HK3 := Lib.hid ((HK.out.mono (cs := ga :: ownLs (.slice A n c)) (fun y hy => List.mem_cons_of_mem _ hy)).trans (hk3.mono (cs := ga :: ownLs (.slice A n c)) (by simp)))
  clear k2 f2' c2 f2 hk3 HST HK HI
  generalize w2.setCell ⟨ga, 2, none⟩ (.slice A2 (n + 1) c2') = w3 at *
  have c2 := HC3.out.c2
  have hz : w.heap.size ≤ w3.heap.size := HK3.out.size
  have HLV := Lib.hid (leave_any HC3.out HP3.out h1 hN hs (by omega) 8)
  by_cases h16 : n + 1 ≤ 16
  · have d : decide ((n : Int) + 1 ≤ 16) = true := decide_eq_true (by omega)
    have hb := ball w3 (.cells #[.pointer (some ⟨ga, 0, none⟩), .pointer none] 89)
    have HT := Lib.hid (show CsB (w3.alloc (.cells #[.pointer (some ⟨ga, 0, none⟩), .pointer none] 89)) w3.heap.size (some ga) none from Blk.new w3 _ _)
    have HC4 := Lib.hid (HC3.out.below hb)
    have HK4 := Lib.hid (HK3.out.trans (Keep.of_below hb))
    have HM := Lib.hid (show (if n + 1 ≤ 16 then 0 else 8) = 0 from if_pos h16)
    clear hb
    go_wp2
    go_ret
    exact ⟨w3.heap.size, A2, c2', n + 1, rfl, hz, HK4.out, HOW.out, .inl ⟨.inr rfl, HT.out, HC4.out⟩⟩
  · have d : decide ((n : Int) + 1 ≤ 16) = false := decide_eq_false (by omega)
    have HM := Lib.hid (show (if n + 1 ≤ 16 then 0 else 8) = 8 from if_neg h16)
    have HL2 := Lib.hid (HLV.out (by omega))
    go_wp2_with (go_at_call 56; refine (HL2.out).mono ?_; rintro e w4 hmv; obtain ⟨gt, A', c', n', rfl, hgt, hk, how, hcase⟩ := hmv; have HGT := Lib.hid hgt; have HKL := Lib.hid hk; have HOL := Lib.hid how; have HCA := Lib.hid hcase; clear hgt hk how hcase)
    go_ret
    refine ⟨gt, A', c', n', rfl, Nat.le_trans hz HGT.out, ⟨HKL.out.os.trans HK3.out.os, HKL.out.tape.trans HK3.out.tape, HKL.out.output.trans HK3.out.output, Nat.le_trans HK3.out.size HKL.out.size, fun b hb hn => (HKL.out.block b (Nat.lt_of_lt_of_le hb HK3.out.size) (fun hm => ?_)).trans (HK3.out.block b hb hn)⟩, fun g hg => ?_, ?_⟩
    · rcases List.mem_cons.1 hm with q | q
      · exact hn (by rw [q]; simp)
      · unfold ownLs at q
        split at q
        · rename_i z hz2
          obtain rfl : b = z := by simpa using q
          rcases HOW.out b hz2 with r | r
          · exact hn (List.mem_cons_of_mem _ (by unfold ownLs; rw [r]; simp))
          · omega
        · simp at q
    · rcases HOL.out g hg with q | q
      · exact HOW.out g q
      · right; omega
    · rcases HCA.out with ⟨q1, q2, q3⟩ | ⟨q1, q2, gb, q3, q4, q5, q6⟩
      · exact .inl ⟨q1, q2, q3⟩
      · exact .inr ⟨q1, q2, gb, Nat.le_trans hz q3, q4, q5, q6⟩
set_option maxHeartbeats 8000000 in
theorem flush_any (h : CaS w ga gp home A n c zs bk base) (hp : PoS w gp gc gn N size l) (h1 : 1 ≤ N) (hN : N ≤ 32) (hs : size ≤ 32 * (N : Int)) (hn : n ≤ 10000) :
    Calls Try.prog 29 #[.pointer (some ⟨ga, 0, none⟩)] w (MvOk ga gp gc gn N home size A n c zs n bk base w) := by
  have c2 := h.c2
  have HL := Lib.hid (leave_any h hp h1 hN hs (by omega) n (Nat.le_refl _))
  clear h hp
  go_enter Try.func29, Try.ntmps29
  go_wp2_with (go_at_call 56; refine (HL.out).mono ?_; rintro e w4 hmv; obtain ⟨gt, A', c', n', rfl, hgt, hk, how, hcase⟩ := hmv; have HGT := Lib.hid hgt; have HKL := Lib.hid hk; have HOL := Lib.hid how; have HCA := Lib.hid hcase; clear hgt hk how hcase)
  go_ret
  exact ⟨gt, A', c', n', rfl, HGT.out, HKL.out, HOL.out, HCA.out⟩
end
end Go.Proofs.Ytmbceafeonjffaa

namespace Go.Proofs.Ytmbceafeonjffaa
open Go.RowKit Go.Deep Plain
set_option linter.unusedVariables false
set_option linter.unusedSimpArgs false
set_option maxRecDepth 100000
section
variable {w w' : World} {ga gp gc gn N home n c base : Nat} {A : Option Addr} {zs : List Int} {bk : Option Nat} {size : Int} {l : List Int}
set_option maxHeartbeats 4000000 in
theorem fill_rest (h : CaS w ga gp home A n c zs bk base) (hm : bk ≠ none ∨ 0 < n) :
    Calls Try.prog 26 #[.pointer (some ⟨ga, 0, none⟩)] w (RestOk ga w) := by
  have c3 := h.c3
  have c2 := h.c2
  clear h
  have hb := ball w (.cells #[.pointer (some ⟨ga, 0, none⟩), .pointer none] 89)
  have HB := Lib.hid hb
  have HS := Lib.hid (show CsB (w.alloc (.cells #[.pointer (some ⟨ga, 0, none⟩), .pointer none] 89)) w.heap.size (some ga) none from Blk.new w _ _)
  clear hb
  by_cases h0 : 0 < n
  · have d : decide ((0 : Int) < (n : Int)) = true := decide_eq_true (by omega)
    have d' : decide (0 < n) = true := decide_eq_true h0
    clear hm
    go_enter Try.func26, Try.ntmps26
    go_wp2
    go_ret
    exact ⟨w.heap.size, rfl, Nat.le_refl _, HS.out, HB.out⟩
  · have d : decide ((0 : Int) < (n : Int)) = false := decide_eq_false (by omega)
    have d' : decide (0 < n) = false := decide_eq_false h0
    rcases bk with _ | gb
    · rcases hm with q | q
      · exact absurd rfl q
      · omega
    · clear hm
      go_enter Try.func26, Try.ntmps26
      go_wp2
      go_ret
      exact ⟨w.heap.size, rfl, Nat.le_refl _, HS.out, HB.out⟩
/-- it takes from the pool -/
def FillOk (ga gc N home : Nat) (w : World) (e : Ending) (w' : World) : Prop :=
  ∃ gt gs wd, e = .returned (.pointer (some ⟨gt, 0, none⟩)) ∧ w.heap.size ≤ gt ∧ w.heap.size ≤ gs ∧ wd < N ∧ wd = home % N ∧ CsB w' gt (some ga) (some gs) ∧ StW w' gs gc N ⟨1, wd, N, 8, List.replicate 32 0, 0, false, false, []⟩ ∧ Below w.heap.size w w'
theorem takeS_ok {gs wd mo : Nat} (hst : StP w gs gc (.slice none 0 0) ⟨1, wd, N, mo, List.replicate 32 0, 0, false, false, []⟩) (h1 : wd < N) (h2 : mo ≤ 32) : StW w gs gc N ⟨1, wd, N, mo, List.replicate 32 0, 0, false, false, []⟩ :=
  ⟨⟨_, hst, ⟨none, 0, 0, rfl, rfl, Nat.le_refl _, by omega, fun h => absurd h (by omega)⟩⟩, takeP_ok h1 h2⟩
set_option maxHeartbeats 8000000 in
theorem fill_take (h : CaS w ga gp home A 0 c zs none base) (hp : PoS w gp gc gn N size l) (h1 : 1 ≤ N) (hN : N ≤ 32) (hh : home < 100000) :
    Calls Try.prog 26 #[.pointer (some ⟨ga, 0, none⟩)] w (FillOk ga gc N home w) := by
  have c3 : w.cell? ⟨ga, 3, none⟩ = some (.pointer none) := h.c3
  have c2 := h.c2
  have c0 := h.c0
  have c1 := h.c1
  have hgl := h.st.lt
  have HTK := Lib.hid (fun q => pTake_any (hp.drewN q) h1 hN (home : Int) 8 (by omega) (by omega))
  clear h hp
  go_enter Try.func26, Try.ntmps26
  go_upto_region 5 with fail
  refine wp_region_held_drew (S := (fun W => W.cell? ⟨ga, 0, none⟩ = some (.pointer (some ⟨gp, 0, none⟩)) ∧ W.cell? ⟨ga, 1, none⟩ = some (.int .i64 home))) (by kernel_rfl) (⟨c0, c1⟩) (fun hHeld => ?_)
  refine wpAnyH_take (i := 0) (oi := ⟨some 21, _, _, _, _, _⟩) (v := ?tva0) rfl (by kernel_rfl) (by kernel_rfl) (by kernel_rfl) (fun _ _ _ h => h) (Or.inl ⟨by kernel_rfl, ?tya0⟩) (by assumption) ?tra0
  case tya0 => (intro w hSw; first | (go_simp; done) | (go_simp; with_reducible rfl))
  case' tra0 => try simp only [Act.put, List.setIfInBounds_toArray, List.set_cons_zero, List.set_cons_succ]
  refine wpAnyH_take (i := 1) (oi := ⟨some 22, _, _, _, _, _⟩) (v := ?tva1) rfl (by kernel_rfl) (by kernel_rfl) (by kernel_rfl) (fun _ _ _ h => h) (Or.inl ⟨by kernel_rfl, ?tya1⟩) (by assumption) ?tra1
  case tya1 => (intro w hSw; first | (go_simp; done) | (go_simp; with_reducible rfl))
  case' tra1 => try simp only [Act.put, List.setIfInBounds_toArray, List.set_cons_zero, List.set_cons_succ]
  refine wpAnyH_take (i := 2) (oi := ⟨some 23, _, _, _, _, _⟩) (v := ?tva2) rfl (by kernel_rfl) (by kernel_rfl) (by kernel_rfl) (fun _ _ _ h => h) (Or.inl ⟨by kernel_rfl, ?tya2⟩) (by assumption) ?tra2
  case tya2 => (intro w hSw; first | (go_simp; done) | (go_simp; with_reducible rfl))
  case' tra2 => try simp only [Act.put, List.setIfInBounds_toArray, List.set_cons_zero, List.set_cons_succ]
  refine wpAnyH_take (i := 3) (oi := ⟨some 24, _, _, _, _, _⟩) (v := ?tva3) rfl (by kernel_rfl) (by kernel_rfl) (by kernel_rfl) (fun _ _ _ h => h) (Or.inl ⟨by kernel_rfl, ?tya3⟩) (by assumption) ?tra3
  case tya3 => (intro w hSw; first | (go_simp; done) | (go_simp; with_reducible rfl))
  case' tra3 => try simp only [Act.put, List.setIfInBounds_toArray, List.set_cons_zero, List.set_cons_succ]
  refine wpAnyH_take (i := 4) (oi := ⟨some 25, _, _, _, _, _⟩) (v := ?tva4) rfl (by kernel_rfl) (by kernel_rfl) (by kernel_rfl) (fun _ _ _ h => h) (Or.inl ⟨by kernel_rfl, ?tya4⟩) (by assumption) ?tra4
  case tya4 => (intro w hSw; first | (go_simp; done) | (go_simp; with_reducible rfl))
  case' tra4 => try simp only [Act.put, List.setIfInBounds_toArray, List.set_cons_zero, List.set_cons_succ]
  refine wpAnyH_take (i := 5) (oi := ⟨some 26, _, _, _, _, _⟩) (v := ?tva5) rfl (by kernel_rfl) (by kernel_rfl) (by kernel_rfl) (fun _ _ _ h => h) (Or.inl ⟨by kernel_rfl, ?tya5⟩) (by assumption) ?tra5
  case tya5 => (intro w hSw; first | (go_simp; done) | (go_simp; with_reducible rfl))
  case' tra5 => try simp only [Act.put, List.setIfInBounds_toArray, List.set_cons_zero, List.set_cons_succ]
  refine wpAnyH_take (i := 6) (oi := ⟨some 27, _, _, _, _, _⟩) (v := ?tva6) rfl (by kernel_rfl) (by kernel_rfl) (by kernel_rfl) (fun _ _ _ h => h) (Or.inl ⟨by kernel_rfl, ?tya6⟩) (by assumption) ?tra6
  case tya6 => (intro w hSw; first | (go_simp; done) | (go_simp; with_reducible rfl))
  case' tra6 => try simp only [Act.put, List.setIfInBounds_toArray, List.set_cons_zero, List.set_cons_succ]
  refine wpAnyH_take (i := 7) (oi := ⟨some 28, _, _, _, _, _⟩) (v := ?tva7) rfl (by kernel_rfl) (by kernel_rfl) (by kernel_rfl) (fun _ _ _ h => h) (Or.inl ⟨by kernel_rfl, ?tya7⟩) (by assumption) ?tra7
  case tya7 => (intro w hSw; first | (go_simp; done) | (go_simp; with_reducible rfl))
  case' tra7 => try simp only [Act.put, List.setIfInBounds_toArray, List.set_cons_zero, List.set_cons_succ]
  refine wpAnyH_take (i := 8) (oi := ⟨some 29, _, _, _, _, _⟩) (v := ?tva8) rfl (by kernel_rfl) (by kernel_rfl) (by kernel_rfl) (fun _ _ _ h => h) (Or.inl ⟨by kernel_rfl, ?tya8⟩) (by assumption) ?tra8
  case tya8 => (intro w hSw; first | (go_simp; done) | (go_simp; with_reducible rfl))
  case' tra8 => try simp only [Act.put, List.setIfInBounds_toArray, List.set_cons_zero, List.set_cons_succ]
  refine wpAnyH_ready (rs := [9]) (by kernel_rfl) (by simp) ?_
  refine AllReadyH.cons (o := ⟨some 30, _, _, _, _, _⟩) rfl (fun K hK => ?_) AllReadyH.nil
  go_simp
  go_at_call 11
  refine (HTK.out 1).mono ?_
  rintro e w2 ⟨wd, mo, hwd, hm1, hm2, hwx, hmx, rfl, hst, hb⟩
  have k0 := (hb.cell (p := ⟨ga, 0, none⟩) hgl).trans c0
  have k1 := (hb.cell (p := ⟨ga, 1, none⟩) hgl).trans c1
  have HB := Lib.hid hb
  have HST := Lib.hid hst
  have HWX := Lib.hid hwx
  have HMX := Lib.hid hmx
  clear hb hst hwx hmx
  have hSa9 : ((fun W => W.cell? ⟨ga, 0, none⟩ = some (.pointer (some ⟨gp, 0, none⟩)) ∧ W.cell? ⟨ga, 1, none⟩ = some (.int .i64 home))) w2 := ⟨k0, k1⟩
  refine hK.out _ _ hSa9 (fun hHeld0 => ?_)
  clear hK K hHeld0 hHeld
  try simp only [Act.put, List.setIfInBounds_toArray, List.set_cons_zero, List.set_cons_succ]
  have hHeld : ((fun W => W.cell? ⟨ga, 0, none⟩ = some (.pointer (some ⟨gp, 0, none⟩)) ∧ W.cell? ⟨ga, 1, none⟩ = some (.int .i64 home))) w2 := hSa9
  clear hSa9
  refine wpAnyH_take (i := 10) (oi := ⟨some 31, _, _, _, _, _⟩) (v := ?tva10) rfl (by kernel_rfl) (by kernel_rfl) (by kernel_rfl) (fun _ _ _ h => h) (Or.inl ⟨by kernel_rfl, ?tya10⟩) (by assumption) ?tra10
  case tya10 => (intro w hSw; first | (go_simp; done) | (go_simp; with_reducible rfl))
  case' tra10 => try simp only [Act.put, List.setIfInBounds_toArray, List.set_cons_zero, List.set_cons_succ]
  
  refine wpAnyH_ready (rs := [11]) (by kernel_rfl) (by simp) ?_
  refine AllReadyH.cons (o := ⟨some 32, _, _, _, _, _⟩) rfl (fun K hK => ?_) AllReadyH.nil
  go_simp
  have hal := ball w2 (.cells #[.pointer (some ⟨ga, 0, none⟩), .pointer (some ⟨w.heap.size, 0, none⟩)] 89)
  have hgl2 : ga < w2.heap.size := Nat.lt_of_lt_of_le hgl HB.out.size
  have hS2 : (w2.alloc (.cells #[.pointer (some ⟨ga, 0, none⟩), .pointer (some ⟨w.heap.size, 0, none⟩)] 89)).cell? ⟨ga, 0, none⟩ = some (.pointer (some ⟨gp, 0, none⟩)) ∧ (w2.alloc (.cells #[.pointer (some ⟨ga, 0, none⟩), .pointer (some ⟨w.heap.size, 0, none⟩)] 89)).cell? ⟨ga, 1, none⟩ = some (.int .i64 home) := ⟨(hal.cell (p := ⟨ga, 0, none⟩) hgl2).trans k0, (hal.cell (p := ⟨ga, 1, none⟩) hgl2).trans k1⟩
  refine hK.out _ _ hS2 (fun hHeld0 => ?_)
  clear hK K hHeld0 hHeld
  try simp only [Act.put, List.setIfInBounds_toArray, List.set_cons_zero, List.set_cons_succ]
  refine wpAnyH_take (i := 12) (oi := ⟨some 2, _, _, _, _, _⟩) (v := ?tv12) rfl (by kernel_rfl) (by kernel_rfl) (by kernel_rfl) (fun _ _ _ h => h) (Or.inl ⟨by kernel_rfl, ?ty12⟩) hS2 ?tr12
  case ty12 => (intro w hSw; first | (go_simp; done) | (go_simp; with_reducible rfl))
  case' tr12 => try simp only [Act.put, List.setIfInBounds_toArray, List.set_cons_zero, List.set_cons_succ]
  refine wpAnyH_done (by kernel_rfl) ?_ _
  have HT := Lib.hid (show CsB (w2.alloc (.cells #[.pointer (some ⟨ga, 0, none⟩), .pointer (some ⟨w.heap.size, 0, none⟩)] 89)) w2.heap.size (some ga) (some w.heap.size) from Blk.new w2 _ _)
  have HW := Lib.hid (show StW (w2.alloc (.cells #[.pointer (some ⟨ga, 0, none⟩), .pointer (some ⟨w.heap.size, 0, none⟩)] 89)) w.heap.size gc N ⟨1, wd, N, mo, List.replicate 32 0, 0, false, false, []⟩ from (takeS_ok HST.out hwd hm2).below hal)
  have HB2 := Lib.hid (bthen (show Below w.heap.size w w2 from bthen (bdrewN w 1) HB.out) hal)
  have hsz : w.heap.size ≤ w2.heap.size := HB.out.size
  clear hS2 hal k0 k1 hgl2 HB HST
  generalize (w2.alloc (.cells #[.pointer (some ⟨ga, 0, none⟩), .pointer (some ⟨w.heap.size, 0, none⟩)] 89)) = w9 at *
  go_wp2
  go_ret
  obtain rfl := HMX.out 8 (by omega) (by omega) rfl
  exact ⟨w2.heap.size, w.heap.size, wd, rfl, hsz, Nat.le_refl _, hwd, HWX.out home (by omega) rfl, HT.out, HW.out, HB2.out⟩
end
end Go.Proofs.Ytmbceafeonjffaa
