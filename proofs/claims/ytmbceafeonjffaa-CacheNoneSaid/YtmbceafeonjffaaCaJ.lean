/-
  Package cache: settle. Conditions stand in each theorem.
-/
import Derived.Test.YtmbceafeonjffaaCaI
import Derived.LaidEqlPtr
namespace Go.Proofs.Ytmbceafeonjffaa
open Go.RowKit Go.Deep Plain
set_option linter.unusedVariables false
set_option linter.unusedSimpArgs false
set_option maxRecDepth 100000
/-- what a Step brings: nothing, or the numbers of its word, falling -/
def gotF (s : Ps) : List Int := if s.tk = 0 then [] else (numsF s.wd s.tk).reverse
def homF (home : Nat) (s : Ps) : Nat := if s.tk = 0 then home else s.wd
def SetOk (ga gp home : Nat) (s : Ps) (A : Option Addr) (n c : Nat) (zs : List Int) (bk : Option Nat) (base : Nat) (w : World) (e : Ending) (w' : World) : Prop :=
  ∃ A' c' n', e = .returned (.tuple #[]) ∧ CaS w' ga gp (homF home s) A' n' c' (zs ++ gotF s) bk base ∧ Keep (ga :: ownLs (.slice A n c)) w w' ∧ (∀ g, (Value.slice A' n' c').ownBlock = some g → (Value.slice A n c).ownBlock = some g ∨ w.heap.size ≤ g)
theorem Keep.thenNew {bs cs : List Nat} {w w' w'' : World} (h : Keep bs w w') (k : Keep cs w' w'') (hg : ∀ g ∈ cs, w.heap.size ≤ g) : Keep bs w w'' :=
  ⟨k.os.trans h.os, k.tape.trans h.tape, k.output.trans h.output, Nat.le_trans h.size k.size, fun q hq hn => (k.block q (Nat.lt_of_lt_of_le hq h.size) (fun hx => absurd (hg q hx) (by omega))).trans (h.block q hq hn)⟩
section
variable {w w' : World} {ga gp gc gn gs gb N home n c base : Nat} {A : Option Addr} {zs : List Int} {bk : Option Nat} {size : Int} {l : List Int} {s : Ps}
set_option maxHeartbeats 4000000 in
theorem settle_nil (h : CaS w ga gp home A n c zs bk base) :
    Calls Try.prog 55 #[.pointer (some ⟨ga, 0, none⟩), .pointer none] w fun e w' => e = .returned (.tuple #[]) ∧ w = w' := by
  have HW := Lib.hid (word_nil w)
  clear h
  go_enter Try.func55, Try.ntmps55
  go_wp2_with (go_at_call 67; refine (HW.out).mono ?_; rintro e w1 ⟨rfl, rfl⟩)
  refine bodyPost_ret (v := .tuple #[]) (by kernel_rfl) rfl ?_
  exact ⟨rfl, rfl⟩
set_option maxHeartbeats 8000000 in
theorem settle_none0 (h : CaS w ga gp home A n c zs none base) (hs : StW w gs gc N s) (hN : N ≤ 32) (hn : n ≤ 100000) (hbase : base ≤ w.heap.size) (ht : s.tk = 0) :
    Calls Try.prog 55 #[.pointer (some ⟨ga, 0, none⟩), .pointer (some ⟨gs, 0, none⟩)] w (SetOk ga gp home s A n c zs none base w) := by
  have c3 : w.cell? ⟨ga, 3, none⟩ = some (.pointer none) := h.c3
  have HC := Lib.hid h
  have HS := Lib.hid hs
  have HK := Lib.hid (Keep.refl (ga :: ownLs (.slice A n c)) w)
  have hz : w.heap.size ≤ w.heap.size := Nat.le_refl _
  clear h hs
  go_enter Try.func55, Try.ntmps55
  go_upto_region 2 with fail
  have HW := Lib.hid (word_any HS.out)
  rw [show wrdF s = -1 by simp [wrdF, ht]] at HW
  have hh : homF home s = home := by simp [homF, ht]
  have hg : zs ++ gotF s = zs := by simp [gotF, ht]
  clear ht
  go_wp2_with (go_at_call 67; refine (HW.out).mono ?_; rintro e w9 ⟨rfl, rfl⟩)
  refine bodyPost_ret (v := .tuple #[]) (by kernel_rfl) rfl ?_
  exact ⟨A, c, n, rfl, by rw [hh, hg]; exact HC.out, HK.out, fun g q => .inl q⟩
set_option maxHeartbeats 8000000 in
theorem settle_same0 (h : CaS w ga gp home A n c zs (some gs) base) (hs : StW w gs gc N s) (hN : N ≤ 32) (hn : n ≤ 100000) (hbase : base ≤ w.heap.size) (ht : s.tk = 0) :
    Calls Try.prog 55 #[.pointer (some ⟨ga, 0, none⟩), .pointer (some ⟨gs, 0, none⟩)] w (SetOk ga gp home s A n c zs none base w) := by
  obtain ⟨jj, hjj⟩ := Option.isSome_iff_exists.1 (show (Try.prog.info? 78).isSome = true by kernel_rfl)
  have ep : ∀ W : World, (binOp .eql 30 (.pointer (some ⟨gs, 0, none⟩)) (.pointer (some ⟨gs, 0, none⟩))).run Try.prog W = .ok (.bool true) W := fun W => run_eql_ptr_same W _ Try.underlying30 hjj
  have c3 : w.cell? ⟨ga, 3, none⟩ = some (.pointer (some ⟨gs, 0, none⟩)) := h.c3
  have f3 := h.free 3
  have HC := Lib.hid (h.putB none)
  have hk := (Keep.refl [ga] w).setCell (p := ⟨ga, 3, none⟩) (.inl (by simp)) (ptP none)
  have HS := Lib.hid (hs.one h.st (by decide) (by decide) hk)
  have HK := Lib.hid (hk.mono (cs := ga :: ownLs (.slice A n c)) (by simp))
  have hz : w.heap.size ≤ (w.setCell ⟨ga, 3, none⟩ (ptP none)).heap.size := hk.size
  clear hk
  clear h hs
  go_enter Try.func55, Try.ntmps55
  go_upto_region 2 with fail
  have hpt : (Value.pointer none) = ptP none := rfl
  rw [hpt]
  generalize w.setCell ⟨ga, 3, none⟩ (ptP none) = w1 at *
  have HW := Lib.hid (word_any HS.out)
  rw [show wrdF s = -1 by simp [wrdF, ht]] at HW
  have hh : homF home s = home := by simp [homF, ht]
  have hg : zs ++ gotF s = zs := by simp [gotF, ht]
  clear ht
  go_wp2_with (go_at_call 67; refine (HW.out).mono ?_; rintro e w9 ⟨rfl, rfl⟩)
  refine bodyPost_ret (v := .tuple #[]) (by kernel_rfl) rfl ?_
  exact ⟨A, c, n, rfl, by rw [hh, hg]; exact HC.out, HK.out, fun g q => .inl q⟩
set_option maxHeartbeats 8000000 in
theorem settle_other0 (h : CaS w ga gp home A n c zs (some gb) base) (hs : StW w gs gc N s) (hN : N ≤ 32) (hn : n ≤ 100000) (hbase : base ≤ w.heap.size) (ht : s.tk = 0) (hne : gb ≠ gs) {cs : Array Value} (hgb : Blk w gb 78 cs) :
    Calls Try.prog 55 #[.pointer (some ⟨ga, 0, none⟩), .pointer (some ⟨gs, 0, none⟩)] w (SetOk ga gp home s A n c zs (some gb) base w) := by
  obtain ⟨jj, hjj⟩ := Option.isSome_iff_exists.1 (show (Try.prog.info? 78).isSome = true by kernel_rfl)
  obtain ⟨cu, hcu⟩ : ∃ cu, Blk w gs 78 cu := by
    obtain ⟨⟨gv, q, _⟩, _⟩ := hs
    exact ⟨_, q.blk⟩
  have hjs : jj.size ≠ 0 := by
    have e : (Try.prog.info? 78).any (fun j => j.size != 0) = true := by kernel_rfl
    rw [hjj] at e
    simpa using e
  have ep : (binOp .eql 30 (.pointer (some ⟨gs, 0, none⟩)) (.pointer (some ⟨gb, 0, none⟩))).run Try.prog w = .ok (.bool false) w := run_eql_ptr_other w Try.underlying30 hjj hjs (fun e => hne (by injection e with e; exact e.symm)) hcu hgb
  clear hcu cu hgb
  have c3 : w.cell? ⟨ga, 3, none⟩ = some (.pointer (some ⟨gb, 0, none⟩)) := h.c3
  have HC := Lib.hid h
  have HS := Lib.hid hs
  have HK := Lib.hid (Keep.refl (ga :: ownLs (.slice A n c)) w)
  have hz : w.heap.size ≤ w.heap.size := Nat.le_refl _
  clear h hs
  go_enter Try.func55, Try.ntmps55
  go_upto_region 2 with fail
  have HW := Lib.hid (word_any HS.out)
  rw [show wrdF s = -1 by simp [wrdF, ht]] at HW
  have hh : homF home s = home := by simp [homF, ht]
  have hg : zs ++ gotF s = zs := by simp [gotF, ht]
  clear ht
  go_wp2_with (go_at_call 67; refine (HW.out).mono ?_; rintro e w9 ⟨rfl, rfl⟩)
  refine bodyPost_ret (v := .tuple #[]) (by kernel_rfl) rfl ?_
  exact ⟨A, c, n, rfl, by rw [hh, hg]; exact HC.out, HK.out, fun g q => .inl q⟩
set_option maxHeartbeats 8000000 in
theorem settle_none1 (h : CaS w ga gp home A n c zs none base) (hs : StW w gs gc N s) (hN : N ≤ 32) (hn : n ≤ 100000) (hbase : base ≤ w.heap.size) (ht : s.tk ≠ 0) :
    Calls Try.prog 55 #[.pointer (some ⟨ga, 0, none⟩), .pointer (some ⟨gs, 0, none⟩)] w (SetOk ga gp home s A n c zs none base w) := by
  have c3 : w.cell? ⟨ga, 3, none⟩ = some (.pointer none) := h.c3
  have HC := Lib.hid h
  have HS := Lib.hid hs
  have HK := Lib.hid (Keep.refl (ga :: ownLs (.slice A n c)) w)
  have hz : w.heap.size ≤ w.heap.size := Nat.le_refl _
  clear h hs
  go_enter Try.func55, Try.ntmps55
  go_upto_region 2 with fail
  have HW := Lib.hid (word_any HS.out)
  rw [show wrdF s = s.wd by simp [wrdF, ht]] at HW
  have hh : homF home s = s.wd := by simp [homF, ht]
  have hg : zs ++ gotF s = zs ++ (numsF s.wd s.tk).reverse := by simp [gotF, ht]
  have hwd := HS.out.ok.wd
  have d : decide ((s.wd : Int) < 0) = false := decide_eq_false (by omega)
  have f1 := HC.out.free 1
  have c1 := HC.out.c1
  have HC2 := Lib.hid (HC.out.putH s.wd)
  have hk2 := (Keep.refl [ga] w).setCell (p := ⟨ga, 1, none⟩) (.inl (by simp)) (.int .i64 s.wd)
  have HS2 := Lib.hid (HS.out.one HC.out.st (by decide) (by decide) hk2)
  have HK2 := Lib.hid (HK.out.trans (hk2.mono (cs := ga :: ownLs (.slice A n c)) (by simp)))
  have hz2 : w.heap.size ≤ (World.setCell w ⟨ga, 1, none⟩ (.int .i64 s.wd)).heap.size := Nat.le_trans hz hk2.size
  clear hk2 ht
  go_upto_region 4 with (go_at_call 67; refine (HW.out).mono ?_; rintro e w9 ⟨rfl, rfl⟩)
  clear HW HC HS HK f1 c1
  generalize World.setCell w ⟨ga, 1, none⟩ (.int .i64 s.wd) = w2 at *
  have HG := Lib.hid (got_any HS2.out hN)
  go_upto_region 5 with (go_at_call 15; refine (HG.out).mono ?_; rintro e w3 ⟨A3, n3, c3', rfl, ho3, hb3⟩)
  have hl3 : (numsF s.wd s.tk).length = n3 := ho3.len
  have hn3 : n3 ≤ 32 := by have := numsI_len s.wd s.tk 32; unfold numsF at hl3; omega
  have HC3 := Lib.hid (HC2.out.below hb3)
  have HS3 := Lib.hid (HS2.out.below hb3)
  have HK3 := Lib.hid (HK2.out.trans (Keep.of_below hb3))
  have HO3 := Lib.hid ho3.j
  have hlo : ∀ g, (Value.slice A n c).ownBlock = some g → g < w2.heap.size := fun g q => by
    obtain ⟨_, hl, _, _⟩ := own_blk HC2.out.row q
    exact hl
  have hga : ga < w2.heap.size := HC2.out.st.lt
  have HB3 := Lib.hid hb3
  clear ho3 hb3 HC2 HS2 HK2 HG
  have HRV := Lib.hid (rev_any A3 n3 c3' _ (by omega) HO3.out)
  go_upto_region 6 with (go_at_call 68; refine (HRV.out).mono ?_; rintro e w4 ⟨rfl, ho4, hk4⟩)
  have hnew : ∀ g ∈ ownLs (.slice A3 n3 c3'), w2.heap.size ≤ g := fun g hg => by
    unfold ownLs at hg
    split at hg
    · rename_i b hb
      obtain rfl : g = b := by simpa using hg
      exact (own_blk HO3.out hb).1
    · simp at hg
  have HC4 := Lib.hid (HC3.out.keep hk4 (fun q => absurd (hnew ga q) (by omega)) (fun g q q2 => absurd (hnew g q2) (by have := hlo g q; omega)))
  have HS4 := Lib.hid (HS3.out.row HO3.out hk4)
  have HK4 := Lib.hid (show Keep (ga :: ownLs (.slice A n c)) w w4 from HK3.out.thenNew hk4 (fun g q => Nat.le_trans hz2 (hnew g q)))
  have hz4 : w.heap.size ≤ w4.heap.size := HK4.out.size
  have HR4 := Lib.hid ho4.rd
  clear HC3 HS3 HK3 HO3 HRV ho4 hk4
  have c2 := HC4.out.c2
  go_upto_region 7 with (at_builtin; refine wpList_joinJ rfl (.tmp 34) (.tmp 35) rfl rfl (HC4.out.row) rfl HR4.out (show Below base w4 w4 from Below.refl _ _) (Nat.le_trans hbase hz4) (by omega) ?_; intro A5 c5 w5 hI' hB' hK' hown; have hst := (hK'.blk HC4.out.st (HC4.out.row.out HC4.out.st (by decide))); have k2 : w5.cell? ⟨ga, 2, none⟩ = some (.slice A n c) := hst.cell 2; have f2' : w5.frozen? ⟨ga, 2, none⟩ = false := hst.frozen 2; have HI := Lib.hid hI'; have HK5 := Lib.hid hK'; have HOW := Lib.hid hown; have HST := Lib.hid hst; clear hI' hB' hK' hown hst)
  have HC6 := Lib.hid (CaS.of_put HST.out HI.out)
  have hk6 := (Keep.refl [ga] w5).setCell (p := ⟨ga, 2, none⟩) (.inl (by simp)) (.slice A5 (n + n3) c5)
  have HK6 := Lib.hid ((HK4.out.trans (HK5.out.mono (cs := ga :: ownLs (.slice A n c)) (fun y hy => List.mem_cons_of_mem _ hy))).trans (hk6.mono (cs := ga :: ownLs (.slice A n c)) (by simp)))
  go_wp2
  go_end0
  exact ⟨A5, c5, n + n3, rfl, by rw [hh, hg]; exact HC6.out, HK6.out, fun g q => (HOW.out).elim (fun e => .inl (e ▸ q)) (fun e => .inr (by rw [e] at q; injection q with q; omega))⟩
set_option maxHeartbeats 8000000 in
theorem settle_same1 (h : CaS w ga gp home A n c zs (some gs) base) (hs : StW w gs gc N s) (hN : N ≤ 32) (hn : n ≤ 100000) (hbase : base ≤ w.heap.size) (ht : s.tk ≠ 0) :
    Calls Try.prog 55 #[.pointer (some ⟨ga, 0, none⟩), .pointer (some ⟨gs, 0, none⟩)] w (SetOk ga gp home s A n c zs none base w) := by
  obtain ⟨jj, hjj⟩ := Option.isSome_iff_exists.1 (show (Try.prog.info? 78).isSome = true by kernel_rfl)
  have ep : ∀ W : World, (binOp .eql 30 (.pointer (some ⟨gs, 0, none⟩)) (.pointer (some ⟨gs, 0, none⟩))).run Try.prog W = .ok (.bool true) W := fun W => run_eql_ptr_same W _ Try.underlying30 hjj
  have c3 : w.cell? ⟨ga, 3, none⟩ = some (.pointer (some ⟨gs, 0, none⟩)) := h.c3
  have f3 := h.free 3
  have HC := Lib.hid (h.putB none)
  have hk := (Keep.refl [ga] w).setCell (p := ⟨ga, 3, none⟩) (.inl (by simp)) (ptP none)
  have HS := Lib.hid (hs.one h.st (by decide) (by decide) hk)
  have HK := Lib.hid (hk.mono (cs := ga :: ownLs (.slice A n c)) (by simp))
  have hz : w.heap.size ≤ (w.setCell ⟨ga, 3, none⟩ (ptP none)).heap.size := hk.size
  clear hk
  clear h hs
  go_enter Try.func55, Try.ntmps55
  go_upto_region 2 with fail
  have hpt : (Value.pointer none) = ptP none := rfl
  rw [hpt]
  generalize w.setCell ⟨ga, 3, none⟩ (ptP none) = w1 at *
  have HW := Lib.hid (word_any HS.out)
  rw [show wrdF s = s.wd by simp [wrdF, ht]] at HW
  have hh : homF home s = s.wd := by simp [homF, ht]
  have hg : zs ++ gotF s = zs ++ (numsF s.wd s.tk).reverse := by simp [gotF, ht]
  have hwd := HS.out.ok.wd
  have d : decide ((s.wd : Int) < 0) = false := decide_eq_false (by omega)
  have f1 := HC.out.free 1
  have c1 := HC.out.c1
  have HC2 := Lib.hid (HC.out.putH s.wd)
  have hk2 := (Keep.refl [ga] w1).setCell (p := ⟨ga, 1, none⟩) (.inl (by simp)) (.int .i64 s.wd)
  have HS2 := Lib.hid (HS.out.one HC.out.st (by decide) (by decide) hk2)
  have HK2 := Lib.hid (HK.out.trans (hk2.mono (cs := ga :: ownLs (.slice A n c)) (by simp)))
  have hz2 : w.heap.size ≤ (World.setCell w1 ⟨ga, 1, none⟩ (.int .i64 s.wd)).heap.size := Nat.le_trans hz hk2.size
  clear hk2 ht
  go_upto_region 4 with (go_at_call 67; refine (HW.out).mono ?_; rintro e w9 ⟨rfl, rfl⟩)
  clear HW HC HS HK f1 c1
  generalize World.setCell w1 ⟨ga, 1, none⟩ (.int .i64 s.wd) = w2 at *
  have HG := Lib.hid (got_any HS2.out hN)
  go_upto_region 5 with (go_at_call 15; refine (HG.out).mono ?_; rintro e w3 ⟨A3, n3, c3', rfl, ho3, hb3⟩)
  have hl3 : (numsF s.wd s.tk).length = n3 := ho3.len
  have hn3 : n3 ≤ 32 := by have := numsI_len s.wd s.tk 32; unfold numsF at hl3; omega
  have HC3 := Lib.hid (HC2.out.below hb3)
  have HS3 := Lib.hid (HS2.out.below hb3)
  have HK3 := Lib.hid (HK2.out.trans (Keep.of_below hb3))
  have HO3 := Lib.hid ho3.j
  have hlo : ∀ g, (Value.slice A n c).ownBlock = some g → g < w2.heap.size := fun g q => by
    obtain ⟨_, hl, _, _⟩ := own_blk HC2.out.row q
    exact hl
  have hga : ga < w2.heap.size := HC2.out.st.lt
  have HB3 := Lib.hid hb3
  clear ho3 hb3 HC2 HS2 HK2 HG
  have HRV := Lib.hid (rev_any A3 n3 c3' _ (by omega) HO3.out)
  go_upto_region 6 with (go_at_call 68; refine (HRV.out).mono ?_; rintro e w4 ⟨rfl, ho4, hk4⟩)
  have hnew : ∀ g ∈ ownLs (.slice A3 n3 c3'), w2.heap.size ≤ g := fun g hg => by
    unfold ownLs at hg
    split at hg
    · rename_i b hb
      obtain rfl : g = b := by simpa using hg
      exact (own_blk HO3.out hb).1
    · simp at hg
  have HC4 := Lib.hid (HC3.out.keep hk4 (fun q => absurd (hnew ga q) (by omega)) (fun g q q2 => absurd (hnew g q2) (by have := hlo g q; omega)))
  have HS4 := Lib.hid (HS3.out.row HO3.out hk4)
  have HK4 := Lib.hid (show Keep (ga :: ownLs (.slice A n c)) w w4 from HK3.out.thenNew hk4 (fun g q => Nat.le_trans hz2 (hnew g q)))
  have hz4 : w.heap.size ≤ w4.heap.size := HK4.out.size
  have HR4 := Lib.hid ho4.rd
  clear HC3 HS3 HK3 HO3 HRV ho4 hk4
  have c2 := HC4.out.c2
  go_upto_region 7 with (at_builtin; refine wpList_joinJ rfl (.tmp 34) (.tmp 35) rfl rfl (HC4.out.row) rfl HR4.out (show Below base w4 w4 from Below.refl _ _) (Nat.le_trans hbase hz4) (by omega) ?_; intro A5 c5 w5 hI' hB' hK' hown; have hst := (hK'.blk HC4.out.st (HC4.out.row.out HC4.out.st (by decide))); have k2 : w5.cell? ⟨ga, 2, none⟩ = some (.slice A n c) := hst.cell 2; have f2' : w5.frozen? ⟨ga, 2, none⟩ = false := hst.frozen 2; have HI := Lib.hid hI'; have HK5 := Lib.hid hK'; have HOW := Lib.hid hown; have HST := Lib.hid hst; clear hI' hB' hK' hown hst)
  have HC6 := Lib.hid (CaS.of_put HST.out HI.out)
  have hk6 := (Keep.refl [ga] w5).setCell (p := ⟨ga, 2, none⟩) (.inl (by simp)) (.slice A5 (n + n3) c5)
  have HK6 := Lib.hid ((HK4.out.trans (HK5.out.mono (cs := ga :: ownLs (.slice A n c)) (fun y hy => List.mem_cons_of_mem _ hy))).trans (hk6.mono (cs := ga :: ownLs (.slice A n c)) (by simp)))
  go_wp2
  go_end0
  exact ⟨A5, c5, n + n3, rfl, by rw [hh, hg]; exact HC6.out, HK6.out, fun g q => (HOW.out).elim (fun e => .inl (e ▸ q)) (fun e => .inr (by rw [e] at q; injection q with q; omega))⟩
set_option maxHeartbeats 8000000 in
theorem settle_other1 (h : CaS w ga gp home A n c zs (some gb) base) (hs : StW w gs gc N s) (hN : N ≤ 32) (hn : n ≤ 100000) (hbase : base ≤ w.heap.size) (ht : s.tk ≠ 0) (hne : gb ≠ gs) {cs : Array Value} (hgb : Blk w gb 78 cs) :
    Calls Try.prog 55 #[.pointer (some ⟨ga, 0, none⟩), .pointer (some ⟨gs, 0, none⟩)] w (SetOk ga gp home s A n c zs (some gb) base w) := by
  obtain ⟨jj, hjj⟩ := Option.isSome_iff_exists.1 (show (Try.prog.info? 78).isSome = true by kernel_rfl)
  obtain ⟨cu, hcu⟩ : ∃ cu, Blk w gs 78 cu := by
    obtain ⟨⟨gv, q, _⟩, _⟩ := hs
    exact ⟨_, q.blk⟩
  have hjs : jj.size ≠ 0 := by
    have e : (Try.prog.info? 78).any (fun j => j.size != 0) = true := by kernel_rfl
    rw [hjj] at e
    simpa using e
  have ep : (binOp .eql 30 (.pointer (some ⟨gs, 0, none⟩)) (.pointer (some ⟨gb, 0, none⟩))).run Try.prog w = .ok (.bool false) w := run_eql_ptr_other w Try.underlying30 hjj hjs (fun e => hne (by injection e with e; exact e.symm)) hcu hgb
  clear hcu cu hgb
  have c3 : w.cell? ⟨ga, 3, none⟩ = some (.pointer (some ⟨gb, 0, none⟩)) := h.c3
  have HC := Lib.hid h
  have HS := Lib.hid hs
  have HK := Lib.hid (Keep.refl (ga :: ownLs (.slice A n c)) w)
  have hz : w.heap.size ≤ w.heap.size := Nat.le_refl _
  clear h hs
  go_enter Try.func55, Try.ntmps55
  go_upto_region 2 with fail
  have HW := Lib.hid (word_any HS.out)
  rw [show wrdF s = s.wd by simp [wrdF, ht]] at HW
  have hh : homF home s = s.wd := by simp [homF, ht]
  have hg : zs ++ gotF s = zs ++ (numsF s.wd s.tk).reverse := by simp [gotF, ht]
  have hwd := HS.out.ok.wd
  have d : decide ((s.wd : Int) < 0) = false := decide_eq_false (by omega)
  have f1 := HC.out.free 1
  have c1 := HC.out.c1
  have HC2 := Lib.hid (HC.out.putH s.wd)
  have hk2 := (Keep.refl [ga] w).setCell (p := ⟨ga, 1, none⟩) (.inl (by simp)) (.int .i64 s.wd)
  have HS2 := Lib.hid (HS.out.one HC.out.st (by decide) (by decide) hk2)
  have HK2 := Lib.hid (HK.out.trans (hk2.mono (cs := ga :: ownLs (.slice A n c)) (by simp)))
  have hz2 : w.heap.size ≤ (World.setCell w ⟨ga, 1, none⟩ (.int .i64 s.wd)).heap.size := Nat.le_trans hz hk2.size
  clear hk2 ht
  go_upto_region 4 with (go_at_call 67; refine (HW.out).mono ?_; rintro e w9 ⟨rfl, rfl⟩)
  clear HW HC HS HK f1 c1
  generalize World.setCell w ⟨ga, 1, none⟩ (.int .i64 s.wd) = w2 at *
  have HG := Lib.hid (got_any HS2.out hN)
  go_upto_region 5 with (go_at_call 15; refine (HG.out).mono ?_; rintro e w3 ⟨A3, n3, c3', rfl, ho3, hb3⟩)
  have hl3 : (numsF s.wd s.tk).length = n3 := ho3.len
  have hn3 : n3 ≤ 32 := by have := numsI_len s.wd s.tk 32; unfold numsF at hl3; omega
  have HC3 := Lib.hid (HC2.out.below hb3)
  have HS3 := Lib.hid (HS2.out.below hb3)
  have HK3 := Lib.hid (HK2.out.trans (Keep.of_below hb3))
  have HO3 := Lib.hid ho3.j
  have hlo : ∀ g, (Value.slice A n c).ownBlock = some g → g < w2.heap.size := fun g q => by
    obtain ⟨_, hl, _, _⟩ := own_blk HC2.out.row q
    exact hl
  have hga : ga < w2.heap.size := HC2.out.st.lt
  have HB3 := Lib.hid hb3
  clear ho3 hb3 HC2 HS2 HK2 HG
  have HRV := Lib.hid (rev_any A3 n3 c3' _ (by omega) HO3.out)
  go_upto_region 6 with (go_at_call 68; refine (HRV.out).mono ?_; rintro e w4 ⟨rfl, ho4, hk4⟩)
  have hnew : ∀ g ∈ ownLs (.slice A3 n3 c3'), w2.heap.size ≤ g := fun g hg => by
    unfold ownLs at hg
    split at hg
    · rename_i b hb
      obtain rfl : g = b := by simpa using hg
      exact (own_blk HO3.out hb).1
    · simp at hg
  have HC4 := Lib.hid (HC3.out.keep hk4 (fun q => absurd (hnew ga q) (by omega)) (fun g q q2 => absurd (hnew g q2) (by have := hlo g q; omega)))
  have HS4 := Lib.hid (HS3.out.row HO3.out hk4)
  have HK4 := Lib.hid (show Keep (ga :: ownLs (.slice A n c)) w w4 from HK3.out.thenNew hk4 (fun g q => Nat.le_trans hz2 (hnew g q)))
  have hz4 : w.heap.size ≤ w4.heap.size := HK4.out.size
  have HR4 := Lib.hid ho4.rd
  clear HC3 HS3 HK3 HO3 HRV ho4 hk4
  have c2 := HC4.out.c2
  go_upto_region 7 with (at_builtin; refine wpList_joinJ rfl (.tmp 34) (.tmp 35) rfl rfl (HC4.out.row) rfl HR4.out (show Below base w4 w4 from Below.refl _ _) (Nat.le_trans hbase hz4) (by omega) ?_; intro A5 c5 w5 hI' hB' hK' hown; have hst := (hK'.blk HC4.out.st (HC4.out.row.out HC4.out.st (by decide))); have k2 : w5.cell? ⟨ga, 2, none⟩ = some (.slice A n c) := hst.cell 2; have f2' : w5.frozen? ⟨ga, 2, none⟩ = false := hst.frozen 2; have HI := Lib.hid hI'; have HK5 := Lib.hid hK'; have HOW := Lib.hid hown; have HST := Lib.hid hst; clear hI' hB' hK' hown hst)
  have HC6 := Lib.hid (CaS.of_put HST.out HI.out)
  have hk6 := (Keep.refl [ga] w5).setCell (p := ⟨ga, 2, none⟩) (.inl (by simp)) (.slice A5 (n + n3) c5)
  have HK6 := Lib.hid ((HK4.out.trans (HK5.out.mono (cs := ga :: ownLs (.slice A n c)) (fun y hy => List.mem_cons_of_mem _ hy))).trans (hk6.mono (cs := ga :: ownLs (.slice A n c)) (by simp)))
  go_wp2
  go_end0
  exact ⟨A5, c5, n + n3, rfl, by rw [hh, hg]; exact HC6.out, HK6.out, fun g q => (HOW.out).elim (fun e => .inl (e ▸ q)) (fun e => .inr (by rw [e] at q; injection q with q; omega))⟩
end
end Go.Proofs.Ytmbceafeonjffaa
