/-
  Package cache: Do of a Step. Conditions stand in each theorem.
-/
import Derived.Test.YtmbceafeonjffaaCaJ
namespace Go.Proofs.Ytmbceafeonjffaa
open Go.RowKit Go.Deep Plain
set_option linter.unusedVariables false
set_option linter.unusedSimpArgs false
set_option maxRecDepth 100000
section
variable {w w' : World} {ga gp gc gn gs gb gt N home n c base : Nat} {A : Option Addr} {zs : List Int} {bk : Option Nat} {size : Int} {l : List Int} {s : Ps}
theorem settle_any (h : CaS w ga gp home A n c zs bk base) (hs : StW w gs gc N s) (hN : N ≤ 32) (hn : n ≤ 100000) (hbase : base ≤ w.heap.size) (hbk : ∀ g, bk = some g → ∃ cs, Blk w g 78 cs) :
    Calls Try.prog 55 #[.pointer (some ⟨ga, 0, none⟩), .pointer (some ⟨gs, 0, none⟩)] w (SetOk ga gp home s A n c zs (if bk = some gs then none else bk) base w) := by
  rcases bk with _ | gb
  · rw [show (if (none : Option Nat) = some gs then none else none) = (none : Option Nat) by simp]
    by_cases e : s.tk = 0
    · exact settle_none0 h hs hN hn hbase e
    · exact settle_none1 h hs hN hn hbase e
  · by_cases q : gb = gs
    · subst q
      rw [if_pos rfl]
      by_cases e : s.tk = 0
      · exact settle_same0 h hs hN hn hbase e
      · exact settle_same1 h hs hN hn hbase e
    · obtain ⟨cs, hcs⟩ := hbk gb rfl
      rw [if_neg (by simpa using q)]
      by_cases e : s.tk = 0
      · exact settle_other0 h hs hN hn hbase e q hcs
      · exact settle_other1 h hs hN hn hbase e q hcs
/-- a block of another type is none of a cache's own -/
theorem CaS.nin (h : CaS w ga gp home A n c zs bk base) {b : Nat} {t : TypeId} {cs : Array Value} (hb : Blk w b t cs) (h1 : t ≠ 87) (h2 : t ≠ 3) : b ∉ ga :: ownLs (.slice A n c) := fun hm => by
  rcases List.mem_cons.1 hm with e | e
  · exact blkT hb h.st h1 e
  · exact h.row.out hb h2 e
theorem PoS.keepC (hp : PoS w gp gc gn N size l) (h : CaS w ga gp home A n c zs bk base) (hk : Keep (ga :: ownLs (.slice A n c)) w w') : PoS w' gp gc gn N size l :=
  hp.keep hk (h.nin hp.ps (by decide) (by decide)) (h.nin hp.cl.st (by decide) (by decide)) (h.nin hp.cl.nu (by decide) (by decide))
theorem StW.keepC (hs : StW w gs gc N s) (h : CaS w ga gp home A n c zs bk base) (hk : Keep (ga :: ownLs (.slice A n c)) w w') : StW w' gs gc N s :=
  hs.keep hk (fun hm => by
    rcases List.mem_cons.1 hm with e | e
    · exact hs.typ h.st (by decide) e.symm
    · obtain ⟨cur, q⟩ := ownLs_blk h.row gs e
      exact hs.typ q (by decide) rfl) (fun g hg => by
    rcases List.mem_cons.1 hg with e | e
    · rw [e]; exact NoG.typ h.st (by decide)
    · obtain ⟨cur, q⟩ := ownLs_blk h.row g e
      exact NoG.typ q (by decide))
/-- what a Do of a cache's Step tells and leaves -/
def DoOk (ga gp gc gn gs gt N home : Nat) (size : Int) (l : List Int) (s : Ps) (A : Option Addr) (n c : Nat) (zs : List Int) (bk : Option Nat) (base : Nat) (w : World) (e : Ending) (w' : World) : Prop :=
  (e = .returned (.bool false) ∧ (stpP N l s).2.nx ≠ 0 ∧ CaS w' ga gp home A n c zs bk base ∧ PoS w' gp gc gn N size (stpP N l s).1 ∧ CsB w' gt (some ga) (some gs) ∧ StW w' gs gc N (stpP N l s).2 ∧ Keep [gn, gs] w w') ∨
  (e = .returned (.bool true) ∧ (stpP N l s).2.nx = 0 ∧ PoS w' gp gc gn N size (stpP N l s).1 ∧ CsB w' gt none (some gs) ∧ StW w' gs gc N (stpP N l s).2 ∧ Keep (gt :: gn :: gs :: ga :: ownLs (.slice A n c)) w w' ∧
    ∃ A' c' n', CaS w' ga gp (homF home (stpP N l s).2) A' n' c' (zs ++ gotF (stpP N l s).2) (if bk = some gs then none else bk) base ∧ (∀ g, (Value.slice A' n' c').ownBlock = some g → (Value.slice A n c).ownBlock = some g ∨ w.heap.size ≤ g))
set_option maxHeartbeats 8000000 in
theorem cDo_some {g0 : Nat} (h : CaS w ga gp home A n c zs bk base) (hp : PoS w gp gc gn N size l) (ht : CsB w gt (some ga) (some gs)) (hs : StW w gs gc N s) (hN : N ≤ 32) (hn : n ≤ 100000) (hbase : base ≤ w.heap.size) (hbk : ∀ g, bk = some g → ∃ cs, Blk w g 78 cs) :
    Calls Try.prog 25 #[.pointer (some ⟨g0, 0, none⟩), .pointer (some ⟨gt, 0, none⟩)] w (DoOk ga gp gc gn gs gt N home size l s A n c zs bk base w) := by
  have c0 : w.cell? ⟨gt, 0, none⟩ = some (.pointer (some ⟨ga, 0, none⟩)) := ht.cell 0
  have c1 : w.cell? ⟨gt, 1, none⟩ = some (.pointer (some ⟨gs, 0, none⟩)) := ht.cell 1
  have a0 := h.c0
  have HDO := Lib.hid (fun q => pDo_any (hp.drewN q) (hs.drewN q) hN)
  have hgl : gt < w.heap.size := ht.lt
  have hal : ga < w.heap.size := h.st.lt
  have hnt : gt ∉ [gn, gs] := by
    have e1 : gt ≠ gn := blkT ht hp.cl.nu (by decide)
    have e2 : gt ≠ gs := hs.typ ht (by decide)
    simp [e1, e2]
  have hna : ga ∉ [gn, gs] := by
    have e1 : ga ≠ gn := blkT h.st hp.cl.nu (by decide)
    have e2 : ga ≠ gs := hs.typ h.st (by decide)
    simp [e1, e2]
  have hnr : ∀ g, (Value.slice A n c).ownBlock = some g → g ∉ [gn, gs] := fun g hg hm => by
    obtain ⟨_, _, cur, q⟩ := own_blk h.row hg
    have q' : Blk w g 3 cur := q
    have e1 : g ≠ gn := blkT q' hp.cl.nu (by decide)
    have e2 : g ≠ gs := hs.typ q' (by decide)
    simp [e1, e2] at hm
  have hsb : ∀ {W : World} {s' : Ps}, StW W gs gc N s' → ∃ cs, Blk W gs 78 cs := fun q => by
    obtain ⟨⟨gv, q, _⟩, _⟩ := q
    exact ⟨_, q.blk⟩
  have hbk2 : ∀ (W : World) (s' : Ps), StW W gs gc N s' → Keep [gn, gs] w W → ∀ g, bk = some g → ∃ cs, Blk W g 78 cs := fun W s' q k g e => by
    obtain ⟨cs, hcs⟩ := hbk g e
    by_cases eg : g = gs
    · subst eg
      exact hsb q
    · have e1 : g ≠ gn := blkT hcs hp.cl.nu (by decide)
      exact ⟨cs, k.blk hcs (by simp [e1, eg])⟩
  have HBK := Lib.hid hbk2
  have HC := Lib.hid h
  have HT := Lib.hid ht
  clear h ht hp hs hbk hsb hbk2
  by_cases hz : (stpP N l s).2.nx = 0
  · have d : decide ((stpP N l s).2.nx = 0) = true := decide_eq_true hz
    rw [d] at HDO
    go_enter Try.func25, Try.ntmps25
    go_upto_region 3 with fail
    go_region_held3 (fun W => W.cell? ⟨gt, 0, none⟩ = some (.pointer (some ⟨ga, 0, none⟩)) ∧ W.cell? ⟨ga, 0, none⟩ = some (.pointer (some ⟨gp, 0, none⟩)) ∧ W.cell? ⟨gt, 1, none⟩ = some (.pointer (some ⟨gs, 0, none⟩)))
      (first | assumption | (exact ⟨c0, a0, c1⟩) | (exact ⟨k0, ka, k1⟩) | go_keep)
      (first | (go_at_call 14; refine (HDO.out 1).mono ?_; rintro e w2 ⟨rfl, hp2, hs2, hk2'⟩; have hk2 : Keep [gn, gs] w w2 := ((Keep.refl _ w).drewN 1).trans hk2'; have k0 := (hk2.cell (p := ⟨gt, 0, none⟩) hgl hnt).trans c0; have k1 := (hk2.cell (p := ⟨gt, 1, none⟩) hgl hnt).trans c1; have ka := (hk2.cell (p := ⟨ga, 0, none⟩) hal hna).trans a0; have HP2 := Lib.hid hp2; have HS2 := Lib.hid hs2; have HK2 := Lib.hid hk2; clear hp2 hs2 hk2 hk2'))
    have HC2 := Lib.hid (HC.out.keep HK2.out hna hnr)
    have HT2 := Lib.hid (show CsB w2 gt (some ga) (some gs) from HK2.out.blk HT.out hnt)
    have hsz2 := HK2.out.size
    have HB2 := Lib.hid (HBK.out _ _ HS2.out HK2.out)
    have HSE := Lib.hid (fun q => settle_any (HC2.out.drewN q) (HS2.out.drewN q) hN hn (Nat.le_trans hbase hsz2) HB2.out)
    have hgl2 : gt < w2.heap.size := HT2.out.lt
    have hnt2 : gt ∉ ga :: ownLs (.slice A n c) := HC2.out.nin HT2.out (by decide) (by decide)
    clear ka
    go_upto_region 5 with fail
    go_region_held3 (fun W => W.cell? ⟨gt, 0, none⟩ = some (.pointer (some ⟨ga, 0, none⟩)) ∧ W.cell? ⟨gt, 1, none⟩ = some (.pointer (some ⟨gs, 0, none⟩)))
      (first | assumption | (exact ⟨k0, k1⟩) | (exact ⟨m0, m1⟩) | go_keep)
      (first | (go_at_call 55; refine (HSE.out 1).mono ?_; rintro e w3 ⟨A3, c3, n3, rfl, hc3, hk3', hown⟩; have hk3 : Keep (ga :: ownLs (.slice A n c)) w2 w3 := ((Keep.refl _ w2).drewN 1).trans hk3'; have m0 := (hk3.cell (p := ⟨gt, 0, none⟩) hgl2 hnt2).trans k0; have m1 := (hk3.cell (p := ⟨gt, 1, none⟩) hgl2 hnt2).trans k1; have HC3 := Lib.hid hc3; have HK3 := Lib.hid hk3; have HOW := Lib.hid hown; clear hc3 hk3 hk3' hown))
    have HT3 := Lib.hid (show CsB w3 gt (some ga) (some gs) from HK3.out.blk HT2.out hnt2)
    have HP3 := Lib.hid (HP2.out.keepC HC2.out HK3.out)
    have HS3 := Lib.hid (HS2.out.keepC HC2.out HK3.out)
    have hf3 : w3.frozen? ⟨gt, 0, none⟩ = false := Blk.frozen HT3.out 0
    have hk4 := (Keep.refl [gt] w3).setCell (p := ⟨gt, 0, none⟩) (.inl (by simp)) (ptP none)
    have HT4 := Lib.hid (show CsB (w3.setCell ⟨gt, 0, none⟩ (ptP none)) gt none (some gs) from Blk.set HT3.out 0 (ptP none))
    have HP4 := Lib.hid (HP3.out.oneK HT3.out (by decide) (by decide) (by decide) hk4)
    have HS4 := Lib.hid (HS3.out.one HT3.out (by decide) (by decide) hk4)
    have HC4 := Lib.hid (HC3.out.keep hk4 (by simpa using fun e => blkT HT3.out HC3.out.st (by decide) e.symm) (HC3.out.row.off HT3.out (by decide)))
    have HK4 := Lib.hid (((HK2.out.mono (cs := gt :: gn :: gs :: ga :: ownLs (.slice A n c)) (by simp)).trans (HK3.out.mono (cs := gt :: gn :: gs :: ga :: ownLs (.slice A n c)) (fun x hx => by simp only [List.mem_cons] at hx ⊢; exact .inr (.inr (.inr hx))))).trans (hk4.mono (cs := gt :: gn :: gs :: ga :: ownLs (.slice A n c)) (by simp)))
    clear hk4 m1 k0 k1 HSE
    go_wp2
    go_ret
    exact .inr ⟨rfl, hz, HP4.out, HT4.out, HS4.out, HK4.out, A3, c3, n3, HC4.out, fun g q => (HOW.out g q).imp id (fun q => Nat.le_trans hsz2 q)⟩
  · have d : decide ((stpP N l s).2.nx = 0) = false := decide_eq_false hz
    rw [d] at HDO
    go_enter Try.func25, Try.ntmps25
    go_upto_region 3 with fail
    go_region_held3 (fun W => W.cell? ⟨gt, 0, none⟩ = some (.pointer (some ⟨ga, 0, none⟩)) ∧ W.cell? ⟨ga, 0, none⟩ = some (.pointer (some ⟨gp, 0, none⟩)) ∧ W.cell? ⟨gt, 1, none⟩ = some (.pointer (some ⟨gs, 0, none⟩)))
      (first | assumption | (exact ⟨c0, a0, c1⟩) | (exact ⟨k0, ka, k1⟩) | go_keep)
      (first | (go_at_call 14; refine (HDO.out 1).mono ?_; rintro e w2 ⟨rfl, hp2, hs2, hk2'⟩; have hk2 : Keep [gn, gs] w w2 := ((Keep.refl _ w).drewN 1).trans hk2'; have k0 := (hk2.cell (p := ⟨gt, 0, none⟩) hgl hnt).trans c0; have k1 := (hk2.cell (p := ⟨gt, 1, none⟩) hgl hnt).trans c1; have ka := (hk2.cell (p := ⟨ga, 0, none⟩) hal hna).trans a0; have HP2 := Lib.hid hp2; have HS2 := Lib.hid hs2; have HK2 := Lib.hid hk2; clear hp2 hs2 hk2 hk2'))
    go_wp2
    go_ret
    exact .inl ⟨rfl, hz, HC.out.keep HK2.out hna hnr, HP2.out, HK2.out.blk HT.out hnt, HS2.out, HK2.out⟩
/-- a Step that is done, or that nobody began -/
theorem cDo_done {g0 : Nat} {ps : Option Nat} (ht : CsB w gt none ps) :
    Calls Try.prog 25 #[.pointer (some ⟨g0, 0, none⟩), .pointer (some ⟨gt, 0, none⟩)] w fun e w' => e = .returned (.bool true) ∧ w = w' := by
  have c0 : w.cell? ⟨gt, 0, none⟩ = some (.pointer none) := ht.cell 0
  clear ht
  go_enter Try.func25, Try.ntmps25
  go_wp2
  go_ret
  exact ⟨rfl, rfl⟩
theorem cDo_nil (w : World) (g0 : Nat) :
    Calls Try.prog 25 #[.pointer (some ⟨g0, 0, none⟩), .pointer none] w fun e w' => e = .returned (.bool true) ∧ w = w' := by
  go_enter Try.func25, Try.ntmps25
  go_wp2
  go_ret
  exact ⟨rfl, rfl⟩
/-- a Step that has none of the pool's -/
def DoR (gt : Nat) (w : World) (e : Ending) (w' : World) : Prop := e = .returned (.bool true) ∧ CsB w' gt none none ∧ Keep [gt] w w'
set_option maxHeartbeats 8000000 in
theorem cDo_rest {g0 : Nat} (h : CaS w ga gp home A n c zs bk base) (ht : CsB w gt (some ga) none) :
    Calls Try.prog 25 #[.pointer (some ⟨g0, 0, none⟩), .pointer (some ⟨gt, 0, none⟩)] w (DoR gt w) := by
  have c0 : w.cell? ⟨gt, 0, none⟩ = some (.pointer (some ⟨ga, 0, none⟩)) := ht.cell 0
  have c1 : w.cell? ⟨gt, 1, none⟩ = some (.pointer none) := ht.cell 1
  have a0 := h.c0
  have HDO := Lib.hid (fun W => pdo_nil W gp)
  have HSE := Lib.hid (fun q => settle_nil (h.drewN q))
  have HT := Lib.hid ht
  have f0 : w.frozen? ⟨gt, 0, none⟩ = false := Blk.frozen ht 0
  clear h ht
  go_enter Try.func25, Try.ntmps25
  go_upto_region 3 with fail
  go_region_held3 (fun W => W.cell? ⟨gt, 0, none⟩ = some (.pointer (some ⟨ga, 0, none⟩)) ∧ W.cell? ⟨ga, 0, none⟩ = some (.pointer (some ⟨gp, 0, none⟩)) ∧ W.cell? ⟨gt, 1, none⟩ = some (.pointer none))
    (first | assumption | (exact ⟨c0, a0, c1⟩) | go_keep)
    (first | (go_at_call 14; refine (HDO.out _).mono ?_; rintro e w2 ⟨rfl, rfl⟩))
  go_upto_region 5 with fail
  go_region_held3 (fun W => W.cell? ⟨gt, 0, none⟩ = some (.pointer (some ⟨ga, 0, none⟩)) ∧ W.cell? ⟨gt, 1, none⟩ = some (.pointer none))
    (first | assumption | (exact ⟨c0, c1⟩) | go_keep)
    (first | (go_at_call 55; refine (HSE.out 2).mono ?_; rintro e w3 ⟨rfl, rfl⟩))
  have hf3 : (w.drewN 2).frozen? ⟨gt, 0, none⟩ = false := f0
  go_wp2
  go_ret
  exact ⟨rfl, Blk.set (show Blk (w.drewN 2) gt _ _ from HT.out) 0 (ptP none), ((Keep.refl [gt] w).drewN 2).setCell (p := ⟨gt, 0, none⟩) (.inl (by simp)) (ptP none)⟩
end
end Go.Proofs.Ytmbceafeonjffaa
