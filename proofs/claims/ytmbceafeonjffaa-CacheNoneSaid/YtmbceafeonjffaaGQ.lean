/-
  Several small texts in one: CaL, CaM, CaN, CaO. Conditions stand in each theorem.
-/
import Derived.Test.YtmbceafeonjffaaCaK
import Derived.Deep.Slices
import Derived.Lib.SmallJoins
namespace Go.Proofs.Ytmbceafeonjffaa
open Go.RowKit Go.Deep Plain
set_option linter.unusedVariables false
set_option linter.unusedSimpArgs false
set_option maxRecDepth 100000
section
variable {w w' : World} {ga gp gc gn gs gb gt N home n c base : Nat} {A : Option Addr} {zs : List Int} {bk : Option Nat} {size : Int} {l : List Int} {s : Ps}
theorem StW.isb {W : World} (q : StW W gs gc N s) : ∃ cs, Blk W gs 78 cs := by
  obtain ⟨⟨gv, q, _⟩, _⟩ := q
  exact ⟨_, q.blk⟩
/-- what goes back stays a Step -/
theorem bk_keep (hp : PoS w gp gc gn N size l) (hbk : ∀ g, bk = some g → ∃ cs, Blk w g 78 cs) (q : StW w' gs gc N s) (k : Keep [gn, gs] w w') : ∀ g, bk = some g → ∃ cs, Blk w' g 78 cs := fun g e => by
  obtain ⟨cs, hcs⟩ := hbk g e
  by_cases eg : g = gs
  · subst eg
    exact q.isb
  · have e1 : g ≠ gn := blkT hcs hp.cl.nu (by decide)
    exact ⟨cs, k.blk hcs (by simp [e1, eg])⟩
/-- what run tells and leaves -/
def RunC (ga gp gc gn gs gt N home : Nat) (size : Int) (l : List Int) (s : Ps) (A : Option Addr) (n c : Nat) (zs : List Int) (bk : Option Nat) (base : Nat) (w : World) (e : Ending) (w' : World) : Prop :=
  (∃ k, 1 ≤ k ∧ k ≤ 299 ∧ (itP N l s k).2.nx = 0 ∧ (∀ j, 0 < j → j < k → (itP N l s j).2.nx ≠ 0) ∧ e = .returned (.int .i64 k) ∧ PoS w' gp gc gn N size (itP N l s k).1 ∧ CsB w' gt none (some gs) ∧ StW w' gs gc N (itP N l s k).2 ∧ Keep (gt :: gn :: gs :: ga :: ownLs (.slice A n c)) w w' ∧
    ∃ A' c' n', CaS w' ga gp (homF home (itP N l s k).2) A' n' c' (zs ++ gotF (itP N l s k).2) (if bk = some gs then none else bk) base ∧ (∀ g, (Value.slice A' n' c').ownBlock = some g → (Value.slice A n c).ownBlock = some g ∨ w.heap.size ≤ g)) ∨
  (e = .returned (.int .i64 (-1)) ∧ (∀ j, 0 < j → j ≤ 299 → (itP N l s j).2.nx ≠ 0) ∧ CaS w' ga gp home A n c zs bk base ∧ PoS w' gp gc gn N size (itP N l s 299).1 ∧ CsB w' gt (some ga) (some gs) ∧ StW w' gs gc N (itP N l s 299).2 ∧ Keep [gn, gs] w w')
def RunI (ga gp gc gn gs gt N home : Nat) (size : Int) (l : List Int) (s : Ps) (A : Option Addr) (n c : Nat) (zs : List Int) (bk : Option Nat) (base : Nat) (w : World) (s5 : Value) (wr : World) : Prop :=
  ∃ k : Nat, k ≤ 299 ∧ s5 = .int .i64 ((k + 1 : Nat) : Int) ∧ CaS wr ga gp home A n c zs bk base ∧ PoS wr gp gc gn N size (itP N l s k).1 ∧ CsB wr gt (some ga) (some gs) ∧ StW wr gs gc N (itP N l s k).2 ∧ Keep [gn, gs] w wr ∧ (∀ g, bk = some g → ∃ cs, Blk wr g 78 cs) ∧ (∀ j, 0 < j → j ≤ k → (itP N l s j).2.nx ≠ 0)
set_option maxHeartbeats 8000000 in
theorem cRun_some {g0 : Nat} (h : CaS w ga gp home A n c zs bk base) (hp : PoS w gp gc gn N size l) (ht : CsB w gt (some ga) (some gs)) (hs : StW w gs gc N s) (hN : N ≤ 32) (hn : n ≤ 100000) (hbase : base ≤ w.heap.size) (hbk : ∀ g, bk = some g → ∃ cs, Blk w g 78 cs) :
    Calls Try.prog 31 #[.pointer (some ⟨g0, 0, none⟩), .pointer (some ⟨gt, 0, none⟩)] w (RunC ga gp gc gn gs gt N home size l s A n c zs bk base w) := by
  have HH := Lib.hid h
  have HP := Lib.hid hp
  have HT := Lib.hid ht
  have HS := Lib.hid hs
  have HBK := Lib.hid hbk
  clear h hp ht hs hbk
  go_enter Try.func31, Try.ntmps31
  go_wp2
  go_loopw [5] (fun s5 wr => RunI ga gp gc gn gs gt N home size l s A n c zs bk base w s5 wr) (fun s5 _ => 300 - (intOf s5).toNat)
  case atStart => exact ⟨0, by omega, rfl, HH.out, HP.out, HT.out, HS.out, Keep.refl _ _, HBK.out, fun j h1 h2 => by omega⟩
  case round =>
    obtain ⟨k, hk, rfl, hc, hp, ht, hs, hkp, hbk, hnd⟩ := hrel
    have hsz := hkp.size
    have HD := Lib.hid (cDo_some (g0 := g0) hc hp ht hs hN hn (Nat.le_trans hbase hsz) hbk)
    have HC1 := Lib.hid hc
    have HP1 := Lib.hid hp
    have HT1 := Lib.hid ht
    have HS1 := Lib.hid hs
    have HKP := Lib.hid hkp
    have HB1 := Lib.hid hbk
    have HND := Lib.hid hnd
    have HIT := Lib.hid (show itP N l s (k + 1) = stpP N (itP N l s k).1 (itP N l s k).2 from rfl)
    clear hc hp ht hs hkp hnd HH HP HS HT HBK hbk
    by_cases hlt : k < 299
    · have d : decide (((k + 1 : Nat) : Int) < 300) = true := decide_eq_true (by omega)
      have d' : decide ((k : Int) + 1 < 300) = true := decide_eq_true (by omega)
      by_cases hx : (stpP N (itP N l s k).1 (itP N l s k).2).2.nx = 0
      · have HX := Lib.hid hx
        have HDD := Lib.hid (HD.out.mono (fun e w2 hdo => hdo.resolve_left (fun q => q.2.1 hx)))
        clear hx HD
        go_wp2_with (go_at_call 25; refine (HDD.out).mono ?_; rintro e w2 ⟨rfl, hx, q1, q2, q3, q4, q5⟩; have Q1 := Lib.hid q1; have Q2 := Lib.hid q2; have Q3 := Lib.hid q3; have Q4 := Lib.hid q4; have Q5 := Lib.hid q5; clear q1 q2 q3 q4 q5 hx)
        refine bodyPost_ret (v := .int .i64 ((k : Int) + 1)) (by first | rfl | kernel_rfl | (simp [results, go_sem]; done)) rfl ?_
        refine .inl ⟨k + 1, by omega, by omega, by rw [HIT.out]; exact HX.out, fun j h1 h2 => HND.out j h1 (by omega), rfl, by rw [HIT.out]; exact Q1.out, Q2.out, by rw [HIT.out]; exact Q3.out, (HKP.out.mono (by simp)).trans Q4.out, ?_⟩
        obtain ⟨A', c', n', r1, r2⟩ := Q5.out
        exact ⟨A', c', n', by rw [HIT.out]; exact r1, fun g q => (r2 g q).imp id (fun q => Nat.le_trans hsz q)⟩
      · have HX := Lib.hid hx
        have HDD := Lib.hid (HD.out.mono (fun e w2 hdo => hdo.resolve_right (fun q => hx q.2.1)))
        clear hx HD
        go_wp2_with (go_at_call 25; refine (HDD.out).mono ?_; rintro e w2 ⟨rfl, hx, q1, q2, q3, q4, q5⟩; have Q1 := Lib.hid q1; have Q2 := Lib.hid q2; have Q3 := Lib.hid q3; have Q4 := Lib.hid q4; have Q5 := Lib.hid q5; clear q1 q2 q3 q4 q5 hx)
        go_roundw
        case rel => exact ⟨k + 1, by omega, by go_num, Q1.out, by rw [HIT.out]; exact Q2.out, Q3.out, by rw [HIT.out]; exact Q4.out, HKP.out.trans Q5.out, bk_keep HP1.out HB1.out Q4.out Q5.out, fun j h1 h2 => by
          by_cases e : j = k + 1
          · subst e; rw [HIT.out]; exact HX.out
          · exact HND.out j h1 (by omega)⟩
        case measure => simp [intOf]; omega
    · obtain rfl : k = 299 := by omega
      go_wp2
      go_ret
      exact .inr ⟨rfl, HND.out, HC1.out, HP1.out, HT1.out, HS1.out, HKP.out⟩
set_option maxHeartbeats 8000000 in
/-- a Step that has none of the pool's: done at once -/
theorem cRun_rest {g0 : Nat} (h : CaS w ga gp home A n c zs bk base) (ht : CsB w gt (some ga) none) :
    Calls Try.prog 31 #[.pointer (some ⟨g0, 0, none⟩), .pointer (some ⟨gt, 0, none⟩)] w fun e w' => e = .returned (.int .i64 1) ∧ CsB w' gt none none ∧ Keep [gt] w w' := by
  have HD := Lib.hid (cDo_rest (g0 := g0) h ht)
  clear h ht
  go_enter Try.func31, Try.ntmps31
  go_wp2
  go_loopw [5] (fun s5 wr => s5 = .int .i64 1 ∧ wr = w) (fun s5 _ => 300 - (intOf s5).toNat)
  case atStart => exact ⟨rfl, rfl⟩
  case round =>
    obtain ⟨rfl, rfl⟩ := hrel
    go_wp2_with (go_at_call 25; refine (HD.out).mono ?_; rintro e w2 ⟨rfl, h1, h2⟩; have H1 := Lib.hid h1; have H2 := Lib.hid h2; clear h1 h2)
    refine bodyPost_ret (v := .int .i64 1) (by first | rfl | kernel_rfl | (simp [results, go_sem]; done)) rfl ?_
    exact ⟨rfl, H1.out, H2.out⟩
end
end Go.Proofs.Ytmbceafeonjffaa

namespace Go.Proofs.Ytmbceafeonjffaa
open Go.RowKit Go.Deep Plain
set_option linter.unusedVariables false
set_option linter.unusedSimpArgs false
set_option maxRecDepth 100000
set_option maxHeartbeats 4000000 in
theorem alike_eq {w : World} {A B : Option Addr} {n c c2 : Nat} {zs : List Int} (h : RdJ w A n c zs) (h2 : RdJ w B n c2 zs) (hn : n ≤ 1000000) :
    Calls Try.prog 36 #[.slice A n c, .slice B n c2] w fun e w' => e = .returned (.bool true) ∧ ∃ q, w' = w.drewN q := by
  have hl := h.len
  have HR := Lib.hid h.rd
  have HS := Lib.hid h2.rd
  have d0 : ((n : Int) != (n : Int)) = false := by simp
  have HL := Lib.hid hl
  clear h h2 hl
  go_enter Try.func36, Try.ntmps36
  go_wp2
  go_loopw [5] (fun s5 wr => ∃ i q : Nat, i ≤ n ∧ s5 = .int .i64 i ∧ wr = w.drewN q) (fun s5 _ => n + 1 - (intOf s5).toNat)
  case atStart => exact ⟨0, 0, by omega, rfl, rfl⟩
  case round =>
    obtain ⟨i, q, hi, rfl, rfl⟩ := hrel
    by_cases hlt : i < n
    · have d : decide ((i : Int) < (n : Int)) = true := decide_eq_true (by omega)
      have d' : decide (i < n) = true := decide_eq_true hlt
      obtain ⟨g, o, rfl, hg, hc⟩ := HR.out (by rw [HL.out]; omega)
      obtain ⟨g2, o2, rfl, hg2, hc2⟩ := HS.out (by rw [HL.out]; omega)
      have p0 : (w.drewN q).cell? ⟨g, o + i, none⟩ = some (.int .i64 (zs.getD i 0)) := hc i (by rw [HL.out]; omega)
      have p1 : (w.drewN q).cell? ⟨g2, o2 + i, none⟩ = some (.int .i64 (zs.getD i 0)) := hc2 i (by rw [HL.out]; omega)
      generalize zs.getD i 0 = x at *
      have i1 : (i : Int) < (n : Int) := by omega
      clear hc hc2 HR HS
      have HQ := Lib.hid (show (w.drewN q).drew = w.drewN (q + 1) from rfl)
      generalize w.drewN q = w1 at *
      go_upto_region 6 with fail
      go_region
      have q0 : w1.drew.cell? ⟨g, o + i, none⟩ = some (.int .i64 x) := p0
      rw [HQ.out]
      go_wp2
      go_roundw
      case rel => exact ⟨i + 1, q + 1, by omega, by go_num, rfl⟩
      case measure => simp [intOf]; omega
    · have d : decide ((i : Int) < (n : Int)) = false := decide_eq_false (by omega)
      have d' : decide (i < n) = false := decide_eq_false hlt
      go_wp2
      go_ret
      exact ⟨rfl, q, rfl⟩
def fl0 : Ps := ⟨1, 0, 2, 8, List.replicate 32 0, 0, false, false, []⟩
theorem fl1_nx : (itP 2 (newL 40) fl0 1).2.nx ≠ 0 := by decide +kernel
theorem fl2_nx : (itP 2 (newL 40) fl0 2).2.nx = 0 := by decide +kernel
theorem fl2_got : gotF (itP 2 (newL 40) fl0 2).2 = [7, 6, 5, 4, 3, 2, 1, 0] := by decide +kernel
theorem fl2_free : (freeL 2 (itP 2 (newL 40) fl0 2).1).length = 32 := by decide +kernel
section
variable {w w' : World} {ga gp gc gn gs gb gt N home n c base : Nat} {A : Option Addr} {zs : List Int} {bk : Option Nat} {size : Int} {l : List Int} {s : Ps} {e : Ending}
theorem runC2 (h : RunC ga gp gc gn gs gt N home size l s A n c zs bk base w e w') (h1 : (itP N l s 1).2.nx ≠ 0) (h2 : (itP N l s 2).2.nx = 0) :
    e = .returned (.int .i64 2) ∧ PoS w' gp gc gn N size (itP N l s 2).1 ∧ Keep (gt :: gn :: gs :: ga :: ownLs (.slice A n c)) w w' ∧ ∃ A' c' n', CaS w' ga gp (homF home (itP N l s 2).2) A' n' c' (zs ++ gotF (itP N l s 2).2) (if bk = some gs then none else bk) base := by
  rcases h with ⟨k, hk1, hk2, hx, hnd, rfl, q1, q2, q3, q4, A', c', n', q5, _⟩ | ⟨_, hnd, _⟩
  · have h2' : k = 2 := by
      rcases Nat.lt_trichotomy k 2 with q | q | q
      · obtain rfl : k = 1 := by omega
        exact absurd hx h1
      · exact q
      · exact absurd h2 (hnd 2 (by omega) q)
    subst h2'
    exact ⟨rfl, q1, q4, A', c', n', q5⟩
  · exact absurd h2 (hnd 2 (by omega) (by omega))
end
abbrev sevenC : Array Value := #[.int .i64 7, .int .i64 6, .int .i64 5, .int .i64 4, .int .i64 3, .int .i64 2, .int .i64 1]
abbrev sevenO : Obj := .cells sevenC 3
set_option maxHeartbeats 8000000 in
theorem fills_any (w : World) : Calls Try.prog 23 #[] w fun e w' => e = .returned (.bool true) ∧ Below w.heap.size w w' := by
  have HN := Lib.hid (pnew_any 40 (by omega) (by omega) w)
  go_enter Try.func23, Try.ntmps23
  go_upto_region 2 with (go_at_call 9; refine (HN.out).mono ?_; rintro e w1 ⟨gp, gc, gn, rfl, hp, hb, hgp, hgc, hgn⟩; have HP := Lib.hid hp; have HB := Lib.hid hb; clear hp hb)
  have HCN := Lib.hid (cnew_any HP.out (by decide) (by decide) 0)
  go_upto_region 3 with (go_at_call 24; refine (HCN.out).mono ?_; rintro e w2 ⟨ga, K, hga, hK, hKx, rfl, hcs, hb2⟩; have HCS := Lib.hid hcs; have HB2 := Lib.hid (bthen HB.out hb2); have HP2 := Lib.hid (HP.out.below hb2); have HKX := Lib.hid hKx; clear hcs hb2 hKx)
  obtain rfl : K = 0 := by have := HKX.out 0 (by omega) rfl; simpa using this
  have hg1 : w.heap.size ≤ w1.heap.size := HB.out.size
  have hg2 : w.heap.size ≤ w2.heap.size := HB2.out.size
  have HFI := Lib.hid (fill_take (HCS.out w.heap.size) HP2.out (by decide) (by decide) (by omega))
  clear HKX HCN HN HP HB
  go_upto_region 4 with (first | (go_at_call 26; refine (HFI.out).mono ?_; rintro e w3 ⟨gt, gs, wd, rfl, hgt, hgs, hwd, hwe, ht, hst, hb3⟩; obtain rfl : wd = 0 := (by simpa using hwe); have HB3 := Lib.hid (bthen HB2.out hb3); have HRU := Lib.hid (cRun_some (g0 := ga) ((HCS.out w.heap.size).below hb3) (HP2.out.below hb3) ht (show StW w3 gs gc 2 fl0 from hst) (by decide) (by omega) HB3.out.size (fun g q => (by cases q))); clear ht hst hb3 hwe hwd) | (go_at_call 31; refine (HRU.out).mono ?_; rintro e w4 hrun; obtain ⟨rfl, hp4, hk4, A4, c4, n4, hc4⟩ := runC2 hrun (show (itP 2 (newL 40) fl0 1).2.nx ≠ 0 from fl1_nx) fl2_nx; have HP4 := Lib.hid hp4; have HC4 := Lib.hid hc4; have HB4 := Lib.hid (hk4.below HB3.out (Nat.le_refl _) (fun x hx => by simp [ownLs, Value.ownBlock] at hx; omega)); clear hrun hp4 hk4 hc4))
  obtain ⟨hm, b4, hc4⟩ : ∃ hm b4, CaS w4 ga gp hm A4 n4 c4 [7, 6, 5, 4, 3, 2, 1, 0] b4 w.heap.size := ⟨_, _, by
    have q := HC4.out
    have eq : gotF (itP (wdsN 40) (newL 40) fl0 2).2 = [7, 6, 5, 4, 3, 2, 1, 0] := fl2_got
    rw [show ([] : List Int) ++ gotF (itP (wdsN 40) (newL 40) fl0 2).2 = [7, 6, 5, 4, 3, 2, 1, 0] by rw [eq]; rfl] at q
    exact q⟩
  obtain rfl : n4 = 8 := by have q : 8 = n4 := hc4.row.len; exact q.symm
  have hfr : (freeL (wdsN 40) (itP (wdsN 40) (newL 40) fl0 2).1).length = 32 := fl2_free
  have HFR := Lib.hid hfr
  have HTOP := Lib.hid (top_any hc4 (by omega))
  have HPOP := Lib.hid (fun q => pop_any (hc4.drewN q) (by omega))
  have HC5 := Lib.hid (fun q => (hc4.drewN q).st)
  have hga4 : w.heap.size ≤ ga := by omega
  generalize (itP (wdsN 40) (newL 40) fl0 2).1 = L2 at *
  clear HC4 hc4 hfr HFI HRU HCS HP2
  have e0 : topF [7, 6, 5, 4, 3, 2, 1, 0] = 0 := rfl
  have e1 : decide (0 < 8) = true := rfl
  rw [e0, e1] at HTOP
  rw [e0, e1] at HPOP
  go_upto_region 5 with (go_at_call 53; refine (HTOP.out).mono ?_; rintro e w5 ⟨rfl, m5, rfl⟩; have HP5 := Lib.hid (HP4.out.drewN m5); have HB5 := Lib.hid (bthen HB4.out (bdrewN w4 m5)); have HPO := Lib.hid (HPOP.out m5); have HST5 := Lib.hid (HC5.out m5))
  clear HTOP HPOP HP4 HB4 HC5
  generalize w4.drewN m5 = w5 at *
  go_upto_region 6 with (go_at_call 27; refine (HPO.out).mono ?_; rintro e w6 ⟨rfl, hc6, hk6⟩; have HP6 := Lib.hid (HP5.out.oneK HST5.out (by decide) (by decide) (by decide) hk6); have HC6 := Lib.hid hc6; have HB6 := Lib.hid (hk6.below HB5.out (Nat.le_refl _) (fun x hx => (by simp at hx; omega))); clear hc6 hk6)
  have HAL := Lib.hid (all_any HC6.out (by omega))
  have hrow : ∀ W : World, RdJ (W.alloc sevenO) (some ⟨W.heap.size, 0, none⟩) 7 7 [7, 6, 5, 4, 3, 2, 1] := fun W => ⟨rfl, fun _ => ⟨W.heap.size, 0, rfl, (Blk.new W 3 sevenC).lt, fun j hj => by
    have hj' : j < 7 := hj
    have hb := Blk.new W 3 sevenC
    rw [Nat.zero_add]
    rcases (show j = 0 ∨ j = 1 ∨ j = 2 ∨ j = 3 ∨ j = 4 ∨ j = 5 ∨ j = 6 by omega) with rfl | rfl | rfl | rfl | rfl | rfl | rfl
    · exact hb.cell 0
    · exact hb.cell 1
    · exact hb.cell 2
    · exact hb.cell 3
    · exact hb.cell 4
    · exact hb.cell 5
    · exact hb.cell 6⟩, fun e => by cases e⟩
  have HROW := Lib.hid hrow
  clear hrow HPO
  go_wp2_with (first | (go_at_call 35; refine (HAL.out).mono ?_; rintro e w7 ⟨A7, c7, rfl, hr7, hb7⟩; have hal := ball w7 sevenO; have HB8 := Lib.hid (bthen (bthen HB6.out hb7) hal); have HP8 := Lib.hid ((HP6.out.below hb7).below hal); have HLK := Lib.hid (alike_eq (hr7.below hal) (HROW.out w7) (by omega)); clear hr7 hb7 hal) | (go_at_call 36; refine (HLK.out).mono ?_; rintro e w9 ⟨rfl, q9, rfl⟩; have HFE := Lib.hid (free_any (HP8.out.drewN q9) (by decide)); have HB9 := Lib.hid (bthen HB8.out (bdrewN _ q9))) | (go_at_call 16; refine (HFE.out).mono ?_; rintro e w10 ⟨A10, m10, c10, rfl, ho, hb⟩; have hm10 := ho.len; rw [HFR.out] at hm10; subst hm10; have HB10 := Lib.hid (bthen HB9.out hb); clear ho hb))
  go_ret
  exact ⟨rfl, HB10.out⟩
end Go.Proofs.Ytmbceafeonjffaa

namespace Go.Proofs.Ytmbceafeonjffaa
open Go.RowKit Go.Deep Plain
set_option linter.unusedVariables false
set_option linter.unusedSimpArgs false
set_option maxRecDepth 100000
section
variable {w w' : World} {ga gp gc gn gs gb gt gf N home n c base : Nat} {A : Option Addr} {zs : List Int} {bk ca : Option Nat} {size : Int} {l : List Int} {s : Ps}
/-- what Again of a Fill that found none begins -/
def AgOk (ga gc N : Nat) (s : Ps) (w : World) (e : Ending) (w' : World) : Prop :=
  ∃ gt g2, e = .returned (.pointer (some ⟨gt, 0, none⟩)) ∧ w.heap.size ≤ gt ∧ w.heap.size ≤ g2 ∧ CsB w' gt (some ga) (some g2) ∧ StW w' g2 gc N (sameP N s) ∧ Below w.heap.size w w'
set_option maxHeartbeats 8000000 in
theorem again_yes (h : CaS w ga gp home A n c zs bk base) (hp : PoS w gp gc gn N size l) (hN : N ≤ 32) (hf : CsB w gf ca (some gs)) (hs : StW w gs gc N s) (hno : s.no = true) :
    Calls Try.prog 34 #[.pointer (some ⟨ga, 0, none⟩), .pointer (some ⟨gf, 0, none⟩)] w (AgOk ga gc N s w) := by
  have HNO := Lib.hid (cnone_any hf hs)
  rw [hno] at HNO
  have a0 := h.c0
  have c1 : w.cell? ⟨gf, 1, none⟩ = some (.pointer (some ⟨gs, 0, none⟩)) := hf.cell 1
  have HSA := Lib.hid (fun q => pSame_any (hp.drewN q) hN (hs.drewN q) hno)
  have hal : ga < w.heap.size := h.st.lt
  have hfl : gf < w.heap.size := hf.lt
  clear h hp hf hs hno
  go_enter Try.func34, Try.ntmps34
  go_upto_region 3 with (go_at_call 33; refine (HNO.out).mono ?_; rintro e w1 ⟨rfl, rfl⟩)
  go_region_held3 (fun W => W.cell? ⟨ga, 0, none⟩ = some (.pointer (some ⟨gp, 0, none⟩)) ∧ W.cell? ⟨gf, 1, none⟩ = some (.pointer (some ⟨gs, 0, none⟩)))
    (first | assumption | (exact ⟨a0, c1⟩) | (exact ⟨k0, k1⟩) | go_keep)
    (first | (go_at_call 19; refine (HSA.out 1).mono ?_; rintro e w2 ⟨rfl, hs2, hb2⟩; have hbb := bthen (bdrewN w 1) hb2; have k0 := (hbb.cell (p := ⟨ga, 0, none⟩) hal).trans a0; have k1 := (hbb.cell (p := ⟨gf, 1, none⟩) hfl).trans c1; have HS2 := Lib.hid hs2; have HB2 := Lib.hid hbb; clear hs2 hb2 hbb))
  clear k0 k1
  have hb := ball w2 (.cells #[.pointer (some ⟨ga, 0, none⟩), .pointer (some ⟨w.heap.size, 0, none⟩)] 89)
  have HT := Lib.hid (show CsB (w2.alloc (.cells #[.pointer (some ⟨ga, 0, none⟩), .pointer (some ⟨w.heap.size, 0, none⟩)] 89)) w2.heap.size (some ga) (some w.heap.size) from Blk.new w2 _ _)
  have HS3 := Lib.hid (show StW _ w.heap.size gc N (sameP N s) from HS2.out.below hb)
  have HB3 := Lib.hid (bthen HB2.out hb)
  have hsz : w.heap.size ≤ w2.heap.size := HB2.out.size
  clear hb
  go_wp2
  go_ret
  exact ⟨w2.heap.size, w.heap.size, rfl, hsz, Nat.le_refl _, HT.out, HS3.out, HB3.out⟩
end
end Go.Proofs.Ytmbceafeonjffaa

namespace Go.Proofs.Ytmbceafeonjffaa
open Go.ChangeShapes Go.WideShapes Go.ChangeAt Go.RowKit Go.Deep Plain
set_option linter.unusedVariables false
set_option linter.unusedSimpArgs false
set_option maxRecDepth 100000
theorem lst3 {α : Type} {l : List α} (h : l.length = 3) : ∃ a0 a1 a2, l = [a0, a1, a2] := by
  rcases l with _ | ⟨a0, l⟩
  · simp at h
  rcases l with _ | ⟨a1, l⟩
  · simp at h
  rcases l with _ | ⟨a2, l⟩
  · simp at h
  rcases l with _ | ⟨b, l⟩
  · exact ⟨a0, a1, a2, rfl⟩
  · simp at h

structure A9 where
  what : Int
  wk : Int
  n : Int
def A9.cs (x : A9) : List Value := [.int .i64 x.what, .int .i64 x.wk, .int .i64 x.n]
structure A9.ok (x : A9) : Prop where
  w1 : (Lit.int .i64 x.what).wf = true
  w2 : (Lit.int .i64 x.wk).wf = true
  w3 : (Lit.int .i64 x.n).wf = true
def a90 : A9 := ⟨0, 0, 0⟩
/-- a row of Acts reads as a list -/
def RdA9 (w : World) (A : Option Addr) (L : List A9) : Prop :=
  0 < L.length → ∃ b off, A = some ⟨b, off, none⟩ ∧ b < w.heap.size ∧ ∀ i, i < L.length → At w ⟨b, off + i * 3, none⟩ (L.getD i a90).cs
set_option maxHeartbeats 2000000 in
theorem trod_a9 {H : Type} {enc : TypeId × Value → H} {W : World} {m : Nat} {l : List Value} {y : DataW H × List MemPlace} (hl : l.length = 3) (h : DataW.trod enc Try.prog W 0 (fun _ => true) true m 54 l = some y) : ∃ x : A9, l = x.cs ∧ x.ok := by
  have ci : Try.prog.cellsOf 3 = 1 := by kernel_rfl
  obtain ⟨c0, c1, c2, rfl⟩ := lst3 hl
  obtain ⟨xs, n, _, hx, _, hlen, hg⟩ := DataW.trod_struct Try.underlying54 h
  obtain ⟨y0, y1, y2, rfl⟩ := lst3 hlen
  have g0 : DataW.trod enc Try.prog W 0 (fun _ => true) true n 3 [c0] = some y0 := by simpa [Value.cells, ci] using hg 0 _ rfl
  have g1 : DataW.trod enc Try.prog W 0 (fun _ => true) true n 3 [c1] = some y1 := by simpa [Value.cells, ci] using hg 1 _ rfl
  have g2 : DataW.trod enc Try.prog W 0 (fun _ => true) true n 3 [c2] = some y2 := by simpa [Value.cells, ci] using hg 2 _ rfl
  obtain ⟨a0, e0, _, w0⟩ := DataW.trod_int Try.underlying3 g0
  obtain ⟨a1, e1, _, w1⟩ := DataW.trod_int Try.underlying3 g1
  obtain ⟨a2, e2, _, w2⟩ := DataW.trod_int Try.underlying3 g2
  simp at e0 e1 e2
  subst e0 e1 e2
  exact ⟨⟨a0, a1, a2⟩, rfl, ⟨w0, w1, w2⟩⟩
theorem open_acts9 {H : Type} {enc : TypeId × Value → H} {W : World} {a : Option Addr} {len cap : Nat} {d : DataW H} {p : List MemPlace} (h : DataW.Trod enc Try.prog W 0 (fun _ => true) true 46 (.slice a len cap) d p) :
    ∃ L : List A9, L.length = len ∧ len ≤ cap ∧ cap ≤ maxLen ∧ RdA9 W a L ∧ ∀ x ∈ L, x.ok := by
  have hC : Try.prog.cellsOf 54 = 3 := by kernel_rfl
  obtain ⟨fuel, hf⟩ := h
  rcases Go.Deep.open_slice Try.underlying46 hf with ⟨hcs, _⟩ | ⟨x, l, c, m, n, D, Pl, hcs, _, hl, hm, hmm, hx, hi⟩
  · simp [Value.cells] at hcs
    obtain ⟨rfl, rfl, rfl⟩ := hcs
    exact ⟨[], rfl, Nat.le_refl _, Nat.zero_le _, fun h => absurd h (by simp), fun x hx => (by cases hx)⟩
  · simp [Value.cells] at hcs
    obtain ⟨rfl, rfl, rfl⟩ := hcs
    have hmc : m = cap := by simpa using hmm
    subst hmc
    have key : ∀ i, ∃ t : A9, i < len → (∀ j v, t.cs[j]? = some v → W.cell? ((x.add (i * 3)).add j) = some v) ∧ t.ok := by
      intro i
      by_cases hil : i < len
      · obtain ⟨cs', hc, ht'⟩ := hi i (by omega)
        rw [hC] at hc
        obtain ⟨_, hcl, hat⟩ := World.cells?_some hc
        obtain ⟨y, rfl, hok⟩ := trod_a9 hcl ht'
        refine ⟨y, fun _ => ⟨fun j v hv => ?_, hok⟩⟩
        have hj : j < 3 := (List.getElem?_eq_some_iff.1 hv).1
        rw [hat j hj]; exact hv
      · exact ⟨a90, fun h => absurd h hil⟩
    obtain ⟨T, hT⟩ := Classical.axiomOfChoice key
    refine ⟨(List.range len).map T, by simp, hl, hm, fun hp => ?_, fun y hy => ?_⟩
    · rw [List.length_map, List.length_range] at hp
      obtain ⟨b, off, spot⟩ := x
      have h0 := (hT 0 hp).1 0 _ rfl
      have hspot : spot = none := by simpa [Addr.add] using World.cell?_spot h0
      subst hspot
      refine ⟨b, off, rfl, ?_, fun i hi j v hv => ?_⟩
      · have e : ((⟨b, off, none⟩ : Addr).add (0 * 3)).add 0 = ⟨b, off, none⟩ := by simp [Addr.add]
        rw [e] at h0
        exact block_lt_of_cell h0
      · rw [List.length_map, List.length_range] at hi
        have e : ((List.range len).map T).getD i a90 = T i := by simp [List.getD, hi]
        rw [e] at hv
        have := (hT i hi).1 j v hv
        rw [addr_add] at this
        exact this
    · obtain ⟨i, hi, rfl⟩ := List.mem_map.1 hy
      exact (hT i (by simpa using hi)).2
theorem RdA9.below {w w' : World} {A : Option Addr} {L : List A9} (h : RdA9 w A L) (hb : Below w.heap.size w w') : RdA9 w' A L := fun hp => by
  obtain ⟨b, off, e, hl, hc⟩ := h hp
  exact ⟨b, off, e, Nat.lt_of_lt_of_le hl hb.size, fun i hi => (hc i hi).below hb hl⟩
end Go.Proofs.Ytmbceafeonjffaa
