/-
  Package pool: a step of a Back that would give back. Conditions stand in each theorem.
-/
import Derived.Test.YtmbceafeonjffaaPoX
namespace Go.Proofs.Ytmbceafeonjffaa
open Go.RowKit Plain
set_option linter.unusedVariables false
set_option linter.unusedSimpArgs false
set_option maxRecDepth 100000
theorem Cl.no32 {w : World} {gc gn n : Nat} {l : List Int} (h : Cl w gc gn n l) (o : Nat) (v : Int) : w.cell? ⟨gn, o, none⟩ ≠ some (.int .u32 v) := fun e => by
  rw [h.nu.cell o] at e
  simp only [List.getElem?_toArray, List.getElem?_map] at e
  cases q : l[o]? with
  | none => rw [q] at e; cases e
  | some y => rw [q] at e; injection e with e; injection e with e; cases e
theorem GiR.gn {w w' : World} {gs gc gn n : Nat} {l : List Int} {gv : Value} {gi : List (Nat × Int)} (h : GiR w gs gv gi) (hc : Cl w gc gn n l) (hk : Keep [gn, gs] w w') : GiR w' gs gv gi := h.keep hk (fun g hg ⟨o, v, hv⟩ => by
  intro hm
  rcases List.mem_cons.1 hm with e | e
  · subst e; exact hc.no32 o v hv
  · rw [List.mem_singleton] at e; exact hg e)
set_option maxHeartbeats 4000000 in
theorem give_any {w : World} {gs gc gn n : Nat} {gv : Value} {l : List Int} {s : Ps} (hc : Cl w gc gn n l) (hs : StP w gs gc gv s) (hg : GiR w gs gv s.gi) (h0 : 0 < s.gi.length) (hx : s.nx = 5) (h1 : (s.gi.getD 0 (0, 0)).1 < n) (hn : n ≤ 32) (k0 : 0 ≤ (s.gi.getD 0 (0, 0)).2) (k1 : (s.gi.getD 0 (0, 0)).2 < 4294967296)
    (hr0 : 0 ≤ s.rd.getD (s.gi.getD 0 (0, 0)).1 0) (hr1 : s.rd.getD (s.gi.getD 0 (0, 0)).1 0 < 18446744073709551616) (hgc : gc ≠ gs) (hgn : gn ≠ gs) :
    Calls Try.prog 50 #[.pointer (some ⟨gs, 0, none⟩)] w fun e w' => e = .returned (.tuple #[]) ∧ Cl w' gc gn n (stpP n l s).1 ∧ (∃ gv', StP w' gs gc gv' (stpP n l s).2 ∧ GiR w' gs gv' (stpP n l s).2.gi) ∧ Keep [gn, gs] w w' := by
  have HG := Lib.hid hg
  obtain ⟨A, gl, c, rfl, hl, hnc, hc1, hcell⟩ := hg
  obtain ⟨gg, off, rfl, hgl, hne, hcell⟩ := hcell (by omega)
  obtain ⟨q1, q2⟩ := hcell 0 (by omega)
  rw [Nat.zero_mul, Nat.add_zero] at q1 q2
  obtain ⟨g, hgg⟩ : ∃ g, s.gi.getD 0 (0, 0) = g := ⟨_, rfl⟩
  rw [hgg] at h1 k0 k1 q1 q2 hr0 hr1
  obtain ⟨gw, gt⟩ := g
  simp only at h1 k0 k1 q1 q2 hr0 hr1
  obtain ⟨tn, rfl⟩ : ∃ tn : Nat, gt = tn := ⟨gt.toNat, by omega⟩
  obtain ⟨y, hy⟩ : ∃ y, s.rd.getD gw 0 = y := ⟨_, rfl⟩
  rw [hy] at hr0 hr1
  obtain ⟨yn, rfl⟩ : ∃ yn : Nat, y = yn := ⟨y.toNat, by omega⟩
  obtain ⟨tv, htv⟩ : ∃ tv, gaveW (yn : Int) (tn : Int) = tv := ⟨_, rfl⟩
  have hO : bits .andNot .u64 (yn : Int) (tn : Int) = ((anot yn tn : Nat) : Int) := bits_andNot64 yn tn (by omega) (by omega)
  have hol : anot yn tn ≤ yn := Nat.and_le_left
  have HT := Lib.hid (show IntKind.u64.wrap (bits .andNot .u64 (yn : Int) (tn : Int) + 4294967296) = tv by
    rw [hO, IntKind.wrap_u64, ← htv]; unfold gaveW; simp only [Int.toNat_natCast]; omega)
  have htu : U64 tv := by rw [← htv]; unfold gaveW U64; omega
  have c40 := hs.c40
  have hsl := hs.blk.lt
  have hal := ball w (.cells #[.int .i64 gw, .int .u32 tn] 81)
  have hb2 := Blk.new w 81 #[.int .i64 gw, .int .u32 tn]
  have HS := Lib.hid (hs.below hal)
  have HC := Lib.hid (hc.below hal)
  have hgn2 := hc.nu.lt
  have HB := Lib.hid hb2
  have HK := Lib.hid (Keep.of_below (bs := [gn, gs]) hal)
  have HG1 := Lib.hid (HG.out.below hal)
  have HN := Lib.hid hx
  have HY := Lib.hid hy
  have HTV := Lib.hid htv
  have HGG := Lib.hid hgg
  have hgl0 : 0 < gl := by omega
  have hgb : w.heap.size ≠ gs := by omega
  have hgb2 : w.heap.size ≠ gn := by omega
  clear hc hs hx hy hgg hcell hal hb2 hl hO htv hol
  have i1 : (gw : Int) < 32 := by omega
  have i2 : gw < 32 := by omega
  go_enter Try.func50, Try.ntmps50
  go_upto_region 1 with fail
  generalize w.alloc (.cells #[.int .i64 gw, .int .u32 tn] 81) = w1 at *
  generalize w.heap.size = gb at *
  have b0 : w1.cell? ⟨gb, 0, none⟩ = some (.int .i64 gw) := HB.out.cell 0
  have rr := HS.out.cr gw i2
  rw [HY.out] at rr
  clear c40 q1 q2
  go_quiet (fail)
  have HS1 := Lib.hid (HS.out.drewN nq)
  have HC1 := Lib.hid (HC.out.drewN nq)
  have HB1 := Lib.hid (HB.out.drewN nq)
  have HK1 := Lib.hid (HK.out.drewN nq)
  have HG2 := Lib.hid (HG1.out.self ((Keep.refl [gs] w1).drewN nq))
  clear b0 rr HS HB HK HC HG1
  generalize w1.drewN nq = w2 at *
  have c0 := HS1.out.c0
  have b0 : w2.cell? ⟨gb, 0, none⟩ = some (.int .i64 gw) := HB1.out.cell 0
  have b1 : w2.cell? ⟨gb, 1, none⟩ = some (.int .u32 tn) := HB1.out.cell 1
  have hT := HT.out
  have hS : IntKind.u64.wrap (tn : Int) = (tn : Int) := by rw [IntKind.wrap_u64]; omega
  go_upto_region 2 with fail
  by_cases he : l.getD gw 0 = (yn : Int)
  · have HF := Lib.hid (show stpP n l s = (l.set gw tv, s.close) by
      unfold stpP; rw [HN.out]; simp only; rw [HGG.out]; simp only; rw [HY.out, if_pos he, HTV.out])
    have HCA := Lib.hid (cas_yes (HC1.out.drewN 1) gw h1 (yn : Int) tv he)
    clear he
    go_region_held3 (fun W => W.cell? ⟨gs, 0, none⟩ = some (.pointer (some ⟨gc, 0, none⟩)) ∧ W.cell? ⟨gb, 0, none⟩ = some (.int .i64 gw) ∧ W.cell? ⟨gb, 1, none⟩ = some (.int .u32 tn))
      (first | assumption | (exact ⟨c0, b0, b1⟩) | (refine ⟨(World.cell?_setCell_other _ _ _ _ ?_).trans c0, (World.cell?_setCell_other _ _ _ _ ?_).trans b0, (World.cell?_setCell_other _ _ _ _ ?_).trans b1⟩ <;> (simp <;> omega)) | go_keep)
      (first | (go_at_call 65; refine (HCA.out).mono ?_; rintro e w' ⟨rfl, hw'⟩))
    have HS3 := Lib.hid ((HS1.out.drewN 1).ne (p := ⟨gn, gw, none⟩) hgn (.int .u64 tv))
    have HC3 := Lib.hid ((HC1.out.drewN 1).set gw tv htu)
    have HK3 := Lib.hid ((HK1.out.drewN 1).setCell (p := ⟨gn, gw, none⟩) (.inl (by simp)) (.int .u64 tv))
    have HG3 := Lib.hid (HG2.out.gn HC1.out (((Keep.refl [gn, gs] w2).drewN 1).setCell (p := ⟨gn, gw, none⟩) (.inl (by simp)) (.int .u64 tv)))
    clear c0 b0 b1 hT hS hw'
    generalize (w2.drewN 1).setCell ⟨gn, gw, none⟩ (.int .u64 tv) = w3 at *
    have HCG := Lib.hid (closeGift_any HS3.out HG3.out h0)
    go_wp2_with (go_at_call 66; refine (HCG.out).mono ?_; rintro e w4 ⟨rfl, ⟨gv', h4, g4⟩, k4⟩)
    go_end0
    rw [HF.out]
    exact ⟨rfl, HC3.out.keep k4 (by simpa using hgc) (by simpa using hgn), ⟨gv', h4, g4⟩, HK3.out.trans (k4.mono (by simp))⟩
  · have HF := Lib.hid (show stpP n l s = (l, { s with nx := 4 }) by
      unfold stpP; rw [HN.out]; simp only; rw [HGG.out]; simp only; rw [HY.out, if_neg he])
    have HCA := Lib.hid (cas_miss (HC1.out.drewN 1) gw h1 (yn : Int) tv he)
    clear he
    go_region_held3 (fun W => W.cell? ⟨gs, 0, none⟩ = some (.pointer (some ⟨gc, 0, none⟩)) ∧ W.cell? ⟨gb, 0, none⟩ = some (.int .i64 gw) ∧ W.cell? ⟨gb, 1, none⟩ = some (.int .u32 tn))
      (first | go_keep | assumption | (exact ⟨c0, b0, b1⟩))
      (first | (go_at_call 65; refine (HCA.out).mono ?_; rintro e w' ⟨rfl, rfl⟩))
    have HS3 := Lib.hid (HS1.out.drewN 1)
    have HC3 := Lib.hid (HC1.out.drewN 1)
    have HK3 := Lib.hid (HK1.out.drewN 1)
    have HG3 := Lib.hid (HG2.out.self ((Keep.refl [gs] w2).drewN 1))
    clear c0 b0 b1 hT hS HS1 HC1 HK1 HG2
    generalize w2.drewN 1 = w3 at *
    have c1 := HS3.out.c1
    have f1 := HS3.out.free 1
    have HS4 := Lib.hid (HS3.out.nx 4)
    have HC4 := Lib.hid (HC3.out.other (p := ⟨gs, 1, none⟩) (Ne.symm hgc) (Ne.symm hgn) (.int .i64 ((4 : Nat) : Int)))
    have HK4 := Lib.hid (HK3.out.setCell (p := ⟨gs, 1, none⟩) (.inl (by simp)) (.int .i64 ((4 : Nat) : Int)))
    have HG4 := Lib.hid (HG3.out.self ((Keep.refl [gs] w3).setCell (p := ⟨gs, 1, none⟩) (.inl (by simp)) (.int .i64 ((4 : Nat) : Int))))
    clear HS3 HC3 HK3 HG3
    go_wp2
    refine bodyPost_ret (v := .tuple #[]) (by first | rfl | kernel_rfl | (simp [results, go_sem]; done)) rfl ?_
    rw [HF.out]
    exact ⟨rfl, HC4.out, ⟨_, HS4.out, HG4.out⟩, HK4.out⟩
end Go.Proofs.Ytmbceafeonjffaa
