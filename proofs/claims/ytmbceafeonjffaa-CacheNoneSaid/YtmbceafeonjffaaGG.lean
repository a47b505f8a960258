/-
  Several small texts in one: PoW, PoX, PoY. Conditions stand in each theorem.
-/
import Derived.Test.YtmbceafeonjffaaGF
namespace Go.Proofs.Ytmbceafeonjffaa
open Go.RowKit Plain
set_option linter.unusedVariables false
set_option linter.unusedSimpArgs false
set_option maxRecDepth 100000
/-- what is to be given back reads as a list -/
def GiR (w : World) (gs : Nat) (gv : Value) (gi : List (Nat × Int)) : Prop :=
  ∃ A n c, gv = .slice A n c ∧ gi.length = n ∧ n ≤ c ∧ c ≤ 1000 ∧ (0 < n → ∃ gg off, A = some ⟨gg, off, none⟩ ∧ gg < w.heap.size ∧ gg ≠ gs ∧ (∃ cs, Blk w gg 81 cs) ∧ ∀ i, i < n → w.cell? ⟨gg, off + i * 2, none⟩ = some (.int .i64 (gi.getD i (0, 0)).1) ∧ w.cell? ⟨gg, off + i * 2 + 1, none⟩ = some (.int .u32 (gi.getD i (0, 0)).2))
theorem GiR.keep {w w' : World} {gs : Nat} {gv : Value} {gi : List (Nat × Int)} (h : GiR w gs gv gi) {bs : List Nat} (hk : Keep bs w w') (hb : ∀ g, g ≠ gs → (∃ o v, w.cell? ⟨g, o, none⟩ = some (.int .u32 v)) → g ∉ bs) : GiR w' gs gv gi := by
  obtain ⟨A, n, c, e, h1, h2, h3, h4⟩ := h
  refine ⟨A, n, c, e, h1, h2, h3, fun hp => ?_⟩
  obtain ⟨gg, off, e2, hl, hne, ⟨gcs, hgB⟩, hc⟩ := h4 hp
  have hn := hb gg hne ⟨_, _, (hc 0 hp).2⟩
  exact ⟨gg, off, e2, Nat.lt_of_lt_of_le hl hk.size, hne, ⟨gcs, hk.blk hgB hn⟩, fun i hi => ⟨(hk.cell (p := ⟨gg, off + i * 2, none⟩) hl hn).trans (hc i hi).1, (hk.cell (p := ⟨gg, off + i * 2 + 1, none⟩) hl hn).trans (hc i hi).2⟩⟩
theorem GiR.self {w w' : World} {gs : Nat} {gv : Value} {gi : List (Nat × Int)} (h : GiR w gs gv gi) (hk : Keep [gs] w w') : GiR w' gs gv gi := h.keep hk (fun g hg _ => by simpa using hg)
theorem GiR.below {w w' : World} {gs : Nat} {gv : Value} {gi : List (Nat × Int)} (h : GiR w gs gv gi) (hb : Below w.heap.size w w') : GiR w' gs gv gi := h.keep (Keep.of_below (bs := []) hb) (fun g _ _ => by simp)
set_option maxHeartbeats 2000000 in
theorem openGift_any {w : World} {gs gc : Nat} {A : Option Addr} {n c : Nat} {s : Ps} (hs : StP w gs gc (.slice A n c) s) :
    Calls Try.prog 43 #[.pointer (some ⟨gs, 0, none⟩)] w fun e w' => e = .returned (.tuple #[]) ∧ StP w' gs gc (.slice A n c) { s with nx := if n = 0 then 0 else 4 } ∧ w'.heap.size = w.heap.size ∧ Keep [gs] w w' := by
  have c1 := hs.c1
  have f1 := hs.free 1
  have c40 : (w.setCell ⟨gs, 1, none⟩ (.int .i64 0)).cell? ⟨gs, 40, none⟩ = some (.slice A n c) := (hs.nx 0).c40
  have c1' : (w.setCell ⟨gs, 1, none⟩ (.int .i64 0)).cell? ⟨gs, 1, none⟩ = some (.int .i64 0) := (hs.nx 0).c1
  have f1' : (w.setCell ⟨gs, 1, none⟩ (.int .i64 0)).frozen? ⟨gs, 1, none⟩ = false := (hs.nx 0).free 1
  have HS1 := Lib.hid (hs.nx 0)
  have HS2 := Lib.hid ((hs.nx 0).nx 4)
  have HK1 := Lib.hid ((Keep.refl [gs] w).setCell (p := ⟨gs, 1, none⟩) (.inl (by simp)) (.int .i64 ((0 : Nat) : Int)))
  have HK2 := Lib.hid (((Keep.refl [gs] w).setCell (p := ⟨gs, 1, none⟩) (.inl (by simp)) (.int .i64 ((0 : Nat) : Int))).setCell (p := ⟨gs, 1, none⟩) (.inl (by simp)) (.int .i64 ((4 : Nat) : Int)))
  clear hs
  by_cases hn : n = 0
  · have d : decide (0 < n) = false := decide_eq_false (by omega)
    have d' : decide ((0 : Int) < (n : Int)) = false := decide_eq_false (by omega)
    have HN := Lib.hid hn
    clear hn
    go_enter Try.func43, Try.ntmps43
    go_wp2
    go_end0
    exact ⟨rfl, (by have h := HS1.out; rw [HN.out] at h; exact h), by simp [World.setCell], HK1.out⟩
  · have d : decide (0 < n) = true := decide_eq_true (by omega)
    have d' : decide ((0 : Int) < (n : Int)) = true := decide_eq_true (by omega)
    have HN := Lib.hid hn
    clear hn
    go_enter Try.func43, Try.ntmps43
    go_wp2
    go_end0
    exact ⟨rfl, HS2.out, by simp [World.setCell], HK2.out⟩
set_option maxHeartbeats 2000000 in
theorem closeGift_any {w : World} {gs gc : Nat} {gv : Value} {s : Ps} (hs : StP w gs gc gv s) (hg : GiR w gs gv s.gi) (h0 : 0 < s.gi.length) :
    Calls Try.prog 66 #[.pointer (some ⟨gs, 0, none⟩)] w fun e w' => e = .returned (.tuple #[]) ∧ (∃ gv', StP w' gs gc gv' s.close ∧ GiR w' gs gv' s.close.gi) ∧ Keep [gs] w w' := by
  obtain ⟨A, n, c, rfl, hl, hnc, hc1, hcell⟩ := hg
  obtain ⟨gg, off, rfl, hgl, hne, ⟨gcs, hgB⟩, hcell⟩ := hcell (by omega)
  have HGB := Lib.hid hgB
  clear hgB
  have c40 := hs.c40
  have f40 := hs.free 40
  have hgi : s.close.gi = s.gi.drop 1 := rfl
  by_cases hc : c = 1
  · obtain rfl : n = 1 := by omega
    subst hc
    have HS1 := Lib.hid (hs.gi (.slice (some ⟨gg, off, none⟩) 0 0))
    have HOG := Lib.hid (openGift_any HS1.out)
    have HL := Lib.hid hl
    have HK1 := Lib.hid ((Keep.refl [gs] w).setCell (p := ⟨gs, 40, none⟩) (.inl (by simp)) (.slice (some ⟨gg, off, none⟩) 0 0))
    clear hs hcell hl
    go_enter Try.func66, Try.ntmps66
    go_wp2_with (go_at_call 43; refine (HOG.out).mono ?_; rintro e w2 ⟨rfl, h2, _, k2⟩)
    go_end0
    refine ⟨rfl, ⟨.slice (some ⟨gg, off, none⟩) 0 0, ⟨?_, h2.len⟩, ⟨some ⟨gg, off, none⟩, 0, 0, rfl, by rw [hgi, List.length_drop, HL.out], Nat.le_refl _, by omega, fun h => absurd h (by omega)⟩⟩, HK1.out.trans k2⟩
    have hb := h2.blk
    unfold Ps.close
    rw [if_pos (by rw [HL.out]; omega)]
    exact hb
  · have hc2 : ¬ 1 = c := fun h => hc h.symm
    have hc3 : (1 : Int) ≤ (c : Int) := by omega
    have hc4 : (1 : Int) ≤ (n : Int) := by omega
    have hn1 : 1 ≤ n := by omega
    have HS1 := Lib.hid (hs.gi (.slice (some ⟨gg, off + 2, none⟩) (n - 1) (c - 1)))
    have HOG := Lib.hid (openGift_any HS1.out)
    have HL := Lib.hid hl
    have HCE := Lib.hid hcell
    have HK1 := Lib.hid ((Keep.refl [gs] w).setCell (p := ⟨gs, 40, none⟩) (.inl (by simp)) (.slice (some ⟨gg, off + 2, none⟩) (n - 1) (c - 1)))
    clear hs hcell hl
    go_enter Try.func66, Try.ntmps66
    go_wp2_with (go_at_call 43; refine (HOG.out).mono ?_; rintro e w2 ⟨rfl, h2, _, k2⟩)
    go_end0
    have HK2 := HK1.out.trans k2
    have hdr : ∀ i, s.close.gi.getD i (0, 0) = s.gi.getD (i + 1) (0, 0) := fun i => by rw [hgi]; simp [List.getD, Nat.add_comm]
    refine ⟨rfl, ⟨.slice (some ⟨gg, off + 2, none⟩) (n - 1) (c - 1), ⟨?_, h2.len⟩, ⟨some ⟨gg, off + 2, none⟩, n - 1, c - 1, rfl, by rw [hgi, List.length_drop, HL.out], by omega, by omega, fun h => ⟨gg, off + 2, rfl, Nat.lt_of_lt_of_le hgl HK2.size, hne, ⟨gcs, HK2.blk HGB.out (by simpa using hne)⟩, fun i hi => ?_⟩⟩⟩, HK2⟩
    · have hb := h2.blk
      unfold Ps.close
      have e : (if s.gi.length ≤ 1 then (0 : Nat) else 4) = if n - 1 = 0 then 0 else 4 := by
        rw [HL.out]
        by_cases q : n ≤ 1
        · rw [if_pos q, if_pos (by omega)]
        · rw [if_neg q, if_neg (by omega)]
      rw [e]
      exact hb
    · have hnb : gg ∉ [gs] := by simpa using hne
      obtain ⟨q1, q2⟩ := HCE.out (i + 1) (by omega)
      have e1 : off + 2 + i * 2 = off + (i + 1) * 2 := by omega
      rw [hdr, e1]
      exact ⟨(HK2.cell (p := ⟨gg, off + (i + 1) * 2, none⟩) hgl hnb).trans q1, (HK2.cell (p := ⟨gg, off + (i + 1) * 2 + 1, none⟩) hgl hnb).trans q2⟩
end Go.Proofs.Ytmbceafeonjffaa

namespace Go.Proofs.Ytmbceafeonjffaa
open Go.RowKit Plain
set_option linter.unusedVariables false
set_option linter.unusedSimpArgs false
set_option maxRecDepth 100000
set_option maxHeartbeats 4000000 in
theorem readToGive_any {w : World} {gs gc gn n : Nat} {gv : Value} {l : List Int} {s : Ps} (hc : Cl w gc gn n l) (hs : StP w gs gc gv s) (hg : GiR w gs gv s.gi) (h0 : 0 < s.gi.length) (hx : s.nx = 4) (h1 : (s.gi.getD 0 (0, 0)).1 < n) (hn : n ≤ 32) (k0 : 0 ≤ (s.gi.getD 0 (0, 0)).2) (k1 : (s.gi.getD 0 (0, 0)).2 < 4294967296) (hgc : gc ≠ gs) (hgn : gn ≠ gs) :
    Calls Try.prog 49 #[.pointer (some ⟨gs, 0, none⟩)] w fun e w' => e = .returned (.tuple #[]) ∧ (∃ gv', StP w' gs gc gv' (stpP n l s).2 ∧ GiR w' gs gv' (stpP n l s).2.gi) ∧ Keep [gs] w w' := by
  have HG := Lib.hid hg
  obtain ⟨A, gl, c, rfl, hl, hnc, hc1, hcell⟩ := hg
  obtain ⟨gg, off, rfl, hgl, hne, _, hcell⟩ := hcell (by omega)
  obtain ⟨q1, q2⟩ := hcell 0 (by omega)
  rw [Nat.zero_mul, Nat.add_zero] at q1 q2
  obtain ⟨g, hgg⟩ : ∃ g, s.gi.getD 0 (0, 0) = g := ⟨_, rfl⟩
  rw [hgg] at h1 k0 k1 q1 q2
  obtain ⟨gw, gt⟩ := g
  simp only at h1 k0 k1 q1 q2
  obtain ⟨tn, rfl⟩ : ∃ tn : Nat, gt = tn := ⟨gt.toNat, by omega⟩
  obtain ⟨x, hxx⟩ : ∃ x, l.getD gw 0 = x := ⟨_, rfl⟩
  have hu := hc.u64 gw
  unfold U64 at hu
  rw [hxx] at hu
  have HLD := Lib.hid (fun (W : World) (hk : Keep [gs] w W) q => load_eq ((hc.keep hk (by simp; omega) (by simp; omega)).drewN q) gw h1 x hxx)
  have c40 := hs.c40
  have hsl := hs.blk.lt
  have hal := ball w (.cells #[.int .i64 gw, .int .u32 tn] 81)
  have hb2 := Blk.new w 81 #[.int .i64 gw, .int .u32 tn]
  have HS := Lib.hid (hs.below hal)
  have HB := Lib.hid hb2
  have HK := Lib.hid (Keep.of_below (bs := [gs]) hal)
  have HX := Lib.hid hxx
  have HN := Lib.hid hx
  have HGG := Lib.hid hgg
  have hgl0 : 0 < gl := by omega
  clear hc hs hxx hx hgg hcell hal hb2 hl
  go_enter Try.func49, Try.ntmps49
  go_upto_region 1 with fail
  have hgb : w.heap.size ≠ gs := by omega
  generalize w.alloc (.cells #[.int .i64 gw, .int .u32 tn] 81) = w1 at *
  generalize w.heap.size = gb at *
  have c0 := HS.out.c0
  have b0 : w1.cell? ⟨gb, 0, none⟩ = some (.int .i64 gw) := HB.out.cell 0
  clear c40 q1 q2
  go_quiet ((go_at_call 63; exact quietP (HLD.out w1 HK.out _)))
  have HS1 := Lib.hid (HS.out.drewN nq)
  have HB1 := Lib.hid (HB.out.drewN nq)
  have HK1 := Lib.hid (HK.out.drewN nq)
  clear c0 b0 HS HB HK
  generalize w1.drewN nq = w2 at *
  have i1 : (gw : Int) < 32 := by omega
  have i2 : gw < 32 := by omega
  have b0 : w2.cell? ⟨gb, 0, none⟩ = some (.int .i64 gw) := HB1.out.cell 0
  have r0 := HS1.out.cr gw i2
  have f0 := HS1.out.free (5 + gw)
  go_upto_region 2 with fail
  go_region
  have HS3 := Lib.hid (show StP ((w2.setCell ⟨gs, 5 + gw, none⟩ (.int .u64 x)).drew) gs gc _ { s with rd := s.rd.set gw x } from (HS1.out.rd gw i2 x).drewN 1)
  have HB3 := Lib.hid (show Blk ((w2.setCell ⟨gs, 5 + gw, none⟩ (.int .u64 x)).drew) gb 81 #[.int .i64 gw, .int .u32 tn] from (HB1.out.ne (p := ⟨gs, 5 + gw, none⟩) (Ne.symm hgb) (.int .u64 x)).drew)
  have HK3 := Lib.hid ((HK1.out.setCell (p := ⟨gs, 5 + gw, none⟩) (.inl (by simp)) (.int .u64 x)).drew)
  clear b0 r0 f0 HS1 HB1 HK1
  generalize (w2.setCell ⟨gs, 5 + gw, none⟩ (.int .u64 x)).drew = w3 at *
  have b1 : w3.cell? ⟨gb, 1, none⟩ = some (.int .u32 tn) := HB3.out.cell 1
  obtain ⟨xm, hxm⟩ : ∃ xm : Nat, x % 4294967296 = xm := ⟨(x % 4294967296).toNat, by omega⟩
  obtain ⟨z, hz⟩ : ∃ z, xm &&& tn = z := ⟨_, rfl⟩
  have hA : bits .and .u32 (x % 4294967296) (tn : Int) = (z : Int) := by rw [hxm, bits_and32 xm tn (by omega) (by omega), hz]
  have HST := Lib.hid (show (stpP n l s).2 = if z = 0 then Ps.close { s with rd := s.rd.set gw x } else { s with rd := s.rd.set gw x, nx := 5 } by
    unfold stpP; rw [HN.out]; simp only; rw [HGG.out]; simp only; rw [HX.out, hxm, Int.toNat_natCast, Int.toNat_natCast, hz]; split <;> rfl)
  clear hxm hz
  by_cases hz : z = 0
  · have d : ((z : Int) == 0) = true := by simp [hz]
    have HF := Lib.hid (HST.out.trans (if_pos hz))
    have HCG := Lib.hid (closeGift_any HS3.out (HG.out.self HK3.out) h0)
    clear hz HST
    go_wp2_with (go_at_call 66; refine (HCG.out).mono ?_; rintro e w4 ⟨rfl, ⟨gv', h4, g4⟩, k4⟩)
    refine bodyPost_ret (v := .tuple #[]) (by first | rfl | kernel_rfl | (simp [results, go_sem]; done)) rfl ?_
    rw [HF.out]
    exact ⟨rfl, ⟨gv', h4, g4⟩, HK3.out.trans k4⟩
  · have d : ((z : Int) == 0) = false := by simp [hz]
    have HF := Lib.hid (HST.out.trans (if_neg hz))
    have c1 := HS3.out.c1
    have f1 := HS3.out.free 1
    have HS4 := Lib.hid (HS3.out.nx 5)
    have HK4 := Lib.hid (HK3.out.setCell (p := ⟨gs, 1, none⟩) (.inl (by simp)) (.int .i64 ((5 : Nat) : Int)))
    clear hz HST HS3 HK3
    go_wp2
    go_end0
    rw [HF.out]
    exact ⟨rfl, ⟨_, HS4.out, HG.out.self HK4.out⟩, HK4.out⟩
end Go.Proofs.Ytmbceafeonjffaa

namespace Go.Proofs.Ytmbceafeonjffaa
open Go.RowKit Plain
set_option linter.unusedVariables false
set_option linter.unusedSimpArgs false
set_option maxRecDepth 100000
theorem Cl.no32 {w : World} {gc gn n : Nat} {l : List Int} (h : Cl w gc gn n l) (o : Nat) (v : Int) : w.cell? ⟨gn, o, none⟩ ≠ some (.int .u32 v) := fun e => by
  rw [h.nu.cell o] at e
  simp only [List.getElem?_toArray, List.getElem?_map] at e
  cases q : l[o]? with
  | none => rw [q] at e; cases e
  | some y => rw [q] at e; injection e with e; injection e with e; cases e
theorem GiR.gn {w w' : World} {gs gc gn n : Nat} {l : List Int} {gv : Value} {gi : List (Nat × Int)} (h : GiR w gs gv gi) (hc : Cl w gc gn n l) (hk : Keep [gn, gs] w w') : GiR w' gs gv gi := h.keep hk (fun g hg ⟨o, v, hv⟩ => by
  intro hm
  rcases List.mem_cons.1 hm with e | e
  · subst e; exact hc.no32 o v hv
  · rw [List.mem_singleton] at e; exact hg e)
set_option maxHeartbeats 4000000 in
theorem give_any {w : World} {gs gc gn n : Nat} {gv : Value} {l : List Int} {s : Ps} (hc : Cl w gc gn n l) (hs : StP w gs gc gv s) (hg : GiR w gs gv s.gi) (h0 : 0 < s.gi.length) (hx : s.nx = 5) (h1 : (s.gi.getD 0 (0, 0)).1 < n) (hn : n ≤ 32) (k0 : 0 ≤ (s.gi.getD 0 (0, 0)).2) (k1 : (s.gi.getD 0 (0, 0)).2 < 4294967296)
    (hr0 : 0 ≤ s.rd.getD (s.gi.getD 0 (0, 0)).1 0) (hr1 : s.rd.getD (s.gi.getD 0 (0, 0)).1 0 < 18446744073709551616) (hgc : gc ≠ gs) (hgn : gn ≠ gs) :
    Calls Try.prog 50 #[.pointer (some ⟨gs, 0, none⟩)] w fun e w' => e = .returned (.tuple #[]) ∧ Cl w' gc gn n (stpP n l s).1 ∧ (∃ gv', StP w' gs gc gv' (stpP n l s).2 ∧ GiR w' gs gv' (stpP n l s).2.gi) ∧ Keep [gn, gs] w w' := by
  have HG := Lib.hid hg
  obtain ⟨A, gl, c, rfl, hl, hnc, hc1, hcell⟩ := hg
  obtain ⟨gg, off, rfl, hgl, hne, _, hcell⟩ := hcell (by omega)
  obtain ⟨q1, q2⟩ := hcell 0 (by omega)
  rw [Nat.zero_mul, Nat.add_zero] at q1 q2
  obtain ⟨g, hgg⟩ : ∃ g, s.gi.getD 0 (0, 0) = g := ⟨_, rfl⟩
  rw [hgg] at h1 k0 k1 q1 q2 hr0 hr1
  obtain ⟨gw, gt⟩ := g
  simp only at h1 k0 k1 q1 q2 hr0 hr1
  obtain ⟨tn, rfl⟩ : ∃ tn : Nat, gt = tn := ⟨gt.toNat, by omega⟩
  obtain ⟨y, hy⟩ : ∃ y, s.rd.getD gw 0 = y := ⟨_, rfl⟩
  rw [hy] at hr0 hr1
  obtain ⟨yn, rfl⟩ : ∃ yn : Nat, y = yn := ⟨y.toNat, by omega⟩
  obtain ⟨tv, htv⟩ : ∃ tv, gaveW (yn : Int) (tn : Int) = tv := ⟨_, rfl⟩
  have hO : bits .andNot .u64 (yn : Int) (tn : Int) = ((anot yn tn : Nat) : Int) := bits_andNot64 yn tn (by omega) (by omega)
  have hol : anot yn tn ≤ yn := Nat.and_le_left
  have HT := Lib.hid (show IntKind.u64.wrap (bits .andNot .u64 (yn : Int) (tn : Int) + 4294967296) = tv by
    rw [hO, IntKind.wrap_u64, ← htv]; unfold gaveW; simp only [Int.toNat_natCast]; omega)
  have htu : U64 tv := by rw [← htv]; unfold gaveW U64; omega
  have c40 := hs.c40
  have hsl := hs.blk.lt
  have hal := ball w (.cells #[.int .i64 gw, .int .u32 tn] 81)
  have hb2 := Blk.new w 81 #[.int .i64 gw, .int .u32 tn]
  have HS := Lib.hid (hs.below hal)
  have HC := Lib.hid (hc.below hal)
  have hgn2 := hc.nu.lt
  have HB := Lib.hid hb2
  have HK := Lib.hid (Keep.of_below (bs := [gn, gs]) hal)
  have HG1 := Lib.hid (HG.out.below hal)
  have HN := Lib.hid hx
  have HY := Lib.hid hy
  have HTV := Lib.hid htv
  have HGG := Lib.hid hgg
  have hgl0 : 0 < gl := by omega
  have hgb : w.heap.size ≠ gs := by omega
  have hgb2 : w.heap.size ≠ gn := by omega
  clear hc hs hx hy hgg hcell hal hb2 hl hO htv hol
  have i1 : (gw : Int) < 32 := by omega
  have i2 : gw < 32 := by omega
  go_enter Try.func50, Try.ntmps50
  go_upto_region 1 with fail
  generalize w.alloc (.cells #[.int .i64 gw, .int .u32 tn] 81) = w1 at *
  generalize w.heap.size = gb at *
  have b0 : w1.cell? ⟨gb, 0, none⟩ = some (.int .i64 gw) := HB.out.cell 0
  have rr := HS.out.cr gw i2
  rw [HY.out] at rr
  clear c40 q1 q2
  go_quiet (fail)
  have HS1 := Lib.hid (HS.out.drewN nq)
  have HC1 := Lib.hid (HC.out.drewN nq)
  have HB1 := Lib.hid (HB.out.drewN nq)
  have HK1 := Lib.hid (HK.out.drewN nq)
  have HG2 := Lib.hid (HG1.out.self ((Keep.refl [gs] w1).drewN nq))
  clear b0 rr HS HB HK HC HG1
  generalize w1.drewN nq = w2 at *
  have c0 := HS1.out.c0
  have b0 : w2.cell? ⟨gb, 0, none⟩ = some (.int .i64 gw) := HB1.out.cell 0
  have b1 : w2.cell? ⟨gb, 1, none⟩ = some (.int .u32 tn) := HB1.out.cell 1
  have hT := HT.out
  have hS : IntKind.u64.wrap (tn : Int) = (tn : Int) := by rw [IntKind.wrap_u64]; omega
  go_upto_region 2 with fail
  by_cases he : l.getD gw 0 = (yn : Int)
  · have HF := Lib.hid (show stpP n l s = (l.set gw tv, s.close) by
      unfold stpP; rw [HN.out]; simp only; rw [HGG.out]; simp only; rw [HY.out, if_pos he, HTV.out])
    have HCA := Lib.hid (cas_yes (HC1.out.drewN 1) gw h1 (yn : Int) tv he)
    clear he
    go_region_held3 (fun W => W.cell? ⟨gs, 0, none⟩ = some (.pointer (some ⟨gc, 0, none⟩)) ∧ W.cell? ⟨gb, 0, none⟩ = some (.int .i64 gw) ∧ W.cell? ⟨gb, 1, none⟩ = some (.int .u32 tn))
      (first | assumption | (exact ⟨c0, b0, b1⟩) | (refine ⟨(World.cell?_setCell_other _ _ _ _ ?_).trans c0, (World.cell?_setCell_other _ _ _ _ ?_).trans b0, (World.cell?_setCell_other _ _ _ _ ?_).trans b1⟩ <;> (simp <;> omega)) | go_keep)
      (first | (go_at_call 65; refine (HCA.out).mono ?_; rintro e w' ⟨rfl, hw'⟩))
    have HS3 := Lib.hid ((HS1.out.drewN 1).ne (p := ⟨gn, gw, none⟩) hgn (.int .u64 tv))
    have HC3 := Lib.hid ((HC1.out.drewN 1).set gw tv htu)
    have HK3 := Lib.hid ((HK1.out.drewN 1).setCell (p := ⟨gn, gw, none⟩) (.inl (by simp)) (.int .u64 tv))
    have HG3 := Lib.hid (HG2.out.gn HC1.out (((Keep.refl [gn, gs] w2).drewN 1).setCell (p := ⟨gn, gw, none⟩) (.inl (by simp)) (.int .u64 tv)))
    clear c0 b0 b1 hT hS hw'
    generalize (w2.drewN 1).setCell ⟨gn, gw, none⟩ (.int .u64 tv) = w3 at *
    have HCG := Lib.hid (closeGift_any HS3.out HG3.out h0)
    go_wp2_with (go_at_call 66; refine (HCG.out).mono ?_; rintro e w4 ⟨rfl, ⟨gv', h4, g4⟩, k4⟩)
    go_end0
    rw [HF.out]
    exact ⟨rfl, HC3.out.keep k4 (by simpa using hgc) (by simpa using hgn), ⟨gv', h4, g4⟩, HK3.out.trans (k4.mono (by simp))⟩
  · have HF := Lib.hid (show stpP n l s = (l, { s with nx := 4 }) by
      unfold stpP; rw [HN.out]; simp only; rw [HGG.out]; simp only; rw [HY.out, if_neg he])
    have HCA := Lib.hid (cas_miss (HC1.out.drewN 1) gw h1 (yn : Int) tv he)
    clear he
    go_region_held3 (fun W => W.cell? ⟨gs, 0, none⟩ = some (.pointer (some ⟨gc, 0, none⟩)) ∧ W.cell? ⟨gb, 0, none⟩ = some (.int .i64 gw) ∧ W.cell? ⟨gb, 1, none⟩ = some (.int .u32 tn))
      (first | go_keep | assumption | (exact ⟨c0, b0, b1⟩))
      (first | (go_at_call 65; refine (HCA.out).mono ?_; rintro e w' ⟨rfl, rfl⟩))
    have HS3 := Lib.hid (HS1.out.drewN 1)
    have HC3 := Lib.hid (HC1.out.drewN 1)
    have HK3 := Lib.hid (HK1.out.drewN 1)
    have HG3 := Lib.hid (HG2.out.self ((Keep.refl [gs] w2).drewN 1))
    clear c0 b0 b1 hT hS HS1 HC1 HK1 HG2
    generalize w2.drewN 1 = w3 at *
    have c1 := HS3.out.c1
    have f1 := HS3.out.free 1
    have HS4 := Lib.hid (HS3.out.nx 4)
    have HC4 := Lib.hid (HC3.out.other (p := ⟨gs, 1, none⟩) (Ne.symm hgc) (Ne.symm hgn) (.int .i64 ((4 : Nat) : Int)))
    have HK4 := Lib.hid (HK3.out.setCell (p := ⟨gs, 1, none⟩) (.inl (by simp)) (.int .i64 ((4 : Nat) : Int)))
    have HG4 := Lib.hid (HG3.out.self ((Keep.refl [gs] w3).setCell (p := ⟨gs, 1, none⟩) (.inl (by simp)) (.int .i64 ((4 : Nat) : Int))))
    clear HS3 HC3 HK3 HG3
    go_wp2
    refine bodyPost_ret (v := .tuple #[]) (by first | rfl | kernel_rfl | (simp [results, go_sem]; done)) rfl ?_
    rw [HF.out]
    exact ⟨rfl, HC4.out, ⟨_, HS4.out, HG4.out⟩, HK4.out⟩
end Go.Proofs.Ytmbceafeonjffaa
