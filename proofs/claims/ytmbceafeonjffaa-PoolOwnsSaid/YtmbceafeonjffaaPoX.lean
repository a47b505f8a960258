/-
  Package pool: a step of a Back that reads. Conditions stand in each theorem.
-/
import Derived.Test.YtmbceafeonjffaaPoW
namespace Go.Proofs.Ytmbceafeonjffaa
open Go.RowKit Plain
set_option linter.unusedVariables false
set_option linter.unusedSimpArgs false
set_option maxRecDepth 100000
set_option maxHeartbeats 4000000 in
theorem readToGive_any {w : World} {gs gc gn n : Nat} {gv : Value} {l : List Int} {s : Ps} (hc : Cl w gc gn n l) (hs : StP w gs gc gv s) (hg : GiR w gs gv s.gi) (h0 : 0 < s.gi.length) (hx : s.nx = 4) (h1 : (s.gi.getD 0 (0, 0)).1 < n) (hn : n ≤ 32) (k0 : 0 ≤ (s.gi.getD 0 (0, 0)).2) (k1 : (s.gi.getD 0 (0, 0)).2 < 4294967296) (hgc : gc ≠ gs) (hgn : gn ≠ gs) :
    Calls Try.prog 49 #[.pointer (some ⟨gs, 0, none⟩)] w fun e w' => e = .returned (.tuple #[]) ∧ (∃ gv', StP w' gs gc gv' (stpP n l s).2 ∧ GiR w' gs gv' (stpP n l s).2.gi) ∧ Keep [gs] w w' := by
  have HG := Lib.hid hg
  obtain ⟨A, gl, c, rfl, hl, hnc, hc1, hcell⟩ := hg
  obtain ⟨gg, off, rfl, hgl, hne, hcell⟩ := hcell (by omega)
  obtain ⟨q1, q2⟩ := hcell 0 (by omega)
  rw [Nat.zero_mul, Nat.add_zero] at q1 q2
  obtain ⟨g, hgg⟩ : ∃ g, s.gi.getD 0 (0, 0) = g := ⟨_, rfl⟩
  rw [hgg] at h1 k0 k1 q1 q2
  obtain ⟨gw, gt⟩ := g
  simp only at h1 k0 k1 q1 q2
  obtain ⟨tn, rfl⟩ : ∃ tn : Nat, gt = tn := ⟨gt.toNat, by omega⟩
  obtain ⟨x, hxx⟩ : ∃ x, l.getD gw 0 = x := ⟨_, rfl⟩
  have hu := hc.u64 gw
  unfold U64 at hu
  rw [hxx] at hu
  have HLD := Lib.hid (fun (W : World) (hk : Keep [gs] w W) q => load_eq ((hc.keep hk (by simp; omega) (by simp; omega)).drewN q) gw h1 x hxx)
  have c40 := hs.c40
  have hsl := hs.blk.lt
  have hal := ball w (.cells #[.int .i64 gw, .int .u32 tn] 81)
  have hb2 := Blk.new w 81 #[.int .i64 gw, .int .u32 tn]
  have HS := Lib.hid (hs.below hal)
  have HB := Lib.hid hb2
  have HK := Lib.hid (Keep.of_below (bs := [gs]) hal)
  have HX := Lib.hid hxx
  have HN := Lib.hid hx
  have HGG := Lib.hid hgg
  have hgl0 : 0 < gl := by omega
  clear hc hs hxx hx hgg hcell hal hb2 hl
  go_enter Try.func49, Try.ntmps49
  go_upto_region 1 with fail
  have hgb : w.heap.size ≠ gs := by omega
  generalize w.alloc (.cells #[.int .i64 gw, .int .u32 tn] 81) = w1 at *
  generalize w.heap.size = gb at *
  have c0 := HS.out.c0
  have b0 : w1.cell? ⟨gb, 0, none⟩ = some (.int .i64 gw) := HB.out.cell 0
  clear c40 q1 q2
  go_quiet ((go_at_call 63; exact quietP (HLD.out w1 HK.out _)))
  have HS1 := Lib.hid (HS.out.drewN nq)
  have HB1 := Lib.hid (HB.out.drewN nq)
  have HK1 := Lib.hid (HK.out.drewN nq)
  clear c0 b0 HS HB HK
  generalize w1.drewN nq = w2 at *
  have i1 : (gw : Int) < 32 := by omega
  have i2 : gw < 32 := by omega
  have b0 : w2.cell? ⟨gb, 0, none⟩ = some (.int .i64 gw) := HB1.out.cell 0
  have r0 := HS1.out.cr gw i2
  have f0 := HS1.out.free (5 + gw)
  go_upto_region 2 with fail
  go_region
  have HS3 := Lib.hid (show StP ((w2.setCell ⟨gs, 5 + gw, none⟩ (.int .u64 x)).drew) gs gc _ { s with rd := s.rd.set gw x } from (HS1.out.rd gw i2 x).drewN 1)
  have HB3 := Lib.hid (show Blk ((w2.setCell ⟨gs, 5 + gw, none⟩ (.int .u64 x)).drew) gb 81 #[.int .i64 gw, .int .u32 tn] from (HB1.out.ne (p := ⟨gs, 5 + gw, none⟩) (Ne.symm hgb) (.int .u64 x)).drew)
  have HK3 := Lib.hid ((HK1.out.setCell (p := ⟨gs, 5 + gw, none⟩) (.inl (by simp)) (.int .u64 x)).drew)
  clear b0 r0 f0 HS1 HB1 HK1
  generalize (w2.setCell ⟨gs, 5 + gw, none⟩ (.int .u64 x)).drew = w3 at *
  have b1 : w3.cell? ⟨gb, 1, none⟩ = some (.int .u32 tn) := HB3.out.cell 1
  obtain ⟨xm, hxm⟩ : ∃ xm : Nat, x % 4294967296 = xm := ⟨(x % 4294967296).toNat, by omega⟩
  obtain ⟨z, hz⟩ : ∃ z, xm &&& tn = z := ⟨_, rfl⟩
  have hA : bits .and .u32 (x % 4294967296) (tn : Int) = (z : Int) := by rw [hxm, bits_and32 xm tn (by omega) (by omega), hz]
  have HST := Lib.hid (show (stpP n l s).2 = if z = 0 then Ps.close { s with rd := s.rd.set gw x } else { s with rd := s.rd.set gw x, nx := 5 } by
    unfold stpP; rw [HN.out]; simp only; rw [HGG.out]; simp only; rw [HX.out, hxm, Int.toNat_natCast, Int.toNat_natCast, hz]; split <;> rfl)
  clear hxm hz
  by_cases hz : z = 0
  · have d : ((z : Int) == 0) = true := by simp [hz]
    have HF := Lib.hid (HST.out.trans (if_pos hz))
    have HCG := Lib.hid (closeGift_any HS3.out (HG.out.self HK3.out) h0)
    clear hz HST
    go_wp2_with (go_at_call 66; refine (HCG.out).mono ?_; rintro e w4 ⟨rfl, ⟨gv', h4, g4⟩, k4⟩)
    refine bodyPost_ret (v := .tuple #[]) (by first | rfl | kernel_rfl | (simp [results, go_sem]; done)) rfl ?_
    rw [HF.out]
    exact ⟨rfl, ⟨gv', h4, g4⟩, HK3.out.trans k4⟩
  · have d : ((z : Int) == 0) = false := by simp [hz]
    have HF := Lib.hid (HST.out.trans (if_neg hz))
    have c1 := HS3.out.c1
    have f1 := HS3.out.free 1
    have HS4 := Lib.hid (HS3.out.nx 5)
    have HK4 := Lib.hid (HK3.out.setCell (p := ⟨gs, 1, none⟩) (.inl (by simp)) (.int .i64 ((5 : Nat) : Int)))
    clear hz HST HS3 HK3
    go_wp2
    go_end0
    rw [HF.out]
    exact ⟨rfl, ⟨_, HS4.out, HG.out.self HK4.out⟩, HK4.out⟩
end Go.Proofs.Ytmbceafeonjffaa
