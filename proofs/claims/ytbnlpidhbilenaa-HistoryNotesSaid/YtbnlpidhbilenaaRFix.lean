/-
  Contract of the reference fanlightref02.Fix: a copy of the bytes with the head's sum made right. Conditions: 20 to 1000000 bytes.
-/
import Derived.Test.YtbnlpidhbilenaaGC
import Derived.Test.YtbnlpidhbilenaaGI
import Derived.Deep.DeepCutAuto
namespace Go.Proofs.Ytbnlpidhbilenaa
open Go.RowKit Plain
set_option linter.unusedVariables false
set_option maxRecDepth 100000

/-- of how many bytes the head's sum is made -/
def fixN (zs : List Int) : Nat := if zs.getD 0 0 % 16 * 4 < 20 ∨ (zs.length : Int) < zs.getD 0 0 % 16 * 4 then 20 else (zs.getD 0 0 % 16 * 4).toNat
def fix0 (zs : List Int) : List Int := (zs.set 10 0).set 11 0
def fixL (zs : List Int) : List Int := P16 (fix0 zs) 10 (Cs ((fix0 zs).take (fixN zs)))

set_option maxHeartbeats 4000000 in
theorem rfix_any (A : Option Addr) (n c : Nat) (zs : List Int) (w : World) (hn : zs.length = n) (h20 : 20 ≤ n) (hl : n ≤ 1000000) (hR : Rd w A zs) :
    Calls Try.prog 44 #[.slice A n c] w fun e w' => ∃ g c', e = .returned (.slice (some ⟨g, 0, none⟩) n c') ∧ Own w' w.heap.size (some ⟨g, 0, none⟩) n c' (fixL zs) ∧ Below w.heap.size w w' := by
  have Hn := Lib.hid hn
  have HR := Lib.hid hR
  have b0 := hR.1.getD 0
  have hfn : 20 ≤ fixN zs ∧ fixN zs ≤ n := by
    unfold fixN
    split
    · omega
    · rename_i h; rw [hn] at h; omega
  clear hn hR
  go_enter Try.func44, Try.ntmps44
  go_wp2_with (at_builtin; refine wpList_app rfl (.tmp 6) (.tmp 7) rfl rfl (Own.empty w (Nat.le_refl _)) zs rfl (HR.out.alloc _) Hn.out (by omega) (by simp) ?_)
  intro A' c' w1 ho hg hA
  have hb := below_app ((Below.refl _ _).alloc (Nat.le_refl _) _) hg (Own.empty w (Nat.le_refl _)) (Nat.le_refl _) (by simp)
  obtain ⟨g, rfl⟩ : ∃ g, A' = some ⟨g, 0, none⟩ := by rcases hA with h | h <;> exact ⟨_, h⟩
  have hgl : w.heap.size ≤ g := by rcases ho.form with ⟨h, _⟩ | ⟨g2, h, hg, _⟩; cases h; injection h with h; injection h with h; omega
  have c0 := ho.at (k := 0) (by omega)
  have hcap := ho.cap
  have Ho := Lib.hid ho
  have Hb := Lib.hid hb
  have HF := Lib.hid (show fixN zs = if zs.getD 0 0 % 16 * 4 < 20 ∨ (n : Int) < zs.getD 0 0 % 16 * 4 then 20 else (zs.getD 0 0 % 16 * 4).toNat by unfold fixN; rw [Hn.out])
  obtain ⟨z0, hz0⟩ : ∃ z, z = zs.getD 0 0 := ⟨_, rfl⟩
  rw [← hz0] at c0 b0 HF
  clear ho hb hg hA hz0
  have i0 : 0 < n := by omega
  go_upto_region 3 with fail
  obtain ⟨sz, hsz⟩ : ∃ sz : Nat, (sz : Int) = z0 % 16 * 4 := ⟨(z0 % 16 * 4).toNat, by omega⟩
  have hszt : (z0 % 16 * 4).toNat = sz := by omega
  rw [← hsz] at HF
  rw [← hsz]
  have HF2 := Lib.hid (show fixN zs = if (sz : Int) < 20 ∨ (n : Int) < (sz : Int) then 20 else sz by rw [HF.out, Int.toNat_natCast])
  clear HF hsz hszt c0
  obtain ⟨m, hm⟩ : ∃ m, m = fixN zs := ⟨_, rfl⟩
  have hmb : 20 ≤ m ∧ m ≤ n := by rw [hm]; exact hfn
  rw [← hm] at HF2
  have Hm := Lib.hid hm
  clear hm hfn
  have key : (sz : Int) < 20 ∨ ((20 ≤ (sz : Int) ∧ (n : Int) < (sz : Int)) ∨ (20 ≤ (sz : Int) ∧ (sz : Int) ≤ (n : Int))) := by omega
  rcases key with h1 | h1 | h1
  · obtain rfl : m = 20 := by rw [HF2.out, if_pos (.inl h1)]
    have d1 : decide ((sz : Int) < 20) = true := by simp; omega
    have c10 := Ho.out.at (k := 10) (by omega)
    have c11 := Ho.out.at (k := 11) (by omega)
    have f10 := Ho.out.free 10
    have f11 := Ho.out.free 11
    have i10 : (10 : Int) < (n : Int) := by omega
    have i11 : (11 : Int) < (n : Int) := by omega
    have ic : ((20 : Nat) : Int) ≤ (c' : Int) := by omega
    have ic2 : (20 : Int) ≤ (c' : Int) := by omega
    go_wp2_with fail
    obtain ⟨w2, hw2⟩ : ∃ w2, w2 = (w1.setCell ⟨g, 10, none⟩ (.int .u8 0)).setCell ⟨g, 11, none⟩ (.int .u8 0) := ⟨_, rfl⟩
    have Ho2 := Lib.hid (show Own w2 w.heap.size (some ⟨g, 0, none⟩) n c' (fix0 zs) by rw [hw2]; exact (Ho.out.set 10 0 (by decide) (by decide)).set 11 0 (by decide) (by decide))
    have Hb2 := Lib.hid (show Below w.heap.size w w2 by rw [hw2]; exact (Hb.out.setCell (p := ⟨g, 10, none⟩) hgl _).setCell (p := ⟨g, 11, none⟩) hgl _)
    rw [← hw2]
    clear hw2 c10 c11 f10 f11 Ho Hb
    have hcs := Cs_range _ (Ho2.out.byt.take 20)
    refine (refOf_n _ 20 c' ((fix0 zs).take 20) _ (by rw [List.length_take, Ho2.out.len]; omega) (by omega) (Ho2.out.rd.take 20)).mono ?_
    rintro e w' ⟨rfl, rfl⟩
    have c10 := Ho2.out.at (k := 10) (by omega)
    have c11 := Ho2.out.at (k := 11) (by omega)
    have f10 := Ho2.out.free 10
    have f11 := Ho2.out.free 11
    obtain ⟨cs, hcseq⟩ : ∃ cs, cs = Cs ((fix0 zs).take 20) := ⟨_, rfl⟩
    rw [← hcseq]
    rw [← hcseq] at hcs
    have Hcs := Lib.hid hcseq
    clear hcseq
    have HO := Lib.hid (show Own ((w2.setCell ⟨g, 10, none⟩ (.int .u8 (cs / 256))).setCell ⟨g, 11, none⟩ (.int .u8 (cs % 256))) w.heap.size (some ⟨g, 0, none⟩) n c' (fixL zs) by
      unfold fixL P16; rw [← Hm.out, ← Hcs.out]
      exact (Ho2.out.set 10 (cs / 256) (by omega) (by omega)).set 11 (cs % 256) (by omega) (by omega))
    have HB := Lib.hid (show Below w.heap.size w ((w2.setCell ⟨g, 10, none⟩ (.int .u8 (cs / 256))).setCell ⟨g, 11, none⟩ (.int .u8 (cs % 256))) from (Hb2.out.setCell (p := ⟨g, 10, none⟩) hgl _).setCell (p := ⟨g, 11, none⟩) hgl _)
    go_wp2
    go_ret
    exact ⟨g, c', rfl, HO.out, HB.out⟩
  · obtain rfl : m = 20 := by rw [HF2.out, if_pos (.inr h1.2)]
    have d1 : decide ((sz : Int) < 20) = false := by simp; omega
    have d2 : decide ((n : Int) < (sz : Int)) = true := by simp; omega
    have c10 := Ho.out.at (k := 10) (by omega)
    have c11 := Ho.out.at (k := 11) (by omega)
    have f10 := Ho.out.free 10
    have f11 := Ho.out.free 11
    have i10 : (10 : Int) < (n : Int) := by omega
    have i11 : (11 : Int) < (n : Int) := by omega
    have ic : ((20 : Nat) : Int) ≤ (c' : Int) := by omega
    have ic2 : (20 : Int) ≤ (c' : Int) := by omega
    go_wp2_with fail
    obtain ⟨w2, hw2⟩ : ∃ w2, w2 = (w1.setCell ⟨g, 10, none⟩ (.int .u8 0)).setCell ⟨g, 11, none⟩ (.int .u8 0) := ⟨_, rfl⟩
    have Ho2 := Lib.hid (show Own w2 w.heap.size (some ⟨g, 0, none⟩) n c' (fix0 zs) by rw [hw2]; exact (Ho.out.set 10 0 (by decide) (by decide)).set 11 0 (by decide) (by decide))
    have Hb2 := Lib.hid (show Below w.heap.size w w2 by rw [hw2]; exact (Hb.out.setCell (p := ⟨g, 10, none⟩) hgl _).setCell (p := ⟨g, 11, none⟩) hgl _)
    rw [← hw2]
    clear hw2 c10 c11 f10 f11 Ho Hb
    have hcs := Cs_range _ (Ho2.out.byt.take 20)
    refine (refOf_n _ 20 c' ((fix0 zs).take 20) _ (by rw [List.length_take, Ho2.out.len]; omega) (by omega) (Ho2.out.rd.take 20)).mono ?_
    rintro e w' ⟨rfl, rfl⟩
    have c10 := Ho2.out.at (k := 10) (by omega)
    have c11 := Ho2.out.at (k := 11) (by omega)
    have f10 := Ho2.out.free 10
    have f11 := Ho2.out.free 11
    obtain ⟨cs, hcseq⟩ : ∃ cs, cs = Cs ((fix0 zs).take 20) := ⟨_, rfl⟩
    rw [← hcseq]
    rw [← hcseq] at hcs
    have Hcs := Lib.hid hcseq
    clear hcseq
    have HO := Lib.hid (show Own ((w2.setCell ⟨g, 10, none⟩ (.int .u8 (cs / 256))).setCell ⟨g, 11, none⟩ (.int .u8 (cs % 256))) w.heap.size (some ⟨g, 0, none⟩) n c' (fixL zs) by
      unfold fixL P16; rw [← Hm.out, ← Hcs.out]
      exact (Ho2.out.set 10 (cs / 256) (by omega) (by omega)).set 11 (cs % 256) (by omega) (by omega))
    have HB := Lib.hid (show Below w.heap.size w ((w2.setCell ⟨g, 10, none⟩ (.int .u8 (cs / 256))).setCell ⟨g, 11, none⟩ (.int .u8 (cs % 256))) from (Hb2.out.setCell (p := ⟨g, 10, none⟩) hgl _).setCell (p := ⟨g, 11, none⟩) hgl _)
    go_wp2
    go_ret
    exact ⟨g, c', rfl, HO.out, HB.out⟩
  · obtain rfl : sz = m := by rw [HF2.out, if_neg (by omega)]
    have d1 : decide ((sz : Int) < 20) = false := by simp; omega
    have d2 : decide ((n : Int) < (sz : Int)) = false := by simp; omega
    have c10 := Ho.out.at (k := 10) (by omega)
    have c11 := Ho.out.at (k := 11) (by omega)
    have f10 := Ho.out.free 10
    have f11 := Ho.out.free 11
    have i10 : (10 : Int) < (n : Int) := by omega
    have i11 : (11 : Int) < (n : Int) := by omega
    have ic : ((sz : Nat) : Int) ≤ (c' : Int) := by omega
    have ic2 : (20 : Int) ≤ (c' : Int) := by omega
    go_wp2_with fail
    obtain ⟨w2, hw2⟩ : ∃ w2, w2 = (w1.setCell ⟨g, 10, none⟩ (.int .u8 0)).setCell ⟨g, 11, none⟩ (.int .u8 0) := ⟨_, rfl⟩
    have Ho2 := Lib.hid (show Own w2 w.heap.size (some ⟨g, 0, none⟩) n c' (fix0 zs) by rw [hw2]; exact (Ho.out.set 10 0 (by decide) (by decide)).set 11 0 (by decide) (by decide))
    have Hb2 := Lib.hid (show Below w.heap.size w w2 by rw [hw2]; exact (Hb.out.setCell (p := ⟨g, 10, none⟩) hgl _).setCell (p := ⟨g, 11, none⟩) hgl _)
    rw [← hw2]
    clear hw2 c10 c11 f10 f11 Ho Hb
    have hcs := Cs_range _ (Ho2.out.byt.take sz)
    refine (refOf_n _ sz c' ((fix0 zs).take sz) _ (by rw [List.length_take, Ho2.out.len]; omega) (by omega) (Ho2.out.rd.take sz)).mono ?_
    rintro e w' ⟨rfl, rfl⟩
    have c10 := Ho2.out.at (k := 10) (by omega)
    have c11 := Ho2.out.at (k := 11) (by omega)
    have f10 := Ho2.out.free 10
    have f11 := Ho2.out.free 11
    obtain ⟨cs, hcseq⟩ : ∃ cs, cs = Cs ((fix0 zs).take sz) := ⟨_, rfl⟩
    rw [← hcseq]
    rw [← hcseq] at hcs
    have Hcs := Lib.hid hcseq
    clear hcseq
    have HO := Lib.hid (show Own ((w2.setCell ⟨g, 10, none⟩ (.int .u8 (cs / 256))).setCell ⟨g, 11, none⟩ (.int .u8 (cs % 256))) w.heap.size (some ⟨g, 0, none⟩) n c' (fixL zs) by
      unfold fixL P16; rw [← Hm.out, ← Hcs.out]
      exact (Ho2.out.set 10 (cs / 256) (by omega) (by omega)).set 11 (cs % 256) (by omega) (by omega))
    have HB := Lib.hid (show Below w.heap.size w ((w2.setCell ⟨g, 10, none⟩ (.int .u8 (cs / 256))).setCell ⟨g, 11, none⟩ (.int .u8 (cs % 256))) from (Hb2.out.setCell (p := ⟨g, 10, none⟩) hgl _).setCell (p := ⟨g, 11, none⟩) hgl _)
    go_wp2
    go_ret
    exact ⟨g, c', rfl, HO.out, HB.out⟩
end Go.Proofs.Ytbnlpidhbilenaa
