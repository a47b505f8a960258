/-
  Programs laid anew (fanlightlaw06.to), and the first ones of them (fanlightlaw06.few). Conditions stand in each theorem.
-/
import Derived.Test.YtgengboaoniogaaGrow
import Derived.Deep.RegionHeld3
import Derived.WalkSpells
namespace Go.Proofs.Ytgengboaoniogaa
open Go.ChangeShapes Go.WideShapes Go.ChangeAt Go.RowKit Go.Deep Plain
set_option linter.unusedVariables false
set_option maxRecDepth 100000
set_option linter.unusedSimpArgs false

/-- a program that was grown, as it is read: it may be empty -/
theorem own_prog' {w : World} {base : Nat} {v : Value} {os : List OpV} (h : w.ownsRow base 27 5 v os.length (opC os)) (hok : ∀ o ∈ os, o.ok) :
    ∃ A c, v = .slice A os.length c ∧ (∀ b off, A = some ⟨b, off, none⟩ → b < w.heap.size ∧ ∃ cur, w.heap[b]? = some (.cells cur 27 (0, 0))) ∧ RdP w A os := by
  by_cases h0 : 0 < os.length
  · obtain ⟨g, c, e, hg, hl, hr⟩ := own_prog h h0 hok
    refine ⟨_, c, e, fun b off e' => ?_, hr⟩
    injection e' with e'; injection e' with e1 e2
    subst e1
    obtain ⟨_, _, cur, q⟩ := own_blk h (g := g) (by rw [e]; rfl)
    exact ⟨hl, cur, q⟩
  · have hn : os.length = 0 := by omega
    rcases h.2 with ⟨e, _⟩ | ⟨g, cap, cur, e, hg, hh, _⟩
    · exact ⟨none, 0, by rw [e, hn], (fun b off e' => by cases e'), hok, fun hp => absurd hp h0⟩
    · refine ⟨_, cap, e, fun b off e' => ?_, hok, fun hp => absurd hp h0⟩
      injection e' with e'; injection e' with e1 e2
      subst e1
      exact ⟨(Array.getElem?_eq_some_iff.1 hh).1, cur, hh⟩
theorem Two.tin' {w : World} {base gc gn n np k2 : Nat} {A : Option Addr} {c : Nat} {v2 : Value} {l : List Int} {p1 p2 : Nat → Value} {o1 o2 : Nat → List OpV} (hT : Two w base np k2 (.slice A np c) v2 p1 p2 o1 o2) (hC : Cl w gc gn n l) (h0 : 0 < np) (h64 : np ≤ 64) (hlen : ∀ i, i < np → (o1 i).length ≤ 1000000) (hok : ∀ i, i < np → ∀ o ∈ o1 i, o.ok)
    {B : Option Addr} {nz cz : Nat} {zs : List Int} (hz : zs.length = nz) (hR : RdN .i64 w B zs) (hB : 0 < nz → ∀ b off, B = some ⟨b, off, none⟩ → b < w.heap.size ∧ b ≠ gn) (hzn : nz ≤ cz) (hzc : cz ≤ maxLen) :
    TIn w gc gn n l A np c np (fun i => slP (p1 i)) o1 B nz cz zs := by
  rcases hT.r1.2 with ⟨_, e⟩ | ⟨g, cap, cur, e, hg, hh, hnc, hcm, hcs, ht⟩
  · omega
  · injection e with e1 e2 e3
    subst e1 e3
    have key := fun i (hi : i < np) => own_prog' (hT.q1 i hi) (hok i hi)
    refine ⟨hC, fun _ => ⟨g, 0, rfl, (Array.getElem?_eq_some_iff.1 hh).1, fun i hi => ?_⟩, fun i hi => ?_, fun i hi b off e => ?_, fun i hi => ?_, by omega, h0, hcm, hnc, hz, hR, hB, hzn, hzc⟩
    · obtain ⟨gi, ci, ep, _⟩ := key i hi
      rw [Nat.zero_add, cell_of_row w g _ cur _ _ hh, ← Array.getElem?_toList, ← List.getElem?_take_of_lt (show i < np * 1 by omega), ht]
      simp [hi, ep, slP]
    · obtain ⟨gi, ci, ep, _, hr⟩ := key i hi
      simp only [ep, slP]
      exact hr
    · obtain ⟨gi, ci, ep, hgl, hr⟩ := key i hi
      simp only [ep, slP] at e
      obtain ⟨hlt, cur', q⟩ := hgl b off e
      refine ⟨hlt, fun he => ?_⟩
      subst he
      have hb := hC.nu
      unfold Blk at hb
      rw [hb] at q
      injection q with q
      injection q with _ q
      exact absurd q (by decide)
    · obtain ⟨gi, ci, ep, _⟩ := key i hi
      simp only [ep, slP]
      exact ⟨trivial, hlen i hi⟩

theorem RdV.below {w w' : World} {A : Option Addr} {n : Nat} {V : Nat → Option Addr × Nat × Nat} (h : RdV w A n V) (hb : Below w.heap.size w w') : RdV w' A n V := fun hp => by
  obtain ⟨b, off, e, hl, hc⟩ := h hp
  exact ⟨b, off, e, Nat.lt_of_lt_of_le hl hb.size, fun i hi => (hb.cell (p := ⟨b, off + i, none⟩) hl).trans (hc i hi)⟩
theorem RdP.below' {w w' : World} {A : Option Addr} {os : List OpV} (h : RdP w A os) (hb : Below w.heap.size w w') : RdP w' A os := h.keep (bs := []) (Keep.of_below hb) (fun _ _ _ => by simp)
theorem take_oneP (os : List OpV) (k : Nat) (h : k < os.length) : os.take (k + 1) = os.take k ++ [os.getD k default] := by
  rw [List.take_succ_eq_append_getElem h]; simp [List.getD, h]

set_option maxHeartbeats 4000000 in
theorem tto_any (A0 : Option Addr) (m c0 : Nat) (V : Nat → Option Addr × Nat × Nat) (os : Nat → List OpV) (w : World) (hm : m ≤ 1000) (hV : RdV w A0 m V) (hP : ∀ i, i < m → RdP w (V i).1 (os i) ∧ (os i).length = (V i).2.1 ∧ (V i).2.1 ≤ 1000) :
    Calls Try.prog 16 #[.slice A0 m c0] w fun e w' => ∃ A' c' p1, e = .returned (.slice A' m c') ∧ Two w' w.heap.size m 0 (.slice A' m c') (.slice none 0 0) p1 (fun _ => .slice none 0 0) os (fun _ => []) ∧ Below w.heap.size w w' := by
  have HV := Lib.hid hV
  have HP := Lib.hid hP
  clear hV hP
  go_enter Try.func16, Try.ntmps16
  go_wp2
  go_loopw [3, 4, 5, 6, 7] (fun s3 s4 s5 s6 s7 wr => ∃ (k c' : Nat) (A' : Option Addr) (p1 : Nat → Value), s3 = .slice A' k c' ∧ s4 = .int .i64 k ∧ k ≤ m ∧ Two wr w.heap.size k 0 (.slice A' k c') (.slice none 0 0) p1 (fun _ => .slice none 0 0) os (fun _ => []) ∧ Below w.heap.size w wr) (fun _ i _ _ _ _ => m - (intOf i).toNat)
  case atStart => exact ⟨0, 0, none, fun _ => .slice none 0 0, rfl, rfl, by omega, Two.nil _ _ _ _ _ _, Below.refl _ _⟩
  case round =>
    obtain ⟨k, c', A', p1, rfl, rfl, hk, hT, hB⟩ := hrel
    have HT := Lib.hid hT
    have HB := Lib.hid hB
    have hsz := hB.size
    clear hT hB
    by_cases hlt : k < m
    · have i0 : (k : Int) < (m : Int) := by omega
      obtain ⟨b0, off0, rfl, hbl0, hcell0⟩ := HV.out (by omega)
      have v0 := hcell0 k hlt
      obtain ⟨hRP, hLP, hMP⟩ := HP.out k hlt
      have HO := Lib.hid (show (os k).length = (V k).2.1 from hLP)
      generalize V k = vk at *
      obtain ⟨Ak, nk, ck⟩ := vk
      simp only at v0 hRP hLP hMP HO
      have HRP := Lib.hid hRP
      have HV0 := Lib.hid v0
      clear hcell0 hRP hLP v0
      obtain ⟨wo, rfl⟩ : ∃ x, x = wr := ⟨wr, rfl⟩
      go_wp2
      go_loopw [5, 6, 7] (fun s5 s6 s7 wx => ∃ (t ca : Nat) (Aa : Option Addr), s5 = .slice Aa t ca ∧ s6 = .int .i64 t ∧ t ≤ nk ∧ In2 wx wo.heap.size t 0 (.slice Aa t ca) (.slice none 0 0) ((os k).take t) [] ∧ Below wo.heap.size wo wx) (fun _ i _ _ => nk - (intOf i).toNat)
      case atStart => exact ⟨0, 0, none, rfl, rfl, by omega, In2.nil _ _, Below.refl _ _⟩
      case round =>
        obtain ⟨t, ca, Aa, rfl, rfl, htk, hI, hBi⟩ := hrel
        have HI := Lib.hid hI
        have HBi := Lib.hid hBi
        have hszi := hBi.size
        have HBo := Lib.hid (bthen HB.out hBi)
        have v1 := (HBo.out.cell (p := ⟨b0, off0 + k, none⟩) hbl0).trans HV0.out
        clear hI hBi
        by_cases hlt2 : t < nk
        · have i1 : (t : Int) < (nk : Int) := by omega
          obtain ⟨b, off, rfl, hbl, hcell⟩ := HRP.out.2 (by rw [HO.out]; omega)
          obtain ⟨q0, q1, q2, q3, q4⟩ := hcell t (by rw [HO.out]; exact hlt2)
          have r0 := (HBo.out.cell (p := ⟨b, off + t * 5, none⟩) hbl).trans q0
          have r1 := (HBo.out.cell (p := ⟨b, off + t * 5 + 1, none⟩) hbl).trans q1
          have r2 := (HBo.out.cell (p := ⟨b, off + t * 5 + 2, none⟩) hbl).trans q2
          have r3 := (HBo.out.cell (p := ⟨b, off + t * 5 + 3, none⟩) hbl).trans q3
          have r4 := (HBo.out.cell (p := ⟨b, off + t * 5 + 4, none⟩) hbl).trans q4
          have HTK := Lib.hid (take_oneP (os k) t (by rw [HO.out]; exact hlt2))
          clear hcell q0 q1 q2 q3 q4
          generalize (os k).getD t default = x at *
          obtain ⟨x0, x1, x2, x3, x4⟩ := x
          simp only at r0 r1 r2 r3 r4
          have HI1 := Lib.hid (show In2 (wr.alloc (.cells #[.int .i64 x0, .int .i64 x1, .int .u64 x2, .int .u64 x3, .bool x4] 116)) wo.heap.size t 0 (.slice Aa t ca) (.slice none 0 0) ((os k).take t) [] from
            ⟨own_below HI.out.ra (ball wr _), own_below HI.out.rb (ball wr _), HI.out.ap⟩)
          have HBi1 := Lib.hid (HBi.out.alloc hszi (.cells #[.int .i64 x0, .int .i64 x1, .int .u64 x2, .int .u64 x3, .bool x4] 116))
          have hszi1 : wo.heap.size ≤ (wr.alloc (.cells #[.int .i64 x0, .int .i64 x1, .int .u64 x2, .int .u64 x3, .bool x4] 116)).heap.size := by simp; omega
          go_wp2_with (at_builtin; refine wpList_ops rfl (.tmp 30) (.tmp 42) rfl rfl HI1.out HBi1.out hszi1 [⟨x0, x1, x2, x3, x4⟩] _ rfl 1 rfl (by omega) (by omega) _ rfl (by simp) ?_)
          intro A3 c3 w3 hI3 hB3
          have HI3 := Lib.hid hI3
          have HB3 := Lib.hid hB3
          clear hI3 hB3 HI HBi HI1 HBi1
          go_wp2
          go_roundw
          case rel => exact ⟨t + 1, c3, A3, rfl, by go_num, by omega, by rw [HTK.out]; exact HI3.out, HB3.out⟩
          case measure => simp [intOf]; omega
        · obtain rfl : t = nk := by omega
          have HTi := Lib.hid (HT.out.below HBi.out)
          have hszo := HBo.out.size
          have HA := Lib.hid (show wr.ownsRow w.heap.size 27 5 (.slice Aa t ca) (os k).length (opC (os k)) by
            have := own_base HI.out.ra hsz
            rw [List.take_of_length_le (by rw [HO.out]; exact Nat.le_refl _)] at this
            rw [HO.out]; exact this)
          clear HI HBi HT HB
          go_wp2_with (at_builtin; refine wpList_two rfl (.tmp 44) (.tmp 46) rfl rfl HTi.out HBo.out hszo _ _ _ HA.out (by omega) _ rfl rfl ?_)
          intro A5 c5 w5 p5 hT5 hB5 hkeep
          have HT5 := Lib.hid hT5
          have HB5 := Lib.hid hB5
          clear hT5 hB5 hkeep
          go_wp2
          go_roundw
          case rel => exact ⟨k + 1, c5, A5, p5, rfl, by go_num, by omega, HT5.out, HB5.out⟩
          case measure => simp [intOf]; omega
    · obtain rfl : k = m := by omega
      go_wp2
      go_ret
      exact ⟨A', c', p1, rfl, HT.out, HB.out⟩
end Go.Proofs.Ytgengboaoniogaa
