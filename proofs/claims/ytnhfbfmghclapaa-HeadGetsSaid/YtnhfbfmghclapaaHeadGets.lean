/-
  HeadGets: its walk.
-/
import Derived.Test.YtnhfbfmghclapaaOpenH
import Derived.Test.YtnhfbfmghclapaaCut
import Derived.Test.YtnhfbfmghclapaaSteps
import Derived.Test.YtnhfbfmghclapaaRight
import Derived.Test.YtnhfbfmghclapaaRef2
namespace Go.Proofs.Ytnhfbfmghclapaa
open Go.RowKit Plain
set_option linter.unusedVariables false
set_option maxRecDepth 100000

def hcells6 (h : Hd) : Array Value := #[.int .i64 h.size, .int .i64 h.len, .int .i64 h.ttl, .int .i64 h.proto, .int .u32 h.src, .int .u32 h.dst]
def someB : List Int := [115, 111, 109, 101, 32, 98, 121, 116, 101, 115]
/-- two heads that lie there, and what was there -/
structure S2 (w0 : World) (p q : Nat) (a : Hd) (w : World) : Prop where
  bp : Blk w p 24 (hcells6 a)
  bq : Blk w q 34 (hcells6 a)
  bel : Below w0.heap.size w0 w
theorem S2.below {w0 w w' : World} {p q : Nat} {a : Hd} (h : S2 w0 p q a w) (hb : Below w.heap.size w w') : S2 w0 p q a w' := ⟨h.bp.below hb, h.bq.below hb, bthen h.bel hb⟩
theorem S2.drew {w0 w : World} {p q : Nat} {a : Hd} (h : S2 w0 p q a w) : S2 w0 p q a w.drew := ⟨h.bp, h.bq, h.bel.drew⟩
theorem xor_byte (x y : Int) (h0 : 0 ≤ x) (h1 : x ≤ 255) (g0 : 0 ≤ y) (g1 : y ≤ 255) : 0 ≤ bits .xor .u8 x y ∧ bits .xor .u8 x y ≤ 255 := by
  obtain ⟨a, rfl⟩ := Int.eq_ofNat_of_zero_le h0
  obtain ⟨b, rfl⟩ := Int.eq_ofNat_of_zero_le g0
  rw [u8_xor_nat a b (by omega) (by omega)]
  have := Nat.xor_lt_two_pow (x := a) (y := b) (n := 8) (by omega) (by omega)
  omega
theorem from6 (d0 d1 d2 d3 d4 d5 : Int) (w : World) :
    Calls Try.prog 22 #[.agg #[.int .i64 d0, .int .i64 d1, .int .i64 d2, .int .i64 d3, .int .u32 d4, .int .u32 d5]] w fun e w' => e = .returned (.agg #[.int .i64 d0, .int .i64 d1, .int .i64 d2, .int .i64 d3, .int .u32 d4, .int .u32 d5]) ∧ Below w.heap.size w w' :=
  from_any ⟨d0, d1, d2, d3, d4, d5⟩ w

set_option maxHeartbeats 8000000 in
theorem headGets_walk (h : Hd) (x y : Int) (fix : Bool) (w : World) (ok : Hok h) (hx0 : -9223372036854775808 ≤ x) (hx1 : x ≤ 9223372036854775807) (hy0 : -9223372036854775808 ≤ y) (hy1 : y ≤ 9223372036854775807) :
    Calls Try.prog 3 #[h.val, .agg #[.int .i64 x, .int .i64 y], .bool fix] w fun e w' => e = .returned (.bool true) ∧ Below w.heap.size w w' := by
  obtain ⟨hs, hln, t, p, s, d⟩ := h
  obtain ⟨ot0, ot1, op0, op1, s0, s1, d0, d1, _, _, _, _⟩ := ok
  simp only at ot0 ot1 op0 op1 s0 s1 d0 d1
  rw [show (Hd.mk hs hln t p s d).val = .agg #[.int .i64 hs, .int .i64 hln, .int .i64 t, .int .i64 p, .int .u32 s, .int .u32 d] from rfl]
  have kc := fun (w : World) (C : Array Value) (n c : Nat) => Lib.run_convert_bytes_const (P := Try.prog) w 26 5 C n c Try.underlying26 Try.underlying5
  have hsb : By someB := by unfold By someB; decide
  go_enter Try.func3, Try.ntmps3
  go_upto_region 1 with fail
  obtain ⟨w1, hw1⟩ : ∃ w1, w1 = (w.alloc (.cells #[.int .i64 hs, .int .i64 hln, .int .i64 t, .int .i64 p, .int .u32 s, .int .u32 d] 24)).alloc (.cells #[.int .i64 x, .int .i64 y] 25) := ⟨_, rfl⟩
  have bk : Blk w1 w.heap.size 24 #[.int .i64 hs, .int .i64 hln, .int .i64 t, .int .i64 p, .int .u32 s, .int .u32 d] := by rw [hw1]; exact (Blk.new w _ _).alloc _
  have ba : Blk w1 (w.heap.size + 1) 25 #[.int .i64 x, .int .i64 y] := by rw [hw1]; have := Blk.new (w.alloc (.cells #[.int .i64 hs, .int .i64 hln, .int .i64 t, .int .i64 p, .int .u32 s, .int .u32 d] 24)) 25 #[.int .i64 x, .int .i64 y]; rwa [World.size_alloc] at this
  have Hb1 := Lib.hid (show Below w.heap.size w w1 by rw [hw1]; exact bthen (ball _ _) (ball _ _))
  have k0 := bk.cell 0
  have k1 := bk.cell 1
  have k2 := bk.cell 2
  have k3 := bk.cell 3
  have k4 := bk.cell 4
  have k5 := bk.cell 5
  simp only [List.getElem?_toArray, List.getElem?_cons_zero, List.getElem?_cons_succ] at k0 k1 k2 k3 k4 k5
  have Ha := Lib.hid ba
  rw [← hw1]
  clear hw1 bk ba
  obtain ⟨pa, hpa⟩ : ∃ pa, pa = w.heap.size + 1 := ⟨_, rfl⟩
  rw [← hpa] at Ha
  rw [← hpa]
  clear hpa
  by_cases fit : (0 ≤ t ∧ t ≤ 255) ∧ 0 ≤ p ∧ p ≤ 255
  · obtain ⟨⟨t0, t1⟩, p0, p1⟩ := fit
    go_wp2_with fail
    refine (rput_yes hs hln t p s d _ 10 10 someB _ (by omega) rfl (Rd.newM w1 _ _ someB hsb _ rfl) t0 t1 p0 p1 s0 s1 d0 d1).mono ?_
    rintro e w2 ⟨g, cc, rfl, ho, hbl⟩
    have hb2 := bthen Hb1.out (bthen (ball _ _) hbl)
    have Hb2 := Lib.hid hb2
    have Ha2 := Lib.hid ((Ha.out.alloc _).below hbl)
    have Ho2 := Lib.hid (ho.mono (base' := w.heap.size) (by have := Hb1.out.size; simp; omega))
    clear ho hbl hb2 k0 k1 k2 k3 k4 k5 Ha Hb1
    go_wp2_with fail
    refine (heads_any _).mono ?_
    rintro e w3 ⟨rfl, hbh⟩
    have Hb3 := Lib.hid (bthen Hb2.out hbh)
    have Ha3 := Lib.hid (Ha2.out.below hbh)
    have Ho3 := Lib.hid (Ho2.out.below hbh)
    clear hbh Hb2 Ha2 Ho2
    have hcap := Ho3.out.cap
    have hgl : w.heap.size ≤ g := by rcases Ho3.out.form with ⟨h, _⟩ | ⟨g2, h, hg, _⟩; cases h; injection h with h; injection h with h; omega
    have a0 := Ha3.out.cell 0
    have a1 := Ha3.out.cell 1
    simp only [List.getElem?_toArray, List.getElem?_cons_zero, List.getElem?_cons_succ] at a0 a1
    go_upto_if 31 with fail
    go_cut [7] (fun s7 wx => ∃ (A' : Option Addr) (k c' : Nat) (ys : List Int), s7 = .slice A' k c' ∧ ys.length = k ∧ k ≤ 30 ∧ k ≤ c' ∧ Rd wx A' ys ∧ Below w.heap.size w wx)
    case first =>
      by_cases h4 : y.tmod 5 = 4
      · have t4 : (y.tmod 5 == 4) = true := by simp [h4]
        have H4 := Lib.hid h4
        clear h4
        obtain ⟨K, hK, hKl⟩ := pick_any x 30 (by omega) (by omega)
        have iK : (K : Int) ≤ (cc : Int) := by omega
        go_wp2
        go_meet
        exact ⟨_, K, cc, _, rfl, by rw [List.length_take, Ho3.out.len]; omega, by omega, by omega, Ho3.out.rd.take K, Hb3.out⟩
      · have t4 : (y.tmod 5 == 4) = false := by simp [h4]
        have H4 := Lib.hid h4
        clear h4
        obtain ⟨K, hK, hKl⟩ := pick_any x 20 (by omega) (by omega)
        have hc := Ho3.out.at (k := K) (by omega)
        have hf := Ho3.out.free K
        have i0 : (K : Int) < 30 := by omega
        obtain ⟨z, hz⟩ : ∃ z, z = (frm t p s d someB).getD K 0 := ⟨_, rfl⟩
        rw [← hz] at hc
        have bz : 0 ≤ z ∧ z ≤ 255 := by rw [hz]; exact Ho3.out.byt.getD K
        clear hz
        generalize hww : w3 = ww at *
        go_wp2
        go_region
        go_wp2
        go_meet
        have hr := xor_byte z (y % 256) bz.1 bz.2 (by omega) (by omega)
        exact ⟨_, 30, cc, _, rfl, by rw [List.length_set, Ho3.out.len], by omega, by omega, ((Ho3.out.set K _ hr.1 hr.2).drewN 1).rd, (Hb3.out.setCell (p := ⟨g, K, none⟩) hgl _).drew⟩
    case rest =>
      obtain ⟨A', k, c', ys, rfl, hyl, hk30, hkc, hR, hB⟩ := hcut
      have HR := Lib.hid hR
      have HB := Lib.hid hB
      have Hyl := Lib.hid hyl
      clear hR hB hyl a0 a1 Ha3 Ho3 Hb3 hcap hgl
      go_upto_region 7 with fail
      go_cut [57] (fun s wx => ∃ tb : Bool, s = .bool tb ∧ (tb = true → 20 ≤ k) ∧ wx = wc)
      case first =>
        cases fix
        · go_wp2
          go_meet
          exact ⟨false, rfl, by simp, rfl⟩
        · by_cases h20 : 20 ≤ k
          · have i20 : (20 : Int) ≤ (k : Int) := by omega
            go_wp2
            go_meet
            exact ⟨true, rfl, fun _ => h20, rfl⟩
          · have i20 : ¬ (20 : Int) ≤ (k : Int) := by omega
            go_wp2
            go_meet
            exact ⟨false, rfl, by simp, rfl⟩
      case rest =>
        obtain ⟨tb, rfl, htb, rfl⟩ := hcut
        go_upto_if 57 with fail
        go_cut [7] (fun s7 wx => ∃ (A' : Option Addr) (k c' : Nat) (ys : List Int), s7 = .slice A' k c' ∧ ys.length = k ∧ k ≤ 30 ∧ k ≤ c' ∧ Rd wx A' ys ∧ Below w.heap.size w wx)
        case first =>
          rcases tb with _ | _
          · go_wp2
            go_meet
            exact ⟨_, k, c', ys, rfl, Hyl.out, hk30, hkc, HR.out, HB.out⟩
          · have h20 : 20 ≤ k := htb rfl
            clear htb
            go_wp2_with fail
            refine (rfix_any _ k c' ys _ Hyl.out h20 (by omega) HR.out).mono ?_
            rintro e w4 ⟨g2, c2, rfl, ho4, hb4⟩
            have HO4 := Lib.hid ho4
            have HB4 := Lib.hid (bthen HB.out hb4)
            clear ho4 hb4
            go_wp2
            go_meet
            exact ⟨_, k, c2, _, rfl, HO4.out.len, hk30, HO4.out.cap, HO4.out.rd, HB4.out⟩
        case rest =>
          obtain ⟨A1, k1, c1, zs, rfl, hzl, hk1, hkc1, hR1, hB1⟩ := hcut
          have HR1 := Lib.hid hR1
          have HB1 := Lib.hid hB1
          have Hzl := Lib.hid hzl
          clear hR1 hB1 hzl HR HB Hyl hk30 hkc
          go_upto_region 9 with fail
          go_wp2
          go_loopw [9] (fun i wr => ∃ k : Nat, i = .int .i64 k ∧ k ≤ 2 ∧ Below w.heap.size w wr ∧ Rd wr A1 zs) (fun i _ => 2 - (intOf i).toNat)
          case atStart => exact ⟨0, rfl, by omega, HB1.out, HR1.out⟩
          case round =>
            obtain ⟨k, rfl, hk2, hBr, hRr⟩ := hrel
            have HBr := Lib.hid hBr
            have HRr := Lib.hid hRr
            clear hBr hRr
            have key : k = 0 ∨ k = 1 ∨ k = 2 := by omega
            rcases key with rfl | rfl | rfl
            · skip
              obtain ⟨⟨b0, b1, b2, b3, b4, b5⟩, hbb⟩ : ∃ h, h = gtH zs := ⟨_, rfl⟩
              have Hbb := Lib.hid hbb
              clear hbb
              go_wp2_with fail
              refine (refGet_any A1 k1 c1 zs _ Hzl.out hkc1 (by omega) HRr.out).mono ?_
              rintro e w5 ⟨rfl, hb5⟩
              rw [← Hbb.out, show (Hd.mk b0 b1 b2 b3 b4 b5).val = .agg #[.int .i64 b0, .int .i64 b1, .int .i64 b2, .int .i64 b3, .int .u32 b4, .int .u32 b5] from rfl]
              have HB5 := Lib.hid (bthen HBr.out hb5)
              have HR5 := Lib.hid (HRr.out.below hb5)
              clear hb5
              go_wp2_with fail
              refine (get_any A1 k1 c1 zs _ Hzl.out hkc1 (by omega) (HR5.out.alloc _)).mono ?_
              rintro e w6 ⟨rfl, hb6⟩
              rw [← Hbb.out, show (Hd.mk b0 b1 b2 b3 b4 b5).val = .agg #[.int .i64 b0, .int .i64 b1, .int .i64 b2, .int .i64 b3, .int .u32 b4, .int .u32 b5] from rfl]
              have HP6 := Lib.hid (Blk.below (Blk.new _ _ _) hb6)
              have HB6 := Lib.hid (bthen (bthen HB5.out (ball _ _)) hb6)
              have HR6 := Lib.hid ((HR5.out.alloc _).below hb6)
              clear hb6
              go_upto_region 16 with fail
              have HS : S2 w w5.heap.size w6.heap.size ⟨b0, b1, b2, b3, b4, b5⟩ (w6.alloc (.cells #[.int .i64 b0, .int .i64 b1, .int .i64 b2, .int .i64 b3, .int .u32 b4, .int .u32 b5] 34)) := ⟨HP6.out.alloc _, Blk.new _ _ _, bthen HB6.out (ball _ _)⟩
              have HR7 := Lib.hid (HR6.out.alloc (.cells #[.int .i64 b0, .int .i64 b1, .int .i64 b2, .int .i64 b3, .int .u32 b4, .int .u32 b5] 34))
              generalize w6.alloc (.cells #[.int .i64 b0, .int .i64 b1, .int .i64 b2, .int .i64 b3, .int .u32 b4, .int .u32 b5] 34) = w7 at *
              generalize w6.heap.size = q at *
              generalize gtE zs = ge at *
              generalize w5.heap.size = p5 at *
              have r0 : ∀ W, S2 w p5 q ⟨b0, b1, b2, b3, b4, b5⟩ W → W.cell? ⟨p5, 0, none⟩ = some (.int .i64 b0) := fun W h => h.bp.cell 0
              have r1 : ∀ W, S2 w p5 q ⟨b0, b1, b2, b3, b4, b5⟩ W → W.cell? ⟨p5, 1, none⟩ = some (.int .i64 b1) := fun W h => h.bp.cell 1
              have r2 : ∀ W, S2 w p5 q ⟨b0, b1, b2, b3, b4, b5⟩ W → W.cell? ⟨p5, 2, none⟩ = some (.int .i64 b2) := fun W h => h.bp.cell 2
              have r3 : ∀ W, S2 w p5 q ⟨b0, b1, b2, b3, b4, b5⟩ W → W.cell? ⟨p5, 3, none⟩ = some (.int .i64 b3) := fun W h => h.bp.cell 3
              have r4 : ∀ W, S2 w p5 q ⟨b0, b1, b2, b3, b4, b5⟩ W → W.cell? ⟨p5, 4, none⟩ = some (.int .u32 b4) := fun W h => h.bp.cell 4
              have r5 : ∀ W, S2 w p5 q ⟨b0, b1, b2, b3, b4, b5⟩ W → W.cell? ⟨p5, 5, none⟩ = some (.int .u32 b5) := fun W h => h.bp.cell 5
              have s0 : ∀ W, S2 w p5 q ⟨b0, b1, b2, b3, b4, b5⟩ W → W.cell? ⟨q, 0, none⟩ = some (.int .i64 b0) := fun W h => h.bq.cell 0
              have s1 : ∀ W, S2 w p5 q ⟨b0, b1, b2, b3, b4, b5⟩ W → W.cell? ⟨q, 1, none⟩ = some (.int .i64 b1) := fun W h => h.bq.cell 1
              have s2 : ∀ W, S2 w p5 q ⟨b0, b1, b2, b3, b4, b5⟩ W → W.cell? ⟨q, 2, none⟩ = some (.int .i64 b2) := fun W h => h.bq.cell 2
              have s3 : ∀ W, S2 w p5 q ⟨b0, b1, b2, b3, b4, b5⟩ W → W.cell? ⟨q, 3, none⟩ = some (.int .i64 b3) := fun W h => h.bq.cell 3
              have s4 : ∀ W, S2 w p5 q ⟨b0, b1, b2, b3, b4, b5⟩ W → W.cell? ⟨q, 4, none⟩ = some (.int .u32 b4) := fun W h => h.bq.cell 4
              have s5 : ∀ W, S2 w p5 q ⟨b0, b1, b2, b3, b4, b5⟩ W → W.cell? ⟨q, 5, none⟩ = some (.int .u32 b5) := fun W h => h.bq.cell 5
              have tt : (ge != ge) = false := by simp
              go_region_held3 (fun w' => S2 w p5 q ⟨b0, b1, b2, b3, b4, b5⟩ w' ∧ Rd w' A1 zs)
                (first | (with_reducible exact ⟨HS.drew, HR7.out.drew⟩) | (with_reducible exact ⟨S2.below (And.left (by assumption)) (by assumption), Rd.below (And.right (by assumption)) (by assumption)⟩))
                (first
                  | (go_at_call 22; refine (from6 b0 b1 b2 b3 b4 b5 _).mono ?_; rintro e w' ⟨rfl, hbh⟩))
              go_wp2
              go_roundw
              case rel => exact ⟨1, by go_num, by omega, S2.bel (And.left (by assumption)), And.right (by assumption)⟩
              case measure => simp [intOf]
            · skip
              obtain ⟨⟨b0, b1, b2, b3, b4, b5⟩, hbb⟩ : ∃ h, h = ptH zs := ⟨_, rfl⟩
              have Hbb := Lib.hid hbb
              clear hbb
              go_wp2_with fail
              refine (refPart_any A1 k1 c1 zs _ Hzl.out hkc1 (by omega) HRr.out).mono ?_
              rintro e w5 ⟨rfl, hb5⟩
              rw [← Hbb.out, show (Hd.mk b0 b1 b2 b3 b4 b5).val = .agg #[.int .i64 b0, .int .i64 b1, .int .i64 b2, .int .i64 b3, .int .u32 b4, .int .u32 b5] from rfl]
              have HB5 := Lib.hid (bthen HBr.out hb5)
              have HR5 := Lib.hid (HRr.out.below hb5)
              clear hb5
              go_wp2_with fail
              refine (get_any A1 k1 c1 zs _ Hzl.out hkc1 (by omega) (HR5.out.alloc _)).mono ?_
              rintro e w6 ⟨rfl, hb6⟩
              obtain ⟨⟨a0, a1, a2, a3, a4, a5⟩, haa⟩ : ∃ h, h = gtH zs := ⟨_, rfl⟩
              rw [← haa, show (Hd.mk a0 a1 a2 a3 a4 a5).val = .agg #[.int .i64 a0, .int .i64 a1, .int .i64 a2, .int .i64 a3, .int .u32 a4, .int .u32 a5] from rfl]
              have HP6 := Lib.hid (Blk.below (Blk.new _ _ _) hb6)
              have HB6 := Lib.hid (bthen (bthen HB5.out (ball _ _)) hb6)
              have HR6 := Lib.hid ((HR5.out.alloc _).below hb6)
              have hqp : w5.heap.size < w6.heap.size := by have := hb6.size; simp at this; omega
              clear hb6 haa
              go_wp2_with fail
              refine (part_any A1 k1 c1 zs _ Hzl.out (by omega) (HR6.out.alloc _)).mono ?_
              rintro e w7 ⟨rfl, hb7⟩
              rw [← Hbb.out, show (Hd.mk b0 b1 b2 b3 b4 b5).val = .agg #[.int .i64 b0, .int .i64 b1, .int .i64 b2, .int .i64 b3, .int .u32 b4, .int .u32 b5] from rfl]
              have HQ7 := Lib.hid (Blk.below (Blk.new _ _ _) hb7)
              have HP7 := Lib.hid ((HP6.out.alloc _).below hb7)
              have HB7 := Lib.hid (bthen (bthen HB6.out (ball _ _)) hb7)
              have HR7 := Lib.hid ((HR6.out.alloc _).below hb7)
              have hqw : w.heap.size ≤ w6.heap.size := HB6.out.size
              have hqn := HR6.out.lt
              clear hb7
              have q0 := HQ7.out.cell 0
              have q1 := HQ7.out.cell 1
              have q2 := HQ7.out.cell 2
              have q3 := HQ7.out.cell 3
              have q4 := HQ7.out.cell 4
              have q5 := HQ7.out.cell 5
              simp only [List.getElem?_toArray, List.getElem?_cons_zero, List.getElem?_cons_succ] at q0 q1 q2 q3 q4 q5
              have f0 := HQ7.out.frozen 0
              have f1 := HQ7.out.frozen 1
              have f2 := HQ7.out.frozen 2
              have f3 := HQ7.out.frozen 3
              have f4 := HQ7.out.frozen 4
              have f5 := HQ7.out.frozen 5
              generalize w6.heap.size = q at *
              go_upto_region 16 with fail
              obtain ⟨w8, hw8⟩ : ∃ w8, w8 = (((((w7.setCell ⟨q, 0, none⟩ (.int .i64 b0)).setCell ⟨q, 1, none⟩ (.int .i64 b1)).setCell ⟨q, 2, none⟩ (.int .i64 b2)).setCell ⟨q, 3, none⟩ (.int .i64 b3)).setCell ⟨q, 4, none⟩ (.int .u32 b4)).setCell ⟨q, 5, none⟩ (.int .u32 b5) := ⟨_, rfl⟩
              rw [← hw8]
              have HS : S2 w w5.heap.size q ⟨b0, b1, b2, b3, b4, b5⟩ w8 := by
                rw [hw8]; exact ⟨HP7.out.ne6 (by omega) _ _ _ _ _ _, HQ7.out.set6 _ _ _ _ _ _, below_set6 HB7.out hqw _ _ _ _ _ _⟩
              have HR8 := Lib.hid (show Rd w8 A1 zs by rw [hw8]; exact HR7.out.setNew hqn _ _ _ _ _ _)
              generalize ptE zs = ge at *
              clear q0 q1 q2 q3 q4 q5 f0 f1 f2 f3 f4 f5 hw8 HQ7 HP7
              generalize w5.heap.size = p5 at *
              have r0 : ∀ W, S2 w p5 q ⟨b0, b1, b2, b3, b4, b5⟩ W → W.cell? ⟨p5, 0, none⟩ = some (.int .i64 b0) := fun W h => h.bp.cell 0
              have r1 : ∀ W, S2 w p5 q ⟨b0, b1, b2, b3, b4, b5⟩ W → W.cell? ⟨p5, 1, none⟩ = some (.int .i64 b1) := fun W h => h.bp.cell 1
              have r2 : ∀ W, S2 w p5 q ⟨b0, b1, b2, b3, b4, b5⟩ W → W.cell? ⟨p5, 2, none⟩ = some (.int .i64 b2) := fun W h => h.bp.cell 2
              have r3 : ∀ W, S2 w p5 q ⟨b0, b1, b2, b3, b4, b5⟩ W → W.cell? ⟨p5, 3, none⟩ = some (.int .i64 b3) := fun W h => h.bp.cell 3
              have r4 : ∀ W, S2 w p5 q ⟨b0, b1, b2, b3, b4, b5⟩ W → W.cell? ⟨p5, 4, none⟩ = some (.int .u32 b4) := fun W h => h.bp.cell 4
              have r5 : ∀ W, S2 w p5 q ⟨b0, b1, b2, b3, b4, b5⟩ W → W.cell? ⟨p5, 5, none⟩ = some (.int .u32 b5) := fun W h => h.bp.cell 5
              have s0 : ∀ W, S2 w p5 q ⟨b0, b1, b2, b3, b4, b5⟩ W → W.cell? ⟨q, 0, none⟩ = some (.int .i64 b0) := fun W h => h.bq.cell 0
              have s1 : ∀ W, S2 w p5 q ⟨b0, b1, b2, b3, b4, b5⟩ W → W.cell? ⟨q, 1, none⟩ = some (.int .i64 b1) := fun W h => h.bq.cell 1
              have s2 : ∀ W, S2 w p5 q ⟨b0, b1, b2, b3, b4, b5⟩ W → W.cell? ⟨q, 2, none⟩ = some (.int .i64 b2) := fun W h => h.bq.cell 2
              have s3 : ∀ W, S2 w p5 q ⟨b0, b1, b2, b3, b4, b5⟩ W → W.cell? ⟨q, 3, none⟩ = some (.int .i64 b3) := fun W h => h.bq.cell 3
              have s4 : ∀ W, S2 w p5 q ⟨b0, b1, b2, b3, b4, b5⟩ W → W.cell? ⟨q, 4, none⟩ = some (.int .u32 b4) := fun W h => h.bq.cell 4
              have s5 : ∀ W, S2 w p5 q ⟨b0, b1, b2, b3, b4, b5⟩ W → W.cell? ⟨q, 5, none⟩ = some (.int .u32 b5) := fun W h => h.bq.cell 5
              have tt : (ge != ge) = false := by simp
              go_region_held3 (fun w' => S2 w p5 q ⟨b0, b1, b2, b3, b4, b5⟩ w' ∧ Rd w' A1 zs)
                (first | (with_reducible exact ⟨HS.drew, HR8.out.drew⟩) | (with_reducible exact ⟨S2.below (And.left (by assumption)) (by assumption), Rd.below (And.right (by assumption)) (by assumption)⟩))
                (first
                  | (go_at_call 22; refine (from6 b0 b1 b2 b3 b4 b5 _).mono ?_; rintro e w' ⟨rfl, hbh⟩))
              go_wp2
              go_roundw
              case rel => exact ⟨2, by go_num, by omega, S2.bel (And.left (by assumption)), And.right (by assumption)⟩
              case measure => simp [intOf]
            · go_wp2
              go_ret
              exact ⟨rfl, HBr.out⟩
  · have hno : ¬ (0 ≤ t ∧ t ≤ 255) ∨ ¬ (0 ≤ p ∧ p ≤ 255) ∨ 1480 < 10 := by
      by_cases h1 : 0 ≤ t ∧ t ≤ 255
      · exact .inr (.inl fun h2 => fit ⟨h1, h2⟩)
      · exact .inl h1
    have Hno := Lib.hid hno
    clear hno fit
    go_wp2_with fail
    refine (rput_no hs hln t p s d _ 10 10 _ (by omega) Hno.out).mono ?_
    rintro e w2 ⟨rfl, hbl⟩
    have Hb2 := Lib.hid (bthen Hb1.out (bthen (ball _ _) hbl))
    clear hbl k0 k1 k2 k3 k4 k5 Ha Hb1
    go_wp2_with fail
    refine (heads_any _).mono ?_
    rintro e w3 ⟨rfl, hbh⟩
    have Hb3 := Lib.hid (bthen Hb2.out hbh)
    clear hbh Hb2
    go_wp2_with fail
    refine (heads_any _).mono ?_
    rintro e w4 ⟨rfl, hbh⟩
    have Hb4 := Lib.hid (bthen Hb3.out hbh)
    clear hbh
    go_wp2
    go_ret
    exact ⟨rfl, Hb4.out⟩
end Go.Proofs.Ytnhfbfmghclapaa
