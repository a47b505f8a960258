/-
  PoolOwns: its walk. Conditions stand in each theorem.
-/
import Derived.Test.YtmbceafeonjffaaPsB
namespace Go.Proofs.Ytmbceafeonjffaa
open Go.RowKit Go.Deep Plain
set_option linter.unusedVariables false
set_option linter.unusedSimpArgs false
set_option maxRecDepth 100000
set_option maxHeartbeats 16000000 in
theorem pw_walk (n : Int) (A : Option Addr) (len cap : Nat) (L : List A8) (w : World) (hl : L.length = len) (hlc : len ≤ cap) (hcm : cap ≤ maxLen) (hr : RdA8 w A L) (hok : ∀ x ∈ L, x.ok w) :
    Calls Try.prog 3 #[.int .i64 n, .slice A len cap] w fun e w' => e = .returned (.bool true) ∧ Below w.heap.size w w' := by
  obtain ⟨K, hK, hKl⟩ := pickN n 100 (by omega) (by omega)
  have hKn : K < 100 := by omega
  obtain ⟨k, hk⟩ : ∃ k : Nat, 1 + (K : Int) = (k : Int) := ⟨1 + K, by omega⟩
  have hk1 : 1 ≤ k ∧ k ≤ 100 := by omega
  have HNW := Lib.hid (fun W => pnew_any k (by omega) (by omega) W)
  have hwr := wdsN_rng k (by omega) (by omega)
  have HPU := Lib.hid (OwP.start hk1.1)
  obtain ⟨N, hN⟩ : ∃ N, wdsN k = N := ⟨_, rfl⟩
  rw [hN] at HNW hwr HPU
  have hN32 : N ≤ 4 := by unfold wdsN at hN; omega
  have hN1 : 1 ≤ N := hwr.1
  have hkN : k ≤ 32 * N := hwr.2.2.1
  have hmk := fun W => run_mkN 29 3 .i64 8 Try.underlying29 infoInt (by omega) k (by omega) W
  have HL := Lib.hid hl
  have HR := Lib.hid hr
  have HOK := Lib.hid hok
  clear hl hr hok hwr hKl hN
  go_enter Try.func3, Try.ntmps3
  go_upto_region 2 with fail
  clear hk hK
  go_upto_region 3 with (go_at_call 9; refine (HNW.out _).mono ?_; rintro e w1 ⟨gp, gc, gn, rfl, hp, hb, hgp, hgc, hgn⟩; have HP := Lib.hid hp; have HB := Lib.hid hb; clear hp hb)
  go_upto_region 5 with (go_at_call 10; refine (takes_any _).mono ?_; rintro e w2 ⟨rfl, hb⟩; have HP2 := Lib.hid (HP.out.below hb); have HB2 := Lib.hid (bthen HB.out hb); clear hb)
  have hm2 := hmk w2
  have ho8 := Row.made .i64 3 w2 k
  rw [show ((List.replicate k (0 : Int)).map (Value.int .i64)).toArray = Array.replicate k (Value.int .i64 0) by simp] at hm2 ho8
  have HO8 := Lib.hid ho8
  clear ho8
  have hal8 := ball w2 (.cells (Array.replicate k (Value.int .i64 0)) 3)
  have HB8 := Lib.hid (bthen HB2.out hal8)
  have HP8 := Lib.hid (HP2.out.below hal8)
  have hg8 : w.heap.size ≤ w2.heap.size := HB2.out.size
  clear hal8 HP HB HNW HP2 HB2 hmk
  go_upto_region 6 with fail
  generalize w2.alloc (.cells (Array.replicate k (Value.int .i64 0)) 3) = w3 at *
  generalize w2.heap.size = g8 at *
  clear hm2
  have hal9 := ball w3 (.cells #[.pointer none, .pointer none, .pointer none, .pointer none] 31)
  have HS9 := Lib.hid (show Blk (w3.alloc (.cells #[.pointer none, .pointer none, .pointer none, .pointer none] 31)) w3.heap.size 31 (sarr fun _ => none) from Blk.new w3 _ _)
  have HO9 := Lib.hid (HO8.out.below hal9)
  have HB9 := Lib.hid (bthen HB8.out hal9)
  have HP9 := Lib.hid (HP8.out.below hal9)
  have hg9 : w.heap.size ≤ w3.heap.size := HB8.out.size
  clear hal9 HO8 HB8 HP8
  go_upto_region 7 with fail
  generalize w3.alloc (.cells #[.pointer none, .pointer none, .pointer none, .pointer none] 31) = w4 at *
  generalize w3.heap.size = g9 at *
  have hala := ball w4 (.cells #[.bool false, .bool false, .bool false, .bool false] 32)
  have HBa := Lib.hid (show Blk (w4.alloc (.cells #[.bool false, .bool false, .bool false, .bool false] 32)) w4.heap.size 32 (barr fun _ => false) from Blk.new w4 _ _)
  have HI0 := Lib.hid (show OwV w (w4.alloc (.cells #[.bool false, .bool false, .bool false, .bool false] 32)) gp gc gn N k g8 g9 w4.heap.size (newL k) (List.replicate k 0) (fun _ => none) (fun _ => false) from ⟨HP9.out.below hala, HO9.out.below hala, HS9.out.below hala, HBa.out, fun _ _ => SgW.nil _ _ _ _, fun _ _ _ _ _ _ _ _ _ e => (by cases e), bthen HB9.out hala, hg8, hg9, HB9.out.size⟩)
  clear hala HO9 HB9 HP9 HS9 HBa
  go_upto_region 9 with fail
  generalize w4.alloc (.cells #[.bool false, .bool false, .bool false, .bool false] 32) = w5 at *
  generalize w4.heap.size = gb at *
  go_loopw [4, 11] (fun s4 s11 wr => OwR w gp gc gn N k g8 g9 gb len s4 s11 wr) (fun _ s11 _ => 200 - (intOf s11).toNat)
  case atStart => exact ⟨_, _, _, _, 0, rfl, rfl, Nat.zero_le _, by omega, HI0.out, HPU.out⟩
  case round =>
    obtain ⟨l, own, st, bk, i, rfl, rfl, hi, hi2, hI, hV⟩ := hrel
    have HI := Lib.hid hI
    have HV := Lib.hid hV
    clear hI hV HI0 HPU
    by_cases hlt : i < len ∧ i < 200
    · have d1 : decide ((i : Int) < (len : Int)) = true := decide_eq_true (by omega)
      have d2 : decide ((i : Int) < 200) = true := decide_eq_true (by omega)
      obtain ⟨hlt1, hlt2⟩ := hlt
      obtain ⟨b, off, rfl, hbl, hc⟩ := HR.out (by rw [HL.out]; omega)
      have HA := Lib.hid ((hc i (by rw [HL.out]; exact hlt1)).below HI.out.be hbl)
      have HXK := Lib.hid (HOK.out _ (show L.getD i a80 ∈ L by simp [List.getD, show i < L.length by rw [HL.out]; exact hlt1]))
      clear hc
      generalize L.getD i a80 = x at *
      obtain ⟨xw, xk, xf, xm, xA, xn, xc, xz⟩ := x
      unfold A8.cs at HA
      simp only at HA
      have HZ := Lib.hid (Blk.new wr 34 #[.int .i64 0, .int .i64 0, .int .i64 0, .int .i64 0, .slice none 0 0])
      have hal := ball wr (.cells #[.int .i64 0, .int .i64 0, .int .i64 0, .int .i64 0, .slice none 0 0] 34)
      have HAL := Lib.hid hal
      clear hal
      go_upto_region 12 with (first | ((with_reducible refine gd_ldt 34 58 ?_); refine wpList_ldc rfl 34 (.tmp 58) rfl _ rfl _ (HA.out) sA8 ?_) | ((with_reducible refine gd_st 34 12 ?_); refine wpList_st rfl 34 (.tmp 12) _ rfl _ _ rfl _ rfl (HZ.out) sA8.2 (#[.int .i64 xw, .int .i64 xk, .int .i64 xf, .int .i64 xm, .slice xA xn xc]) rfl (Nat.le_of_ble_eq_true rfl) rfl ?_; intro w4 hb4 hg4 hs4))
      have k1 : w4.cell? ⟨wr.heap.size, 1, none⟩ = some (.int .i64 xk) := hb4.cell 1
      have HB4 := Lib.hid hb4
      have HW4 := Lib.hid (bgrown HAL.out hg4 (Nat.le_refl _))
      clear hb4 hg4 hs4 HZ HAL HA
      have HI4 := Lib.hid (HI.out.below HW4.out)
      generalize wr.heap.size = g4 at *
      have hz4 := HI4.out.be.size
      obtain ⟨hw1, hw2, hw3, hw4, hxl, hxc, hxm, hxr⟩ := HXK.out
      simp only at hw1 hw2 hw3 hw4 hxl hxc hxm hxr
      have bd4 := bounds_i64 hw4
      have HXR := Lib.hid hxr.2
      clear HI HW4 HXK hw1 hw2 hw3 hw4 hxr
      obtain ⟨v, hv, hvl⟩ := pickN xk 4 (by omega) (by omega)
      have hv4 : v < 4 := by omega
      obtain ⟨nb, hnb⟩ : ∃ q, ((IntKind.u64.wrap xw).tmod 3 == 0) = q := ⟨_, rfl⟩
      go_upto_region 13 with fail
      rw [hv]
      clear hv k1
      have k9 := HI4.out.cs hv4
      have hvi : (v : Int) < 4 := hvl
      obtain ⟨o, hos⟩ : ∃ o, st v = o := ⟨_, rfl⟩
      rw [hos] at k9
      have HOS := Lib.hid hos
      clear hos
      rcases o with _ | ⟨g, s⟩
      · as_aux_lemma =>
          have k0 : w4.cell? ⟨g4, 0, none⟩ = some (.int .i64 xw) := HB4.out.cell 0
          have kb := HI4.out.cb hv4
          have fb : w4.frozen? ⟨gb, v, none⟩ = false := HI4.out.bb.frozen v
          go_upto_region 15 with fail
          have HI5 := Lib.hid (HI4.out.setB hv4 nb)
          have HB5 := Lib.hid (HB4.out.ne (p := ⟨gb, v, none⟩) (blkT HI4.out.bb HB4.out (by decide)) (.bool nb))
          have HV5 := Lib.hid (HV.out.setB (v := v) (by unfold stP; rw [HOS.out]; rfl) nb)
          clear k0 kb fb k9 HI4 HB4 HV hnb
          generalize w4.setCell ⟨gb, v, none⟩ (.bool nb) = w5 at *
          have kb := HI5.out.cb hv4
          rw [upS_same] at kb
          have HX5 := Lib.hid (RdI.below HXR.out HI5.out.be)
          cases nb
          case false =>
            have k2 : w5.cell? ⟨g4, 2, none⟩ = some (.int .i64 xf) := HB5.out.cell 2
            have k3 : w5.cell? ⟨g4, 3, none⟩ = some (.int .i64 xm) := HB5.out.cell 3
            have HTK := Lib.hid (pTake_any HI5.out.po hN1 (by omega) xf xm bd4.1 bd4.2)
            go_upto_region 16 with fail
            go_wp2_with (go_at_call 11; refine (HTK.out).mono ?_; rintro e w6 ⟨wd, mo, hwd, hm1, hm2, _, _, rfl, hst, hb2⟩; have HI6 := Lib.hid (HI5.out.below hb2); have k9 := HI6.out.cs hv4; have f9 : w6.frozen? ⟨g9, v, none⟩ = false := HI6.out.sb.frozen v; have HI7 := Lib.hid (HI6.out.setS hv4 (some (w5.heap.size, _)) (SgW.one ⟨⟨_, hst, ⟨none, 0, 0, rfl, rfl, Nat.le_refl _, by omega, fun h => absurd h (by omega)⟩⟩, takeP_ok hwd hm2⟩ HI5.out.be.size) (fun u hu _ a b c d e1 e2 => by cases e1; have := (HI5.out.ss u hu).lt e2; omega)); clear hst hb2)
            go_roundw
            case rel => exact ⟨l, own, _, _, i + 1, rfl, by go_num, by omega, by omega, HI7.out, by rw [stP_up]; exact HV5.out.begin hv4 (by rw [upS_same]; exact StO.take _ _ _ _)⟩
            case measure => simp [intOf]; omega
          case true =>
            have k4 : w5.cell? ⟨g4, 4, none⟩ = some (.slice xA xn xc) := HB5.out.cell 4
            go_upto_region 19 with fail
            go_loopw [14, 15] (fun s14 s15 wr => ∃ j A' m c' zs, s15 = .int .i64 ((j : Nat) : Int) ∧ j ≤ xn ∧ j ≤ 40 ∧ s14 = .slice A' m c' ∧ m ≤ j ∧ OwI w5.heap.size wr A' m c' zs ∧ (∀ x ∈ zs, 0 ≤ x ∧ x < (k : Int) ∧ own.getD x.toNat 0 = (v : Int) + 1) ∧ Below w5.heap.size w5 wr) (fun _ s15 _ => 40 - (intOf s15).toNat)
            case atStart => exact ⟨0, none, 0, 0, [], rfl, Nat.zero_le _, by omega, rfl, Nat.le_refl _, OwI.nil _ _, fun x hx => by simp at hx, Below.refl _ _⟩
            case round =>
              obtain ⟨j, A', m, c', zs, rfl, hj, hj2, rfl, hmj, hO, hZ, hB⟩ := hrel
              have HO := Lib.hid hO
              have HZ := Lib.hid hZ
              have HBr := Lib.hid hB
              have k4' : wr.cell? ⟨g4, 4, none⟩ = some (.slice xA xn xc) := (HB5.out.below hB).cell 4
              have HI6 := Lib.hid (HI5.out.below hB)
              clear hO hZ hB k4 kb
              by_cases hjl : j < xn ∧ j < 40
              · obtain ⟨hj3, hj4⟩ := hjl
                have e1 : decide ((j : Int) < (xn : Int)) = true := decide_eq_true (by omega)
                have e2 : decide ((j : Int) < 40) = true := decide_eq_true (by omega)
                obtain ⟨bx, ox, rfl, hbx, hcx⟩ := HX5.out (by omega)
                have kx : wr.cell? ⟨bx, ox + j, none⟩ = some (.int .i64 (xz.getD j 0)) := (HBr.out.cell (p := ⟨bx, ox + j, none⟩) hbx).trans (hcx j (by omega))
                obtain ⟨x, hx⟩ : ∃ x, xz.getD j 0 = x := ⟨_, rfl⟩
                rw [hx] at kx
                clear hcx hx
                have i1 : (j : Int) < (xn : Int) := by omega
                by_cases hx0 : 0 ≤ x
                · have e3 : decide (0 ≤ x) = true := decide_eq_true hx0
                  obtain ⟨y, rfl⟩ : ∃ y : Nat, x = y := ⟨x.toNat, by omega⟩
                  clear hx0
                  by_cases hxk : y < k
                  · have e4 : decide ((y : Int) < (k : Int)) = true := decide_eq_true (by omega)
                    have i2 : (y : Int) < (k : Int) := by omega
                    have ky : wr.cell? ⟨g8, y, none⟩ = some (.int .i64 (own.getD y 0)) := HI6.out.ow.at (by rw [HV5.out.len]; exact hxk)
                    obtain ⟨z, hz⟩ : ∃ z, own.getD y 0 = z := ⟨_, rfl⟩
                    rw [hz] at ky
                    by_cases hzv : z = (v : Int) + 1
                    · have e5 : (z == (v : Int) + 1) = true := by simp [hzv]
                      have HZ2 := Lib.hid (show ∀ x ∈ zs ++ [(y : Int)], 0 ≤ x ∧ x < (k : Int) ∧ own.getD x.toNat 0 = (v : Int) + 1 from fun q hq => by
                        rcases List.mem_append.1 hq with h | h
                        · exact HZ.out q h
                        · rw [List.mem_singleton] at h
                          subst h
                          exact ⟨by omega, by omega, by rw [Int.toNat_natCast, hz, hzv]⟩)
                      have HS5 := Lib.hid HBr.out.size
                      clear hz hzv
                      go_wp2_with (at_builtin; refine wpList_addI rfl (.tmp 120) (.tmp 122) rfl rfl (HO.out) (HBr.out) (HS5.out) (y : Int) (by omega) _ rfl rfl ?_; intro A2 c2 w6 hI' hB' hK'; have HO1 := Lib.hid hI'; have HB1 := Lib.hid hB'; clear hI' hB' hK')
                      go_roundw
                      case rel => exact ⟨j + 1, A2, m + 1, c2, zs ++ [(y : Int)], by go_num, by omega, by omega, by first | rfl | (simp; done), by omega, HO1.out, HZ2.out, HB1.out⟩
                      case measure => simp [intOf]; omega
                    · have e5 : (z == (v : Int) + 1) = false := by simp [hzv]
                      clear hz hzv
                      go_wp2
                      go_roundw
                      case rel => exact ⟨j + 1, A', m, c', zs, by go_num, by omega, by omega, rfl, by omega, HO.out, HZ.out, HBr.out⟩
                      case measure => simp [intOf]; omega
                  · have e4 : decide ((y : Int) < (k : Int)) = false := decide_eq_false (by omega)
                    have e4' : decide (y < k) = false := decide_eq_false (by omega)
                    go_wp2
                    go_roundw
                    case rel => exact ⟨j + 1, A', m, c', zs, by go_num, by omega, by omega, rfl, by omega, HO.out, HZ.out, HBr.out⟩
                    case measure => simp [intOf]; omega
                · have e3 : decide (0 ≤ x) = false := decide_eq_false hx0
                  clear hx0
                  go_wp2
                  go_roundw
                  case rel => exact ⟨j + 1, A', m, c', zs, by go_num, by omega, by omega, rfl, by omega, HO.out, HZ.out, HBr.out⟩
                  case measure => simp [intOf]; omega
              · have HBK := Lib.hid (pBack_any (cap := c') HI6.out.po hN1 (by omega) (by omega) HO.out.rdI HO.out.len (by omega))
                have HSO := Lib.hid (StO.back (N := N) (k := k) (v := v) (own := own) (zs := zs) (by omega) (by omega) (fun y hy _ => by have := (HZ.out _ hy).2.2; simpa using this))
                have HF : ∀ W, Below wr.heap.size wr W → W.cell? ⟨g9, v, none⟩ = some (sgV (st v)) ∧ W.frozen? ⟨g9, v, none⟩ = false := fun W hb => ⟨(HI6.out.below hb).cs hv4, (HI6.out.below hb).sb.frozen v⟩
                have HFF := Lib.hid HF
                clear HF
                by_cases hj3 : j < xn
                · have e1 : decide ((j : Int) < (xn : Int)) = true := decide_eq_true (by omega)
                  have e2 : decide ((j : Int) < 40) = false := decide_eq_false (by omega)
                  go_wp2_with (go_at_call 12; refine (HBK.out).mono ?_; rintro e w7 ⟨g7, rfl, hg7, hs7, hb7⟩; obtain ⟨k9, f9⟩ := HFF.out w7 hb7; have HI7 := Lib.hid ((HI6.out.below hb7).setS hv4 (some (g7, _)) (SgW.one hs7 (Nat.le_trans HI6.out.be.size hg7)) (fun u hu _ a b c d e1 e2 => by cases e1; have := (HI6.out.ss u hu).lt e2; omega)); clear hs7 hb7)
                  go_roundw
                  case rel => exact ⟨l, own, _, _, i + 1, rfl, by go_num, by omega, by omega, HI7.out, by rw [stP_up]; exact HV5.out.begin hv4 (by rw [upS_same]; exact HSO.out)⟩
                  case measure => simp [intOf]; omega
                · have e1 : decide ((j : Int) < (xn : Int)) = false := decide_eq_false (by omega)
                  go_wp2_with (go_at_call 12; refine (HBK.out).mono ?_; rintro e w7 ⟨g7, rfl, hg7, hs7, hb7⟩; obtain ⟨k9, f9⟩ := HFF.out w7 hb7; have HI7 := Lib.hid ((HI6.out.below hb7).setS hv4 (some (g7, _)) (SgW.one hs7 (Nat.le_trans HI6.out.be.size hg7)) (fun u hu _ a b c d e1 e2 => by cases e1; have := (HI6.out.ss u hu).lt e2; omega)); clear hs7 hb7)
                  go_roundw
                  case rel => exact ⟨l, own, _, _, i + 1, rfl, by go_num, by omega, by omega, HI7.out, by rw [stP_up]; exact HV5.out.begin hv4 (by rw [upS_same]; exact HSO.out)⟩
                  case measure => simp [intOf]; omega
      · --SOME
        as_aux_lemma =>
          have hsg := HI4.out.ss v hv4 g s HOS.out
          have hst : stP st v = some s := by unfold stP; rw [HOS.out]; rfl
          have HT := Lib.hid (HV.out.step hv4 hst hsg.1.ok HI4.out.po.cl.u64 hkN HI4.out.po.cl.len)
          have hd := pDo_any (HI4.out.po) hsg.1 (by omega)
          have hlen1 := left_len hsg.1
          have hl1 := left_any hsg.1 (by omega)
          obtain ⟨B, hB⟩ : ∃ B, leftF s.gi = B := ⟨_, rfl⟩
          rw [hB] at hl1 hlen1
          have HL1 := Lib.hid hl1
          have HBE := Lib.hid hB
          clear hl1 hB
          have hg8l : g8 < w4.heap.size := HI4.out.ow.lt
          have hgnl : gn < w4.heap.size := HI4.out.po.cl.nu.lt
          have hgl : g < w4.heap.size := hsg.1.lt
          go_upto_region 26 with (go_at_call 13; refine (HL1.out).mono ?_; rintro e w5 ⟨A17, n17, c17, rfl, ho, hb⟩; have HO5 := Lib.hid ho; have HI5 := Lib.hid (HI4.out.below hb); have hz5 := hb.size; clear ho hb)
          have hd5 := pDo_any (HI5.out.po) (HI5.out.ss v hv4 g s HOS.out).1 (by omega)
          have HDS := Lib.hid (fun W l2 s2 (h1 : PoS W gp gc gn N (k : Int) l2) (h2 : StW W g gc N s2) h3 => HI5.out.doS (w' := W) hv4 HOS.out h1 h2 h3 hgn)
          clear hd hsg hst HL1 HI4 HB4
          generalize stpP N l s = r at *
          obtain ⟨l2, s2⟩ := r
          simp only at hd5 HT
          obtain ⟨db, hdb⟩ : ∃ q, decide (s2.nx = 0) = q := ⟨_, rfl⟩
          rw [hdb] at hd5
          have HD := Lib.hid hd5
          have HDB := Lib.hid hdb
          have k9b := HI5.out.cs hv4
          rw [HOS.out] at k9b
          clear hd5 hdb k9
          go_upto_region 27 with (go_at_call 14; refine (HD.out).mono ?_; rintro e w6 ⟨rfl, h6, s6, k6⟩; have HI6 := Lib.hid (HDS.out _ _ _ h6 s6 k6); have HO6 := Lib.hid (HO5.out.keepB k6 (fun q hq => by simp at hq; omega)); have hz6 := k6.size; clear h6 s6 k6)
          have k9c := HI6.out.cs hv4
          rw [upS_same] at k9c
          have hl2 := left_any (HI6.out.ss v hv4 g s2 (upS_same _ _ _)).1 (by omega)
          obtain ⟨C, hC⟩ : ∃ C, leftF s2.gi = C := ⟨_, rfl⟩
          have hlen2 := left_len (HI6.out.ss v hv4 g s2 (upS_same _ _ _)).1
          rw [hC] at hl2 hlen2
          have HL2 := Lib.hid hl2
          have HCE := Lib.hid hC
          clear hl2 hC
          go_upto_region 29 with (go_at_call 13; refine (HL2.out).mono ?_; rintro e w7 ⟨A19, n19, c19, rfl, ho, hb⟩; have HA7 := Lib.hid ho; have HI7 := Lib.hid (HI6.out.below hb); have HO7 := Lib.hid (HO6.out.below hb); clear ho hb)
          generalize w4.heap.size = z4 at *
          generalize w6.heap.size = z6 at *
          have hB17 := HO7.out.len
          have hC19 := HA7.out.len
          rw [hB17] at hlen1
          rw [hC19] at hlen2
          have holen := HV.out.len
          have hBr : ∀ x ∈ B, 0 ≤ x ∧ x < (own.length : Int) := fun x hx => by
            rw [← HBE.out] at hx
            obtain ⟨y, rfl, hy⟩ := (mem_leftF _ _).1 hx
            have := HT.out.c1 y ((mem_left _ _).2 hy)
            omega
          have HBR := Lib.hid hBr
          clear hBr HL2 HI6 HO6 HI5 HO5 HD HDS k9b k9c
          go_loopw [20] (fun s20 wr => ∃ j : Nat, j ≤ n17 ∧ s20 = .int .i64 j ∧ OwV w wr gp gc gn N k g8 g9 gb l2 (goneI own B C j) (upS st v (some (g, s2))) bk ∧ OwI z4 wr A17 n17 c17 B ∧ OwI z6 wr A19 n19 c19 C) (fun s20 _ => n17 - (intOf s20).toNat)
          case atStart => exact ⟨0, Nat.zero_le _, rfl, HI7.out, HO7.out, HA7.out⟩
          case round =>
            obtain ⟨j, hj, rfl, hI, hO, hA⟩ := hrel
            have HI8 := Lib.hid hI
            have HO8 := Lib.hid hO
            have HA8 := Lib.hid hA
            clear hI hO hA HI7 HO7 HA7
            by_cases hjl : j < n17
            · have e1 : decide ((j : Int) < (n17 : Int)) = true := decide_eq_true (by omega)
              have i1 : (j : Int) < (n17 : Int) := by omega
              have kb : wr.cell? ⟨gb, v, none⟩ = some (.bool true) := by
                have h1 := HI8.out.cb hv4
                have h2 : bk v = true := by
                  cases hbv : bk v
                  · have := HT.out.c0 hbv
                    rw [HBE.out] at this
                    rw [this] at hB17
                    simp at hB17
                    omega
                  · rfl
                rw [h2] at h1
                exact h1
              obtain ⟨x, hx⟩ : ∃ x, B.getD j 0 = x := ⟨_, rfl⟩
              go_upto_region 33 with fail
              obtain ⟨wb, hwb⟩ : ∃ q, q = wr := ⟨_, rfl⟩
              go_loopw [21, 22] (fun s21 s22 wr => ∃ m : Nat, m ≤ n19 ∧ s22 = .int .i64 m ∧ s21 = .bool (decide (x ∉ C.take m)) ∧ OwV w wr gp gc gn N k g8 g9 gb l2 (goneI own B C j) (upS st v (some (g, s2))) bk ∧ OwI z4 wr A17 n17 c17 B ∧ OwI z6 wr A19 n19 c19 C) (fun _ s22 _ => n19 - (intOf s22).toNat)
              case atStart => exact ⟨0, Nat.zero_le _, rfl, by simp, HI8.out, HO8.out, HA8.out⟩
              case round =>
                obtain ⟨m, hm, rfl, rfl, hI, hO, hA⟩ := hrel
                clear HI8 HO8 HA8 kb hwb
                have HI8 := Lib.hid hI
                have HO8 := Lib.hid hO
                have HA8 := Lib.hid hA
                clear hI hO hA
                by_cases hml : m < n19
                · have e2 : decide ((m : Int) < (n19 : Int)) = true := decide_eq_true (by omega)
                  have i2 : (m : Int) < (n19 : Int) := by omega
                  obtain ⟨_, ga, rfl, hga, _, hca⟩ := HA8.out.rd (by omega)
                  obtain ⟨_, go, rfl, hgo, _, hco⟩ := HO8.out.rd (by omega)
                  obtain ⟨y, hy⟩ : ∃ y, C.getD m 0 = y := ⟨_, rfl⟩
                  have p0 : wr.cell? ⟨ga, m, none⟩ = some (.int .i64 y) := by rw [hca m hml, hy]
                  have p1 : wr.cell? ⟨go, j, none⟩ = some (.int .i64 x) := by rw [hco j hjl, hx]
                  have HMS := Lib.hid (mem_take_succ C m (by omega) x)
                  rw [hy] at HMS
                  clear hca hco hy hx
                  by_cases hxm : x ∈ C.take m
                  · have e3 : decide (x ∉ C.take m) = false := by simp [hxm]
                    rw [e3]
                    have HN := Lib.hid (show decide (x ∉ C.take (m + 1)) = false by simp [HMS.out.2 (.inl hxm)])
                    clear hxm e3
                    go_upto_region 35 with fail
                    go_quiet (fail)
                    go_wp2
                    refine ⟨⟨m + 1, by omega, by go_num, by rw [HN.out], HI8.out.below (bdrewN wr nq), HO8.out.below (bdrewN wr nq), HA8.out.below (bdrewN wr nq)⟩, by simp [intOf]; omega⟩
                  · have e3 : decide (x ∉ C.take m) = true := by simp [hxm]
                    rw [e3]
                    by_cases hyx : y = x
                    · have e4 : (y != x) = false := by simp [hyx]
                      have HN := Lib.hid (show decide (x ∉ C.take (m + 1)) = false by simp [HMS.out.2 (.inr hyx.symm)])
                      clear hxm e3 hyx
                      go_upto_region 35 with fail
                      go_quiet (fail)
                      go_wp2
                      refine ⟨⟨m + 1, by omega, by go_num, by rw [HN.out], HI8.out.below (bdrewN wr nq), HO8.out.below (bdrewN wr nq), HA8.out.below (bdrewN wr nq)⟩, by simp [intOf]; omega⟩
                    · have e4 : (y != x) = true := by simp [hyx]
                      have HN := Lib.hid (show decide (x ∉ C.take (m + 1)) = true by
                        have h1 : ¬ (x ∈ C.take (m + 1)) := fun h => (HMS.out.1 h).elim hxm (fun q => hyx q.symm)
                        simp [h1])
                      clear hxm e3 hyx
                      go_upto_region 35 with fail
                      go_quiet (fail)
                      go_wp2
                      refine ⟨⟨m + 1, by omega, by go_num, by rw [HN.out], HI8.out.below (bdrewN wr nq), HO8.out.below (bdrewN wr nq), HA8.out.below (bdrewN wr nq)⟩, by simp [intOf]; omega⟩
                · have e2 : decide ((m : Int) < (n19 : Int)) = false := decide_eq_false (by omega)
                  have hall : C.take m = C := List.take_of_length_le (by omega)
                  rw [hall]
                  obtain ⟨_, go, rfl, hgo, _, hco⟩ := HO8.out.rd (by omega)
                  have p1 : wr.cell? ⟨go, j, none⟩ = some (.int .i64 x) := by rw [hco j hjl, hx]
                  obtain ⟨hx0, hxl⟩ := HBR.out x (by rw [← hx]; exact mem_getD B j (by omega))
                  obtain ⟨y, rfl⟩ : ∃ y : Nat, x = y := ⟨x.toNat, by omega⟩
                  have i3 : (y : Int) < (k : Int) := by omega
                  have p2 : wr.cell? ⟨g8, y, none⟩ = some (.int .i64 ((goneI own B C j).getD y 0)) := HI8.out.ow.at (by rw [goneI_len]; omega)
                  have f2 : wr.frozen? ⟨g8, y, none⟩ = false := HI8.out.ow.free y
                  have HGS := Lib.hid (show goneI own B C (j + 1) = if (y : Int) ∈ C then goneI own B C j else (goneI own B C j).set y 0 by
                    show (if B.getD j 0 ∈ C then goneI own B C j else (goneI own B C j).set (B.getD j 0).toNat 0) = _
                    rw [hx, Int.toNat_natCast])
                  clear hco hx hall
                  by_cases hyc : (y : Int) ∈ C
                  · have e3 : decide ((y : Int) ∉ C) = false := by simp [hyc]
                    rw [e3]
                    have HG2 := Lib.hid (HGS.out.trans (if_pos hyc))
                    clear hyc e3 p1 p2
                    go_wp2
                    go_roundw
                    case rel => exact ⟨j + 1, by omega, by go_num, by rw [HG2.out]; exact HI8.out, HO8.out, HA8.out⟩
                    case measure => simp [intOf]; omega
                  · have e3 : decide ((y : Int) ∉ C) = true := by simp [hyc]
                    rw [e3]
                    have HG2 := Lib.hid (HGS.out.trans (if_neg hyc))
                    have hk8 := (Keep.refl [g8] wr).setCell (p := ⟨g8, y, none⟩) (.inl (by simp)) (.int .i64 0)
                    have HI9 := Lib.hid (HI8.out.setO y 0)
                    have HO9 := Lib.hid (HO8.out.keepB hk8 (fun q hq => by simp at hq; omega))
                    have HA9 := Lib.hid (HA8.out.keepB hk8 (fun q hq => by simp at hq; omega))
                    clear hyc e3 hk8
                    go_wp2
                    go_roundw
                    case rel => exact ⟨j + 1, by omega, by go_num, by rw [HG2.out]; exact HI9.out, HO9.out, HA9.out⟩
                    case measure => simp [intOf]; omega
            · have e1 : decide ((j : Int) < (n17 : Int)) = false := decide_eq_false (by omega)
              obtain rfl : j = n17 := by omega
              have HOW1 := Lib.hid (goneI_at own B C HBR.out B.length (Nat.le_refl _))
              rw [List.take_length] at HOW1
              rw [hB17] at HOW1
              have HLN1 := Lib.hid (goneI_len own B C j)
              generalize goneI own B C j = own1 at *
              clear HBR hlen1 hlen2 HA8 HO8
              have hst2 : stP (upS st v (some (g, s2))) = upS (stP st) v (some s2) := stP_up _ _ _
              go_upto_if 178 with fail
              go_cut [4, 23, 24] from 46 to 259 (fun s4 s23 s24 wx => s4 = .bool false ∧ ∃ own2 o, OwV w wx gp gc gn N k g8 g9 gb l2 own2 (upS st v o) bk ∧ OwP N k l2 own2 (stP (upS st v o)) bk)
              case first =>
                cases db
                case false =>
                  go_wp2
                  go_meet
                  case rel =>
                    refine ⟨rfl, own1, some (g, s2), HI8.out, ?_⟩
                    have hnx : s2.nx ≠ 0 := by simpa using HDB.out
                    have h4 := HT.out.c4 own1 (by rw [HLN1.out]; exact holen) (fun y hy => by rw [HBE.out, HCE.out, if_neg (fun q => hnx q.1)]; exact HOW1.out y)
                    rw [if_neg hnx] at h4
                    rw [stP_up]
                    exact h4
                case true =>
                  have hnx : s2.nx = 0 := by simpa using HDB.out
                  have HNX := Lib.hid hnx
                  clear hnx
                  have k9d := HI8.out.cs hv4
                  rw [upS_same] at k9d
                  have hgo := got_any (HI8.out.ss v hv4 g s2 (upS_same _ _ _)).1 (by omega)
                  have hbb := HI8.out.cb hv4
                  obtain ⟨G, hG⟩ : ∃ G, numsF s2.wd s2.tk = G := ⟨_, rfl⟩
                  have hnd := numsF_nodup s2.wd s2.tk
                  have hnl := numsI_len s2.wd s2.tk 32
                  have hmem : ∀ x ∈ G, ∃ y : Nat, x = y ∧ y < k ∧ own1.getD y 0 = 0 := fun x hx => by
                    rw [← hG] at hx
                    obtain ⟨y, rfl, _⟩ := (mem_numsF _ _ _).1 hx
                    obtain ⟨c1, c2, c3⟩ := HT.out.c2 HNX.out y hx
                    refine ⟨y, rfl, c1, ?_⟩
                    rw [HOW1.out y, ← HBE.out, c3, if_neg (by simp)]
                    exact c2
                  have HMEM := Lib.hid hmem
                  have HG2 := Lib.hid (show ∀ x ∈ G, 0 ≤ x ∧ x < (own1.length : Int) from fun x hx => by
                    obtain ⟨y, rfl, h1, _⟩ := hmem x hx
                    have := HLN1.out
                    omega)
                  unfold numsF at hG
                  rw [hG] at hnl
                  rw [show numsF s2.wd s2.tk = G from hG] at hnd hgo
                  have HND := Lib.hid hnd
                  have HGE := Lib.hid (show numsF s2.wd s2.tk = G from hG)
                  have HGO := Lib.hid hgo
                  have hg8m : g8 < wr.heap.size := HI8.out.ow.lt
                  clear hnd hG hgo hmem
                  go_upto_region 41 with (go_at_call 15; refine (HGO.out).mono ?_; rintro e w8 ⟨A23, n23, c23, rfl, ho, hb⟩; have HO9 := Lib.hid ho; have HI9 := Lib.hid (HI8.out.below hb); clear ho hb)
                  generalize wr.heap.size = z8 at *
                  have hG23 := HO9.out.len
                  clear HI8 k9d hbb HGO
                  go_loopw [4, 24] (fun s4 s24 wr => ∃ j : Nat, j ≤ n23 ∧ s4 = .bool false ∧ s24 = .int .i64 j ∧ OwV w wr gp gc gn N k g8 g9 gb l2 (gotI own1 G v j) (upS st v (some (g, s2))) bk ∧ OwI z8 wr A23 n23 c23 G) (fun _ s24 _ => n23 - (intOf s24).toNat)
                  case atStart => exact ⟨0, Nat.zero_le _, rfl, rfl, HI9.out, HO9.out⟩
                  case round =>
                    obtain ⟨j2, hj2, rfl, rfl, hI, hO⟩ := hrel
                    clear HI9 HO9
                    have HI9 := Lib.hid hI
                    have HO9 := Lib.hid hO
                    clear hI hO
                    by_cases hjl : j2 < n23
                    · have e1 : decide ((j2 : Int) < (n23 : Int)) = true := decide_eq_true (by omega)
                      have i1 : (j2 : Int) < (n23 : Int) := by omega
                      obtain ⟨_, go, rfl, hgo, _, hco⟩ := HO9.out.rd (by omega)
                      obtain ⟨y, hy, hyk, hy0⟩ := HMEM.out _ (mem_getD G j2 (by omega))
                      have p1 : wr.cell? ⟨go, j2, none⟩ = some (.int .i64 (y : Int)) := by rw [hco j2 hjl, hy]
                      have hn := gotI_next own1 G v HG2.out HND.out j2 (by omega)
                      rw [hy, Int.toNat_natCast, hy0] at hn
                      have p2 : wr.cell? ⟨g8, y, none⟩ = some (.int .i64 0) := by rw [HI9.out.ow.at (by rw [gotI_len, HLN1.out, holen]; exact hyk), hn]
                      have f2 : wr.frozen? ⟨g8, y, none⟩ = false := HI9.out.ow.free y
                      have i3 : (y : Int) < (k : Int) := by omega
                      have e2 : decide ((y : Int) < 0) = false := decide_eq_false (by omega)
                      have e3 : decide ((k : Int) ≤ (y : Int)) = false := decide_eq_false (by omega)
                      have e3' : decide (k ≤ y) = false := decide_eq_false (by omega)
                      have hk8 := (Keep.refl [g8] wr).setCell (p := ⟨g8, y, none⟩) (.inl (by simp)) (.int .i64 ((v : Int) + 1))
                      have HGS := Lib.hid (show gotI own1 G v (j2 + 1) = (gotI own1 G v j2).set y ((v : Int) + 1) by
                        show (gotI own1 G v j2).set (G.getD j2 0).toNat ((v : Int) + 1) = _
                        rw [hy, Int.toNat_natCast])
                      have HI10 := Lib.hid (HI9.out.setO y ((v : Int) + 1))
                      have HO10 := Lib.hid (HO9.out.keepB hk8 (fun q hq => by simp at hq; omega))
                      clear hy hy0 hn hco hk8
                      go_wp2
                      go_roundw
                      case rel => exact ⟨j2 + 1, by omega, rfl, by go_num, by rw [HGS.out]; exact HI10.out, HO10.out⟩
                      case measure => simp [intOf]; omega
                    · have e1 : decide ((j2 : Int) < (n23 : Int)) = false := decide_eq_false (by omega)
                      obtain rfl : j2 = n23 := by omega
                      have hbb := HI9.out.cb hv4
                      have k9d := HI9.out.cs hv4
                      have f9 : wr.frozen? ⟨g9, v, none⟩ = false := HI9.out.sb.frozen v
                      have hI10 := HI9.out.setS hv4 none (SgW.nil _ _ _ _) (fun u hu _ a b c d e1 => by cases e1)
                      rw [upS_twice] at hI10
                      have HI10 := Lib.hid hI10
                      have HOW2 := Lib.hid (gotI_at own1 G v HG2.out G.length (Nat.le_refl _))
                      rw [List.take_length] at HOW2
                      have HLN2 := Lib.hid ((gotI_len own1 G v j2).trans HLN1.out)
                      have hGl : G.length = j2 := hG23
                      rw [hGl] at HOW2
                      have HREL := Lib.hid (show OwP N k l2 (gotI own1 G v j2) (stP (upS st v none)) bk by
                        have h4 := HT.out.c4 (gotI own1 G v j2) (by rw [HLN2.out]; exact holen) (fun y hy => by
                          rw [HOW2.out y, HGE.out, HBE.out, HCE.out]
                          by_cases hm : (y : Int) ∈ G
                          · rw [if_pos hm, if_pos ⟨HNX.out, hm⟩]
                          · rw [if_neg hm, if_neg (fun q => hm q.2)]
                            exact HOW1.out y)
                        rw [if_pos HNX.out] at h4
                        rw [stP_up]
                        exact h4)
                      have hc3 := HT.out.c3 HNX.out
                      rw [HGE.out] at hc3
                      clear hI10
                      obtain ⟨bb, hbv⟩ : ∃ q, bk v = q := ⟨_, rfl⟩
                      rw [hbv] at hbb hc3
                      clear hbv
                      cases bb
                      case true =>
                        have hG0 := hc3 rfl
                        have hj0 : j2 = 0 := by rw [← hGl, hG0]; rfl
                        have e4 : decide ((0 : Int) < (j2 : Int)) = false := decide_eq_false (by omega)
                        have e4' : decide (0 < j2) = false := decide_eq_false (by omega)
                        have HJ0 := Lib.hid hj0
                        clear hG0 hj0 hc3
                        go_wp2
                        go_meet
                        case rel => exact ⟨rfl, _, none, HI10.out, HREL.out⟩
                      case false =>
                        clear hc3
                        go_wp2
                        go_meet
                        case rel => exact ⟨rfl, _, none, HI10.out, HREL.out⟩
              case rest =>
                obtain ⟨rfl, own2, o, hI, hP⟩ := hcut
                have HI11 := Lib.hid hI
                have HP11 := Lib.hid hP
                have hfr := free_any hI.po (by omega)
                rw [free_zz hP hI.po.cl.u64 hkN] at hfr
                have HFR := Lib.hid hfr
                have hol2 := hP.len
                clear hI hP hfr HI8
                go_upto_region 51 with (go_at_call 16; refine (HFR.out).mono ?_; rintro e w9 ⟨A25, n25, c25, rfl, ho, hb⟩; have HO12 := Lib.hid ho; have HI12 := Lib.hid (HI11.out.below hb); clear ho hb)
                have hz25 := HO12.out.len
                have hzk := zz_le own2 k
                obtain ⟨wb, hwb⟩ : ∃ q, q = w9 := ⟨_, rfl⟩
                clear HFR HI11
                go_loopw [4, 26, 27] (fun s4 s26 s27 wr => ∃ x : Nat, x ≤ k ∧ s4 = .bool false ∧ s27 = .int .i64 x ∧ s26 = .int .i64 ((zz own2 x).length : Nat) ∧ wr = wb) (fun _ _ s27 _ => k - (intOf s27).toNat)
                case atStart => exact ⟨0, Nat.zero_le _, rfl, rfl, rfl, hwb.symm⟩
                case round =>
                  obtain ⟨x, hx, rfl, rfl, rfl, hwe⟩ := hrel
                  rw [← hwb] at HO12 HI12
                  rw [← hwe] at HO12 HI12
                  clear hwb
                  have hzx := zz_le own2 x
                  have HZS := Lib.hid (zz_succ own2 x)
                  have HZA := Lib.hid (zz_at own2 k x)
                  have HWE := Lib.hid hwe
                  clear hwe
                  by_cases hxk : x < k
                  · have e1 : decide ((x : Int) < (k : Int)) = true := decide_eq_true (by omega)
                    have i1 : (x : Int) < (k : Int) := by omega
                    have p2 : wr.cell? ⟨g8, x, none⟩ = some (.int .i64 (own2.getD x 0)) := HI12.out.ow.at (by omega)
                    obtain ⟨z, hz⟩ : ∃ z, own2.getD x 0 = z := ⟨_, rfl⟩
                    rw [hz] at p2
                    by_cases hz0 : z = 0
                    · have e2 : (z != 0) = false := by simp [hz0]
                      obtain ⟨q1, q2⟩ := HZA.out hxk (by rw [hz]; exact hz0)
                      have hzs := HZS.out
                      rw [hz, if_pos hz0] at hzs
                      have HZL := Lib.hid (show (zz own2 (x + 1)).length = (zz own2 x).length + 1 by rw [hzs]; simp)
                      obtain ⟨_, gf, rfl, hgf, _, hcf⟩ := HO12.out.rd (by omega)
                      obtain ⟨at_, hat⟩ : ∃ q, (zz own2 x).length = q := ⟨_, rfl⟩
                      rw [hat] at q1 q2 HZL hzx ⊢
                      have p3 : wr.cell? ⟨gf, at_, none⟩ = some (.int .i64 (x : Int)) := by rw [hcf at_ (by omega), q2]
                      have e3 : decide ((n25 : Int) ≤ (at_ : Int)) = false := decide_eq_false (by omega)
                      have e3' : decide (n25 ≤ at_) = false := decide_eq_false (by omega)
                      have i2 : (at_ : Int) < (n25 : Int) := by omega
                      clear hz hz0 hzs hat hcf q2
                      go_wp2
                      go_roundw
                      case rel => exact ⟨x + 1, by omega, rfl, by go_num, by rw [HZL.out]; go_num, HWE.out⟩
                      case measure => simp [intOf]; omega
                    · have e2 : (z != 0) = true := by simp [hz0]
                      have hzs := HZS.out
                      rw [hz, if_neg hz0, List.append_nil] at hzs
                      have HZL := Lib.hid (show (zz own2 (x + 1)).length = (zz own2 x).length by rw [hzs])
                      clear hz hz0 hzs
                      go_wp2
                      go_roundw
                      case rel => exact ⟨x + 1, by omega, rfl, by go_num, by rw [HZL.out], HWE.out⟩
                      case measure => simp [intOf]; omega
                  · have e1 : decide ((x : Int) < (k : Int)) = false := decide_eq_false (by omega)
                    obtain rfl : x = k := by omega
                    rw [hz25]
                    go_wp2
                    go_roundw
                    case rel => exact ⟨l2, own2, _, bk, i + 1, rfl, by go_num, by omega, by omega, HI12.out, HP11.out⟩
                    case measure => simp [intOf]; omega
    · by_cases hli : i < len
      · obtain rfl : i = 200 := by omega
        have d1 : decide (((200 : Nat) : Int) < (len : Int)) = true := decide_eq_true (by omega)
        have d2 : decide ((200 : Int) < (len : Int)) = true := decide_eq_true (by omega)
        go_wp2
        go_ret
        exact ⟨rfl, HI.out.be⟩
      · have d1 : decide ((i : Int) < (len : Int)) = false := decide_eq_false (by omega)
        go_wp2
        go_ret
        exact ⟨rfl, HI.out.be⟩
end Go.Proofs.Ytmbceafeonjffaa
