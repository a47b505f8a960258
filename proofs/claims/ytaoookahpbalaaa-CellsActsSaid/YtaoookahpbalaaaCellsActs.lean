/-
  CellsActs: its walk.
-/
import Derived.Test.YtaoookahpbalaaaRDo5
import Derived.Deep.DeepCutAuto
import Derived.Deep.QuietTactic
import Derived.BigQuiet
namespace Go.Proofs.Ytaoookahpbalaaa
open Go.RowKit Plain
set_option linter.unusedVariables false
set_option maxRecDepth 100000

theorem none5_any (w : World) : Calls Try.prog 18 #[] w fun e w' => e = .returned (.pointer none) ∧ w = w' := by
  go_enter Try.func18, Try.ntmps18
  go_wp2
  go_ret
  exact ⟨rfl, rfl⟩

/-- a call that leaves the world as it is, behind draws -/
theorem quietA {f : FuncId} {args : Array Value} {w : World} {a n : Nat} {v : Value} (h : Calls Try.prog f args (w.drewN (a + n)) fun e w' => e = .returned v ∧ w.drewN (a + n) = w') :
    Calls Try.prog f args (w.drewN (a + n)) fun e w' => e = .returned v ∧ ∃ m, w' = w.drewN (a + m) := h.mono fun _ _ ⟨he, hw⟩ => ⟨he, n, hw.symm⟩

def actK : List FK := [.num .i64, .num .i64, .num .u64, .num .u64]

set_option maxHeartbeats 4000000 in
theorem cellsActs_walk (n0 : Int) (A : Option Addr) (n c : Nat) (V : Nat → Nat → Value) (w : World) (hb0 : -9223372036854775808 ≤ n0) (hb1 : n0 ≤ 9223372036854775807) (hnc : n ≤ c) (hm : c ≤ maxLen) (hR : RdS actK w A n V) :
    Calls Try.prog 3 #[.int .i64 n0, .slice A n c] w fun e w' => e = .returned (.bool true) ∧ Below w.heap.size w w' := by
  unfold maxLen at hm
  have HR := Lib.hid hR
  clear hR
  go_enter Try.func3, Try.ntmps3
  go_wp2_with (first
    | (go_at_call 18; refine (none5_any _).mono ?_; rintro e w' ⟨rfl, rfl⟩)
    | (go_at_call 19; refine (store_nil _ _ _).mono ?_; rintro e w' ⟨rfl, rfl⟩))
  refine (swaps_any _).mono ?_
  rintro e w1 ⟨rfl, hb1'⟩
  have HB1 := Lib.hid hb1'
  clear hb1'
  go_wp2_with (first
    | (go_at_call 18; refine (none5_any _).mono ?_; rintro e w' ⟨rfl, rfl⟩)
    | (go_at_call 21; refine (load_nil _ _).mono ?_; rintro e w' ⟨rfl, rfl⟩)
    | (go_at_call 22; refine (cas_nil _ _ _ _).mono ?_; rintro e w' ⟨rfl, rfl⟩)
    | (go_at_call 23; refine (add_nil _ _ _).mono ?_; rintro e w' ⟨rfl, rfl⟩)
    | (go_at_call 24; refine (size_nil _).mono ?_; rintro e w' ⟨rfl, rfl⟩))
  refine (copy_nil _).mono ?_
  rintro e w2 ⟨rfl, hb2'⟩
  have HB2 := Lib.hid (bthen HB1.out hb2')
  clear hb2' HB1
  generalize w1.heap.size = g1
  go_wp2_with fail
  by_cases hin : n0 < 1 ∨ 65536 < n0
  · refine (new_bad n0 hin _).mono ?_
    rintro e w3 ⟨rfl, rfl⟩
    rcases hin with hin | hin
    · have d1 : decide (n0 < 1) = true := by simpa using hin
      go_wp2
      go_ret
      exact ⟨rfl, HB2.out⟩
    · have d1 : decide (n0 < 1) = false := by simp; omega
      have d2 : decide ((65536 : Int) < n0) = true := by simpa using hin
      go_wp2
      go_ret
      exact ⟨rfl, HB2.out⟩
  · obtain ⟨k, rfl⟩ : ∃ k : Nat, n0 = (k : Int) := ⟨n0.toNat, by omega⟩
    have hk1 : 1 ≤ k := by omega
    have hk2 : k ≤ 65536 := by omega
    clear hin hb0 hb1
    refine (new_any k hk1 hk2 _).mono ?_
    rintro e w3 ⟨rfl, hc3, hb3, hs3⟩
    have d1 : decide ((k : Int) < 1) = false := by simp; omega
    have d2 : decide ((65536 : Int) < (k : Int)) = false := by simp; omega
    have HC3 := Lib.hid hc3
    have HB3 := Lib.hid (bthen HB2.out hb3)
    have s2 := HB2.out.size
    have s3 := HB3.out.size
    obtain ⟨gn, hgn⟩ : ∃ g, g = w2.heap.size := ⟨_, rfl⟩
    rw [← hgn] at HC3 s2 hs3
    rw [← hgn]
    have s3' : gn + 2 ≤ w3.heap.size := by omega
    clear hc3 hb3 HB2 hgn hs3
    have hmk := mk64 k (by omega) w3
    go_upto_region 8 with fail
    clear hmk
    have HR4 := Lib.hid (Row.made .u64 26 w3 k)
    have e4 : ((List.replicate k (0 : Int)).map (Value.int .u64)).toArray = Array.replicate k (Value.int .u64 0) := by simp
    rw [e4] at HR4
    have HC4 := Lib.hid (HC3.out.alloc (.cells (Array.replicate k (Value.int .u64 0)) 26))
    have HB4 := Lib.hid (HB3.out.alloc (by omega) (.cells (Array.replicate k (Value.int .u64 0)) 26))
    clear HC3 HB3 e4
    obtain ⟨gl, hgl⟩ : ∃ g, g = w3.heap.size := ⟨_, rfl⟩
    rw [← hgl] at HR4 s3 s3'
    rw [← hgl]
    clear hgl
    generalize w3.alloc (.cells (Array.replicate k (Value.int .u64 0)) 26) = w4 at *
    have hng : gn + 1 ≠ gl := by omega
    have hng' : gn ≠ gl := by omega
    go_wp2
    go_loopw [8] (fun s8 wr => ∃ (j : Nat) (l : List Int), s8 = .int .i64 j ∧ j ≤ n ∧ j ≤ 60 ∧ Cl wr (gn + 1) gn k l ∧ Row .u64 26 wr gl l ∧ Below w.heap.size w wr) (fun i _ => 60 - (intOf i).toNat)
    case atStart => exact ⟨0, _, rfl, by omega, by omega, HC4.out, HR4.out, HB4.out⟩
    case round =>
      obtain ⟨j, l, rfl, hj, h60, hC, hRw, hB⟩ := hrel
      have HC := Lib.hid hC
      have HW := Lib.hid hRw
      have HB := Lib.hid hB
      have sr := hB.size
      have lg := hRw.lt
      clear hC hRw hB HC4 HR4 HB4
      by_cases hlt : j < n ∧ j < 60
      · obtain ⟨hlt, hlt2⟩ := hlt
        obtain ⟨b, off, rfl, hbl, hcell⟩ := HR.out (by omega)
        obtain ⟨q0, x0, hx0, hw0⟩ := hcell j hlt 0 _ rfl
        obtain ⟨q1, x1, hx1, hw1⟩ := hcell j hlt 1 _ rfl
        obtain ⟨q2, x2, hx2, hw2⟩ := hcell j hlt 2 _ rfl
        obtain ⟨q3, x3, hx3, hw3⟩ := hcell j hlt 3 _ rfl
        rw [hx0] at q0
        rw [hx1] at q1
        rw [hx2] at q2
        rw [hx3] at q3
        have c0 := (HB.out.cell (p := ⟨b, off + j * 4, none⟩) hbl).trans q0
        have c1 : wr.cell? ⟨b, off + j * 4 + 1, none⟩ = some (.int .i64 x1) := (HB.out.cell (p := ⟨b, off + j * 4 + 1, none⟩) hbl).trans (by rw [Nat.add_assoc]; exact q1)
        have c2 : wr.cell? ⟨b, off + j * 4 + 2, none⟩ = some (.int .u64 x2) := (HB.out.cell (p := ⟨b, off + j * 4 + 2, none⟩) hbl).trans (by rw [Nat.add_assoc]; exact q2)
        have c3 : wr.cell? ⟨b, off + j * 4 + 3, none⟩ = some (.int .u64 x3) := (HB.out.cell (p := ⟨b, off + j * 4 + 3, none⟩) hbl).trans (by rw [Nat.add_assoc]; exact q3)
        clear hcell q0 q1 q2 q3 hx0 hx1 hx2 hx3
        go_upto_region 12 with fail
        have H9 := Lib.hid (Blk.new wr 38 #[.int .i64 x0, .int .i64 x1, .int .u64 x2, .int .u64 x3])
        have HC5 := Lib.hid (HC.out.alloc (.cells #[.int .i64 x0, .int .i64 x1, .int .u64 x2, .int .u64 x3] 38))
        have HW5 := Lib.hid (HW.out.alloc (.cells #[.int .i64 x0, .int .i64 x1, .int .u64 x2, .int .u64 x3] 38))
        have HB5 := Lib.hid (HB.out.alloc (by omega) (.cells #[.int .i64 x0, .int .i64 x1, .int .u64 x2, .int .u64 x3] 38))
        have HCr := Lib.hid HC.out
        clear HC HW HB c0 c1 c2 c3
        obtain ⟨g9, hg9⟩ : ∃ g, g = wr.heap.size := ⟨_, rfl⟩
        rw [← hg9] at H9 sr lg
        rw [← hg9]
        have lc := HC5.out.st.lt
        have n91 : gn + 1 ≠ g9 := by
          have := (show gn + 1 < wr.heap.size from by have h := HCr.out.st.lt; exact h)
          omega
        have n92 : gn ≠ g9 := by omega
        have n93 : gl ≠ g9 := by omega
        generalize wr.alloc (.cells #[.int .i64 x0, .int .i64 x1, .int .u64 x2, .int .u64 x3] 38) = w5 at *
        clear hg9 HCr lc
        have k0 := H9.out.cell 0
        have k1 := H9.out.cell 1
        have k2 := H9.out.cell 2
        have k3 := H9.out.cell 3
        simp only [List.getElem?_toArray, List.getElem?_cons_zero, List.getElem?_cons_succ] at k0 k1 k2 k3
        have b2 := bounds_u64 hw2
        have b3 := bounds_u64 hw3
        have b1 := bounds_i64 hw1
        have u2 : U64 x2 := b2
        have u3 : U64 x3 := b3
        obtain ⟨K, hK, hKl⟩ := pickN x0 4 (by omega) (by omega)
        have HLn := Lib.hid HC5.out.len
        have HU := Lib.hid (fun i => HC5.out.u64 i)
        clear hw0 hw1 hw2 hw3
        have kk : K = 0 ∨ K = 1 ∨ K = 2 ∨ K = 3 := by omega
        by_cases hin : inC k x1 = true
        · obtain ⟨i, rfl⟩ : ∃ i : Nat, x1 = (i : Int) := ⟨x1.toNat, by unfold inC at hin; simp at hin; omega⟩
          have hik : i < k := by unfold inC at hin; simp at hin; omega
          clear hin
          rcases kk with rfl | rfl | rfl | rfl
          · have hK' : wrap64 ((IntKind.u64.wrap x0).tmod 4) = 0 := hK
            clear hK
            go_upto_region 14 with fail
            rw [hK']
            go_wp2_with fail
            refine (load_any HC5.out i hik).mono ?_
            rintro e w6 ⟨rfl, rfl⟩
            clear hK'
            have HC6 := HC5
            have HW6 := HW5
            have HB6 := HB5
            have H96 := H9
            go_wp2_with fail
            with_reducible refine (rdo_in' HW6.out HLn.out (by omega) HU.out 0 0 i rfl (by omega) hik x2 x3 u2 u3).mono ?_
            rintro e w7 ⟨rfl, hr7, hg7⟩
            rw [show opG l 0 i x2 = l.getD i 0 from rfl]
            rw [show opL l 0 i x2 x3 = l from rfl] at hr7
            have HC7 := Lib.hid (HC6.out.grown hg7 hng hng')
            have HR7 := Lib.hid hr7
            have HB7 := Lib.hid (bgrown HB6.out hg7 s3)
            clear hr7 hg7
            go_wp2
            go_roundw
            case rel => exact ⟨j + 1, _, by go_num, by omega, by omega, HC7.out, HR7.out, HB7.out⟩
            case measure => simp [intOf]; omega
          · have hK' : wrap64 ((IntKind.u64.wrap x0).tmod 4) = 1 := hK
            clear hK
            go_upto_region 14 with fail
            rw [hK']
            go_wp2_with fail
            refine (store_any HC5.out i hik x2).mono ?_
            rintro e w6 ⟨rfl, hw⟩
            clear hK' k0 k1 k2 k3
            have HC6 := Lib.hid (show Cl w6 (gn + 1) gn k (l.set i (x2)) by rw [hw]; exact HC5.out.set i (x2) b2)
            have HW6 := Lib.hid (show Row .u64 26 w6 gl l by rw [hw]; exact HW5.out.ne (p := ⟨gn, i, none⟩) hng' _)
            have HB6 := Lib.hid (show Below w.heap.size w w6 by rw [hw]; exact HB5.out.setCell (p := ⟨gn, i, none⟩) s2 _)
            have H96 := Lib.hid (show Blk w6 g9 38 #[.int .i64 x0, .int .i64 (i : Int), .int .u64 x2, .int .u64 x3] by rw [hw]; exact H9.out.ne (p := ⟨gn, i, none⟩) n92 _)
            clear hw
            have k1 := H96.out.cell 1
            have k2 := H96.out.cell 2
            have k3 := H96.out.cell 3
            simp only [List.getElem?_toArray, List.getElem?_cons_zero, List.getElem?_cons_succ] at k1 k2 k3
            go_wp2_with fail
            with_reducible refine (rdo_in' HW6.out HLn.out (by omega) HU.out 1 1 i rfl (by omega) hik x2 x3 u2 u3).mono ?_
            rintro e w7 ⟨rfl, hr7, hg7⟩
            rw [show opG l 1 i x2 = 0 from rfl]
            rw [show opL l 1 i x2 x3 = l.set i x2 from rfl] at hr7
            have HC7 := Lib.hid (HC6.out.grown hg7 hng hng')
            have HR7 := Lib.hid hr7
            have HB7 := Lib.hid (bgrown HB6.out hg7 s3)
            clear hr7 hg7
            go_wp2
            go_roundw
            case rel => exact ⟨j + 1, _, by go_num, by omega, by omega, HC7.out, HR7.out, HB7.out⟩
            case measure => simp [intOf]; omega
          · have hK' : wrap64 ((IntKind.u64.wrap x0).tmod 4) = 2 := hK
            clear hK
            by_cases hx : l.getD i 0 = x2
            · have HX := Lib.hid hx
              clear hx
              go_upto_region 14 with fail
              rw [hK']
              go_wp2_with fail
              refine (cas_yes HC5.out i hik x2 x3 HX.out).mono ?_
              rintro e w6 ⟨rfl, hw⟩
              clear hK' k0 k1 k2 k3
              have HC6 := Lib.hid (show Cl w6 (gn + 1) gn k (l.set i (x3)) by rw [hw]; exact HC5.out.set i (x3) b3)
              have HW6 := Lib.hid (show Row .u64 26 w6 gl l by rw [hw]; exact HW5.out.ne (p := ⟨gn, i, none⟩) hng' _)
              have HB6 := Lib.hid (show Below w.heap.size w w6 by rw [hw]; exact HB5.out.setCell (p := ⟨gn, i, none⟩) s2 _)
              have H96 := Lib.hid (show Blk w6 g9 38 #[.int .i64 x0, .int .i64 (i : Int), .int .u64 x2, .int .u64 x3] by rw [hw]; exact H9.out.ne (p := ⟨gn, i, none⟩) n92 _)
              clear hw
              have k1 := H96.out.cell 1
              have k2 := H96.out.cell 2
              have k3 := H96.out.cell 3
              simp only [List.getElem?_toArray, List.getElem?_cons_zero, List.getElem?_cons_succ] at k1 k2 k3
              go_wp2_with fail
              with_reducible refine (rdo_in' HW6.out HLn.out (by omega) HU.out 2 2 i rfl (by omega) hik x2 x3 u2 u3).mono ?_
              rintro e w7 ⟨rfl, hr7, hg7⟩
              rw [show opG l 2 i x2 = 1 from if_pos HX.out]
              rw [show opL l 2 i x2 x3 = l.set i x3 from if_pos HX.out] at hr7
              have HC7 := Lib.hid (HC6.out.grown hg7 hng hng')
              have HR7 := Lib.hid hr7
              have HB7 := Lib.hid (bgrown HB6.out hg7 s3)
              clear hr7 hg7
              go_wp2
              go_roundw
              case rel => exact ⟨j + 1, _, by go_num, by omega, by omega, HC7.out, HR7.out, HB7.out⟩
              case measure => simp [intOf]; omega
            · have HX := Lib.hid hx
              clear hx
              go_upto_region 14 with fail
              rw [hK']
              go_wp2_with fail
              refine (cas_miss HC5.out i hik x2 x3 HX.out).mono ?_
              rintro e w6 ⟨rfl, rfl⟩
              clear hK'
              have HC6 := HC5
              have HW6 := HW5
              have HB6 := HB5
              have H96 := H9
              go_wp2_with fail
              with_reducible refine (rdo_in' HW6.out HLn.out (by omega) HU.out 2 2 i rfl (by omega) hik x2 x3 u2 u3).mono ?_
              rintro e w7 ⟨rfl, hr7, hg7⟩
              rw [show opG l 2 i x2 = 0 from if_neg HX.out]
              rw [show opL l 2 i x2 x3 = l from if_neg HX.out] at hr7
              have HC7 := Lib.hid (HC6.out.grown hg7 hng hng')
              have HR7 := Lib.hid hr7
              have HB7 := Lib.hid (bgrown HB6.out hg7 s3)
              clear hr7 hg7
              go_wp2
              go_roundw
              case rel => exact ⟨j + 1, _, by go_num, by omega, by omega, HC7.out, HR7.out, HB7.out⟩
              case measure => simp [intOf]; omega
          · have hK' : wrap64 ((IntKind.u64.wrap x0).tmod 4) = 3 := hK
            clear hK
            go_upto_region 14 with fail
            rw [hK']
            go_wp2_with fail
            refine (add_any HC5.out i hik x2).mono ?_
            rintro e w6 ⟨rfl, hw⟩
            clear hK' k0 k1 k2 k3
            have HC6 := Lib.hid (show Cl w6 (gn + 1) gn k (l.set i (m64 (l.getD i 0 + x2))) by rw [hw]; exact HC5.out.set i (m64 (l.getD i 0 + x2)) (m64_u _))
            have HW6 := Lib.hid (show Row .u64 26 w6 gl l by rw [hw]; exact HW5.out.ne (p := ⟨gn, i, none⟩) hng' _)
            have HB6 := Lib.hid (show Below w.heap.size w w6 by rw [hw]; exact HB5.out.setCell (p := ⟨gn, i, none⟩) s2 _)
            have H96 := Lib.hid (show Blk w6 g9 38 #[.int .i64 x0, .int .i64 (i : Int), .int .u64 x2, .int .u64 x3] by rw [hw]; exact H9.out.ne (p := ⟨gn, i, none⟩) n92 _)
            clear hw
            have k1 := H96.out.cell 1
            have k2 := H96.out.cell 2
            have k3 := H96.out.cell 3
            simp only [List.getElem?_toArray, List.getElem?_cons_zero, List.getElem?_cons_succ] at k1 k2 k3
            go_wp2_with fail
            with_reducible refine (rdo_in' HW6.out HLn.out (by omega) HU.out 3 3 i rfl (by omega) hik x2 x3 u2 u3).mono ?_
            rintro e w7 ⟨rfl, hr7, hg7⟩
            rw [show opG l 3 i x2 = m64 (l.getD i 0 + x2) from rfl]
            rw [show opL l 3 i x2 x3 = l.set i (m64 (l.getD i 0 + x2)) from rfl] at hr7
            have HC7 := Lib.hid (HC6.out.grown hg7 hng hng')
            have HR7 := Lib.hid hr7
            have HB7 := Lib.hid (bgrown HB6.out hg7 s3)
            clear hr7 hg7
            go_wp2
            go_roundw
            case rel => exact ⟨j + 1, _, by go_num, by omega, by omega, HC7.out, HR7.out, HB7.out⟩
            case measure => simp [intOf]; omega
        · have hout : inC k x1 = false := by simpa using hin
          have HO := Lib.hid hout
          clear hin hout
          rcases kk with rfl | rfl | rfl | rfl
          · have hK' : wrap64 ((IntKind.u64.wrap x0).tmod 4) = 0 := hK
            clear hK
            go_upto_region 14 with fail
            rw [hK']
            go_wp2_with fail
            refine (load_out HC5.out x1 HO.out).mono ?_
            rintro e w6 ⟨rfl, rfl⟩
            go_wp2_with fail
            refine (rdo_out 0 x1 HO.out x2 x3).mono ?_
            rintro e w7 ⟨rfl, rfl⟩
            go_wp2
            go_roundw
            case rel => exact ⟨j + 1, _, by go_num, by omega, by omega, HC5.out, HW5.out, HB5.out⟩
            case measure => simp [intOf]; omega
          · have hK' : wrap64 ((IntKind.u64.wrap x0).tmod 4) = 1 := hK
            clear hK
            go_upto_region 14 with fail
            rw [hK']
            go_wp2_with fail
            refine (store_out HC5.out x1 HO.out x2).mono ?_
            rintro e w6 ⟨rfl, rfl⟩
            go_wp2_with fail
            refine (rdo_out 1 x1 HO.out x2 x3).mono ?_
            rintro e w7 ⟨rfl, rfl⟩
            go_wp2
            go_roundw
            case rel => exact ⟨j + 1, _, by go_num, by omega, by omega, HC5.out, HW5.out, HB5.out⟩
            case measure => simp [intOf]; omega
          · have hK' : wrap64 ((IntKind.u64.wrap x0).tmod 4) = 2 := hK
            clear hK
            go_upto_region 14 with fail
            rw [hK']
            go_wp2_with fail
            refine (cas_out HC5.out x1 HO.out x2 x3).mono ?_
            rintro e w6 ⟨rfl, rfl⟩
            go_wp2_with fail
            refine (rdo_out 2 x1 HO.out x2 x3).mono ?_
            rintro e w7 ⟨rfl, rfl⟩
            go_wp2
            go_roundw
            case rel => exact ⟨j + 1, _, by go_num, by omega, by omega, HC5.out, HW5.out, HB5.out⟩
            case measure => simp [intOf]; omega
          · have hK' : wrap64 ((IntKind.u64.wrap x0).tmod 4) = 3 := hK
            clear hK
            go_upto_region 14 with fail
            rw [hK']
            go_wp2_with fail
            refine (add_out HC5.out x1 HO.out x2).mono ?_
            rintro e w6 ⟨rfl, rfl⟩
            go_wp2_with fail
            refine (rdo_out 3 x1 HO.out x2 x3).mono ?_
            rintro e w7 ⟨rfl, rfl⟩
            go_wp2
            go_roundw
            case rel => exact ⟨j + 1, _, by go_num, by omega, by omega, HC5.out, HW5.out, HB5.out⟩
            case measure => simp [intOf]; omega
      · have hex : decide ((j : Int) < (n : Int)) = false ∨ (decide ((j : Int) < (n : Int)) = true ∧ decide ((j : Int) < 60) = false) := by
          by_cases h : j < n
          · right; exact ⟨by simpa using h, by simp; omega⟩
          · left; simp; omega
        go_upto_region 26 with fail
        all_goals
          go_wp2_with fail
          refine (copy_any HC.out (by omega)).mono ?_
          rintro e w5 ⟨rfl, hr5, hb5⟩
          have HR5 := Lib.hid hr5
          have HC5 := Lib.hid (HC.out.below hb5)
          have HW5 := Lib.hid (HW.out.below hb5)
          have HB5 := Lib.hid (HB.out.trans (hb5.mono HB.out.size))
          have HLn := Lib.hid HC.out.len
          generalize wr.heap.size = g at *
          clear hr5 hb5 hex hlt HB HC HW
          go_wp2_with fail
          refine (size_any HC5.out).mono ?_
          rintro e w6 ⟨rfl, rfl⟩
          go_wp2
          go_loopw [13] (fun s13 wx => ∃ q : Nat, s13 = .int .i64 q ∧ q ≤ k ∧ ∃ z, wx = w5.drewN z) (fun i _ => k - (intOf i).toNat)
          case atStart => exact ⟨0, rfl, by omega, 0, rfl⟩
          case round =>
            obtain ⟨q, rfl, hq, z, rfl⟩ := hrel
            by_cases hqk : q < k
            · have c0 : w5.cell? ⟨g, q, none⟩ = some (.int .u64 (l.getD q 0)) := HR5.out.at (i := q) (by rw [HLn.out]; exact hqk)
              have c1 : w5.cell? ⟨gl, q, none⟩ = some (.int .u64 (l.getD q 0)) := HW5.out.at (i := q) (by rw [HLn.out]; exact hqk)
              have e1 : (l.getD q 0 != l.getD q 0) = false := by simp
              have i0 : (q : Int) < (k : Int) := by omega
              go_upto_region 32 with fail
              go_quiet ((go_at_call 21; exact quietA (load_any (HC5.out.drewN _) q hqk)))
              go_wp2
              go_roundw
              case rel => exact ⟨q + 1, by go_num, by omega, _, rfl⟩
              case measure => simp [intOf]; omega
            · obtain rfl : q = k := by omega
              go_wp2
              go_ret
              exact ⟨rfl, below_drewN HB5.out z⟩

theorem open_acts {H : Type} {enc : TypeId × Value → H} {W : World} {a : Option Addr} {len cap : Nat} {d : DataW H} {p : List MemPlace} (h : DataW.Trod enc Try.prog W 0 (fun _ => true) true 22 (.slice a len cap) d p) :
    ∃ V, len ≤ len ∧ len ≤ cap ∧ cap ≤ maxLen ∧ RdS actK W a len V := by
  obtain ⟨h1, h2, V, h3⟩ := open_structs actK Try.underlying22 Try.underlying38 (by kernel_rfl) rfl (by kernel_rfl) (by decide) (fun j f hj => by
    match j, hj with
    | 0, hj => injection hj with hj; subst hj; exact ⟨_, rfl, Try.underlying3⟩
    | 1, hj => injection hj with hj; subst hj; exact ⟨_, rfl, Try.underlying3⟩
    | 2, hj => injection hj with hj; subst hj; exact ⟨_, rfl, Try.underlying26⟩
    | 3, hj => injection hj with hj; subst hj; exact ⟨_, rfl, Try.underlying26⟩
    | n + 4, hj => simp at hj) h
  exact ⟨V, Nat.le_refl _, h1, h2, h3⟩
end Go.Proofs.Ytaoookahpbalaaa
