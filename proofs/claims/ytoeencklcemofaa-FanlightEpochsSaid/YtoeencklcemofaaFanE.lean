/-
  FanlightEpochs: its walk.
-/
import Derived.Test.YtoeencklcemofaaFanW
namespace Go.Proofs.Ytoeencklcemofaa
open Go.RowKit Go.Deep Plain
set_option linter.unusedVariables false
set_option maxRecDepth 1000000

theorem infoIf : (Try.prog.info? 3).map (fun i => (i.zero, i.size, i.bytes)) = some (some (.int .i64 0), 1, 8) := by kernel_rfl
theorem infoUf : (Try.prog.info? 24).map (fun i => (i.zero, i.size, i.bytes)) = some (some (.int .u64 0), 1, 8) := by kernel_rfl
set_option maxHeartbeats 80000000 in
theorem fanlightEpochs_walk (n0 : Int) (A : Option Addr) (nr c : Nat) (zs : List Int) (w : World) (hzl : zs.length = nr) (hnc : nr ≤ c) (hm : c ≤ maxLen) (hR : RdN .i64 w A zs)
    (hst : ∀ W : World, Calls Try.prog 54 #[] W fun e w' => e = .returned (.bool true) ∧ Below W.heap.size W w')
    (hbody : ∀ (ge gc gn gg kc kn gl ga gb bt bv n : Nat) (c0 c2 c3 c7 c9 c22 c23 c24 c25 c26 c27 c28 c29 c30 c31 c32 c33 c34 c35 c36 c37 c38 c39 c40 c41 c42 c43 c44 c45 c46 c47 c48 c49 c244 c245 c246 c247 c248 c249 c250 c251 : Value), 2 ≤ n ∧ n ≤ 5 → BodyE w ge gc gn gg kc kn gl ga gb bt bv n nr c A c0 c2 c3 c7 c9 c22 c23 c24 c25 c26 c27 c28 c29 c30 c31 c32 c33 c34 c35 c36 c37 c38 c39 c40 c41 c42 c43 c44 c45 c46 c47 c48 c49 c244 c245 c246 c247 c248 c249 c250 c251) :
    Calls Try.prog 14 #[.int .i64 n0, .slice A nr c] w fun e w' => e = .returned (.bool true) ∧ Below w.heap.size w w' := by
  unfold maxLen at hm
  obtain ⟨K, hK, hKl⟩ := pickN n0 4 (by omega) (by omega)
  have hmm := @run_makeMap Try.prog
  go_enter Try.func14, Try.ntmps14
  go_upto_region 1 with fail
  go_upto_region 2 with fail
  obtain ⟨n, hn⟩ : ∃ n : Nat, (n : Int) = 2 + (K : Int) := ⟨K + 2, by omega⟩
  try rw [hK]
  rw [← hn]
  have hn1 : 2 ≤ n := by omega
  have hn2 : n ≤ 5 := by omega
  clear hK hn hKl
  go_upto_region 3 with (go_at_call 55; refine (new_any 1 (by omega) (by omega) w).mono ?_; rintro e w1 ⟨rfl, hc, hB, hs⟩)
  have HC1 := Lib.hid hc
  have HB1 := Lib.hid hB
  have z1 := hB.size
  have zc : w.heap.size + 2 = w1.heap.size := hs.symm
  clear hc hB hs
  go_upto_region 4 with (go_at_call 48; refine (eNew_any n (by omega) (by omega) w1).mono ?_; rintro e w2 ⟨ge, gc, gn, gg, rfl, he, hbg, hB, s1, s2, s3, s4⟩)
  have HE2 := Lib.hid he
  have HG2 := Lib.hid (Gs.made (base := w.heap.size) hbg (by omega))
  have HC2 := Lib.hid (HC1.out.below hB)
  have HB2 := Lib.hid (HB1.out.trans (hB.mono z1))
  have z2 := HB2.out.size
  clear he hbg hB HC1 HB1
  have k1 := run_mkN 78 3 .i64 8 Try.underlying78 infoIf (by omega) n (by omega) w2
  go_upto_region 7 with fail
  clear k1
  have hal := ball w2 (.cells ((List.replicate n (0 : Int)).map (Value.int .i64)).toArray 3)
  have HA3 := Lib.hid (NuR.made .i64 3 w2 n)
  have HE3 := Lib.hid (HE2.out.below hal)
  have HG3 := Lib.hid (HG2.out.below hal)
  have HC3 := Lib.hid (HC2.out.below hal)
  have HB3 := Lib.hid (HB2.out.trans (hal.mono z2))
  have z3 := HB3.out.size
  clear hal HE2 HG2 HC2 HB2
  rw [show ((List.replicate n (0 : Int)).map (Value.int .i64)).toArray = Array.replicate n (Value.int .i64 0) by simp] at HA3 HE3 HG3 HC3 HB3 z3
  generalize w2.alloc (.cells (Array.replicate n (Value.int .i64 0)) 3) = w3 at *
  generalize w2.heap.size = ga at *
  have k1 := run_mkS n (by omega) w3
  go_upto_region 8 with fail
  clear k1
  have hal := ball w3 (.cells (List.replicate n (Value.pointer none)).toArray 83)
  have HS4 := Lib.hid (Sts.made gc n w3 ⟨0, 0, 0, false⟩)
  have HA4 := Lib.hid (HA3.out.below hal)
  have HE4 := Lib.hid (HE3.out.below hal)
  have HG4 := Lib.hid (HG3.out.below hal)
  have HC4 := Lib.hid (HC3.out.below hal)
  have HB4 := Lib.hid (HB3.out.trans (hal.mono z3))
  have z4 := HB4.out.size
  clear hal HE3 HG3 HC3 HB3 HA3
  rw [show (List.replicate n (Value.pointer none)).toArray = Array.replicate n (Value.pointer none) by simp] at HS4 HA4 HE4 HG4 HC4 HB4 z4
  generalize w3.alloc (.cells (Array.replicate n (Value.pointer none)) 83) = w4 at *
  generalize w3.heap.size = gl at *
  have k1 := run_mkN 92 24 .u64 8 Try.underlying92 infoUf (by omega) n (by omega) w4
  go_upto_region 9 with fail
  clear k1
  have hal := ball w4 (.cells ((List.replicate n (0 : Int)).map (Value.int .u64)).toArray 24)
  have HR5 := Lib.hid (NuR.made .u64 24 w4 n)
  have HS5 := Lib.hid (HS4.out.below hal)
  have HA5 := Lib.hid (HA4.out.below hal)
  have HE5 := Lib.hid (HE4.out.below hal)
  have HG5 := Lib.hid (HG4.out.below hal)
  have HC5 := Lib.hid (HC4.out.below hal)
  have HB5 := Lib.hid (HB4.out.trans (hal.mono z4))
  have z5 := HB5.out.size
  clear hal HE4 HG4 HC4 HB4 HA4 HS4
  rw [show ((List.replicate n (0 : Int)).map (Value.int .u64)).toArray = Array.replicate n (Value.int .u64 0) by simp] at HR5 HS5 HA5 HE5 HG5 HC5 HB5 z5
  generalize w4.alloc (.cells (Array.replicate n (Value.int .u64 0)) 24) = w5 at *
  generalize w4.heap.size = gb at *
  go_upto_region 10 with fail
  have hal := ball w5 (.map #[] 0)
  have HT6 := Lib.hid (MpI.made w5)
  have HR6 := Lib.hid (HR5.out.below hal)
  have HS6 := Lib.hid (HS5.out.below hal)
  have HA6 := Lib.hid (HA5.out.below hal)
  have HE6 := Lib.hid (HE5.out.below hal)
  have HG6 := Lib.hid (HG5.out.below hal)
  have HC6 := Lib.hid (HC5.out.below hal)
  have HB6 := Lib.hid (HB5.out.trans (hal.mono z5))
  have z6 := HB6.out.size
  clear hal HE5 HG5 HC5 HB5 HA5 HS5 HR5
  generalize w5.alloc (.map #[] 0) = w6 at *
  generalize w5.heap.size = bt at *
  go_upto_region 11 with fail
  have hal := ball w6 (.map #[] 0)
  have HV7 := Lib.hid (MpI.made w6)
  have hbt := HT6.out.lt
  have HT7 := Lib.hid (HT6.out.below hal)
  have HR7 := Lib.hid (HR6.out.below hal)
  have HS7 := Lib.hid (HS6.out.below hal)
  have HA7 := Lib.hid (HA6.out.below hal)
  have HE7 := Lib.hid (HE6.out.below hal)
  have HG7 := Lib.hid (HG6.out.below hal)
  have HC7 := Lib.hid (HC6.out.below hal)
  have HB7 := Lib.hid (HB6.out.trans (hal.mono z6))
  clear hal HE6 HG6 HC6 HB6 HA6 HS6 HR6 HT6
  generalize w6.alloc (.map #[] 0) = w7 at *
  generalize w6.heap.size = bv at *
  have HFA := Lib.hid (show Fan n 0 (List.replicate (n + 1) 0) 0 (fun _ => 0) (fun _ => 0) (fun _ => ⟨0, 0, 0, false⟩) (fun _ => none) (fun _ => []) [] [] 1 from
    { len := by simp
      l0 := by simp [List.getD]
      nw := ⟨Int.le_refl _, Int.le_refl _⟩
      nx1 := ⟨Nat.le_refl _, Nat.le_refl _⟩
      at7 := fun j hj => Nat.zero_le _
      s1 := fun j hj h => absurd h (by decide)
      s6 := fun j hj h => absurd h (by decide)
      ok := fun k s hk hs => by unfold actA at hs; rw [if_neg (by rintro (h | h) <;> cases h)] at hs; cases hs
      pin := fun p hp h2 h5 => absurd h2 (by decide)
      rd0 := fun j hj h => absurd rfl h
      rdn := fun j hj => Nat.le_refl _
      r4 := fun j hj h => absurd h (by decide)
      r4d := fun j o hj ho hne h => absurd h (by decide)
      gvr := fun m hm => by simp at hm
      tkg := fun m hm => by simp at hm
      gle := fun j hj => Nat.le_refl _
      gin := fun j hj x hx => by simp at hx
      gep := fun j hj x hx => by simp at hx
      gdi := fun j hj => List.nodup_nil
      gdj := fun j o hj ho hne x hx => by simp at hx
      ntk := fun o ho h => absurd rfl h })
  have HFW := Lib.hid (show Fw w ge gc gn gg (w.heap.size + 1) w.heap.size gl ga gb bt bv n 1 (List.replicate (n + 1) 0) (fun _ => 0) (fun _ => 0) (fun _ => none) (fun _ => ⟨0, 0, 0, false⟩) (fun _ => []) [] [] w7 from
    ⟨HE7.out, HC7.out, ⟨by omega, by omega⟩, HS7.out, fun j g hj h => (by cases h), HG7.out, HA7.out, HR7.out, HT7.out, HV7.out, by omega, HB7.out, ⟨by omega, by omega, by omega, by omega, by omega, by omega, by omega, by omega, by omega, by omega, by omega⟩⟩)
  clear HE7 HC7 HS7 HG7 HA7 HR7 HT7 HV7 HB7
  have HBO := Lib.hid hbody
  have HST := Lib.hid hst
  clear hbody hst
  go_wp2
  refine fane_loop w ge gc gn gg (w.heap.size + 1) w.heap.size gl ga gb bt bv n nr c A _ _ _ _ _ _ _ _ _ _ _ _ _ _ _ _ _ _ _ _ _ _ _ _ _ _ _ _ _ _ _ _ _ _ _ _ _ _ _ _ _ hnc (by omega) (HBO.out _ _ _ _ _ _ _ _ _ _ _ _ _ _ _ _ _ _ _ _ _ _ _ _ _ _ _ _ _ _ _ _ _ _ _ _ _ _ _ _ _ _ _ _ _ _ _ _ _ _ _ _ _ ⟨hn1, hn2⟩) _ ?_ 0 1 _ _ _ _ _ _ _ _ _ _ _ _ _ _ _ _ _ _ _ _ _ _ _ _ _ _ _ _ _ _ _ _ _ _ _ _ _ _ _ _ _ _ _ _ _ _ _ _ _ _ _ _ _ _ _ _ _ _ _ _ _ _ _ _ _ _ _ _ _ _ _ _ _ _ _ _ _ _ _ _ _ _ _ _ _ _ _ _ _ _ _ _ _ _ _ _ _ _ _ _ _ _ _ _ _ _ _ _ _ _ _ _ _ _ _ _ _ _ _ _ _ _ _ _ _ _ _ _ _ _ _ _ _ _ _ _ _ _ _ _ _ _ _ _ _ _ _ _ _ _ _ _ _ _ _ _ _ _ _ _ _ _ _ _ _ _ _ _ _ _ _ _ _ _ _ _ _ _ _ _ _ _ _ _ _ _ _ _ _ _ _ _ _ _ _ _ _ _ _ _ w7 ⟨Nat.zero_le _, Nat.zero_le _, _, _, _, _, _, _, _, _, _, HFA.out, HFW.out⟩
  intro a' w' hX
  unfold WXE at hX
  obtain ⟨i, hX⟩ := hX
  obtain ⟨nx, hX⟩ := hX
  obtain ⟨u4, hX⟩ := hX
  obtain ⟨u17, hX⟩ := hX
  obtain ⟨u18, hX⟩ := hX
  obtain ⟨u19, hX⟩ := hX
  obtain ⟨u20, hX⟩ := hX
  obtain ⟨u21, hX⟩ := hX
  obtain ⟨u50, hX⟩ := hX
  obtain ⟨u51, hX⟩ := hX
  obtain ⟨u52, hX⟩ := hX
  obtain ⟨u53, hX⟩ := hX
  obtain ⟨u54, hX⟩ := hX
  obtain ⟨u55, hX⟩ := hX
  obtain ⟨u56, hX⟩ := hX
  obtain ⟨u57, hX⟩ := hX
  obtain ⟨u58, hX⟩ := hX
  obtain ⟨u59, hX⟩ := hX
  obtain ⟨u60, hX⟩ := hX
  obtain ⟨u61, hX⟩ := hX
  obtain ⟨u62, hX⟩ := hX
  obtain ⟨u63, hX⟩ := hX
  obtain ⟨u64, hX⟩ := hX
  obtain ⟨u65, hX⟩ := hX
  obtain ⟨u66, hX⟩ := hX
  obtain ⟨u67, hX⟩ := hX
  obtain ⟨u68, hX⟩ := hX
  obtain ⟨u69, hX⟩ := hX
  obtain ⟨u70, hX⟩ := hX
  obtain ⟨u71, hX⟩ := hX
  obtain ⟨u72, hX⟩ := hX
  obtain ⟨u73, hX⟩ := hX
  obtain ⟨u74, hX⟩ := hX
  obtain ⟨u75, hX⟩ := hX
  obtain ⟨u76, hX⟩ := hX
  obtain ⟨u77, hX⟩ := hX
  obtain ⟨u78, hX⟩ := hX
  obtain ⟨u79, hX⟩ := hX
  obtain ⟨u80, hX⟩ := hX
  obtain ⟨u81, hX⟩ := hX
  obtain ⟨u82, hX⟩ := hX
  obtain ⟨u83, hX⟩ := hX
  obtain ⟨u84, hX⟩ := hX
  obtain ⟨u85, hX⟩ := hX
  obtain ⟨u86, hX⟩ := hX
  obtain ⟨u87, hX⟩ := hX
  obtain ⟨u88, hX⟩ := hX
  obtain ⟨u89, hX⟩ := hX
  obtain ⟨u90, hX⟩ := hX
  obtain ⟨u91, hX⟩ := hX
  obtain ⟨u92, hX⟩ := hX
  obtain ⟨u93, hX⟩ := hX
  obtain ⟨u94, hX⟩ := hX
  obtain ⟨u95, hX⟩ := hX
  obtain ⟨u96, hX⟩ := hX
  obtain ⟨u97, hX⟩ := hX
  obtain ⟨u98, hX⟩ := hX
  obtain ⟨u99, hX⟩ := hX
  obtain ⟨u100, hX⟩ := hX
  obtain ⟨u101, hX⟩ := hX
  obtain ⟨u102, hX⟩ := hX
  obtain ⟨u103, hX⟩ := hX
  obtain ⟨u104, hX⟩ := hX
  obtain ⟨u105, hX⟩ := hX
  obtain ⟨u106, hX⟩ := hX
  obtain ⟨u107, hX⟩ := hX
  obtain ⟨u108, hX⟩ := hX
  obtain ⟨u109, hX⟩ := hX
  obtain ⟨u110, hX⟩ := hX
  obtain ⟨u111, hX⟩ := hX
  obtain ⟨u112, hX⟩ := hX
  obtain ⟨u113, hX⟩ := hX
  obtain ⟨u114, hX⟩ := hX
  obtain ⟨u115, hX⟩ := hX
  obtain ⟨u116, hX⟩ := hX
  obtain ⟨u117, hX⟩ := hX
  obtain ⟨u118, hX⟩ := hX
  obtain ⟨u119, hX⟩ := hX
  obtain ⟨u120, hX⟩ := hX
  obtain ⟨u121, hX⟩ := hX
  obtain ⟨u122, hX⟩ := hX
  obtain ⟨u123, hX⟩ := hX
  obtain ⟨u124, hX⟩ := hX
  obtain ⟨u125, hX⟩ := hX
  obtain ⟨u126, hX⟩ := hX
  obtain ⟨u127, hX⟩ := hX
  obtain ⟨u128, hX⟩ := hX
  obtain ⟨u129, hX⟩ := hX
  obtain ⟨u130, hX⟩ := hX
  obtain ⟨u131, hX⟩ := hX
  obtain ⟨u132, hX⟩ := hX
  obtain ⟨u133, hX⟩ := hX
  obtain ⟨u134, hX⟩ := hX
  obtain ⟨u135, hX⟩ := hX
  obtain ⟨u136, hX⟩ := hX
  obtain ⟨u137, hX⟩ := hX
  obtain ⟨u138, hX⟩ := hX
  obtain ⟨u139, hX⟩ := hX
  obtain ⟨u140, hX⟩ := hX
  obtain ⟨u141, hX⟩ := hX
  obtain ⟨u142, hX⟩ := hX
  obtain ⟨u143, hX⟩ := hX
  obtain ⟨u144, hX⟩ := hX
  obtain ⟨u145, hX⟩ := hX
  obtain ⟨u146, hX⟩ := hX
  obtain ⟨u147, hX⟩ := hX
  obtain ⟨u148, hX⟩ := hX
  obtain ⟨u149, hX⟩ := hX
  obtain ⟨u150, hX⟩ := hX
  obtain ⟨u151, hX⟩ := hX
  obtain ⟨u152, hX⟩ := hX
  obtain ⟨u153, hX⟩ := hX
  obtain ⟨u154, hX⟩ := hX
  obtain ⟨u155, hX⟩ := hX
  obtain ⟨u156, hX⟩ := hX
  obtain ⟨u157, hX⟩ := hX
  obtain ⟨u158, hX⟩ := hX
  obtain ⟨u159, hX⟩ := hX
  obtain ⟨u160, hX⟩ := hX
  obtain ⟨u161, hX⟩ := hX
  obtain ⟨u162, hX⟩ := hX
  obtain ⟨u163, hX⟩ := hX
  obtain ⟨u164, hX⟩ := hX
  obtain ⟨u165, hX⟩ := hX
  obtain ⟨u166, hX⟩ := hX
  obtain ⟨u167, hX⟩ := hX
  obtain ⟨u168, hX⟩ := hX
  obtain ⟨u169, hX⟩ := hX
  obtain ⟨u170, hX⟩ := hX
  obtain ⟨u171, hX⟩ := hX
  obtain ⟨u172, hX⟩ := hX
  obtain ⟨u173, hX⟩ := hX
  obtain ⟨u174, hX⟩ := hX
  obtain ⟨u175, hX⟩ := hX
  obtain ⟨u176, hX⟩ := hX
  obtain ⟨u177, hX⟩ := hX
  obtain ⟨u178, hX⟩ := hX
  obtain ⟨u179, hX⟩ := hX
  obtain ⟨u180, hX⟩ := hX
  obtain ⟨u181, hX⟩ := hX
  obtain ⟨u182, hX⟩ := hX
  obtain ⟨u183, hX⟩ := hX
  obtain ⟨u184, hX⟩ := hX
  obtain ⟨u185, hX⟩ := hX
  obtain ⟨u186, hX⟩ := hX
  obtain ⟨u187, hX⟩ := hX
  obtain ⟨u188, hX⟩ := hX
  obtain ⟨u189, hX⟩ := hX
  obtain ⟨u190, hX⟩ := hX
  obtain ⟨u191, hX⟩ := hX
  obtain ⟨u192, hX⟩ := hX
  obtain ⟨u193, hX⟩ := hX
  obtain ⟨u194, hX⟩ := hX
  obtain ⟨u195, hX⟩ := hX
  obtain ⟨u196, hX⟩ := hX
  obtain ⟨u197, hX⟩ := hX
  obtain ⟨u198, hX⟩ := hX
  obtain ⟨u199, hX⟩ := hX
  obtain ⟨u200, hX⟩ := hX
  obtain ⟨u201, hX⟩ := hX
  obtain ⟨u202, hX⟩ := hX
  obtain ⟨u203, hX⟩ := hX
  obtain ⟨u204, hX⟩ := hX
  obtain ⟨u205, hX⟩ := hX
  obtain ⟨u206, hX⟩ := hX
  obtain ⟨u207, hX⟩ := hX
  obtain ⟨u208, hX⟩ := hX
  obtain ⟨u209, hX⟩ := hX
  obtain ⟨u210, hX⟩ := hX
  obtain ⟨u211, hX⟩ := hX
  obtain ⟨u212, hX⟩ := hX
  obtain ⟨u213, hX⟩ := hX
  obtain ⟨u214, hX⟩ := hX
  obtain ⟨u215, hX⟩ := hX
  obtain ⟨u216, hX⟩ := hX
  obtain ⟨u217, hX⟩ := hX
  obtain ⟨u218, hX⟩ := hX
  obtain ⟨u219, hX⟩ := hX
  obtain ⟨u220, hX⟩ := hX
  obtain ⟨u221, hX⟩ := hX
  obtain ⟨u222, hX⟩ := hX
  obtain ⟨u223, hX⟩ := hX
  obtain ⟨u224, hX⟩ := hX
  obtain ⟨u225, hX⟩ := hX
  obtain ⟨u226, hX⟩ := hX
  obtain ⟨u227, hX⟩ := hX
  obtain ⟨u228, hX⟩ := hX
  obtain ⟨u229, hX⟩ := hX
  obtain ⟨u230, hX⟩ := hX
  obtain ⟨u231, hX⟩ := hX
  obtain ⟨u232, hX⟩ := hX
  obtain ⟨u233, hX⟩ := hX
  obtain ⟨u234, hX⟩ := hX
  obtain ⟨u235, hX⟩ := hX
  obtain ⟨u236, hX⟩ := hX
  obtain ⟨u237, hX⟩ := hX
  obtain ⟨u238, hX⟩ := hX
  obtain ⟨u239, hX⟩ := hX
  obtain ⟨u240, hX⟩ := hX
  obtain ⟨u241, hX⟩ := hX
  obtain ⟨u242, hX⟩ := hX
  obtain ⟨u243, hX⟩ := hX
  obtain ⟨⟨hx1, hx2, hcl, hbl⟩, rfl⟩ := hX
  have HCL := Lib.hid hcl
  have HBL := Lib.hid hbl
  have z8 := hbl.size
  clear hcl hbl
  go_wp2_with (first
    | (go_at_call 54; refine (HST.out _).mono ?_; rintro e w9 ⟨rfl, hb9⟩; have hl9 := load_eq (HCL.out.below hb9) 0 (by omega) ((nx : Int) - 1) rfl)
    | (go_at_call 57; refine hl9.mono ?_; rintro e w10 ⟨rfl, rfl⟩))
  go_ret
  exact ⟨rfl, HBL.out.trans (hb9.mono z8)⟩
end Go.Proofs.Ytoeencklcemofaa
