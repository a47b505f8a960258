/-
  Package turns: a turn, the workers, many turns. Conditions stand in each theorem.
-/
import Derived.Test.YtgengboaoniogaaTurn
import Derived.Deep.AppendLies
import Derived.Laws.OwnMore
namespace Go.Proofs.Ytgengboaoniogaa
open Go.RowKit Plain
set_option linter.unusedVariables false
set_option maxRecDepth 100000

theorem sDone : Sty 35 3 := ⟨⟨_, Try.underlying35, rfl⟩, by unfold Siz; kernel_rfl⟩

theorem upd_same {α : Type} (f : Nat → α) (i : Nat) (x : α) : upd f i x i = x := by unfold upd; rw [if_pos rfl]

set_option maxHeartbeats 1000000 in
theorem turn_any {w : World} {gc gn n gw m : Nat} {l : List Int} {P : Nat → Value} {D : Nat → Nat} {K : Nat → Int} (hC : Cl w gc gn n l) (hW : Wks w gw m P D K) (i : Nat) (hi : i < m) (A : Option Addr) (pn pc : Nat) (hP : P i = .slice A pn pc) (os : List OpV) (hR : RdP w A os) (hl : os.length = pn)
    (d : Nat) (hD : D i = d) (k : Int) (hk : K i = k) (hd : d < pn) (hpm : pn ≤ 1000000) (hgc : gw ≠ gc) (hgn : gw ≠ gn) (hKu : U64 k) (hA : offB [gn, gw] A) (num : Int) :
    Calls Try.prog 44 #[.pointer (some ⟨gw, i * 3, none⟩), .pointer (some ⟨gc, 0, none⟩), .int .i64 num] w fun e w' => e = .returned (.agg #[.int .i64 num, .int .i64 d, .int .u64 (stG l (os.getD d default) k)]) ∧
      Cl w' gc gn n (stL l (os.getD d default) k) ∧ Wks w' gw m P (upd D i (d + 1)) (upd K i (stK l (os.getD d default) k)) ∧ Keep [gn, gw] w w' := by
  have hK0 := (Keep.refl [] w).alloc (.cells #[.int .i64 0, .int .i64 0, .int .u64 0] 35)
  have H6 := Lib.hid (Blk.new w 35 #[.int .i64 0, .int .i64 0, .int .u64 0])
  have HC := Lib.hid (hC.keep hK0 (by simp) (by simp))
  have HW := Lib.hid (hW.keep hK0 (by simp))
  have HR := Lib.hid (hR.keep hK0 (fun _ _ _ => by simp))
  have HK := Lib.hid ((Keep.refl [gn, gw] w).alloc (.cells #[.int .i64 0, .int .i64 0, .int .u64 0] 35))
  have HP := Lib.hid hP
  have HL := Lib.hid hl
  have HD := Lib.hid hD
  have HKE := Lib.hid hk
  have lw := hW.lt
  have ln := hC.nu.lt
  have lc := hC.st.lt
  clear hC hW hR hP hl hK0 hD hk
  go_enter Try.func44, Try.ntmps44
  go_upto_region 1 with fail
  obtain ⟨g6, hg6⟩ : ∃ g, g = w.heap.size := ⟨_, rfl⟩
  rw [← hg6] at H6 lw ln lc
  rw [← hg6]
  have hg6' : w.heap.size ≤ g6 := by omega
  clear hg6
  generalize w.alloc (.cells #[.int .i64 0, .int .i64 0, .int .u64 0] 35) = w1 at *
  have c1 := HW.out.dn i hi
  rw [HD.out] at c1
  go_wp2_with fail
  refine (step_any HC.out HW.out i hi A pn pc HP.out os HR.out HL.out d HD.out k HKE.out hd hpm hgc hgn hKu).mono ?_
  rintro e w2 ⟨rfl, hC2, hW2, hK2⟩
  have H62 := Lib.hid (hK2.blk H6.out (by simp; omega))
  have HC2 := Lib.hid hC2
  have HW2 := Lib.hid hW2
  have HK2 := Lib.hid (HK.out.trans hK2)
  clear hC2 hW2 hK2 H6 HC HW HK c1
  go_wp2_with (((with_reducible refine gd_st 35 6 ?_); refine wpList_st rfl 35 (.tmp 6) _ rfl _ _ rfl _ rfl (H62.out) sDone.2 (#[.int .i64 num, .int .i64 d, .int .u64 (stG l (os.getD d default) k)]) rfl (Nat.le_of_ble_eq_true rfl) rfl ?_; intro w3 hb3 hg3 hs3))
  refine bodyPost_ret (res_cell1 Try.results44 _ g6 rfl hb3 sDone) rfl ⟨rfl, ?_, ?_, ?_⟩
  · exact HC2.out.grown hg3 (by omega) (by omega)
  · exact HW2.out.keep (Keep.of_grown (bs := [g6]) hg3 (by simp)) (by simp; omega)
  · exact Keep.new HK2.out (Keep.of_grown hg3 (by simp)) hg6'

/-- slices that lie one behind the other -/
def RdV (w : World) (A : Option Addr) (n : Nat) (V : Nat → Option Addr × Nat × Nat) : Prop :=
  0 < n → ∃ b off, A = some ⟨b, off, none⟩ ∧ b < w.heap.size ∧ ∀ i, i < n → w.cell? ⟨b, off + i, none⟩ = some (.slice (V i).1 (V i).2.1 (V i).2.2)
def slV (x : Option Addr × Nat × Nat) : Value := .slice x.1 x.2.1 x.2.2

theorem infoW : (Try.prog.info? 109).map (fun i => (i.zero, i.size, i.bytes)) = some (some (.agg #[.slice none 0 0, .int .i64 0, .int .u64 0]), 3, 40) := by kernel_rfl
theorem made3 (a b c : Value) (n i : Nat) (hi : i < n) : (madeCells #[a, b, c] (n * 3))[i * 3]? = some a ∧ (madeCells #[a, b, c] (n * 3))[i * 3 + 1]? = some b ∧ (madeCells #[a, b, c] (n * 3))[i * 3 + 2]? = some c := by
  have h0 : i * 3 < n * 3 := by omega
  have h1 : i * 3 + 1 < n * 3 := by omega
  have h2 : i * 3 + 2 < n * 3 := by omega
  have m0 : i * 3 % 3 = 0 := by omega
  have m1 : (i * 3 + 1) % 3 = 1 := by omega
  have m2 : (i * 3 + 2) % 3 = 2 := by omega
  refine ⟨?_, ?_, ?_⟩ <;> simp [madeCells, h0, h1, h2, m0, m1, m2]
theorem run_mkW (n : Nat) (hn : n ≤ 64) (w : World) : (Instr.makeSlice 105 (.int .i64 n) (.int .i64 n)).run Try.prog w = .ok (.slice (some ⟨w.heap.size, 0, none⟩) n n) (w.alloc (.cells (madeCells #[.slice none 0 0, .int .i64 0, .int .u64 0] (n * 3)) 109)) := by
  obtain ⟨i, hi, hz, hs, hb⟩ := info_parts infoW
  have h := run_make (P := Try.prog) w 105 109 i _ Try.underlying105 hi hz .i64 .i64 n n (by omega) (by omega) (by rw [hb]; omega) (by omega)
  rw [hs, Int.toNat_natCast] at h
  exact h
theorem Wks.made (w : World) (n : Nat) : Wks (w.alloc (.cells (madeCells #[.slice none 0 0, .int .i64 0, .int .u64 0] (n * 3)) 109)) w.heap.size n (fun _ => .slice none 0 0) (fun _ => 0) (fun _ => 0) := by
  have hb := Blk.new w 109 (madeCells #[.slice none 0 0, .int .i64 0, .int .u64 0] (n * 3))
  refine ⟨⟨_, hb⟩, fun i hi => ?_, fun i hi => ?_, fun i hi => ?_⟩
  · rw [hb.cell]; exact (made3 _ _ _ n i hi).1
  · rw [hb.cell]; exact (made3 _ _ _ n i hi).2.1
  · rw [hb.cell]; exact (made3 _ _ _ n i hi).2.2
theorem Wks.setP {w : World} {gw n : Nat} {P : Nat → Value} {D : Nat → Nat} {K : Nat → Int} (h : Wks w gw n P D K) (i : Nat) (hi : i < n) (v : Value) : Wks (w.setCell ⟨gw, i * 3, none⟩ v) gw n (upd P i v) D K := by
  obtain ⟨cs, hb⟩ := h.bl
  refine ⟨⟨_, hb.set _ _⟩, fun j hj => ?_, fun j hj => ?_, fun j hj => ?_⟩
  · by_cases e : j = i
    · subst e; unfold upd; rw [if_pos rfl]; exact World.cell?_setCell_same _ _ _ (h.pr j hj)
    · unfold upd; rw [if_neg e, World.cell?_setCell_other _ _ _ _ (by simp <;> omega)]; exact h.pr j hj
  · rw [World.cell?_setCell_other _ _ _ _ (by simp <;> omega)]; exact h.dn j hj
  · rw [World.cell?_setCell_other _ _ _ _ (by simp <;> omega)]; exact h.kp j hj

set_option maxHeartbeats 1000000 in
theorem workersOf_any (A : Option Addr) (np pc m : Nat) (V : Nat → Option Addr × Nat × Nat) (w : World) (hR : RdV w A np V) (hm : m = min np 64) (hcp : pc ≤ maxLen) (hnc : np ≤ pc) :
    Calls Try.prog 41 #[.slice A np pc] w fun e w' => e = .returned (.slice (some ⟨w.heap.size, 0, none⟩) m m) ∧ (∃ P, Wks w' w.heap.size m P (fun _ => 0) (fun _ => 0) ∧ ∀ i, i < m → P i = slV (V i)) ∧ Below w.heap.size w w' := by
  have hm1 : m ≤ 64 := by omega
  have hm2 : m ≤ np := by omega
  unfold maxLen at hcp
  have HR := Lib.hid hR
  have HM := Lib.hid hm
  clear hR hm
  go_enter Try.func41, Try.ntmps41
  go_upto_region 1 with fail
  go_cut [3] (fun s3 wx => s3 = .slice (some ⟨w.heap.size, 0, none⟩) m m ∧ Wks wx w.heap.size m (fun _ => .slice none 0 0) (fun _ => 0) (fun _ => 0) ∧ Below w.heap.size w wx)
  case first =>
    by_cases h64 : np ≤ 64
    · obtain rfl : m = np := by rw [HM.out]; omega
      have hmk := run_mkW m hm1 w
      go_wp2
      go_meet
      exact ⟨rfl, Wks.made w m, (Below.refl _ _).alloc (Nat.le_refl _) _⟩
    · obtain rfl : m = 64 := by rw [HM.out]; omega
      have hmk := run_mkW 64 hm1 w
      rw [show (((64 : Nat)) : Int) = 64 from rfl] at hmk
      go_wp2
      go_meet
      exact ⟨rfl, Wks.made w 64, (Below.refl _ _).alloc (Nat.le_refl _) _⟩
  case rest =>
    obtain ⟨rfl, hW, hB⟩ := hcut
    have HW := Lib.hid hW
    have HB := Lib.hid hB
    clear hW hB
    go_wp2
    go_loopw [11] (fun i wr => ∃ (k : Nat) (P : Nat → Value), i = .int .i64 k ∧ k ≤ m ∧ Wks wr w.heap.size m P (fun _ => 0) (fun _ => 0) ∧ (∀ j, j < k → P j = slV (V j)) ∧ Below w.heap.size w wr ∧ (∀ j, ∃ a b c, P j = .slice a b c)) (fun i _ => m - (intOf i).toNat)
    case atStart => exact ⟨0, _, rfl, by omega, HW.out, (fun j hj => absurd hj (by omega)), HB.out, fun j => ⟨_, _, _, rfl⟩⟩
    case round =>
      obtain ⟨k, P, rfl, hk, hW2, hP, hB2, hS⟩ := hrel
      have HW2 := Lib.hid hW2
      have HP := Lib.hid hP
      have HB2 := Lib.hid hB2
      have HS := Lib.hid hS
      clear hW2 hP hB2 hS HW HB
      by_cases hlt : k < m
      · obtain ⟨b, off, rfl, hbl, hcell⟩ := HR.out (by omega)
        have c0 := (HB2.out.cell (p := ⟨b, off + k, none⟩) hbl).trans (hcell k (by omega))
        obtain ⟨pa, pb, pd, hPk⟩ := HS.out k
        have c1 := HW2.out.pr k hlt
        rw [hPk] at c1
        have f1 := HW2.out.free (k * 3)
        have i0 : (k : Int) < (m : Int) := by omega
        have i1 : (k : Int) < (np : Int) := by omega
        clear hcell hPk
        go_wp2
        go_roundw
        case rel =>
          refine ⟨k + 1, upd P k (slV (V k)), by go_num, by omega, HW2.out.setP k hlt _, fun j hj => ?_, HB2.out.setCell (Nat.le_refl _) _, fun j => ?_⟩
          · by_cases e : j = k
            · subst e; exact upd_same _ _ _
            · unfold upd; rw [if_neg e]; exact HP.out j (by omega)
          · by_cases e : j = k
            · subst e; exact ⟨_, _, _, upd_same _ _ _⟩
            · unfold upd; rw [if_neg e]; exact HS.out j
        case measure => simp [intOf]; omega
      · obtain rfl : k = m := by omega
        go_wp2
        go_ret
        exact ⟨rfl, ⟨P, HW2.out, HP.out⟩, HB2.out⟩
end Go.Proofs.Ytgengboaoniogaa
