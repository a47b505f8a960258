/-
  TurnsSwaps: its walk.
-/
import Derived.Test.YtaoookahpbalaaaPrgs
import Derived.Test.YtaoookahpbalaaaSwapsM
namespace Go.Proofs.Ytaoookahpbalaaa
open Go.RowKit Plain
set_option linter.unusedVariables false
set_option maxRecDepth 100000

theorem swOs_ok (i : Nat) (hi : i < 64) : ∀ o ∈ swOs i, o.ok := by
  intro o ho
  simp only [swOs, List.mem_cons, List.not_mem_nil, or_false] at ho
  rcases ho with rfl | rfl
  · simp [OpV.ok, U64]
  · simp [OpV.ok, U64]; omega

/-- how one step of who looks goes -/
theorem ck1_cases {n : Nat} {c c2 : Ck} {x : Nat × Nat × Int} (h : ck1 n c x = some c2) :
    (x.1 < n ∧ x.2.1 = 0 ∧ x.2.2 = c.now ∧ c2 = ⟨c.now, upd c.got x.1 x.2.2, c.tried⟩) ∨ (x.1 < n ∧ x.2.1 ≠ 0 ∧ c.got x.1 = c.now ∧ x.2.2 = 1 ∧ c2 = ⟨(x.1 : Int) + 1, c.got, true⟩) ∨ (x.1 < n ∧ x.2.1 ≠ 0 ∧ c.got x.1 ≠ c.now ∧ x.2.2 = 0 ∧ c.tried = true ∧ c2 = ⟨c.now, c.got, true⟩) := by
  unfold ck1 at h
  split at h
  · rename_i h1; injection h with h; exact .inl ⟨h1.1, h1.2.1, h1.2.2, h.symm⟩
  · split at h
    · rename_i _ h1; injection h with h; exact .inr (.inl ⟨h1.1, h1.2.1, h1.2.2.1, h1.2.2.2, h.symm⟩)
    · split at h
      · rename_i _ _ h1; injection h with h; exact .inr (.inr ⟨h1.1, h1.2.1, h1.2.2.1, h1.2.2.2.1, h1.2.2.2.2, h.symm⟩)
      · cases h

set_option maxHeartbeats 4000000 in
theorem turnsSwaps_walk (n0 : Int) (B : Option Addr) (nz cz : Nat) (zs : List Int) (w : World) (hz : zs.length = nz) (hnc : nz ≤ cz) (hm : cz ≤ maxLen) (hR : RdN .i64 w B zs) :
    Calls Try.prog 11 #[.int .i64 n0, .slice B nz cz] w fun e w' => e = .returned (.bool true) ∧ Below w.heap.size w w' := by
  have HM := Lib.hid hm
  unfold maxLen at hm
  have HZ := Lib.hid hz
  have HR := Lib.hid hR
  clear hz hR
  obtain ⟨K, hK, hKl⟩ := pickN n0 8 (by omega) (by omega)
  go_enter Try.func11, Try.ntmps11
  go_upto_region 3 with fail
  obtain ⟨n, hn⟩ : ∃ n : Nat, (n : Int) = 1 + (K : Int) := ⟨K + 1, by omega⟩
  rw [← hn]
  have hn1 : 1 ≤ n := by omega
  have hn2 : n ≤ 8 := by omega
  clear hK hn hKl
  go_wp2
  go_loopw [6, 7] (fun s6 s7 wr => ∃ (k c' : Nat) (A' : Option Addr) (pb : Nat → Nat), s6 = .slice A' k c' ∧ s7 = .int .i64 k ∧ k ≤ n ∧ Progs wr w.heap.size (.slice A' k c') k pb swOs ∧ Below w.heap.size w wr) (fun _ i _ => n - (intOf i).toNat)
  case atStart => exact ⟨0, 0, none, fun _ => 0, rfl, rfl, by omega, ⟨World.ownsRow_nil _ _ _ _, fun i hi => absurd hi (by omega)⟩, Below.refl _ _⟩
  case round =>
    obtain ⟨k, c', A', pb, rfl, rfl, hk, hP, hB⟩ := hrel
    have HP := Lib.hid hP
    have HB := Lib.hid hB
    have hsz := hB.size
    clear hP hB
    by_cases hlt : k < n
    · have i0 : (k : Int) < (n : Int) := by omega
      go_wp2_with (at_builtin; refine wpList_prog rfl (.tmp 27) (.tmp 34) rfl rfl HP.out HB.out hsz _ (by simp) 2 rfl (by rfl) (by omega) _ _ rfl rfl rfl ?_)
      intro A2 c2 w2 pb2 hP2 hB2
      have HP2 := Lib.hid hP2
      have HB2 := Lib.hid hB2
      clear hP2 hB2
      go_wp2
      go_roundw
      case rel => exact ⟨k + 1, c2, A2, pb2, rfl, by go_num, by omega, HP2.out, HB2.out⟩
      case measure => simp [intOf]; omega
    · obtain rfl : k = n := by omega
      go_wp2_with fail
      refine (new_any 1 (by omega) (by omega) wr).mono ?_
      rintro e w1 ⟨rfl, hc, hb, hs⟩
      have HC := Lib.hid (show Cl w1 (wr.heap.size + 1) wr.heap.size 1 [0] from hc)
      have HP1 := Lib.hid (HP.out.below hb)
      have HB1 := Lib.hid (bthen HB.out hb)
      have HNE := Lib.hid (fun i (hi : i < k) => show pb i ≠ wr.heap.size from Nat.ne_of_lt (HP.out.blk i hi).1.lt)
      obtain ⟨gn, hgn⟩ : ∃ g, g = wr.heap.size := ⟨_, rfl⟩
      rw [← hgn] at HC HNE hsz hs
      rw [← hgn]
      have hs' : gn + 2 ≤ w1.heap.size := by omega
      clear hc hb hs hgn HP HB
      have HTI := Lib.hid (fun (nz' : Nat) (h : nz' = min nz 60) => HP1.out.tin HC.out HNE.out (by omega) (by omega) (fun i hi => (by show 2 ≤ 1000000; omega)) (fun i hi => swOs_ok i (by omega)) (zs := zs.take 60) (nz := nz') (cz := cz) (B := B)
        (by rw [List.length_take, HZ.out]; omega) ((HR.out.below HB1.out (Nat.le_refl _)).take 60) (fun hp b off e => by
          obtain ⟨b', off', e', hl, _⟩ := HR.out.2 (by rw [HZ.out]; omega)
          rw [e] at e'; injection e' with e'; injection e' with e1 e2; omega) (by omega) HM.out)
      obtain ⟨cf, hck, hcl, hcn⟩ := sw_all k (zs.take 60) (by omega) (by omega)
      obtain ⟨s, hs⟩ : ∃ s, s = many swOs (ts0 [0]) ((zs.take 60).map (pk k) ++ restL swOs k) := ⟨_, rfl⟩
      rw [← hs] at hck hcl hcn
      have HS := Lib.hid hs
      have HCK := Lib.hid hck
      have HCL := Lib.hid hcl
      have HCN := Lib.hid hcn
      have HRA := Lib.hid (fun (nz' : Nat) (h : nz' = min nz 60) => by
        have := rest_any (HTI.out nz' h)
        rw [← HS.out] at this
        exact this)
      clear hs hck hcl hcn HTI HP1 HC HNE
      obtain ⟨m2, hm2⟩ : ∃ m2, m2 = k * 2 := ⟨_, rfl⟩
      have hm2a : m2 ≤ 2 * k := by omega
      have hm2b : 2 * k ≤ m2 := by omega
      rw [← hm2] at HCN
      clear hm2
      go_upto_region 8 with fail
      go_cut [10] (fun s10 wx => ∃ g3 c3, s10 = .slice (some ⟨g3, 0, none⟩) (m2) c3 ∧ g3 < wx.heap.size ∧ (∀ i, i < m2 → wx.cell? ⟨g3, i * 3, none⟩ = some (.int .i64 (s.out.getD i default).1) ∧ wx.cell? ⟨g3, i * 3 + 1, none⟩ = some (.int .i64 (s.out.getD i default).2.1) ∧ wx.cell? ⟨g3, i * 3 + 2, none⟩ = some (.int .u64 (s.out.getD i default).2.2)) ∧ Cl wx (gn + 1) gn 1 [cf.now] ∧ Below w.heap.size w wx)
      case first =>
        have HF := Lib.hid (fun (nz' : Nat) (h : nz' = min nz 60) => (HRA.out nz' h).mono (fun e w3 (h : TOut w1 (gn + 1) gn 1 s e w3) => show ∃ g3 c3, e = .returned (.slice (some ⟨g3, 0, none⟩) (m2) c3) ∧ g3 < w3.heap.size ∧ (∀ i, i < m2 → w3.cell? ⟨g3, i * 3, none⟩ = some (.int .i64 (s.out.getD i default).1) ∧ w3.cell? ⟨g3, i * 3 + 1, none⟩ = some (.int .i64 (s.out.getD i default).2.1) ∧ w3.cell? ⟨g3, i * 3 + 2, none⟩ = some (.int .u64 (s.out.getD i default).2.2)) ∧ Cl w3 (gn + 1) gn 1 [cf.now] ∧ Below w.heap.size w w3 by
          obtain ⟨A3, c3, rfl, hC3, how, hk3⟩ := h
          rw [HCN.out] at how
          obtain ⟨g3, rfl, hg1, hg2, hg3, hcell⟩ := own_done how HCN.out (by omega)
          rw [HCL.out] at hC3
          exact ⟨g3, c3, by rw [HCN.out], hg2, hcell, hC3, hk3.below HB1.out (Nat.le_refl _) (by simp; omega)⟩))
        by_cases h60 : nz ≤ 60
        · have h61 : (nz : Int) ≤ 60 := by omega
          clear HRA
          go_wp2_with fail
          refine (HF.out nz (by omega)).mono ?_
          rintro e w3 ⟨g3, c3, rfl, h2, h3, h4, h5⟩
          have H3 := Lib.hid (And.intro h2 (And.intro h3 (And.intro h4 h5)))
          clear h2 h3 h4 h5
          go_wp2
          go_meet
          exact ⟨g3, c3, rfl, H3.out.1, H3.out.2.1, H3.out.2.2.1, H3.out.2.2.2⟩
        · have h61 : (60 : Int) < (nz : Int) := by omega
          clear HRA
          go_wp2_with fail
          refine (HF.out 60 (by omega)).mono ?_
          rintro e w3 ⟨g3, c3, rfl, h2, h3, h4, h5⟩
          have H3 := Lib.hid (And.intro h2 (And.intro h3 (And.intro h4 h5)))
          clear h2 h3 h4 h5
          go_wp2
          go_meet
          exact ⟨g3, c3, rfl, H3.out.1, H3.out.2.1, H3.out.2.2.1, H3.out.2.2.2⟩
      case rest =>
        obtain ⟨g3, c3, rfl, hg2, hcell, hC3, hB3⟩ := hcut
        have HC3 := Lib.hid hC3
        have HB3 := Lib.hid hB3
        have HE3 := Lib.hid hcell
        clear hC3 hcell hB3 HRA
        have hmk := mk64 k (by omega) wc
        go_upto_region 11 with fail
        clear hmk
        have HR4 := Lib.hid (Row.made .u64 26 wc k)
        have e4 : ((List.replicate k (0 : Int)).map (Value.int .u64)).toArray = Array.replicate k (Value.int .u64 0) := by simp
        rw [e4] at HR4
        have HB4 := Lib.hid (ball wc (.cells (Array.replicate k (Value.int .u64 0)) 26))
        clear e4
        obtain ⟨gg, hgg⟩ : ∃ g, g = wc.heap.size := ⟨_, rfl⟩
        have hg2' := hg2
        rw [← hgg] at HR4 hg2
        rw [← hgg]
        have hgg' : wc.heap.size ≤ gg := by omega
        clear hgg
        generalize wc.alloc (.cells (Array.replicate k (Value.int .u64 0)) 26) = w4 at *
        go_wp2
        go_loopw [11, 12, 14] (fun s11 s12 s14 wx => ∃ (j : Nat) (c : Ck) (gl : List Int), s11 = .int .u64 c.now ∧ s12 = .bool c.tried ∧ s14 = .int .i64 j ∧ j ≤ m2 ∧ ckL k (some ck0) (s.out.take j) = some c ∧ gl.length = k ∧ (∀ i, i < k → gl.getD i 0 = c.got i) ∧ Row .u64 26 wx gg gl ∧ Below wc.heap.size wc wx) (fun _ _ i _ => m2 - (intOf i).toNat)
        case atStart => exact ⟨0, ck0, List.replicate k 0, rfl, rfl, rfl, by omega, rfl, List.length_replicate, fun i hi => by simp [List.getD, hi, ck0], HR4.out, HB4.out⟩
        case round =>
          obtain ⟨j, c, gl, rfl, rfl, rfl, hj, hcj, hgl, hgot, hrow, hbw⟩ := hrel
          have HCJ := Lib.hid hcj
          have HGL := Lib.hid hgl
          have HGO := Lib.hid hgot
          have HRW := Lib.hid hrow
          have HBW := Lib.hid hbw
          clear hcj hgl hgot hrow hbw HR4 HB4
          by_cases hjk : j < m2
          · obtain ⟨c1, c2, q1, q2, q3⟩ := ckL_take k s.out (some ck0) cf HCK.out j (by rw [HCN.out]; exact hjk)
            have hcc : c1 = c := by have := HCJ.out; rw [q1] at this; injection this
            subst hcc
            obtain ⟨d0, d1, d2⟩ := HE3.out j hjk
            have p0 := (HBW.out.cell (p := ⟨g3, j * 3, none⟩) hg2').trans d0
            have p1 := (HBW.out.cell (p := ⟨g3, j * 3 + 1, none⟩) hg2').trans d1
            have p2 := (HBW.out.cell (p := ⟨g3, j * 3 + 2, none⟩) hg2').trans d2
            have HQ3 := Lib.hid q3
            clear q1 q3 d0 d1 d2
            have hcase := ck1_cases q2
            clear q2
            generalize s.out.getD j default = x at *
            obtain ⟨xw, xi, xg⟩ := x
            simp only at p0 p1 p2 hcase
            have HCS := Lib.hid hcase
            clear hcase
            go_upto_region 15 with fail
            have H9 := Lib.hid (Blk.new wr 49 #[.int .i64 (xw : Int), .int .i64 (xi : Int), .int .u64 xg])
            have HR5 := Lib.hid (HRW.out.alloc (.cells #[.int .i64 (xw : Int), .int .i64 (xi : Int), .int .u64 xg] 49))
            have HB5 := Lib.hid (HBW.out.alloc (by have := HBW.out.size; omega) (.cells #[.int .i64 (xw : Int), .int .i64 (xi : Int), .int .u64 xg] 49))
            have lgg := HRW.out.lt
            obtain ⟨g9, hg9⟩ : ∃ g, g = wr.heap.size := ⟨_, rfl⟩
            rw [← hg9] at H9 lgg
            rw [← hg9]
            clear hg9 HRW HBW p0 p1 p2
            generalize wr.alloc (.cells #[.int .i64 (xw : Int), .int .i64 (xi : Int), .int .u64 xg] 49) = w5 at *
            have k0 := H9.out.cell 0
            have k1 := H9.out.cell 1
            have k2 := H9.out.cell 2
            simp only [List.getElem?_toArray, List.getElem?_cons_zero, List.getElem?_cons_succ] at k0 k1 k2
            rcases HCS.out with ⟨hw, h0, hg, hc⟩ | ⟨hw, h0, hg, h1, hc⟩ | ⟨hw, h0, hg, h1, ht, hc⟩
            · have HCC := Lib.hid hc
              obtain rfl : xi = 0 := h0
              obtain rfl : xg = c1.now := hg
              have i1 : (xw : Int) < (k : Int) := by omega
              have d1 : decide ((k : Int) ≤ (xw : Int)) = false := by simp; omega
              have d2 : decide ((xw : Int) < 0) = false := by simp
              have f1 := HR5.out.free xw
              have f2 := HR5.out.at (i := xw) (by rw [HGL.out]; exact hw)
              clear hc HCS
              go_wp2
              go_roundw
              case rel =>
                refine ⟨j + 1, c2, gl.set xw c1.now, by rw [HCC.out], by rw [HCC.out], by go_num, by omega, HQ3.out, by rw [List.length_set]; exact HGL.out, fun i hi => ?_, HR5.out.set xw _, HB5.out.setCell hgg' _⟩
                rw [HCC.out]
                show _ = upd c1.got xw c1.now i
                by_cases e : i = xw
                · subst e; rw [upd_same]; simp [List.getD, HGL.out, hi]
                · unfold upd; rw [if_neg e, ← HGO.out i hi]; simp [List.getD, Ne.symm e]
              case measure => simp [intOf]; omega
            · have HCC := Lib.hid hc
              obtain rfl : xg = 1 := h1
              have i1 : (xw : Int) < (k : Int) := by omega
              have d1 : decide ((k : Int) ≤ (xw : Int)) = false := by simp; omega
              have d2 : decide ((xw : Int) < 0) = false := by simp
              have d3 : ((xi : Int) == 0) = false := by rw [beq_eq_false_iff_ne]; omega
              have f2 := HR5.out.at (i := xw) (by rw [HGL.out]; exact hw)
              rw [HGO.out xw hw, hg] at f2
              clear hc HCS hg h0
              go_wp2
              all_goals
                go_roundw
                case rel => exact ⟨j + 1, c2, gl, by rw [HCC.out], by rw [HCC.out], by go_num, by omega, HQ3.out, HGL.out, (fun i hi => by rw [HCC.out]; exact HGO.out i hi), HR5.out, HB5.out⟩
                case measure => simp [intOf]; omega
            · have HCC := Lib.hid hc
              obtain rfl : xg = 0 := h1
              have i1 : (xw : Int) < (k : Int) := by omega
              have d1 : decide ((k : Int) ≤ (xw : Int)) = false := by simp; omega
              have d2 : decide ((xw : Int) < 0) = false := by simp
              have d3 : ((xi : Int) == 0) = false := by rw [beq_eq_false_iff_ne]; omega
              have f2 := HR5.out.at (i := xw) (by rw [HGL.out]; exact hw)
              rw [HGO.out xw hw] at f2
              have d4 : (c1.got xw == c1.now) = false := by rw [beq_eq_false_iff_ne]; exact hg
              have HTR := Lib.hid ht
              clear hc HCS hg h0
              go_wp2
              go_roundw
              case rel => exact ⟨j + 1, c2, gl, by rw [HCC.out], by rw [HCC.out], by go_num, by omega, HQ3.out, HGL.out, (fun i hi => by rw [HCC.out]; exact HGO.out i hi), HR5.out, HB5.out⟩
              case measure => simp [intOf]; omega
          · obtain rfl : j = m2 := by omega
            have e1 : s.out.take j = s.out := List.take_of_length_le (by rw [HCN.out]; omega)
            have e2 := HCJ.out
            rw [e1, HCK.out] at e2
            injection e2 with e2
            subst e2
            clear e1
            have HC6 := Lib.hid (HC3.out.below HBW.out)
            have HB6 := Lib.hid (bthen HB3.out HBW.out)
            have hj2 : (j : Int) = 2 * (k : Int) := by omega
            go_wp2_with fail
            refine (goes_any _).mono ?_
            rintro e w6 ⟨rfl, hb6⟩
            have HC7 := Lib.hid (HC6.out.below hb6)
            have HB7 := Lib.hid (bthen HB6.out hb6)
            clear hb6
            go_wp2_with fail
            refine (load_any HC7.out 0 (by omega)).mono ?_
            rintro e w7 ⟨rfl, rfl⟩
            rw [show [cf.now].getD 0 0 = cf.now from rfl]
            go_wp2
            go_ret
            exact ⟨rfl, HB7.out⟩
end Go.Proofs.Ytaoookahpbalaaa
