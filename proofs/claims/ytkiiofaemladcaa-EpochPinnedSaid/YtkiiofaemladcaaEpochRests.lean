/-
  EpochRests: when nobody is pinned, two Advances let all be used again. Conditions stand in each theorem.
-/
import Derived.Test.YtkiiofaemladcaaEpL
namespace Go.Proofs.Ytkiiofaemladcaa
open Go.RowKit Go.Deep Plain
set_option linter.unusedVariables false
set_option maxRecDepth 100000

def Zs (gs : List (Int × Int)) : Prop := ∀ x, x ∈ gs → x.2 = 0
theorem Zs.at {gs : List (Int × Int)} (h : Zs gs) {i : Nat} (hi : i < gs.length) : (gs.getD i default).2 = 0 := by
  have e : gs.getD i default = gs[i] := by simp [List.getD, hi]
  rw [e]; exact h _ (List.getElem_mem hi)
theorem Zs.gok {gs : List (Int × Int)} (h : Zs gs) : GOk gs := fun i hi => by rw [h.at hi]; omega
theorem Zs.few {gs : List (Int × Int)} (h : Zs gs) (r : Nat) (hr : r ≤ 1) : ripeN gs r = 0 := by
  symm
  exact ripeN_eq gs r 0 ⟨by omega, by omega, fun hp => by rw [h.at hp]; omega⟩
theorem Zs.all {gs : List (Int × Int)} (h : Zs gs) : ripeN gs 2 = gs.length := by
  symm
  exact ripeN_eq gs 2 gs.length ⟨Nat.le_refl _, fun j hj => by rw [h.at hj]; omega, by omega⟩
theorem upE_self {α : Type} (f : Nat → α) (i : Nat) : upE f i (f i) = f := by
  funext j
  unfold upE
  split
  · rename_i e; rw [e]
  · rfl
theorem mkInts (n : Nat) (hn : n ≤ 1000000) (w : World) : (Instr.makeSlice 53 (.int .i64 n) (.int .i64 n)).run Try.prog w = .ok (.slice (some ⟨w.heap.size, 0, none⟩) n n) (w.alloc (.cells ((List.replicate n (0 : Int)).map (Value.int .i64)).toArray 3)) :=
  run_mkN 53 3 .i64 8 Try.underlying53 (by kernel_rfl) (by omega) n hn w
theorem KeepG.row {w w' : World} {base gg gr : Nat} {cnt : List Int} (h : KeepG base gg w w') (hr : Row .i64 3 w gr cnt) (hg : ∃ cs, Blk w gg 104 cs) : Row .i64 3 w' gr cnt := by
  obtain ⟨cs, hg⟩ := hg
  exact h.blk hr (by decide) (blk_types hr hg (by decide))
theorem Row.done {w w' : World} {ge gc gn gg n gs gr : Nat} {l cnt : List Int} {s : Sv} (hr : Row .i64 3 w gr cnt) (h : EpB w ge gc gn gg n l) (hs : StV w gs gc s) (hk : Keep [gn, gs] w w') : Row .i64 3 w' gr cnt := by
  refine hk.blk hr ?_
  simp only [List.mem_cons, List.not_mem_nil, or_false, not_or]
  exact ⟨blk_types hr h.cl.nu (by decide), blk_types hr hs (by decide)⟩
theorem EpB.putR {w : World} {ge gc gn gg n gr : Nat} {l cnt : List Int} (he : EpB w ge gc gn gg n l) (hr : Row .i64 3 w gr cnt) (i : Nat) (v : Value) : EpB (w.setCell ⟨gr, i, none⟩ v) ge gc gn gg n l :=
  he.other (blk_types he.es hr (by decide)) (blk_types he.cl.st hr (by decide)) (blk_types he.cl.nu hr (by decide)) i v
theorem Gs.putR {w : World} {base gg n gr : Nat} {G : Nat → List (Int × Int)} {cnt : List Int} (hg : Gs w base gg n G) (hr : Row .i64 3 w gr cnt) (i : Nat) (v : Value) : Gs (w.setCell ⟨gr, i, none⟩ v) base gg n G := by
  obtain ⟨cs, hb⟩ := hg.blk
  refine hg.keep (bs := [gr]) ((Keep.refl _ _).setCell (.inl (by simp)) v) ?_ ?_
  · simpa using blk_types hb hr (by decide)
  · intro b hb'
    obtain rfl : b = gr := by simpa using hb'
    exact ⟨_, _, hr, by decide⟩
/-- a loop's number, and what stays -/
def LeAnd (W : World → Prop) (n k : Nat) (w : World) : Prop := k ≤ n ∧ W w
/-- counts of what was given up -/
def Cnt (n : Nat) (G : Nat → List (Int × Int)) (cnt : List Int) : Prop := cnt.length = n ∧ ∀ i, i < n → cnt.getD i 0 = ((G i).length : Int)

set_option maxHeartbeats 80000000 in
theorem epochRests_walk (n0 : Int) (A : Option Addr) (nz cz : Nat) (zs : List Int) (w : World) (hz : zs.length = nz) (hnc : nz ≤ cz) (hm : cz ≤ maxLen) (hR : RdN .i64 w A zs) :
    Calls Try.prog 4 #[.int .i64 n0, .slice A nz cz] w fun e w' => e = .returned (.bool true) ∧ Below w.heap.size w w' := by
  have HM := Lib.hid hm
  unfold maxLen at hm
  have HZ := Lib.hid hz
  have HR := Lib.hid hR
  clear hz hR
  obtain ⟨K, hK, hKl⟩ := pickN n0 64 (by omega) (by omega)
  go_enter Try.func4, Try.ntmps4
  go_upto_region 2 with fail
  obtain ⟨n, hn⟩ : ∃ n : Nat, (n : Int) = 1 + (K : Int) := ⟨K + 1, by omega⟩
  rw [← hn]
  have hn1 : 1 ≤ n := by omega
  have hn2 : n ≤ 64 := by omega
  clear hK hn hKl
  go_upto_region 3 with (go_at_call 21; refine (eNew_any n hn1 (by omega) w).mono ?_; rintro e w1 ⟨ge, gc, gn, gg, rfl, he, hbg, hB, s1, s2, s3, s4⟩)
  have HE := Lib.hid he
  have HG := Lib.hid (Gs.made hbg s4)
  have HB := Lib.hid hB
  have z1 := hB.size
  clear he hbg hB
  go_upto_region 5 with (go_at_call 12; refine (moves_any _).mono ?_; rintro e w2 ⟨rfl, hb⟩)
  have HE2 := Lib.hid (HE.out.below hb)
  have HG2 := Lib.hid (HG.out.below hb)
  have HB2 := Lib.hid (HB.out.trans (hb.mono z1))
  have z2 := HB2.out.size
  clear HE HB HG hb z1
  have hmk := mkInts n (by omega) w2
  go_upto_region 6 with fail
  clear hmk
  have er : ((List.replicate n (0 : Int)).map (Value.int .i64)).toArray = Array.replicate n (Value.int .i64 0) := by simp
  have HW3 := Lib.hid (Row.made .i64 3 w2 n)
  have HE3 := Lib.hid (HE2.out.below (ball w2 (.cells ((List.replicate n (0 : Int)).map (Value.int .i64)).toArray 3)))
  have HG3 := Lib.hid (HG2.out.below (ball w2 (.cells ((List.replicate n (0 : Int)).map (Value.int .i64)).toArray 3)))
  have HB3 := Lib.hid (HB2.out.trans ((ball w2 (.cells ((List.replicate n (0 : Int)).map (Value.int .i64)).toArray 3)).mono z2))
  rw [er] at HW3 HE3 HB3 HG3
  clear HE2 HB2 HG2 er
  generalize w2.alloc (.cells (Array.replicate n (Value.int .i64 0)) 3) = w3 at *
  generalize w2.heap.size = gr at *
  have HCN := Lib.hid (show Cnt n (fun _ => []) (List.replicate n 0) from ⟨List.length_replicate, fun i hi => by simp [List.getD, hi]⟩)
  go_wp2
  go_loopw [9, 10] (fun s9 s10 wr => ∃ (i : Nat) (G : Nat → List (Int × Int)) (cnt : List Int), s9 = .int .i64 i ∧ i ≤ nz ∧ i ≤ 60 ∧ EpB wr ge gc gn gg n (l1 n 0) ∧ Gs wr w.heap.size gg n G ∧ Row .i64 3 wr gr cnt ∧ Below w.heap.size w wr ∧ Cnt n G cnt ∧ ∀ k, Zs (G k) ∧ (G k).length ≤ i) (fun i _ _ => 60 - (intOf i).toNat)
  case atStart => exact ⟨0, _, _, rfl, by omega, by omega, HE3.out, HG3.out, HW3.out, HB3.out, HCN.out, fun k => ⟨by simp [Zs], by simp⟩⟩
  case round =>
    obtain ⟨i, G, cnt, rfl, hi, hi6, he, hg, hw, hB, hc, ha⟩ := hrel
    have HE := Lib.hid he
    have HG := Lib.hid hg
    have HW := Lib.hid hw
    have HB := Lib.hid hB
    have HC := Lib.hid hc
    have HA := Lib.hid ha
    have z4 := hB.size
    clear he hg hw hB hc ha HE3 HG3 HW3 HB3 HCN
    by_cases hlt : i < nz ∧ i < 60
    · obtain ⟨hl1, hl2⟩ := hlt
      obtain ⟨bk, off, rfl, hbl, hcell⟩ := HR.out.2 (by rw [HZ.out]; omega)
      have cj := (HB.out.cell (p := ⟨bk, off + i, none⟩) hbl).trans (hcell i (by rw [HZ.out]; exact hl1))
      clear hcell
      generalize zs.getD i 0 = pk at *
      obtain ⟨K, hK, hKl⟩ := pickN pk n (by omega) (by omega)
      have hKn : K < n := by omega
      have hlen := (HA.out K).2
      have HGV := Lib.hid (gsGive HE.out HG.out K hKn i (by omega) z4)
      have hcn := HC.out.2 K hKn
      go_upto_region 12 with (go_at_call 15; refine (HGV.out).mono ?_; rintro e w4 ⟨rfl, hg4, hk4⟩)
      have HE4 := Lib.hid (hk4.ep HE.out HG.out.blk)
      have HW4 := Lib.hid (hk4.row HW.out HG.out.blk)
      have HB4 := Lib.hid (hk4.below HB.out (Nat.le_refl _) (Nat.le_refl _) s4)
      have HG4 := Lib.hid hg4
      have c4 := HW4.out.at (i := K) (by rw [HC.out.1]; exact hKn)
      have f4 := HW4.out.free K
      rw [hcn] at c4
      clear hg4 hk4 HE HW HB HG HGV cj hcn
      generalize hq : (G K).length = q at *
      go_wp2
      go_roundw
      case rel =>
        refine ⟨i + 1, _, cnt.set K ((q : Int) + 1), by go_num, by omega, by omega, HE4.out.putR HW4.out K _, HG4.out.putR HW4.out K _, HW4.out.set K _, HB4.out.setCell (p := ⟨gr, K, none⟩) z2 _, ⟨by rw [List.length_set]; exact HC.out.1, fun j hj => ?_⟩, fun k => ?_⟩
        · by_cases e : j = K
          · subst e
            rw [upE_same, List.length_append, hq]
            simp [List.getD, HC.out.1, hj]
          · rw [upE_ne _ _ e, ← HC.out.2 j hj]
            simp [List.getD, Ne.symm e]
        · by_cases e : k = K
          · subst e
            rw [upE_same]
            refine ⟨fun x hx => ?_, by rw [List.length_append, hq]; simp; omega⟩
            rcases List.mem_append.1 hx with h | h
            · exact (HA.out k).1 x h
            · simp at h; subst h; rfl
          · rw [upE_ne _ _ e]
            exact ⟨(HA.out k).1, by have := (HA.out k).2; omega⟩
      case measure => simp [intOf]; omega
    · have HZG := Lib.hid (fun k => show Zs (G k) ∧ (G k).length ≤ 60 from ⟨(HA.out k).1, by have := (HA.out k).2; omega⟩)
      clear HA
      go_upto_region 7 with fail
      go_cut [41] (fun s41 wx => s41 = .bool false ∧ wx = wr)
      case first =>
        go_wp2
        all_goals (go_meet; exact ⟨by first | rfl | (simp; omega), rfl⟩)
      case rest =>
        obtain ⟨rfl, rfl⟩ := hcut
        go_wp2
        go_loopw [11, 12, 13, 14] (fun s11 s12 s13 s14 wr => ∃ r : Nat, s11 = .int .i64 r ∧ r ≤ 2 ∧ EpB wr ge gc gn gg n (l1 n r) ∧ Gs wr w.heap.size gg n G ∧ Row .i64 3 wr gr cnt ∧ Below w.heap.size w wr) (fun r _ _ _ _ => 2 - (intOf r).toNat)
        case atStart => exact ⟨0, rfl, by omega, HE.out, HG.out, HW.out, HB.out⟩
        case round =>
          obtain ⟨r, rfl, hr, he, hg, hw, hB⟩ := hrel
          have HE := Lib.hid he
          have HG := Lib.hid hg
          have HW := Lib.hid hw
          have HB := Lib.hid hB
          clear he hg hw hB z4
          by_cases hr2 : r < 2
          · have dr : decide ((r : Int) < 2) = true := decide_eq_true (by omega)
            go_wp2
            go_loopw [12] (fun s12 wt => ∃ k : Nat, s12 = .int .i64 k ∧ LeAnd (fun wt => EpB wt ge gc gn gg n (l1 n r) ∧ Gs wt w.heap.size gg n G ∧ Row .i64 3 wt gr cnt ∧ Below w.heap.size w wt) n k wt) (fun k _ => n - (intOf k).toNat)
            case atStart => exact ⟨0, rfl, by omega, HE.out, HG.out, HW.out, HB.out⟩
            case round =>
              obtain ⟨k, rfl, hk, he, hg, hw, hB⟩ := hrel
              have HE := Lib.hid he
              have HG := Lib.hid hg
              have HW := Lib.hid hw
              have HB := Lib.hid hB
              have z5 := hB.size
              clear he hg hw hB
              by_cases hkn : k < n
              · have hcn := HC.out.2 k hkn
                have c4 := HW.out.at (i := k) (by rw [HC.out.1]; exact hkn)
                rw [hcn] at c4
                have HWT := Lib.hid (fun q => gsWaiting (HE.out.drewN q) (HG.out.drewN q) k hkn)
                have HTK := Lib.hid (fun q => gsTake (HE.out.drewN q) (HG.out.drewN q) k hkn (by have := (HZG.out k).2; omega) (HZG.out k).1.gok 0 (by rw [show (l1 n r).getD 0 0 = (r : Int) from rfl]; exact ((HZG.out k).1.few r (by omega)).symm))
                have lr := HW.out.lt
                clear hcn
                obtain ⟨m, hm'⟩ : ∃ m, (G k).length = m := ⟨_, rfl⟩
                rw [hm'] at c4 HWT
                have HROW := Lib.hid (show ∀ q w5, KeepG w.heap.size gg (wr.drewN q) w5 → w5.cell? ⟨gr, k, none⟩ = some (.int .i64 m) from fun q w5 h => by
                  have h1 := (h.row (w := wr.drewN q) HW.out (HG.out.drewN q).blk).at (i := k) (by rw [HC.out.1]; exact hkn)
                  rw [HC.out.2 k hkn, hm'] at h1
                  exact h1)
                go_upto_region 19 with fail
                go_region_held3 (fun W => W.cell? ⟨gr, k, none⟩ = some (.int .i64 m))
                  (first | go_keep | assumption)
                  (first | (go_at_call 17; refine (HWT.out _).mono ?_; rintro e w5 ⟨rfl, rfl⟩) | (go_at_call 16; refine (HTK.out _).mono ?_; rintro e w5 ⟨rfl, hrow5, hg5, hk5⟩; have HW5 := HROW.out _ _ hk5))
                rw [List.drop_zero, upE_self] at hg5
                have HE5 := Lib.hid (hk5.ep (HE.out.drewN 1) (HG.out.drewN 1).blk)
                have HG5 := Lib.hid hg5
                have HW6 := Lib.hid (hk5.row (w := wr.drewN 1) HW.out (HG.out.drewN 1).blk)
                have HB5 := Lib.hid (hk5.below (below_drewN HB.out 1) (Nat.le_refl _) (Nat.le_refl _) s4)
                clear hrow5 hg5 hk5 HE HG HW HB HW5 HTK HWT HROW
                go_wp2
                go_roundw
                case rel => exact ⟨k + 1, by go_num, by omega, HE5.out, HG5.out, HW6.out, HB5.out⟩
                case measure => simp [intOf]; omega
              · go_upto_region 22 with (go_at_call 26; refine (eAdvance_any HE.out).mono ?_; rintro e w5 ⟨rfl, hs, hb⟩)
                have HE3 := Lib.hid (HE.out.below hb)
                have HG3 := Lib.hid (HG.out.below hb)
                have HW3 := Lib.hid (show Row .i64 3 w5 gr cnt from Row.below HW.out hb)
                have HB3 := Lib.hid (HB.out.trans (hb.mono z5))
                have HS3 := Lib.hid (show StV w5 wr.heap.size gc (adv n r 0) from hs)
                clear hs hb HE HG HB HW
                generalize wr.heap.size = gs at *
                go_wp2
                go_loopw [14] (fun s14 wt => ∃ t : Nat, s14 = .int .i64 t ∧ t ≤ n + 2 ∧ EpB wt ge gc gn gg n (l1 n (if t = n + 2 then r + 1 else r)) ∧ StV wt gs gc (adv n r t) ∧ Gs wt w.heap.size gg n G ∧ Row .i64 3 wt gr cnt ∧ Below w.heap.size w wt) (fun t _ => n + 2 - (intOf t).toNat)
                case atStart => exact ⟨0, rfl, by omega, by rw [if_neg (by omega)]; exact HE3.out, HS3.out, HG3.out, HW3.out, HB3.out⟩
                case round =>
                  obtain ⟨t, rfl, ht, he, hs, hg, hw, hB⟩ := hrel
                  have HS := Lib.hid hs
                  have HG := Lib.hid hg
                  have HW := Lib.hid hw
                  have HB := Lib.hid hB
                  clear hs hg hw hB HE3 HS3 HG3 HB3 HW3
                  by_cases h2 : t < n + 2
                  · rw [if_neg (by omega)] at he
                    have HE := Lib.hid he
                    clear he
                    have i2 : (t : Int) < (n : Int) + 2 := by omega
                    have HL := Lib.hid (show ∀ k, 1 ≤ k → k ≤ n → (l1 n r).getD k 0 = 0 ∨ (l1 n r).getD k 0 = m64 ((r : Int) + 1) from fun k h1 h2 => .inl (l1_at n r k h1))
                    by_cases h1 : t ≤ n
                    · have i1 : decide ((n : Int) + 1 ≤ (t : Int)) = false := by simp; omega
                      go_wp2_with (go_at_call 19; refine (adv_do HE.out t HS.out rfl HL.out h1).mono ?_; rintro e w6 ⟨rfl, he4, hs4, hk4⟩)
                      have HG4 := Lib.hid (HG.out.done HE.out HS.out hk4)
                      have HW4 := Lib.hid (Row.done HW.out HE.out HS.out hk4)
                      have HB4 := Lib.hid (hk4.two HB.out (Nat.le_refl _) s3 z5)
                      go_roundw
                      case rel => exact ⟨t + 1, by go_num, by omega, by rw [if_neg (by omega)]; exact he4, hs4, HG4.out, HW4.out, HB4.out⟩
                      case measure => simp [intOf]; omega
                    · obtain rfl : t = n + 1 := by omega
                      have i1 : decide ((n : Int) + 1 ≤ ((n + 1 : Nat) : Int)) = true := decide_eq_true (by omega)
                      go_wp2_with (go_at_call 19; refine (adv_fin HE.out HS.out rfl).mono ?_; rintro e w6 ⟨rfl, he4, hs4, hk4⟩)
                      have HG4 := Lib.hid (HG.out.done HE.out HS.out hk4)
                      have HW4 := Lib.hid (Row.done HW.out HE.out HS.out hk4)
                      have HB4 := Lib.hid (hk4.two HB.out (Nat.le_refl _) s3 z5)
                      have el : (l1 n r).set 0 (m64 ((r : Int) + 1)) = l1 n (r + 1) := by
                        have e : m64 ((r : Int) + 1) = ((r + 1 : Nat) : Int) := by unfold m64; omega
                        rw [e]; rfl
                      rw [el] at he4
                      go_roundw
                      case rel => exact ⟨n + 2, by go_num, by omega, by rw [if_pos rfl]; exact he4, hs4, HG4.out, HW4.out, HB4.out⟩
                      case measure => simp [intOf]; omega
                  · obtain rfl : t = n + 2 := by omega
                    rw [if_pos rfl] at he
                    have HE := Lib.hid he
                    have i2 : ¬ ((n + 2 : Nat) : Int) < (n : Int) + 2 := by omega
                    clear he
                    go_wp2_with (go_at_call 20; refine (adv_won 0 HS.out).mono ?_; rintro e w6 ⟨rfl, rfl⟩)
                    go_roundw
                    case rel => exact ⟨r + 1, by go_num, by omega, HE.out, HG.out, HW.out, HB.out⟩
                    case measure => simp [intOf]; omega
          · have HR2 := Lib.hid (show r = 2 by omega)
            clear hr
            go_wp2
            go_loopw [15] (fun s15 wt => ∃ (k : Nat) (G' : Nat → List (Int × Int)), s15 = .int .i64 k ∧ k ≤ n ∧ EpB wt ge gc gn gg n (l1 n r) ∧ Gs wt w.heap.size gg n G' ∧ Row .i64 3 wt gr cnt ∧ Below w.heap.size w wt ∧ ∀ j, k ≤ j → G' j = G j) (fun k _ => n - (intOf k).toNat)
            case atStart => exact ⟨0, G, rfl, by omega, HE.out, HG.out, HW.out, HB.out, fun _ _ => rfl⟩
            case round =>
              obtain ⟨k, G', rfl, hk, he, hg, hw, hB, heq⟩ := hrel
              have HE := Lib.hid he
              have HG := Lib.hid hg
              have HW := Lib.hid hw
              have HB := Lib.hid hB
              have HQ := Lib.hid heq
              clear he hg hw hB heq
              by_cases hkn : k < n
              · have c4 := HW.out.at (i := k) (by rw [HC.out.1]; exact hkn)
                rw [HC.out.2 k hkn] at c4
                have hgk := HQ.out k (Nat.le_refl _)
                have hzk := HZG.out k
                rw [← hgk] at hzk c4
                have lr := HW.out.lt
                obtain ⟨m, hm'⟩ : ∃ m, (G' k).length = m := ⟨_, rfl⟩
                have HTK := Lib.hid (fun q => gsTake (HE.out.drewN q) (HG.out.drewN q) k hkn (by have := hzk.2; omega) hzk.1.gok m (by rw [HR2.out, show (l1 n 2).getD 0 0 = 2 from rfl, hzk.1.all, hm']))
                have HROW := Lib.hid (show ∀ q w5, KeepG w.heap.size gg (wr.drewN q) w5 → w5.cell? ⟨gr, k, none⟩ = some (.int .i64 m) from fun q w5 h => by
                  have h1 := (h.row (w := wr.drewN q) HW.out (HG.out.drewN q).blk).at (i := k) (by rw [HC.out.1]; exact hkn)
                  rw [HC.out.2 k hkn, ← hgk, hm'] at h1
                  exact h1)
                have HWT := Lib.hid (show ∀ q w5, KeepG w.heap.size gg (wr.drewN q) w5 → Gs w5 w.heap.size gg n (upE G' k ((G' k).drop m)) → Calls Try.prog 17 #[.pointer (some ⟨ge, 0, none⟩), .int .i64 k] w5 fun e w' => e = .returned (.int .i64 0) ∧ w5 = w' from fun q w5 h1 h2 => by
                  have h := gsWaiting (h1.ep (HE.out.drewN q) (HG.out.drewN q).blk) h2 k hkn
                  rw [upE_same, List.length_drop, hm', Nat.sub_self] at h
                  exact h)
                rw [hm'] at c4
                have h60 := hzk.2
                rw [hm'] at h60
                clear hgk hzk hm'
                go_upto_region 32 with fail
                go_region_held3 (fun W => W.cell? ⟨gr, k, none⟩ = some (.int .i64 m))
                  (first | go_keep | assumption)
                  (first | (go_at_call 16; refine (HTK.out _).mono ?_; rintro e w5 ⟨rfl, hrow5, hg5, hk5⟩; have HW5 := HROW.out _ _ hk5) | (go_at_call 17; refine (HWT.out _ _ hk5 hg5).mono ?_; rintro e w6 ⟨rfl, rfl⟩))
                have HE5 := Lib.hid (hk5.ep (HE.out.drewN 1) (HG.out.drewN 1).blk)
                have HG5 := Lib.hid hg5
                have HW6 := Lib.hid (hk5.row (w := wr.drewN 1) HW.out (HG.out.drewN 1).blk)
                have HB5 := Lib.hid (hk5.below (below_drewN HB.out 1) (Nat.le_refl _) (Nat.le_refl _) s4)
                clear hrow5 hg5 hk5 HE HG HW HB HW5 HTK HWT HROW
                go_wp2
                go_roundw
                case rel => exact ⟨k + 1, _, by go_num, by omega, HE5.out, HG5.out, HW6.out, HB5.out, fun j hj => by rw [upE_ne _ _ (by omega)]; exact HQ.out j (by omega)⟩
                case measure => simp [intOf]; omega
              · go_wp2
                go_ret
                exact ⟨rfl, HB.out⟩
end Go.Proofs.Ytkiiofaemladcaa
