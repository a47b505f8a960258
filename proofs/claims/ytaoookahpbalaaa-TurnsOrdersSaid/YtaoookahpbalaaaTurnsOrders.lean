/-
  TurnsOrders: its walk.
-/
import Derived.Test.YtaoookahpbalaaaROrd
import Derived.Deep.RegionHeld3
import Derived.WalkSpells
namespace Go.Proofs.Ytaoookahpbalaaa
open Go.ChangeShapes Go.WideShapes Go.ChangeAt Go.RowKit Go.Deep Plain
set_option linter.unusedVariables false
set_option maxRecDepth 100000

def dV (x : Int × Int × Int) : List Value := [.int .i64 x.1, .int .i64 x.2.1, .int .u64 x.2.2]
def dsV (ds : List (Int × Int × Int)) : List Value := ds.flatMap dV
theorem dsV_at (ds : List (Int × Int × Int)) : ∀ i, i < ds.length → (dsV ds)[i * 3]? = some (.int .i64 (ds.getD i default).1) ∧ (dsV ds)[i * 3 + 1]? = some (.int .i64 (ds.getD i default).2.1) ∧ (dsV ds)[i * 3 + 2]? = some (.int .u64 (ds.getD i default).2.2) := by
  induction ds with
  | nil => intro i h; simp at h
  | cons o os ih =>
    intro i hi
    cases i with
    | zero => simp [dsV, dV]
    | succ i =>
      have := ih i (by simpa using hi)
      have e : ∀ j, (dsV (o :: os))[(i + 1) * 3 + j]? = (dsV os)[i * 3 + j]? := by
        intro j
        have e1 : (i + 1) * 3 + j = (i * 3 + j) + 3 := by omega
        rw [e1]
        show (dV o ++ dsV os)[i * 3 + j + 3]? = _
        rw [List.getElem?_append_right (by simp [dV])]
        simp [dV]
      have e0 := e 0
      simp only [Nat.add_zero] at e0
      rw [e0, e 1, e 2]
      simpa using this
theorem dsV_snoc (ds : List (Int × Int × Int)) (x : Int × Int × Int) : dsV (ds ++ [x]) = dsV ds ++ dV x := by unfold dsV; simp
theorem RdD.of_own {w : World} {base n c : Nat} {A : Option Addr} {ds : List (Int × Int × Int)} (h : w.ownsRow base 49 3 (.slice A n c) n (dsV ds)) (hn : ds.length = n) : RdD w A ds := fun hp => by
  rcases h.2 with ⟨_, h0⟩ | ⟨g, cap, cur, e, hg, hh, hnc, _, hcs, ht⟩
  · omega
  · injection e with e1 e2 e3
    subst e1
    refine ⟨g, 0, rfl, (Array.getElem?_eq_some_iff.1 hh).1, fun i hi => ?_⟩
    obtain ⟨h0, h1, h2⟩ := dsV_at ds i hi
    have e : ∀ j, j < 3 → w.cell? ⟨g, 0 + i * 3 + j, none⟩ = (dsV ds)[i * 3 + j]? := by
      intro j hj
      rw [Nat.zero_add, cell_of_row w g _ cur _ _ hh, ← ht, List.getElem?_take_of_lt (by omega), Array.getElem?_toList]
    have e0 := e 0 (by omega)
    simp only [Nat.add_zero] at e0
    rw [e0, e 1 (by omega), e 2 (by omega)]
    exact ⟨h0, h1, h2⟩
theorem own_cap {w : World} {base n c size : Nat} {e : TypeId} {A : Option Addr} {xs : List Value} (h : w.ownsRow base e size (.slice A n c) n xs) : n ≤ c := by
  rcases h.2 with ⟨e, h0⟩ | ⟨g, cap, cur, e, _, _, hnc, _⟩
  · omega
  · injection e with e1 e2 e3; omega

/-- append of one Done onto a row of one's own -/
theorem wpList_dn {w w0 : World} {base n : Nat} {A : Option Addr} {c : Nat} {ds : List (Int × Int × Int)} {ops : Array Oper} {rest : List Oper} {o : Oper} {a : Act} {Q : Exit → Act → World → Prop} (hgd : o.guard = none) (sx xx : Operand)
    (ho : o.op = .call { callee := .builtin .append, args := #[sx, xx], argTypes := #[46, 46] })
    (hs : a.eval sx = .slice A n c) (hP : w.ownsRow base 49 3 (.slice A n c) n (dsV ds)) (B : Below base w0 w) (hbase : base ≤ w.heap.size) (x : Int × Int × Int) (hn : n ≤ 1000000)
    (H : Nat) (hx : a.eval xx = .slice (some ⟨H, 0, none⟩) 1 1) (hH : w.heap.size = H)
    (h : ∀ A' c' w', w'.ownsRow base 49 3 (.slice A' (n + 1) c') (n + 1) (dsV (ds ++ [x])) → Below base w0 w' → wpList Try.prog ops Q rest (a.put o.dst (.slice A' (n + 1) c')) w') :
    wpList Try.prog ops Q (o :: rest) a (w.alloc (.cells #[.int .i64 x.1, .int .i64 x.2.1, .int .u64 x.2.2] 49)) := by
  obtain ⟨i, hi, hz, hsz, hb⟩ := info_parts infoD
  have hk1 := (Keep.refl [] w).alloc (.cells #[.int .i64 x.1, .int .i64 x.2.1, .int .u64 x.2.2] 49)
  have hP1 := ownsRow_keep hP hk1 (fun y hy => absurd hy (by simp))
  have hbk := Blk.new w 49 #[.int .i64 x.1, .int .i64 x.2.1, .int .u64 x.2.2]
  rw [hH] at hbk
  rw [dsV_snoc] at h
  refine wpList_append_lies (P := Try.prog) (w := w.alloc (.cells #[.int .i64 x.1, .int .i64 x.2.1, .int .u64 x.2.2] 49)) hgd sx xx 46 ho base 49 i _ 3 24 Try.underlying46 hi hz hsz hb rfl (by omega) _ n _ hs hP1 ⟨H, 0, none⟩ 1 1 [.int .i64 x.1, .int .i64 x.2.1, .int .u64 x.2.2] hx rfl ?_ ?_ (by omega) (by unfold maxLen; omega) (by omega) (by simp; omega) _ rfl ?_
  · intro j u hu
    rw [addr_add, Nat.zero_add, hbk.cell]
    simpa using hu
  · intro u hu
    simp at hu
    rcases hu with rfl | rfl | rfl <;> rfl
  · intro g cap w' how hg hgo hlt
    exact h _ _ _ how ((B.alloc hbase (.cells #[.int .i64 x.1, .int .i64 x.2.1, .int .u64 x.2.2] 49)).grown hg (by simp; omega) (fun k hk => by have := hP1.lt k hk; omega))

set_option maxHeartbeats 4000000 in
theorem turnsOrders_walk (A : Option Addr) (n0 c : Nat) (es : List (Int × Int × Int)) (wk : Int) (w : World) (hl0 : es.length = n0) (hnc : n0 ≤ c) (hm : c ≤ maxLen) (hR0 : RdD w A es) :
    Calls Try.prog 7 #[.slice A n0 c, .int .i64 wk] w fun e w' => e = .returned (.bool true) ∧ Below w.heap.size w w' := by
  unfold maxLen at hm
  have HL0 := Lib.hid hl0
  have HR0 := Lib.hid hR0
  clear hl0 hR0
  obtain ⟨nw, hnw⟩ : ∃ nw : Nat, (nw : Int) = max 0 (min wk 64) := ⟨(max 0 (min wk 64)).toNat, by omega⟩
  have HNW := Lib.hid hnw
  have hn64 : nw ≤ 64 := by omega
  clear hnw
  obtain ⟨iD, hiD, hzD, hsD, hbD⟩ := info_parts infoD
  go_enter Try.func7, Try.ntmps7
  go_upto_region 1 with fail
  go_cut [0] (fun s0 wx => ∃ (nl : Nat) (ds : List (Int × Int × Int)), s0 = .slice A nl c ∧ nl ≤ 60 ∧ nl ≤ c ∧ ds.length = nl ∧ RdD w A ds ∧ w = wx)
  case first =>
    by_cases h60 : n0 ≤ 60
    · have h61 : (n0 : Int) ≤ 60 := by omega
      go_wp2
      go_meet
      exact ⟨n0, es, rfl, h60, hnc, HL0.out, HR0.out, rfl⟩
    · have h61 : (60 : Int) < (n0 : Int) := by omega
      go_wp2
      go_meet
      refine ⟨60, es.take 60, rfl, by omega, by omega, by rw [List.length_take, HL0.out]; omega, fun hp => ?_, rfl⟩
      obtain ⟨b, off, e, hb, hc⟩ := HR0.out (by rw [HL0.out]; omega)
      refine ⟨b, off, e, hb, fun i hi => ?_⟩
      have hi' : i < 60 := by rw [List.length_take] at hi; omega
      have := hc i (by rw [HL0.out]; omega)
      have e : (es.take 60).getD i default = es.getD i default := by simp [List.getD, hi']
      rw [e]; exact this
  case rest =>
    obtain ⟨nl, ds, rfl, hnl, hnlc, hl, hR, rfl⟩ := hcut
    have HL := Lib.hid hl
    have HR := Lib.hid hR
    clear hl hR HL0 HR0
    go_wp2
    go_loopw [5, 6] (fun s5 s6 wr => ∃ (k c' : Nat) (A' : Option Addr), s5 = .slice A' k c' ∧ s6 = .int .i64 k ∧ k ≤ nl ∧ wr.ownsRow w.heap.size 49 3 (.slice A' k c') k (dsV (ds.take k)) ∧ Below w.heap.size w wr) (fun _ i _ => nl - (intOf i).toNat)
    case atStart => exact ⟨0, 0, none, rfl, rfl, by omega, World.ownsRow_nil _ _ _ _, Below.refl _ _⟩
    case round =>
      obtain ⟨k, c', A', rfl, rfl, hk, how, hB⟩ := hrel
      have HO := Lib.hid how
      have HB := Lib.hid hB
      have hsz := hB.size
      clear how hB
      by_cases hlt : k < nl
      · obtain ⟨b, off, rfl, hbl, hcell⟩ := HR.out (by rw [HL.out]; omega)
        obtain ⟨q0, q1, q2⟩ := hcell k (by rw [HL.out]; exact hlt)
        have p0 := (HB.out.cell (p := ⟨b, off + k * 3, none⟩) hbl).trans q0
        have p1 := (HB.out.cell (p := ⟨b, off + k * 3 + 1, none⟩) hbl).trans q1
        have p2 := (HB.out.cell (p := ⟨b, off + k * 3 + 2, none⟩) hbl).trans q2
        have HT := Lib.hid (take_oneD ds k (by rw [HL.out]; exact hlt))
        clear hcell q0 q1 q2
        generalize ds.getD k default = x at *
        have j0 : (k : Int) < (nl : Int) := by omega
        have hob : (Value.slice A' k c').ownBlock ≠ some b := by
          intro e
          have := HO.out.lt b e
          omega
        have hl0 : b < wr.heap.size := by omega
        have HOB := Lib.hid hob
        obtain ⟨x0, x1, x2⟩ := x
        simp only at p0 p1 p2
        clear hob
        go_upto_region 6 with fail
        go_region_held3 (fun w' => w'.cell? ⟨b, off + k * 3, none⟩ = some (.int .i64 x0) ∧ w'.cell? ⟨b, off + k * 3 + 1, none⟩ = some (.int .i64 x1) ∧ w'.cell? ⟨b, off + k * 3 + 2, none⟩ = some (.int .u64 x2))
          (first
            | go_keep
            | (go_split_ands
               refine ⟨?_, ?_, ?_⟩
               · (rw [hgrow.cell_far _ (by simp; omega) (Ne.symm HOB.out)]; assumption)
               · (rw [hgrow.cell_far _ (by simp; omega) (Ne.symm HOB.out)]; assumption)
               · (rw [hgrow.cell_far _ (by simp; omega) (Ne.symm HOB.out)]; assumption)))
          ((refine step_append_lies _ (by rfl) _ _ _ (by rfl) w.heap.size 49 iD _ 3 24 Try.underlying46 hiD hzD hsD hbD rfl (by omega) (.slice A' k c') k (dsV (ds.take k)) (by rfl) ((HO.out.alloc _).drew)
                ⟨wr.heap.size, 0, none⟩ 1 1 [.int .i64 x0, .int .i64 x1, .int .u64 x2] (by rfl) (by rfl) (World.news_of_block (cs := #[.int .i64 x0, .int .i64 x1, .int .u64 x2]) (t := 49) (fr := (0, 0)) (heap_alloc_new wr _)) (by simp [Value.oneCell'])
                (by omega) (by unfold maxLen; omega) (by omega) (by simp; omega) (wr.heap.size + 1) (by simp) ?_; intro gg cap w1 hown1 hgrow hat hlt1))
        have HO2 := Lib.hid (show w1.ownsRow w.heap.size 49 3 (.slice (some ⟨gg, 0, none⟩) (k + 1) cap) (k + 1) (dsV (ds.take (k + 1))) by rw [HT.out, dsV_snoc]; exact hown1)
        have HB2 := Lib.hid (show Below w.heap.size w w1 from ((HB.out.alloc hsz (.cells #[.int .i64 x0, .int .i64 x1, .int .u64 x2] 49)).drew).grown hgrow (by simp; omega) (fun j hj => by have := HO.out.lt j hj; omega))
        clear hown1 hgrow hat
        go_wp2
        go_roundw
        case rel => exact ⟨k + 1, cap, some ⟨gg, 0, none⟩, rfl, by go_num, by omega, HO2.out, HB2.out⟩
        case measure => simp [intOf]; omega
      · obtain rfl : k = nl := by omega
        have HOW := Lib.hid (show wr.ownsRow w.heap.size 49 3 (.slice A' k c') k (dsV ds) by have := HO.out; rwa [List.take_of_length_le (by rw [HL.out]; omega)] at this)
        have hcap := own_cap HO.out
        clear HO
        go_wp2_with fail
        refine (orders_any A' k c' ds wk wr HL.out (by omega) hcap (RdD.of_own HOW.out HL.out) nw HNW.out).mono ?_
        rintro e w1 ⟨g1, zs, rfl, hrow, hzl, hzs, hb1⟩
        have HRW := Lib.hid hrow
        have HZL := Lib.hid hzl
        have HZS := Lib.hid hzs
        have HB1 := Lib.hid (bthen HB.out hb1)
        clear hrow hzl hzs hb1
        go_wp2_with fail
        refine (rorders_any A k c ds wk w1 HL.out (by omega) (by omega) (HR.out.below HB1.out (Nat.le_refl _)) nw HNW.out).mono ?_
        rintro e w2 ⟨A2, c2, rfl, how2, hb2⟩
        have HRW2 := Lib.hid (HRW.out.below hb2)
        have HO2 := Lib.hid how2
        have HB2 := Lib.hid (bthen HB1.out hb2)
        clear how2 hb2 HRW HB1
        go_wp2_with fail
        refine (goes_any _).mono ?_
        rintro e w3 ⟨rfl, hb3⟩
        have HRW3 := Lib.hid (HRW2.out.below hb3)
        have HO3 := Lib.hid (ownsRow_keep HO2.out (bs := []) (Keep.of_below hb3) (fun x hx => absurd hx (by simp)))
        have HB3 := Lib.hid (bthen HB2.out hb3)
        clear hb3 HRW2 HO2 HB2
        go_wp2
        go_loopw [9] (fun s9 wx => ∃ (q z : Nat), s9 = .int .i64 q ∧ q ≤ nw ∧ wx = w3.drewN z) (fun i _ => nw - (intOf i).toNat)
        case atStart => exact ⟨0, 0, rfl, by omega, rfl⟩
        case round =>
          obtain ⟨q, z, rfl, hq, rfl⟩ := hrel
          by_cases hqn : q < nw
          · have j0 : (q : Int) < (nw : Int) := by omega
            have c0 := HRW3.out.at (i := q) (by rw [HZL.out]; exact hqn)
            rw [HZS.out q hqn, oFold_rc nw q hqn] at c0
            obtain ⟨g2, hA2, hc2⟩ : ∃ g2, A2 = some ⟨g2, 0, none⟩ ∧ w3.cell? ⟨g2, q, none⟩ = some (.int .i64 (rc (q : Int) ds 0)) := by
              rcases HO3.out.2 with ⟨_, h0⟩ | ⟨g, cap, cur, e, hg, hh, hnc2, _, hcs, ht⟩
              · omega
              · injection e with e1 e2 e3
                refine ⟨g, e1, ?_⟩
                rw [cell_of_row w3 g _ cur _ _ hh, ← Array.getElem?_toList, ← List.getElem?_take_of_lt (show q < nw * 1 by omega), ht]
                simp [rcV, hqn]
            subst hA2
            go_upto_region 13 with fail
            go_quiet (fail)
            go_wp2
            go_roundw
            case rel => exact ⟨q + 1, _, by go_num, by omega, rfl⟩
            case measure => simp [intOf]; omega
          · obtain rfl : q = nw := by omega
            go_wp2
            go_ret
            exact ⟨rfl, below_drewN HB3.out z⟩

def doneK : List FK := [.num .i64, .num .i64, .num .u64]
theorem open_dones {H : Type} {enc : TypeId × Value → H} {W : World} {a : Option Addr} {len cap : Nat} {d : DataW H} {p : List MemPlace} (h : DataW.Trod enc Try.prog W 0 (fun _ => true) true 45 (.slice a len cap) d p) :
    ∃ ds : List (Int × Int × Int), ds.length = len ∧ len ≤ cap ∧ cap ≤ maxLen ∧ RdD W a ds := by
  obtain ⟨h1, h2, V, h3⟩ := open_structs doneK Try.underlying45 Try.underlying48 (by kernel_rfl) rfl (by kernel_rfl) (by decide) (fun j f hj => by
    match j, hj with
    | 0, hj => injection hj with hj; subst hj; exact ⟨_, rfl, Try.underlying3⟩
    | 1, hj => injection hj with hj; subst hj; exact ⟨_, rfl, Try.underlying3⟩
    | 2, hj => injection hj with hj; subst hj; exact ⟨_, rfl, Try.underlying26⟩
    | n + 3, hj => simp at hj) h
  refine ⟨(List.range len).map fun i => (intOf (V i 0), intOf (V i 1), intOf (V i 2)), by simp, h1, h2, fun hp => ?_⟩
  have hp' : 0 < len := by simpa using hp
  obtain ⟨b, off, e, hb, hc⟩ := h3 hp'
  refine ⟨b, off, e, hb, fun i hi => ?_⟩
  have hi' : i < len := by simpa using hi
  obtain ⟨q0, x0, e0, _⟩ := hc i hi' 0 _ rfl
  obtain ⟨q1, x1, e1, _⟩ := hc i hi' 1 _ rfl
  obtain ⟨q2, x2, e2, _⟩ := hc i hi' 2 _ rfl
  have eg : ((List.range len).map fun i => (intOf (V i 0), intOf (V i 1), intOf (V i 2))).getD i default = (intOf (V i 0), intOf (V i 1), intOf (V i 2)) := by simp [List.getD, hi']
  rw [eg, e0, e1, e2]
  rw [e0] at q0
  rw [e1] at q1
  rw [e2] at q2
  simp only [intOf]
  refine ⟨q0, ?_, ?_⟩
  · rw [Nat.add_assoc]; exact q1
  · rw [Nat.add_assoc]; exact q2
end Go.Proofs.Ytaoookahpbalaaa
