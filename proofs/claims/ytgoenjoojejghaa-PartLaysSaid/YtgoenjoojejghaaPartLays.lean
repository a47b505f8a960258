/-
  PartLays: its walk.
-/
import Derived.Test.YtgoenjoojejghaaAllOk
import Derived.Test.YtgoenjoojejghaaSentH
import Derived.Test.YtgoenjoojejghaaPLay
import Derived.Test.YtgoenjoojejghaaPartBits
import Derived.Test.YtgoenjoojejghaaRGet
import Derived.Test.YtgoenjoojejghaaPartRaw
import Derived.Test.YtgoenjoojejghaaRegS
namespace Go.Proofs.Ytgoenjoojejghaa
open Go.RowKit Plain
set_option linter.unusedVariables false
set_option linter.unusedSimpArgs false
set_option maxRecDepth 100000

/-- a Sent that lies there, the bytes that were taken from it, and what was there -/
structure SL (w0 : World) (g : Nat) (what s d f t fl : Int) (A : Option Addr) (n c : Nat) (B : Option Addr) (u c3 : Nat) (L : List Int) (W : World) : Prop where
  b1 : Blk W g 26 #[.int .i64 what, .int .u32 s, .int .u32 d, .int .u16 f, .int .u16 t, .int .i64 fl, .slice A n c]
  own : Own W w0.heap.size B u c3 L
  bel : Below w0.heap.size w0 W
theorem SL.drew {w0 : World} {g : Nat} {what s d f t fl : Int} {A : Option Addr} {n c : Nat} {B : Option Addr} {u c3 : Nat} {L : List Int} {W : World} (h : SL w0 g what s d f t fl A n c B u c3 L W) : SL w0 g what s d f t fl A n c B u c3 L W.drew := ⟨h.b1, h.own.drewN 1, h.bel.drew⟩
theorem SL.below {w0 : World} {g : Nat} {what s d f t fl : Int} {A : Option Addr} {n c : Nat} {B : Option Addr} {u c3 : Nat} {L : List Int} {W W' : World} (h : SL w0 g what s d f t fl A n c B u c3 L W) (hb : Below W.heap.size W W') : SL w0 g what s d f t fl A n c B u c3 L W' := ⟨h.b1.below hb, h.own.below hb, bthen h.bel hb⟩

set_option maxHeartbeats 16000000 in
theorem partLays_walk (x : Sn) (w : World) (ok : x.ok w) :
    Calls Try.prog 3 #[x.val] w fun e w' => e = .returned (.bool true) ∧ Below w.heap.size w w' := by
  obtain ⟨what, s, d, f, t, fl, A, n, c, ys⟩ := x
  have HOk := Lib.hid ok
  obtain ⟨s0, s1, d0, d1, f0, f1, t0, t1, hn, hnc, hcm, hR⟩ := ok
  simp only at s0 s1 d0 d1 f0 f1 t0 t1 hn hnc hcm hR
  rw [show (Sn.mk what s d f t fl A n c ys).val = .agg #[.int .i64 what, .int .u32 s, .int .u32 d, .int .u16 f, .int .u16 t, .int .i64 fl, .slice A n c] from rfl]
  have HR := Lib.hid hR
  have Hn := Lib.hid hn
  clear hR hn
  obtain ⟨u, hu⟩ : ∃ u, u = min n 1405 := ⟨_, rfl⟩
  have hu1 : u ≤ n := by omega
  have hu2 : u ≤ 1405 := by omega
  have Hl := Lib.hid (show (ys.take 1405).length = u by rw [List.length_take, Hn.out, hu]; omega)
  have HU := Lib.hid hu
  clear hu
  obtain ⟨L, hL⟩ : ∃ L, L = ys.take 1405 := ⟨_, rfl⟩
  have HL := Lib.hid hL
  have HLl := Lib.hid (show L.length = u by rw [hL]; exact Hl.out)
  clear hL
  go_enter Try.func3, Try.ntmps3
  go_upto_region 1 with fail
  have HB1 := Lib.hid (ball w (.cells #[.int .i64 what, .int .u32 s, .int .u32 d, .int .u16 f, .int .u16 t, .int .i64 fl, .slice A n c] 26))
  have HK1 := Lib.hid (Blk.new w 26 #[.int .i64 what, .int .u32 s, .int .u32 d, .int .u16 f, .int .u16 t, .int .i64 fl, .slice A n c])
  generalize w.alloc (.cells #[.int .i64 what, .int .u32 s, .int .u32 d, .int .u16 f, .int .u16 t, .int .i64 fl, .slice A n c] 26) = w1 at *
  obtain ⟨g, hg⟩ : ∃ g, g = w.heap.size := ⟨_, rfl⟩
  rw [← hg] at HK1
  rw [← hg]
  clear hg
  have hs1 := HB1.out.size
  have k6 : w1.cell? ⟨g, 6, none⟩ = some (.slice A n c) := HK1.out.cell 6
  have k6a : (w1.alloc (.cells #[] 5)).cell? ⟨g, 6, none⟩ = some (.slice A n c) := (HK1.out.alloc _).cell 6
  go_cut [3] (fun s3 wx => ∃ B c3, s3 = .slice B u c3 ∧ SL w g what s d f t fl A n c B u c3 L wx)
  case first => as_aux_lemma =>
    have huc : u ≤ c := by omega
    have HR1 := Lib.hid (((HR.out.take 1405).below HB1.out).alloc (.cells #[] 5))
    have HE := Lib.hid (show (if n ≤ 1405 then (n : Int) else 1405) = (u : Int) by have := HU.out; split <;> omega)
    by_cases h : n ≤ 1405
    · have e : u = n := by have := HU.out; omega
      have i1 : (n : Int) ≤ (c : Int) := by omega
      have h' : (n : Int) ≤ 1405 := by omega
      have Hl2 := Lib.hid (show (ys.take 1405).length = n by rw [Hl.out, e])
      have HEe := Lib.hid e
      clear e
      go_wp2_with (at_builtin; refine wpList_app rfl (.tmp 12) (.tmp 19) rfl rfl (Own.empty w1 hs1) (ys.take 1405) rfl HR1.out Hl2.out (by omega) (by simp; omega) ?_)
      intro A3 c3 w3 ho hg hA
      have hb := below_app (bthen HB1.out (ball w1 _)) hg (Own.empty w1 hs1) (Nat.le_refl _) (by simp; omega)
      have HK3 : Blk w3 g 26 #[.int .i64 what, .int .u32 s, .int .u32 d, .int .u16 f, .int .u16 t, .int .i64 fl, .slice A n c] := (HK1.out.alloc _).grown hg (Nat.ne_of_lt HK1.out.lt)
      clear hg hA
      go_wp2
      go_meet
      refine ⟨A3, c3, by rw [HEe.out], HK3, ?_, hb⟩
      rw [HEe.out, HL.out]; exact ho
    · have e : u = 1405 := by have := HU.out; omega
      have i1 : (1405 : Int) ≤ (c : Int) := by omega
      have i2 : 1405 ≤ c := by omega
      have h' : (1405 : Int) < (n : Int) := by omega
      have Hl2 := Lib.hid (show (ys.take 1405).length = 1405 by rw [Hl.out, e])
      have HEe := Lib.hid e
      clear e
      go_wp2_with (at_builtin; refine wpList_app rfl (.tmp 12) (.tmp 19) rfl rfl (Own.empty w1 hs1) (ys.take 1405) rfl HR1.out Hl2.out (by omega) (by simp; omega) ?_)
      intro A3 c3 w3 ho hg hA
      have hb := below_app (bthen HB1.out (ball w1 _)) hg (Own.empty w1 hs1) (Nat.le_refl _) (by simp; omega)
      have HK3 : Blk w3 g 26 #[.int .i64 what, .int .u32 s, .int .u32 d, .int .u16 f, .int .u16 t, .int .i64 fl, .slice A n c] := (HK1.out.alloc _).grown hg (Nat.ne_of_lt HK1.out.lt)
      clear hg hA
      go_wp2
      go_meet
      refine ⟨A3, c3, by rw [HEe.out], HK3, ?_, hb⟩
      rw [HEe.out, HL.out]; exact ho
  case rest =>
  obtain ⟨B, c3, rfl, hS⟩ := hcut
  have huc := hS.own.cap
  have HS := Lib.hid hS
  have Hlu := HLl
  have hcv := run_str wc B u c3 L Hlu.out hS.own.rd
  clear hS k6 k6a HB1 HK1 hs1
  go_upto_region 3 with fail
  clear hcv
  obtain ⟨U1, hU1⟩ : ∃ U, U = udL s d f t (L.take 1400) := ⟨_, rfl⟩
  obtain ⟨U2, hU2⟩ : ∃ U, U = tcL s d f t (fl % 256) (L.take 1400) := ⟨_, rfl⟩
  have HU1 := Lib.hid hU1
  have HU2 := Lib.hid hU2
  clear hU1 hU2
  go_cut [74] (fun s74 wx => s74 = .bool false ∧ SL w g what s d f t fl A n c B u c3 L wx)
  case first => as_aux_lemma =>
    refine wp_region_held_drew (S := SL w g what s d f t fl A n c B u c3 L) (by kernel_rfl) HS.out.drew (fun hHeld => ?_)
    have qa1 : ∀ W, (SL w g what s d f t fl A n c B u c3 L) W → W.cell? ⟨g, 1, none⟩ = some (.int .u32 s) := fun W h => (h).b1.cell 1
    have qa2 : ∀ W, (SL w g what s d f t fl A n c B u c3 L) W → W.cell? ⟨g, 2, none⟩ = some (.int .u32 d) := fun W h => (h).b1.cell 2
    have qa3 : ∀ W, (SL w g what s d f t fl A n c B u c3 L) W → W.cell? ⟨g, 3, none⟩ = some (.int .u16 f) := fun W h => (h).b1.cell 3
    have qa4 : ∀ W, (SL w g what s d f t fl A n c B u c3 L) W → W.cell? ⟨g, 4, none⟩ = some (.int .u16 t) := fun W h => (h).b1.cell 4
    refine wpAnyH_take (i := 0) (oi := ⟨some 23, _, _, _, _, _⟩) (v := ?tv1) rfl (by kernel_rfl) (by kernel_rfl) (by kernel_rfl) (fun _ _ _ h => h) (Or.inl ⟨by kernel_rfl, ?ty1⟩) (by assumption) ?tr1
    case ty1 => (intro w hSw; first | (go_simp; done) | (go_simp; with_reducible rfl))
    case' tr1 => try simp only [Act.put, List.setIfInBounds_toArray, List.set_cons_zero, List.set_cons_succ]
    refine wpAnyH_take (i := 1) (oi := ⟨some 24, _, _, _, _, _⟩) (v := ?tv2) rfl (by kernel_rfl) (by kernel_rfl) (by kernel_rfl) (fun _ _ _ h => h) (Or.inl ⟨by kernel_rfl, ?ty2⟩) (by assumption) ?tr2
    case ty2 => (intro w hSw; first | (go_simp; done) | (go_simp; with_reducible rfl))
    case' tr2 => try simp only [Act.put, List.setIfInBounds_toArray, List.set_cons_zero, List.set_cons_succ]
    refine wpAnyH_take (i := 2) (oi := ⟨some 25, _, _, _, _, _⟩) (v := ?tv3) rfl (by kernel_rfl) (by kernel_rfl) (by kernel_rfl) (fun _ _ _ h => h) (Or.inl ⟨by kernel_rfl, ?ty3⟩) (by assumption) ?tr3
    case ty3 => (intro w hSw; first | (go_simp; done) | (go_simp; with_reducible rfl))
    case' tr3 => try simp only [Act.put, List.setIfInBounds_toArray, List.set_cons_zero, List.set_cons_succ]
    refine wpAnyH_take (i := 3) (oi := ⟨some 26, _, _, _, _, _⟩) (v := ?tv4) rfl (by kernel_rfl) (by kernel_rfl) (by kernel_rfl) (fun _ _ _ h => h) (Or.inl ⟨by kernel_rfl, ?ty4⟩) (by assumption) ?tr4
    case ty4 => (intro w hSw; first | (go_simp; done) | (go_simp; with_reducible rfl))
    case' tr4 => try simp only [Act.put, List.setIfInBounds_toArray, List.set_cons_zero, List.set_cons_succ]
    refine wpAnyH_take (i := 4) (oi := ⟨some 27, _, _, _, _, _⟩) (v := ?tv5) rfl (by kernel_rfl) (by kernel_rfl) (by kernel_rfl) (fun _ _ _ h => h) (Or.inl ⟨by kernel_rfl, ?ty5⟩) (by assumption) ?tr5
    case ty5 => (intro w hSw; first | (go_simp; done) | (go_simp; with_reducible rfl))
    case' tr5 => try simp only [Act.put, List.setIfInBounds_toArray, List.set_cons_zero, List.set_cons_succ]
    refine wpAnyH_take (i := 5) (oi := ⟨some 28, _, _, _, _, _⟩) (v := ?tv6) rfl (by kernel_rfl) (by kernel_rfl) (by kernel_rfl) (fun _ _ _ h => h) (Or.inl ⟨by kernel_rfl, ?ty6⟩) (by assumption) ?tr6
    case ty6 => (intro w hSw; first | (go_simp; done) | (go_simp; with_reducible rfl))
    case' tr6 => try simp only [Act.put, List.setIfInBounds_toArray, List.set_cons_zero, List.set_cons_succ]
    refine wpAnyH_take (i := 6) (oi := ⟨some 29, _, _, _, _, _⟩) (v := ?tv7) rfl (by kernel_rfl) (by kernel_rfl) (by kernel_rfl) (fun _ _ _ h => h) (Or.inl ⟨by kernel_rfl, ?ty7⟩) (by assumption) ?tr7
    case ty7 => (intro w hSw; first | (go_simp; done) | (go_simp; with_reducible rfl))
    case' tr7 => try simp only [Act.put, List.setIfInBounds_toArray, List.set_cons_zero, List.set_cons_succ]
    refine wpAnyH_take (i := 7) (oi := ⟨some 30, _, _, _, _, _⟩) (v := ?tv8) rfl (by kernel_rfl) (by kernel_rfl) (by kernel_rfl) (fun _ _ _ h => h) (Or.inl ⟨by kernel_rfl, ?ty8⟩) (by assumption) ?tr8
    case ty8 => (intro w hSw; first | (go_simp; done) | (go_simp; with_reducible rfl))
    case' tr8 => try simp only [Act.put, List.setIfInBounds_toArray, List.set_cons_zero, List.set_cons_succ]
    refine wpAnyH_take (i := 8) (oi := ⟨some 31, _, _, _, _, _⟩) (v := ?tv9) rfl (by kernel_rfl) (by kernel_rfl) (by kernel_rfl) (fun _ _ _ h => h) (Or.inl ⟨by kernel_rfl, ?ty9⟩) (by assumption) ?tr9
    case ty9 => (intro w hSw; first | (go_simp; done) | (go_simp; with_reducible rfl))
    case' tr9 => try simp only [Act.put, List.setIfInBounds_toArray, List.set_cons_zero, List.set_cons_succ]
    refine wpAnyH_take (i := 11) (oi := ⟨some 34, _, _, _, _, _⟩) (v := ?tv10) rfl (by kernel_rfl) (by kernel_rfl) (by kernel_rfl) (fun _ _ _ h => h) (Or.inl ⟨by kernel_rfl, ?ty10⟩) (by assumption) ?tr10
    case ty10 => (intro w hSw; first | (go_simp; done) | (go_simp; with_reducible rfl))
    case' tr10 => try simp only [Act.put, List.setIfInBounds_toArray, List.set_cons_zero, List.set_cons_succ]
    refine wpAnyH_take (i := 12) (oi := ⟨some 35, _, _, _, _, _⟩) (v := ?tv11) rfl (by kernel_rfl) (by kernel_rfl) (by kernel_rfl) (fun _ _ _ h => h) (Or.inl ⟨by kernel_rfl, ?ty11⟩) (by assumption) ?tr11
    case ty11 => (intro w hSw; first | (go_simp; done) | (go_simp; with_reducible rfl))
    case' tr11 => try simp only [Act.put, List.setIfInBounds_toArray, List.set_cons_zero, List.set_cons_succ]
    refine wpAnyH_take (i := 13) (oi := ⟨some 36, _, _, _, _, _⟩) (v := ?tv12) rfl (by kernel_rfl) (by kernel_rfl) (by kernel_rfl) (fun _ _ _ h => h) (Or.inl ⟨by kernel_rfl, ?ty12⟩) (by assumption) ?tr12
    case ty12 => (intro w hSw; first | (go_simp; done) | (go_simp; with_reducible rfl))
    case' tr12 => try simp only [Act.put, List.setIfInBounds_toArray, List.set_cons_zero, List.set_cons_succ]
    refine wpAnyH_take (i := 14) (oi := ⟨some 37, _, _, _, _, _⟩) (v := ?tv13) rfl (by kernel_rfl) (by kernel_rfl) (by kernel_rfl) (fun _ _ _ h => h) (Or.inl ⟨by kernel_rfl, ?ty13⟩) (by assumption) ?tr13
    case ty13 => (intro w hSw; first | (go_simp; done) | (go_simp; with_reducible rfl))
    case' tr13 => try simp only [Act.put, List.setIfInBounds_toArray, List.set_cons_zero, List.set_cons_succ]
    refine wpAnyH_take (i := 15) (oi := ⟨some 38, _, _, _, _, _⟩) (v := ?tv14) rfl (by kernel_rfl) (by kernel_rfl) (by kernel_rfl) (fun _ _ _ h => h) (Or.inl ⟨by kernel_rfl, ?ty14⟩) (by assumption) ?tr14
    case ty14 => (intro w hSw; first | (go_simp; done) | (go_simp; with_reducible rfl))
    case' tr14 => try simp only [Act.put, List.setIfInBounds_toArray, List.set_cons_zero, List.set_cons_succ]
    refine wpAnyH_take (i := 16) (oi := ⟨some 39, _, _, _, _, _⟩) (v := ?tv15) rfl (by kernel_rfl) (by kernel_rfl) (by kernel_rfl) (fun _ _ _ h => h) (Or.inl ⟨by kernel_rfl, ?ty15⟩) (by assumption) ?tr15
    case ty15 => (intro w hSw; first | (go_simp; done) | (go_simp; with_reducible rfl))
    case' tr15 => try simp only [Act.put, List.setIfInBounds_toArray, List.set_cons_zero, List.set_cons_succ]
    refine wpAnyH_take (i := 17) (oi := ⟨some 40, _, _, _, _, _⟩) (v := ?tv16) rfl (by kernel_rfl) (by kernel_rfl) (by kernel_rfl) (fun _ _ _ h => h) (Or.inl ⟨by kernel_rfl, ?ty16⟩) (by assumption) ?tr16
    case ty16 => (intro w hSw; first | (go_simp; done) | (go_simp; with_reducible rfl))
    case' tr16 => try simp only [Act.put, List.setIfInBounds_toArray, List.set_cons_zero, List.set_cons_succ]
    refine wpAnyH_take (i := 18) (oi := ⟨some 41, _, _, _, _, _⟩) (v := ?tv17) rfl (by kernel_rfl) (by kernel_rfl) (by kernel_rfl) (fun _ _ _ h => h) (Or.inl ⟨by kernel_rfl, ?ty17⟩) (by assumption) ?tr17
    case ty17 => (intro w hSw; first | (go_simp; done) | (go_simp; with_reducible rfl))
    case' tr17 => try simp only [Act.put, List.setIfInBounds_toArray, List.set_cons_zero, List.set_cons_succ]
    refine wpAnyH_take (i := 19) (oi := ⟨some 42, _, _, _, _, _⟩) (v := ?tv18) rfl (by kernel_rfl) (by kernel_rfl) (by kernel_rfl) (fun _ _ _ h => h) (Or.inl ⟨by kernel_rfl, ?ty18⟩) (by assumption) ?tr18
    case ty18 => (intro w hSw; first | (go_simp; done) | (go_simp; with_reducible rfl))
    case' tr18 => try simp only [Act.put, List.setIfInBounds_toArray, List.set_cons_zero, List.set_cons_succ]
    clear qa1 qa2 qa3 qa4
    refine wpAnyH_ready (rs := [9]) (by kernel_rfl) (by simp) ?_
    refine AllReadyH.cons (o := ⟨some 32, _, _, _, _, _⟩) rfl (fun K hK => ?_) ?_
    · go_simp
      go_at_call 9
      refine (pudp_any s d f t B u c3 L _ Hlu.out huc (by omega) (hHeld).own.rd s0 s1 d0 d1 f0 f1 t0 t1).mono ?_
      rintro e w19 ⟨g19, m19, rfl, hm19, ho19, hb19⟩
      rw [← HU1.out] at ho19; clear hm19
      try dsimp only
      have hS19 : (SL w g what s d f t fl A n c B u c3 L) w19 := SL.below hHeld hb19
      refine hK.out _ _ hS19 (fun hHeld0 => ?_)
      clear hK K hHeld0 hHeld
      try simp only [Act.put, List.setIfInBounds_toArray, List.set_cons_zero, List.set_cons_succ]
      have hHeld : (SO (SL w g what s d f t fl A n c B u c3 L) (some ⟨g19, 0, none⟩) (8 + m19) (8 + m19) U1) w19 := ⟨hS19, ho19.mono (Nat.zero_le _)⟩
      clear hS19 ho19 hb19
      refine wpAnyH_mono (S' := SO (SL w g what s d f t fl A n c B u c3 L) (some ⟨g19, 0, none⟩) (8 + m19) (8 + m19) U1) (fun _ h => h.s) _ _ _ _ ?_
      have qs19 := SO.str (S := SL w g what s d f t fl A n c B u c3 L) (A := some ⟨g19, 0, none⟩) (n := 8 + m19) (c := 8 + m19) (zs := U1)
      refine wpAnyH_take (i := 10) (oi := ⟨some 33, _, _, _, _, _⟩) (v := ?tv20) rfl (by kernel_rfl) (by kernel_rfl) (by kernel_rfl) (fun _ _ _ h => h) (Or.inl ⟨by kernel_rfl, ?ty20⟩) (by assumption) ?tr20
      case ty20 => (intro w hSw; first | (go_simp; done) | (go_simp; with_reducible rfl))
      case' tr20 => try simp only [Act.put, List.setIfInBounds_toArray, List.set_cons_zero, List.set_cons_succ]
      clear qs19
      refine wpAnyH_ready (rs := [20]) (by kernel_rfl) (by simp) ?_
      refine AllReadyH.cons (o := ⟨some 43, _, _, _, _, _⟩) rfl (fun K hK => ?_) ?_
      · go_simp
        go_at_call 10
        refine (rudp_any s d f t B u c3 L _ Hlu.out huc (by omega) (hHeld.s).own.rd s0 s1 d0 d1 f0 f1 t0 t1).mono ?_
        rintro e w21 ⟨g21, m21, cc21, rfl, hm21, ho21, hb21⟩
        rw [← HU1.out] at ho21; clear hm21
        try dsimp only
        have hS21 : (SO (SL w g what s d f t fl A n c B u c3 L) (some ⟨g19, 0, none⟩) (8 + m19) (8 + m19) U1) w21 := ⟨SL.below hHeld.s hb21, hHeld.o.below hb21⟩
        refine hK.out _ _ hS21 (fun hHeld0 => ?_)
        clear hK K hHeld0 hHeld
        try simp only [Act.put, List.setIfInBounds_toArray, List.set_cons_zero, List.set_cons_succ]
        have hHeld : (SO (SO (SL w g what s d f t fl A n c B u c3 L) (some ⟨g19, 0, none⟩) (8 + m19) (8 + m19) U1) (some ⟨g21, 0, none⟩) (8 + m21) (cc21) U1) w21 := ⟨hS21, ho21.mono (Nat.zero_le _)⟩
        clear hS21 ho21 hb21
        refine wpAnyH_mono (S' := SO (SO (SL w g what s d f t fl A n c B u c3 L) (some ⟨g19, 0, none⟩) (8 + m19) (8 + m19) U1) (some ⟨g21, 0, none⟩) (8 + m21) (cc21) U1) (fun _ h => h.s) _ _ _ _ ?_
        have qs21 := SO.str (S := SO (SL w g what s d f t fl A n c B u c3 L) (some ⟨g19, 0, none⟩) (8 + m19) (8 + m19) U1) (A := some ⟨g21, 0, none⟩) (n := 8 + m21) (c := cc21) (zs := U1)
        refine wpAnyH_take (i := 21) (oi := ⟨some 44, _, _, _, _, _⟩) (v := ?tv22) rfl (by kernel_rfl) (by kernel_rfl) (by kernel_rfl) (fun _ _ _ h => h) (Or.inl ⟨by kernel_rfl, ?ty22⟩) (by assumption) ?tr22
        case ty22 => (intro w hSw; first | (go_simp; done) | (go_simp; with_reducible rfl))
        case' tr22 => try simp only [Act.put, List.setIfInBounds_toArray, List.set_cons_zero, List.set_cons_succ]
        clear qs21
        refine wpAnyH_take (i := 22) (oi := ⟨some 45, _, _, _, _, _⟩) (v := ?tv23) rfl (by kernel_rfl) (by kernel_rfl) (by kernel_rfl) (fun _ _ _ h => h) (Or.inl ⟨by kernel_rfl, ?ty23⟩) (by assumption) ?tr23
        case ty23 => (intro w hSw; first | (go_simp; done) | (go_simp; with_reducible rfl))
        case' tr23 => try simp only [Act.put, List.setIfInBounds_toArray, List.set_cons_zero, List.set_cons_succ]
        refine wpAnyH_take (i := 23) (oi := ⟨some 46, _, _, _, _, _⟩) (v := ?tv24) rfl (by kernel_rfl) (by kernel_rfl) (by kernel_rfl) (fun _ _ _ h => h) (Or.inl ⟨by kernel_rfl, ?ty24⟩) (by assumption) ?tr24
        case ty24 => (intro w hSw; first | (go_simp; done) | (go_simp; with_reducible rfl))
        case' tr24 => try simp only [Act.put, List.setIfInBounds_toArray, List.set_cons_zero, List.set_cons_succ]
        have qb1 : ∀ W, (SO (SO (SL w g what s d f t fl A n c B u c3 L) (some ⟨g19, 0, none⟩) (8 + m19) (8 + m19) U1) (some ⟨g21, 0, none⟩) (8 + m21) (cc21) U1) W → W.cell? ⟨g, 1, none⟩ = some (.int .u32 s) := fun W h => (h.s.s).b1.cell 1
        have qb2 : ∀ W, (SO (SO (SL w g what s d f t fl A n c B u c3 L) (some ⟨g19, 0, none⟩) (8 + m19) (8 + m19) U1) (some ⟨g21, 0, none⟩) (8 + m21) (cc21) U1) W → W.cell? ⟨g, 2, none⟩ = some (.int .u32 d) := fun W h => (h.s.s).b1.cell 2
        have qb3 : ∀ W, (SO (SO (SL w g what s d f t fl A n c B u c3 L) (some ⟨g19, 0, none⟩) (8 + m19) (8 + m19) U1) (some ⟨g21, 0, none⟩) (8 + m21) (cc21) U1) W → W.cell? ⟨g, 3, none⟩ = some (.int .u16 f) := fun W h => (h.s.s).b1.cell 3
        have qb4 : ∀ W, (SO (SO (SL w g what s d f t fl A n c B u c3 L) (some ⟨g19, 0, none⟩) (8 + m19) (8 + m19) U1) (some ⟨g21, 0, none⟩) (8 + m21) (cc21) U1) W → W.cell? ⟨g, 4, none⟩ = some (.int .u16 t) := fun W h => (h.s.s).b1.cell 4
        have qb5 : ∀ W, (SO (SO (SL w g what s d f t fl A n c B u c3 L) (some ⟨g19, 0, none⟩) (8 + m19) (8 + m19) U1) (some ⟨g21, 0, none⟩) (8 + m21) (cc21) U1) W → W.cell? ⟨g, 5, none⟩ = some (.int .i64 fl) := fun W h => (h.s.s).b1.cell 5
        refine wpAnyH_take (i := 24) (oi := ⟨some 47, _, _, _, _, _⟩) (v := ?tv25) rfl (by kernel_rfl) (by kernel_rfl) (by kernel_rfl) (fun _ _ _ h => h) (Or.inl ⟨by kernel_rfl, ?ty25⟩) (by assumption) ?tr25
        case ty25 => (intro w hSw; first | (go_simp; done) | (go_simp; with_reducible rfl))
        case' tr25 => try simp only [Act.put, List.setIfInBounds_toArray, List.set_cons_zero, List.set_cons_succ]
        refine wpAnyH_take (i := 25) (oi := ⟨some 48, _, _, _, _, _⟩) (v := ?tv26) rfl (by kernel_rfl) (by kernel_rfl) (by kernel_rfl) (fun _ _ _ h => h) (Or.inl ⟨by kernel_rfl, ?ty26⟩) (by assumption) ?tr26
        case ty26 => (intro w hSw; first | (go_simp; done) | (go_simp; with_reducible rfl))
        case' tr26 => try simp only [Act.put, List.setIfInBounds_toArray, List.set_cons_zero, List.set_cons_succ]
        refine wpAnyH_take (i := 26) (oi := ⟨some 49, _, _, _, _, _⟩) (v := ?tv27) rfl (by kernel_rfl) (by kernel_rfl) (by kernel_rfl) (fun _ _ _ h => h) (Or.inl ⟨by kernel_rfl, ?ty27⟩) (by assumption) ?tr27
        case ty27 => (intro w hSw; first | (go_simp; done) | (go_simp; with_reducible rfl))
        case' tr27 => try simp only [Act.put, List.setIfInBounds_toArray, List.set_cons_zero, List.set_cons_succ]
        refine wpAnyH_take (i := 27) (oi := ⟨some 50, _, _, _, _, _⟩) (v := ?tv28) rfl (by kernel_rfl) (by kernel_rfl) (by kernel_rfl) (fun _ _ _ h => h) (Or.inl ⟨by kernel_rfl, ?ty28⟩) (by assumption) ?tr28
        case ty28 => (intro w hSw; first | (go_simp; done) | (go_simp; with_reducible rfl))
        case' tr28 => try simp only [Act.put, List.setIfInBounds_toArray, List.set_cons_zero, List.set_cons_succ]
        refine wpAnyH_take (i := 28) (oi := ⟨some 51, _, _, _, _, _⟩) (v := ?tv29) rfl (by kernel_rfl) (by kernel_rfl) (by kernel_rfl) (fun _ _ _ h => h) (Or.inl ⟨by kernel_rfl, ?ty29⟩) (by assumption) ?tr29
        case ty29 => (intro w hSw; first | (go_simp; done) | (go_simp; with_reducible rfl))
        case' tr29 => try simp only [Act.put, List.setIfInBounds_toArray, List.set_cons_zero, List.set_cons_succ]
        refine wpAnyH_take (i := 29) (oi := ⟨some 52, _, _, _, _, _⟩) (v := ?tv30) rfl (by kernel_rfl) (by kernel_rfl) (by kernel_rfl) (fun _ _ _ h => h) (Or.inl ⟨by kernel_rfl, ?ty30⟩) (by assumption) ?tr30
        case ty30 => (intro w hSw; first | (go_simp; done) | (go_simp; with_reducible rfl))
        case' tr30 => try simp only [Act.put, List.setIfInBounds_toArray, List.set_cons_zero, List.set_cons_succ]
        refine wpAnyH_take (i := 30) (oi := ⟨some 53, _, _, _, _, _⟩) (v := ?tv31) rfl (by kernel_rfl) (by kernel_rfl) (by kernel_rfl) (fun _ _ _ h => h) (Or.inl ⟨by kernel_rfl, ?ty31⟩) (by assumption) ?tr31
        case ty31 => (intro w hSw; first | (go_simp; done) | (go_simp; with_reducible rfl))
        case' tr31 => try simp only [Act.put, List.setIfInBounds_toArray, List.set_cons_zero, List.set_cons_succ]
        refine wpAnyH_take (i := 31) (oi := ⟨some 54, _, _, _, _, _⟩) (v := ?tv32) rfl (by kernel_rfl) (by kernel_rfl) (by kernel_rfl) (fun _ _ _ h => h) (Or.inl ⟨by kernel_rfl, ?ty32⟩) (by assumption) ?tr32
        case ty32 => (intro w hSw; first | (go_simp; done) | (go_simp; with_reducible rfl))
        case' tr32 => try simp only [Act.put, List.setIfInBounds_toArray, List.set_cons_zero, List.set_cons_succ]
        refine wpAnyH_take (i := 32) (oi := ⟨some 55, _, _, _, _, _⟩) (v := ?tv33) rfl (by kernel_rfl) (by kernel_rfl) (by kernel_rfl) (fun _ _ _ h => h) (Or.inl ⟨by kernel_rfl, ?ty33⟩) (by assumption) ?tr33
        case ty33 => (intro w hSw; first | (go_simp; done) | (go_simp; with_reducible rfl))
        case' tr33 => try simp only [Act.put, List.setIfInBounds_toArray, List.set_cons_zero, List.set_cons_succ]
        refine wpAnyH_take (i := 33) (oi := ⟨some 56, _, _, _, _, _⟩) (v := ?tv34) rfl (by kernel_rfl) (by kernel_rfl) (by kernel_rfl) (fun _ _ _ h => h) (Or.inl ⟨by kernel_rfl, ?ty34⟩) (by assumption) ?tr34
        case ty34 => (intro w hSw; first | (go_simp; done) | (go_simp; with_reducible rfl))
        case' tr34 => try simp only [Act.put, List.setIfInBounds_toArray, List.set_cons_zero, List.set_cons_succ]
        refine wpAnyH_take (i := 34) (oi := ⟨some 57, _, _, _, _, _⟩) (v := ?tv35) rfl (by kernel_rfl) (by kernel_rfl) (by kernel_rfl) (fun _ _ _ h => h) (Or.inl ⟨by kernel_rfl, ?ty35⟩) (by assumption) ?tr35
        case ty35 => (intro w hSw; first | (go_simp; done) | (go_simp; with_reducible rfl))
        case' tr35 => try simp only [Act.put, List.setIfInBounds_toArray, List.set_cons_zero, List.set_cons_succ]
        refine wpAnyH_take (i := 37) (oi := ⟨some 60, _, _, _, _, _⟩) (v := ?tv36) rfl (by kernel_rfl) (by kernel_rfl) (by kernel_rfl) (fun _ _ _ h => h) (Or.inl ⟨by kernel_rfl, ?ty36⟩) (by assumption) ?tr36
        case ty36 => (intro w hSw; first | (go_simp; done) | (go_simp; with_reducible rfl))
        case' tr36 => try simp only [Act.put, List.setIfInBounds_toArray, List.set_cons_zero, List.set_cons_succ]
        refine wpAnyH_take (i := 38) (oi := ⟨some 61, _, _, _, _, _⟩) (v := ?tv37) rfl (by kernel_rfl) (by kernel_rfl) (by kernel_rfl) (fun _ _ _ h => h) (Or.inl ⟨by kernel_rfl, ?ty37⟩) (by assumption) ?tr37
        case ty37 => (intro w hSw; first | (go_simp; done) | (go_simp; with_reducible rfl))
        case' tr37 => try simp only [Act.put, List.setIfInBounds_toArray, List.set_cons_zero, List.set_cons_succ]
        refine wpAnyH_take (i := 39) (oi := ⟨some 62, _, _, _, _, _⟩) (v := ?tv38) rfl (by kernel_rfl) (by kernel_rfl) (by kernel_rfl) (fun _ _ _ h => h) (Or.inl ⟨by kernel_rfl, ?ty38⟩) (by assumption) ?tr38
        case ty38 => (intro w hSw; first | (go_simp; done) | (go_simp; with_reducible rfl))
        case' tr38 => try simp only [Act.put, List.setIfInBounds_toArray, List.set_cons_zero, List.set_cons_succ]
        refine wpAnyH_take (i := 40) (oi := ⟨some 63, _, _, _, _, _⟩) (v := ?tv39) rfl (by kernel_rfl) (by kernel_rfl) (by kernel_rfl) (fun _ _ _ h => h) (Or.inl ⟨by kernel_rfl, ?ty39⟩) (by assumption) ?tr39
        case ty39 => (intro w hSw; first | (go_simp; done) | (go_simp; with_reducible rfl))
        case' tr39 => try simp only [Act.put, List.setIfInBounds_toArray, List.set_cons_zero, List.set_cons_succ]
        refine wpAnyH_take (i := 41) (oi := ⟨some 64, _, _, _, _, _⟩) (v := ?tv40) rfl (by kernel_rfl) (by kernel_rfl) (by kernel_rfl) (fun _ _ _ h => h) (Or.inl ⟨by kernel_rfl, ?ty40⟩) (by assumption) ?tr40
        case ty40 => (intro w hSw; first | (go_simp; done) | (go_simp; with_reducible rfl))
        case' tr40 => try simp only [Act.put, List.setIfInBounds_toArray, List.set_cons_zero, List.set_cons_succ]
        refine wpAnyH_take (i := 42) (oi := ⟨some 65, _, _, _, _, _⟩) (v := ?tv41) rfl (by kernel_rfl) (by kernel_rfl) (by kernel_rfl) (fun _ _ _ h => h) (Or.inl ⟨by kernel_rfl, ?ty41⟩) (by assumption) ?tr41
        case ty41 => (intro w hSw; first | (go_simp; done) | (go_simp; with_reducible rfl))
        case' tr41 => try simp only [Act.put, List.setIfInBounds_toArray, List.set_cons_zero, List.set_cons_succ]
        refine wpAnyH_take (i := 43) (oi := ⟨some 66, _, _, _, _, _⟩) (v := ?tv42) rfl (by kernel_rfl) (by kernel_rfl) (by kernel_rfl) (fun _ _ _ h => h) (Or.inl ⟨by kernel_rfl, ?ty42⟩) (by assumption) ?tr42
        case ty42 => (intro w hSw; first | (go_simp; done) | (go_simp; with_reducible rfl))
        case' tr42 => try simp only [Act.put, List.setIfInBounds_toArray, List.set_cons_zero, List.set_cons_succ]
        refine wpAnyH_take (i := 44) (oi := ⟨some 67, _, _, _, _, _⟩) (v := ?tv43) rfl (by kernel_rfl) (by kernel_rfl) (by kernel_rfl) (fun _ _ _ h => h) (Or.inl ⟨by kernel_rfl, ?ty43⟩) (by assumption) ?tr43
        case ty43 => (intro w hSw; first | (go_simp; done) | (go_simp; with_reducible rfl))
        case' tr43 => try simp only [Act.put, List.setIfInBounds_toArray, List.set_cons_zero, List.set_cons_succ]
        refine wpAnyH_take (i := 45) (oi := ⟨some 68, _, _, _, _, _⟩) (v := ?tv44) rfl (by kernel_rfl) (by kernel_rfl) (by kernel_rfl) (fun _ _ _ h => h) (Or.inl ⟨by kernel_rfl, ?ty44⟩) (by assumption) ?tr44
        case ty44 => (intro w hSw; first | (go_simp; done) | (go_simp; with_reducible rfl))
        case' tr44 => try simp only [Act.put, List.setIfInBounds_toArray, List.set_cons_zero, List.set_cons_succ]
        refine wpAnyH_take (i := 46) (oi := ⟨some 69, _, _, _, _, _⟩) (v := ?tv45) rfl (by kernel_rfl) (by kernel_rfl) (by kernel_rfl) (fun _ _ _ h => h) (Or.inl ⟨by kernel_rfl, ?ty45⟩) (by assumption) ?tr45
        case ty45 => (intro w hSw; first | (go_simp; done) | (go_simp; with_reducible rfl))
        case' tr45 => try simp only [Act.put, List.setIfInBounds_toArray, List.set_cons_zero, List.set_cons_succ]
        refine wpAnyH_take (i := 47) (oi := ⟨some 70, _, _, _, _, _⟩) (v := ?tv46) rfl (by kernel_rfl) (by kernel_rfl) (by kernel_rfl) (fun _ _ _ h => h) (Or.inl ⟨by kernel_rfl, ?ty46⟩) (by assumption) ?tr46
        case ty46 => (intro w hSw; first | (go_simp; done) | (go_simp; with_reducible rfl))
        case' tr46 => try simp only [Act.put, List.setIfInBounds_toArray, List.set_cons_zero, List.set_cons_succ]
        clear qb1 qb2 qb3 qb4 qb5
        refine wpAnyH_ready (rs := [35]) (by kernel_rfl) (by simp) ?_
        refine AllReadyH.cons (o := ⟨some 58, _, _, _, _, _⟩) rfl (fun K hK => ?_) ?_
        · go_simp
          go_at_call 11
          refine (ptcp_any s d f t fl B u c3 L _ Hlu.out huc (by omega) (hHeld.s.s).own.rd s0 s1 d0 d1 f0 f1 t0 t1).mono ?_
          rintro e w47 ⟨g47, m47, rfl, hm47, ho47, hb47⟩
          rw [← HU2.out] at ho47; clear hm47
          try dsimp only
          have hS47 : (SO (SO (SL w g what s d f t fl A n c B u c3 L) (some ⟨g19, 0, none⟩) (8 + m19) (8 + m19) U1) (some ⟨g21, 0, none⟩) (8 + m21) (cc21) U1) w47 := ⟨⟨SL.below hHeld.s.s hb47, hHeld.s.o.below hb47⟩, hHeld.o.below hb47⟩
          refine hK.out _ _ hS47 (fun hHeld0 => ?_)
          clear hK K hHeld0 hHeld
          try simp only [Act.put, List.setIfInBounds_toArray, List.set_cons_zero, List.set_cons_succ]
          have hHeld : (SO (SO (SO (SL w g what s d f t fl A n c B u c3 L) (some ⟨g19, 0, none⟩) (8 + m19) (8 + m19) U1) (some ⟨g21, 0, none⟩) (8 + m21) (cc21) U1) (some ⟨g47, 0, none⟩) (20 + m47) (20 + m47) U2) w47 := ⟨hS47, ho47.mono (Nat.zero_le _)⟩
          clear hS47 ho47 hb47
          refine wpAnyH_mono (S' := SO (SO (SO (SL w g what s d f t fl A n c B u c3 L) (some ⟨g19, 0, none⟩) (8 + m19) (8 + m19) U1) (some ⟨g21, 0, none⟩) (8 + m21) (cc21) U1) (some ⟨g47, 0, none⟩) (20 + m47) (20 + m47) U2) (fun _ h => h.s) _ _ _ _ ?_
          have qs47 := SO.str (S := SO (SO (SL w g what s d f t fl A n c B u c3 L) (some ⟨g19, 0, none⟩) (8 + m19) (8 + m19) U1) (some ⟨g21, 0, none⟩) (8 + m21) (cc21) U1) (A := some ⟨g47, 0, none⟩) (n := 20 + m47) (c := 20 + m47) (zs := U2)
          refine wpAnyH_take (i := 36) (oi := ⟨some 59, _, _, _, _, _⟩) (v := ?tv48) rfl (by kernel_rfl) (by kernel_rfl) (by kernel_rfl) (fun _ _ _ h => h) (Or.inl ⟨by kernel_rfl, ?ty48⟩) (by assumption) ?tr48
          case ty48 => (intro w hSw; first | (go_simp; done) | (go_simp; with_reducible rfl))
          case' tr48 => try simp only [Act.put, List.setIfInBounds_toArray, List.set_cons_zero, List.set_cons_succ]
          clear qs47
          refine wpAnyH_ready (rs := [48]) (by kernel_rfl) (by simp) ?_
          refine AllReadyH.cons (o := ⟨some 71, _, _, _, _, _⟩) rfl (fun K hK => ?_) ?_
          · go_simp
            go_at_call 12
            refine (rtcp_any s d f t fl B u c3 L _ Hlu.out huc (by omega) (hHeld.s.s.s).own.rd s0 s1 d0 d1 f0 f1 t0 t1).mono ?_
            rintro e w49 ⟨g49, m49, cc49, rfl, hm49, ho49, hb49⟩
            rw [← HU2.out] at ho49; clear hm49
            try dsimp only
            have hS49 : (SO (SO (SO (SL w g what s d f t fl A n c B u c3 L) (some ⟨g19, 0, none⟩) (8 + m19) (8 + m19) U1) (some ⟨g21, 0, none⟩) (8 + m21) (cc21) U1) (some ⟨g47, 0, none⟩) (20 + m47) (20 + m47) U2) w49 := ⟨⟨⟨SL.below hHeld.s.s.s hb49, hHeld.s.s.o.below hb49⟩, hHeld.s.o.below hb49⟩, hHeld.o.below hb49⟩
            refine hK.out _ _ hS49 (fun hHeld0 => ?_)
            clear hK K hHeld0 hHeld
            try simp only [Act.put, List.setIfInBounds_toArray, List.set_cons_zero, List.set_cons_succ]
            have hHeld : (SO (SO (SO (SO (SL w g what s d f t fl A n c B u c3 L) (some ⟨g19, 0, none⟩) (8 + m19) (8 + m19) U1) (some ⟨g21, 0, none⟩) (8 + m21) (cc21) U1) (some ⟨g47, 0, none⟩) (20 + m47) (20 + m47) U2) (some ⟨g49, 0, none⟩) (20 + m49) (cc49) U2) w49 := ⟨hS49, ho49.mono (Nat.zero_le _)⟩
            clear hS49 ho49 hb49
            refine wpAnyH_mono (S' := SO (SO (SO (SO (SL w g what s d f t fl A n c B u c3 L) (some ⟨g19, 0, none⟩) (8 + m19) (8 + m19) U1) (some ⟨g21, 0, none⟩) (8 + m21) (cc21) U1) (some ⟨g47, 0, none⟩) (20 + m47) (20 + m47) U2) (some ⟨g49, 0, none⟩) (20 + m49) (cc49) U2) (fun _ h => h.s) _ _ _ _ ?_
            have qs49 := SO.str (S := SO (SO (SO (SL w g what s d f t fl A n c B u c3 L) (some ⟨g19, 0, none⟩) (8 + m19) (8 + m19) U1) (some ⟨g21, 0, none⟩) (8 + m21) (cc21) U1) (some ⟨g47, 0, none⟩) (20 + m47) (20 + m47) U2) (A := some ⟨g49, 0, none⟩) (n := 20 + m49) (c := cc49) (zs := U2)
            refine wpAnyH_take (i := 49) (oi := ⟨some 72, _, _, _, _, _⟩) (v := ?tv50) rfl (by kernel_rfl) (by kernel_rfl) (by kernel_rfl) (fun _ _ _ h => h) (Or.inl ⟨by kernel_rfl, ?ty50⟩) (by assumption) ?tr50
            case ty50 => (intro w hSw; first | (go_simp; done) | (go_simp; with_reducible rfl))
            case' tr50 => try simp only [Act.put, List.setIfInBounds_toArray, List.set_cons_zero, List.set_cons_succ]
            clear qs49
            refine wpAnyH_take (i := 50) (oi := ⟨some 73, _, _, _, _, _⟩) (v := ?tv51) rfl (by kernel_rfl) (by kernel_rfl) (by kernel_rfl) (fun _ _ _ h => h) (Or.inl ⟨by kernel_rfl, ?ty51⟩) (by assumption) ?tr51
            case ty51 => (intro w hSw; first | (go_simp; done) | (go_simp; with_reducible rfl))
            case' tr51 => try simp only [Act.put, List.setIfInBounds_toArray, List.set_cons_zero, List.set_cons_succ]
            refine wpAnyH_take (i := 51) (oi := ⟨some 74, _, _, _, _, _⟩) (v := ?tv52) rfl (by kernel_rfl) (by kernel_rfl) (by kernel_rfl) (fun _ _ _ h => h) (Or.inl ⟨by kernel_rfl, ?ty52⟩) (by assumption) ?tr52
            case ty52 => (intro w hSw; first | (go_simp; done) | (go_simp; with_reducible rfl))
            case' tr52 => try simp only [Act.put, List.setIfInBounds_toArray, List.set_cons_zero, List.set_cons_succ]
            refine wpAnyH_done (by kernel_rfl) ?_ _
            go_wp2
            go_meet
            exact ⟨rfl, hHeld.s.s.s.s⟩
          exact AllReadyH.nil
        exact AllReadyH.nil
      exact AllReadyH.nil
    exact AllReadyH.nil
  case rest =>
  obtain ⟨rfl, hS⟩ := hcut
  have HS5 := Lib.hid hS
  clear hS HU1 HU2 HS
  go_upto_region 5 with fail
  obtain ⟨rp, hrp⟩ : ∃ r : Bool, r = (what.tmod 2 == 0) := ⟨_, rfl⟩
  obtain ⟨U3, hU3⟩ : ∃ U, U = icL (if rp = true then 0 else 8) 0 f (L.take 1400) := ⟨_, rfl⟩
  obtain ⟨U4, hU4⟩ : ∃ U, U = icL (what % 256) (fl % 256) 0 (L.take 1400) := ⟨_, rfl⟩
  have HU3 := Lib.hid hU3
  have HU4 := Lib.hid hU4
  have HRP := Lib.hid hrp
  clear hU3 hU4 hrp
  go_cut [116] (fun s116 wx => s116 = .bool false ∧ SL w g what s d f t fl A n c B u c3 L wx)
  case first => as_aux_lemma =>
    refine wp_region_held_drew (S := SL w g what s d f t fl A n c B u c3 L) (by kernel_rfl) HS5.out.drew (fun hHeld => ?_)
    have qc0 : ∀ W, (SL w g what s d f t fl A n c B u c3 L) W → W.cell? ⟨g, 0, none⟩ = some (.int .i64 what) := fun W h => (h).b1.cell 0
    have qc3 : ∀ W, (SL w g what s d f t fl A n c B u c3 L) W → W.cell? ⟨g, 3, none⟩ = some (.int .u16 f) := fun W h => (h).b1.cell 3
    refine wpAnyH_take (i := 0) (oi := ⟨some 75, _, _, _, _, _⟩) (v := ?tv53) rfl (by kernel_rfl) (by kernel_rfl) (by kernel_rfl) (fun _ _ _ h => h) (Or.inl ⟨by kernel_rfl, ?ty53⟩) (by assumption) ?tr53
    case ty53 => (intro w hSw; first | (go_simp; done) | (go_simp; with_reducible rfl))
    case' tr53 => try simp only [Act.put, List.setIfInBounds_toArray, List.set_cons_zero, List.set_cons_succ]
    refine wpAnyH_take (i := 1) (oi := ⟨some 76, _, _, _, _, _⟩) (v := ?tv54) rfl (by kernel_rfl) (by kernel_rfl) (by kernel_rfl) (fun _ _ _ h => h) (Or.inl ⟨by kernel_rfl, ?ty54⟩) (by assumption) ?tr54
    case ty54 => (intro w hSw; first | (go_simp; done) | (go_simp; with_reducible rfl))
    case' tr54 => try simp only [Act.put, List.setIfInBounds_toArray, List.set_cons_zero, List.set_cons_succ]
    refine wpAnyH_take (i := 2) (oi := ⟨some 77, _, _, _, _, _⟩) (v := ?tv55) rfl (by kernel_rfl) (by kernel_rfl) (by kernel_rfl) (fun _ _ _ h => h) (Or.inl ⟨by kernel_rfl, ?ty55⟩) (by assumption) ?tr55
    case ty55 => (intro w hSw; first | (go_simp; done) | (go_simp; with_reducible rfl))
    case' tr55 => try simp only [Act.put, List.setIfInBounds_toArray, List.set_cons_zero, List.set_cons_succ]
    refine wpAnyH_take (i := 3) (oi := ⟨some 78, _, _, _, _, _⟩) (v := ?tv56) rfl (by kernel_rfl) (by kernel_rfl) (by kernel_rfl) (fun _ _ _ h => h) (Or.inl ⟨by kernel_rfl, ?ty56⟩) (by assumption) ?tr56
    case ty56 => (intro w hSw; first | (go_simp; done) | (go_simp; with_reducible rfl))
    case' tr56 => try simp only [Act.put, List.setIfInBounds_toArray, List.set_cons_zero, List.set_cons_succ]
    refine wpAnyH_take (i := 4) (oi := ⟨some 79, _, _, _, _, _⟩) (v := ?tv57) rfl (by kernel_rfl) (by kernel_rfl) (by kernel_rfl) (fun _ _ _ h => h) (Or.inl ⟨by kernel_rfl, ?ty57⟩) (by assumption) ?tr57
    case ty57 => (intro w hSw; first | (go_simp; done) | (go_simp; with_reducible rfl))
    case' tr57 => try simp only [Act.put, List.setIfInBounds_toArray, List.set_cons_zero, List.set_cons_succ]
    refine wpAnyH_take (i := 5) (oi := ⟨some 80, _, _, _, _, _⟩) (v := ?tv58) rfl (by kernel_rfl) (by kernel_rfl) (by kernel_rfl) (fun _ _ _ h => h) (Or.inl ⟨by kernel_rfl, ?ty58⟩) (by assumption) ?tr58
    case ty58 => (intro w hSw; first | (go_simp; done) | (go_simp; with_reducible rfl))
    case' tr58 => try simp only [Act.put, List.setIfInBounds_toArray, List.set_cons_zero, List.set_cons_succ]
    refine wpAnyH_take (i := 6) (oi := ⟨some 81, _, _, _, _, _⟩) (v := ?tv59) rfl (by kernel_rfl) (by kernel_rfl) (by kernel_rfl) (fun _ _ _ h => h) (Or.inl ⟨by kernel_rfl, ?ty59⟩) (by assumption) ?tr59
    case ty59 => (intro w hSw; first | (go_simp; done) | (go_simp; with_reducible rfl))
    case' tr59 => try simp only [Act.put, List.setIfInBounds_toArray, List.set_cons_zero, List.set_cons_succ]
    refine wpAnyH_take (i := 9) (oi := ⟨some 84, _, _, _, _, _⟩) (v := ?tv60) rfl (by kernel_rfl) (by kernel_rfl) (by kernel_rfl) (fun _ _ _ h => h) (Or.inl ⟨by kernel_rfl, ?ty60⟩) (by assumption) ?tr60
    case ty60 => (intro w hSw; first | (go_simp; done) | (go_simp; with_reducible rfl))
    case' tr60 => try simp only [Act.put, List.setIfInBounds_toArray, List.set_cons_zero, List.set_cons_succ]
    refine wpAnyH_take (i := 10) (oi := ⟨some 85, _, _, _, _, _⟩) (v := ?tv61) rfl (by kernel_rfl) (by kernel_rfl) (by kernel_rfl) (fun _ _ _ h => h) (Or.inl ⟨by kernel_rfl, ?ty61⟩) (by assumption) ?tr61
    case ty61 => (intro w hSw; first | (go_simp; done) | (go_simp; with_reducible rfl))
    case' tr61 => try simp only [Act.put, List.setIfInBounds_toArray, List.set_cons_zero, List.set_cons_succ]
    refine wpAnyH_take (i := 11) (oi := ⟨some 86, _, _, _, _, _⟩) (v := ?tv62) rfl (by kernel_rfl) (by kernel_rfl) (by kernel_rfl) (fun _ _ _ h => h) (Or.inl ⟨by kernel_rfl, ?ty62⟩) (by assumption) ?tr62
    case ty62 => (intro w hSw; first | (go_simp; done) | (go_simp; with_reducible rfl))
    case' tr62 => try simp only [Act.put, List.setIfInBounds_toArray, List.set_cons_zero, List.set_cons_succ]
    refine wpAnyH_take (i := 12) (oi := ⟨some 87, _, _, _, _, _⟩) (v := ?tv63) rfl (by kernel_rfl) (by kernel_rfl) (by kernel_rfl) (fun _ _ _ h => h) (Or.inl ⟨by kernel_rfl, ?ty63⟩) (by assumption) ?tr63
    case ty63 => (intro w hSw; first | (go_simp; done) | (go_simp; with_reducible rfl))
    case' tr63 => try simp only [Act.put, List.setIfInBounds_toArray, List.set_cons_zero, List.set_cons_succ]
    refine wpAnyH_take (i := 13) (oi := ⟨some 88, _, _, _, _, _⟩) (v := ?tv64) rfl (by kernel_rfl) (by kernel_rfl) (by kernel_rfl) (fun _ _ _ h => h) (Or.inl ⟨by kernel_rfl, ?ty64⟩) (by assumption) ?tr64
    case ty64 => (intro w hSw; first | (go_simp; done) | (go_simp; with_reducible rfl))
    case' tr64 => try simp only [Act.put, List.setIfInBounds_toArray, List.set_cons_zero, List.set_cons_succ]
    refine wpAnyH_take (i := 14) (oi := ⟨some 89, _, _, _, _, _⟩) (v := ?tv65) rfl (by kernel_rfl) (by kernel_rfl) (by kernel_rfl) (fun _ _ _ h => h) (Or.inl ⟨by kernel_rfl, ?ty65⟩) (by assumption) ?tr65
    case ty65 => (intro w hSw; first | (go_simp; done) | (go_simp; with_reducible rfl))
    case' tr65 => try simp only [Act.put, List.setIfInBounds_toArray, List.set_cons_zero, List.set_cons_succ]
    refine wpAnyH_take (i := 15) (oi := ⟨some 90, _, _, _, _, _⟩) (v := ?tv66) rfl (by kernel_rfl) (by kernel_rfl) (by kernel_rfl) (fun _ _ _ h => h) (Or.inl ⟨by kernel_rfl, ?ty66⟩) (by assumption) ?tr66
    case ty66 => (intro w hSw; first | (go_simp; done) | (go_simp; with_reducible rfl))
    case' tr66 => try simp only [Act.put, List.setIfInBounds_toArray, List.set_cons_zero, List.set_cons_succ]
    clear qc0 qc3
    refine wpAnyH_ready (rs := [7]) (by kernel_rfl) (by simp) ?_
    refine AllReadyH.cons (o := ⟨some 82, _, _, _, _, _⟩) rfl (fun K hK => ?_) ?_
    · go_simp
      go_at_call 13
      refine (echo_any _ _ rfl f f0 f1 B u c3 L _ Hlu.out huc (by omega) (hHeld).own.rd).mono ?_
      rintro e w67 ⟨g67, m67, rfl, hm67, ho67, hb67⟩
      rw [lay_ec _ _ _ f0 f1, ← HRP.out, ← HU3.out] at ho67; clear hm67
      try dsimp only
      have hS67 : (SL w g what s d f t fl A n c B u c3 L) w67 := SL.below hHeld hb67
      refine hK.out _ _ hS67 (fun hHeld0 => ?_)
      clear hK K hHeld0 hHeld
      try simp only [Act.put, List.setIfInBounds_toArray, List.set_cons_zero, List.set_cons_succ]
      have hHeld : (SO (SL w g what s d f t fl A n c B u c3 L) (some ⟨g67, 0, none⟩) (8 + m67) (8 + m67) U3) w67 := ⟨hS67, ho67.mono (Nat.zero_le _)⟩
      clear hS67 ho67 hb67
      refine wpAnyH_mono (S' := SO (SL w g what s d f t fl A n c B u c3 L) (some ⟨g67, 0, none⟩) (8 + m67) (8 + m67) U3) (fun _ h => h.s) _ _ _ _ ?_
      have qs67 := SO.str (S := SL w g what s d f t fl A n c B u c3 L) (A := some ⟨g67, 0, none⟩) (n := 8 + m67) (c := 8 + m67) (zs := U3)
      refine wpAnyH_take (i := 8) (oi := ⟨some 83, _, _, _, _, _⟩) (v := ?tv68) rfl (by kernel_rfl) (by kernel_rfl) (by kernel_rfl) (fun _ _ _ h => h) (Or.inl ⟨by kernel_rfl, ?ty68⟩) (by assumption) ?tr68
      case ty68 => (intro w hSw; first | (go_simp; done) | (go_simp; with_reducible rfl))
      case' tr68 => try simp only [Act.put, List.setIfInBounds_toArray, List.set_cons_zero, List.set_cons_succ]
      clear qs67
      refine wpAnyH_ready (rs := [16]) (by kernel_rfl) (by simp) ?_
      refine AllReadyH.cons (o := ⟨some 91, _, _, _, _, _⟩) rfl (fun K hK => ?_) ?_
      · go_simp
        go_at_call 14
        refine (recho_any _ _ rfl f f0 f1 B u c3 L _ Hlu.out huc (by omega) (hHeld.s).own.rd).mono ?_
        rintro e w69 ⟨g69, m69, cc69, rfl, hm69, ho69, hb69⟩
        rw [← HRP.out, ← HU3.out] at ho69; clear hm69
        try dsimp only
        have hS69 : (SO (SL w g what s d f t fl A n c B u c3 L) (some ⟨g67, 0, none⟩) (8 + m67) (8 + m67) U3) w69 := ⟨SL.below hHeld.s hb69, hHeld.o.below hb69⟩
        refine hK.out _ _ hS69 (fun hHeld0 => ?_)
        clear hK K hHeld0 hHeld
        try simp only [Act.put, List.setIfInBounds_toArray, List.set_cons_zero, List.set_cons_succ]
        have hHeld : (SO (SO (SL w g what s d f t fl A n c B u c3 L) (some ⟨g67, 0, none⟩) (8 + m67) (8 + m67) U3) (some ⟨g69, 0, none⟩) (8 + m69) (cc69) U3) w69 := ⟨hS69, ho69.mono (Nat.zero_le _)⟩
        clear hS69 ho69 hb69
        refine wpAnyH_mono (S' := SO (SO (SL w g what s d f t fl A n c B u c3 L) (some ⟨g67, 0, none⟩) (8 + m67) (8 + m67) U3) (some ⟨g69, 0, none⟩) (8 + m69) (cc69) U3) (fun _ h => h.s) _ _ _ _ ?_
        have qs69 := SO.str (S := SO (SL w g what s d f t fl A n c B u c3 L) (some ⟨g67, 0, none⟩) (8 + m67) (8 + m67) U3) (A := some ⟨g69, 0, none⟩) (n := 8 + m69) (c := cc69) (zs := U3)
        refine wpAnyH_take (i := 17) (oi := ⟨some 92, _, _, _, _, _⟩) (v := ?tv70) rfl (by kernel_rfl) (by kernel_rfl) (by kernel_rfl) (fun _ _ _ h => h) (Or.inl ⟨by kernel_rfl, ?ty70⟩) (by assumption) ?tr70
        case ty70 => (intro w hSw; first | (go_simp; done) | (go_simp; with_reducible rfl))
        case' tr70 => try simp only [Act.put, List.setIfInBounds_toArray, List.set_cons_zero, List.set_cons_succ]
        clear qs69
        refine wpAnyH_take (i := 18) (oi := ⟨some 93, _, _, _, _, _⟩) (v := ?tv71) rfl (by kernel_rfl) (by kernel_rfl) (by kernel_rfl) (fun _ _ _ h => h) (Or.inl ⟨by kernel_rfl, ?ty71⟩) (by assumption) ?tr71
        case ty71 => (intro w hSw; first | (go_simp; done) | (go_simp; with_reducible rfl))
        case' tr71 => try simp only [Act.put, List.setIfInBounds_toArray, List.set_cons_zero, List.set_cons_succ]
        refine wpAnyH_take (i := 19) (oi := ⟨some 94, _, _, _, _, _⟩) (v := ?tv72) rfl (by kernel_rfl) (by kernel_rfl) (by kernel_rfl) (fun _ _ _ h => h) (Or.inl ⟨by kernel_rfl, ?ty72⟩) (by assumption) ?tr72
        case ty72 => (intro w hSw; first | (go_simp; done) | (go_simp; with_reducible rfl))
        case' tr72 => try simp only [Act.put, List.setIfInBounds_toArray, List.set_cons_zero, List.set_cons_succ]
        have qd0 : ∀ W, (SO (SO (SL w g what s d f t fl A n c B u c3 L) (some ⟨g67, 0, none⟩) (8 + m67) (8 + m67) U3) (some ⟨g69, 0, none⟩) (8 + m69) (cc69) U3) W → W.cell? ⟨g, 0, none⟩ = some (.int .i64 what) := fun W h => (h.s.s).b1.cell 0
        have qd5 : ∀ W, (SO (SO (SL w g what s d f t fl A n c B u c3 L) (some ⟨g67, 0, none⟩) (8 + m67) (8 + m67) U3) (some ⟨g69, 0, none⟩) (8 + m69) (cc69) U3) W → W.cell? ⟨g, 5, none⟩ = some (.int .i64 fl) := fun W h => (h.s.s).b1.cell 5
        refine wpAnyH_take (i := 20) (oi := ⟨some 95, _, _, _, _, _⟩) (v := ?tv73) rfl (by kernel_rfl) (by kernel_rfl) (by kernel_rfl) (fun _ _ _ h => h) (Or.inl ⟨by kernel_rfl, ?ty73⟩) (by assumption) ?tr73
        case ty73 => (intro w hSw; first | (go_simp; done) | (go_simp; with_reducible rfl))
        case' tr73 => try simp only [Act.put, List.setIfInBounds_toArray, List.set_cons_zero, List.set_cons_succ]
        refine wpAnyH_take (i := 21) (oi := ⟨some 96, _, _, _, _, _⟩) (v := ?tv74) rfl (by kernel_rfl) (by kernel_rfl) (by kernel_rfl) (fun _ _ _ h => h) (Or.inl ⟨by kernel_rfl, ?ty74⟩) (by assumption) ?tr74
        case ty74 => (intro w hSw; first | (go_simp; done) | (go_simp; with_reducible rfl))
        case' tr74 => try simp only [Act.put, List.setIfInBounds_toArray, List.set_cons_zero, List.set_cons_succ]
        refine wpAnyH_take (i := 22) (oi := ⟨some 97, _, _, _, _, _⟩) (v := ?tv75) rfl (by kernel_rfl) (by kernel_rfl) (by kernel_rfl) (fun _ _ _ h => h) (Or.inl ⟨by kernel_rfl, ?ty75⟩) (by assumption) ?tr75
        case ty75 => (intro w hSw; first | (go_simp; done) | (go_simp; with_reducible rfl))
        case' tr75 => try simp only [Act.put, List.setIfInBounds_toArray, List.set_cons_zero, List.set_cons_succ]
        refine wpAnyH_take (i := 23) (oi := ⟨some 98, _, _, _, _, _⟩) (v := ?tv76) rfl (by kernel_rfl) (by kernel_rfl) (by kernel_rfl) (fun _ _ _ h => h) (Or.inl ⟨by kernel_rfl, ?ty76⟩) (by assumption) ?tr76
        case ty76 => (intro w hSw; first | (go_simp; done) | (go_simp; with_reducible rfl))
        case' tr76 => try simp only [Act.put, List.setIfInBounds_toArray, List.set_cons_zero, List.set_cons_succ]
        refine wpAnyH_take (i := 24) (oi := ⟨some 99, _, _, _, _, _⟩) (v := ?tv77) rfl (by kernel_rfl) (by kernel_rfl) (by kernel_rfl) (fun _ _ _ h => h) (Or.inl ⟨by kernel_rfl, ?ty77⟩) (by assumption) ?tr77
        case ty77 => (intro w hSw; first | (go_simp; done) | (go_simp; with_reducible rfl))
        case' tr77 => try simp only [Act.put, List.setIfInBounds_toArray, List.set_cons_zero, List.set_cons_succ]
        refine wpAnyH_take (i := 27) (oi := ⟨some 102, _, _, _, _, _⟩) (v := ?tv78) rfl (by kernel_rfl) (by kernel_rfl) (by kernel_rfl) (fun _ _ _ h => h) (Or.inl ⟨by kernel_rfl, ?ty78⟩) (by assumption) ?tr78
        case ty78 => (intro w hSw; first | (go_simp; done) | (go_simp; with_reducible rfl))
        case' tr78 => try simp only [Act.put, List.setIfInBounds_toArray, List.set_cons_zero, List.set_cons_succ]
        refine wpAnyH_take (i := 28) (oi := ⟨some 103, _, _, _, _, _⟩) (v := ?tv79) rfl (by kernel_rfl) (by kernel_rfl) (by kernel_rfl) (fun _ _ _ h => h) (Or.inl ⟨by kernel_rfl, ?ty79⟩) (by assumption) ?tr79
        case ty79 => (intro w hSw; first | (go_simp; done) | (go_simp; with_reducible rfl))
        case' tr79 => try simp only [Act.put, List.setIfInBounds_toArray, List.set_cons_zero, List.set_cons_succ]
        refine wpAnyH_take (i := 29) (oi := ⟨some 104, _, _, _, _, _⟩) (v := ?tv80) rfl (by kernel_rfl) (by kernel_rfl) (by kernel_rfl) (fun _ _ _ h => h) (Or.inl ⟨by kernel_rfl, ?ty80⟩) (by assumption) ?tr80
        case ty80 => (intro w hSw; first | (go_simp; done) | (go_simp; with_reducible rfl))
        case' tr80 => try simp only [Act.put, List.setIfInBounds_toArray, List.set_cons_zero, List.set_cons_succ]
        refine wpAnyH_take (i := 30) (oi := ⟨some 105, _, _, _, _, _⟩) (v := ?tv81) rfl (by kernel_rfl) (by kernel_rfl) (by kernel_rfl) (fun _ _ _ h => h) (Or.inl ⟨by kernel_rfl, ?ty81⟩) (by assumption) ?tr81
        case ty81 => (intro w hSw; first | (go_simp; done) | (go_simp; with_reducible rfl))
        case' tr81 => try simp only [Act.put, List.setIfInBounds_toArray, List.set_cons_zero, List.set_cons_succ]
        refine wpAnyH_take (i := 31) (oi := ⟨some 106, _, _, _, _, _⟩) (v := ?tv82) rfl (by kernel_rfl) (by kernel_rfl) (by kernel_rfl) (fun _ _ _ h => h) (Or.inl ⟨by kernel_rfl, ?ty82⟩) (by assumption) ?tr82
        case ty82 => (intro w hSw; first | (go_simp; done) | (go_simp; with_reducible rfl))
        case' tr82 => try simp only [Act.put, List.setIfInBounds_toArray, List.set_cons_zero, List.set_cons_succ]
        clear qd0 qd5
        refine wpAnyH_ready (rs := [25]) (by kernel_rfl) (by simp) ?_
        refine AllReadyH.cons (o := ⟨some 100, _, _, _, _, _⟩) rfl (fun K hK => ?_) ?_
        · go_simp
          go_at_call 15
          refine (pfault_any what fl B u c3 L _ Hlu.out huc (by omega) (hHeld.s.s).own.rd).mono ?_
          rintro e w83 ⟨g83, m83, rfl, hm83, ho83, hb83⟩
          rw [← HU4.out] at ho83; clear hm83
          try dsimp only
          have hS83 : (SO (SO (SL w g what s d f t fl A n c B u c3 L) (some ⟨g67, 0, none⟩) (8 + m67) (8 + m67) U3) (some ⟨g69, 0, none⟩) (8 + m69) (cc69) U3) w83 := ⟨⟨SL.below hHeld.s.s hb83, hHeld.s.o.below hb83⟩, hHeld.o.below hb83⟩
          refine hK.out _ _ hS83 (fun hHeld0 => ?_)
          clear hK K hHeld0 hHeld
          try simp only [Act.put, List.setIfInBounds_toArray, List.set_cons_zero, List.set_cons_succ]
          have hHeld : (SO (SO (SO (SL w g what s d f t fl A n c B u c3 L) (some ⟨g67, 0, none⟩) (8 + m67) (8 + m67) U3) (some ⟨g69, 0, none⟩) (8 + m69) (cc69) U3) (some ⟨g83, 0, none⟩) (8 + m83) (8 + m83) U4) w83 := ⟨hS83, ho83.mono (Nat.zero_le _)⟩
          clear hS83 ho83 hb83
          refine wpAnyH_mono (S' := SO (SO (SO (SL w g what s d f t fl A n c B u c3 L) (some ⟨g67, 0, none⟩) (8 + m67) (8 + m67) U3) (some ⟨g69, 0, none⟩) (8 + m69) (cc69) U3) (some ⟨g83, 0, none⟩) (8 + m83) (8 + m83) U4) (fun _ h => h.s) _ _ _ _ ?_
          have qs83 := SO.str (S := SO (SO (SL w g what s d f t fl A n c B u c3 L) (some ⟨g67, 0, none⟩) (8 + m67) (8 + m67) U3) (some ⟨g69, 0, none⟩) (8 + m69) (cc69) U3) (A := some ⟨g83, 0, none⟩) (n := 8 + m83) (c := 8 + m83) (zs := U4)
          refine wpAnyH_take (i := 26) (oi := ⟨some 101, _, _, _, _, _⟩) (v := ?tv84) rfl (by kernel_rfl) (by kernel_rfl) (by kernel_rfl) (fun _ _ _ h => h) (Or.inl ⟨by kernel_rfl, ?ty84⟩) (by assumption) ?tr84
          case ty84 => (intro w hSw; first | (go_simp; done) | (go_simp; with_reducible rfl))
          case' tr84 => try simp only [Act.put, List.setIfInBounds_toArray, List.set_cons_zero, List.set_cons_succ]
          clear qs83
          refine wpAnyH_ready (rs := [32]) (by kernel_rfl) (by simp) ?_
          refine AllReadyH.cons (o := ⟨some 107, _, _, _, _, _⟩) rfl (fun K hK => ?_) ?_
          · go_simp
            go_at_call 16
            refine (rfault_any what fl B u c3 L _ Hlu.out huc (by omega) (hHeld.s.s.s).own.rd).mono ?_
            rintro e w85 ⟨g85, m85, cc85, rfl, hm85, ho85, hb85⟩
            rw [← HU4.out] at ho85; clear hm85
            try dsimp only
            have hS85 : (SO (SO (SO (SL w g what s d f t fl A n c B u c3 L) (some ⟨g67, 0, none⟩) (8 + m67) (8 + m67) U3) (some ⟨g69, 0, none⟩) (8 + m69) (cc69) U3) (some ⟨g83, 0, none⟩) (8 + m83) (8 + m83) U4) w85 := ⟨⟨⟨SL.below hHeld.s.s.s hb85, hHeld.s.s.o.below hb85⟩, hHeld.s.o.below hb85⟩, hHeld.o.below hb85⟩
            refine hK.out _ _ hS85 (fun hHeld0 => ?_)
            clear hK K hHeld0 hHeld
            try simp only [Act.put, List.setIfInBounds_toArray, List.set_cons_zero, List.set_cons_succ]
            have hHeld : (SO (SO (SO (SO (SL w g what s d f t fl A n c B u c3 L) (some ⟨g67, 0, none⟩) (8 + m67) (8 + m67) U3) (some ⟨g69, 0, none⟩) (8 + m69) (cc69) U3) (some ⟨g83, 0, none⟩) (8 + m83) (8 + m83) U4) (some ⟨g85, 0, none⟩) (8 + m85) (cc85) U4) w85 := ⟨hS85, ho85.mono (Nat.zero_le _)⟩
            clear hS85 ho85 hb85
            refine wpAnyH_mono (S' := SO (SO (SO (SO (SL w g what s d f t fl A n c B u c3 L) (some ⟨g67, 0, none⟩) (8 + m67) (8 + m67) U3) (some ⟨g69, 0, none⟩) (8 + m69) (cc69) U3) (some ⟨g83, 0, none⟩) (8 + m83) (8 + m83) U4) (some ⟨g85, 0, none⟩) (8 + m85) (cc85) U4) (fun _ h => h.s) _ _ _ _ ?_
            have qs85 := SO.str (S := SO (SO (SO (SL w g what s d f t fl A n c B u c3 L) (some ⟨g67, 0, none⟩) (8 + m67) (8 + m67) U3) (some ⟨g69, 0, none⟩) (8 + m69) (cc69) U3) (some ⟨g83, 0, none⟩) (8 + m83) (8 + m83) U4) (A := some ⟨g85, 0, none⟩) (n := 8 + m85) (c := cc85) (zs := U4)
            refine wpAnyH_take (i := 33) (oi := ⟨some 108, _, _, _, _, _⟩) (v := ?tv86) rfl (by kernel_rfl) (by kernel_rfl) (by kernel_rfl) (fun _ _ _ h => h) (Or.inl ⟨by kernel_rfl, ?ty86⟩) (by assumption) ?tr86
            case ty86 => (intro w hSw; first | (go_simp; done) | (go_simp; with_reducible rfl))
            case' tr86 => try simp only [Act.put, List.setIfInBounds_toArray, List.set_cons_zero, List.set_cons_succ]
            clear qs85
            refine wpAnyH_take (i := 34) (oi := ⟨some 109, _, _, _, _, _⟩) (v := ?tv87) rfl (by kernel_rfl) (by kernel_rfl) (by kernel_rfl) (fun _ _ _ h => h) (Or.inl ⟨by kernel_rfl, ?ty87⟩) (by assumption) ?tr87
            case ty87 => (intro w hSw; first | (go_simp; done) | (go_simp; with_reducible rfl))
            case' tr87 => try simp only [Act.put, List.setIfInBounds_toArray, List.set_cons_zero, List.set_cons_succ]
            refine wpAnyH_take (i := 35) (oi := ⟨some 110, _, _, _, _, _⟩) (v := ?tv88) rfl (by kernel_rfl) (by kernel_rfl) (by kernel_rfl) (fun _ _ _ h => h) (Or.inl ⟨by kernel_rfl, ?ty88⟩) (by assumption) ?tr88
            case ty88 => (intro w hSw; first | (go_simp; done) | (go_simp; with_reducible rfl))
            case' tr88 => try simp only [Act.put, List.setIfInBounds_toArray, List.set_cons_zero, List.set_cons_succ]
            refine wpAnyH_take (i := 36) (oi := ⟨some 111, _, _, _, _, _⟩) (v := ?tv89) rfl (by kernel_rfl) (by kernel_rfl) (by kernel_rfl) (fun _ _ _ h => h) (Or.inl ⟨by kernel_rfl, ?ty89⟩) (by assumption) ?tr89
            case ty89 => (intro w hSw; first | (go_simp; done) | (go_simp; with_reducible rfl))
            case' tr89 => try simp only [Act.put, List.setIfInBounds_toArray, List.set_cons_zero, List.set_cons_succ]
            have qb : ∀ W, (SO (SO (SO (SO (SL w g what s d f t fl A n c B u c3 L) (some ⟨g67, 0, none⟩) (8 + m67) (8 + m67) U3) (some ⟨g69, 0, none⟩) (8 + m69) (cc69) U3) (some ⟨g83, 0, none⟩) (8 + m83) (8 + m83) U4) (some ⟨g85, 0, none⟩) (8 + m85) (cc85) U4) W → (convert 24 9 (.slice B u c3)).run Try.prog W = .ok (.string (strOfNums L)) W := fun W h => run_str W B u c3 L Hlu.out (h.s.s.s.s).own.rd
            refine wpAnyH_take (i := 37) (oi := ⟨some 112, _, _, _, _, _⟩) (v := ?tv90) rfl (by kernel_rfl) (by kernel_rfl) (by kernel_rfl) (fun _ _ _ h => h) (Or.inl ⟨by kernel_rfl, ?ty90⟩) (by assumption) ?tr90
            case ty90 => (intro w hSw; first | (go_simp; done) | (go_simp; with_reducible rfl))
            case' tr90 => try simp only [Act.put, List.setIfInBounds_toArray, List.set_cons_zero, List.set_cons_succ]
            refine wpAnyH_take (i := 38) (oi := ⟨some 113, _, _, _, _, _⟩) (v := ?tv91) rfl (by kernel_rfl) (by kernel_rfl) (by kernel_rfl) (fun _ _ _ h => h) (Or.inl ⟨by kernel_rfl, ?ty91⟩) (by assumption) ?tr91
            case ty91 => (intro w hSw; first | (go_simp; done) | (go_simp; with_reducible rfl))
            case' tr91 => try simp only [Act.put, List.setIfInBounds_toArray, List.set_cons_zero, List.set_cons_succ]
            refine wpAnyH_take (i := 39) (oi := ⟨some 114, _, _, _, _, _⟩) (v := ?tv92) rfl (by kernel_rfl) (by kernel_rfl) (by kernel_rfl) (fun _ _ _ h => h) (Or.inl ⟨by kernel_rfl, ?ty92⟩) (by assumption) ?tr92
            case ty92 => (intro w hSw; first | (go_simp; done) | (go_simp; with_reducible rfl))
            case' tr92 => try simp only [Act.put, List.setIfInBounds_toArray, List.set_cons_zero, List.set_cons_succ]
            refine wpAnyH_take (i := 40) (oi := ⟨some 115, _, _, _, _, _⟩) (v := ?tv93) rfl (by kernel_rfl) (by kernel_rfl) (by kernel_rfl) (fun _ _ _ h => h) (Or.inl ⟨by kernel_rfl, ?ty93⟩) (by assumption) ?tr93
            case ty93 => (intro w hSw; first | (go_simp; done) | (go_simp; with_reducible rfl))
            case' tr93 => try simp only [Act.put, List.setIfInBounds_toArray, List.set_cons_zero, List.set_cons_succ]
            refine wpAnyH_take (i := 41) (oi := ⟨some 116, _, _, _, _, _⟩) (v := ?tv94) rfl (by kernel_rfl) (by kernel_rfl) (by kernel_rfl) (fun _ _ _ h => h) (Or.inl ⟨by kernel_rfl, ?ty94⟩) (by assumption) ?tr94
            case ty94 => (intro w hSw; first | (go_simp; done) | (go_simp; with_reducible rfl))
            case' tr94 => try simp only [Act.put, List.setIfInBounds_toArray, List.set_cons_zero, List.set_cons_succ]
            refine wpAnyH_done (by kernel_rfl) ?_ _
            go_wp2
            go_meet
            exact ⟨rfl, hHeld.s.s.s.s⟩
          exact AllReadyH.nil
        exact AllReadyH.nil
      exact AllReadyH.nil
    exact AllReadyH.nil
  case rest => as_aux_lemma =>
    obtain ⟨rfl, hS⟩ := hcut
    have HB2 := Lib.hid hS.bel
    have hs2 := hS.bel.size
    have k0 : wc.cell? ⟨g, 0, none⟩ = some (.int .i64 what) := hS.b1.cell 0
    have k1 : wc.cell? ⟨g, 1, none⟩ = some (.int .u32 s) := hS.b1.cell 1
    have k2 : wc.cell? ⟨g, 2, none⟩ = some (.int .u32 d) := hS.b1.cell 2
    have k3 : wc.cell? ⟨g, 3, none⟩ = some (.int .u16 f) := hS.b1.cell 3
    have k4 : wc.cell? ⟨g, 4, none⟩ = some (.int .u16 t) := hS.b1.cell 4
    have k5 : wc.cell? ⟨g, 5, none⟩ = some (.int .i64 fl) := hS.b1.cell 5
    have k6 : wc.cell? ⟨g, 6, none⟩ = some (.slice A n c) := hS.b1.cell 6
    obtain ⟨K, hK, hKl⟩ := pickN what 7 (by omega) (by omega)
    have hK7 : K < 7 := by omega
    have HKe := Lib.hid hK
    clear hS HS5 HU3 HU4 HRP hK hKl
    go_wp2_with fail
    refine (frame_any ⟨what, s, d, f, t, fl, A, n, c, ys⟩ K hK7 _ (HOk.out.below HB2.out) HKe.out).mono ?_
    rintro e w3 ⟨g3, m, cc, rfl, hm, hm100, ho, hb⟩
    obtain ⟨M, hM⟩ : ∃ L, L = ys.take 40 := ⟨_, rfl⟩
    have hMl : M.length ≤ 40 := by rw [hM, List.length_take]; omega
    have hMb : By M := by rw [hM]; exact HOk.out.rd.1.take 40
    obtain ⟨U, hU⟩ : ∃ U, U = carL K s d f t fl M := ⟨_, rfl⟩
    obtain ⟨pr, hpr⟩ : ∃ p, p = carP K := ⟨_, rfl⟩
    have hprr := carP_range K
    rw [← hpr] at hprr
    have hUm : U.length = m := by rw [hU, hM]; exact hm.symm
    have HO3 := Lib.hid (show Own w3 w.heap.size (some ⟨g3, 0, none⟩) (20 + m) cc (frm 64 pr s d U) by rw [hU, hM, hpr]; exact ho.mono hs2)
    have HB3 := Lib.hid (bthen HB2.out hb)
    have okk := HOk.out
    have hUb : By U := by rw [hU]; exact carL_by K s d f t fl hMl hMb okk.s0 okk.s1 okk.d0 okk.d1
    have hgot := frm_got 64 pr s d U [] (by omega) hUb (by omega) (by omega) hprr.1 hprr.2 okk.s0 okk.s1 okk.d0 okk.d1
    rw [List.append_nil, hUm] at hgot
    have hE : byE pr s d U = 0 := by rw [hU, hpr]; exact all_ok K hK7 s d f t fl M hMl hMb okk.s0 okk.s1 okk.d0 okk.d1 okk.f0 okk.f1 okk.t0 okk.t1
    have hpg : pgE ⟨20, 20 + (m : Int), 64, pr, s, d⟩ (frm 64 pr s d U) = byE pr s d U ∧ pgP ⟨20, 20 + (m : Int), 64, pr, s, d⟩ (frm 64 pr s d U) = byP pr s d U := frm_pg 64 pr s d U m hUm 64 s d pr
    rw [hE] at hpg
    obtain ⟨e0, e1, e2, e3, e4, e5, e6, e7, e8, e9, e10, e11, e12, e13, e14, hev⟩ := Pt.mk_val (byP pr s d U)
    have Hev := Lib.hid hev
    have HGot := Lib.hid hgot
    have HPG := Lib.hid hpg
    have hcap := HO3.out.cap
    clear k0 k1 k2 k3 k4 k5 k6 hm ho hb hM hU hUm hgot hMl hMb hUb HB2 hpr hE hpg hev okk HKe
    go_wp2_with fail
    refine (get_any (some ⟨g3, 0, none⟩) (20 + m) cc (frm 64 pr s d U) _ HO3.out.len hcap (by omega) HO3.out.rd).mono ?_
    rintro e w4 ⟨rfl, hb4⟩
    rw [HGot.out.1, HGot.out.2, show (Hd.mk 20 (20 + (m : Int)) 64 pr s d).val = .agg #[.int .i64 20, .int .i64 (20 + (m : Int)), .int .i64 64, .int .i64 pr, .int .u32 s, .int .u32 d] from rfl]
    have HO4 := Lib.hid (HO3.out.below hb4)
    have HB4 := Lib.hid (bthen HB3.out hb4)
    clear hb4 HO3 HB3
    go_upto_region 9 with fail
    have HH5 := Lib.hid (Blk.new w4 33 #[.int .i64 20, .int .i64 (20 + (m : Int)), .int .i64 64, .int .i64 pr, .int .u32 s, .int .u32 d])
    have HO5 := Lib.hid (HO4.out.alloc (.cells #[.int .i64 20, .int .i64 (20 + (m : Int)), .int .i64 64, .int .i64 pr, .int .u32 s, .int .u32 d] 33))
    have HB5 := Lib.hid (bthen HB4.out (ball w4 (.cells #[.int .i64 20, .int .i64 (20 + (m : Int)), .int .i64 64, .int .i64 pr, .int .u32 s, .int .u32 d] 33)))
    generalize w4.alloc (.cells #[.int .i64 20, .int .i64 (20 + (m : Int)), .int .i64 64, .int .i64 pr, .int .u32 s, .int .u32 d] 33) = w5 at *
    generalize w4.heap.size = gh at *
    clear HO4 HB4
    go_wp2_with (first | ((with_reducible refine gd_ld 33 6 ?_); refine wpList_ld rfl 33 (.tmp 6) rfl _ rfl (HH5.out) sHead ?_) | fail)
    refine (pget_any 20 (20 + (m : Int)) 64 pr s d (some ⟨g3, 0, none⟩) (20 + m) cc (frm 64 pr s d U) _ HO5.out.len hcap (by omega) HO5.out.rd s0 s1 d0 d1).mono ?_
    rintro e w6 ⟨rfl, hb6⟩
    rw [HPG.out.1, HPG.out.2, Hev.out]
    have HO6 := Lib.hid (HO5.out.below hb6)
    have HB6 := Lib.hid (bthen HB5.out hb6)
    have HH6 := Lib.hid (HH5.out.below hb6)
    clear hb6 HO5 HB5 HH5
    go_upto_region 10 with fail
    have HP7 := Lib.hid (Blk.new w6 38 #[.int .i64 e0, .int .u16 e1, .int .u16 e2, .int .i64 e3, .int .i64 e4, .int .i64 e5, .bool e6, .int .i64 e7, .int .i64 e8, .int .i64 e9, .int .i64 e10, .int .u32 e11, .int .u32 e12, .int .i64 e13, .bool e14])
    have HO7 := Lib.hid (HO6.out.alloc (.cells #[.int .i64 e0, .int .u16 e1, .int .u16 e2, .int .i64 e3, .int .i64 e4, .int .i64 e5, .bool e6, .int .i64 e7, .int .i64 e8, .int .i64 e9, .int .i64 e10, .int .u32 e11, .int .u32 e12, .int .i64 e13, .bool e14] 38))
    have HH7 := Lib.hid (HH6.out.alloc (.cells #[.int .i64 e0, .int .u16 e1, .int .u16 e2, .int .i64 e3, .int .i64 e4, .int .i64 e5, .bool e6, .int .i64 e7, .int .i64 e8, .int .i64 e9, .int .i64 e10, .int .u32 e11, .int .u32 e12, .int .i64 e13, .bool e14] 38))
    have HB7 := Lib.hid (bthen HB6.out (ball w6 (.cells #[.int .i64 e0, .int .u16 e1, .int .u16 e2, .int .i64 e3, .int .i64 e4, .int .i64 e5, .bool e6, .int .i64 e7, .int .i64 e8, .int .i64 e9, .int .i64 e10, .int .u32 e11, .int .u32 e12, .int .i64 e13, .bool e14] 38)))
    generalize w6.alloc (.cells #[.int .i64 e0, .int .u16 e1, .int .u16 e2, .int .i64 e3, .int .i64 e4, .int .i64 e5, .bool e6, .int .i64 e7, .int .i64 e8, .int .i64 e9, .int .i64 e10, .int .u32 e11, .int .u32 e12, .int .i64 e13, .bool e14] 38) = w7 at *
    generalize w6.heap.size = p5 at *
    clear HO6 HB6 HH6
    go_wp2_with (first | ((with_reducible refine gd_ld 33 6 ?_); refine wpList_ld rfl 33 (.tmp 6) rfl _ rfl (HH7.out) sHead ?_) | fail)
    refine (from_any ⟨20, 20 + (m : Int), 64, pr, s, d⟩ _).mono ?_
    rintro e w8 ⟨rfl, hb8⟩
    rw [show (Hd.mk 20 (20 + (m : Int)) 64 pr s d).val = .agg #[.int .i64 20, .int .i64 (20 + (m : Int)), .int .i64 64, .int .i64 pr, .int .u32 s, .int .u32 d] from rfl]
    have HO8 := Lib.hid (HO7.out.below hb8)
    have HB8 := Lib.hid (bthen HB7.out hb8)
    have HP8 := Lib.hid (HP7.out.below hb8)
    clear hb8 HO7 HB7 HP7 HH7
    go_wp2_with fail
    refine (rget_any 20 (20 + (m : Int)) 64 pr s d (some ⟨g3, 0, none⟩) (20 + m) cc (frm 64 pr s d U) _ HO8.out.len hcap (by omega) HO8.out.rd s0 s1 d0 d1).mono ?_
    rintro e w9 ⟨rfl, hb9⟩
    rw [HPG.out.1, HPG.out.2, Hev.out]
    have HB9 := Lib.hid (bthen HB8.out hb9)
    have HP9 := Lib.hid (HP8.out.below hb9)
    clear hb9 HO8 HB8 HP8
    go_upto_region 11 with fail
    have HS : SP w p5 w9.heap.size #[.int .i64 e0, .int .u16 e1, .int .u16 e2, .int .i64 e3, .int .i64 e4, .int .i64 e5, .bool e6, .int .i64 e7, .int .i64 e8, .int .i64 e9, .int .i64 e10, .int .u32 e11, .int .u32 e12, .int .i64 e13, .bool e14] (w9.alloc (.cells #[.int .i64 e0, .int .u16 e1, .int .u16 e2, .int .i64 e3, .int .i64 e4, .int .i64 e5, .bool e6, .int .i64 e7, .int .i64 e8, .int .i64 e9, .int .i64 e10, .int .u32 e11, .int .u32 e12, .int .i64 e13, .bool e14] 43)) := ⟨HP9.out.alloc _, Blk.new w9 _ _, bthen HB9.out (ball w9 _)⟩
    generalize w9.alloc (.cells #[.int .i64 e0, .int .u16 e1, .int .u16 e2, .int .i64 e3, .int .i64 e4, .int .i64 e5, .bool e6, .int .i64 e7, .int .i64 e8, .int .i64 e9, .int .i64 e10, .int .u32 e11, .int .u32 e12, .int .i64 e13, .bool e14] 43) = w10 at *
    generalize w9.heap.size = p7 at *
    clear HP9 HB9
    have rx0 : ∀ W, SP w p5 p7 #[.int .i64 e0, .int .u16 e1, .int .u16 e2, .int .i64 e3, .int .i64 e4, .int .i64 e5, .bool e6, .int .i64 e7, .int .i64 e8, .int .i64 e9, .int .i64 e10, .int .u32 e11, .int .u32 e12, .int .i64 e13, .bool e14] W → W.cell? ⟨p5, 0, none⟩ = some (.int .i64 e0) := fun W h => h.b5.cell 0
    have rx1 : ∀ W, SP w p5 p7 #[.int .i64 e0, .int .u16 e1, .int .u16 e2, .int .i64 e3, .int .i64 e4, .int .i64 e5, .bool e6, .int .i64 e7, .int .i64 e8, .int .i64 e9, .int .i64 e10, .int .u32 e11, .int .u32 e12, .int .i64 e13, .bool e14] W → W.cell? ⟨p5, 1, none⟩ = some (.int .u16 e1) := fun W h => h.b5.cell 1
    have rx2 : ∀ W, SP w p5 p7 #[.int .i64 e0, .int .u16 e1, .int .u16 e2, .int .i64 e3, .int .i64 e4, .int .i64 e5, .bool e6, .int .i64 e7, .int .i64 e8, .int .i64 e9, .int .i64 e10, .int .u32 e11, .int .u32 e12, .int .i64 e13, .bool e14] W → W.cell? ⟨p5, 2, none⟩ = some (.int .u16 e2) := fun W h => h.b5.cell 2
    have rx3 : ∀ W, SP w p5 p7 #[.int .i64 e0, .int .u16 e1, .int .u16 e2, .int .i64 e3, .int .i64 e4, .int .i64 e5, .bool e6, .int .i64 e7, .int .i64 e8, .int .i64 e9, .int .i64 e10, .int .u32 e11, .int .u32 e12, .int .i64 e13, .bool e14] W → W.cell? ⟨p5, 3, none⟩ = some (.int .i64 e3) := fun W h => h.b5.cell 3
    have rx4 : ∀ W, SP w p5 p7 #[.int .i64 e0, .int .u16 e1, .int .u16 e2, .int .i64 e3, .int .i64 e4, .int .i64 e5, .bool e6, .int .i64 e7, .int .i64 e8, .int .i64 e9, .int .i64 e10, .int .u32 e11, .int .u32 e12, .int .i64 e13, .bool e14] W → W.cell? ⟨p5, 4, none⟩ = some (.int .i64 e4) := fun W h => h.b5.cell 4
    have rx5 : ∀ W, SP w p5 p7 #[.int .i64 e0, .int .u16 e1, .int .u16 e2, .int .i64 e3, .int .i64 e4, .int .i64 e5, .bool e6, .int .i64 e7, .int .i64 e8, .int .i64 e9, .int .i64 e10, .int .u32 e11, .int .u32 e12, .int .i64 e13, .bool e14] W → W.cell? ⟨p5, 5, none⟩ = some (.int .i64 e5) := fun W h => h.b5.cell 5
    have rx6 : ∀ W, SP w p5 p7 #[.int .i64 e0, .int .u16 e1, .int .u16 e2, .int .i64 e3, .int .i64 e4, .int .i64 e5, .bool e6, .int .i64 e7, .int .i64 e8, .int .i64 e9, .int .i64 e10, .int .u32 e11, .int .u32 e12, .int .i64 e13, .bool e14] W → W.cell? ⟨p5, 6, none⟩ = some (.bool e6) := fun W h => h.b5.cell 6
    have rx7 : ∀ W, SP w p5 p7 #[.int .i64 e0, .int .u16 e1, .int .u16 e2, .int .i64 e3, .int .i64 e4, .int .i64 e5, .bool e6, .int .i64 e7, .int .i64 e8, .int .i64 e9, .int .i64 e10, .int .u32 e11, .int .u32 e12, .int .i64 e13, .bool e14] W → W.cell? ⟨p5, 7, none⟩ = some (.int .i64 e7) := fun W h => h.b5.cell 7
    have rx8 : ∀ W, SP w p5 p7 #[.int .i64 e0, .int .u16 e1, .int .u16 e2, .int .i64 e3, .int .i64 e4, .int .i64 e5, .bool e6, .int .i64 e7, .int .i64 e8, .int .i64 e9, .int .i64 e10, .int .u32 e11, .int .u32 e12, .int .i64 e13, .bool e14] W → W.cell? ⟨p5, 8, none⟩ = some (.int .i64 e8) := fun W h => h.b5.cell 8
    have rx9 : ∀ W, SP w p5 p7 #[.int .i64 e0, .int .u16 e1, .int .u16 e2, .int .i64 e3, .int .i64 e4, .int .i64 e5, .bool e6, .int .i64 e7, .int .i64 e8, .int .i64 e9, .int .i64 e10, .int .u32 e11, .int .u32 e12, .int .i64 e13, .bool e14] W → W.cell? ⟨p5, 9, none⟩ = some (.int .i64 e9) := fun W h => h.b5.cell 9
    have rx10 : ∀ W, SP w p5 p7 #[.int .i64 e0, .int .u16 e1, .int .u16 e2, .int .i64 e3, .int .i64 e4, .int .i64 e5, .bool e6, .int .i64 e7, .int .i64 e8, .int .i64 e9, .int .i64 e10, .int .u32 e11, .int .u32 e12, .int .i64 e13, .bool e14] W → W.cell? ⟨p5, 10, none⟩ = some (.int .i64 e10) := fun W h => h.b5.cell 10
    have rx11 : ∀ W, SP w p5 p7 #[.int .i64 e0, .int .u16 e1, .int .u16 e2, .int .i64 e3, .int .i64 e4, .int .i64 e5, .bool e6, .int .i64 e7, .int .i64 e8, .int .i64 e9, .int .i64 e10, .int .u32 e11, .int .u32 e12, .int .i64 e13, .bool e14] W → W.cell? ⟨p5, 11, none⟩ = some (.int .u32 e11) := fun W h => h.b5.cell 11
    have rx12 : ∀ W, SP w p5 p7 #[.int .i64 e0, .int .u16 e1, .int .u16 e2, .int .i64 e3, .int .i64 e4, .int .i64 e5, .bool e6, .int .i64 e7, .int .i64 e8, .int .i64 e9, .int .i64 e10, .int .u32 e11, .int .u32 e12, .int .i64 e13, .bool e14] W → W.cell? ⟨p5, 12, none⟩ = some (.int .u32 e12) := fun W h => h.b5.cell 12
    have rx13 : ∀ W, SP w p5 p7 #[.int .i64 e0, .int .u16 e1, .int .u16 e2, .int .i64 e3, .int .i64 e4, .int .i64 e5, .bool e6, .int .i64 e7, .int .i64 e8, .int .i64 e9, .int .i64 e10, .int .u32 e11, .int .u32 e12, .int .i64 e13, .bool e14] W → W.cell? ⟨p5, 13, none⟩ = some (.int .i64 e13) := fun W h => h.b5.cell 13
    have rx14 : ∀ W, SP w p5 p7 #[.int .i64 e0, .int .u16 e1, .int .u16 e2, .int .i64 e3, .int .i64 e4, .int .i64 e5, .bool e6, .int .i64 e7, .int .i64 e8, .int .i64 e9, .int .i64 e10, .int .u32 e11, .int .u32 e12, .int .i64 e13, .bool e14] W → W.cell? ⟨p5, 14, none⟩ = some (.bool e14) := fun W h => h.b5.cell 14
    have sx0 : ∀ W, SP w p5 p7 #[.int .i64 e0, .int .u16 e1, .int .u16 e2, .int .i64 e3, .int .i64 e4, .int .i64 e5, .bool e6, .int .i64 e7, .int .i64 e8, .int .i64 e9, .int .i64 e10, .int .u32 e11, .int .u32 e12, .int .i64 e13, .bool e14] W → W.cell? ⟨p7, 0, none⟩ = some (.int .i64 e0) := fun W h => h.b7.cell 0
    have sx1 : ∀ W, SP w p5 p7 #[.int .i64 e0, .int .u16 e1, .int .u16 e2, .int .i64 e3, .int .i64 e4, .int .i64 e5, .bool e6, .int .i64 e7, .int .i64 e8, .int .i64 e9, .int .i64 e10, .int .u32 e11, .int .u32 e12, .int .i64 e13, .bool e14] W → W.cell? ⟨p7, 1, none⟩ = some (.int .u16 e1) := fun W h => h.b7.cell 1
    have sx2 : ∀ W, SP w p5 p7 #[.int .i64 e0, .int .u16 e1, .int .u16 e2, .int .i64 e3, .int .i64 e4, .int .i64 e5, .bool e6, .int .i64 e7, .int .i64 e8, .int .i64 e9, .int .i64 e10, .int .u32 e11, .int .u32 e12, .int .i64 e13, .bool e14] W → W.cell? ⟨p7, 2, none⟩ = some (.int .u16 e2) := fun W h => h.b7.cell 2
    have sx3 : ∀ W, SP w p5 p7 #[.int .i64 e0, .int .u16 e1, .int .u16 e2, .int .i64 e3, .int .i64 e4, .int .i64 e5, .bool e6, .int .i64 e7, .int .i64 e8, .int .i64 e9, .int .i64 e10, .int .u32 e11, .int .u32 e12, .int .i64 e13, .bool e14] W → W.cell? ⟨p7, 3, none⟩ = some (.int .i64 e3) := fun W h => h.b7.cell 3
    have sx4 : ∀ W, SP w p5 p7 #[.int .i64 e0, .int .u16 e1, .int .u16 e2, .int .i64 e3, .int .i64 e4, .int .i64 e5, .bool e6, .int .i64 e7, .int .i64 e8, .int .i64 e9, .int .i64 e10, .int .u32 e11, .int .u32 e12, .int .i64 e13, .bool e14] W → W.cell? ⟨p7, 4, none⟩ = some (.int .i64 e4) := fun W h => h.b7.cell 4
    have sx5 : ∀ W, SP w p5 p7 #[.int .i64 e0, .int .u16 e1, .int .u16 e2, .int .i64 e3, .int .i64 e4, .int .i64 e5, .bool e6, .int .i64 e7, .int .i64 e8, .int .i64 e9, .int .i64 e10, .int .u32 e11, .int .u32 e12, .int .i64 e13, .bool e14] W → W.cell? ⟨p7, 5, none⟩ = some (.int .i64 e5) := fun W h => h.b7.cell 5
    have sx6 : ∀ W, SP w p5 p7 #[.int .i64 e0, .int .u16 e1, .int .u16 e2, .int .i64 e3, .int .i64 e4, .int .i64 e5, .bool e6, .int .i64 e7, .int .i64 e8, .int .i64 e9, .int .i64 e10, .int .u32 e11, .int .u32 e12, .int .i64 e13, .bool e14] W → W.cell? ⟨p7, 6, none⟩ = some (.bool e6) := fun W h => h.b7.cell 6
    have sx7 : ∀ W, SP w p5 p7 #[.int .i64 e0, .int .u16 e1, .int .u16 e2, .int .i64 e3, .int .i64 e4, .int .i64 e5, .bool e6, .int .i64 e7, .int .i64 e8, .int .i64 e9, .int .i64 e10, .int .u32 e11, .int .u32 e12, .int .i64 e13, .bool e14] W → W.cell? ⟨p7, 7, none⟩ = some (.int .i64 e7) := fun W h => h.b7.cell 7
    have sx8 : ∀ W, SP w p5 p7 #[.int .i64 e0, .int .u16 e1, .int .u16 e2, .int .i64 e3, .int .i64 e4, .int .i64 e5, .bool e6, .int .i64 e7, .int .i64 e8, .int .i64 e9, .int .i64 e10, .int .u32 e11, .int .u32 e12, .int .i64 e13, .bool e14] W → W.cell? ⟨p7, 8, none⟩ = some (.int .i64 e8) := fun W h => h.b7.cell 8
    have sx9 : ∀ W, SP w p5 p7 #[.int .i64 e0, .int .u16 e1, .int .u16 e2, .int .i64 e3, .int .i64 e4, .int .i64 e5, .bool e6, .int .i64 e7, .int .i64 e8, .int .i64 e9, .int .i64 e10, .int .u32 e11, .int .u32 e12, .int .i64 e13, .bool e14] W → W.cell? ⟨p7, 9, none⟩ = some (.int .i64 e9) := fun W h => h.b7.cell 9
    have sx10 : ∀ W, SP w p5 p7 #[.int .i64 e0, .int .u16 e1, .int .u16 e2, .int .i64 e3, .int .i64 e4, .int .i64 e5, .bool e6, .int .i64 e7, .int .i64 e8, .int .i64 e9, .int .i64 e10, .int .u32 e11, .int .u32 e12, .int .i64 e13, .bool e14] W → W.cell? ⟨p7, 10, none⟩ = some (.int .i64 e10) := fun W h => h.b7.cell 10
    have sx11 : ∀ W, SP w p5 p7 #[.int .i64 e0, .int .u16 e1, .int .u16 e2, .int .i64 e3, .int .i64 e4, .int .i64 e5, .bool e6, .int .i64 e7, .int .i64 e8, .int .i64 e9, .int .i64 e10, .int .u32 e11, .int .u32 e12, .int .i64 e13, .bool e14] W → W.cell? ⟨p7, 11, none⟩ = some (.int .u32 e11) := fun W h => h.b7.cell 11
    have sx12 : ∀ W, SP w p5 p7 #[.int .i64 e0, .int .u16 e1, .int .u16 e2, .int .i64 e3, .int .i64 e4, .int .i64 e5, .bool e6, .int .i64 e7, .int .i64 e8, .int .i64 e9, .int .i64 e10, .int .u32 e11, .int .u32 e12, .int .i64 e13, .bool e14] W → W.cell? ⟨p7, 12, none⟩ = some (.int .u32 e12) := fun W h => h.b7.cell 12
    have sx13 : ∀ W, SP w p5 p7 #[.int .i64 e0, .int .u16 e1, .int .u16 e2, .int .i64 e3, .int .i64 e4, .int .i64 e5, .bool e6, .int .i64 e7, .int .i64 e8, .int .i64 e9, .int .i64 e10, .int .u32 e11, .int .u32 e12, .int .i64 e13, .bool e14] W → W.cell? ⟨p7, 13, none⟩ = some (.int .i64 e13) := fun W h => h.b7.cell 13
    have sx14 : ∀ W, SP w p5 p7 #[.int .i64 e0, .int .u16 e1, .int .u16 e2, .int .i64 e3, .int .i64 e4, .int .i64 e5, .bool e6, .int .i64 e7, .int .i64 e8, .int .i64 e9, .int .i64 e10, .int .u32 e11, .int .u32 e12, .int .i64 e13, .bool e14] W → W.cell? ⟨p7, 14, none⟩ = some (.bool e14) := fun W h => h.b7.cell 14
    go_region_held3 (fun W => SP w p5 p7 #[.int .i64 e0, .int .u16 e1, .int .u16 e2, .int .i64 e3, .int .i64 e4, .int .i64 e5, .bool e6, .int .i64 e7, .int .i64 e8, .int .i64 e9, .int .i64 e10, .int .u32 e11, .int .u32 e12, .int .i64 e13, .bool e14] W)
      (first | (with_reducible exact HS.drew) | (with_reducible exact SP.below (by assumption) (by assumption)) | (with_reducible exact SP.redrewN (by assumption) _) | (with_reducible assumption))
      (first
        | (go_at_call 22; refine (parts_any _).mono ?_; rintro e w' ⟨rfl, hb⟩)
        | (go_at_call 23; refine (pfrom_any e0 e1 e2 e3 e4 e5 e6 e7 e8 e9 e10 e11 e12 e13 e14 _).mono ?_; rintro e w' ⟨rfl, hb⟩))
    go_wp2
    go_ret
    exact ⟨rfl, SP.bel (by assumption)⟩
end Go.Proofs.Ytgoenjoojejghaa
