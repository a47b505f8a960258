/-
  Package turns: Run and Rest. Conditions stand in each theorem.
-/
import Derived.Test.YtgengboaoniogaaTurn4
namespace Go.Proofs.Ytgengboaoniogaa
open Go.RowKit Plain
set_option linter.unusedVariables false
set_option maxRecDepth 100000

theorem RdN.keep {bs : List Nat} {k : IntKind} {w w' : World} {A : Option Addr} {zs : List Int} (h : RdN k w A zs) (hk : Keep bs w w') (hb : offB bs A) : RdN k w' A zs :=
  ⟨h.1, fun hp => by
    obtain ⟨b, off, e, hl, hc⟩ := h.2 hp
    exact ⟨b, off, e, Nat.lt_of_lt_of_le hl hk.size, fun j hj => (hk.cell (p := ⟨b, off + j, none⟩) hl (hb b off e)).trans (hc j hj)⟩⟩
def ts0 (l : List Int) : TS := ⟨l, fun _ => 0, fun _ => 0, []⟩

/-- what Run and Rest are handed: cells, programs, picks -/
structure TIn (w : World) (gc gn n : Nat) (l : List Int) (A : Option Addr) (np pc m : Nat) (V : Nat → Option Addr × Nat × Nat) (os : Nat → List OpV) (B : Option Addr) (nz cz : Nat) (zs : List Int) : Prop where
  cl : Cl w gc gn n l
  rv : RdV w A np V
  rd : ∀ i, i < m → RdP w (V i).1 (os i)
  lt : ∀ i, i < m → ∀ b off, (V i).1 = some ⟨b, off, none⟩ → b < w.heap.size ∧ b ≠ gn
  ln : ∀ i, i < m → (os i).length = (V i).2.1 ∧ (V i).2.1 ≤ 1000000
  mn : m = min np 64
  m0 : 0 < np
  cp : pc ≤ maxLen
  nc : np ≤ pc
  zl : zs.length = nz
  zr : RdN .i64 w B zs
  zb : 0 < nz → ∀ b off, B = some ⟨b, off, none⟩ → b < w.heap.size ∧ b ≠ gn
  zn : nz ≤ cz
  zc : cz ≤ maxLen
section
variable {w : World} {gc gn n : Nat} {l : List Int} {A : Option Addr} {np pc m : Nat} {V : Nat → Option Addr × Nat × Nat} {os : Nat → List OpV} {B : Option Addr} {nz cz : Nat} {zs : List Int}
theorem TIn.tp {w1 : World} {P : Nat → Value} (h : TIn w gc gn n l A np pc m V os B nz cz zs) (hb : Below w.heap.size w w1) (hW : Wks w1 w.heap.size m P (fun _ => 0) (fun _ => 0)) (hP : ∀ i, i < m → P i = slV (V i)) :
    TP w1 gc gn w.heap.size m P V os ∧ TM w1 w1 gc gn n w.heap.size m P os (ts0 l) (.slice none 0 0) ∧ RdN .i64 w1 B zs ∧ (0 < nz → offB [gn, w.heap.size] B) := by
  have lc := h.cl.st.lt
  have lg := h.cl.nu.lt
  have lw := hW.lt
  have hmn := h.mn
  refine ⟨⟨hP, fun i hi => (h.rd i hi).keep (bs := []) (Keep.of_below hb) (fun _ _ _ => by simp), h.ln, fun i hi b off e => ?_, by omega, by omega, lw, by omega, by omega, by omega⟩, ⟨h.cl.below hb, hW, Keep.refl _ _, fun _ => by show U64 0; unfold U64; omega, World.ownsRow_nil _ _ _ _, ?_, fun i hi => Nat.zero_le _⟩, h.zr.keep (bs := []) (Keep.of_below hb) (fun _ _ _ => by simp), fun hp b off e => ?_⟩
  · obtain ⟨h1, h2⟩ := h.lt i hi b off e
    simp; omega
  · show 0 = sumD (fun _ => 0) m
    have : ∀ m, sumD (fun _ => 0) m = 0 := fun m => by induction m with | zero => rfl | succ k ih => simp only [sumD, ih]
    rw [this]
  · obtain ⟨h1, h2⟩ := h.zb hp b off e
    simp; omega

/-- what is told: Dones, in a row of one's own; the cells then; nothing else is written -/
def TOut (w : World) (gc gn n : Nat) (s : TS) (e : Ending) (w' : World) : Prop :=
  ∃ A' c', e = .returned (.slice A' s.out.length c') ∧ Cl w' gc gn n s.l ∧ w'.ownsRow w.heap.size 35 3 (.slice A' s.out.length c') s.out.length (outC s.out) ∧ Keep [gn] w w'
theorem tout {w w1 w2 : World} {gw : Nat} {P : Nat → Value} {s : TS} {A' : Option Addr} {c' : Nat} (hb : Below w.heap.size w w1) (hg : w.heap.size ≤ gw) (h : TM w1 w2 gc gn n gw m P os s (.slice A' s.out.length c')) : TOut w gc gn n s (.returned (.slice A' s.out.length c')) w2 := by
  refine ⟨A', c', rfl, h.cl, ?_, ?_⟩
  · refine ⟨h.ow.1, ?_⟩
    rcases h.ow.2 with e | ⟨g, cap, cur, e, hge, r⟩
    · exact .inl e
    · exact .inr ⟨g, cap, cur, e, Nat.le_trans hb.size hge, r⟩
  · exact Keep.new (Keep.of_below hb) (h.kp.mono (by intro x hx; simp at hx ⊢; omega)) hg

theorem run_any (h : TIn w gc gn n l A np pc m V os B nz cz zs) :
    Calls Try.prog 45 #[.pointer (some ⟨gc, 0, none⟩), .slice A np pc, .slice B nz cz] w (TOut w gc gn n (many os (ts0 l) (zs.map (pk m)))) := by
  have H := Lib.hid h
  have hm0 : 0 < m := by have := h.mn; have := h.m0; omega
  clear h
  go_enter Try.func45, Try.ntmps45
  go_wp2_with fail
  refine (workersOf_any A np pc m V w H.out.rv H.out.mn H.out.cp H.out.nc).mono ?_
  rintro e w1 ⟨rfl, ⟨P, hW, hP⟩, hb⟩
  obtain ⟨htp, htm, hz, hzb⟩ := H.out.tp hb hW hP
  have HTP := Lib.hid htp
  have HTM := Lib.hid htm
  have HZ := Lib.hid hz
  have HZB := Lib.hid hzb
  have HB := Lib.hid hb
  clear htp htm hz hzb hb hW hP
  go_wp2_with fail
  refine (byPicks_any HTP.out B nz cz zs H.out.zl HZ.out HZB.out H.out.zn H.out.zc hm0 HTM.out).mono ?_
  rintro e w2 ⟨A', c', rfl, hM⟩
  have HT := Lib.hid (tout HB.out (Nat.le_refl _) hM)
  clear hM
  go_wp2
  go_ret
  exact HT.out

/-- all that is left, worker by worker -/
def restL (os : Nat → List OpV) (m : Nat) : List Nat := (List.range m).flatMap fun i => List.replicate (os i).length i
theorem restL_succ (os : Nat → List OpV) (k : Nat) : restL os (k + 1) = restL os k ++ List.replicate (os k).length k := by unfold restL; rw [List.range_succ]; simp
theorem many_stop (os : Nat → List OpV) (t : TS) (i : Nat) (h : ¬ t.D i < (os i).length) : ∀ j, many os t (List.replicate j i) = t
  | 0 => rfl
  | j + 1 => by
      rw [List.replicate_succ, show i :: List.replicate j i = [i] ++ List.replicate j i from rfl, many_append]
      have : many os t [i] = t := one_no os t i h
      rw [this]; exact many_stop os t i h j

def lenV : Value → Nat
  | .slice _ n _ => n
  | _ => 0

set_option maxHeartbeats 2000000 in
theorem rest_any (h : TIn w gc gn n l A np pc m V os B nz cz zs) :
    Calls Try.prog 12 #[.pointer (some ⟨gc, 0, none⟩), .slice A np pc, .slice B nz cz] w (TOut w gc gn n (many os (ts0 l) (zs.map (pk m) ++ restL os m))) := by
  have H := Lib.hid h
  have hm0 : 0 < m := by have := h.mn; have := h.m0; omega
  have hm64 : m ≤ 64 := by have := h.mn; omega
  clear h
  go_enter Try.func12, Try.ntmps12
  go_wp2_with fail
  refine (workersOf_any A np pc m V w H.out.rv H.out.mn H.out.cp H.out.nc).mono ?_
  rintro e w1 ⟨rfl, ⟨P, hW, hP⟩, hb⟩
  obtain ⟨htp, htm, hz, hzb⟩ := H.out.tp hb hW hP
  have HP := Lib.hid htp
  have HTM := Lib.hid htm
  have HZ := Lib.hid hz
  have HZB := Lib.hid hzb
  have HB := Lib.hid hb
  clear htp htm hz hzb hb hW hP
  go_wp2_with fail
  refine (byPicks_any HP.out B nz cz zs H.out.zl HZ.out HZB.out H.out.zn H.out.zc hm0 HTM.out).mono ?_
  rintro e w2 ⟨A', c', rfl, hM⟩
  obtain ⟨s, hs⟩ : ∃ s, s = many os (ts0 l) (zs.map (pk m)) := ⟨_, rfl⟩
  rw [← hs] at hM
  have HSS := Lib.hid hs
  rw [← hs]
  have HM := Lib.hid hM
  obtain ⟨gw, hgw⟩ : ∃ g, g = w.heap.size := ⟨_, rfl⟩
  rw [← hgw] at HP HM
  rw [← hgw]
  have hgw' : w.heap.size ≤ gw := by omega
  clear hM hs HTM HZ HZB hgw
  go_wp2
  go_loopw [8, 18] (fun s8 s18 wr => ∃ (k c' : Nat) (A' : Option Addr) (t : TS), s8 = .slice A' t.out.length c' ∧ s18 = .int .i64 k ∧ k ≤ m ∧ t = many os s (restL os k) ∧ TM w1 wr gc gn n gw m P os t (.slice A' t.out.length c')) (fun _ i _ => m - (intOf i).toNat)
  case atStart => exact ⟨0, c', A', s, rfl, rfl, by omega, rfl, HM.out⟩
  case round =>
    obtain ⟨k, c2, A2, t, rfl, rfl, hk, ht, hM2⟩ := hrel
    have HT := Lib.hid ht
    have HM2 := Lib.hid hM2
    clear ht hM2 HM
    by_cases hlt : k < m
    · have i1 : (k : Int) < (m : Int) := by omega
      have HPI := Lib.hid (HP.out.pr k hlt)
      obtain ⟨hln, hlm⟩ := HP.out.ln k hlt
      have HLN := Lib.hid hln
      clear hln
      go_wp2
      go_loopw [8] (fun s8 wr => ∃ (j c' : Nat) (A' : Option Addr) (u : TS), s8 = .slice A' u.out.length c' ∧ u = many os t (List.replicate j k) ∧ u.D k = t.D k + j ∧ u.out.length = t.out.length + j ∧ TM w1 wr gc gn n gw m P os u (.slice A' u.out.length c')) (fun s8 _ => t.out.length + (os k).length - lenV s8)
      case atStart => exact ⟨0, c2, A2, t, rfl, rfl, by omega, by omega, HM2.out⟩
      case round =>
        obtain ⟨j, c3, A3, u, rfl, hu, hj, ho, hM3⟩ := hrel
        have HU := Lib.hid hu
        have HJ := Lib.hid hj
        have HO := Lib.hid ho
        have HM3 := Lib.hid hM3
        clear hu hj ho hM3 HM2
        go_wp2_with fail
        refine (hasNext_any HM3.out.wk k hlt _ _ _ HPI.out).mono ?_
        rintro e w3 ⟨rfl, q, hw⟩
        have HM4 := Lib.hid (show TM w1 w3 gc gn n gw m P os u (.slice A3 u.out.length c3) by rw [hw]; exact HM3.out.drewN q)
        clear hw HM3
        by_cases hnx : u.D k < (V k).2.1
        · have d1 : decide (u.D k < (V k).2.1) = true := by simpa using hnx
          have HNX := Lib.hid (show u.D k < (os k).length by rw [HLN.out]; exact hnx)
          go_wp2_with fail
          refine (turn_any HM4.out.cl HM4.out.wk k hlt _ _ _ HPI.out (os k) ((HP.out.rd k hlt).keep HM4.out.kp (HP.out.off k hlt)) HLN.out (u.D k) rfl (u.K k) rfl hnx hlm HP.out.n1 HP.out.n2 (HM4.out.ku k) (HP.out.off k hlt) (k : Int)).mono ?_
          rintro e w4 ⟨rfl, hC3, hW3, hK3⟩
          have l1 := HP.out.lg
          have l2 := HP.out.lw
          have HOW := Lib.hid (ownsRow_keep HM4.out.ow hK3 (by simp; omega))
          have HK3 := Lib.hid (HM4.out.kp.trans hK3)
          have HC3 := Lib.hid hC3
          have HW3 := Lib.hid hW3
          have hfew := HM4.out.few HP.out
          clear hC3 hW3 hK3 l1 l2
          obtain ⟨g, hg⟩ : ∃ g, g = stG u.l ((os k).getD (u.D k) default) (u.K k) := ⟨_, rfl⟩
          rw [← hg]
          have HG := Lib.hid hg
          clear hg
          go_wp2_with (at_builtin; refine wpList_done rfl (.tmp 25) (.tmp 32) rfl rfl HC3.out HW3.out HK3.out HOW.out HP.out (k, u.D k, g) _ rfl rfl hfew ?_)
          intro A4 c4 w5 how hC4 hW4 hK4
          have HM5 := Lib.hid (tm_one HM4.out HP.out k hlt HNX.out hC4 hW4 hK4 (by rw [← HG.out]; exact how))
          have HY := Lib.hid (one_yes os u k HNX.out)
          have HL5 := Lib.hid (show (one os u k).out.length = u.out.length + 1 by rw [HY.out]; simp)
          have HD5 := Lib.hid (show (one os u k).D k = u.D k + 1 by rw [HY.out]; exact upd_same _ _ _)
          clear how hC4 hW4 hK4
          go_wp2
          go_roundw
          case rel =>
            refine ⟨j + 1, c4, A4, one os u k, by rw [HL5.out], ?_, by rw [HD5.out, HJ.out]; omega, by rw [HL5.out, HO.out]; omega, by rw [HL5.out]; exact HM5.out⟩
            rw [List.replicate_succ', many_append, ← HU.out]; rfl
          case measure =>
            have h1 := HJ.out
            have h2 := HO.out
            have h3 := HLN.out
            simp only [lenV]
            omega
        · have d1 : decide (u.D k < (V k).2.1) = false := by simpa using hnx
          have hle := HM4.out.dl k hlt
          have HS := Lib.hid (show u = many os s (restL os (k + 1)) by
            have e1 : (os k).length = j + ((os k).length - j) := by have := HJ.out; omega
            rw [restL_succ, many_append, ← HT.out, e1, ← List.replicate_append_replicate, many_append, ← HU.out]
            exact (many_stop os u k (by rw [HLN.out]; exact hnx) _).symm)
          go_wp2
          go_roundw
          case rel => exact ⟨k + 1, c3, A3, u, rfl, by go_num, by omega, HS.out, HM4.out⟩
          case measure => simp [intOf]; omega
    · obtain rfl : k = m := by omega
      go_wp2
      go_ret
      rw [many_append, ← HSS.out, ← HT.out]
      exact tout HB.out hgw' HM2.out
end
end Go.Proofs.Ytgengboaoniogaa
