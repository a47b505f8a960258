/-
  Package epoch: Given and Take. Conditions stand in each theorem.
-/
import Derived.Test.YtoeencklcemofaaEpDel
namespace Go.Proofs.Ytoeencklcemofaa
open Go.RowKit Go.Deep Plain
set_option linter.unusedVariables false
set_option maxRecDepth 100000

theorem giC_cons (x : Int × Int) (r : List (Int × Int)) : giC (x :: r) = Value.int .u64 x.1 :: Value.int .u64 x.2 :: giC r := rfl
theorem giC_at (gs : List (Int × Int)) : ∀ i, i < gs.length → (giC gs)[i * 2]? = some (.int .u64 (gs.getD i default).1) ∧ (giC gs)[i * 2 + 1]? = some (.int .u64 (gs.getD i default).2) := by
  induction gs with
  | nil => intro i hi; simp at hi
  | cons x r ih =>
    intro i hi
    rw [giC_cons]
    cases i with
    | zero => exact ⟨rfl, rfl⟩
    | succ i =>
      have h := ih i (by simpa using hi)
      rw [show (i + 1) * 2 = i * 2 + 2 by omega]
      exact h
theorem RdG.own {w : World} {base : Nat} {A : Option Addr} {k c : Nat} {gs : List (Int × Int)} (h : w.ownsRow base 142 2 (.slice A k c) k (giC gs)) (hk : gs.length = k) : RdG w A gs := by
  intro hp
  rcases h.2 with ⟨_, e⟩ | ⟨g, cap, cur, e, hb, hg, hcap, hmx, hsz, htk⟩
  · omega
  injection e with e1 e2 e3
  subst e1
  have hB : Blk w g 142 cur := hg
  refine ⟨g, 0, rfl, hB.lt, fun i hi => ?_⟩
  obtain ⟨h0, h1⟩ := giC_at gs i hi
  rw [← htk, List.getElem?_take, if_pos (by omega), Array.getElem?_toList] at h0 h1
  rw [hB.cell, hB.cell, Nat.zero_add]
  exact ⟨h0, h1⟩
theorem RdG.take {w : World} {A : Option Addr} {gs : List (Int × Int)} (h : RdG w A gs) (n : Nat) : RdG w A (gs.take n) := by
  intro hp
  rw [List.length_take] at hp
  obtain ⟨b, off, e, hl, hc⟩ := h (by omega)
  refine ⟨b, off, e, hl, fun i hi => ?_⟩
  rw [List.length_take] at hi
  have hv : (gs.take n).getD i default = gs.getD i default := by simp only [List.getD, List.getElem?_take]; rw [if_pos (by omega)]
  rw [hv]
  exact hc i (by omega)

theorem own_len (A : Option Addr) (k c k' c' : Nat) : (Value.slice A k c).ownBlock = (Value.slice A k' c').ownBlock := by cases A <;> rfl
/-- how many of the first ones are ripe -/
def ripeN (gs : List (Int × Int)) (now : Int) : Nat := (gs.takeWhile fun x => decide (x.2 + 2 ≤ now)).length
theorem ripeN_le (gs : List (Int × Int)) (now : Int) : ripeN gs now ≤ gs.length := (List.takeWhile_sublist _).length_le
theorem ripeN_eq (gs : List (Int × Int)) (now : Int) : ∀ k, RipeAt gs now k → k = ripeN gs now := by
  induction gs with
  | nil => intro k ⟨h, _, _⟩; simp at h; subst h; rfl
  | cons x r ih =>
    intro k ⟨h1, h2, h3⟩
    unfold ripeN
    rw [List.takeWhile_cons]
    cases k with
    | zero =>
      have := h3 (by simp)
      rw [if_neg (by simpa using this)]; rfl
    | succ k =>
      have := h2 0 (by omega)
      rw [if_pos (by simpa using this), List.length_cons]
      have := ih k ⟨by simpa using h1, fun j hj => h2 (j + 1) (by omega), fun hj => h3 (by simpa using hj)⟩
      unfold ripeN at this
      omega
theorem ripe_is (A : Option Addr) (n c : Nat) (gs : List (Int × Int)) (now : Int) (w : World) (hn : gs.length = n) (hnm : n ≤ 1000000) (hR : RdG w A gs) (hG : GOk gs) :
    Calls Try.prog 91 #[.slice A n c, .int .u64 now] w fun e w' => e = .returned (.int .i64 (ripeN gs now)) ∧ w' = w :=
  (ripe_any A n c gs now w hn hnm hR hG).mono fun e w' ⟨k, he, hr, hw⟩ => ⟨by rw [he, ripeN_eq gs now k hr], hw⟩


set_option maxHeartbeats 8000000 in
theorem eTake_any {w : World} {ge gc gn gg n base : Nat} {l : List Int} (h : EpB w ge gc gn gg n l) (i : Nat) (hi : i < n) (A : Option Addr) (k c : Nat) (gs : List (Int × Int)) (hk : gs.length = k) (hkm : k ≤ 100000) (cs : Array Value) (hbg : Blk w gg 140 cs) (ci : w.cell? ⟨gg, i, none⟩ = some (.slice A k c)) (how : w.ownsRow base 142 2 (.slice A k c) k (giC gs)) (hG : GOk gs)
    (hA : ∀ g, (Value.slice A k c).ownBlock = some g → g ≠ ge ∧ g ≠ gg) (r : Nat) (hr : r = ripeN gs (l.getD 0 0)) :
    Calls Try.prog 61 #[.pointer (some ⟨ge, 0, none⟩), .int .i64 i] w fun e w' => e = .returned (.slice (some ⟨w.heap.size, 0, none⟩) r r) ∧ Row .u64 24 w' w.heap.size ((gs.take r).map (·.1)) ∧ w'.ownsRow base 142 2 (.slice A ((k - r : Nat) : Nat) c) (k - r) (giC (gs.drop r)) ∧ Blk w' gg 140 (cs.setIfInBounds i (.slice A ((k - r : Nat) : Nat) c)) ∧ Keep (gg :: ownL (.slice A k c)) w w' := by
  have c1 := h.row
  have hn2 := h.n2
  have i0 : (i : Int) < (n : Int) := by omega
  have H := Lib.hid h
  have HI := Lib.hid (inC_nat hi)
  have hrk : r ≤ k := by rw [hr, ← hk]; exact ripeN_le _ _
  have kc : k ≤ c ∧ c ≤ maxLen := by
    rcases how.2 with ⟨e, _⟩ | ⟨g, cap, cur, e, _, _, h1, h2, _⟩
    · injection e with _ e1 e2; unfold maxLen; omega
    · injection e with _ e1 e2; omega
  unfold maxLen at kc
  obtain ⟨kc1, kc2⟩ := kc
  obtain ⟨nw, hnw⟩ : ∃ x, x = l.getD 0 0 := ⟨_, rfl⟩
  rw [← hnw] at hr
  have HNOW := Lib.hid (fun q => show Calls Try.prog 85 #[.pointer (some ⟨ge, 0, none⟩)] (w.drewN q) fun e w' => e = .returned (.int .u64 nw) ∧ w.drewN q = w' from by rw [hnw]; exact enow_any (h.drewN q))
  have HRI := Lib.hid (fun q => show Calls Try.prog 91 #[.slice A k c, .int .u64 nw] (w.drewN q) fun e w' => e = .returned (.int .i64 r) ∧ w.drewN q = w' from by rw [hr]; exact (ripe_is A k c gs nw (w.drewN q) hk (by omega) (RdG.own (w := w.drewN q) (base := base) how hk) hG).mono fun _ _ ⟨a, b⟩ => ⟨a, b.symm⟩)
  have HO := Lib.hid how
  have HBG := Lib.hid hbg
  have HBE := Lib.hid h.es
  have lg := hbg.lt
  have le := h.es.lt
  have hkr : (gs.take r).length = r := by rw [List.length_take]; omega
  have HKR := Lib.hid hkr
  have HK := Lib.hid hk
  have HA := Lib.hid hA
  clear h how hG hnw hbg hkr hk hA hr
  go_enter Try.func61, Try.ntmps61
  go_upto_region 3 with (go_at_call 86; refine (ehas_any H.out _).mono ?_; rintro e w' ⟨rfl, rfl⟩; rw [HI.out])
  go_quiet ((first | (go_at_call 85; exact quietB (HNOW.out _)) | (go_at_call 91; exact quietB (HRI.out _))))
  have r0 : (r : Int) ≤ (c : Int) := by omega
  have r1 : r ≤ c := by omega
  go_upto_region 5 with (go_at_call 92; refine (things_any A r c (gs.take r) _ HKR.out (by omega) ((RdG.own (w := w.drewN nq) (base := base) HO.out HK.out).take r)).mono ?_; rintro e w1 ⟨zs, rfl, hz, hrow, hb⟩)
  have sz : (w.drewN nq).heap.size = w.heap.size := rfl
  rw [sz] at hrow hb
  have hb' : Below w.heap.size w w1 := (bdrewN w nq).trans hb
  have e1 := Blk.below HBE.out hb'
  have d1 : w1.cell? ⟨ge, 1, none⟩ = some (.slice (some ⟨gg, 0, none⟩) n n) := e1.cell 1
  have b1 := Blk.below HBG.out hb'
  have d2 : w1.cell? ⟨gg, i, none⟩ = some (.slice A k c) := (b1.cell i).trans ((HBG.out.cell i).symm.trans ci)
  have HB1 := Lib.hid b1
  have HE1 := Lib.hid e1
  have HD := Lib.hid (fun q => del_any (w := w1.drewN q) A k c r gs HK.out hkm hrk (own_below HO.out (below_drewN hb' q)))
  have HBW := Lib.hid hb'
  have HROW := Lib.hid hrow
  have HZ := Lib.hid hz
  have ng : gg ∉ ownL (.slice A k c) := by
    intro hx
    unfold ownL at hx
    split at hx
    · rename_i g hg
      have := (HA.out g hg).2
      simp at hx; omega
    · simp at hx
  have ne : ge ∉ ownL (.slice A k c) := by
    intro hx
    unfold ownL at hx
    split at hx
    · rename_i g hg
      have := (HA.out g hg).1
      simp at hx; omega
    · simp at hx
  have NG := Lib.hid ng
  have NE := Lib.hid ne
  have hz0 : w.heap.size < w1.heap.size := hrow.lt
  have nz : w.heap.size ∉ ownL (.slice A k c) := by
    intro hx
    unfold ownL at hx
    split at hx
    · rename_i g hg
      have := (HO.out.lt g hg).2
      simp at hx; omega
    · simp at hx
  have NZ := Lib.hid nz
  have ggz : gg ≠ w.heap.size := by omega
  have GGZ := Lib.hid ggz
  clear hb hb' hrow hz ng ne e1 b1 sz c1 ci nz ggz HKR HNOW HRI
  go_region_law (first
    | (go_simp; go_at_call 93; refine (HD.out _).mono ?_; rintro e w2 ⟨rfl, hown2, hk2⟩; have bz := hk2.blk (Blk.drewN HB1.out _) NG.out; have be := hk2.blk (Blk.drewN HE1.out _) NE.out; have z1 := (bz.cell i).trans ((HB1.out.cell i).symm.trans d2); have z2 := bz.frozen i; have z3 := Blk.cell be 1))
  all_goals
    have HOW := Lib.hid (own_grown hown2 (grown_setCell w2 gg i (.slice A ((k - r : Nat) : Nat) c)) (fun g1 h1 h2 => by
      have := HA.out g1 ((own_len A k c _ c).trans h1)
      injection h2 with h2
      omega))
    have HBF := Lib.hid (Blk.set bz i (.slice A ((k - r : Nat) : Nat) c))
    have HKF := Lib.hid (((Keep.of_below (bs := gg :: ownL (.slice A k c)) HBW.out).trans (((Keep.refl (gg :: ownL (.slice A k c)) w1).drewN _).trans ((hk2.mono (fun x hx => List.mem_cons_of_mem _ hx)).setCell (p := ⟨gg, i, none⟩) (.inl (by simp)) (.slice A ((k - r : Nat) : Nat) c)))))
    have HRF := Lib.hid (show Row .u64 24 (w2.setCell ⟨gg, i, none⟩ (.slice A ((k - r : Nat) : Nat) c)) w.heap.size zs from Blk.ne (p := ⟨gg, i, none⟩) (hk2.blk (Blk.drewN HROW.out _) NZ.out) GGZ.out _)
    clear hown2 hk2 bz be z1 z2 z3 d1 d2
    generalize w2.setCell ⟨gg, i, none⟩ (.slice A ((k - r : Nat) : Nat) c) = w9 at *
    go_wp2
    go_ret
    rw [← HZ.out]
    exact ⟨rfl, HRF.out, HOW.out, HBF.out, HKF.out⟩
end Go.Proofs.Ytoeencklcemofaa
