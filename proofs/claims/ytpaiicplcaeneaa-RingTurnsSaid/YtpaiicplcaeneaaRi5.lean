/-
  Package fanlightlaw20: run: a step to its end; waits. Conditions stand in each theorem.
-/
import Derived.Test.YtpaiicplcaeneaaRi4
namespace Go.Proofs.Ytpaiicplcaeneaa
open Go.RowKit Plain
set_option linter.unusedVariables false
set_option maxRecDepth 100000
theorem nL_set {go pu : Nat} {vs : List Int} (i : Nat) (v : Int) : (nL go pu vs).set (2 + i) v = nL go pu (vs.set i v) := by rw [Nat.add_comm]; rfl
theorem nL_get {go pu : Nat} {vs : List Int} (i : Nat) : (nL go pu vs).getD (2 + i) 0 = vs.getD i 0 := by rw [Nat.add_comm]; rfl
section
variable {w : World} {gr gc gn N : Nat} {pu go : Nat} {vs : List Int} {P G : Option Nat} {p g : RSt} {v en : Int} {td : Bool} {a : Nat}
/-- Do of a Put, when all rests but for it -/
theorem doP1 (h : RgB w gr gc gn N pu go (nL go pu vs) P G ⟨1, v, en, td⟩ g) (ha : P = some a) (h1 : go ≤ pu) (h3 : pu ≤ 1000000) (s : RSt) (b : Bool) (hs : s = if N ≤ pu - go then ⟨0, v, 9, td⟩ else ⟨2, v, en, td⟩) (hb : (s.nx == 0) = b) :
    Calls Try.prog 15 #[.pointer (some ⟨gr, 0, none⟩), .pointer (some ⟨a, 0, none⟩)] w (DoOk w gr gc gn N pu go (nL go pu vs) P G s g [gr, gn, a] b) := by
  subst hs; subst hb
  exact do_put h ha (by omega) (put1 h ha go rfl h1 h3)
theorem doP2 (h : RgB w gr gc gn N pu go (nL go pu vs) P G ⟨2, v, en, td⟩ g) (ha : P = some a) (hv : U64 v) (h3 : pu ≤ 1000000) :
    Calls Try.prog 15 #[.pointer (some ⟨gr, 0, none⟩), .pointer (some ⟨a, 0, none⟩)] w (DoOk w gr gc gn N pu go (nL go pu (vs.set (pu % N) v)) P G ⟨3, v, en, td⟩ g [gr, gn, a] false) := by
  have := put2 h ha hv h3
  rw [nL_set] at this
  exact do_put h ha (by omega) this
theorem doP3 (h : RgB w gr gc gn N pu go (nL go pu vs) P G ⟨3, v, en, td⟩ g) (ha : P = some a) (h3 : pu ≤ 1000000) (m : Nat) (hm : m = pu + 1) :
    Calls Try.prog 15 #[.pointer (some ⟨gr, 0, none⟩), .pointer (some ⟨a, 0, none⟩)] w (DoOk w gr gc gn N m go (nL go m vs) P G ⟨0, v, 0, td⟩ g [gr, gn, a] true) :=
  do_put h ha (by omega) (put3 h ha rfl h3 m hm)
theorem doG4 (h : RgB w gr gc gn N pu go (nL go pu vs) P G p ⟨4, v, en, td⟩) (ha : G = some a) (s : RSt) (b : Bool) (hs : s = if pu = go then ⟨0, v, 7, td⟩ else ⟨5, v, en, td⟩) (hb : (s.nx == 0) = b) :
    Calls Try.prog 15 #[.pointer (some ⟨gr, 0, none⟩), .pointer (some ⟨a, 0, none⟩)] w (DoOk w gr gc gn N pu go (nL go pu vs) P G p s [gr, gn, a] b) := by
  subst hs; subst hb
  exact do_get h ha (by omega) (get4 h ha pu rfl)
theorem doG5 (h : RgB w gr gc gn N pu go (nL go pu vs) P G p ⟨5, v, en, td⟩) (ha : G = some a) (h3 : go ≤ 1000000) (x : Int) (hx : vs.getD (go % N) 0 = x) :
    Calls Try.prog 15 #[.pointer (some ⟨gr, 0, none⟩), .pointer (some ⟨a, 0, none⟩)] w (DoOk w gr gc gn N pu go (nL go pu vs) P G p ⟨6, x, en, td⟩ [gr, gn, a] false) :=
  do_get h ha (by omega) (get5 h ha x (by rw [nL_get]; exact hx) h3)
theorem doG6 (h : RgB w gr gc gn N pu go (nL go pu vs) P G p ⟨6, v, en, td⟩) (ha : G = some a) (h3 : go ≤ 1000000) (m : Nat) (hm : m = go + 1) :
    Calls Try.prog 15 #[.pointer (some ⟨gr, 0, none⟩), .pointer (some ⟨a, 0, none⟩)] w (DoOk w gr gc gn N pu m (nL m pu vs) P G p ⟨0, v, 0, true⟩ [gr, gn, a] true) :=
  do_get h ha (by omega) (get6 h ha rfl h3 m hm)

/-- what run leaves -/
def RunOk (w : World) (gr gc gn N pu go : Nat) (vs : List Int) (P G : Option Nat) (p g : RSt) (bs : List Nat) (en : Int) (e : Ending) (w' : World) : Prop :=
  e = .returned (.int .i64 en) ∧ RgB w' gr gc gn N pu go (nL go pu vs) P G p g ∧ Keep bs w w'
def PutR (w : World) (gr gc gn N pu go : Nat) (vs : List Int) (a : Nat) (G : Option Nat) (g : RSt) (v : Int) (k : Nat) (wt : World) : Prop :=
  ((k = 0 ∧ RgB wt gr gc gn N pu go (nL go pu vs) (some a) G ⟨1, v, 0, false⟩ g) ∨ (k = 1 ∧ RgB wt gr gc gn N pu go (nL go pu vs) (some a) G ⟨2, v, 0, false⟩ g) ∨ (k = 2 ∧ RgB wt gr gc gn N pu go (nL go pu (vs.set (pu % N) v)) (some a) G ⟨3, v, 0, false⟩ g)) ∧ Keep [gr, gn, a] w wt
def GetR (w : World) (gr gc gn N pu go : Nat) (vs : List Int) (a : Nat) (P : Option Nat) (p : RSt) (k : Nat) (wt : World) : Prop :=
  ((k = 0 ∧ RgB wt gr gc gn N pu go (nL go pu vs) P (some a) p ⟨4, 0, 0, false⟩) ∨ (k = 1 ∧ RgB wt gr gc gn N pu go (nL go pu vs) P (some a) p ⟨5, 0, 0, false⟩) ∨ (k = 2 ∧ RgB wt gr gc gn N pu go (nL go pu vs) P (some a) p ⟨6, vs.getD (go % N) 0, 0, false⟩)) ∧ Keep [gr, gn, a] w wt
set_option maxHeartbeats 2000000 in
theorem runP_any (h : RgB w gr gc gn N pu go (nL go pu vs) (some a) G ⟨1, v, 0, false⟩ g) (hv : U64 v) (h1 : go ≤ pu) (h3 : pu ≤ 1000000) (m : Nat) (hm : m = pu + 1) (hN : pu - go < N) :
    Calls Try.prog 28 #[.pointer (some ⟨gr, 0, none⟩), .pointer (some ⟨a, 0, none⟩)] w (RunOk w gr gc gn N m go (vs.set (pu % N) v) (some a) G ⟨0, v, 0, false⟩ g [gr, gn, a] 0) := by
  have H := Lib.hid h
  have HV := Lib.hid hv
  have HM := Lib.hid hm
  clear h hv hm
  go_enter Try.func28, Try.ntmps28
  go_wp2
  go_loopw [5] (fun s5 wt => ∃ k : Nat, s5 = .int .i64 k ∧ PutR w gr gc gn N pu go vs a G g v k wt) (fun k _ => 5 - (intOf k).toNat)
  case atStart => exact ⟨0, rfl, Or.inl ⟨rfl, H.out⟩, Keep.refl _ _⟩
  case round =>
    obtain ⟨k, rfl, hr, hk⟩ := hrel
    have HK := Lib.hid hk
    clear hk H
    rcases hr with ⟨rfl, hr⟩ | ⟨rfl, hr⟩ | ⟨rfl, hr⟩
    · have HC := Lib.hid (doP1 hr rfl h1 h3 ⟨2, v, 0, false⟩ false (by rw [if_neg (by omega)]) rfl)
      clear hr
      go_wp2_with (go_at_call 15; refine (HC.out).mono ?_; rintro e w2 ⟨rfl, hr2, hk2⟩; have HR2 := Lib.hid hr2; have HK2 := Lib.hid hk2; clear hr2 hk2)
      go_roundw
      case rel => exact ⟨1, rfl, Or.inr (Or.inl ⟨rfl, HR2.out⟩), HK.out.trans HK2.out⟩
      case measure => simp [intOf]
    · have HC := Lib.hid (doP2 hr rfl HV.out h3)
      clear hr
      go_wp2_with (go_at_call 15; refine (HC.out).mono ?_; rintro e w2 ⟨rfl, hr2, hk2⟩; have HR2 := Lib.hid hr2; have HK2 := Lib.hid hk2; clear hr2 hk2)
      go_roundw
      case rel => exact ⟨2, rfl, Or.inr (Or.inr ⟨rfl, HR2.out⟩), HK.out.trans HK2.out⟩
      case measure => simp [intOf]
    · have HC := Lib.hid (doP3 hr rfl h3 m HM.out)
      clear hr
      go_wp2_with (first | (go_at_call 15; refine (HC.out).mono ?_; rintro e w2 ⟨rfl, hr2, hk2⟩; have HR2 := Lib.hid hr2; have HK2 := Lib.hid hk2; clear hr2 hk2) | (go_at_call 19; refine (end_over (HR2.out.ps a rfl)).mono ?_; rintro e w3 ⟨rfl, rfl⟩))
      go_ret
      exact ⟨rfl, HR2.out, HK.out.trans HK2.out⟩
set_option maxHeartbeats 2000000 in
theorem runP_full (h : RgB w gr gc gn N pu go (nL go pu vs) (some a) G ⟨1, v, 0, false⟩ g) (h1 : go ≤ pu) (h3 : pu ≤ 1000000) (hN : N ≤ pu - go) :
    Calls Try.prog 28 #[.pointer (some ⟨gr, 0, none⟩), .pointer (some ⟨a, 0, none⟩)] w (RunOk w gr gc gn N pu go vs (some a) G ⟨0, v, 9, false⟩ g [gr, gn, a] 9) := by
  have HC := Lib.hid (doP1 h rfl h1 h3 ⟨0, v, 9, false⟩ true (by rw [if_pos (by omega)]) rfl)
  clear h
  go_enter Try.func28, Try.ntmps28
  go_wp2
  go_loopw [5] (fun s5 wt => s5 = .int .i64 0 ∧ wt = w) (fun k _ => 5 - (intOf k).toNat)
  case atStart => exact ⟨rfl, rfl⟩
  case round =>
    obtain ⟨rfl, rfl⟩ := hrel
    go_wp2_with (first | (go_at_call 15; refine (HC.out).mono ?_; rintro e w2 ⟨rfl, hr2, hk2⟩; have HR2 := Lib.hid hr2; have HK2 := Lib.hid hk2; clear hr2 hk2) | (go_at_call 19; refine (end_over (HR2.out.ps a rfl)).mono ?_; rintro e w3 ⟨rfl, rfl⟩))
    go_ret
    exact ⟨rfl, HR2.out, HK2.out⟩
set_option maxHeartbeats 2000000 in
theorem runG_any (h : RgB w gr gc gn N pu go (nL go pu vs) P (some a) p ⟨4, 0, 0, false⟩) (h3 : go ≤ 1000000) (m : Nat) (hm : m = go + 1) (hN : pu ≠ go) :
    Calls Try.prog 28 #[.pointer (some ⟨gr, 0, none⟩), .pointer (some ⟨a, 0, none⟩)] w (RunOk w gr gc gn N pu m vs P (some a) p ⟨0, vs.getD (go % N) 0, 0, true⟩ [gr, gn, a] 0) := by
  have H := Lib.hid h
  have HM := Lib.hid hm
  clear h hm
  go_enter Try.func28, Try.ntmps28
  go_wp2
  go_loopw [5] (fun s5 wt => ∃ k : Nat, s5 = .int .i64 k ∧ GetR w gr gc gn N pu go vs a P p k wt) (fun k _ => 5 - (intOf k).toNat)
  case atStart => exact ⟨0, rfl, Or.inl ⟨rfl, H.out⟩, Keep.refl _ _⟩
  case round =>
    obtain ⟨k, rfl, hr, hk⟩ := hrel
    have HK := Lib.hid hk
    clear hk H
    rcases hr with ⟨rfl, hr⟩ | ⟨rfl, hr⟩ | ⟨rfl, hr⟩
    · have HC := Lib.hid (doG4 hr rfl ⟨5, 0, 0, false⟩ false (by rw [if_neg hN]) rfl)
      clear hr
      go_wp2_with (go_at_call 15; refine (HC.out).mono ?_; rintro e w2 ⟨rfl, hr2, hk2⟩; have HR2 := Lib.hid hr2; have HK2 := Lib.hid hk2; clear hr2 hk2)
      go_roundw
      case rel => exact ⟨1, rfl, Or.inr (Or.inl ⟨rfl, HR2.out⟩), HK.out.trans HK2.out⟩
      case measure => simp [intOf]
    · have HC := Lib.hid (doG5 hr rfl h3 _ rfl)
      clear hr
      go_wp2_with (go_at_call 15; refine (HC.out).mono ?_; rintro e w2 ⟨rfl, hr2, hk2⟩; have HR2 := Lib.hid hr2; have HK2 := Lib.hid hk2; clear hr2 hk2)
      go_roundw
      case rel => exact ⟨2, rfl, Or.inr (Or.inr ⟨rfl, HR2.out⟩), HK.out.trans HK2.out⟩
      case measure => simp [intOf]
    · have HC := Lib.hid (doG6 hr rfl h3 m HM.out)
      clear hr
      go_wp2_with (first | (go_at_call 15; refine (HC.out).mono ?_; rintro e w2 ⟨rfl, hr2, hk2⟩; have HR2 := Lib.hid hr2; have HK2 := Lib.hid hk2; clear hr2 hk2) | (go_at_call 19; refine (end_over (HR2.out.gs a rfl)).mono ?_; rintro e w3 ⟨rfl, rfl⟩))
      go_ret
      exact ⟨rfl, HR2.out, HK.out.trans HK2.out⟩
set_option maxHeartbeats 2000000 in
theorem runG_none (h : RgB w gr gc gn N pu go (nL go pu vs) P (some a) p ⟨4, 0, 0, false⟩) (hN : pu = go) :
    Calls Try.prog 28 #[.pointer (some ⟨gr, 0, none⟩), .pointer (some ⟨a, 0, none⟩)] w (RunOk w gr gc gn N pu go vs P (some a) p ⟨0, 0, 7, false⟩ [gr, gn, a] 7) := by
  have HC := Lib.hid (doG4 h rfl ⟨0, 0, 7, false⟩ true (by rw [if_pos hN]) rfl)
  clear h hN
  go_enter Try.func28, Try.ntmps28
  go_wp2
  go_loopw [5] (fun s5 wt => s5 = .int .i64 0 ∧ wt = w) (fun k _ => 5 - (intOf k).toNat)
  case atStart => exact ⟨rfl, rfl⟩
  case round =>
    obtain ⟨rfl, rfl⟩ := hrel
    go_wp2_with (first | (go_at_call 15; refine (HC.out).mono ?_; rintro e w2 ⟨rfl, hr2, hk2⟩; have HR2 := Lib.hid hr2; have HK2 := Lib.hid hk2; clear hr2 hk2) | (go_at_call 19; refine (end_over (HR2.out.gs a rfl)).mono ?_; rintro e w3 ⟨rfl, rfl⟩))
    go_ret
    exact ⟨rfl, HR2.out, HK2.out⟩
end
end Go.Proofs.Ytpaiicplcaeneaa
