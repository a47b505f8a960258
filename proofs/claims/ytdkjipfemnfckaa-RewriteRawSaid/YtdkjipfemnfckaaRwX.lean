/-
  A frame with other bytes behind it. Conditions stand in each theorem.
-/
import Derived.Test.YtdkjipfemnfckaaRwW
namespace Go.Proofs.Ytdkjipfemnfckaa
open Go.RowKit Plain
set_option linter.unusedVariables false
set_option maxRecDepth 100000
theorem own_max {w : World} {base : Nat} {A : Option Addr} {n c : Nat} {zs : List Int} (h : Own w base A n c zs) : c ≤ 9223372036854775807 := by
  rcases h.row.2 with ⟨e, _⟩ | ⟨g, cap, cur, e, _, _, _, hm, _⟩
  · injection e with _ _ e3; omega
  · injection e with _ _ e3
    unfold maxLen at hm; omega
structure ExtF (zs ts : List Int) : Prop where
  got : Got (zs ++ ts)
  fl : fld (zs ++ ts) = fld zs
  pe : pgE (fld zs) (zs ++ ts) = pgE (fld zs) zs
  pp : pgP (fld zs) (zs ++ ts) = pgP (fld zs) zs
  rw' : ∀ e A P, rwL (zs ++ ts) e A P = rwL zs e A P
theorem ext_same (zs ts : List Int) (hz : By zs) (ht : By ts) (hg : Got zs) (hl : (fld zs).len = (zs.length : Int)) : ExtF zs ts := by
  obtain ⟨⟨s0, s1⟩, ⟨l0, l1, l2⟩, hh, v4, sm, fr⟩ := hg
  have hn : 20 ≤ zs.length := by omega
  have htk : (zs ++ ts).take zs.length = zs := by rw [List.take_append_of_le_length (Nat.le_refl _), List.take_length]
  have hfl : fld (zs ++ ts) = fld zs := by rw [← fld_take (zs ++ ts) zs.length hn, htk]
  have hby : By (zs ++ ts) := hz.app ht
  have hlen : ((zs ++ ts).length : Int) = zs.length + ts.length := by rw [List.length_append]; omega
  have hgd : ∀ k, k < zs.length → (zs ++ ts).getD k 0 = zs.getD k 0 := fun k hk => by simp [List.getD, List.getElem?_append_left hk]
  have hb : bodyOf (fld zs) (zs ++ ts) = bodyOf (fld zs) zs := by
    unfold bodyOf
    rw [List.drop_append_of_le_length (by omega), List.take_append_of_le_length (by rw [List.length_drop]; omega)]
  have hc1 : ¬ ((fld zs).size < 20 ∨ 60 < (fld zs).size ∨ (fld zs).len < (fld zs).size ∨ ((zs ++ ts).length : Int) < (fld zs).len) := by omega
  have hc2 : ¬ ((fld zs).size < 20 ∨ 60 < (fld zs).size ∨ (fld zs).len < (fld zs).size ∨ (zs.length : Int) < (fld zs).len) := by omega
  have hgot : Got (zs ++ ts) := got_mk (zs ++ ts) hby (by rw [hfl]; exact s0) (by rw [hfl]; exact l0) (by rw [hfl]; exact l1) (by rw [hfl]; omega) (by rw [hgd 0 (by omega)]; exact v4)
    (by rw [hfl, List.take_append_of_le_length (by omega)]; exact sm) (by
      have : G16 (zs ++ ts) 6 = G16 zs 6 := by unfold G16; rw [hgd 6 (by omega), hgd 7 (by omega)]
      rw [this]; exact fr)
  have hpe : pgE (fld zs) (zs ++ ts) = pgE (fld zs) zs := by
    unfold pgE
    rw [hb, if_neg hc1, if_neg hc2]
  have hpp : pgP (fld zs) (zs ++ ts) = pgP (fld zs) zs := by
    unfold pgP
    rw [hb, if_neg hc1, if_neg hc2]
  refine ⟨hgot, hfl, hpe, hpp, fun e A P => ?_⟩
  unfold rwL
  rw [hfl, hpp]
  have h1 : (zs ++ ts).take (fld zs).len.toNat = zs := by rw [hl, Int.toNat_natCast, htk]
  have h2 : zs.take (fld zs).len.toNat = zs := by rw [hl, Int.toNat_natCast, List.take_length]
  rw [h1, h2]
theorem ExtF.rwE {zs ts : List Int} (h : ExtF zs ts) (hp : pgE (fld zs) zs = 0) : Go.Proofs.Ytdkjipfemnfckaa.rwE (zs ++ ts) = 0 := by
  unfold Go.Proofs.Ytdkjipfemnfckaa.rwE
  rw [if_neg (by rw [got_to _ h.got]; simp), h.fl, h.pe]
  exact hp
end Go.Proofs.Ytdkjipfemnfckaa
