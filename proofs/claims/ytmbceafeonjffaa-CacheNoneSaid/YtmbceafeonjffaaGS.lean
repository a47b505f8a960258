/-
  Several small texts in one: CaU, CaV, CaW. Conditions stand in each theorem.
-/
import Derived.Test.YtmbceafeonjffaaGR
namespace Go.Proofs.Ytmbceafeonjffaa
open Go.RowKit Go.Deep Plain
set_option linter.unusedVariables false
set_option linter.unusedSimpArgs false
set_option maxRecDepth 100000
theorem homF_lt {home : Nat} {s : Ps} (h : home < 100000) (h2 : s.wd < 100000) : homF home s < 100000 := by
  unfold homF
  split
  · exact h
  · exact h2
section
variable {w w' : World} {ga gp gc gn gs gb gt N home n c base k : Nat} {A : Option Addr} {zs Z H X l own : List Int}
/-- what it leaves -/
def StkOk (ga gp gc gn N k : Nat) (H : List Int) (P : List Int → Prop) (A : Option Addr) (n c base : Nat) (bs : List Nat) (w : World) (e : Ending) (w' : World) : Prop :=
  ∃ q : Nat, 1 ≤ q ∧ q ≤ 299 ∧ e = .returned (.int .i64 q) ∧ Keep bs w w' ∧ ∃ l' own' Z' A' c' n' home', P Z' ∧ home' < 100000 ∧ PoS w' gp gc gn N (k : Int) l' ∧ CaS w' ga gp home' A' n' c' Z' none base ∧ StkP N k l' own' Z' H ∧
    (∀ g, (Value.slice A' n' c').ownBlock = some g → (Value.slice A n c).ownBlock = some g ∨ w.heap.size ≤ g)
theorem stk_fill {g0 wd : Nat} (h : CaS w ga gp home A n c [] none base) (hp : PoS w gp gc gn N (k : Int) l) (ht : CsB w gt (some ga) (some gs)) (hs : StW w gs gc N ⟨1, wd, N, 8, List.replicate 32 0, 0, false, false, []⟩) (hN : N ≤ 32) (hk : k ≤ 32 * N) (hh : home < 100000) (hbase : base ≤ w.heap.size) (hst : StkP N k l own [] H) :
    Calls Try.prog 31 #[.pointer (some ⟨g0, 0, none⟩), .pointer (some ⟨gt, 0, none⟩)] w (StkOk ga gp gc gn N k H (fun Z' => Z'.length ≤ 8) A n c base (gt :: gn :: gs :: ga :: ownLs (.slice A n c)) w) := by
  have hn : n = 0 := h.row.len.symm
  have hwd := hs.ok.wd
  refine (cRun_some (g0 := g0) h hp ht hs hN (by omega) hbase (fun g q => by cases q)).mono ?_
  rintro e w' (⟨q, q1, q2, hx, hnd, rfl, hp2, ht2, hs2, hk2, A', c', n', hc2, hown⟩ | ⟨_, hnd, _⟩)
  · obtain ⟨m, rfl⟩ : ∃ m, q = m + 1 := ⟨q - 1, by omega⟩
    obtain ⟨own2, hst2⟩ := hst.fill (StO.take own wd N 8) hs.ok hp.cl.u64 hk hp.cl.len m (fun j a b => hnd j a b) hx
    have hw2 := hs2.ok.wd
    refine ⟨m + 1, q1, q2, rfl, hk2, _, own2, gotF (itP N l ⟨1, wd, N, 8, List.replicate 32 0, 0, false, false, []⟩ (m + 1)).2, A', c', n', _, MoP.got (MoP.many ⟨rfl, fun k => by rw [show (⟨1, wd, N, 8, List.replicate 32 0, 0, false, false, []⟩ : Ps).tk = 0 from rfl, numsF_zero]; simp⟩ _), ?_, hp2, (by simpa using hc2), hst2, hown⟩
    exact homF_lt hh (Nat.lt_of_lt_of_le hw2 (by omega))
  · obtain ⟨q, q1, q2, q3⟩ := tk_end (tkI_start (l := l) (mo := 8) hwd) (by simp) hN
    exact absurd q3 (hnd q (by omega) (by omega))
theorem stk_back {g0 : Nat} (h : CaS w ga gp home A n c Z (some gs) base) (hp : PoS w gp gc gn N (k : Int) l) (ht : CsB w gt (some ga) (some gs)) (hs : StW w gs gc N (backP (giftsF (k : Int) X))) (h1 : 1 ≤ N) (hN : N ≤ 32) (hk : k ≤ 32 * N) (hn : n ≤ 100000) (hh : home < 100000) (hbase : base ≤ w.heap.size) (hst : StkP N k l own (X ++ Z) H) (hX : 0 < X.length) :
    Calls Try.prog 31 #[.pointer (some ⟨g0, 0, none⟩), .pointer (some ⟨gt, 0, none⟩)] w (StkOk ga gp gc gn N k H (fun Z' => Z' = Z) A n c base (gt :: gn :: gs :: ga :: ownLs (.slice A n c)) w) := by
  have hb := hs.isb
  refine (cRun_some (g0 := g0) h hp ht hs hN hn hbase (fun g q => by cases q; exact hb)).mono ?_
  rintro e w' (⟨q, q1, q2, hx, hnd, rfl, hp2, ht2, hs2, hk2, A', c', n', hc2, hown⟩ | ⟨_, hnd, _⟩)
  · obtain ⟨m, rfl⟩ : ∃ m, q = m + 1 := ⟨q - 1, by omega⟩
    obtain ⟨htk, own2, hst2⟩ := hst.back hX h1 hN hp.cl.u64 hk hp.cl.len m (fun j a b => hnd j a b) hx
    have e1 : homF home (itP N l (backP (giftsF (k : Int) X)) (m + 1)).2 = home := by simp [homF, htk]
    have e2 : gotF (itP N l (backP (giftsF (k : Int) X)) (m + 1)).2 = [] := by simp [gotF, htk]
    rw [e1, e2, List.append_nil, if_pos rfl] at hc2
    exact ⟨m + 1, q1, q2, rfl, hk2, _, own2, Z, A', c', n', home, rfl, hh, hp2, hc2, hst2, hown⟩
  · have hk' : (k : Int) ≤ 32 * (N : Int) := by omega
    have hfew : (giftsF (k : Int) X).length ≤ 32 := by
      have := (GsI.all hN hk' X).few hN
      simpa [giftsF] using this
    by_cases e : (giftsF (k : Int) X).length = 0
    · refine absurd ?_ (hnd 1 (by omega) (by omega))
      have h0 : (backP (giftsF (k : Int) X)).nx = 0 := by
        show (if (giftsF (k : Int) X).length = 0 then 0 else 4) = 0
        rw [if_pos e]
      show (stpP N l (backP (giftsF (k : Int) X))).2.nx = 0
      unfold stpP
      rw [h0]
      exact h0
    · obtain ⟨j, j1, j2, j3⟩ := bk_end N ((giftsF (k : Int) X).length - 1) l (backP (giftsF (k : Int) X)) (by show (if (giftsF (k : Int) X).length = 0 then 0 else 4) = 4; rw [if_neg e]) (by show (giftsF (k : Int) X).length = _; omega) (by simp [backP]) (fun g hg => Nat.lt_of_lt_of_le (gifts_ok hN hk' X g hg).1 hN)
      exact absurd j3 (hnd j (by omega) (by omega))
end
end Go.Proofs.Ytmbceafeonjffaa

namespace Go.Proofs.Ytmbceafeonjffaa
open Go.RowKit Go.Deep Plain
set_option linter.unusedVariables false
set_option linter.unusedSimpArgs false
set_option maxRecDepth 100000
/-- two rows of one's own lie apart -/
def ApR (A : Option Addr) (n c : Nat) (B : Option Addr) (m d : Nat) : Prop := ∀ g, (Value.slice A n c).ownBlock = some g → (Value.slice B m d).ownBlock = some g → False
/-- the rest of a row that is read -/
theorem RdJ.drop {w : World} {A : Option Addr} {n c i : Nat} {zs : List Int} (h : RdJ w A n c zs) (hi : i < n) : ∃ B, (∀ b o, A = some ⟨b, o, none⟩ → B = some ⟨b, o + i, none⟩) ∧ RdJ w B (n - i) (c - i) (zs.drop i) := by
  obtain ⟨b, o, rfl, hl, hc⟩ := h.rd (by rw [h.len]; omega)
  refine ⟨some ⟨b, o + i, none⟩, fun b' o' e => by injection e with e; injection e with e1 e2; subst e1; subst e2; rfl, by rw [List.length_drop, h.len], fun hp => ⟨b, o + i, rfl, hl, fun j hj => ?_⟩, fun e => by cases e⟩
  rw [List.length_drop] at hj
  rw [Nat.add_assoc, hc (i + j) (by omega)]
  simp [List.getD]
structure StkV (w0 w : World) (ga gp gc gn N k home : Nat) (A : Option Addr) (n c : Nat) (Am : Option Addr) (nm cm : Nat) (Ah : Option Addr) (nh ch : Nat) (Z H l own : List Int) : Prop where
  po : PoS w gp gc gn N (k : Int) l
  ca : CaS w ga gp home A n c Z none w0.heap.size
  mi : OwJ w0.heap.size w Am nm cm Z
  he : OwJ w0.heap.size w Ah nh ch H
  st : StkP N k l own Z H
  a1 : ApR A n c Am nm cm
  a2 : ApR A n c Ah nh ch
  a3 : ApR Am nm cm Ah nh ch
  be : Below w0.heap.size w0 w
  bg : w0.heap.size ≤ ga ∧ w0.heap.size ≤ gp ∧ w0.heap.size ≤ gc ∧ w0.heap.size ≤ gn
  hm : home < 100000
section
variable {w0 w w' : World} {ga gp gc gn N k home n c nm cm nh ch : Nat} {A Am Ah : Option Addr} {Z H l own : List Int}
theorem ApR.symm {B : Option Addr} {m d : Nat} (h : ApR A n c B m d) : ApR B m d A n c := fun g a b => h g b a
theorem ApR.mem {B : Option Addr} {m d : Nat} (h : ApR A n c B m d) : ∀ g, (Value.slice A n c).ownBlock = some g → g ∉ ownLs (.slice B m d) := fun g hg hm => by
  unfold ownLs at hm
  split at hm
  · rename_i b hb
    obtain rfl : g = b := by simpa using hm
    exact h g hg hb
  · simp at hm
theorem StkV.below (h : StkV w0 w ga gp gc gn N k home A n c Am nm cm Ah nh ch Z H l own) (hb : Below w.heap.size w w') : StkV w0 w' ga gp gc gn N k home A n c Am nm cm Ah nh ch Z H l own :=
  ⟨h.po.below hb, h.ca.below hb, h.mi.below hb, h.he.below hb, h.st, h.a1, h.a2, h.a3, bthen h.be hb, h.bg, h.hm⟩
theorem StkV.drewN (h : StkV w0 w ga gp gc gn N k home A n c Am nm cm Ah nh ch Z H l own) (q : Nat) : StkV w0 (w.drewN q) ga gp gc gn N k home A n c Am nm cm Ah nh ch Z H l own := h.below (bdrewN w q)
/-- the law's own rows lie in none of the cache's blocks -/
theorem StkV.mine (h : StkV w0 w ga gp gc gn N k home A n c Am nm cm Ah nh ch Z H l own) : ∀ g, (Value.slice Am nm cm).ownBlock = some g → g ∉ ga :: ownLs (.slice A n c) := fun g hg hm => by
  rcases List.mem_cons.1 hm with e | e
  · exact h.mi.off h.ca.st (by decide) g hg (by simp [e])
  · exact h.a1.symm.mem g hg e
theorem StkV.held (h : StkV w0 w ga gp gc gn N k home A n c Am nm cm Ah nh ch Z H l own) : ∀ g, (Value.slice Ah nh ch).ownBlock = some g → g ∉ ga :: ownLs (.slice A n c) := fun g hg hm => by
  rcases List.mem_cons.1 hm with e | e
  · exact h.he.off h.ca.st (by decide) g hg (by simp [e])
  · exact h.a2.symm.mem g hg e
/-- nor in the pool's, nor in a Step's -/
theorem OwJ.offs {base gs gt : Nat} {ca ps : Option Nat} {s : Ps} {zs : List Int} (h : OwJ base w A n c zs) (hp : PoS w gp gc gn N (k : Int) l) (hs : StW w gs gc N s) (ht : CsB w gt ca ps) : ∀ g, (Value.slice A n c).ownBlock = some g → g ≠ gn ∧ g ≠ gs ∧ g ≠ gt := fun g hg => by
  obtain ⟨_, _, cur, q⟩ := own_blk h hg
  have q' : Blk w g 3 cur := q
  exact ⟨blkT q' hp.cl.nu (by decide), hs.typ q' (by decide), blkT q' ht (by decide)⟩
end
end Go.Proofs.Ytmbceafeonjffaa

namespace Go.Proofs.Ytmbceafeonjffaa
open Go.RowKit Go.Deep Plain
set_option linter.unusedVariables false
set_option linter.unusedSimpArgs false
set_option maxRecDepth 100000
section
variable {w0 w w' w1 : World} {ga gp gc gn N k home n c nm cm nh ch : Nat} {A Am Ah : Option Addr} {Z H l own : List Int} {e : Ending}
theorem ownLs_ge {base : Nat} {zs : List Int} (h : OwJ base w A n c zs) : ∀ g ∈ ownLs (.slice A n c), base ≤ g := fun g hg => by
  unfold ownLs at hg
  split at hg
  · rename_i b hb
    obtain rfl : g = b := by simpa using hg
    exact (own_blk h hb).1
  · simp at hg
/-- what lies there behind all -/
def EndOk (w0 : World) (ga gp gc gn N k : Nat) (H : List Int) (e : Ending) (w' : World) : Prop :=
  ∃ q : Nat, 1 ≤ q ∧ q ≤ 299 ∧ e = .returned (.int .i64 q) ∧ ∃ l' own' A' c' home', PoS w' gp gc gn N (k : Int) l' ∧ CaS w' ga gp home' A' 0 c' [] none w0.heap.size ∧ StkP N k l' own' [] H ∧ Below w0.heap.size w0 w'
theorem stk_flush {g0 : Nat} (h : StkV w0 w ga gp gc gn N k home A n c Am nm cm Ah nh ch Z H l own) (h1 : 1 ≤ N) (hN : N ≤ 32) (hk : k ≤ 32 * N) (hn : n ≤ 10000) (hm : MvOk ga gp gc gn N home (k : Int) A n c Z n none w0.heap.size w e w1) :
    ∃ gt, e = .returned (.pointer (some ⟨gt, 0, none⟩)) ∧ Calls Try.prog 31 #[.pointer (some ⟨g0, 0, none⟩), .pointer (some ⟨gt, 0, none⟩)] w1 (EndOk w0 ga gp gc gn N k H) := by
  obtain ⟨gt, A', c', n', rfl, hgt, hkp, hown, hcase⟩ := hm
  have hl : Z.length = n := h.ca.row.len
  have hwz : w0.heap.size ≤ w.heap.size := h.be.size
  have hb1 : Below w0.heap.size w0 w1 := hkp.below h.be (Nat.le_refl _) (fun x hx => by
    rcases List.mem_cons.1 hx with q | q
    · rw [q]; exact h.bg.1
    · exact ownLs_ge h.ca.row x q)
  have hp1 : PoS w1 gp gc gn N (k : Int) l := h.po.keepC h.ca hkp
  refine ⟨gt, rfl, ?_⟩
  rcases hcase with ⟨hz, ht, hc⟩ | ⟨_, hz, gb, hgb, ht, hc, hs⟩
  · have hn0 : n = 0 := by
      rcases hz with q | q
      · exact absurd rfl q
      · exact q
    have hZ : Z = [] := List.length_eq_zero_iff.1 (by omega)
    subst hZ
    have hn' : n' = 0 := hc.row.len.symm
    subst hn'
    refine (cRun_rest (g0 := g0) hc ht).mono ?_
    rintro e w2 ⟨rfl, ht2, hk2⟩
    refine ⟨1, by omega, by omega, rfl, l, own, A', c', home, hp1.oneK ht (by decide) (by decide) (by decide) hk2, hc.keep hk2 (by simpa using fun q => blkT ht hc.st (by decide) q.symm) (hc.row.off ht (by decide)), h.st, hk2.below hb1 (Nat.le_refl _) (fun x hx => by
      rw [List.mem_singleton] at hx; omega)⟩
  · have hX : Z.take n = Z := List.take_of_length_le (by omega)
    have hD : Z.drop n = [] := List.drop_eq_nil_of_le (by omega)
    rw [hX] at hs
    rw [hD] at hc
    have hn' : n' = 0 := hc.row.len.symm
    subst hn'
    have hst : StkP N k l own (Z ++ []) H := by rw [List.append_nil]; exact h.st
    refine (stk_back (g0 := g0) hc hp1 ht hs h1 hN hk (by omega) h.hm hb1.size hst (by omega)).mono ?_
    rintro e w2 ⟨q, q1, q2, rfl, hk2, l', own', Z', A2, c2, n2, home2, rfl, _, hp2, hc2, hst2, _⟩
    have hn2 : n2 = 0 := hc2.row.len.symm
    subst hn2
    refine ⟨q, q1, q2, rfl, l', own', A2, c2, home2, hp2, hc2, hst2, hk2.below hb1 (Nat.le_refl _) (fun x hx => ?_)⟩
    simp only [List.mem_cons] at hx
    rcases hx with q | q | q | q | q
    · omega
    · have := h.bg.2.2.2; omega
    · omega
    · have := h.bg.1; omega
    · exact ownLs_ge hc.row x q
end
end Go.Proofs.Ytmbceafeonjffaa
