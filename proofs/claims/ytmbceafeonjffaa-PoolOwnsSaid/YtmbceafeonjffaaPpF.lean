/-
  Package pool: gifts. Conditions stand in each theorem.
-/
import Derived.Test.YtmbceafeonjffaaPpE
namespace Go.Proofs.Ytmbceafeonjffaa
open Go.RowKit Go.Deep Plain
set_option linter.unusedVariables false
set_option linter.unusedSimpArgs false
set_option maxRecDepth 100000
theorem bits_or32 (x y : Nat) (hx : x < 4294967296) (hy : y < 4294967296) : bits .or .u32 (x : Int) (y : Int) = ((x ||| y : Nat) : Int) := by
  have hX : (BitVec.ofInt 32 (x : Int)).toNat = x := by simp; omega
  have hY : (BitVec.ofInt 32 (y : Int)).toNat = y := by simp; omega
  have h : x ||| y < 2 ^ 32 := Nat.or_lt_two_pow hx hy
  show IntKind.u32.wrap ((BitVec.ofInt 32 (x : Int) ||| BitVec.ofInt 32 (y : Int)).toNat : Nat) = _
  rw [BitVec.toNat_or, hX, hY, IntKind.wrap_u32]
  omega
theorem pow32 (i : Nat) (hi : i < 32) : (2 ^ i : Int) % 4294967296 = ((2 ^ i : Nat) : Int) := by
  have h : 2 ^ i < 2 ^ 32 := Nat.pow_lt_pow_right (by decide) hi
  have e : (2 ^ i : Int) = ((2 ^ i : Nat) : Int) := by simp
  rw [e]
  generalize 2 ^ i = q at *
  omega
/-- a slice of ints that reads as a list -/
def RdI (w : World) (A : Option Addr) (zs : List Int) : Prop :=
  0 < zs.length → ∃ b off, A = some ⟨b, off, none⟩ ∧ b < w.heap.size ∧ ∀ j, j < zs.length → w.cell? ⟨b, off + j, none⟩ = some (.int .i64 (zs.getD j 0))
theorem RdI.below {w w' : World} {A : Option Addr} {zs : List Int} (h : RdI w A zs) (hb : Below w.heap.size w w') : RdI w' A zs := fun hp => by
  obtain ⟨b, off, e, hl, hc⟩ := h hp
  exact ⟨b, off, e, Nat.lt_of_lt_of_le hl hb.size, fun j hj => (hb.cell (p := ⟨b, off + j, none⟩) hl).trans (hc j hj)⟩
theorem OwI.rdI {base n c : Nat} {w : World} {A : Option Addr} {zs : List Int} (h : OwI base w A n c zs) : RdI w A zs := fun hp => by
  obtain ⟨_, g, e, hl, _, hc⟩ := h.rd (by rw [← h.len]; exact hp)
  exact ⟨g, 0, e, hl, fun j hj => by rw [Nat.zero_add]; exact hc j (by rw [← h.len]; exact hj)⟩
theorem OwI.apart {base n c : Nat} {w : World} {A : Option Addr} {zs : List Int} (h : OwI base w A n c zs) {b : Nat} {t : TypeId} {cs : Array Value} (hb : Blk w b t cs) (ht : t ≠ 3) : b ∉ ownLs (.slice A n c) := fun hx => by
  unfold ownLs at hx
  split at hx
  · rename_i g hg
    obtain rfl : b = g := by simpa using hx
    obtain ⟨_, _, cur, q⟩ := own_blk h.row hg
    exact blkT hb (show Blk w b 3 cur from q) ht rfl
  · simp at hx
theorem RdI.of_n {k : Int} {w : World} {A : Option Addr} {zs : List Int} (h : RdN .i64 w A zs) : RdI w A zs := h.2
def gC (L : List (Nat × Int)) : List Value := L.flatMap fun g => [.int .i64 g.1, .int .u32 g.2]
theorem gC_len (L : List (Nat × Int)) : (gC L).length = L.length * 2 := by
  unfold gC
  induction L with
  | nil => rfl
  | cons o l ih => simp only [List.flatMap_cons, List.length_append, ih]; simp; omega
theorem gC_at : ∀ (L : List (Nat × Int)) (i : Nat), i < L.length → (gC L)[i * 2]? = some (.int .i64 (L.getD i (0, 0)).1) ∧ (gC L)[i * 2 + 1]? = some (.int .u32 (L.getD i (0, 0)).2)
  | [], i, h => absurd h (by simp)
  | g :: L, 0, _ => ⟨rfl, rfl⟩
  | g :: L, i + 1, h => by
    have e := gC_at L i (by simpa using h)
    have e1 : gC (g :: L) = .int .i64 g.1 :: .int .u32 g.2 :: gC L := rfl
    rw [e1, show (i + 1) * 2 = i * 2 + 1 + 1 by omega]
    simpa [List.getD] using e
theorem gC_set : ∀ (L : List (Nat × Int)) (i : Nat) (a : Nat) (b : Int), ((gC L).set (i * 2) (.int .i64 a)).set (i * 2 + 1) (.int .u32 b) = gC (L.set i (a, b))
  | [], i, a, b => rfl
  | g :: L, 0, a, b => rfl
  | g :: L, i + 1, a, b => by
    have e := gC_set L i a b
    have e1 : gC (g :: L) = .int .i64 g.1 :: .int .u32 g.2 :: gC L := rfl
    rw [e1, show (i + 1) * 2 = i * 2 + 1 + 1 by omega]
    simp only [List.set_cons_succ]
    rw [e]
    rfl
theorem gC_rep : ∀ n : Nat, gC (List.replicate n (0, 0)) = (List.replicate n [Value.int .i64 0, .int .u32 0]).flatten
  | 0 => rfl
  | n + 1 => by
    have e := gC_rep n
    rw [List.replicate_succ, List.replicate_succ, List.flatten_cons, ← e]
    rfl
theorem infoG : (Try.prog.info? 81).map (fun i => (i.zero, i.size, i.bytes)) = some (some (.agg #[.int .i64 0, .int .u32 0]), 2, 16) := by kernel_rfl
theorem made_g (n : Nat) : madeCells #[.int .i64 0, .int .u32 0] (n * 2) = (gC (List.replicate n (0, 0))).toArray := by
  apply Array.ext_getElem?
  intro j
  have hl : (gC (List.replicate n (0, 0))).length = n * 2 := by rw [gC_len, List.length_replicate]
  by_cases hj : j < n * 2
  · obtain ⟨q1, q2⟩ := gC_at (List.replicate n (0, 0)) (j / 2) (by rw [List.length_replicate]; omega)
    have hz : (List.replicate n ((0 : Nat), (0 : Int))).getD (j / 2) (0, 0) = (0, 0) := by simp [List.getD, List.getElem?_replicate, show j / 2 < n by omega]
    rw [hz] at q1 q2
    unfold madeCells
    rcases Nat.mod_two_eq_zero_or_one j with e | e
    · rw [show j / 2 * 2 = j by omega] at q1
      simp [hj, q1, e]
    · rw [show j / 2 * 2 + 1 = j by omega] at q2
      simp [hj, q2, e]
  · rw [Array.getElem?_eq_none (by unfold madeCells; simp; omega), Array.getElem?_eq_none (by simp [hl]; omega)]
theorem run_mkG (n : Nat) (hn : n ≤ 1000000) (w : World) : (Instr.makeSlice 76 (.int .i64 n) (.int .i64 n)).run Try.prog w = .ok (.slice (some ⟨w.heap.size, 0, none⟩) n n) (w.alloc (.cells (gC (List.replicate n (0, 0))).toArray 81)) := by
  obtain ⟨i, hi, hz, hs, hb⟩ := info_parts infoG
  have h := run_make (P := Try.prog) w 76 81 i _ Try.underlying76 hi hz .i64 .i64 n n (by omega) (by omega) (by rw [hb]; omega) (by omega)
  rw [hs, Int.toNat_natCast, show (Value.agg #[.int .i64 0, .int .u32 0]).cells = #[Value.int .i64 0, .int .u32 0] from rfl, made_g] at h
  exact h
set_option maxHeartbeats 8000000 in
theorem gifts_any {w : World} {gp gc gn n : Nat} {size : Int} {l : List Int} (h : PoS w gp gc gn n size l) (hn : n ≤ 32) (hs : size ≤ 32 * (n : Int)) {A : Option Addr} {len cap : Nat} {zs : List Int} (hr : RdI w A zs) (hl : zs.length = len) (hlm : len ≤ 1000000) :
    Calls Try.prog 42 #[.pointer (some ⟨gp, 0, none⟩), .slice A len cap] w fun e w' => ∃ gl m, e = .returned (.slice (some ⟨gl, 0, none⟩) m m) ∧ w.heap.size ≤ gl ∧ gl < w'.heap.size ∧ (∀ gs, gs ≠ gl → GiR w' gs (.slice (some ⟨gl, 0, none⟩) m m) (giftsF size zs)) ∧ Below w.heap.size w w' := by
  obtain ⟨G, hGG⟩ : ∃ G, giftsF size zs = G := ⟨_, rfl⟩
  rw [hGG]
  have HGG := Lib.hid hGG
  clear hGG
  have HR := Lib.hid hr
  have HP := Lib.hid h
  have HL := Lib.hid hl
  clear hr h hl
  go_enter Try.func42, Try.ntmps42
  go_upto_region 4 with fail
  have hal := ball w (.cells ((List.replicate 32 (0 : Int)).map (Value.int .u32)).toArray 110)
  have HS0 := Lib.hid (show Row .u32 110 (w.alloc (.cells ((List.replicate 32 (0 : Int)).map (Value.int .u32)).toArray 110)) w.heap.size (List.replicate 32 0) from Blk.new w _ _)
  have HB0 := Lib.hid hal
  clear hal
  go_loopw [6, 15] (fun s6 s15 wr => ∃ i : Nat, ∃ A' m c, i ≤ len ∧ s15 = .int .i64 i ∧ s6 = .slice A' m c ∧ OwI w.heap.size wr A' m c (gstI size zs i).1 ∧ Row .u32 110 wr w.heap.size (gstI size zs i).2 ∧ Below w.heap.size w wr) (fun _ s15 _ => len - (intOf s15).toNat)
  case atStart => exact ⟨0, none, 0, 0, Nat.zero_le _, rfl, rfl, OwI.nil _ _, HS0.out, HB0.out⟩
  case round =>
    obtain ⟨i, A', m, c, hi, rfl, rfl, hI, hS, hB⟩ := hrel
    have hG := GsI.at hn hs zs i (by rw [HL.out]; exact hi)
    have hm : m ≤ 32 := by have := hI.len; have := hG.few hn; omega
    have hslen := hG.len
    have hrng := hG.rng
    have HI := Lib.hid hI
    have HS := Lib.hid hS
    have HB := Lib.hid hB
    clear hI hS hB hG HS0 HB0
    by_cases hlt : i < len
    · have d : decide ((i : Int) < (len : Int)) = true := decide_eq_true (by omega)
      have HSu := Lib.hid (gstI_succ size zs i (by rw [HL.out]; exact hlt))
      obtain ⟨b, off, rfl, hbl, hc⟩ := HR.out (by rw [HL.out]; omega)
      obtain ⟨x, hx⟩ : ∃ x, zs.getD i 0 = x := ⟨_, rfl⟩
      have k0 : wr.cell? ⟨b, off + i, none⟩ = some (.int .i64 x) := by rw [HB.out.cell (p := ⟨b, off + i, none⟩) hbl, hc i (by rw [HL.out]; exact hlt), hx]
      rw [hx] at HSu
      clear hc hx
      generalize gstI size zs i = st at *
      obtain ⟨od, ss⟩ := st
      simp only at HI HS hslen hrng HSu
      have HAS := Lib.hid (phas_any (HP.out.below HB.out) x)
      by_cases hx : 0 ≤ x ∧ x < size
      · have d2 : decide (0 ≤ x ∧ x < size) = true := decide_eq_true hx
        rw [d2] at HAS
        obtain ⟨y, rfl⟩ : ∃ y : Nat, x = y := ⟨x.toNat, by omega⟩
        have hy : y < 1024 := by omega
        obtain ⟨k, hk⟩ : ∃ k : Nat, y / 32 = k := ⟨_, rfl⟩
        have hk32 : k < 32 := by omega
        have hki : (k : Int) < 32 := by omega
        have hkd : (y : Int) / 32 = (k : Int) := by omega
        obtain ⟨s, hsv⟩ : ∃ s : Nat, ss.getD k 0 = s := ⟨(ss.getD k 0).toNat, by have := hrng k; omega⟩
        have hsb : s < 4294967296 := by have := (hrng k).2; omega
        have k1 : wr.cell? ⟨w.heap.size, k, none⟩ = some (.int .u32 s) := by rw [HS.out.at (by rw [hslen]; exact hk32), hsv]
        obtain ⟨v, hv⟩ : ∃ v : Nat, s ||| 2 ^ (y % 32) = v := ⟨_, rfl⟩
        have hp := pow32 (y % 32) (Nat.mod_lt _ (by decide))
        have hpl : 2 ^ (y % 32) < 4294967296 := Nat.pow_lt_pow_right (by decide) (Nat.mod_lt y (by decide : 0 < 32))
        have hor := bits_or32 s (2 ^ (y % 32)) hsb hpl
        rw [hv, ← hp] at hor
        have HGS := Lib.hid (show gstep size (od, ss) (y : Int) = (if s = 0 then od ++ [(k : Int)] else od, ss.set k (v : Int)) by
          unfold gstep
          rw [if_pos hx]
          simp only [show ((y : Int) / 32).toNat = k by omega, show ((y : Int) % 32).toNat = y % 32 by omega, hsv, Int.toNat_natCast, hv, hkd]
          by_cases q : s = 0
          · rw [if_pos q, if_pos (by omega)]
          · rw [if_neg q, if_neg (by omega)])
        clear hx d2 hp hpl hv
        by_cases he : s = 0
        · have d3 : ((s : Int) == 0) = true := by simp [he]
          have HST := Lib.hid (show gstep size (od, ss) (y : Int) = (od ++ [(k : Int)], ss.set k (v : Int)) by rw [HGS.out, if_pos he])
          have HWV := Lib.hid (show bits .or .u32 0 (2 ^ (y % 32) % 4294967296) = (v : Int) by rw [he] at hor; exact hor)
          have HZ := Lib.hid HB.out.size
          clear hor
          go_upto_region 10 with (first | (go_at_call 60; refine (HAS.out).mono ?_; rintro e w2 ⟨rfl, rfl⟩) | (at_builtin; refine wpList_addI rfl (.tmp 29) (.tmp 31) rfl rfl (HI.out) (HB.out) (HZ.out) (k : Int) (by omega) _ rfl rfl ?_; intro A2 c2 w' hI' hB' hK'; have HI1 := Lib.hid hI'; have HB1 := Lib.hid hB'; have HS1 := Lib.hid (hK'.row HS.out (HI.out.apart HS.out (by decide))); clear hI' hB' hK'))
          have k2 : w'.cell? ⟨w.heap.size, k, none⟩ = some (.int .u32 s) := by rw [HS1.out.at (by rw [hslen]; exact hk32), hsv]
          have f2 : w'.frozen? ⟨w.heap.size, k, none⟩ = false := HS1.out.free k
          clear k1
          go_region
          rw [HWV.out]
          have HI2 := Lib.hid (HI1.out.keep (((Keep.refl [w.heap.size] w').setCell (p := ⟨w.heap.size, k, none⟩) (.inl (by simp)) (.int .u32 (v : Int))).drew) (fun g hg cs hc => by rw [List.mem_singleton] at hg; subst hg; exact blkT hc HS1.out (by decide) rfl))
          have HS2 := Lib.hid (show Row .u32 110 ((w'.setCell ⟨w.heap.size, k, none⟩ (.int .u32 (v : Int))).drew) w.heap.size (ss.set k (v : Int)) from Blk.drew (HS1.out.set k (v : Int)))
          have HB2 := Lib.hid ((HB1.out.setCell (p := ⟨w.heap.size, k, none⟩) (Nat.le_refl _) (.int .u32 (v : Int))).drew)
          clear k2 f2 HI1 HS1 HB1
          generalize (w'.setCell ⟨w.heap.size, k, none⟩ (.int .u32 (v : Int))).drew = w5 at *
          go_wp2
          go_roundw
          case rel => exact ⟨i + 1, A2, m + 1, c2, by omega, by go_num, by first | rfl | (simp; done), by rw [HSu.out, HST.out]; exact HI2.out, by rw [HSu.out, HST.out]; exact HS2.out, HB2.out⟩
          case measure => simp [intOf]; omega
        · have d3 : ((s : Int) == 0) = false := by simp [he]
          have HST := Lib.hid (show gstep size (od, ss) (y : Int) = (od, ss.set k (v : Int)) by rw [HGS.out, if_neg he])
          have HWV := Lib.hid hor
          have HI1 := HI
          have HS1 := HS
          have HB1 := HB
          clear hor he
          go_upto_region 10 with (first | (go_at_call 60; refine (HAS.out).mono ?_; rintro e w2 ⟨rfl, rfl⟩))
          have k2 : wr.cell? ⟨w.heap.size, k, none⟩ = some (.int .u32 s) := by rw [HS1.out.at (by rw [hslen]; exact hk32), hsv]
          have f2 : wr.frozen? ⟨w.heap.size, k, none⟩ = false := HS1.out.free k
          clear k1
          go_region
          rw [HWV.out]
          have HI2 := Lib.hid (HI1.out.keep (((Keep.refl [w.heap.size] wr).setCell (p := ⟨w.heap.size, k, none⟩) (.inl (by simp)) (.int .u32 (v : Int))).drew) (fun g hg cs hc => by rw [List.mem_singleton] at hg; subst hg; exact blkT hc HS1.out (by decide) rfl))
          have HS2 := Lib.hid (show Row .u32 110 ((wr.setCell ⟨w.heap.size, k, none⟩ (.int .u32 (v : Int))).drew) w.heap.size (ss.set k (v : Int)) from Blk.drew (HS1.out.set k (v : Int)))
          have HB2 := Lib.hid ((HB1.out.setCell (p := ⟨w.heap.size, k, none⟩) (Nat.le_refl _) (.int .u32 (v : Int))).drew)
          clear k2 f2 HI1 HS1 HB1
          generalize (wr.setCell ⟨w.heap.size, k, none⟩ (.int .u32 (v : Int))).drew = w5 at *
          go_wp2
          go_roundw
          case rel => exact ⟨i + 1, A', m, c, by omega, by go_num, by first | rfl | (simp; done), by rw [HSu.out, HST.out]; exact HI2.out, by rw [HSu.out, HST.out]; exact HS2.out, HB2.out⟩
          case measure => simp [intOf]; omega
      · have d2 : decide (0 ≤ x ∧ x < size) = false := decide_eq_false hx
        rw [d2] at HAS
        have HS1 := Lib.hid (show gstep size (od, ss) x = (od, ss) from if_neg hx)
        clear hx d2
        go_wp2_with (go_at_call 60; refine (HAS.out).mono ?_; rintro e w2 ⟨rfl, rfl⟩)
        go_roundw
        case rel => exact ⟨i + 1, A', m, c, by omega, by go_num, rfl, by rw [HSu.out, HS1.out]; exact HI.out, by rw [HSu.out, HS1.out]; exact HS.out, HB.out⟩
        case measure => simp [intOf]; omega
    · have d : decide ((i : Int) < (len : Int)) = false := decide_eq_false (by omega)
      obtain rfl : i = len := by omega
      have HG := Lib.hid (GsI.all hn hs zs)
      have HGF := Lib.hid (show G = (gstI size zs i).1.map fun k => (k.toNat, (gstI size zs i).2.getD k.toNat 0) by rw [← HGG.out]; unfold giftsF; rw [HL.out])
      rw [HL.out] at HG
      generalize gstI size zs i = st at *
      obtain ⟨od, ss⟩ := st
      simp only at HI HS hslen hrng HGF
      have hodl := HI.out.len
      have hmk := run_mkG m (by omega) wr
      have hGl : G.length = m := by rw [HGF.out, List.length_map, hodl]
      have hGat : ∀ j, j < m → ∃ k : Nat, k < 32 ∧ od.getD j 0 = (k : Int) ∧ G.getD j (0, 0) = (k, ss.getD k 0) := fun j hj => by
        have hjo : j < od.length := by omega
        have e1 : od.getD j 0 = od[j] := by simp [List.getD, hjo]
        have h1 := (HG.out.ord _).1 (List.getElem_mem hjo)
        have h2 := HG.out.low _ (List.getElem_mem hjo)
        refine ⟨od[j].toNat, by omega, by rw [e1]; omega, ?_⟩
        rw [HGF.out]
        simp [List.getD, hjo]
      have HGA := Lib.hid hGat
      clear hGat HGF HG HGG
      have hal := ball wr (.cells (gC (List.replicate m (0, 0))).toArray 81)
      have HI1 := Lib.hid (HI.out.below hal)
      have HS1 := Lib.hid (HS.out.below hal)
      have HB1 := Lib.hid (bthen HB.out hal)
      have HK1 := Lib.hid (Blk.new wr 81 (gC (List.replicate m (0, 0))).toArray)
      have hwz := HB.out.size
      clear hal
      go_upto_region 14 with fail
      generalize wr.alloc (.cells (gC (List.replicate m (0, 0))).toArray 81) = w1 at *
      generalize wr.heap.size = gl at *
      go_loopw [47] (fun s47 wr2 => ∃ j : Nat, j ≤ m ∧ s47 = .int .i64 j ∧ Keep [gl] w1 wr2 ∧ Blk wr2 gl 81 (gC (G.take j ++ List.replicate (m - j) (0, 0))).toArray) (fun s47 _ => m - (intOf s47).toNat)
      case atStart => exact ⟨0, Nat.zero_le _, rfl, Keep.refl _ _, by simpa using HK1.out⟩
      case round =>
        obtain ⟨j, hj, rfl, hk, hbk⟩ := hrel
        have HK := Lib.hid hk
        have HG2 := Lib.hid hbk
        clear hk hbk
        have hI2 := HI1.out.keep HK.out (fun g hg cs hc => by rw [List.mem_singleton] at hg; subst hg; exact blkT hc HK1.out (by decide) rfl)
        have hS2 := HK.out.row HS1.out (by simpa using blkT HS1.out HK1.out (by decide))
        by_cases hlj : j < m
        · have d : decide ((j : Int) < (m : Int)) = true := decide_eq_true (by omega)
          obtain ⟨k, hk32, hko, hkG⟩ := HGA.out j hlj
          obtain ⟨_, go, rfl, hgo, _, hco⟩ := hI2.rd (by omega)
          have k0 : wr.cell? ⟨go, j, none⟩ = some (.int .i64 k) := by rw [hco j hlj, hko]
          obtain ⟨s, hsv⟩ : ∃ s : Nat, ss.getD k 0 = s := ⟨(ss.getD k 0).toNat, by have := hrng k; omega⟩
          have k1 : wr.cell? ⟨w.heap.size, k, none⟩ = some (.int .u32 s) := by rw [hS2.at (by rw [hslen]; exact hk32), hsv]
          have f0 : wr.frozen? ⟨gl, j * 2, none⟩ = false := HG2.out.frozen _
          have f1 : wr.frozen? ⟨gl, j * 2 + 1, none⟩ = false := HG2.out.frozen _
          have hln : (gC (G.take j ++ List.replicate (m - j) (0, 0))).length = m * 2 := by rw [gC_len]; simp; omega
          obtain ⟨q1, q2⟩ := gC_at (G.take j ++ List.replicate (m - j) (0, 0)) j (by simp; omega)
          have k2 : wr.cell? ⟨gl, j * 2, none⟩ = some (.int .i64 ((G.take j ++ List.replicate (m - j) (0, 0)).getD j (0, 0)).1) := by rw [HG2.out.cell]; simpa using q1
          have k3 : wr.cell? ⟨gl, j * 2 + 1, none⟩ = some (.int .u32 ((G.take j ++ List.replicate (m - j) (0, 0)).getD j (0, 0)).2) := by rw [HG2.out.cell]; simpa using q2
          generalize ((G.take j ++ List.replicate (m - j) (0, 0)).getD j (0, 0)).1 = o1 at *
          generalize ((G.take j ++ List.replicate (m - j) (0, 0)).getD j (0, 0)).2 = o2 at *
          have hki : (k : Int) < 32 := by omega
          have hji : (j : Int) < (m : Int) := by omega
          clear q1 q2 hln hco hI2 hS2 hko
          have HST := Lib.hid (show (G.take j ++ List.replicate (m - j) (0, 0)).set j (k, (s : Int)) = G.take (j + 1) ++ List.replicate (m - (j + 1)) (0, 0) by
            rw [show m - j = (m - (j + 1)) + 1 by omega, List.replicate_succ, List.set_append_right _ _ (by simp; omega)]
            rw [show j - (G.take j).length = 0 by simp; omega, List.set_cons_zero, List.take_add_one, List.getElem?_eq_getElem (by omega)]
            have e : G.getD j (0, 0) = G[j] := by simp [List.getD, show j < G.length by omega]
            rw [← e, hkG, hsv]
            simp)
          have HG3 := Lib.hid ((HG2.out.set (j * 2) (.int .i64 (k : Int))).set (j * 2 + 1) (.int .u32 (s : Int)))
          have HK3 := Lib.hid ((HK.out.setCell (p := ⟨gl, j * 2, none⟩) (.inl (by simp)) (.int .i64 (k : Int))).setCell (p := ⟨gl, j * 2 + 1, none⟩) (.inl (by simp)) (.int .u32 (s : Int)))
          clear hkG hsv HK HG2
          go_wp2
          refine ⟨⟨j + 1, by omega, by go_num, HK3.out, ?_⟩, by simp [intOf]; omega⟩
          have h3 := HG3.out
          rw [List.setIfInBounds_toArray, List.setIfInBounds_toArray, gC_set, HST.out] at h3
          exact h3
        · have d : decide ((j : Int) < (m : Int)) = false := decide_eq_false (by omega)
          obtain rfl : j = m := by omega
          have h3 := HG2.out
          rw [List.take_of_length_le (by omega), Nat.sub_self, List.replicate_zero, List.append_nil] at h3
          have HG3 := Lib.hid h3
          have HB3 := Lib.hid (HK.out.below HB1.out (by have := HB1.out.size; omega) (fun x hx => by rw [List.mem_singleton] at hx; omega))
          clear h3
          go_wp2
          go_ret
          refine ⟨gl, j, rfl, hwz, HG3.out.lt, fun gs hne => ⟨some ⟨gl, 0, none⟩, j, j, rfl, hGl, Nat.le_refl _, by omega, fun _ => ⟨gl, 0, rfl, HG3.out.lt, fun e => hne e.symm, fun q hq => ?_⟩⟩, HB3.out⟩
          obtain ⟨q1, q2⟩ := gC_at G q (by omega)
          rw [Nat.zero_add, HG3.out.cell, HG3.out.cell]
          exact ⟨by simpa using q1, by simpa using q2⟩
end Go.Proofs.Ytmbceafeonjffaa
