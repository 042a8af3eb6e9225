/-
  EntriesOf: what the model answers. Conditions: at most 2 ^ 20 bytes.
-/
import Derived.Test.YtpfbhckmpkiijaaDoorErz
import Derived.Test.YtpfbhckmpkiijaaDoorRsx
namespace Go.Proofs.YtpfbhckmpkiijaaDoor
open Go.RowKit Go.Deep Go.WideShapes Go.ChangeShapes
set_option linter.unusedVariables false
set_option linter.unusedSimpArgs false

/-- the model's reader: the bytes, the place, and whether too many were asked for -/
def MR (w : World) (g : Nat) (l : List UInt8) (p : Nat) (b : Bool) : Prop := Blk w g 90 #[.string ⟨l.toArray⟩, .int .i64 p, .bool b]
theorem ext_mid (l : List UInt8) (p n : Nat) : (⟨l.toArray⟩ : ByteArray).extract p (p + n) = ⟨((l.drop p).take n).toArray⟩ := by
  apply ByteArray.ext
  simp [ByteArray.data_extract, List.drop_take]
theorem blk3_set1 {w : World} {g : Nat} {t : TypeId} {x y z u : Value} (h : Blk w g t #[x, y, z]) : Blk (w.setCell ⟨g, 1, none⟩ u) g t #[x, u, z] := by
  unfold Blk at h ⊢
  simp only [World.setCell, Array.getElem?_modify, h]
  simp
theorem blk3_set2 {w : World} {g : Nat} {t : TypeId} {x y z u : Value} (h : Blk w g t #[x, y, z]) : Blk (w.setCell ⟨g, 2, none⟩ u) g t #[x, y, u] := by
  unfold Blk at h ⊢
  simp only [World.setCell, Array.getElem?_modify, h]
  simp
theorem grown_drew {w w' : World} {n : Nat} {r : Option Nat} (h : (w.drewN n).grownBy w' r) : w.grownBy w' r := ⟨h.os, h.tape, h.output, h.size, h.block⟩
theorem grown_set1 (w : World) (g i : Nat) (v : Value) : w.grownBy (w.setCell ⟨g, i, none⟩ v) (some g) := grown_of_set (Below.refl _ _)
theorem grown_drewN (w : World) (n : Nat) (r : Option Nat) : w.grownBy (w.drewN n) r := ⟨rfl, rfl, rfl, Nat.le_refl _, fun _ _ _ => rfl⟩
set_option maxRecDepth 20000 in
set_option maxHeartbeats 2000000 in
theorem c_mTakeYes (g n p : Nat) (l : List UInt8) (w : World) (h : MR w g l p false) (hn : p + n ≤ l.length) (hl : l.length ≤ 1048576) :
    Calls Tryd.prog 52 #[.pointer (some ⟨g, 0, none⟩), .int .i64 n] w fun e w' => e = .returned (.string ⟨((l.drop p).take n).toArray⟩) ∧ MR w' g l (p + n) false ∧ w.grownBy w' (some g) := by
  have H := Lib.hid h
  have e1 := ext_mid l p n
  obtain ⟨q, hq⟩ : ∃ q, p + n = q := ⟨_, rfl⟩
  have hqi : (p : Int) + (n : Int) = (q : Int) := by omega
  rw [hq] at e1 ⊢
  have e2 := size_mk l
  have hl1 : (l.length : Int) ≤ 1048576 := by omega
  have hn1 : (p : Int) + (n : Int) ≤ (l.length : Int) := by omega
  have hn0 : (0 : Int) ≤ (n : Int) := by omega
  have hp0 : (0 : Int) ≤ (p : Int) := by omega
  have hd : decide ((l.length : Int) - (p : Int) < (n : Int)) = false := decide_eq_false (by omega)
  have t0 := Blk.cell h 0
  have t1 := Blk.cell h 1
  have f1 := Blk.frozen h 1
  clear h hn hl
  go_enter Tryd.func52, Tryd.ntmps52
  go_wp2_with fail
  go_quiet ((fail))
  have HD := Lib.hid (show MR (w.drewN nq) g l p false from H.out)
  have HG := Lib.hid (grown_drewN w nq (some g))
  generalize w.drewN nq = w1 at HD HG ⊢
  clear t0 t1 f1
  have t0 := Blk.cell HD.out 0
  have t1 := Blk.cell HD.out 1
  have f1 := Blk.frozen HD.out 1
  go_wp2_with fail
  have H2 := Lib.hid (show MR (w1.setCell ⟨g, 1, none⟩ (.int .i64 (q : Int))) g l q false from blk3_set1 HD.out)
  have HG2 := Lib.hid (grown_both HG.out (grown_set1 w1 g 1 (.int .i64 (q : Int))))
  rw [hqi] at hn1
  generalize w1.setCell ⟨g, 1, none⟩ (.int .i64 (q : Int)) = w2 at H2 HG2 ⊢
  clear t0 t1 f1 HD HG
  have t0 := Blk.cell H2.out 0
  have t1 := Blk.cell H2.out 1
  have hs1 : (q : Int) - (n : Int) = (p : Int) := by omega
  have hs2 : ((q : Int) - (n : Int)).toNat = p := by omega
  go_quiet ((fail))
  have HD3 := Lib.hid (show MR (w2.drewN nq) g l q false from H2.out)
  have HG3 := Lib.hid (grown_both HG2.out (grown_drewN w2 nq (some g)))
  generalize w2.drewN nq = w3 at HD3 HG3 ⊢
  clear t0 t1
  go_wp2_with fail
  go_ret
  exact ⟨by first | rfl | rw [← e1] | simp [hs1, e1], HD3.out, HG3.out⟩
theorem zero_cells (n : Nat) : List.replicate n (Value.int .u8 0) = Lib.byteCells (List.replicate n 0) := by simp [Lib.byteCells]
set_option maxRecDepth 20000 in
set_option maxHeartbeats 2000000 in
theorem c_mTakeNo (g n p : Nat) (l : List UInt8) (w : World) (h : MR w g l p false) (hp : p ≤ l.length) (hn : l.length < p + n) (hn2 : n ≤ 20000) (hl : l.length ≤ 1048576) :
    Calls Tryd.prog 52 #[.pointer (some ⟨g, 0, none⟩), .int .i64 n] w fun e w' => e = .returned (.string ⟨(List.replicate n 0).toArray⟩) ∧ MR w' g l p true ∧ w.grownBy w' (some g) := by
  obtain ⟨i0, hi, hz0, hz1, hz2⟩ := info_parts info_u8
  have JI := Lib.hid hi
  have HZ0 := Lib.hid hz0
  have HZ1 := Lib.hid hz1
  have HZ2 := Lib.hid hz2
  have H := Lib.hid h
  have e2 := size_mk l
  have hl1 : (l.length : Int) ≤ 1048576 := by omega
  have hn1 : (l.length : Int) - (p : Int) < (n : Int) := by omega
  have hn0 : (0 : Int) ≤ (n : Int) := by omega
  have hn3 : (n : Int) ≤ 20000 := by omega
  have hp0 : (0 : Int) ≤ (p : Int) := by omega
  have hp1 : (p : Int) ≤ (l.length : Int) := by omega
  have hd : decide ((l.length : Int) - (p : Int) < (n : Int)) = true := decide_eq_true hn1
  have t0 := Blk.cell h 0
  have t1 := Blk.cell h 1
  have t2 := Blk.cell h 2
  have f1 := Blk.frozen h 2
  have HN2 := Lib.hid hn2
  clear h hn hl hi hz0 hz1 hz2 hn2 hp
  go_enter Tryd.func52, Tryd.ntmps52
  go_wp2_with fail
  go_quiet ((fail))
  have HD := Lib.hid (show MR (w.drewN nq) g l p false from H.out)
  have HG := Lib.hid (grown_drewN w nq (some g))
  generalize w.drewN nq = w1 at HD HG ⊢
  clear t0 t1 t2 f1
  have t2 := Blk.cell HD.out 2
  have f1 := Blk.frozen HD.out 2
  have H2 := Lib.hid (show MR (w1.setCell ⟨g, 2, none⟩ (.bool true)) g l p true from blk3_set2 HD.out)
  have HG2 := Lib.hid (grown_both HG.out (grown_set1 w1 g 2 (.bool true)))
  go_wp2_with (at_make; refine wpList_make_full _ rfl _ _ 28 rfl (w1.setCell ⟨g, 2, none⟩ (.bool true)).heap.size 5 i0 (.int .u8 0) 1 Tryd.underlying28 JI.out HZ0.out HZ1.out _ _ _ _ n rfl rfl rfl rfl ?c1 ?c2 ?c3 ?_)
  case c1 => rw [HZ2.out]; omega
  case c2 => have := HN2.out; unfold maxLen; omega
  case c3 => exact Nat.le_refl _
  intro w3 hown hgrow
  rw [toList_madeCells_one, zero_cells] at hown
  have HO := Lib.hid (show OwnB w3 w1.heap.size (some ⟨w1.heap.size, 0, none⟩) n (List.replicate n 0) from by unfold OwnB; rw [List.length_replicate]; exact hown)
  have hgl := Blk.lt H2.out
  have HD3 := Lib.hid (show MR w3 g l p true from (hgrow.block g hgl (fun e => by cases e)).trans H2.out)
  have HG3 := Lib.hid (grown_both HG2.out ⟨hgrow.os, hgrow.tape, hgrow.output, hgrow.size, fun j hj _ => hgrow.block j hj (fun e => by cases e)⟩)
  have HC := HO.out.string
  rw [List.length_replicate] at HC
  generalize w1.heap.size = S at HC ⊢
  clear hown hgrow hgl t2 f1
  go_wp2_with fail
  go_ret
  exact ⟨rfl, HD3.out, HG3.out⟩
theorem ownS_not {w : World} {g B : Nat} {t : TypeId} {cs : Array Value} {b : Option Addr} {cp : Nat} {ls : List (List UInt8)} (h : OwnS w B b cp ls) (hb : Blk w g t cs) (ht : t ≠ 9) : some g ≠ blk b := by
  intro e
  rcases h.2 with ⟨hv, _⟩ | ⟨g', c, cur, hv, _, hh, _⟩
  · simp only [Value.slice.injEq] at hv
    rw [hv.1] at e
    cases e
  · simp only [Value.slice.injEq] at hv
    rw [hv.1] at e
    have e' : g = g' := Option.some.inj e
    subst e'
    have := Option.some.inj (hb.symm.trans hh)
    injection this with _ h2
    exact ht h2
theorem ownS_far {w w' : World} {g B : Nat} {t : TypeId} {cs : Array Value} {b : Option Addr} {cp : Nat} {ls : List (List UInt8)} (h : OwnS w B b cp ls) (hb : Blk w g t cs) (ht : t ≠ 9) (hg : w.grownBy w' (some g)) : OwnS w' B b cp ls := by
  refine World.ownsRow.kept h hg (.inr (fun e => ?_))
  rw [ownBlock_slice] at e
  exact ownS_not h hb ht e.symm
def lenT : Value → Nat
  | .slice _ n _ => n
  | _ => 0
def SmRel (l : List UInt8) (g : Nat) (w : World) (sv : Value) (wr : World) : Prop :=
  ∃ (k : Nat) (acc : List (List UInt8)) (p : Nat) (b : Option Addr) (cp : Nat), EntAt l k acc (l.drop p) ∧ p ≤ l.length ∧ sv = .slice b acc.length cp ∧ OwnS wr w.heap.size b cp acc ∧ MR wr g l p false ∧ Below w.heap.size w wr
theorem mr_apart {w5 w' : World} {g p B cp n : Nat} {l : List UInt8} {v : ByteArray} {b : Option Addr} {ls : List (List UInt8)} (h : MR w5 g l p false) (ho : OwnS w5 B b cp ls) (hg : (w5.alloc (.cells #[.string v] 9)).grownBy w' (Value.ownBlock (.slice b n cp))) : MR w' g l p false := by
  rw [ownBlock_slice] at hg
  have hb : Below w5.heap.size w5 (w5.alloc (.cells #[.string v] 9)) := (Below.refl _ _).alloc (Nat.le_refl _) _
  exact (hg.block g (by have := Blk.lt h; rw [World.size_alloc]; omega) (ownS_not ho h (by decide))).trans (Blk.below h hb)
set_option maxRecDepth 20000 in
set_option maxHeartbeats 4000000 in
theorem c_l08Entries (l : List UInt8) (hl : l.length ≤ 1048576) (w : World) : Calls Tryd.prog 34 #[.string ⟨l.toArray⟩] w fun e w' => ∃ b c, e = .returned (.slice b (entL 8 l).length c) ∧ OwnS w' w.heap.size b c (entL 8 l) ∧ Below w.heap.size w w' := by
  obtain ⟨i0, hi, hz0, hz1, hz2⟩ := info_parts info_strC
  have JI := Lib.hid hi
  have HZ0 := Lib.hid hz0
  have HZ1 := Lib.hid hz1
  have HZ2 := Lib.hid hz2
  have HL := Lib.hid hl
  clear hi hz0 hz1 hz2 hl
  go_enter Tryd.func34, Tryd.ntmps34
  go_wp2_with fail
  go_loopw [3] (fun sv wr => SmRel l (w.heap.size + 1) w sv wr) (fun sv _ => 8 - lenT sv)
  case atStart =>
    have al : Below (w.alloc (.cells #[] 9)).heap.size (w.alloc (.cells #[] 9)) ((w.alloc (.cells #[] 9)).alloc (.cells #[.string ⟨l.toArray⟩, .int .i64 0, .bool false] 90)) := (Below.refl _ _).alloc (Nat.le_refl _) _
    have hN := Blk.new (w.alloc (.cells #[] 9)) 90 #[.string ⟨l.toArray⟩, .int .i64 0, .bool false]
    rw [World.size_alloc] at hN
    exact ⟨0, [], 0, _, 0, EntAt.start l, Nat.zero_le _, rfl, (ownS_made w).kept al, hN, ((Below.refl w.heap.size w).alloc (Nat.le_refl _) _).trans (al.mono (by rw [World.size_alloc]; omega))⟩
  case round =>
    obtain ⟨k, acc, p, b, cp, hA, hp, rfl, ho, hR, hB⟩ := hrel
    have HA := Lib.hid hA
    have HO := Lib.hid ho
    have HR := Lib.hid hR
    have HB := Lib.hid hB
    have HP := Lib.hid hp
    have hk8 := hA.1
    have hal := hA.2.1
    obtain ⟨rest, hrest⟩ : ∃ rest, l.drop p = rest := ⟨_, rfl⟩
    have HRS := Lib.hid hrest
    have hrl : rest.length = l.length - p := by rw [← hrest, List.length_drop]
    clear ho hR hB hA hrest
    by_cases hlt : k < 8
    · have hlt' : (acc.length : Int) < 8 := by omega
      by_cases h4 : 4 ≤ rest.length
      · have HT := Lib.hid (c_mTakeYes (w.heap.size + 1) 4 p l wr HR.out (by omega) HL.out)
        rw [HRS.out] at HT
        have HNB := Lib.hid (fun W => c_l08Number (rest.take 4) (by rw [List.length_take]; omega) W)
        obtain ⟨N, hN⟩ : ∃ N, leN (rest.take 4) = N := ⟨_, rfl⟩
        have HN := Lib.hid hN
        rw [hN] at HNB
        obtain ⟨m4, hm4⟩ : ∃ m4, rest.take 4 = m4 := ⟨_, rfl⟩
        rw [hm4] at HT HNB
        have H4 := Lib.hid h4
        have HRL := Lib.hid hrl
        clear hN hm4 h4 hrl hal
        go_wp2_with fail
        refine HT.out.mono ?_
        rintro e w2 ⟨rfl, hR2, hG2⟩
        have HR2 := Lib.hid hR2
        have HO2 := Lib.hid (ownS_far HO.out HR.out (by decide) hG2)
        have HB2 := Lib.hid (HB.out.grown hG2 HB.out.size (fun j e => by have := Option.some.inj e; omega))
        have c2 := Blk.cell hR2 2
        clear hR2 hG2
        go_wp2_with fail
        refine (HNB.out _).mono ?_
        rintro e wz ⟨rfl, rfl⟩
        have HDR := Lib.hid (show l.drop (p + 4) = rest.drop 4 by rw [← HRS.out, List.drop_drop])
        by_cases hN2 : N ≤ 20000
        · have hN2' : (N : Int) ≤ 20000 := by omega
          by_cases h5 : 4 + N ≤ rest.length
          · have HOK := Lib.hid (show entOk rest = true from entOk_iff.2 ⟨H4.out, by rw [HN.out]; exact hN2, by rw [HN.out]; exact h5⟩)
            have HT2 := Lib.hid (c_mTakeYes (w.heap.size + 1) N (p + 4) l w2 HR2.out (by have := HRL.out; omega) HL.out)
            rw [HDR.out, show (rest.drop 4).take N = entHead rest by unfold entHead; rw [HN.out]] at HT2
            have H5 := Lib.hid h5
            have hal := HA.out.2.1
            have A1 := Lib.hid (show acc.length + 1 ≤ maxLen by unfold maxLen; omega)
            have A2 := Lib.hid (show (acc.length + 1) * 16 ≤ 140737488355328 by omega)
            clear h5 hN2 hal
            go_wp2_with fail
            refine HT2.out.mono ?_
            rintro e w3 ⟨rfl, hR3, hG3⟩
            have HR3 := Lib.hid hR3
            have HO3 := Lib.hid (ownS_far HO2.out HR2.out (by decide) hG3)
            have HB3 := Lib.hid (HB2.out.grown hG3 HB2.out.size (fun j e => by have := Option.some.inj e; omega))
            have A3 := Lib.hid HB3.out.size
            have c3 := Blk.cell hR3 2
            clear hR3 hG3 c2
            have HS3 := Lib.hid (show w.heap.size ≤ (w3.alloc (.cells #[.string (strB (entHead rest))] 9)).heap.size by have := A3.out; rw [World.size_alloc]; omega)
            go_wp2_with (at_builtin; refine wpList_append_any _ rfl (.tmp 32) (.tmp 34) 36 rfl w.heap.size 9 i0 (.string ByteArray.empty) 1 16 Tryd.underlying36 JI.out HZ0.out HZ1.out HZ2.out rfl Nat.one_pos (.slice b acc.length cp) acc.length (acc.map fun l => Value.string (strB l)) rfl (strC_own HO3.out) _ (some ⟨w3.heap.size, 0, none⟩) 1 1 [.string (strB (entHead rest))] rfl str_reads (one_str _) A1.out A2.out HS3.out ?_; intro v' w' hown hgr _)
            go_roundw
            case rel =>
              obtain ⟨a', c', rfl⟩ := ownsRow_slice hown
              have HMD := Lib.hid (strC_next rfl HO3.out (Nat.le_refl _) HB3.out rfl hown hgr)
              have HMR := Lib.hid (mr_apart HR3.out HO3.out hgr)
              have hnx := HA.out.next hlt (by rw [HRS.out]; exact HOK.out)
              rw [HRS.out] at hnx
              have hre : entRest rest = l.drop (p + 4 + N) := by unfold entRest; rw [HN.out, ← HDR.out, List.drop_drop]
              rw [hre] at hnx
              exact ⟨k + 1, acc ++ [entHead rest], p + 4 + N, a', c', hnx, by have := HRL.out; have := H5.out; omega, by simp, HMD.out.1, HMR.out, HMD.out.2⟩
            case measure =>
              obtain ⟨a', c', rfl⟩ := ownsRow_slice hown
              have := HA.out.2.1
              simp [lenT]
              omega
          · have hno : entOk rest = false := by
              cases h : entOk rest with
              | false => rfl
              | true => exact absurd (entOk_iff.1 h).2.2 (by rw [HN.out]; exact h5)
            have hx := HA.out.stop (by rw [HRS.out]; exact hno)
            have HT2 := Lib.hid (c_mTakeNo (w.heap.size + 1) N (p + 4) l w2 HR2.out (by have := HRL.out; have := H4.out; omega) (by have := HRL.out; omega) hN2 HL.out)
            have HXX := Lib.hid hx
            clear h5 hN2 hno hx
            go_wp2_with fail
            refine HT2.out.mono ?_
            rintro e w3 ⟨rfl, hR3, hG3⟩
            have HO3 := Lib.hid (ownS_far HO2.out HR2.out (by decide) hG3)
            have HB3 := Lib.hid (HB2.out.grown hG3 HB2.out.size (fun j e => by have := Option.some.inj e; omega))
            have c3 := Blk.cell hR3 2
            clear hR3 hG3 c2
            go_wp2_with fail
            go_ret
            rw [← HXX.out]
            exact ⟨b, cp, rfl, HO3.out, HB3.out⟩
        · have hN2' : (20000 : Int) < (N : Int) := by omega
          have hno : entOk rest = false := by
            cases h : entOk rest with
            | false => rfl
            | true => exact absurd (entOk_iff.1 h).2.1 (by rw [HN.out]; exact hN2)
          have HXX := Lib.hid (HA.out.stop (by rw [HRS.out]; exact hno))
          clear hno hN2
          go_wp2_with fail
          go_ret
          rw [← HXX.out]
          exact ⟨b, cp, rfl, HO2.out, HB2.out⟩
      · have hno : entOk rest = false := by
          cases h : entOk rest with
          | false => rfl
          | true => exact absurd (entOk_iff.1 h).1 h4
        have HXX := Lib.hid (HA.out.stop (by rw [HRS.out]; exact hno))
        have HT := Lib.hid (c_mTakeNo (w.heap.size + 1) 4 p l wr HR.out HP.out (by omega) (by decide) HL.out)
        have HNB := Lib.hid (fun W => c_l08Number (List.replicate 4 0) (by decide) W)
        obtain ⟨z4, hz4⟩ : ∃ z4 : List UInt8, List.replicate 4 0 = z4 := ⟨_, rfl⟩
        obtain ⟨N, hN⟩ : ∃ N, leN (List.replicate 4 0) = N := ⟨_, rfl⟩
        rw [hN] at HNB
        rw [hz4] at HT HNB
        clear hno h4 hrl hal hz4 hN
        go_wp2_with fail
        refine HT.out.mono ?_
        rintro e w2 ⟨rfl, hR2, hG2⟩
        have HO2 := Lib.hid (ownS_far HO.out HR.out (by decide) hG2)
        have HB2 := Lib.hid (HB.out.grown hG2 HB.out.size (fun j e => by have := Option.some.inj e; omega))
        have c2 := Blk.cell hR2 2
        clear hR2 hG2
        go_wp2_with fail
        refine (HNB.out _).mono ?_
        rintro e wz ⟨rfl, rfl⟩
        go_wp2_with fail
        go_ret
        rw [← HXX.out]
        exact ⟨b, cp, rfl, HO2.out, HB2.out⟩
    · obtain rfl : k = 8 := by omega
      have hge : ¬ ((acc.length : Int) < 8) := by omega
      have HXX := Lib.hid HA.out.all
      clear hal hrl
      go_wp2_with fail
      go_ret
      rw [← HXX.out]
      exact ⟨b, cp, rfl, HO.out, HB.out⟩
theorem t_sEntriesOf (x : ByteArray) (hx : x.size ≤ 1048576) (w : World) : Calls Tryd.prog 16 #[.string x] w (RetE (vEntriesOf x.data.toList).1 (vEntriesOf x.data.toList).2 w) := by
  obtain ⟨l, rfl⟩ : ∃ l : List UInt8, x = ⟨l.toArray⟩ := ⟨x.data.toList, by cases x; simp⟩
  have hsz := size_mk l
  rw [hsz] at hx
  simp only [List.toList_toArray]
  unfold vEntriesOf
  have HT := Lib.hid (c_l08Entries l hx w)
  by_cases h4 : l.length ≤ 160032
  · rw [if_pos h4]
    have hc : (l.length : Int) ≤ 160032 := by omega
    have HC := Lib.hid (fun W => show Calls Tryd.prog 33 #[.string ⟨l.toArray⟩] W fun e w' => e = .returned (.bool true) ∧ W = w' from by
      go_enter Tryd.func33, Tryd.ntmps33
      go_wp2_with fail
      go_ret
      exact ⟨rfl, rfl⟩)
    clear hx h4 hc
    go_enter Tryd.func16, Tryd.ntmps16
    go_wp2_with fail
    refine (HC.out _).mono ?_
    rintro e w1 ⟨rfl, rfl⟩
    go_wp2_with fail
    refine HT.out.mono ?_
    rintro e w2 ⟨b, c, rfl, ho, hb⟩
    have HO := Lib.hid ho
    have HB := Lib.hid hb
    clear ho hb
    go_wp2_with fail
    go_ret2
    exact ⟨b, c, rfl, HO.out, HB.out⟩
  · rw [if_neg h4]
    have hc : (160032 : Int) < (l.length : Int) := by omega
    have HC := Lib.hid (fun W => show Calls Tryd.prog 33 #[.string ⟨l.toArray⟩] W fun e w' => e = .returned (.bool false) ∧ W = w' from by
      go_enter Tryd.func33, Tryd.ntmps33
      go_wp2_with fail
      go_ret
      exact ⟨ret_b (by simp; omega), rfl⟩)
    clear hx h4 hc
    go_enter Tryd.func16, Tryd.ntmps16
    go_wp2_with fail
    refine (HC.out _).mono ?_
    rintro e w1 ⟨rfl, rfl⟩
    go_wp2_with fail
    go_ret2
    exact ⟨none, 0, rfl, nil_ownS _ _, Below.refl _ _⟩
end Go.Proofs.YtpfbhckmpkiijaaDoor
