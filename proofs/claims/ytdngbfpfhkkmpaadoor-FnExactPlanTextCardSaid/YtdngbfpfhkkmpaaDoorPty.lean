/-
  PlanText: the model's. Conditions: the plan can be read, a valid one has few steps with short texts.
-/
import Derived.Test.YtdngbfpfhkkmpaaDoorPtx
namespace Go.Proofs.YtdngbfpfhkkmpaaDoor
open Go.RowKit Go.Deep Go.WideShapes Go.ChangeShapes
set_option linter.unusedVariables false
set_option linter.unusedSimpArgs false
attribute [local go_sem] txt_size

/-- the names that a call has laid out for itself -/
def NmOk (B : Nat) (w : World) : Prop := B < w.heap.size ∧ ∀ i, i < 6 → w.cell? ⟨B, i, none⟩ = some (.string ⟨(kName i).toArray⟩)
theorem NmOk.kept {B : Nat} {w w' : World} (h : NmOk B w) (hb : Below w.heap.size w w') : NmOk B w' := ⟨Nat.lt_of_lt_of_le h.1 hb.size, fun i hi => (hb.cell (p := ⟨_, i, none⟩) h.1).trans (h.2 i hi)⟩
theorem js_step {ts : List (List UInt8)} {k : Nat} {t : List UInt8} (h : ts[k]? = some t) : js (ts.take (k + 1)) = js (ts.take k) ++ ((if k = 0 then ([] : List UInt8) else [32]) ++ t) := by
  by_cases hk : k = 0
  · subst hk
    rw [List.take_add_one, h]
    simp [js]
  · rw [js_next h hk, if_neg hk, List.append_assoc]
theorem kName_ne (k : Nat) : kName k ≠ [] := by unfold kName; split <;> simp
theorem stepT_ne (p : PstP) : stepT p ≠ [] := by
  unfold stepT
  simp [kName_ne]
theorem js_ne {ts : List (List UInt8)} (h0 : ts.length ≠ 0) (h : ∀ t ∈ ts, t ≠ []) : js ts ≠ [] := by
  cases ts with
  | nil => exact absurd rfl h0
  | cons t r =>
    have := h t (List.mem_cons_self ..)
    simp [js, this]
def NAMES6 : Array Value := #[.string ⟨#[100, 101, 110, 115, 101]⟩, .string ⟨#[114, 101, 108, 117]⟩, .string ⟨#[115, 99, 97, 108, 101]⟩, .string ⟨#[116, 97, 110, 104]⟩, .string ⟨#[115, 111, 102, 116, 109, 97, 120]⟩, .string ⟨#[110, 111, 114, 109]⟩]
def TxtRel (ls : List PstA) (n : Nat) (w : World) (s i : Value) (wr : World) : Prop :=
  ∃ k : Nat, k ≤ n ∧ i = .int .i64 k ∧ s = .string ⟨(js ((stepTs ls).take k)).toArray⟩ ∧ Below w.heap.size w wr
set_option maxRecDepth 20000 in
set_option maxHeartbeats 8000000 in
theorem c_l09Text (gp : Nat) (g : Option Addr) (cap n : Nat) (ls : List PstA) (w : World) (hgp : gp < w.heap.size) (hq : w.cell? ⟨gp, 0, none⟩ = some (.slice g n cap)) (h : PstsAt w g n cap ls) (hn : n ≤ 6) (hp : ∀ x ∈ ls, stepOk x.p ∧ (stepT x.p).length ≤ 100) :
    Calls Tryd.prog 11 #[.pointer (some ⟨gp, 0, none⟩)] w fun e w' => e = .returned (.string ⟨(planT (ls.map PstA.p)).toArray⟩) ∧ Below w.heap.size w w' := by
  have hln : ls.length = n := h.1
  have HSL := Lib.hid (show (stepTs ls).length = n by unfold stepTs; rw [List.length_map]; exact hln)
  have HSM := Lib.hid (show ∀ t ∈ stepTs ls, t.length ≤ 100 from fun t ht => by
    obtain ⟨x, hx, rfl⟩ := List.mem_map.1 ht
    exact (hp x hx).2)
  have H := Lib.hid h
  have HP := Lib.hid hp
  have HGP := Lib.hid hgp
  have HQ := Lib.hid hq
  have HN6 := Lib.hid hn
  clear h hp hln hgp hq hn
  go_enter Tryd.func11, Tryd.ntmps11
  go_wp2_with fail
  obtain ⟨NB, hNB⟩ : ∃ NB, w.heap.size = NB := ⟨_, rfl⟩
  have hbW : ∃ w1, w.alloc (.cells NAMES6 9) = w1 := ⟨_, rfl⟩
  unfold NAMES6 at hbW
  obtain ⟨w1, hw1⟩ := hbW
  have hb1 : Below w.heap.size w w1 := by rw [← hw1]; exact (Below.refl _ _).alloc (Nat.le_refl _) _
  have hblk : Blk w1 NB 9 NAMES6 := by rw [← hw1, ← hNB]; exact Blk.new w _ _
  have HNM := Lib.hid (show NmOk NB w1 from ⟨hblk.lt, fun i hi => by
    have h6 : i = 0 ∨ i = 1 ∨ i = 2 ∨ i = 3 ∨ i = 4 ∨ i = 5 := by omega
    rcases h6 with rfl | rfl | rfl | rfl | rfl | rfl
    · exact hblk.cell 0
    · exact hblk.cell 1
    · exact hblk.cell 2
    · exact hblk.cell 3
    · exact hblk.cell 4
    · exact hblk.cell 5⟩)
  have HB1 := Lib.hid hb1
  have HQ1 := Lib.hid ((hb1.cell (p := ⟨gp, 0, none⟩) HGP.out).trans HQ.out)
  have HGP1 := Lib.hid (show gp < w1.heap.size from Nat.lt_of_lt_of_le HGP.out hb1.size)
  have H1 := Lib.hid (H.out.kept hb1)
  rw [hNB, hw1]
  clear hb1 hblk hw1 hNB
  go_loopw [4, 5] (fun s i wr => TxtRel ls n w1 s i wr) (fun _ i _ => n - (intOf i).toNat)
  case atStart => exact ⟨0, Nat.zero_le _, rfl, by simp [js], Below.refl _ _⟩
  case round =>
    obtain ⟨k, hk, rfl, rfl, hb⟩ := hrel
    have HB := Lib.hid hb
    have hq := (hb.cell (p := ⟨gp, 0, none⟩) HGP1.out).trans HQ1.out
    have HXL0 := Lib.hid (show (js ((stepTs ls).take k)).length ≤ k * 101 from js_take HSM.out (by rw [HSL.out]; exact hk))
    clear hb
    by_cases hlt : k < n
    · obtain ⟨b, off, kd, ii, oo, ws, bs, ss, rl, a0, c0, a1, c1, a2, c2, rfl, hbk, hx, q0, q1, q2, q3, q4, q5, q6, f0, f1, f2⟩ := (H1.out.kept HB.out).one hlt
      have hpx := HP.out _ (List.mem_of_getElem? hx)
      obtain ⟨m, rfl⟩ : ∃ m : Nat, kd = (m : Int) := ⟨kd.toNat, by have := hpx.1.1.1; simp at this; omega⟩
      have hm6 : m < 6 := by have := hpx.1.1.2; simp at this; omega
      have hkc := (HNM.out.kept HB.out).2 m hm6
      have hmi : (m : Int) ≤ 5 := by omega
      have hm0 : (0 : Int) ≤ (m : Int) := by omega
      have HX := Lib.hid (show (stepTs ls)[k]? = some (stepT ⟨m, ii, oo, ws, bs, ss, rl⟩) by unfold stepTs; rw [List.getElem?_map, hx]; rfl)
      have HDI := Lib.hid (fun W => c_l01Dec ii hpx.1.2.1.1 hpx.1.2.1.2 W)
      have HDO := Lib.hid (fun W => c_l01Dec oo hpx.1.2.2.1 hpx.1.2.2.2 W)
      have l1 := Lib.itoa_length_le ii hpx.1.2.1.1 hpx.1.2.1.2
      have l2 := Lib.itoa_length_le oo hpx.1.2.2.1 hpx.1.2.2.2
      have hkn := kName_len m
      obtain ⟨K, hK⟩ : ∃ K, kName m = K := ⟨_, rfl⟩
      have HKK := Lib.hid hK
      rw [hK] at hkc hkn
      obtain ⟨D, hD⟩ : ∃ D, Lib.itoa ii = D := ⟨_, rfl⟩
      obtain ⟨F, hF⟩ : ∃ F, Lib.itoa oo = F := ⟨_, rfl⟩
      have HDD := Lib.hid hD
      have HFF := Lib.hid hF
      rw [hD] at l1 HDI
      rw [hF] at l2 HDO
      obtain ⟨X, hXX⟩ : ∃ X, js ((stepTs ls).take k) = X := ⟨_, rfl⟩
      have HXX := Lib.hid hXX
      rw [hXX] at HXL0 ⊢
      have HXL := Lib.hid (show X.length ≤ 606 by have h1 := HXL0.out; have h2 := HN6.out; omega)
      have eq' := cell_regrown hq
      have hg1 : NB < wr.heap.size := (HNM.out.kept HB.out).1
      have hg2 : ¬ wr.heap.size = NB := by omega
      have hg3 : ¬ NB = wr.heap.size := by omega
      clear hK hD hF hXX hpx hx f0 f1 f2 hm6 hbk
      have hlt' : (k : Int) < (n : Int) := by omega
      have hk6 : (k : Int) ≤ 6 := by have := HN6.out; omega
      by_cases hk0 : k = 0
      · subst hk0
        simp only [Nat.zero_mul, Nat.add_zero] at q0 q1 q2 q3 q4 q5 q6
        by_cases hs : ss.length = 0
        · have hs' : ¬ (0 : Int) < (ss.length : Int) := by omega
          cases rl
          · have t0 : ¬ 9223372036854775807 < X.length + K.length := by have := HXL.out; omega
            have t1 : ¬ 9223372036854775807 < D.length + 1 := by have := HXL.out; omega
            have t2 : ¬ 9223372036854775807 < D.length + 1 + F.length := by have := HXL.out; omega
            have t3 : ¬ 9223372036854775807 < X.length + K.length + (D.length + 1 + F.length) := by have := HXL.out; omega
            have HV := Lib.hid (show js ((stepTs ls).take (0 + 1)) = (X ++ K) ++ ((D ++ [62]) ++ F) by
              rw [js_step HX.out, if_pos rfl, HXX.out]
              show X ++ (_ ++ stepT ⟨m, ii, oo, ws, bs, ss, false⟩) = _
              unfold stepT; rw [if_pos hs]; simp only [HDD.out, HFF.out]; rw [show kName ((m : Int)).toNat = K by rw [Int.toNat_natCast]; exact HKK.out]; simp)
            clear hs
            go_wp2_with fail
            obtain ⟨B, hB⟩ : ∃ B, wr.heap.size = B := ⟨_, rfl⟩
            obtain ⟨w2, hw2⟩ : ∃ w2, wr.alloc (.cells #[.int .i64 m, .int .i64 ii, .int .i64 oo, .slice a0 ws.length c0, .slice a1 bs.length c1, .slice a2 ss.length c2, .bool false] 45) = w2 := ⟨_, rfl⟩
            have bl1 : Below wr.heap.size wr w2 := by rw [← hw2]; exact (Below.refl _ _).alloc (Nat.le_refl _) _
            have hblk : Blk w2 B 45 #[.int .i64 m, .int .i64 ii, .int .i64 oo, .slice a0 ws.length c0, .slice a1 bs.length c1, .slice a2 ss.length c2, .bool false] := by rw [← hw2, ← hB]; exact Blk.new wr _ _
            have hc1 : w2.cell? ⟨B, 1, none⟩ = some (.int .i64 ii) := hblk.cell 1
            have hc2 : w2.cell? ⟨B, 2, none⟩ = some (.int .i64 oo) := hblk.cell 2
            have HBK := Lib.hid (show B < w2.heap.size from cell_block hc1)
            have bd : Below w2.heap.size w2 w2.drew := (Below.refl _ _).drew
            have BD := Lib.hid (Below.next (Below.next HB.out bl1) bd)
            rw [hB, hw2]
            clear bl1 bd hblk hw2 hkc hg1 hg2 hg3 eq' hq q0 q1 q2 q3 q4 q5 q6
            go_region_held3 (fun w' => w'.cell? ⟨B, 1, none⟩ = some (.int .i64 ii) ∧ w'.cell? ⟨B, 2, none⟩ = some (.int .i64 oo)) (go_keep)
              (first
                | (have B2' := B2.out
                   clear B2'
                   go_at_call 20
                   refine (HDO.out _).mono ?_
                   rintro e w4 ⟨rfl, bl⟩
                   have B3 := Lib.hid (Below.next B2.out bl)
                   have hd1 := (bl.cell (p := ⟨B, 1, none⟩) HBK2.out).trans hc1
                   have hd2 := (bl.cell (p := ⟨B, 2, none⟩) HBK2.out).trans hc2
                   clear bl hc1 hc2
                   have hc1 := hd1
                   have hc2 := hd2
                   clear hd1 hd2)
                | (go_at_call 20
                   refine (HDI.out w2.drew).mono ?_
                   rintro e w3 ⟨rfl, bl⟩
                   have B2 := Lib.hid (Below.next BD.out bl)
                   have HBK2 := Lib.hid (show B < w3.heap.size from Nat.lt_of_lt_of_le (by simpa using HBK.out) bl.size)
                   have hd1 := (bl.cell (p := ⟨B, 1, none⟩) (by simpa using HBK.out)).trans (by simpa using hc1)
                   have hd2 := (bl.cell (p := ⟨B, 2, none⟩) (by simpa using HBK.out)).trans (by simpa using hc2)
                   clear bl hc1 hc2
                   have hc1 := hd1
                   have hc2 := hd2
                   clear hd1 hd2))
            all_goals
              go_wp2_with fail
              go_roundw
              case rel => exact ⟨0 + 1, by omega, by go_num, by rw [HV.out]; simp only [← txt_append], B3.out⟩
              case measure => simp [intOf]; omega
          · have t0 : ¬ 9223372036854775807 < X.length + K.length := by have := HXL.out; omega
            have t1 : ¬ 9223372036854775807 < X.length + K.length + 1 := by have := HXL.out; omega
            have t2 : ¬ 9223372036854775807 < D.length + 1 := by have := HXL.out; omega
            have t3 : ¬ 9223372036854775807 < D.length + 1 + F.length := by have := HXL.out; omega
            have t4 : ¬ 9223372036854775807 < X.length + K.length + 1 + (D.length + 1 + F.length) := by have := HXL.out; omega
            have HV := Lib.hid (show js ((stepTs ls).take (0 + 1)) = ((X ++ K) ++ [43]) ++ ((D ++ [62]) ++ F) by
              rw [js_step HX.out, if_pos rfl, HXX.out]
              show X ++ (_ ++ stepT ⟨m, ii, oo, ws, bs, ss, true⟩) = _
              unfold stepT; rw [if_pos hs]; simp only [HDD.out, HFF.out]; rw [show kName ((m : Int)).toNat = K by rw [Int.toNat_natCast]; exact HKK.out]; simp)
            clear hs
            go_wp2_with fail
            obtain ⟨B, hB⟩ : ∃ B, wr.heap.size = B := ⟨_, rfl⟩
            obtain ⟨w2, hw2⟩ : ∃ w2, wr.alloc (.cells #[.int .i64 m, .int .i64 ii, .int .i64 oo, .slice a0 ws.length c0, .slice a1 bs.length c1, .slice a2 ss.length c2, .bool true] 45) = w2 := ⟨_, rfl⟩
            have bl1 : Below wr.heap.size wr w2 := by rw [← hw2]; exact (Below.refl _ _).alloc (Nat.le_refl _) _
            have hblk : Blk w2 B 45 #[.int .i64 m, .int .i64 ii, .int .i64 oo, .slice a0 ws.length c0, .slice a1 bs.length c1, .slice a2 ss.length c2, .bool true] := by rw [← hw2, ← hB]; exact Blk.new wr _ _
            have hc1 : w2.cell? ⟨B, 1, none⟩ = some (.int .i64 ii) := hblk.cell 1
            have hc2 : w2.cell? ⟨B, 2, none⟩ = some (.int .i64 oo) := hblk.cell 2
            have HBK := Lib.hid (show B < w2.heap.size from cell_block hc1)
            have bd : Below w2.heap.size w2 w2.drew := (Below.refl _ _).drew
            have BD := Lib.hid (Below.next (Below.next HB.out bl1) bd)
            rw [hB, hw2]
            clear bl1 bd hblk hw2 hkc hg1 hg2 hg3 eq' hq q0 q1 q2 q3 q4 q5 q6
            go_region_held3 (fun w' => w'.cell? ⟨B, 1, none⟩ = some (.int .i64 ii) ∧ w'.cell? ⟨B, 2, none⟩ = some (.int .i64 oo)) (go_keep)
              (first
                | (have B2' := B2.out
                   clear B2'
                   go_at_call 20
                   refine (HDO.out _).mono ?_
                   rintro e w4 ⟨rfl, bl⟩
                   have B3 := Lib.hid (Below.next B2.out bl)
                   have hd1 := (bl.cell (p := ⟨B, 1, none⟩) HBK2.out).trans hc1
                   have hd2 := (bl.cell (p := ⟨B, 2, none⟩) HBK2.out).trans hc2
                   clear bl hc1 hc2
                   have hc1 := hd1
                   have hc2 := hd2
                   clear hd1 hd2)
                | (go_at_call 20
                   refine (HDI.out w2.drew).mono ?_
                   rintro e w3 ⟨rfl, bl⟩
                   have B2 := Lib.hid (Below.next BD.out bl)
                   have HBK2 := Lib.hid (show B < w3.heap.size from Nat.lt_of_lt_of_le (by simpa using HBK.out) bl.size)
                   have hd1 := (bl.cell (p := ⟨B, 1, none⟩) (by simpa using HBK.out)).trans (by simpa using hc1)
                   have hd2 := (bl.cell (p := ⟨B, 2, none⟩) (by simpa using HBK.out)).trans (by simpa using hc2)
                   clear bl hc1 hc2
                   have hc1 := hd1
                   have hc2 := hd2
                   clear hd1 hd2))
            all_goals
              go_wp2_with fail
              go_roundw
              case rel => exact ⟨0 + 1, by omega, by go_num, by rw [HV.out]; simp only [← txt_append], B3.out⟩
              case measure => simp [intOf]; omega
        · have hs' : (0 : Int) < (ss.length : Int) := by omega
          cases rl
          · have t0 : ¬ 9223372036854775807 < X.length + K.length := by have := HXL.out; omega
            have t1 : ¬ 9223372036854775807 < X.length + K.length + 1 := by have := HXL.out; omega
            have t2 : ¬ 9223372036854775807 < D.length + 1 := by have := HXL.out; omega
            have t3 : ¬ 9223372036854775807 < D.length + 1 + F.length := by have := HXL.out; omega
            have t4 : ¬ 9223372036854775807 < X.length + K.length + 1 + (D.length + 1 + F.length) := by have := HXL.out; omega
            have HV := Lib.hid (show js ((stepTs ls).take (0 + 1)) = ((X ++ K) ++ [42]) ++ ((D ++ [62]) ++ F) by
              rw [js_step HX.out, if_pos rfl, HXX.out]
              show X ++ (_ ++ stepT ⟨m, ii, oo, ws, bs, ss, false⟩) = _
              unfold stepT; rw [if_neg hs]; simp only [HDD.out, HFF.out]; rw [show kName ((m : Int)).toNat = K by rw [Int.toNat_natCast]; exact HKK.out]; simp)
            clear hs
            go_wp2_with fail
            obtain ⟨B, hB⟩ : ∃ B, wr.heap.size = B := ⟨_, rfl⟩
            obtain ⟨w2, hw2⟩ : ∃ w2, wr.alloc (.cells #[.int .i64 m, .int .i64 ii, .int .i64 oo, .slice a0 ws.length c0, .slice a1 bs.length c1, .slice a2 ss.length c2, .bool false] 45) = w2 := ⟨_, rfl⟩
            have bl1 : Below wr.heap.size wr w2 := by rw [← hw2]; exact (Below.refl _ _).alloc (Nat.le_refl _) _
            have hblk : Blk w2 B 45 #[.int .i64 m, .int .i64 ii, .int .i64 oo, .slice a0 ws.length c0, .slice a1 bs.length c1, .slice a2 ss.length c2, .bool false] := by rw [← hw2, ← hB]; exact Blk.new wr _ _
            have hc1 : w2.cell? ⟨B, 1, none⟩ = some (.int .i64 ii) := hblk.cell 1
            have hc2 : w2.cell? ⟨B, 2, none⟩ = some (.int .i64 oo) := hblk.cell 2
            have HBK := Lib.hid (show B < w2.heap.size from cell_block hc1)
            have bd : Below w2.heap.size w2 w2.drew := (Below.refl _ _).drew
            have BD := Lib.hid (Below.next (Below.next HB.out bl1) bd)
            rw [hB, hw2]
            clear bl1 bd hblk hw2 hkc hg1 hg2 hg3 eq' hq q0 q1 q2 q3 q4 q5 q6
            go_region_held3 (fun w' => w'.cell? ⟨B, 1, none⟩ = some (.int .i64 ii) ∧ w'.cell? ⟨B, 2, none⟩ = some (.int .i64 oo)) (go_keep)
              (first
                | (have B2' := B2.out
                   clear B2'
                   go_at_call 20
                   refine (HDO.out _).mono ?_
                   rintro e w4 ⟨rfl, bl⟩
                   have B3 := Lib.hid (Below.next B2.out bl)
                   have hd1 := (bl.cell (p := ⟨B, 1, none⟩) HBK2.out).trans hc1
                   have hd2 := (bl.cell (p := ⟨B, 2, none⟩) HBK2.out).trans hc2
                   clear bl hc1 hc2
                   have hc1 := hd1
                   have hc2 := hd2
                   clear hd1 hd2)
                | (go_at_call 20
                   refine (HDI.out w2.drew).mono ?_
                   rintro e w3 ⟨rfl, bl⟩
                   have B2 := Lib.hid (Below.next BD.out bl)
                   have HBK2 := Lib.hid (show B < w3.heap.size from Nat.lt_of_lt_of_le (by simpa using HBK.out) bl.size)
                   have hd1 := (bl.cell (p := ⟨B, 1, none⟩) (by simpa using HBK.out)).trans (by simpa using hc1)
                   have hd2 := (bl.cell (p := ⟨B, 2, none⟩) (by simpa using HBK.out)).trans (by simpa using hc2)
                   clear bl hc1 hc2
                   have hc1 := hd1
                   have hc2 := hd2
                   clear hd1 hd2))
            all_goals
              go_wp2_with fail
              go_roundw
              case rel => exact ⟨0 + 1, by omega, by go_num, by rw [HV.out]; simp only [← txt_append], B3.out⟩
              case measure => simp [intOf]; omega
          · have t0 : ¬ 9223372036854775807 < X.length + K.length := by have := HXL.out; omega
            have t1 : ¬ 9223372036854775807 < X.length + K.length + 1 := by have := HXL.out; omega
            have t2 : ¬ 9223372036854775807 < X.length + K.length + 1 + 1 := by have := HXL.out; omega
            have t3 : ¬ 9223372036854775807 < D.length + 1 := by have := HXL.out; omega
            have t4 : ¬ 9223372036854775807 < D.length + 1 + F.length := by have := HXL.out; omega
            have t5 : ¬ 9223372036854775807 < X.length + K.length + 1 + 1 + (D.length + 1 + F.length) := by have := HXL.out; omega
            have HV := Lib.hid (show js ((stepTs ls).take (0 + 1)) = (((X ++ K) ++ [42]) ++ [43]) ++ ((D ++ [62]) ++ F) by
              rw [js_step HX.out, if_pos rfl, HXX.out]
              show X ++ (_ ++ stepT ⟨m, ii, oo, ws, bs, ss, true⟩) = _
              unfold stepT; rw [if_neg hs]; simp only [HDD.out, HFF.out]; rw [show kName ((m : Int)).toNat = K by rw [Int.toNat_natCast]; exact HKK.out]; simp)
            clear hs
            go_wp2_with fail
            obtain ⟨B, hB⟩ : ∃ B, wr.heap.size = B := ⟨_, rfl⟩
            obtain ⟨w2, hw2⟩ : ∃ w2, wr.alloc (.cells #[.int .i64 m, .int .i64 ii, .int .i64 oo, .slice a0 ws.length c0, .slice a1 bs.length c1, .slice a2 ss.length c2, .bool true] 45) = w2 := ⟨_, rfl⟩
            have bl1 : Below wr.heap.size wr w2 := by rw [← hw2]; exact (Below.refl _ _).alloc (Nat.le_refl _) _
            have hblk : Blk w2 B 45 #[.int .i64 m, .int .i64 ii, .int .i64 oo, .slice a0 ws.length c0, .slice a1 bs.length c1, .slice a2 ss.length c2, .bool true] := by rw [← hw2, ← hB]; exact Blk.new wr _ _
            have hc1 : w2.cell? ⟨B, 1, none⟩ = some (.int .i64 ii) := hblk.cell 1
            have hc2 : w2.cell? ⟨B, 2, none⟩ = some (.int .i64 oo) := hblk.cell 2
            have HBK := Lib.hid (show B < w2.heap.size from cell_block hc1)
            have bd : Below w2.heap.size w2 w2.drew := (Below.refl _ _).drew
            have BD := Lib.hid (Below.next (Below.next HB.out bl1) bd)
            rw [hB, hw2]
            clear bl1 bd hblk hw2 hkc hg1 hg2 hg3 eq' hq q0 q1 q2 q3 q4 q5 q6
            go_region_held3 (fun w' => w'.cell? ⟨B, 1, none⟩ = some (.int .i64 ii) ∧ w'.cell? ⟨B, 2, none⟩ = some (.int .i64 oo)) (go_keep)
              (first
                | (have B2' := B2.out
                   clear B2'
                   go_at_call 20
                   refine (HDO.out _).mono ?_
                   rintro e w4 ⟨rfl, bl⟩
                   have B3 := Lib.hid (Below.next B2.out bl)
                   have hd1 := (bl.cell (p := ⟨B, 1, none⟩) HBK2.out).trans hc1
                   have hd2 := (bl.cell (p := ⟨B, 2, none⟩) HBK2.out).trans hc2
                   clear bl hc1 hc2
                   have hc1 := hd1
                   have hc2 := hd2
                   clear hd1 hd2)
                | (go_at_call 20
                   refine (HDI.out w2.drew).mono ?_
                   rintro e w3 ⟨rfl, bl⟩
                   have B2 := Lib.hid (Below.next BD.out bl)
                   have HBK2 := Lib.hid (show B < w3.heap.size from Nat.lt_of_lt_of_le (by simpa using HBK.out) bl.size)
                   have hd1 := (bl.cell (p := ⟨B, 1, none⟩) (by simpa using HBK.out)).trans (by simpa using hc1)
                   have hd2 := (bl.cell (p := ⟨B, 2, none⟩) (by simpa using HBK.out)).trans (by simpa using hc2)
                   clear bl hc1 hc2
                   have hc1 := hd1
                   have hc2 := hd2
                   clear hd1 hd2))
            all_goals
              go_wp2_with fail
              go_roundw
              case rel => exact ⟨0 + 1, by omega, by go_num, by rw [HV.out]; simp only [← txt_append], B3.out⟩
              case measure => simp [intOf]; omega
      · have hk1 : (0 : Int) < (k : Int) := by omega
        by_cases hs : ss.length = 0
        · have hs' : ¬ (0 : Int) < (ss.length : Int) := by omega
          cases rl
          · have t0 : ¬ 9223372036854775807 < X.length + 1 := by have := HXL.out; omega
            have t1 : ¬ 9223372036854775807 < X.length + 1 + K.length := by have := HXL.out; omega
            have t2 : ¬ 9223372036854775807 < D.length + 1 := by have := HXL.out; omega
            have t3 : ¬ 9223372036854775807 < D.length + 1 + F.length := by have := HXL.out; omega
            have t4 : ¬ 9223372036854775807 < X.length + 1 + K.length + (D.length + 1 + F.length) := by have := HXL.out; omega
            have HV := Lib.hid (show js ((stepTs ls).take (k + 1)) = ((X ++ [32]) ++ K) ++ ((D ++ [62]) ++ F) by
              rw [js_step HX.out, if_neg hk0, HXX.out]
              show X ++ (_ ++ stepT ⟨m, ii, oo, ws, bs, ss, false⟩) = _
              unfold stepT; rw [if_pos hs]; simp only [HDD.out, HFF.out]; rw [show kName ((m : Int)).toNat = K by rw [Int.toNat_natCast]; exact HKK.out]; simp)
            clear hk0
            clear hs
            go_wp2_with fail
            obtain ⟨B, hB⟩ : ∃ B, wr.heap.size = B := ⟨_, rfl⟩
            obtain ⟨w2, hw2⟩ : ∃ w2, wr.alloc (.cells #[.int .i64 m, .int .i64 ii, .int .i64 oo, .slice a0 ws.length c0, .slice a1 bs.length c1, .slice a2 ss.length c2, .bool false] 45) = w2 := ⟨_, rfl⟩
            have bl1 : Below wr.heap.size wr w2 := by rw [← hw2]; exact (Below.refl _ _).alloc (Nat.le_refl _) _
            have hblk : Blk w2 B 45 #[.int .i64 m, .int .i64 ii, .int .i64 oo, .slice a0 ws.length c0, .slice a1 bs.length c1, .slice a2 ss.length c2, .bool false] := by rw [← hw2, ← hB]; exact Blk.new wr _ _
            have hc1 : w2.cell? ⟨B, 1, none⟩ = some (.int .i64 ii) := hblk.cell 1
            have hc2 : w2.cell? ⟨B, 2, none⟩ = some (.int .i64 oo) := hblk.cell 2
            have HBK := Lib.hid (show B < w2.heap.size from cell_block hc1)
            have bd : Below w2.heap.size w2 w2.drew := (Below.refl _ _).drew
            have BD := Lib.hid (Below.next (Below.next HB.out bl1) bd)
            rw [hB, hw2]
            clear bl1 bd hblk hw2 hkc hg1 hg2 hg3 eq' hq q0 q1 q2 q3 q4 q5 q6
            go_region_held3 (fun w' => w'.cell? ⟨B, 1, none⟩ = some (.int .i64 ii) ∧ w'.cell? ⟨B, 2, none⟩ = some (.int .i64 oo)) (go_keep)
              (first
                | (have B2' := B2.out
                   clear B2'
                   go_at_call 20
                   refine (HDO.out _).mono ?_
                   rintro e w4 ⟨rfl, bl⟩
                   have B3 := Lib.hid (Below.next B2.out bl)
                   have hd1 := (bl.cell (p := ⟨B, 1, none⟩) HBK2.out).trans hc1
                   have hd2 := (bl.cell (p := ⟨B, 2, none⟩) HBK2.out).trans hc2
                   clear bl hc1 hc2
                   have hc1 := hd1
                   have hc2 := hd2
                   clear hd1 hd2)
                | (go_at_call 20
                   refine (HDI.out w2.drew).mono ?_
                   rintro e w3 ⟨rfl, bl⟩
                   have B2 := Lib.hid (Below.next BD.out bl)
                   have HBK2 := Lib.hid (show B < w3.heap.size from Nat.lt_of_lt_of_le (by simpa using HBK.out) bl.size)
                   have hd1 := (bl.cell (p := ⟨B, 1, none⟩) (by simpa using HBK.out)).trans (by simpa using hc1)
                   have hd2 := (bl.cell (p := ⟨B, 2, none⟩) (by simpa using HBK.out)).trans (by simpa using hc2)
                   clear bl hc1 hc2
                   have hc1 := hd1
                   have hc2 := hd2
                   clear hd1 hd2))
            all_goals
              go_wp2_with fail
              go_roundw
              case rel => exact ⟨k + 1, by omega, by go_num, by rw [HV.out]; simp only [← txt_append], B3.out⟩
              case measure => simp [intOf]; omega
          · have t0 : ¬ 9223372036854775807 < X.length + 1 := by have := HXL.out; omega
            have t1 : ¬ 9223372036854775807 < X.length + 1 + K.length := by have := HXL.out; omega
            have t2 : ¬ 9223372036854775807 < X.length + 1 + K.length + 1 := by have := HXL.out; omega
            have t3 : ¬ 9223372036854775807 < D.length + 1 := by have := HXL.out; omega
            have t4 : ¬ 9223372036854775807 < D.length + 1 + F.length := by have := HXL.out; omega
            have t5 : ¬ 9223372036854775807 < X.length + 1 + K.length + 1 + (D.length + 1 + F.length) := by have := HXL.out; omega
            have HV := Lib.hid (show js ((stepTs ls).take (k + 1)) = (((X ++ [32]) ++ K) ++ [43]) ++ ((D ++ [62]) ++ F) by
              rw [js_step HX.out, if_neg hk0, HXX.out]
              show X ++ (_ ++ stepT ⟨m, ii, oo, ws, bs, ss, true⟩) = _
              unfold stepT; rw [if_pos hs]; simp only [HDD.out, HFF.out]; rw [show kName ((m : Int)).toNat = K by rw [Int.toNat_natCast]; exact HKK.out]; simp)
            clear hk0
            clear hs
            go_wp2_with fail
            obtain ⟨B, hB⟩ : ∃ B, wr.heap.size = B := ⟨_, rfl⟩
            obtain ⟨w2, hw2⟩ : ∃ w2, wr.alloc (.cells #[.int .i64 m, .int .i64 ii, .int .i64 oo, .slice a0 ws.length c0, .slice a1 bs.length c1, .slice a2 ss.length c2, .bool true] 45) = w2 := ⟨_, rfl⟩
            have bl1 : Below wr.heap.size wr w2 := by rw [← hw2]; exact (Below.refl _ _).alloc (Nat.le_refl _) _
            have hblk : Blk w2 B 45 #[.int .i64 m, .int .i64 ii, .int .i64 oo, .slice a0 ws.length c0, .slice a1 bs.length c1, .slice a2 ss.length c2, .bool true] := by rw [← hw2, ← hB]; exact Blk.new wr _ _
            have hc1 : w2.cell? ⟨B, 1, none⟩ = some (.int .i64 ii) := hblk.cell 1
            have hc2 : w2.cell? ⟨B, 2, none⟩ = some (.int .i64 oo) := hblk.cell 2
            have HBK := Lib.hid (show B < w2.heap.size from cell_block hc1)
            have bd : Below w2.heap.size w2 w2.drew := (Below.refl _ _).drew
            have BD := Lib.hid (Below.next (Below.next HB.out bl1) bd)
            rw [hB, hw2]
            clear bl1 bd hblk hw2 hkc hg1 hg2 hg3 eq' hq q0 q1 q2 q3 q4 q5 q6
            go_region_held3 (fun w' => w'.cell? ⟨B, 1, none⟩ = some (.int .i64 ii) ∧ w'.cell? ⟨B, 2, none⟩ = some (.int .i64 oo)) (go_keep)
              (first
                | (have B2' := B2.out
                   clear B2'
                   go_at_call 20
                   refine (HDO.out _).mono ?_
                   rintro e w4 ⟨rfl, bl⟩
                   have B3 := Lib.hid (Below.next B2.out bl)
                   have hd1 := (bl.cell (p := ⟨B, 1, none⟩) HBK2.out).trans hc1
                   have hd2 := (bl.cell (p := ⟨B, 2, none⟩) HBK2.out).trans hc2
                   clear bl hc1 hc2
                   have hc1 := hd1
                   have hc2 := hd2
                   clear hd1 hd2)
                | (go_at_call 20
                   refine (HDI.out w2.drew).mono ?_
                   rintro e w3 ⟨rfl, bl⟩
                   have B2 := Lib.hid (Below.next BD.out bl)
                   have HBK2 := Lib.hid (show B < w3.heap.size from Nat.lt_of_lt_of_le (by simpa using HBK.out) bl.size)
                   have hd1 := (bl.cell (p := ⟨B, 1, none⟩) (by simpa using HBK.out)).trans (by simpa using hc1)
                   have hd2 := (bl.cell (p := ⟨B, 2, none⟩) (by simpa using HBK.out)).trans (by simpa using hc2)
                   clear bl hc1 hc2
                   have hc1 := hd1
                   have hc2 := hd2
                   clear hd1 hd2))
            all_goals
              go_wp2_with fail
              go_roundw
              case rel => exact ⟨k + 1, by omega, by go_num, by rw [HV.out]; simp only [← txt_append], B3.out⟩
              case measure => simp [intOf]; omega
        · have hs' : (0 : Int) < (ss.length : Int) := by omega
          cases rl
          · have t0 : ¬ 9223372036854775807 < X.length + 1 := by have := HXL.out; omega
            have t1 : ¬ 9223372036854775807 < X.length + 1 + K.length := by have := HXL.out; omega
            have t2 : ¬ 9223372036854775807 < X.length + 1 + K.length + 1 := by have := HXL.out; omega
            have t3 : ¬ 9223372036854775807 < D.length + 1 := by have := HXL.out; omega
            have t4 : ¬ 9223372036854775807 < D.length + 1 + F.length := by have := HXL.out; omega
            have t5 : ¬ 9223372036854775807 < X.length + 1 + K.length + 1 + (D.length + 1 + F.length) := by have := HXL.out; omega
            have HV := Lib.hid (show js ((stepTs ls).take (k + 1)) = (((X ++ [32]) ++ K) ++ [42]) ++ ((D ++ [62]) ++ F) by
              rw [js_step HX.out, if_neg hk0, HXX.out]
              show X ++ (_ ++ stepT ⟨m, ii, oo, ws, bs, ss, false⟩) = _
              unfold stepT; rw [if_neg hs]; simp only [HDD.out, HFF.out]; rw [show kName ((m : Int)).toNat = K by rw [Int.toNat_natCast]; exact HKK.out]; simp)
            clear hk0
            clear hs
            go_wp2_with fail
            obtain ⟨B, hB⟩ : ∃ B, wr.heap.size = B := ⟨_, rfl⟩
            obtain ⟨w2, hw2⟩ : ∃ w2, wr.alloc (.cells #[.int .i64 m, .int .i64 ii, .int .i64 oo, .slice a0 ws.length c0, .slice a1 bs.length c1, .slice a2 ss.length c2, .bool false] 45) = w2 := ⟨_, rfl⟩
            have bl1 : Below wr.heap.size wr w2 := by rw [← hw2]; exact (Below.refl _ _).alloc (Nat.le_refl _) _
            have hblk : Blk w2 B 45 #[.int .i64 m, .int .i64 ii, .int .i64 oo, .slice a0 ws.length c0, .slice a1 bs.length c1, .slice a2 ss.length c2, .bool false] := by rw [← hw2, ← hB]; exact Blk.new wr _ _
            have hc1 : w2.cell? ⟨B, 1, none⟩ = some (.int .i64 ii) := hblk.cell 1
            have hc2 : w2.cell? ⟨B, 2, none⟩ = some (.int .i64 oo) := hblk.cell 2
            have HBK := Lib.hid (show B < w2.heap.size from cell_block hc1)
            have bd : Below w2.heap.size w2 w2.drew := (Below.refl _ _).drew
            have BD := Lib.hid (Below.next (Below.next HB.out bl1) bd)
            rw [hB, hw2]
            clear bl1 bd hblk hw2 hkc hg1 hg2 hg3 eq' hq q0 q1 q2 q3 q4 q5 q6
            go_region_held3 (fun w' => w'.cell? ⟨B, 1, none⟩ = some (.int .i64 ii) ∧ w'.cell? ⟨B, 2, none⟩ = some (.int .i64 oo)) (go_keep)
              (first
                | (have B2' := B2.out
                   clear B2'
                   go_at_call 20
                   refine (HDO.out _).mono ?_
                   rintro e w4 ⟨rfl, bl⟩
                   have B3 := Lib.hid (Below.next B2.out bl)
                   have hd1 := (bl.cell (p := ⟨B, 1, none⟩) HBK2.out).trans hc1
                   have hd2 := (bl.cell (p := ⟨B, 2, none⟩) HBK2.out).trans hc2
                   clear bl hc1 hc2
                   have hc1 := hd1
                   have hc2 := hd2
                   clear hd1 hd2)
                | (go_at_call 20
                   refine (HDI.out w2.drew).mono ?_
                   rintro e w3 ⟨rfl, bl⟩
                   have B2 := Lib.hid (Below.next BD.out bl)
                   have HBK2 := Lib.hid (show B < w3.heap.size from Nat.lt_of_lt_of_le (by simpa using HBK.out) bl.size)
                   have hd1 := (bl.cell (p := ⟨B, 1, none⟩) (by simpa using HBK.out)).trans (by simpa using hc1)
                   have hd2 := (bl.cell (p := ⟨B, 2, none⟩) (by simpa using HBK.out)).trans (by simpa using hc2)
                   clear bl hc1 hc2
                   have hc1 := hd1
                   have hc2 := hd2
                   clear hd1 hd2))
            all_goals
              go_wp2_with fail
              go_roundw
              case rel => exact ⟨k + 1, by omega, by go_num, by rw [HV.out]; simp only [← txt_append], B3.out⟩
              case measure => simp [intOf]; omega
          · have t0 : ¬ 9223372036854775807 < X.length + 1 := by have := HXL.out; omega
            have t1 : ¬ 9223372036854775807 < X.length + 1 + K.length := by have := HXL.out; omega
            have t2 : ¬ 9223372036854775807 < X.length + 1 + K.length + 1 := by have := HXL.out; omega
            have t3 : ¬ 9223372036854775807 < X.length + 1 + K.length + 1 + 1 := by have := HXL.out; omega
            have t4 : ¬ 9223372036854775807 < D.length + 1 := by have := HXL.out; omega
            have t5 : ¬ 9223372036854775807 < D.length + 1 + F.length := by have := HXL.out; omega
            have t6 : ¬ 9223372036854775807 < X.length + 1 + K.length + 1 + 1 + (D.length + 1 + F.length) := by have := HXL.out; omega
            have HV := Lib.hid (show js ((stepTs ls).take (k + 1)) = ((((X ++ [32]) ++ K) ++ [42]) ++ [43]) ++ ((D ++ [62]) ++ F) by
              rw [js_step HX.out, if_neg hk0, HXX.out]
              show X ++ (_ ++ stepT ⟨m, ii, oo, ws, bs, ss, true⟩) = _
              unfold stepT; rw [if_neg hs]; simp only [HDD.out, HFF.out]; rw [show kName ((m : Int)).toNat = K by rw [Int.toNat_natCast]; exact HKK.out]; simp)
            clear hk0
            clear hs
            go_wp2_with fail
            obtain ⟨B, hB⟩ : ∃ B, wr.heap.size = B := ⟨_, rfl⟩
            obtain ⟨w2, hw2⟩ : ∃ w2, wr.alloc (.cells #[.int .i64 m, .int .i64 ii, .int .i64 oo, .slice a0 ws.length c0, .slice a1 bs.length c1, .slice a2 ss.length c2, .bool true] 45) = w2 := ⟨_, rfl⟩
            have bl1 : Below wr.heap.size wr w2 := by rw [← hw2]; exact (Below.refl _ _).alloc (Nat.le_refl _) _
            have hblk : Blk w2 B 45 #[.int .i64 m, .int .i64 ii, .int .i64 oo, .slice a0 ws.length c0, .slice a1 bs.length c1, .slice a2 ss.length c2, .bool true] := by rw [← hw2, ← hB]; exact Blk.new wr _ _
            have hc1 : w2.cell? ⟨B, 1, none⟩ = some (.int .i64 ii) := hblk.cell 1
            have hc2 : w2.cell? ⟨B, 2, none⟩ = some (.int .i64 oo) := hblk.cell 2
            have HBK := Lib.hid (show B < w2.heap.size from cell_block hc1)
            have bd : Below w2.heap.size w2 w2.drew := (Below.refl _ _).drew
            have BD := Lib.hid (Below.next (Below.next HB.out bl1) bd)
            rw [hB, hw2]
            clear bl1 bd hblk hw2 hkc hg1 hg2 hg3 eq' hq q0 q1 q2 q3 q4 q5 q6
            go_region_held3 (fun w' => w'.cell? ⟨B, 1, none⟩ = some (.int .i64 ii) ∧ w'.cell? ⟨B, 2, none⟩ = some (.int .i64 oo)) (go_keep)
              (first
                | (have B2' := B2.out
                   clear B2'
                   go_at_call 20
                   refine (HDO.out _).mono ?_
                   rintro e w4 ⟨rfl, bl⟩
                   have B3 := Lib.hid (Below.next B2.out bl)
                   have hd1 := (bl.cell (p := ⟨B, 1, none⟩) HBK2.out).trans hc1
                   have hd2 := (bl.cell (p := ⟨B, 2, none⟩) HBK2.out).trans hc2
                   clear bl hc1 hc2
                   have hc1 := hd1
                   have hc2 := hd2
                   clear hd1 hd2)
                | (go_at_call 20
                   refine (HDI.out w2.drew).mono ?_
                   rintro e w3 ⟨rfl, bl⟩
                   have B2 := Lib.hid (Below.next BD.out bl)
                   have HBK2 := Lib.hid (show B < w3.heap.size from Nat.lt_of_lt_of_le (by simpa using HBK.out) bl.size)
                   have hd1 := (bl.cell (p := ⟨B, 1, none⟩) (by simpa using HBK.out)).trans (by simpa using hc1)
                   have hd2 := (bl.cell (p := ⟨B, 2, none⟩) (by simpa using HBK.out)).trans (by simpa using hc2)
                   clear bl hc1 hc2
                   have hc1 := hd1
                   have hc2 := hd2
                   clear hd1 hd2))
            all_goals
              go_wp2_with fail
              go_roundw
              case rel => exact ⟨k + 1, by omega, by go_num, by rw [HV.out]; simp only [← txt_append], B3.out⟩
              case measure => simp [intOf]; omega
    · obtain rfl : k = n := by omega
      have hall : (stepTs ls).take k = stepTs ls := by rw [List.take_of_length_le (by rw [HSL.out]; exact Nat.le_refl _)]
      rw [hall]
      have HPT := Lib.hid (show planT (ls.map PstA.p) = if (stepTs ls).length = 0 then noneT else js (stepTs ls) by unfold planT stepTs; simp only [List.length_map, List.map_map]; rfl)
      clear hall
      by_cases h0 : k = 0
      · subst h0
        have e : stepTs ls = [] := List.length_eq_zero_iff.1 HSL.out
        have HE := Lib.hid (show planT (ls.map PstA.p) = noneT by rw [HPT.out, if_pos HSL.out])
        rw [e]
        clear e
        go_wp2_with fail
        go_ret
        exact ⟨by rw [HE.out]; rfl, Below.next HB1.out HB.out⟩
      · have HE := Lib.hid (show planT (ls.map PstA.p) = js (stepTs ls) by rw [HPT.out, if_neg (by rw [HSL.out]; exact h0)])
        obtain ⟨X, hX⟩ : ∃ X, js (stepTs ls) = X := ⟨_, rfl⟩
        have hne : X ≠ [] := by
          rw [← hX]
          exact js_ne (by rw [HSL.out]; exact h0) (fun t ht => by
            obtain ⟨x, _, rfl⟩ := List.mem_map.1 ht
            exact stepT_ne _)
        have hnb : (X == []) = false := by simp [hne]
        rw [hX]
        have HX2 := Lib.hid hX
        clear hX
        go_wp2_with fail
        go_ret
        exact ⟨by rw [HE.out, HX2.out]; rfl, Below.next HB1.out HB.out⟩
set_option maxRecDepth 20000 in
set_option maxHeartbeats 2000000 in
theorem c_sPlanText (g : Option Addr) (n c : Nat) (y : List PstA) (w : World) (h : PstsAt w g n c y) :
    Calls Tryd.prog 5 #[.agg #[.slice g n c]] w fun e w' => e = .returned (.tuple #[.string (vPlanText (y.map PstA.p)).1, .bool (vPlanText (y.map PstA.p)).2]) ∧ Below w.heap.size w w' := by
  have hln : y.length = n := h.1
  have bl : Below w.heap.size w (w.alloc (.cells #[.slice g n c] 30)) := (Below.refl _ _).alloc (Nat.le_refl _) _
  have hblk : Blk (w.alloc (.cells #[.slice g n c] 30)) w.heap.size 30 #[.slice g n c] := Blk.new w _ _
  have hcell : (w.alloc (.cells #[.slice g n c] 30)).cell? ⟨w.heap.size, 0, none⟩ = some (.slice g n c) := hblk.cell 0
  have H1 := Lib.hid (h.kept bl)
  have B1 := Lib.hid bl
  have HVP := Lib.hid (c_l09Is w.heap.size 0 g c n y _ rfl _ (cell_block hcell) hcell (h.kept bl))
  have HC := Lib.hid hcell
  have HBK := Lib.hid (cell_block hcell)
  have HN := Lib.hid hln
  cases hvp : vPln (y.map PstA.p) with
  | false =>
    have HV := Lib.hid (show vPlanText (y.map PstA.p) = (⟨#[]⟩, false) by unfold vPlanText; rw [hvp]; rfl)
    rw [hvp] at HVP
    clear h hcell hblk bl hvp hln
    go_enter Tryd.func5, Tryd.ntmps5
    go_wp2_with fail
    refine HVP.out.mono ?_
    rintro e w2 ⟨rfl, hb⟩
    have B2 := Lib.hid (Below.next B1.out hb)
    clear hb
    go_wp2_with fail
    go_ret2
    exact ⟨by rw [HV.out]; rfl, B2.out⟩
  | true =>
    have HH := Lib.hid (pln_short y n hln hvp)
    rw [hvp] at HVP
    have HV := Lib.hid (show vPlanText (y.map PstA.p) = (⟨(planT (y.map PstA.p)).toArray⟩, true) by unfold vPlanText; rw [hvp]; rfl)
    clear h hcell hblk bl hvp hln
    go_enter Tryd.func5, Tryd.ntmps5
    go_wp2_with fail
    refine HVP.out.mono ?_
    rintro e w2 ⟨rfl, hb⟩
    have B2 := Lib.hid (Below.next B1.out hb)
    have HT := Lib.hid (c_l09Text w.heap.size g c n y w2 (Nat.lt_of_lt_of_le HBK.out hb.size) ((hb.cell (p := ⟨w.heap.size, 0, none⟩) HBK.out).trans HC.out) (H1.out.kept hb) HH.out.1 HH.out.2)
    clear hb
    go_wp2_with fail
    refine HT.out.mono ?_
    rintro e w3 ⟨rfl, hb⟩
    have B3 := Lib.hid (Below.next B2.out hb)
    clear hb
    go_wp2_with fail
    go_ret2
    exact ⟨by rw [HV.out]; rfl, B3.out⟩
end Go.Proofs.YtdngbfpfhkkmpaaDoor
