/-
  What the check of bytes is: the program, by a table. Conditions: the text's length is one of a string.
-/
import Derived.Test.YtpobdigmjfapbaaDoorChk
import Derived.Test.YtpobdigmjfapbaaDoorCl
namespace Go.Proofs.YtpobdigmjfapbaaDoor
open Go.RowKit Go.Deep Go.WideShapes Go.ChangeShapes
set_option linter.unusedVariables false

def tabV (k i : Nat) : Value := .int .u32 (if i < k then ((crcK 8 i : Nat) : Int) else 0)
def tabC (k : Nat) : Array Value := ((List.range 256).map (tabV k)).toArray
theorem tabC_size (k : Nat) : (tabC k).size = 256 := by simp [tabC]
theorem tabC_at (k i : Nat) (h : i < 256) : (tabC k)[i]? = some (tabV k i) := by simp [tabC, h]
theorem tabC_set (k : Nat) (h : k < 256) : (tabC k).setIfInBounds k (.int .u32 ((crcK 8 k : Nat) : Int)) = tabC (k + 1) := by
  apply Array.ext_getElem?
  intro i
  by_cases hi : i < 256
  · rw [tabC_at _ _ hi]
    by_cases hk : k = i
    · subst hk
      rw [Array.getElem?_setIfInBounds_self_of_lt (by rw [tabC_size]; exact h)]
      simp [tabV]
    · rw [Array.getElem?_setIfInBounds_ne hk, tabC_at _ _ hi]
      have e : (i < k) ↔ (i < k + 1) := by omega
      simp only [tabV, e]
  · rw [Array.getElem?_eq_none (by rw [Array.size_setIfInBounds, tabC_size]; omega), Array.getElem?_eq_none (by rw [tabC_size]; omega)]
theorem tabC_one (k : Nat) : (tabC k).all (·.oneCell') = true := by
  rw [Array.all_eq_true_iff_forall_mem]
  intro v hv
  simp only [tabC, List.mem_toArray, List.mem_map] at hv
  obtain ⟨i, _, rfl⟩ := hv
  rfl
theorem blk_setAt {w : World} {g : Nat} {t : TypeId} {cs : Array Value} (h : Blk w g t cs) (i : Nat) (u : Value) : Blk (w.setCell ⟨g, i, none⟩ u) g t (cs.setIfInBounds i u) := by
  unfold Blk at h ⊢
  simp [World.setCell, Array.getElem?_modify, h]
theorem blk_setOff {w : World} {g g' : Nat} {t : TypeId} {cs : Array Value} (h : Blk w g t cs) (hne : g ≠ g') (i : Nat) (u : Value) : Blk (w.setCell ⟨g', i, none⟩ u) g t cs := by
  unfold Blk at h ⊢
  rw [Below.heap_setCell w ⟨g', i, none⟩ u g hne]
  exact h
theorem blk_row {w : World} {g : Nat} {t : TypeId} {cs ds : Array Value} (h : Blk w g t cs) : Blk (w.setRow g ds) g t ds := by
  unfold Blk at h ⊢
  simp [World.setRow, Array.getElem?_modify, h]
theorem below_row {W w : World} {g B : Nat} {ds : Array Value} (h : Below B W w) (hg : B ≤ g) : Below B W (w.setRow g ds) := by
  refine ⟨h.os, h.tape, h.output, by simpa [World.setRow] using h.size, fun k hk => ?_⟩
  rw [← h.block k hk]
  simp only [World.setRow, Array.getElem?_modify]
  rw [if_neg (by omega)]
theorem run_tab {w : World} {g : Nat} {t : TypeId} (h : Blk w g t (tabC 0)) : (storeCells ⟨g, 0, none⟩ (tabC 256).toList).run Tryd.prog w = .ok () (w.setRow g (tabC 256)) := by
  have h1 := run_storeCells_from (P := Tryd.prog) g t (tabC 256).toList 0 (tabC 0) w h (by simp [tabC_size]) (fun v hv => (Array.all_eq_true_iff_forall_mem.1 (tabC_one 256)) v (by simpa using hv))
  simpa using h1
theorem tab_zero : Tryd.zeroCells153 = tabC 0 := by kernel_rfl
theorem tab_info : (Tryd.prog.info? 153).map (·.size) = some 256 := by kernel_rfl
def TabRel (w : World) (i : Value) (wr : World) : Prop := ∃ k : Nat, k ≤ 256 ∧ i = .int .i64 k ∧ Blk wr w.heap.size 153 (tabC 0) ∧ Blk wr (w.heap.size + 1) 153 (tabC k) ∧ Below w.heap.size w wr
set_option maxRecDepth 20000 in
set_option maxHeartbeats 2000000 in
theorem c_checkTable (w : World) : Calls Tryd.prog 114 #[] w fun e w' => e = .returned (.agg (tabC 256)) ∧ Below w.heap.size w w' := by
  have k0 := (Blk.new w 153 (tabC 0)).below ((Below.refl _ _).alloc (Nat.le_refl _) (.cells (tabC 0) 153))
  have k1 := Blk.new (w.alloc (.cells (tabC 0) 153)) 153 (tabC 0)
  simp only [World.size_alloc] at k1
  have K0 := Lib.hid k0
  have K1 := Lib.hid k1
  have B := Lib.hid (((Below.refl w.heap.size w).alloc (Nat.le_refl _) (.cells (tabC 0) 153)).alloc (by simp) (.cells (tabC 0) 153))
  clear k0 k1
  go_enter Tryd.func114, Tryd.ntmps114
  go_wp2_with fail
  rw [tab_zero]
  generalize (w.alloc (.cells (tabC 0) 153)).alloc (.cells (tabC 0) 153) = w1 at K0 K1 B ⊢
  go_loopw [5] (fun i wr => TabRel w i wr) (fun i _ => 256 - (intOf i).toNat)
  case atStart => exact ⟨0, by omega, rfl, K0.out, K1.out, B.out⟩
  case round =>
    obtain ⟨k, hk, rfl, hk0, hk1, hb⟩ := hrel
    have K0 := Lib.hid hk0
    have K1 := Lib.hid hk1
    have B := Lib.hid hb
    have hk0' : (0 : Int) ≤ (k : Int) := by omega
    have hk2 : (k : Int) ≤ 256 := by omega
    clear hk0 hk1 hb
    by_cases hlt : k < 256
    · have hlt' : (k : Int) ≤ 255 := by omega
      have hc : wr.cell? ⟨w.heap.size + 1, k, none⟩ = some (tabV k k) := by rw [K1.out.cell k, tabC_at _ _ hlt]
      have hf : wr.frozen? ⟨w.heap.size + 1, k, none⟩ = false := K1.out.frozen k
      have HC := Lib.hid hc
      have HF := Lib.hid hf
      have HT := Lib.hid (tabC_set k hlt)
      clear hc hf
      go_wp2_with fail
      go_loop [3, 10] (fun x i => ∃ j : Nat, j ≤ 8 ∧ i = .int .i64 j ∧ x = .int .u32 ((crcK j k : Nat) : Int)) (fun _ i => 8 - (intOf i).toNat)
      case atStart => exact ⟨0, Nat.zero_le _, rfl, rfl⟩
      case round =>
        obtain ⟨j, hj, rfl, rfl⟩ := hrel
        have hy := crcK_lt (show k < 4294967296 by omega) j
        obtain ⟨y, hy'⟩ : ∃ y, crcK j k = y := ⟨_, rfl⟩
        have HJ := Lib.hid (show crcK (j + 1) k = crcOne y by rw [← hy']; rfl)
        rw [hy'] at hy ⊢
        have HY := Lib.hid hy'
        have hy0 : (0 : Int) ≤ (y : Int) := by omega
        have hy63 : (y : Int) ≤ 4294967295 := by omega
        clear hy'
        by_cases hj8 : j < 8
        · by_cases hodd : y % 2 = 1
          · have ha : (y : Int) % 2 = 1 := by omega
            have hxx := u32_xor_nat (y / 2) 3988292384 (by omega) (by omega)
            rw [show ((y / 2 : Nat) : Int) = (y : Int) / 2 by omega] at hxx
            have HXX := Lib.hid (show bits .xor .u32 ((y : Int) / 2) 3988292384 = ((y / 2 ^^^ 3988292384 : Nat) : Int) from hxx)
            have HO := Lib.hid (show crcOne y = y / 2 ^^^ 3988292384 by unfold crcOne; rw [if_pos hodd])
            clear hodd hxx
            go_wp2_with fail
            go_round
            case rel => exact ⟨j + 1, by omega, by go_num, by rw [HJ.out, HO.out, ← HXX.out]⟩
            case measure => simp [intOf]; omega
          · have ha : (y : Int) % 2 = 0 := by omega
            have HO := Lib.hid (show crcOne y = y / 2 by unfold crcOne; rw [if_neg hodd])
            clear hodd
            go_wp2_with fail
            go_round
            case rel => exact ⟨j + 1, by omega, by go_num, by rw [HJ.out, HO.out]; go_num⟩
            case measure => simp [intOf]; omega
        · obtain rfl : j = 8 := by omega
          have hc := HC.out
          have hf := HF.out
          go_wp2_with fail
          go_roundw
          case rel =>
            have h1 := blk_setAt K1.out k (.int .u32 ((crcK 8 k : Nat) : Int))
            rw [HT.out, HY.out] at h1
            exact ⟨k + 1, by omega, by go_num, blk_setOff K0.out (by omega) _ _, h1, B.out.setCell (by simp) _⟩
          case measure => simp [intOf]; omega
    · obtain rfl : k = 256 := by omega
      have K2 := Lib.hid (blk_row (ds := tabC 256) K0.out)
      have B2 := Lib.hid (below_row (ds := tabC 256) B.out (Nat.le_refl _))
      go_wp2_with fail
      refine wp_load_row _ _ rfl (w.heap.size + 1) rfl 153 (tabC 256) (0, 0) _ K1.out Tryd.underlying153 rfl (tab_info.trans (by rw [tabC_size])) ?_
      go_wp2_with fail
      rw [run_tab K0.out]
      go_wp2_with fail
      exact bodyPost_ret (v := .agg (tabC 256)) (results_cell_row rfl _ _ w.heap.size 153 (tabC 256) (0, 0) _ rfl K2.out Tryd.underlying153 rfl (tab_info.trans (by rw [tabC_size]))) rfl ⟨rfl, B2.out⟩
set_option maxRecDepth 20000 in
set_option maxHeartbeats 2000000 in
theorem c_checkOfBytes (s : ByteArray) (hs : s.size ≤ maxLen) (w : World) : Calls Tryd.prog 70 #[.string s] w fun e w' => e = .returned (.int .i64 (vCheck s.data.toList)) ∧ Below w.heap.size w w' := by
  unfold maxLen at hs
  go_enter Tryd.func70, Tryd.ntmps70
  go_wp2_with fail
  refine (c_checkTable _).mono ?_
  rintro e w1 ⟨rfl, hb⟩
  have k1 := blk_row (ds := tabC 256) (Blk.new w1 153 (tabC 0))
  have B := Lib.hid (below_row (ds := tabC 256) (hb.alloc hb.size (.cells (tabC 0) 153)) hb.size)
  have KN := Lib.hid (Blk.new w1 153 (tabC 0))
  have K1 := Lib.hid k1
  clear hb k1
  go_wp2_with fail
  rw [tab_zero, run_tab KN.out]
  go_wp2_with fail
  clear KN
  generalize (w1.alloc (.cells (tabC 0) 153)).setRow w1.heap.size (tabC 256) = w2 at K1 B ⊢
  generalize w1.heap.size = G at K1 ⊢
  go_loop [4, 9] (fun x i => ∃ k : Nat, k ≤ s.size ∧ i = .int .i64 k ∧ x = .int .u32 ((crcOf (s.data.toList.take k) : Nat) : Int)) (fun _ i => s.size - (intOf i).toNat)
  case atStart => exact ⟨0, Nat.zero_le _, rfl, rfl⟩
  case round =>
    obtain ⟨k, hk, rfl, rfl⟩ := hrel
    have hl := crcOf_lt (s.data.toList.take k)
    by_cases hlt : k < s.size
    · have HS := Lib.hid (show crcOf (s.data.toList.take (k + 1)) = crcK 8 (crcOf (s.data.toList.take k) ^^^ s[k].toNat) by rw [take_byteC s k hlt, crcOf_snoc])
      have hb : s[k].toNat < 256 := UInt8.toNat_lt _
      obtain ⟨n, hn⟩ : ∃ n, crcOf (s.data.toList.take k) = n := ⟨_, rfl⟩
      rw [hn] at hl HS ⊢
      clear hn
      have hx := u8_xor_nat (n % 256) s[k].toNat (by omega) hb
      rw [show ((n % 256 : Nat) : Int) = (n : Int) % 256 by omega] at hx
      have hX : n % 256 ^^^ s[k].toNat < 256 := Nat.xor_lt_two_pow (n := 8) (by omega) (by omega)
      have HL := Lib.hid (crc_look n s[k].toNat)
      obtain ⟨X, hXX⟩ : ∃ X, n % 256 ^^^ s[k].toNat = X := ⟨_, rfl⟩
      rw [hXX] at hx hX HL
      have hX0 : (0 : Int) ≤ (X : Int) := by omega
      have hX1 : (X : Int) ≤ 255 := by omega
      have hy := crcK_lt (show X < 4294967296 by omega) 8
      have hc : w2.cell? ⟨G, X, none⟩ = some (tabV 256 X) := by rw [K1.out.cell X, tabC_at _ _ hX]
      rw [show tabV 256 X = .int .u32 ((crcK 8 X : Nat) : Int) by simp [tabV, hX]] at hc
      obtain ⟨y, hyy⟩ : ∃ y, crcK 8 X = y := ⟨_, rfl⟩
      rw [hyy] at hc hy HL
      have hz := u32_xor_nat y (n / 256) hy (by omega)
      rw [show ((n / 256 : Nat) : Int) = (n : Int) / 256 by omega] at hz
      obtain ⟨Z, hZ⟩ : ∃ Z, y ^^^ n / 256 = Z := ⟨_, rfl⟩
      rw [hZ] at hz HL
      have hn0 : (0 : Int) ≤ (n : Int) := by omega
      have hn1 : (n : Int) ≤ 4294967295 := by omega
      clear hZ hXX hyy hX hy hl
      go_wp2_with fail
      go_round
      case rel => exact ⟨k + 1, by omega, by go_num, by rw [HS.out, HL.out]⟩
      case measure => simp [intOf]; omega
    · have hn63 : ((crcOf (s.data.toList.take k) : Nat) : Int) ≤ 4294967295 := by omega
      have hx := u32_xor_nat 4294967295 (crcOf (s.data.toList.take k)) (by omega) hl
      obtain ⟨n, hn⟩ : ∃ n, crcOf (s.data.toList.take k) = n := ⟨_, rfl⟩
      have HN := Lib.hid (show vCheck s.data.toList = ((4294967295 ^^^ n : Nat) : Int) by rw [← hn, List.take_of_length_le (by simp; omega), Nat.xor_comm]; rfl)
      have hX := xor_lt32 (show 4294967295 < 4294967296 by omega) hl
      rw [hn] at hx hn63 hX ⊢
      have hx2 := (show bits .xor .u32 IntKind.u32.max (n : Int) = ((4294967295 ^^^ n : Nat) : Int) from hx)
      obtain ⟨Z, hZ⟩ : ∃ Z, 4294967295 ^^^ n = Z := ⟨_, rfl⟩
      rw [hZ] at hx2 hX HN
      have hX0 : (0 : Int) ≤ (Z : Int) := by omega
      have hX1 : (Z : Int) ≤ 4294967295 := by omega
      clear hn hl hx hX hZ
      go_wp2_with fail
      go_ret
      exact ⟨ret_i ((show wrap64 (Z : Int) = (Z : Int) by unfold wrap64; omega).trans HN.out.symm), B.out⟩
end Go.Proofs.YtpobdigmjfapbaaDoor
