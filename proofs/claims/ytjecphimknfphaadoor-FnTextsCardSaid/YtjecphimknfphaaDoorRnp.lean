/-
  ReadNumbers: the library's ParseUint(s, 16, 32), for any short text; the program's readNumber. Conditions: the text is short; the errors and the table are as their initialisers lay them.
-/
import Derived.Test.YtjecphimknfphaaDoorRnv
import Derived.Test.YtjecphimknfphaaDoorRdp
import Derived.Test.YtjecphimknfphaaDoorHxn
import Derived.Shelf.Strconv.ToError
import Derived.Shelf.Strconv.ToErrorRange
import Derived.Shelf.Strconv.Lower
namespace Go.Proofs.YtjecphimknfphaaDoor
open Go.Shelf Go.RowKit Go.Deep Go.WideShapes Go.ChangeShapes
set_option linter.unusedVariables false
set_option linter.unusedSimpArgs false

/-- a byte with the bit 32 set -/
theorem low_fin : ∀ c : Fin 256, (¬ (48 ≤ c.val ∧ c.val ≤ 57)) → 0 ≤ bits .or .u8 (c.val : Int) 32 ∧ bits .or .u8 (c.val : Int) 32 ≤ 255 ∧ (97 ≤ c.val ∧ c.val ≤ 102 → bits .or .u8 (c.val : Int) 32 = c.val) := by decide +kernel
theorem low_at {c : UInt8} (h : ¬ (48 ≤ c.toNat ∧ c.toNat ≤ 57)) : 0 ≤ bits .or .u8 (c.toNat : Int) 32 ∧ bits .or .u8 (c.toNat : Int) 32 ≤ 255 ∧ (97 ≤ c.toNat ∧ c.toNat ≤ 102 → bits .or .u8 (c.toNat : Int) 32 = c.toNat) :=
  low_fin ⟨c.toNat, c.toNat_lt⟩ h
/-- what ParseUint answers: a number, right for eight digits, or one of two errors, never for eight digits -/
def PuOk (l : List UInt8) (w : World) (e : Ending) (w' : World) : Prop :=
  ∃ v err, e = .returned (.tuple #[.int .u64 (v : Nat), err]) ∧ Below w.heap.size w w' ∧ ((err = .nilIface ∧ v < 4294967296 ∧ (allH l = true → v = hval l)) ∨ ((err = .iface 99 (.int .i64 2) ∨ err = .iface 99 (.int .i64 1)) ∧ shp8 l = false))
theorem shp8_empty : shp8 [] = false := by decide
theorem shp8_bad {l : List UInt8} {k : Nat} {c : UInt8} (h : l[k]? = some c) (hc : ¬ hv c < 16) : shp8 l = false := by
  unfold shp8 allH
  have : (l.all fun c => decide (hv c < 16)) = false := by
    rw [List.all_eq_false]
    exact ⟨c, List.mem_of_getElem? h, by simpa using hc⟩
  rw [this, Bool.and_false]
theorem shp8_much {l : List UInt8} {k : Nat} (h : allH (l.take k) = true → 4294967295 < hval (l.take k)) : shp8 l = false := by
  cases hs : shp8 l with
  | false => rfl
  | true =>
    obtain ⟨h1, h2⟩ := shp8_of hs
    have ht : allH (l.take k) = true := by
      unfold allH at h2 ⊢
      rw [List.all_eq_true] at h2 ⊢
      exact fun c hc => h2 c (List.mem_of_mem_take hc)
    have h3 := hval_lt _ ht
    have h4 : (l.take k).length ≤ 8 := by rw [List.length_take]; omega
    have h5 : 16 ^ (l.take k).length ≤ 16 ^ 8 := Nat.pow_le_pow_right (by decide) h4
    have := h ht
    omega
set_option maxHeartbeats 8000000 in
set_option maxRecDepth 20000 in
theorem c_ParseUint1 (t : ByteArray) (ht : t.size ≤ 1048576) (w : World) : Calls Tryd.prog 46 #[.string t, .int .i64 16, .int .i64 32] w (PuOk t.data.toList w) := by
  have HLO := Lib.hid (fun (c : Int) W => Any.internal_strconv_lower (P := Tryd.prog) { lays174 with } c W)
  by_cases hne : t.size = 0
  · have h0 : t = ⟨#[]⟩ := by
      obtain ⟨⟨l⟩⟩ := t
      cases l with
      | nil => rfl
      | cons _ _ => simp [ByteArray.size] at hne
    subst h0
    clear hne ht
    go_enter Tryd.func46, Tryd.ntmps46
    go_wp2_with fail
    go_ret2
    exact ⟨0, _, rfl, Below.refl _ _, .inr ⟨.inl rfl, shp8_empty⟩⟩
  have hcv := Lib.run_convert_string_bytes (P := Tryd.prog) w 9 22 5 t (u := .string) Tryd.underlying9 Tryd.underlying22 Tryd.underlying5
  have hB : ∀ j, j < t.size → (Lib.bytesWorld w 5 t).cell? ⟨w.heap.size, j, none⟩ = some (.int .u8 (t.data.toList.getD j 0).toNat) := fun j hj => Lib.bytesWorld_cell w 5 t j hj
  have hBE := Lib.hid (Lib.bytesWorld_below w 5 t)
  obtain ⟨W1, hW1⟩ : ∃ W1, W1 = Lib.bytesWorld w 5 t := ⟨_, rfl⟩
  rw [← hW1] at hcv hB hBE
  clear hW1
  have hemp : t.toList.isEmpty = false := by
    rw [← decide_eq_emptyBytes]
    exact decide_eq_false (fun h => hne (by rw [h]; rfl))
  obtain ⟨bs, hL⟩ : ∃ bs, bs = t.data.toList := ⟨_, rfl⟩
  have hLn : bs.length = t.size := by rw [hL, Lib.size_eq]
  rw [← hL] at hB ⊢
  clear hL
  have hmv : IntKind.u64.wrap (IntKind.u64.wrap 4294967296 - 1) = 4294967295 := by
    rw [IntKind.wrap_u64, IntKind.wrap_u64]
    decide
  have HB := Lib.hid hB
  have HT := Lib.hid ht
  have HLN := Lib.hid hLn
  have htn : (t.size : Int) ≤ 1048576 := by omega
  clear hB ht hLn
  go_enter Tryd.func46, Tryd.ntmps46
  go_wp2_with fail
  go_loop [12, 13, 101] (fun vu vn vi => ∃ (k : Nat) (a : Int), vu = .bool false ∧ vn = .int .u64 a ∧ vi = .int .i64 k ∧ k ≤ t.size ∧ Hid (∃ acc : Nat, a = (acc : Int) ∧ acc ≤ 4294967295 ∧ (allH (bs.take k) = true → acc = hval (bs.take k))))
    (fun _ _ vi => t.size - (intOf vi).toNat)
  case atStart => exact ⟨0, 0, rfl, rfl, rfl, by omega, Lib.hid ⟨0, rfl, by omega, fun _ => rfl⟩⟩
  case round =>
    obtain ⟨k, a, rfl, rfl, rfl, hk, hh⟩ := hrel
    obtain ⟨acc, hae, hacc, hval'⟩ := hh.out
    have HA := Lib.hid hae
    have HV := Lib.hid hval'
    have a0 : 0 ≤ a := by omega
    have a1 : a ≤ 4294967295 := by omega
    have HAC := Lib.hid hacc
    clear hh hacc hval' hae
    by_cases hkn : k < t.size
    · have hc := HB.out k hkn
      have hlk : k < bs.length := by rw [HLN.out]; exact hkn
      have HTK := Lib.hid (List.take_succ_eq_append_getElem hlk)
      have HGT := Lib.hid (List.getElem?_eq_getElem hlk)
      have hget : bs.getD k 0 = bs[k]'hlk := by simp [List.getD, List.getElem?_eq_getElem hlk]
      rw [hget] at hc
      generalize bs[k]'hlk = c at hc HTK HGT
      have hc256 : c.toNat < 256 := c.toNat_lt
      clear hget hlk
      have HLF := Lib.hid (fun h => low_at (c := c) h)
      have HH1 := Lib.hid (fun h h2 => hv_digit (c := c) h h2)
      have HH2 := Lib.hid (fun h h2 => hv_letter (c := c) h h2)
      have HH3 := Lib.hid (fun h h2 => hv_none (c := c) h h2)
      obtain ⟨x, hx⟩ : ∃ x : Nat, c.toNat = x := ⟨_, rfl⟩
      rw [hx] at hc HLF HH1 HH2 HH3 hc256
      clear hx
      obtain ⟨d, hd⟩ : ∃ d, hv c = d := ⟨_, rfl⟩
      have HD := Lib.hid hd
      rw [hd] at HH1 HH2 HH3
      clear hd
      by_cases hdig : 48 ≤ x ∧ x ≤ 57
      · obtain ⟨hd0, hd1⟩ := hdig
        have HX := Lib.hid (show (d : Int) = (x : Int) - 48 ∧ d ≤ 9 by have := HH1.out hd0 hd1; omega)
        clear HLF HH1 HH2 HH3
        have hd0' : (48 : Int) ≤ (x : Int) := by omega
        have hd1' : (x : Int) ≤ 57 := by omega
        have h95 : ((x : Int) == 95) = false := beq_eq_false_iff_ne.2 (by omega)
        by_cases hov : 4294967295 < a * 16 + ((x : Int) - 48)
        · have HS := Lib.hid (shp8_much (l := bs) (k := k + 1) (fun h => by
            rw [HTK.out, allH_snoc, Bool.and_eq_true] at h
            rw [HTK.out, hval_snoc, HD.out, ← HV.out h.1]
            have := HX.out
            have := HA.out
            omega))
          clear hc256 hd0 hd1
          go_wp2_with fail
          go_ret2
          exact ⟨4294967295, _, rfl, hBE.out, .inr ⟨.inr rfl, HS.out⟩⟩
        · have HN := Lib.hid (show a * 16 + ((x : Int) - 48) = ((acc * 16 + d : Nat) : Int) ∧ acc * 16 + d ≤ 4294967295 by have := HX.out; have := HA.out; omega)
          have hov' : a * 16 + ((x : Int) - 48) ≤ 4294967295 := by omega
          have HG := Lib.hid (show allH (bs.take (k + 1)) = true → acc * 16 + d = hval (bs.take (k + 1)) from fun h => by
            rw [HTK.out, allH_snoc, Bool.and_eq_true] at h
            rw [HTK.out, hval_snoc, HD.out, ← HV.out h.1]
            omega)
          clear hc256 hd0 hd1 hov
          go_wp2_with fail
          refine ⟨⟨k + 1, a * 16 + ((x : Int) - 48), rfl, (by first | rfl | (congr 1; omega)), (by first | rfl | (congr 1; omega)), by omega, Lib.hid ⟨_, HN.out.1, HN.out.2, HG.out⟩⟩, by simp [intOf]; omega⟩
      · have hl := HLF.out hdig
        have HX3 := Lib.hid HH3.out
        obtain ⟨L, hL⟩ : ∃ L, bits .or .u8 (x : Int) 32 = L := ⟨_, rfl⟩
        have HCL : Hid (∀ W, Calls Tryd.prog 62 #[.int .u8 (x : Int)] W fun e w' => e = .returned (.int .u8 L) ∧ W = w') := Lib.hid (fun W => (HLO.out (x : Int) W).mono fun e w' h => ⟨h.1.trans (by rw [hL]), h.2.symm⟩)
        have HC95 : Hid (∀ W, Calls Tryd.prog 62 #[.int .u8 95] W fun e w' => e = .returned (.int .u8 127) ∧ W = w') := Lib.hid (fun W => (HLO.out 95 W).mono fun e w' h => ⟨h.1.trans (by rw [show bits .or .u8 95 32 = 127 by decide +kernel]), h.2.symm⟩)
        have h95 : 97 ≤ L ∧ L ≤ 122 → ¬ (x : Int) = 95 := fun hq he => by
          rw [he, show bits .or .u8 95 32 = 127 by decide +kernel] at hL
          omega
        rw [hL] at hl
        obtain ⟨hl0, hl1, hl2⟩ := hl
        clear hL HLO HLF HH1
        have HNB := Lib.hid (show ¬ d < 16 → shp8 bs = false from fun h => shp8_bad HGT.out (by rw [HD.out]; exact h))
        by_cases hlet : 97 ≤ L ∧ L ≤ 122
        · by_cases hbig : 16 ≤ L - 97 + 10
          · have HS := Lib.hid (HNB.out (by
              have h3 := HX3.out hdig
              by_cases hq : 97 ≤ x ∧ x ≤ 102
              · have := hl2 hq
                omega
              · have := h3 hq
                omega))
            have hx95 := h95 hlet
            have hnd : ¬ (48 ≤ (x : Int) ∧ (x : Int) ≤ 57) := by omega
            obtain ⟨hlet1, hlet2⟩ := hlet
            have hbig' : 103 ≤ L := by omega
            clear hl2 HX3 HH2 HH3 hdig h95
            go_wp2_with (first | (go_at_call 62; refine (HCL.out _).mono ?_; rintro e w' ⟨rfl, rfl⟩) | (go_at_call 62; refine (HC95.out _).mono ?_; rintro e w' ⟨rfl, rfl⟩))
            all_goals go_ret2
            all_goals exact ⟨0, _, rfl, hBE.out, .inr ⟨.inl rfl, HS.out⟩⟩
          · have hsm : L ≤ 102 := by omega
            have hx95 := h95 hlet
            have hnd : ¬ (48 ≤ (x : Int) ∧ (x : Int) ≤ 57) := by omega
            obtain ⟨hlet1, hlet2⟩ := hlet
            have HX := Lib.hid (show d < 16 → (d : Int) = L - 97 + 10 from fun hq => by
              by_cases hr : 97 ≤ x ∧ x ≤ 102
              · have h1 := hl2 hr
                have h2 := HH2.out hr.1 hr.2
                omega
              · have := HX3.out hdig hr
                omega)
            obtain ⟨q, hq⟩ : ∃ q : Nat, L - 97 + 10 = (q : Int) := ⟨(L - 97 + 10).toNat, by omega⟩
            have HQ := Lib.hid hq
            clear hl2 HX3 HH2 HH3 hdig h95 hq hbig
            by_cases hov : 4294967295 < a * 16 + (L - 97 + 10)
            · have HS := Lib.hid (shp8_much (l := bs) (k := k + 1) (fun h => by
                rw [HTK.out, allH_snoc, Bool.and_eq_true, decide_eq_true_eq, HD.out] at h
                rw [HTK.out, hval_snoc, HD.out, ← HV.out h.1]
                have := HX.out h.2
                have := HA.out
                omega))
              clear hc256
              go_wp2_with (first | (go_at_call 62; refine (HCL.out _).mono ?_; rintro e w' ⟨rfl, rfl⟩) | (go_at_call 62; refine (HC95.out _).mono ?_; rintro e w' ⟨rfl, rfl⟩))
              all_goals go_ret2
              all_goals exact ⟨4294967295, _, rfl, hBE.out, .inr ⟨.inr rfl, HS.out⟩⟩
            · have HN := Lib.hid (show a * 16 + (L - 97 + 10) = ((acc * 16 + q : Nat) : Int) ∧ acc * 16 + q ≤ 4294967295 by have := HQ.out; have := HA.out; omega)
              have hov' : a * 16 + (L - 97 + 10) ≤ 4294967295 := by omega
              have HG := Lib.hid (show allH (bs.take (k + 1)) = true → acc * 16 + q = hval (bs.take (k + 1)) from fun h => by
                rw [HTK.out, allH_snoc, Bool.and_eq_true, decide_eq_true_eq, HD.out] at h
                rw [HTK.out, hval_snoc, HD.out, ← HV.out h.1]
                have := HX.out h.2
                have := HQ.out
                omega)
              clear hc256 hov
              go_wp2_with (first | (go_at_call 62; refine (HCL.out _).mono ?_; rintro e w' ⟨rfl, rfl⟩) | (go_at_call 62; refine (HC95.out _).mono ?_; rintro e w' ⟨rfl, rfl⟩))
              all_goals refine ⟨⟨k + 1, a * 16 + (L - 97 + 10), rfl, (by first | rfl | (congr 1; omega)), (by first | rfl | (congr 1; omega)), by omega, Lib.hid ⟨_, HN.out.1, HN.out.2, HG.out⟩⟩, by simp [intOf]; omega⟩
        · have HS := Lib.hid (HNB.out (by
            have h3 := HX3.out hdig
            by_cases hq : 97 ≤ x ∧ x ≤ 102
            · have := hl2 hq
              omega
            · have := h3 hq
              omega))
          have hnd : ¬ (48 ≤ (x : Int) ∧ (x : Int) ≤ 57) := by omega
          clear hl2 HX3 HH2 HH3 hdig h95
          go_wp2_with (first | (go_at_call 62; refine (HCL.out _).mono ?_; rintro e w' ⟨rfl, rfl⟩) | (go_at_call 62; refine (HC95.out _).mono ?_; rintro e w' ⟨rfl, rfl⟩))
          all_goals go_ret2
          all_goals exact ⟨0, _, rfl, hBE.out, .inr ⟨.inl rfl, HS.out⟩⟩
    · obtain rfl : k = t.size := by omega
      have hall : bs.take t.size = bs := List.take_of_length_le (by rw [HLN.out]; exact Nat.le_refl _)
      rw [hall] at HV
      clear hall hkn hk
      have HE := Lib.hid HA.out
      rw [HE.out]
      go_wp2_with fail
      go_ret2
      exact ⟨acc, _, rfl, hBE.out, .inl ⟨rfl, by have := HAC.out; omega, HV.out⟩⟩
end Go.Proofs.YtjecphimknfphaaDoor
