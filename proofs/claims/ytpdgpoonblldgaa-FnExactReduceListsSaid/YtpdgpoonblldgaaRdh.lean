/-
  ReduceLists: the program's sum in a ring. Conditions: the numbers can be read.
-/
import Derived.Test.YtpdgpoonblldgaaRdg
import Derived.Deep.RegionLaw
namespace Go.Proofs.Ytpdgpoonblldgaa
open Go.RowKit Go.Deep Go.WideShapes Go.ChangeShapes
set_option linter.unusedVariables false
set_option linter.unusedSimpArgs false

theorem floats_drop {w : World} {b off n cap Q : Nat} {zs : List Nat} (h : IsFloats .f32 w (some ⟨b, off, none⟩) n cap zs) (hq : Q < n) : IsFloats .f32 w (some ⟨b, off + Q, none⟩) (zs.drop Q).length (cap - Q) (zs.drop Q) := by
  have hl : zs.length = n := h.2.2.1
  have h1 := h.1
  have h2 := h.2.1
  refine ⟨by rw [List.length_drop]; omega, by omega, rfl, fun y hy => h.2.2.2.1 y (List.mem_of_mem_drop hy), .inr ?_⟩
  rcases h.2.2.2.2 with h0 | ⟨b', off', e, hb, hc⟩
  · omega
  · cases e
    refine ⟨b, off + Q, rfl, hb, fun i hi => ?_⟩
    rw [List.length_drop] at hi
    rw [show off + Q + i = off + (Q + i) by omega, hc (Q + i) (by omega)]
    simp [List.getD]
theorem floats_take {w : World} {b off n cap Q : Nat} {zs : List Nat} (h : IsFloats .f32 w (some ⟨b, off, none⟩) n cap zs) (hq : Q < n) : IsFloats .f32 w (some ⟨b, off, none⟩) (zs.take Q).length cap (zs.take Q) := by
  have hl : zs.length = n := h.2.2.1
  have h1 := h.1
  refine ⟨by rw [List.length_take]; omega, h.2.1, rfl, fun y hy => h.2.2.2.1 y (List.mem_of_mem_take hy), .inr ?_⟩
  rcases h.2.2.2.2 with h0 | ⟨b', off', e, hb, hc⟩
  · omega
  · cases e
    refine ⟨b, off, rfl, hb, fun i hi => ?_⟩
    rw [List.length_take] at hi
    rw [hc i (by omega)]
    simp [List.getD, List.getElem?_take, show i < Q by omega]
theorem ring_rows {w : World} {b off n cap Q : Nat} {zs : List Nat} (h : IsFloats .f32 w (some ⟨b, off, none⟩) n cap zs) (hq : Q < n) :
    SSAt (w.alloc (.cells #[.slice (some ⟨b, off + Q, none⟩) (n - Q) (cap - Q), .slice (some ⟨b, off, none⟩) Q cap] 25)) (some ⟨w.heap.size, 0, none⟩) 2 2 [⟨zs.drop Q, some ⟨b, off + Q, none⟩, cap - Q⟩, ⟨zs.take Q, some ⟨b, off, none⟩, cap⟩] := by
  have hl : zs.length = n := h.2.2.1
  have al := (Below.refl w.heap.size w).alloc (Nat.le_refl _) (.cells #[.slice (some ⟨b, off + Q, none⟩) (n - Q) (cap - Q), .slice (some ⟨b, off, none⟩) Q cap] 25)
  have kb := Blk.new w 25 #[.slice (some ⟨b, off + Q, none⟩) (n - Q) (cap - Q), .slice (some ⟨b, off, none⟩) Q cap]
  refine ⟨rfl, Nat.le_refl _, by decide, ?_, .inr ⟨w.heap.size, 0, rfl, by simp, ?_⟩⟩
  · intro x hx
    simp only [List.mem_cons, List.not_mem_nil, or_false] at hx
    rcases hx with rfl | rfl
    · exact (floats_drop h hq).kept al
    · exact (floats_take h hq).kept al
  · intro i x hx
    match i with
    | 0 =>
      simp at hx
      subst hx
      have := kb.cell 0
      simp only [Nat.zero_add, FlA.v, List.length_drop, hl]
      exact this
    | 1 =>
      simp at hx
      subst hx
      have := kb.cell 1
      simp only [Nat.zero_add, FlA.v, List.length_take, hl, Nat.min_eq_left (Nat.le_of_lt hq)]
      exact this
    | i + 2 => simp at hx
set_option maxRecDepth 20000 in
set_option maxHeartbeats 1000000 in
theorem x_addRing (zs : List Nat) (a : Option Addr) (n cap p : Nat) (wr : World) (h : IsFloats .f32 wr a n cap zs) (h1 : 1 ≤ n) (h8 : n ≤ 8) (hp : p ≤ 1048576) : Calls Try.prog 120 #[.slice a n cap, .int .i64 p] wr (RetX (ringV p (zs.map (canon .f32))) wr) := by
  obtain ⟨b, off, rfl⟩ := floats_some h h1
  have hzl : zs.length = n := h.2.2.1
  have hcap := h.1
  have hcm : cap ≤ 9223372036854775807 := by have := h.2.1; unfold maxLen at this; omega
  obtain ⟨Q, hQ⟩ : ∃ Q, p % n = Q := ⟨_, rfl⟩
  have hq : Q < n := by rw [← hQ]; exact Nat.mod_lt _ (by omega)
  have r1 : (p : Int).tmod (n : Int) = (Q : Int) := by rw [← hQ, Int.tmod_eq_emod_of_nonneg (by omega)]; rfl
  have HV := Lib.hid (show lineV ((zs.drop Q ++ zs.take Q).map (canon .f32)) = ringV p (zs.map (canon .f32)) by
    unfold ringV
    rw [List.length_map, hzl, hQ, List.map_append, List.map_drop, List.map_take])
  have HFL := Lib.hid (show ([⟨zs.drop Q, some ⟨b, off + Q, none⟩, cap - Q⟩, ⟨zs.take Q, some ⟨b, off, none⟩, cap⟩] : List FlA).flatMap FlA.z = zs.drop Q ++ zs.take Q by simp)
  have HLN := Lib.hid (show (zs.drop Q ++ zs.take Q).length = n by rw [List.length_append, List.length_drop, List.length_take]; omega)
  have HS := Lib.hid (ring_rows (h.kept (Below.refl wr.heap.size wr).drew) hq)
  have i1 : (Q : Int) < (n : Int) := by omega
  have i2 : (Q : Int) ≤ (n : Int) := by omega
  have i3 : (Q : Int) ≤ (cap : Int) := by omega
  have i4 : (n : Int) ≤ (cap : Int) := by omega
  have i5 : (0 : Int) ≤ (Q : Int) := by omega
  have i6 : (n : Int) ≠ 0 := by omega
  have i7 : ¬ cap = Q := by omega
  have i8 : (p : Int) ≤ 1048576 := by omega
  have i9 : (n : Int) ≤ 8 := by omega
  have CC := c_concatS (some ⟨wr.drew.heap.size, 0, none⟩) 2 2 [⟨zs.drop Q, some ⟨b, off + Q, none⟩, cap - Q⟩, ⟨zs.take Q, some ⟨b, off, none⟩, cap⟩] _ HS.out (by rw [HFL.out, HLN.out]; exact h1) (by rw [HFL.out, HLN.out]; omega) (by decide)
  rw [HFL.out] at CC
  have HCC := Lib.hid CC
  have HAD := Lib.hid (fun (b2 : Option Addr) (c2 : Nat) (W : World) (hf : IsFloats .f32 W b2 (zs.drop Q ++ zs.take Q).length c2 (zs.drop Q ++ zs.take Q)) => x_addLine (zs.drop Q ++ zs.take Q) b2 (zs.drop Q ++ zs.take Q).length c2 p W hf (by rw [HLN.out]; exact h1) (by rw [HLN.out]; exact h8))
  obtain ⟨ZZ, hZZ⟩ : ∃ ZZ, zs.drop Q ++ zs.take Q = ZZ := ⟨_, rfl⟩
  rw [hZZ] at HAD HCC HV
  clear h hzl hQ CC hZZ
  go_enter Try.func120, Try.ntmps120
  go_upto_region 2 with fail
  go_region_held3 (fun w' => True) (trivial)
    (first
      | (go_at_call 112
         refine HCC.out.mono ?_
         rintro e w2 ⟨b2, c2, rfl, ho, bl⟩
         have HO := Lib.hid ho.isFloats
         have BL := Lib.hid bl
         clear ho bl)
      | (go_at_call 118
         refine (HAD.out b2 c2 _ HO.out).mono ?_
         rintro e w3 ⟨r, rfl, hr, hrl, hb⟩
         have HR := Lib.hid hr
         have HRL := Lib.hid hrl
         have HB := Lib.hid hb
         clear hr hrl hb))
  go_wp2_with fail
  go_ret
  exact ⟨r, rfl, by rw [HR.out, HV.out], HRL.out, Below.next (((Below.refl wr.heap.size wr).drew).alloc (Nat.le_refl _) _) (Below.next BL.out HB.out)⟩
end Go.Proofs.Ytpdgpoonblldgaa
