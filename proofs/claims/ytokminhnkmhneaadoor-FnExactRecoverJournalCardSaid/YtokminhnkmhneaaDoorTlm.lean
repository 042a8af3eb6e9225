/-
  Texts of lists: the model over its way to write an item. Conditions: the items can be read, each item's text is short.
-/
import Derived.Test.YtokminhnkmhneaaDoorTls
namespace Go.Proofs.YtokminhnkmhneaaDoor
open Go.RowKit Go.Deep Go.WideShapes Go.ChangeShapes
set_option linter.unusedVariables false
set_option linter.unusedSimpArgs false

attribute [local go_sem] txt_size

def TextRelI (f : Int → List UInt8) (zs : List Int) (n : Nat) (w : World) (s i : Value) (wr : World) : Prop :=
  ∃ k : Nat, 1 ≤ k ∧ k ≤ n ∧ i = .int .i64 k ∧ s = .string ⟨(jn ((zs.take k).map f)).toArray⟩ ∧ Below w.heap.size w wr
set_option maxRecDepth 20000 in
set_option maxHeartbeats 2000000 in
theorem c_sTextI (f : Int → List UInt8) (a : Option Addr) (n cap : Nat) (zs : List Int) (w : World) (h : IsRow .i64 w a n cap zs) (hn : n ≤ 1048576) (hM : ∀ z ∈ zs, (f z).length ≤ 1000)
    (hF : ∀ (z : Int) (wr : World), z ∈ zs → Calls Tryd.prog 52 #[.int .i64 z] wr fun e w' => e = .returned (.string ⟨(f z).toArray⟩) ∧ Below wr.heap.size wr w') :
    Calls Tryd.prog 66 #[.slice a n cap] w fun e w' => e = .returned (.string ⟨(txt (zs.map f)).toArray⟩) ∧ Below w.heap.size w w' := by
  have hln : zs.length = n := h.2.2.1
  have HN := Lib.hid hln
  have HR := Lib.hid h
  have HC := Lib.hid hF
  have HM := Lib.hid hM
  clear h hF hM hln
  by_cases h0 : n = 0
  · subst h0
    have HT := Lib.hid (show txt (zs.map f) = noneT by unfold txt; rw [List.length_map, HN.out]; rfl)
    go_enter Tryd.func66, Tryd.ntmps66
    go_wp2_with fail
    go_ret
    exact ⟨by rw [HT.out]; rfl, Below.refl _ _⟩
  · have hnb : ((n : Int) == 0) = false := by simpa using h0
    have HT := Lib.hid (show txt (zs.map f) = jn (zs.map f) by unfold txt; rw [List.length_map, HN.out, if_neg h0])
    have hn1 : (0 : Int) < (n : Int) := by omega
    obtain ⟨b, off, x, rfl, hbk, hx, c1, l1⟩ := int_atW HR.out (show 0 < n by omega)
    have c0 : w.cell? ⟨b, off, none⟩ = some (.int .i64 x) := c1
    have HX := Lib.hid hx
    have HCX := Lib.hid (HC.out x w (List.mem_of_getElem? hx))
    have HBK := Lib.hid hbk
    clear hx c1 l1 hbk
    go_enter Tryd.func66, Tryd.ntmps66
    go_wp2_with fail
    refine HCX.out.mono ?_
    rintro e w2 ⟨rfl, hb⟩
    have B2 := Lib.hid hb
    clear hb c0
    go_wp2_with fail
    go_loopw [3, 4] (fun s i wr => TextRelI f zs n w s i wr) (fun _ i _ => n - (intOf i).toNat)
    case atStart => exact ⟨1, Nat.le_refl _, by omega, rfl, by rw [jn_first (f := f) HX.out], B2.out⟩
    case round =>
      obtain ⟨k, hk1, hk, rfl, rfl, hb⟩ := hrel
      have HB := Lib.hid hb
      have hk0 : (0 : Int) ≤ (k : Int) := by omega
      have HJ := Lib.hid (show (jn ((zs.take k).map f)).length ≤ k * 1001 from jn_take HM.out (by rw [HN.out]; exact hk))
      clear hb
      by_cases hlt : k < n
      · have hlt' : (k : Int) < (n : Int) := by omega
        obtain ⟨b', off', y, e1, hbk', hy, c1, l1⟩ := int_atW HR.out hlt
        injection e1 with e1
        injection e1 with e2 e3 _
        subst e2 e3
        have c2 := (HB.out.cell (p := ⟨b, off + k, none⟩) HBK.out).trans c1
        have hmem : y ∈ zs := List.mem_of_getElem? hy
        have HYM := HM.out y hmem
        have HCY := Lib.hid (fun W => HC.out y W hmem)
        have HS := Lib.hid (show jn ((zs.take (k + 1)).map f) = jn ((zs.take k).map f) ++ ([44] ++ f y) by rw [jn_next (f := f) hy (by omega), List.append_assoc])
        obtain ⟨L, hL⟩ : ∃ L, jn ((zs.take k).map f) = L := ⟨_, rfl⟩
        rw [hL] at HJ HS ⊢
        have t1 : ¬ 9223372036854775807 < 1 + (f y).length := by omega
        have t2 : ¬ 9223372036854775807 < L.length + (1 + (f y).length) := by have := HJ.out; omega
        clear hL c1 l1 hmem HYM hy hbk'
        go_wp2_with fail
        refine (HCY.out wr).mono ?_
        rintro e w3 ⟨rfl, hb⟩
        have B3 := Lib.hid (Below.next HB.out hb)
        clear hb
        go_wp2_with fail
        go_roundw
        case rel => exact ⟨k + 1, by omega, hlt, by go_num, by rw [HS.out, ← txt_append, ← txt_append], B3.out⟩
        case measure => simp [intOf]; omega
      · obtain rfl : k = n := by omega
        have hall : (zs.take k).map f = zs.map f := by rw [List.take_of_length_le (by rw [HN.out]; exact Nat.le_refl _)]
        rw [hall]
        clear hall
        go_wp2_with fail
        go_ret
        exact ⟨by rw [HT.out]; rfl, HB.out⟩
def TextRelF (f : Nat → List UInt8) (zs : List Nat) (n : Nat) (w : World) (s i : Value) (wr : World) : Prop :=
  ∃ k : Nat, 1 ≤ k ∧ k ≤ n ∧ i = .int .i64 k ∧ s = .string ⟨(jn ((zs.take k).map f)).toArray⟩ ∧ Below w.heap.size w wr
set_option maxRecDepth 20000 in
set_option maxHeartbeats 2000000 in
theorem c_sTextF (f : Nat → List UInt8) (a : Option Addr) (n cap : Nat) (zs : List Nat) (w : World) (h : IsFloats .f32 w a n cap zs) (hn : n ≤ 1048576) (hM : ∀ z ∈ zs, (f z).length ≤ 1000)
    (hF : ∀ (z : Nat) (wr : World), z ∈ zs → Calls Tryd.prog 104 #[.float .f32 z] wr fun e w' => e = .returned (.string ⟨(f z).toArray⟩) ∧ Below wr.heap.size wr w') :
    Calls Tryd.prog 58 #[.slice a n cap] w fun e w' => e = .returned (.string ⟨(txt (zs.map f)).toArray⟩) ∧ Below w.heap.size w w' := by
  have hln : zs.length = n := h.2.2.1
  have HN := Lib.hid hln
  have HR := Lib.hid h
  have HC := Lib.hid hF
  have HM := Lib.hid hM
  clear h hF hM hln
  by_cases h0 : n = 0
  · subst h0
    have HT := Lib.hid (show txt (zs.map f) = noneT by unfold txt; rw [List.length_map, HN.out]; rfl)
    go_enter Tryd.func58, Tryd.ntmps58
    go_wp2_with fail
    go_ret
    exact ⟨by rw [HT.out]; rfl, Below.refl _ _⟩
  · have hnb : ((n : Int) == 0) = false := by simpa using h0
    have HT := Lib.hid (show txt (zs.map f) = jn (zs.map f) by unfold txt; rw [List.length_map, HN.out, if_neg h0])
    have hn1 : (0 : Int) < (n : Int) := by omega
    obtain ⟨b, off, x, rfl, hbk, hx, c1, l1⟩ := flt_atW HR.out (show 0 < n by omega)
    have c0 : w.cell? ⟨b, off, none⟩ = some (.float .f32 x) := c1
    have HX := Lib.hid hx
    have HCX := Lib.hid (HC.out x w (List.mem_of_getElem? hx))
    have HBK := Lib.hid hbk
    clear hx c1 l1 hbk
    go_enter Tryd.func58, Tryd.ntmps58
    go_wp2_with fail
    refine HCX.out.mono ?_
    rintro e w2 ⟨rfl, hb⟩
    have B2 := Lib.hid hb
    clear hb c0
    go_wp2_with fail
    go_loopw [3, 4] (fun s i wr => TextRelF f zs n w s i wr) (fun _ i _ => n - (intOf i).toNat)
    case atStart => exact ⟨1, Nat.le_refl _, by omega, rfl, by rw [jn_first (f := f) HX.out], B2.out⟩
    case round =>
      obtain ⟨k, hk1, hk, rfl, rfl, hb⟩ := hrel
      have HB := Lib.hid hb
      have hk0 : (0 : Int) ≤ (k : Int) := by omega
      have HJ := Lib.hid (show (jn ((zs.take k).map f)).length ≤ k * 1001 from jn_take HM.out (by rw [HN.out]; exact hk))
      clear hb
      by_cases hlt : k < n
      · have hlt' : (k : Int) < (n : Int) := by omega
        obtain ⟨b', off', y, e1, hbk', hy, c1, l1⟩ := flt_atW HR.out hlt
        injection e1 with e1
        injection e1 with e2 e3 _
        subst e2 e3
        have c2 := (HB.out.cell (p := ⟨b, off + k, none⟩) HBK.out).trans c1
        have hmem : y ∈ zs := List.mem_of_getElem? hy
        have HYM := HM.out y hmem
        have HCY := Lib.hid (fun W => HC.out y W hmem)
        have HS := Lib.hid (show jn ((zs.take (k + 1)).map f) = jn ((zs.take k).map f) ++ ([44] ++ f y) by rw [jn_next (f := f) hy (by omega), List.append_assoc])
        obtain ⟨L, hL⟩ : ∃ L, jn ((zs.take k).map f) = L := ⟨_, rfl⟩
        rw [hL] at HJ HS ⊢
        have t1 : ¬ 9223372036854775807 < 1 + (f y).length := by omega
        have t2 : ¬ 9223372036854775807 < L.length + (1 + (f y).length) := by have := HJ.out; omega
        clear hL c1 l1 hmem HYM hy hbk'
        go_wp2_with fail
        refine (HCY.out wr).mono ?_
        rintro e w3 ⟨rfl, hb⟩
        have B3 := Lib.hid (Below.next HB.out hb)
        clear hb
        go_wp2_with fail
        go_roundw
        case rel => exact ⟨k + 1, by omega, hlt, by go_num, by rw [HS.out, ← txt_append, ← txt_append], B3.out⟩
        case measure => simp [intOf]; omega
      · obtain rfl : k = n := by omega
        have hall : (zs.take k).map f = zs.map f := by rw [List.take_of_length_le (by rw [HN.out]; exact Nat.le_refl _)]
        rw [hall]
        clear hall
        go_wp2_with fail
        go_ret
        exact ⟨by rw [HT.out]; rfl, HB.out⟩
end Go.Proofs.YtokminhnkmhneaaDoor
