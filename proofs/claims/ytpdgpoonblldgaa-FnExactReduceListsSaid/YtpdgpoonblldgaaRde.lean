/-
  ReduceLists: whether lists can be reduced, and the program's sum in a ring. Conditions: the numbers can be read.
-/
import Derived.Test.YtpdgpoonblldgaaRdd
namespace Go.Proofs.Ytpdgpoonblldgaa
open Go.RowKit Go.Deep Go.WideShapes Go.ChangeShapes
set_option linter.unusedVariables false
set_option linter.unusedSimpArgs false

def okL (zz : List (List Nat)) : Bool := (decide (1 ≤ zz.length) && decide (zz.length ≤ 8)) && (decide ((zz.getD 0 []).length ≤ 512) && zz.all fun z => decide (z.length = (zz.getD 0 []).length))
theorem okRed_eq (kind : Int) (zz : List (List Nat)) : okRed kind zz = ((decide (0 ≤ kind) && decide (kind ≤ 2)) && okL zz) := rfl
set_option maxRecDepth 20000 in
set_option maxHeartbeats 1000000 in
theorem c_canReduce (g : Option Addr) (n cap : Nat) (ls : List FlA) (w : World) (h : SSAt w g n cap ls) :
    Calls Try.prog 77 #[.slice g n cap] w fun e w' => e = .returned (.bool (okL (ls.map FlA.z))) ∧ Below w.heap.size w w' := by
  have hn : n ≤ 9223372036854775807 := by have h1 := h.2.1; have h2 := h.2.2.1; unfold maxLen at h2; omega
  have hl : (ls.map FlA.z).length = n := by rw [List.length_map]; exact h.1
  have b0 := (Below.refl w.heap.size w).alloc (Nat.le_refl _) (.cells #[.slice g n cap] 51)
  have B0 := Lib.hid b0
  have H0 := Lib.hid (h.kept b0)
  have K0 := Lib.hid (Blk.new w 51 #[.slice g n cap])
  by_cases h1 : n < 1
  case pos =>
    have hv : okL (ls.map FlA.z) = false := by unfold okL; rw [hl]; simp; omega
    rw [hv]
    have i1 : (n : Int) < 1 := by omega
    clear h hl b0 hv h1
    go_enter Try.func77, Try.ntmps77
    go_upto_region 1 with fail
    generalize w.alloc (.cells #[.slice g n cap] 51) = w0 at B0 H0 K0 ⊢
    obtain ⟨p0, pl⟩ := tb1 K0.out
    go_wp2_with fail
    go_ret
    exact ⟨rfl, B0.out⟩
  case neg =>
    by_cases h8 : 8 < n
    case pos =>
      have hv : okL (ls.map FlA.z) = false := by unfold okL; rw [hl]; simp; omega
      rw [hv]
      have i1 : ¬ (n : Int) < 1 := by omega
      have i2 : (n : Int) > 8 := by omega
      clear h hl b0 hv h1 h8
      go_enter Try.func77, Try.ntmps77
      go_upto_region 1 with fail
      generalize w.alloc (.cells #[.slice g n cap] 51) = w0 at B0 H0 K0 ⊢
      obtain ⟨p0, pl⟩ := tb1 K0.out
      go_wp2_with fail
      go_ret
      exact ⟨rfl, B0.out⟩
    case neg =>
      obtain ⟨b, off, z0, a0, c0, rfl, hbk, hx, q0, hf⟩ := (h.kept b0).one (show 0 < n by omega)
      have hz0 : ((ls.map FlA.z).getD 0 []) = z0 := by
        cases ls with
        | nil => simp at hx
        | cons y t => simp at hx; simp [hx]
      rw [Nat.add_zero] at q0
      have hm0 : z0.length ≤ 9223372036854775807 := by have h1 := hf.1; have h2 := hf.2.1; unfold maxLen at h2; omega
      have i1 : ¬ (n : Int) < 1 := by omega
      have i2 : ¬ (n : Int) > 8 := by omega
      have i3 : (0 : Int) < (n : Int) := by omega
      by_cases h5 : 512 < z0.length
      case pos =>
        have hv : okL (ls.map FlA.z) = false := by
          unfold okL
          rw [hz0, show decide (z0.length ≤ 512) = false by simp; omega]
          simp
        rw [hv]
        have i4 : (z0.length : Int) > 512 := by omega
        clear h hl b0 hv h1 h8 hx hf hz0 h5
        go_enter Try.func77, Try.ntmps77
        go_upto_region 1 with fail
        generalize w.alloc (.cells #[.slice (some ⟨b, off, none⟩) n cap] 51) = w0 at B0 H0 K0 q0 hbk ⊢
        obtain ⟨p0, pl⟩ := tb1 K0.out
        go_wp2_with fail
        go_ret
        exact ⟨rfl, B0.out⟩
      case neg =>
        have hv : okL (ls.map FlA.z) = ls.all (fun x => decide (x.z.length = ((ls.map FlA.z).getD 0 []).length)) := by
          unfold okL
          rw [hl, hz0, show decide (1 ≤ n) = true by simp; omega, show decide (n ≤ 8) = true by simp; omega, show decide (z0.length ≤ 512) = true by simp; omega, List.all_map]
          rfl
        rw [hv]
        have i4 : ¬ (z0.length : Int) > 512 := by omega
        have ha := (fun W (hb : Below w.heap.size w W) (hk : Blk W w.heap.size 51 #[.slice (some ⟨b, off, none⟩) n cap]) => c_isAllS 122 #[.pointer (some ⟨w.heap.size, 0, none⟩)] (fun x => decide (x.z.length = ((ls.map FlA.z).getD 0 []).length)) (some ⟨b, off, none⟩) n cap ls W (h.kept hb) (enters_of Try.func122 (by kernel_rfl) (by kernel_rfl))
          (fun z a c wr hb2 => c_can1 w.heap.size (some ⟨b, off, none⟩) n cap ls z a c wr (h.kept (Below.next hb hb2)) (by omega) ((hk.below hb2).cell 0)))
        obtain ⟨bb, hbb⟩ : ∃ bb, (ls.all fun x => decide (x.z.length = ((ls.map FlA.z).getD 0 []).length)) = bb := ⟨_, rfl⟩
        simp only [hbb] at ha
        rw [hbb]
        have HA := Lib.hid ha
        clear ha hbb
        clear h hl b0 hv h1 h8 hx hf hz0 h5
        go_enter Try.func77, Try.ntmps77
        go_upto_region 1 with fail
        generalize w.alloc (.cells #[.slice (some ⟨b, off, none⟩) n cap] 51) = w0 at B0 H0 K0 q0 hbk ⊢
        obtain ⟨p0, pl⟩ := tb1 K0.out
        go_wp2_with fail
        refine (HA.out _ B0.out K0.out).mono ?_
        rintro e w2 ⟨rfl, bl⟩
        have B2 := Lib.hid (Below.next B0.out bl)
        clear bl p0 pl
        go_wp2_with fail
        go_ret
        exact ⟨rfl, B2.out⟩
end Go.Proofs.Ytpdgpoonblldgaa
