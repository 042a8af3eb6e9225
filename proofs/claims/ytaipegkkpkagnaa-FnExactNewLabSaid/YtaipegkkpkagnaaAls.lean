/-
  Whether all lists of a list have a property: for any function that says so and changes nothing. Conditions: the lists can be read.
-/
import Derived.Test.YtaipegkkpkagnaaAll
import Derived.Test.YtaipegkkpkagnaaSS
namespace Go.Proofs.Ytaipegkkpkagnaa
open Go.RowKit Go.Deep Go.WideShapes Go.ChangeShapes
set_option linter.unusedVariables false

def AllSRel (g : FlA → Bool) (ls : List FlA) (w : World) (i : Value) (wr : World) : Prop := ∃ k : Nat, k ≤ ls.length ∧ i = .int .i64 k ∧ (ls.take k).any g = false ∧ wr = w
theorem anyS_next {g : FlA → Bool} {ls : List FlA} {k : Nat} {x : FlA} (h : (ls.take k).any g = false) (hx : ls[k]? = some x) (hg : g x = false) : (ls.take (k + 1)).any g = false := by
  rw [List.take_add_one, hx, List.any_append, h]
  simp [hg]
theorem anyS_yes {g : FlA → Bool} {ls : List FlA} {k : Nat} {x : FlA} (hx : ls[k]? = some x) (hg : g x = true) : ls.any g = true := by
  rw [List.any_eq_true]
  exact ⟨x, List.mem_of_getElem? hx, hg⟩
set_option maxHeartbeats 1000000 in
theorem c_indexS (F : FuncId) (caps : Array Value) (p : FlA → Bool) (g : Option Addr) (n cap : Nat) (ls : List FlA) (w : World) (h : SSAt w g n cap ls) (hE : ∀ (xs : Array Value) (wr : World), (callFunc F xs).run Try.prog wr = .ok (.enter F xs) wr)
    (hF : ∀ (z : List Nat) (a : Option Addr) (c : Nat), IsFloats .f32 w a z.length c z → Calls Try.prog F (#[.slice a z.length c] ++ caps) w fun e w' => e = .returned (.bool (p ⟨z, a, c⟩)) ∧ w = w') :
    Calls Try.prog 212 #[.slice g n cap, .func (.func F) #[] caps] w fun e w' => (∃ r : Int, e = .returned (.int .i64 r) ∧ decide (0 ≤ r) = ls.any p) ∧ w = w' := by
  have H := Lib.hid h
  have HC := Lib.hid hF
  have hmax : n ≤ 9223372036854775807 := by have h1 := h.2.1; have h2 := h.2.2.1; unfold maxLen at h2; omega
  have HN := Lib.hid h.1
  clear h hF
  go_enter Try.func212, Try.ntmps212
  go_wp2_with fail
  go_loopw [8] (fun i wr => AllSRel p ls w i wr) (fun i _ => n - (intOf i).toNat)
  case atStart => exact ⟨0, Nat.zero_le _, rfl, by simp, rfl⟩
  case round =>
    obtain ⟨k, hk, rfl, hz, rfl⟩ := hrel
    have HZ := Lib.hid hz
    have hk0 : (0 : Int) ≤ (k : Int) := by omega
    rw [HN.out] at hk
    clear hz
    by_cases hlt : k < n
    · have hlt' : (k : Int) < (n : Int) := by omega
      obtain ⟨b, off, z, a, c, rfl, hbk, hx, q, f⟩ := H.out.one hlt
      have HX := Lib.hid hx
      have HG := Lib.hid (HC.out z a c f)
      clear hx f
      cases hg : p ⟨z, a, c⟩ with
      | true =>
        have HY := Lib.hid (anyS_yes HX.out hg)
        rw [hg] at HG
        clear hg
        go_wp2_with fail
        refine HG.out.mono ?_
        rintro e w2 ⟨rfl, rfl⟩
        go_wp2_with fail
        go_ret
        exact ⟨⟨_, rfl, by rw [HY.out]; exact decide_eq_true hk0⟩, rfl⟩
      | false =>
        have HNN := Lib.hid (anyS_next HZ.out HX.out hg)
        rw [hg] at HG
        clear hg
        go_wp2_with fail
        refine HG.out.mono ?_
        rintro e w2 ⟨rfl, rfl⟩
        go_wp2_with fail
        go_roundw
        case rel => exact ⟨k + 1, by rw [HN.out]; omega, by go_num, HNN.out, rfl⟩
        case measure => simp [intOf]; omega
    · obtain rfl : k = n := by omega
      have HNN := Lib.hid (show ls.any p = false by have h1 := HZ.out; rwa [List.take_of_length_le (by rw [HN.out]; exact Nat.le_refl _)] at h1)
      go_wp2_with fail
      go_ret
      exact ⟨⟨_, rfl, by rw [HNN.out]; rfl⟩, rfl⟩
theorem c_containsS (F : FuncId) (caps : Array Value) (p : FlA → Bool) (g : Option Addr) (n cap : Nat) (ls : List FlA) (w : World) (h : SSAt w g n cap ls) (hE : ∀ (xs : Array Value) (wr : World), (callFunc F xs).run Try.prog wr = .ok (.enter F xs) wr)
    (hF : ∀ (z : List Nat) (a : Option Addr) (c : Nat), IsFloats .f32 w a z.length c z → Calls Try.prog F (#[.slice a z.length c] ++ caps) w fun e w' => e = .returned (.bool (p ⟨z, a, c⟩)) ∧ w = w') :
    Calls Try.prog 197 #[.slice g n cap, .func (.func F) #[] caps] w fun e w' => e = .returned (.bool (ls.any p)) ∧ w = w' := by
  have HI := Lib.hid (c_indexS F caps p g n cap ls w h hE hF)
  clear h hF
  go_enter Try.func197, Try.ntmps197
  go_wp2_with fail
  refine HI.out.mono ?_
  rintro e w2 ⟨⟨r, rfl, hr⟩, rfl⟩
  have HR := Lib.hid hr
  clear hr
  go_wp2_with fail
  go_ret
  exact ⟨ret_b (by rw [← HR.out]), rfl⟩
theorem c_isAllS (F : FuncId) (caps : Array Value) (p : FlA → Bool) (g : Option Addr) (n cap : Nat) (ls : List FlA) (w : World) (h : SSAt w g n cap ls) (hE : ∀ (xs : Array Value) (wr : World), (callFunc F xs).run Try.prog wr = .ok (.enter F xs) wr)
    (hF : ∀ (z : List Nat) (a : Option Addr) (c : Nat) (wr : World), Below w.heap.size w wr → Calls Try.prog F (#[.slice a z.length c] ++ caps) wr fun e w' => e = .returned (.bool (p ⟨z, a, c⟩)) ∧ wr = w') :
    Calls Try.prog 162 #[.slice g n cap, .func (.func F) #[] caps] w fun e w' => e = .returned (.bool (ls.all p)) ∧ Below w.heap.size w w' := by
  have K := Lib.hid (Blk.new w 216 #[.func (.func F) #[] caps])
  have al := (Below.refl w.heap.size w).alloc (Nat.le_refl _) (.cells #[.func (.func F) #[] caps] 216)
  have B := Lib.hid al
  have HF := Lib.hid (h.kept al)
  have H1 : ∀ (z : List Nat) (a : Option Addr) (c : Nat), IsFloats .f32 (w.alloc (.cells #[.func (.func F) #[] caps] 216)) a z.length c z → Calls Try.prog 198 (#[.slice a z.length c] ++ #[.pointer (some ⟨w.heap.size, 0, none⟩)]) (w.alloc (.cells #[.func (.func F) #[] caps] 216)) fun e w' => e = .returned (.bool (!p ⟨z, a, c⟩)) ∧ (w.alloc (.cells #[.func (.func F) #[] caps] 216)) = w' := by
    intro z a c hz
    show Calls Try.prog 198 #[.slice a z.length c, .pointer (some ⟨w.heap.size, 0, none⟩)] _ _
    have c0 := K.out.cell 0
    have HC := Lib.hid (hF z a c (w.alloc (.cells #[.func (.func F) #[] caps] 216)) al)
    generalize w.alloc (.cells #[.func (.func F) #[] caps] 216) = w1 at *
    clear hF h al hz
    go_enter Try.func198, Try.ntmps198
    go_wp2_with fail
    refine HC.out.mono ?_
    rintro e w2 ⟨rfl, rfl⟩
    go_wp2_with fail
    go_ret
    exact ⟨rfl, rfl⟩
  have HC := Lib.hid (c_containsS 198 #[.pointer (some ⟨w.heap.size, 0, none⟩)] (fun x => !p x) g n cap ls _ HF.out (enters_of Try.func198 (by kernel_rfl) (by kernel_rfl)) H1)
  clear H1 hF h al
  go_enter Try.func162, Try.ntmps162
  go_wp2_with fail
  refine HC.out.mono ?_
  rintro e w2 ⟨rfl, rfl⟩
  go_wp2_with fail
  go_ret
  exact ⟨ret_b (all_any p ls), B.out⟩
end Go.Proofs.Ytaipegkkpkagnaa
