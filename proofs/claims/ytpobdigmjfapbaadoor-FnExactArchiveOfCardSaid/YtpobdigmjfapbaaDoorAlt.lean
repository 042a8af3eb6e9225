/-
  Whether all texts of a list have a property: for any function that says so and changes nothing. Conditions: the texts can be read.
-/
import Derived.Test.YtpobdigmjfapbaaDoorAll
import Derived.Test.YtpobdigmjfapbaaDoorSrs
namespace Go.Proofs.YtpobdigmjfapbaaDoor
open Go.RowKit Go.Deep Go.WideShapes Go.ChangeShapes
set_option linter.unusedVariables false

def AllTRel (g : ByteArray → Bool) (ls : List ByteArray) (w : World) (i : Value) (wr : World) : Prop := ∃ k : Nat, k ≤ ls.length ∧ i = .int .i64 k ∧ (ls.take k).any g = false ∧ wr = w
theorem anyT_next {g : ByteArray → Bool} {ls : List ByteArray} {k : Nat} {x : ByteArray} (h : (ls.take k).any g = false) (hx : ls[k]? = some x) (hg : g x = false) : (ls.take (k + 1)).any g = false := by
  rw [List.take_add_one, hx, List.any_append, h]
  simp [hg]
theorem anyT_yes {g : ByteArray → Bool} {ls : List ByteArray} {k : Nat} {x : ByteArray} (hx : ls[k]? = some x) (hg : g x = true) : ls.any g = true := by
  rw [List.any_eq_true]
  exact ⟨x, List.mem_of_getElem? hx, hg⟩
set_option maxHeartbeats 1000000 in
theorem c_indexT (F : FuncId) (caps : Array Value) (p : ByteArray → Bool) (g : Option Addr) (n cap : Nat) (ls : List ByteArray) (w : World) (h : IsStrs w g n cap ls) (hE : ∀ (xs : Array Value) (wr : World), (callFunc F xs).run Tryd.prog wr = .ok (.enter F xs) wr)
    (hF : ∀ z : ByteArray, z.size ≤ maxLen → Calls Tryd.prog F (#[.string z] ++ caps) w fun e w' => e = .returned (.bool (p z)) ∧ w = w') :
    Calls Tryd.prog 139 #[.slice g n cap, .func (.func F) #[] caps] w fun e w' => (∃ r : Int, e = .returned (.int .i64 r) ∧ decide (0 ≤ r) = ls.any p) ∧ w = w' := by
  have H := Lib.hid h
  have HC := Lib.hid hF
  have hmax : n ≤ 9223372036854775807 := by have h1 := h.2.1; have h2 := h.2.2.1; unfold maxLen at h2; omega
  have HN := Lib.hid h.1
  clear h hF
  go_enter Tryd.func139, Tryd.ntmps139
  go_wp2_with fail
  go_loopw [8] (fun i wr => AllTRel p ls w i wr) (fun i _ => n - (intOf i).toNat)
  case atStart => exact ⟨0, Nat.zero_le _, rfl, by simp, rfl⟩
  case round =>
    obtain ⟨k, hk, rfl, hz, rfl⟩ := hrel
    have HZ := Lib.hid hz
    have hk0 : (0 : Int) ≤ (k : Int) := by omega
    rw [HN.out] at hk
    clear hz
    by_cases hlt : k < n
    · have hlt' : (k : Int) < (n : Int) := by omega
      obtain ⟨b, off, z, rfl, hbk, hx, q, f⟩ := H.out.one hlt
      have HX := Lib.hid hx
      have HG := Lib.hid (HC.out z f)
      clear hx f
      cases hg : p z with
      | true =>
        have HY := Lib.hid (anyT_yes HX.out hg)
        rw [hg] at HG
        clear hg
        go_wp2_with fail
        refine HG.out.mono ?_
        rintro e w2 ⟨rfl, rfl⟩
        go_wp2_with fail
        go_ret
        exact ⟨⟨_, rfl, by rw [HY.out]; exact decide_eq_true hk0⟩, rfl⟩
      | false =>
        have HNN := Lib.hid (anyT_next HZ.out HX.out hg)
        rw [hg] at HG
        clear hg
        go_wp2_with fail
        refine HG.out.mono ?_
        rintro e w2 ⟨rfl, rfl⟩
        go_wp2_with fail
        go_roundw
        case rel => exact ⟨k + 1, by rw [HN.out]; omega, by go_num, HNN.out, rfl⟩
        case measure => simp [intOf]; omega
    · obtain rfl : k = n := by omega
      have HNN := Lib.hid (show ls.any p = false by have h1 := HZ.out; rwa [List.take_of_length_le (by rw [HN.out]; exact Nat.le_refl _)] at h1)
      go_wp2_with fail
      go_ret
      exact ⟨⟨_, rfl, by rw [HNN.out]; rfl⟩, rfl⟩
theorem c_containsT (F : FuncId) (caps : Array Value) (p : ByteArray → Bool) (g : Option Addr) (n cap : Nat) (ls : List ByteArray) (w : World) (h : IsStrs w g n cap ls) (hE : ∀ (xs : Array Value) (wr : World), (callFunc F xs).run Tryd.prog wr = .ok (.enter F xs) wr)
    (hF : ∀ z : ByteArray, z.size ≤ maxLen → Calls Tryd.prog F (#[.string z] ++ caps) w fun e w' => e = .returned (.bool (p z)) ∧ w = w') :
    Calls Tryd.prog 115 #[.slice g n cap, .func (.func F) #[] caps] w fun e w' => e = .returned (.bool (ls.any p)) ∧ w = w' := by
  have HI := Lib.hid (c_indexT F caps p g n cap ls w h hE hF)
  clear h hF
  go_enter Tryd.func115, Tryd.ntmps115
  go_wp2_with fail
  refine HI.out.mono ?_
  rintro e w2 ⟨⟨r, rfl, hr⟩, rfl⟩
  have HR := Lib.hid hr
  clear hr
  go_wp2_with fail
  go_ret
  exact ⟨ret_b (by rw [← HR.out]), rfl⟩
theorem c_isAllT (F : FuncId) (caps : Array Value) (p : ByteArray → Bool) (g : Option Addr) (n cap : Nat) (ls : List ByteArray) (w : World) (h : IsStrs w g n cap ls) (hE : ∀ (xs : Array Value) (wr : World), (callFunc F xs).run Tryd.prog wr = .ok (.enter F xs) wr)
    (hF : ∀ (z : ByteArray) (wr : World), z.size ≤ maxLen → Below w.heap.size w wr → Calls Tryd.prog F (#[.string z] ++ caps) wr fun e w' => e = .returned (.bool (p z)) ∧ wr = w') :
    Calls Tryd.prog 73 #[.slice g n cap, .func (.func F) #[] caps] w fun e w' => e = .returned (.bool (ls.all p)) ∧ Below w.heap.size w w' := by
  have K := Lib.hid (Blk.new w 37 #[.func (.func F) #[] caps])
  have al := (Below.refl w.heap.size w).alloc (Nat.le_refl _) (.cells #[.func (.func F) #[] caps] 37)
  have B := Lib.hid al
  have HF := Lib.hid (h.kept al)
  have H1 : ∀ z : ByteArray, z.size ≤ maxLen → Calls Tryd.prog 116 (#[.string z] ++ #[.pointer (some ⟨w.heap.size, 0, none⟩)]) (w.alloc (.cells #[.func (.func F) #[] caps] 37)) fun e w' => e = .returned (.bool (!p z)) ∧ (w.alloc (.cells #[.func (.func F) #[] caps] 37)) = w' := by
    intro z hz
    show Calls Tryd.prog 116 #[.string z, .pointer (some ⟨w.heap.size, 0, none⟩)] _ _
    have c0 := K.out.cell 0
    have HC := Lib.hid (hF z (w.alloc (.cells #[.func (.func F) #[] caps] 37)) hz al)
    generalize w.alloc (.cells #[.func (.func F) #[] caps] 37) = w1 at *
    clear hF h al hz
    go_enter Tryd.func116, Tryd.ntmps116
    go_wp2_with fail
    refine HC.out.mono ?_
    rintro e w2 ⟨rfl, rfl⟩
    go_wp2_with fail
    go_ret
    exact ⟨rfl, rfl⟩
  have HC := Lib.hid (c_containsT 116 #[.pointer (some ⟨w.heap.size, 0, none⟩)] (fun x => !p x) g n cap ls _ HF.out (enters_of Tryd.func116 (by kernel_rfl) (by kernel_rfl)) H1)
  clear H1 hF h al
  go_enter Tryd.func73, Tryd.ntmps73
  go_wp2_with fail
  refine HC.out.mono ?_
  rintro e w2 ⟨rfl, rfl⟩
  go_wp2_with fail
  go_ret
  exact ⟨ret_b (all_any p ls), B.out⟩
end Go.Proofs.YtpobdigmjfapbaaDoor
