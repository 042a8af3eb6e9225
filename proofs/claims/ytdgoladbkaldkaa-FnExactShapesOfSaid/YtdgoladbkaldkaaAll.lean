/-
  Whether all numbers of a list have a property: for any function that says so and changes nothing. Conditions: the numbers can be read.
-/
import Derived.Test.YtdgoladbkaldkaaFun
import Derived.Test.YtdgoladbkaldkaaInts
namespace Go.Proofs.Ytdgoladbkaldkaa
open Go.RowKit Go.Deep Go.WideShapes Go.ChangeShapes
set_option linter.unusedVariables false

theorem isRow_kept {k : IntKind} {w w' : World} {a : Option Addr} {len cap : Nat} {zs : List Int} (h : IsRow k w a len cap zs) (hb : Below w.heap.size w w') : IsRow k w' a len cap zs := by
  obtain ⟨h1, h2, h3, h4, h5⟩ := h
  refine ⟨h1, h2, h3, h4, ?_⟩
  rcases h5 with h0 | ⟨b, off, ha, hlt, hc⟩
  · exact .inl h0
  · refine .inr ⟨b, off, ha, Nat.lt_of_lt_of_le hlt hb.size, fun i hi => ?_⟩
    rw [hb.cell (p := ⟨b, off + i, none⟩) hlt]
    exact hc i hi
def AllRel {α : Type} (g : α → Bool) (d : α) (zs : List α) (w : World) (i : Value) (wr : World) : Prop := ∃ k : Nat, k ≤ zs.length ∧ i = .int .i64 k ∧ (∀ j, j < k → g (zs.getD j d) = false) ∧ wr = w
theorem any_no {α : Type} {g : α → Bool} {d : α} {zs : List α} (h : ∀ j, j < zs.length → g (zs.getD j d) = false) : zs.any g = false := by
  rw [List.any_eq_false]
  intro x hx
  obtain ⟨i, hi, rfl⟩ := List.mem_iff_getElem.1 hx
  have := h i hi
  simp [List.getD, hi] at this
  simp [this]
theorem any_yes {α : Type} {g : α → Bool} {d : α} {zs : List α} {k : Nat} (hk : k < zs.length) (h : g (zs.getD k d) = true) : zs.any g = true := by
  rw [List.any_eq_true]
  refine ⟨zs.getD k d, ?_, h⟩
  simp [List.getD, hk]
theorem all_any {α : Type} (p : α → Bool) (zs : List α) : (!zs.any fun x => !p x) = zs.all p := by
  induction zs with
  | nil => rfl
  | cons x t ih => simp [← ih]
set_option maxHeartbeats 1000000 in
theorem c_indexI (F : FuncId) (caps : Array Value) (g : Int → Bool) (a : Option Addr) (n cap : Nat) (zs : List Int) (w : World) (h : IsRow .i64 w a n cap zs) (hE : ∀ (xs : Array Value) (wr : World), (callFunc F xs).run Try.prog wr = .ok (.enter F xs) wr)
    (hF : ∀ (x : Int), (Lit.int .i64 x).wf = true → x ∈ zs → Calls Try.prog F (#[.int .i64 x] ++ caps) w fun e w' => e = .returned (.bool (g x)) ∧ w = w') :
    Calls Try.prog 72 #[.slice a n cap, .func (.func F) #[] caps] w fun e w' => (∃ r : Int, e = .returned (.int .i64 r) ∧ decide (0 ≤ r) = zs.any g) ∧ w = w' := by
  have HF := Lib.hid h
  have HC := Lib.hid hF
  have hmax : n ≤ 9223372036854775807 := by have h1 := h.1; have h2 := h.2.1; unfold maxLen at h2; omega
  have hlen := h.2.2.1
  subst hlen
  clear h hF
  go_enter Try.func72, Try.ntmps72
  go_wp2_with fail
  go_loopw [8] (fun i wr => AllRel g 0 zs w i wr) (fun i _ => zs.length - (intOf i).toNat)
  case atStart => exact ⟨0, Nat.zero_le _, rfl, (fun j hj => by omega), rfl⟩
  case round =>
    obtain ⟨k, hk, rfl, hz, rfl⟩ := hrel
    have HZ := Lib.hid hz
    have hk0 : (0 : Int) ≤ (k : Int) := by omega
    clear hz
    by_cases hlt : k < zs.length
    · have hlt' : (k : Int) < (zs.length : Int) := by omega
      rcases HF.out.2.2.2.2 with h' | ⟨ab, off, rfl, hab, hcell⟩
      · omega
      have hx := hcell k hlt
      have hmem : zs.getD k 0 ∈ zs := by
        unfold List.getD
        rw [List.getElem?_eq_getElem hlt]
        exact List.getElem_mem _
      have hxl := HF.out.2.2.2.1 _ hmem
      have HG := Lib.hid (HC.out _ hxl hmem)
      cases hg : g (zs.getD k 0) with
      | true =>
        have HY := Lib.hid (any_yes hlt hg)
        rw [hg] at HG
        obtain ⟨y, hz⟩ : ∃ y, zs.getD k 0 = y := ⟨_, rfl⟩
        rw [hz] at hx HG
        clear hcell hz hxl hmem hg
        go_wp2_with fail
        refine HG.out.mono ?_
        rintro e w2 ⟨rfl, rfl⟩
        go_wp2_with fail
        go_ret
        exact ⟨⟨_, rfl, by rw [HY.out]; exact decide_eq_true hk0⟩, rfl⟩
      | false =>
        have HN := Lib.hid hg
        rw [hg] at HG
        obtain ⟨y, hz⟩ : ∃ y, zs.getD k 0 = y := ⟨_, rfl⟩
        rw [hz] at hx HG
        clear hcell hz hxl hmem hg
        go_wp2_with fail
        refine HG.out.mono ?_
        rintro e w2 ⟨rfl, rfl⟩
        go_wp2_with fail
        go_roundw
        case rel => exact ⟨k + 1, hlt, by go_num, (fun j hj => if e : j = k then by rw [e]; exact HN.out else HZ.out j (by omega)), rfl⟩
        case measure => simp [intOf]; omega
    · obtain rfl : k = zs.length := by omega
      have HN := Lib.hid (any_no HZ.out)
      go_wp2_with fail
      go_ret
      exact ⟨⟨_, rfl, by rw [HN.out]; rfl⟩, rfl⟩
theorem c_containsI (F : FuncId) (caps : Array Value) (g : Int → Bool) (a : Option Addr) (n cap : Nat) (zs : List Int) (w : World) (h : IsRow .i64 w a n cap zs) (hE : ∀ (xs : Array Value) (wr : World), (callFunc F xs).run Try.prog wr = .ok (.enter F xs) wr)
    (hF : ∀ (x : Int), (Lit.int .i64 x).wf = true → x ∈ zs → Calls Try.prog F (#[.int .i64 x] ++ caps) w fun e w' => e = .returned (.bool (g x)) ∧ w = w') :
    Calls Try.prog 66 #[.slice a n cap, .func (.func F) #[] caps] w fun e w' => e = .returned (.bool (zs.any g)) ∧ w = w' := by
  have HI := Lib.hid (c_indexI F caps g a n cap zs w h hE hF)
  clear h hF
  go_enter Try.func66, Try.ntmps66
  go_wp2_with fail
  refine HI.out.mono ?_
  rintro e w2 ⟨⟨r, rfl, hr⟩, rfl⟩
  have HR := Lib.hid hr
  clear hr
  go_wp2_with fail
  go_ret
  exact ⟨ret_b (by rw [← HR.out]), rfl⟩
theorem c_isAllI (F : FuncId) (p : Int → Bool) (a : Option Addr) (n cap : Nat) (zs : List Int) (w : World) (h : IsRow .i64 w a n cap zs) (hE : ∀ (xs : Array Value) (wr : World), (callFunc F xs).run Try.prog wr = .ok (.enter F xs) wr)
    (hF : ∀ (x : Int) (wr : World), (Lit.int .i64 x).wf = true → x ∈ zs → Calls Try.prog F (#[.int .i64 x] ++ #[]) wr fun e w' => e = .returned (.bool (p x)) ∧ wr = w') :
    Calls Try.prog 56 #[.slice a n cap, .func (.func F) #[] #[]] w fun e w' => e = .returned (.bool (zs.all p)) ∧ Below w.heap.size w w' := by
  have K := Lib.hid (Blk.new w 70 #[.func (.func F) #[] #[]])
  have al := (Below.refl w.heap.size w).alloc (Nat.le_refl _) (.cells #[.func (.func F) #[] #[]] 70)
  have B := Lib.hid al
  have HF := Lib.hid (isRow_kept h al)
  have H1 : ∀ (x : Int), (Lit.int .i64 x).wf = true → x ∈ zs → Calls Try.prog 67 (#[.int .i64 x] ++ #[.pointer (some ⟨w.heap.size, 0, none⟩)]) (w.alloc (.cells #[.func (.func F) #[] #[]] 70)) fun e w' => e = .returned (.bool (!p x)) ∧ (w.alloc (.cells #[.func (.func F) #[] #[]] 70)) = w' := by
    intro x hx hm
    show Calls Try.prog 67 #[.int .i64 x, .pointer (some ⟨w.heap.size, 0, none⟩)] _ _
    have c0 := K.out.cell 0
    have HC := Lib.hid (hF x (w.alloc (.cells #[.func (.func F) #[] #[]] 70)) hx hm)
    generalize w.alloc (.cells #[.func (.func F) #[] #[]] 70) = w1 at *
    clear hx hm hF h
    go_enter Try.func67, Try.ntmps67
    go_wp2_with fail
    refine HC.out.mono ?_
    rintro e w2 ⟨rfl, rfl⟩
    go_wp2_with fail
    go_ret
    exact ⟨rfl, rfl⟩
  have HC := Lib.hid (c_containsI 67 #[.pointer (some ⟨w.heap.size, 0, none⟩)] (fun x => !p x) a n cap zs _ HF.out (enters_of Try.func67 (by kernel_rfl) (by kernel_rfl)) H1)
  clear H1 hF h al
  go_enter Try.func56, Try.ntmps56
  go_wp2_with fail
  refine HC.out.mono ?_
  rintro e w2 ⟨rfl, rfl⟩
  go_wp2_with fail
  go_ret
  exact ⟨ret_b (all_any p zs), B.out⟩
end Go.Proofs.Ytdgoladbkaldkaa
