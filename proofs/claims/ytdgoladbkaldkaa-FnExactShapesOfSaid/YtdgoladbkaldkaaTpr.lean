/-
  isAll over lists of whole numbers of which nothing is known but their cells. Conditions: the cells can be read.
-/
import Derived.Test.YtdgoladbkaldkaaAll
import Derived.Test.YtdgoladbkaldkaaInl
namespace Go.Proofs.Ytdgoladbkaldkaa
open Go.RowKit Go.Deep Go.WideShapes Go.ChangeShapes
set_option linter.unusedVariables false
attribute [local go_sem] World.drewN_zero

def RowI (w : World) (a : Option Addr) (n cap : Nat) (zs : List Int) : Prop := n ≤ cap ∧ cap ≤ maxLen ∧ zs.length = n ∧ True ∧ (n = 0 ∨ ∃ b off, a = some ⟨b, off, none⟩ ∧ b < w.heap.size ∧ ∀ i, i < n → w.cell? ⟨b, off + i, none⟩ = some (.int .i64 (zs.getD i 0)))
theorem rowI_kept {w w' : World} {a : Option Addr} {len cap : Nat} {zs : List Int} (h : RowI w a len cap zs) (hb : Below w.heap.size w w') : RowI w' a len cap zs := by
  obtain ⟨h1, h2, h3, h4, h5⟩ := h
  refine ⟨h1, h2, h3, h4, ?_⟩
  rcases h5 with h0 | ⟨b, off, ha, hlt, hc⟩
  · exact .inl h0
  · refine .inr ⟨b, off, ha, Nat.lt_of_lt_of_le hlt hb.size, fun i hi => ?_⟩
    rw [hb.cell (p := ⟨b, off + i, none⟩) hlt]
    exact hc i hi
theorem rowI_own {w : World} {B : Nat} {a : Option Addr} {cap : Nat} {ys : List Int} (h : OwnL w B [inC a cap ys]) : RowI w a ys.length cap ys := by
  have h1 := (OwnL.at _ h).1
  simp only [inC, Cl.At, Nat.mul_one, vs_int] at h1
  obtain ⟨⟨h2, h3, _, h5⟩, _⟩ := h1
  refine ⟨h2, h3, rfl, trivial, ?_⟩
  rcases h5 with h0 | ⟨b, off, e, hlt, hc⟩
  · exact .inl h0
  · refine .inr ⟨b, off, e, hlt, fun i hi => ?_⟩
    rw [hc i hi]
    simp [toV, List.getD, hi]
set_option maxHeartbeats 1000000 in
theorem c_indexR (F : FuncId) (caps : Array Value) (g : Int → Bool) (a : Option Addr) (n cap : Nat) (zs : List Int) (w : World) (h : RowI w a n cap zs) (hE : ∀ (xs : Array Value) (wr : World), (callFunc F xs).run Try.prog wr = .ok (.enter F xs) wr)
    (hF : ∀ (x : Int), x ∈ zs → Calls Try.prog F (#[.int .i64 x] ++ caps) w fun e w' => e = .returned (.bool (g x)) ∧ w = w') :
    Calls Try.prog 72 #[.slice a n cap, .func (.func F) #[] caps] w fun e w' => (∃ r : Int, e = .returned (.int .i64 r) ∧ decide (0 ≤ r) = zs.any g) ∧ w = w' := by
  have HF := Lib.hid h
  have HC := Lib.hid hF
  have hmax : n ≤ 9223372036854775807 := by have h1 := h.1; have h2 := h.2.1; unfold maxLen at h2; omega
  have hlen := h.2.2.1
  subst hlen
  clear h hF
  go_enter Try.func72, Try.ntmps72
  go_wp2_with fail
  go_loopw [8] (fun i wr => AllRel g 0 zs w i wr) (fun i _ => zs.length - (intOf i).toNat)
  case atStart => exact ⟨0, Nat.zero_le _, rfl, (fun j hj => by omega), rfl⟩
  case round =>
    obtain ⟨k, hk, rfl, hz, rfl⟩ := hrel
    have HZ := Lib.hid hz
    have hk0 : (0 : Int) ≤ (k : Int) := by omega
    clear hz
    by_cases hlt : k < zs.length
    · have hlt' : (k : Int) < (zs.length : Int) := by omega
      rcases HF.out.2.2.2.2 with h' | ⟨ab, off, rfl, hab, hcell⟩
      · omega
      have hx := hcell k hlt
      have hmem : zs.getD k 0 ∈ zs := by
        unfold List.getD
        rw [List.getElem?_eq_getElem hlt]
        exact List.getElem_mem _
      have HG := Lib.hid (HC.out _ hmem)
      cases hg : g (zs.getD k 0) with
      | true =>
        have HY := Lib.hid (any_yes hlt hg)
        rw [hg] at HG
        obtain ⟨y, hz⟩ : ∃ y, zs.getD k 0 = y := ⟨_, rfl⟩
        rw [hz] at hx HG
        clear hcell hz hmem hg
        go_wp2_with fail
        refine HG.out.mono ?_
        rintro e w2 ⟨rfl, rfl⟩
        go_wp2_with fail
        go_ret
        exact ⟨⟨_, rfl, by rw [HY.out]; exact decide_eq_true hk0⟩, rfl⟩
      | false =>
        have HN := Lib.hid hg
        rw [hg] at HG
        obtain ⟨y, hz⟩ : ∃ y, zs.getD k 0 = y := ⟨_, rfl⟩
        rw [hz] at hx HG
        clear hcell hz hmem hg
        go_wp2_with fail
        refine HG.out.mono ?_
        rintro e w2 ⟨rfl, rfl⟩
        go_wp2_with fail
        go_roundw
        case rel => exact ⟨k + 1, hlt, by go_num, (fun j hj => if e : j = k then by rw [e]; exact HN.out else HZ.out j (by omega)), rfl⟩
        case measure => simp [intOf]; omega
    · obtain rfl : k = zs.length := by omega
      have HN := Lib.hid (any_no HZ.out)
      go_wp2_with fail
      go_ret
      exact ⟨⟨_, rfl, by rw [HN.out]; rfl⟩, rfl⟩
theorem c_containsR (F : FuncId) (caps : Array Value) (g : Int → Bool) (a : Option Addr) (n cap : Nat) (zs : List Int) (w : World) (h : RowI w a n cap zs) (hE : ∀ (xs : Array Value) (wr : World), (callFunc F xs).run Try.prog wr = .ok (.enter F xs) wr)
    (hF : ∀ (x : Int), x ∈ zs → Calls Try.prog F (#[.int .i64 x] ++ caps) w fun e w' => e = .returned (.bool (g x)) ∧ w = w') :
    Calls Try.prog 66 #[.slice a n cap, .func (.func F) #[] caps] w fun e w' => e = .returned (.bool (zs.any g)) ∧ w = w' := by
  have HI := Lib.hid (c_indexR F caps g a n cap zs w h hE hF)
  clear h hF
  go_enter Try.func66, Try.ntmps66
  go_wp2_with fail
  refine HI.out.mono ?_
  rintro e w2 ⟨⟨r, rfl, hr⟩, rfl⟩
  have HR := Lib.hid hr
  clear hr
  go_wp2_with fail
  go_ret
  exact ⟨ret_b (by rw [← HR.out]), rfl⟩
theorem c_isAllR (F : FuncId) (caps : Array Value) (p : Int → Bool) (a : Option Addr) (n cap : Nat) (zs : List Int) (w : World) (h : RowI w a n cap zs) (hE : ∀ (xs : Array Value) (wr : World), (callFunc F xs).run Try.prog wr = .ok (.enter F xs) wr)
    (hF : ∀ (x : Int) (wr : World), Below w.heap.size w wr → x ∈ zs → Calls Try.prog F (#[.int .i64 x] ++ caps) wr fun e w' => e = .returned (.bool (p x)) ∧ wr = w') :
    Calls Try.prog 56 #[.slice a n cap, .func (.func F) #[] caps] w fun e w' => e = .returned (.bool (zs.all p)) ∧ Below w.heap.size w w' := by
  have K := Lib.hid (Blk.new w 70 #[.func (.func F) #[] caps])
  have al := (Below.refl w.heap.size w).alloc (Nat.le_refl _) (.cells #[.func (.func F) #[] caps] 70)
  have B := Lib.hid al
  have HF := Lib.hid (rowI_kept h al)
  have H1 : ∀ (x : Int), x ∈ zs → Calls Try.prog 67 (#[.int .i64 x] ++ #[.pointer (some ⟨w.heap.size, 0, none⟩)]) (w.alloc (.cells #[.func (.func F) #[] caps] 70)) fun e w' => e = .returned (.bool (!p x)) ∧ (w.alloc (.cells #[.func (.func F) #[] caps] 70)) = w' := by
    intro x hm
    show Calls Try.prog 67 #[.int .i64 x, .pointer (some ⟨w.heap.size, 0, none⟩)] _ _
    have c0 := K.out.cell 0
    have HC := Lib.hid (hF x (w.alloc (.cells #[.func (.func F) #[] caps] 70)) al hm)
    generalize w.alloc (.cells #[.func (.func F) #[] caps] 70) = w1 at *
    clear hm hF h al
    go_enter Try.func67, Try.ntmps67
    go_wp2_with fail
    refine HC.out.mono ?_
    rintro e w2 ⟨rfl, rfl⟩
    go_wp2_with fail
    go_ret
    exact ⟨rfl, rfl⟩
  have HC := Lib.hid (c_containsR 67 #[.pointer (some ⟨w.heap.size, 0, none⟩)] (fun x => !p x) a n cap zs _ HF.out (enters_of Try.func67 (by kernel_rfl) (by kernel_rfl)) H1)
  clear H1 hF h al
  go_enter Try.func56, Try.ntmps56
  go_wp2_with fail
  refine HC.out.mono ?_
  rintro e w2 ⟨rfl, rfl⟩
  go_wp2_with fail
  go_ret
  exact ⟨ret_b (all_any p zs), B.out⟩
end Go.Proofs.Ytdgoladbkaldkaa
