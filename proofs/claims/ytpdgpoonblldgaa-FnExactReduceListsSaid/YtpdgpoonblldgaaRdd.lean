/-
  ReduceLists: the numbers of all lists at a place, and the closures, as the program takes them. Conditions: the numbers can be read.
-/
import Derived.Test.YtpdgpoonblldgaaRdc
import Derived.Test.YtpdgpoonblldgaaFun
import Derived.Test.YtpdgpoonblldgaaAls
namespace Go.Proofs.Ytpdgpoonblldgaa
open Go.RowKit Go.Deep Go.WideShapes Go.ChangeShapes
set_option linter.unusedVariables false
set_option linter.unusedSimpArgs false

def eachF (f : List Nat → Nat) (ls : List FlA) (i : Nat) : Nat := match ls[i]? with
  | some x => f x.z
  | none => 0
theorem eachF_at {f : List Nat → Nat} {ls : List FlA} {i : Nat} {x : FlA} (h : ls[i]? = some x) : eachF f ls i = f x.z := by unfold eachF; rw [h]
theorem eachF_all (f : List Nat → Nat) (ls : List FlA) : (List.range ls.length).map (eachF f ls) = ls.map fun x => f x.z := by
  apply List.ext_getElem?
  intro i
  by_cases h : i < ls.length
  · rw [List.getElem?_map, List.getElem?_map, List.getElem?_range h, List.getElem?_eq_getElem h]
    simp [eachF_at (List.getElem?_eq_getElem h)]
  · rw [List.getElem?_eq_none (by simp; omega), List.getElem?_eq_none (by simp; omega)]
set_option maxRecDepth 20000 in
set_option maxHeartbeats 1000000 in
theorem c_eachOfS (F : FuncId) (caps : Array Value) (f : List Nat → Nat) (g : Option Addr) (n cap : Nat) (ls : List FlA) (w : World) (h : SSAt w g n cap ls) (hn : n ≤ 1048576) (hE : ∀ (xs : Array Value) (wr : World), (callFunc F xs).run Try.prog wr = .ok (.enter F xs) wr)
    (hF : ∀ (z : List Nat) (a : Option Addr) (c : Nat) (wr : World), ⟨z, a, c⟩ ∈ ls → Below w.heap.size w wr → Calls Try.prog F (#[.slice a z.length c] ++ caps) wr (RetX (f z) wr)) :
    Calls Try.prog 78 #[.slice g n cap, .func (.func F) #[] caps] w (RetLs (ls.map fun x => f x.z) w) := by
  have HF := Lib.hid h
  have HC := Lib.hid hF
  have HEA := Lib.hid (show (List.range n).map (eachF f ls) = ls.map fun x => f x.z by rw [← h.1]; exact eachF_all f ls)
  obtain ⟨i0, hi, hz0, hz1, hz2⟩ := info_parts info_f32
  have HI := Lib.hid hi
  have HZ0 := Lib.hid hz0
  have HZ1 := Lib.hid hz1
  have HZ2 := Lib.hid hz2
  clear h hF hi hz0 hz1 hz2
  go_enter Try.func78, Try.ntmps78
  go_wp2_with (at_make; refine wpList_make_full _ rfl _ _ 25 rfl w.heap.size 67 i0 (.float .f32 0) 1 Try.underlying25 HI.out HZ0.out HZ1.out _ _ _ _ n rfl rfl rfl rfl ?c1 ?c2 ?c3 ?_)
  case c1 => rw [HZ2.out]; omega
  case c2 => unfold maxLen; omega
  case c3 => exact Nat.le_refl _
  intro w1 hown hgrow
  have hb1 : Below w.heap.size w w1 := (Below.refl _ _).grown hgrow (Nat.le_refl _) (fun k h => by cases h)
  rw [toList_madeCells_one] at hown
  have HO := Lib.hid hown
  have HB := Lib.hid hb1
  clear hown hb1 hgrow
  go_wp2_with fail
  go_loopw [13] (fun i wr => FunRel (eachF f ls) n w.heap.size w i wr) (fun i _ => n - (intOf i).toNat)
  case atStart => exact ⟨0, [], Nat.zero_le _, rfl, rfl, by simpa [partF] using HO.out, (fun _ h => by cases h), rfl, HB.out⟩
  case round =>
    obtain ⟨k, ys, hk, rfl, hy, ho, ht, he, hbl⟩ := hrel
    have HY := Lib.hid hy
    have HO' := Lib.hid ho
    have HT := Lib.hid ht
    have HE := Lib.hid he
    have HL := Lib.hid hbl
    have hk0 : (0 : Int) ≤ (k : Int) := by omega
    clear hy ho ht he hbl
    by_cases hlt : k < n
    · have hlt' : (k : Int) < (n : Int) := by omega
      obtain ⟨b, off, z, a, c, rfl, hbk, hx, q0, hf⟩ := (HF.out.kept HL.out).one hlt
      have HXX := Lib.hid (eachF_at (f := f) hx)
      have HMEM := Lib.hid (List.mem_of_getElem? hx)
      clear hx hf
      go_wp2_with fail
      refine (HC.out z a c _ HMEM.out HL.out).mono ?_
      rintro e w2 ⟨r, rfl, hr, hrl, hb⟩
      have HR := Lib.hid hr
      have HRL := Lib.hid hrl
      have HB2 := Lib.hid hb
      clear hr hrl hb
      obtain ⟨hfz, v0, hv0⟩ := fun_cell hlt HO'.out HB2.out
      go_wp2_with fail
      go_roundw
      case rel => exact fun_step (Nat.le_refl _) HY.out hlt HO'.out HT.out HE.out HL.out HB2.out HRL.out (by rw [HR.out, HXX.out])
      case measure => simp [intOf]; omega
    · obtain rfl : k = n := by omega
      go_wp2_with fail
      go_ret
      rw [← HEA.out]
      exact fun_end HY.out HO'.out HT.out HE.out HL.out
theorem c_red1 (gp p : Nat) (a : Option Addr) (c : Nat) (z : List Nat) (w : World) (h : IsFloats .f32 w a z.length c z) (hp : p < z.length) (q : w.cell? ⟨gp, 0, none⟩ = some (.int .i64 p)) :
    Calls Try.prog 79 #[.slice a z.length c, .pointer (some ⟨gp, 0, none⟩)] w (RetX (canon .f32 (z.getD p 0)) w) := by
  rcases h.2.2.2.2 with h' | ⟨b, off, rfl, hb, hc⟩
  · omega
  have q1 := hc p hp
  have HL := Lib.hid (show z.getD p 0 < 2 ^ 32 from h.2.2.2.1 _ (by
    unfold List.getD
    rw [List.getElem?_eq_getElem hp]
    exact List.getElem_mem _))
  have p0 : (0 : Int) ≤ (p : Int) := by omega
  have p1 : (p : Int) < (z.length : Int) := by omega
  obtain ⟨x, hx⟩ : ∃ x, z.getD p 0 = x := ⟨_, rfl⟩
  rw [hx] at q1 HL ⊢
  clear hc h hx
  go_enter Try.func79, Try.ntmps79
  go_wp2_with fail
  go_ret
  exact ⟨x, rfl, rfl, HL.out, Below.refl _ _⟩
theorem c_can1 (gp : Nat) (g : Option Addr) (n cap : Nat) (ls : List FlA) (z : List Nat) (a : Option Addr) (c : Nat) (w : World) (h : SSAt w g n cap ls) (h1 : 0 < n) (q : w.cell? ⟨gp, 0, none⟩ = some (.slice g n cap)) :
    Calls Try.prog 122 #[.slice a z.length c, .pointer (some ⟨gp, 0, none⟩)] w fun e w' => e = .returned (.bool (decide (z.length = ((ls.map FlA.z).getD 0 []).length))) ∧ w = w' := by
  obtain ⟨b, off, z0, a0, c0, rfl, hbk, hx, q0, hf⟩ := h.one h1
  have HX := Lib.hid (show ((ls.map FlA.z).getD 0 []) = z0 by
    cases ls with
    | nil => simp at hx
    | cons y t => simp at hx; simp [hx])
  rw [Nat.add_zero] at q0
  have i1 : (0 : Int) < (n : Int) := by omega
  clear h hx hf
  rw [HX.out]
  go_enter Try.func122, Try.ntmps122
  go_wp2_with fail
  go_ret
  refine ⟨?_, rfl⟩
  simp [Bool.beq_eq_decide_eq]
  omega
theorem c_reductionOf0 (w : World) : Calls Try.prog 76 #[.int .i64 0] w fun e w' => e = .returned (.tuple #[.func (.func 118) #[] #[], .bool true]) ∧ w = w' := by
  go_enter Try.func76, Try.ntmps76
  go_wp2_with fail
  go_ret2
  exact ⟨rfl, rfl⟩
theorem c_reductionOf1 (w : World) : Calls Try.prog 76 #[.int .i64 1] w fun e w' => e = .returned (.tuple #[.func (.func 119) #[] #[], .bool true]) ∧ w = w' := by
  go_enter Try.func76, Try.ntmps76
  go_wp2_with fail
  go_ret2
  exact ⟨rfl, rfl⟩
theorem c_reductionOf2 (w : World) : Calls Try.prog 76 #[.int .i64 2] w fun e w' => e = .returned (.tuple #[.func (.func 120) #[] #[], .bool true]) ∧ w = w' := by
  go_enter Try.func76, Try.ntmps76
  go_wp2_with fail
  go_ret2
  exact ⟨rfl, rfl⟩
theorem c_reductionNo (k : Int) (h : ¬ (0 ≤ k ∧ k ≤ 2)) (w : World) : Calls Try.prog 76 #[.int .i64 k] w fun e w' => ∃ v, e = .returned (.tuple #[v, .bool false]) ∧ w = w' := by
  have h0 : (k == 0) = false := by simp; omega
  have h1 : (k == 1) = false := by simp; omega
  have h2 : (k == 2) = false := by simp; omega
  clear h
  go_enter Try.func76, Try.ntmps76
  go_wp2_with fail
  go_ret2
  exact ⟨_, rfl, rfl⟩
end Go.Proofs.Ytpdgpoonblldgaa
