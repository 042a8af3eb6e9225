/-
  PlanText: the program's. Conditions: the plan can be read, the tables are as their initialisers lay them.
-/
import Derived.Test.YtdngbfpfhkkmpaaDoorPtu
import Derived.Test.YtdngbfpfhkkmpaaDoorSjn
namespace Go.Proofs.YtdngbfpfhkkmpaaDoor
open Go.RowKit Go.Deep Go.WideShapes Go.ChangeShapes
set_option linter.unusedVariables false
set_option linter.unusedSimpArgs false

def planT (ps : List PstP) : List UInt8 := if ps.length = 0 then noneT else js (ps.map stepT)
def vPlanText (ps : List PstP) : ByteArray × Bool := if vPln ps = true then (⟨(planT ps).toArray⟩, true) else (⟨#[]⟩, false)
set_option maxRecDepth 20000 in
set_option maxHeartbeats 2000000 in
theorem c_iPlanText (g : Option Addr) (n c : Nat) (y : List PstA) (w : World) (h : PstsAt w g n c y) (hn : n ≤ 1048576) (hv : vPln (y.map PstA.p) = true → n ≤ 1000 ∧ ∀ x ∈ y, stepOk x.p ∧ (stepT x.p).length ≤ 1000) (ht : TabOk w) (hk : KnOk w) :
    Calls Tryd.prog 7 #[.agg #[.slice g n c]] w fun e w' => e = .returned (.tuple #[.string (vPlanText (y.map PstA.p)).1, .bool (vPlanText (y.map PstA.p)).2]) ∧ Below w.heap.size w w' := by
  have hln : y.length = n := h.1
  have bl : Below w.heap.size w (w.alloc (.cells #[.slice g n c] 30)) := (Below.refl _ _).alloc (Nat.le_refl _) _
  have hblk : Blk (w.alloc (.cells #[.slice g n c] 30)) w.heap.size 30 #[.slice g n c] := Blk.new w _ _
  have H1 := Lib.hid (h.kept bl)
  have B1 := Lib.hid bl
  have HVP := Lib.hid (c_iValidPlan g c n y _ rfl _ (h.kept bl) hn)
  have HT := Lib.hid ht
  have HK := Lib.hid hk
  have hcell : (w.alloc (.cells #[.slice g n c] 30)).cell? ⟨w.heap.size, 0, none⟩ = some (.slice g n c) := hblk.cell 0
  have HC := Lib.hid hcell
  have HBK := Lib.hid (cell_block hcell)
  have HN := Lib.hid hln
  cases hvp : vPln (y.map PstA.p) with
  | false =>
    have HV := Lib.hid (show vPlanText (y.map PstA.p) = (⟨#[]⟩, false) by unfold vPlanText; rw [hvp]; rfl)
    rw [hvp] at HVP
    clear h hn hv ht hk hcell hblk bl hvp hln
    go_enter Tryd.func7, Tryd.ntmps7
    go_wp2_with fail
    refine HVP.out.mono ?_
    rintro e w2 ⟨rfl, hb⟩
    have B2 := Lib.hid (Below.next B1.out hb)
    clear hb
    go_wp2_with fail
    go_ret2
    exact ⟨by rw [HV.out]; rfl, B2.out⟩
  | true =>
    have hh := hv hvp
    have HH := Lib.hid hh
    rw [hvp] at HVP
    have hn1 : (n : Int) ≤ 1000 := by omega
    have hn0 : (0 : Int) ≤ (n : Int) := by omega
    have HV := Lib.hid (show vPlanText (y.map PstA.p) = (⟨(planT (y.map PstA.p)).toArray⟩, true) by unfold vPlanText; rw [hvp]; rfl)
    clear h hn hv ht hk hcell hblk bl hvp hln hh
    by_cases h0 : n = 0
    · subst h0
      have HP := Lib.hid (show planT (y.map PstA.p) = noneT by unfold planT; rw [List.length_map, HN.out]; rfl)
      go_enter Tryd.func7, Tryd.ntmps7
      go_wp2_with fail
      refine HVP.out.mono ?_
      rintro e w2 ⟨rfl, hb⟩
      have B2 := Lib.hid (Below.next B1.out hb)
      have hc2 := (hb.cell (p := ⟨w.heap.size, 0, none⟩) HBK.out).trans HC.out
      clear hb
      go_wp2_with fail
      go_ret2
      exact ⟨by rw [HV.out, HP.out]; rfl, B2.out⟩
    · have hnb : ((n : Int) == 0) = false := by simpa using h0
      have HP := Lib.hid (show planT (y.map PstA.p) = js (stepTs y) by unfold planT stepTs; rw [List.length_map, HN.out, if_neg h0, List.map_map]; rfl)
      clear h0
      go_enter Tryd.func7, Tryd.ntmps7
      go_wp2_with fail
      refine HVP.out.mono ?_
      rintro e w2 ⟨rfl, hb⟩
      have B2 := Lib.hid (Below.next B1.out hb)
      have hc2 := (hb.cell (p := ⟨w.heap.size, 0, none⟩) HBK.out).trans HC.out
      have HE := Lib.hid (c_eachST g c n y w2 (H1.out.kept hb) (by have := HH.out.1; omega) (fun x hx => (HH.out.2 x hx).1) ((HT.out.kept B1.out).kept hb) ((HK.out.kept B1.out).kept hb))
      clear hb
      go_wp2_with fail
      refine HE.out.mono ?_
      rintro e w3 ⟨a3, c3, rfl, ho, hb⟩
      have B3 := Lib.hid (Below.next B2.out hb)
      have HSM := Lib.hid (show ∀ t ∈ stepTs y, t.length ≤ 1000 from fun t ht => by
        obtain ⟨x, hx, rfl⟩ := List.mem_map.1 ht
        exact (HH.out.2 x hx).2)
      have HJ := Lib.hid (c_joinSp a3 n c3 (stepTs y) w3 (by
        have h2 := ho.isStrs (fun t ht => by have := HSM.out t ht; unfold maxLen; omega)
        have e : (stepTs y).length = n := by unfold stepTs; rw [List.length_map]; exact HN.out
        rw [e] at h2
        exact h2) HH.out.1 HSM.out)
      clear ho hb
      go_wp2_with fail
      refine HJ.out.mono ?_
      rintro e w4 ⟨rfl, hb⟩
      have B4 := Lib.hid (Below.next B3.out hb)
      clear hb
      go_wp2_with fail
      go_ret2
      exact ⟨by rw [HV.out, HP.out]; rfl, B4.out⟩
end Go.Proofs.YtdngbfpfhkkmpaaDoor
