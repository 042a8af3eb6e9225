/-
  The reader of bytes: how it is made, and how it takes some. Conditions: as each says.
-/
import Derived.Test.YtpfbhckmpkiijaaDoorRbv
import Derived.Test.YtpfbhckmpkiijaaDoorWr
import Derived.Defers
namespace Go.Proofs.YtpfbhckmpkiijaaDoor
open Go.RowKit Go.Deep Go.WideShapes Go.ChangeShapes
set_option linter.unusedVariables false
set_option linter.unusedSimpArgs false

theorem ext_drop (l : List UInt8) (n : Nat) : (⟨l.toArray⟩ : ByteArray).extract n l.length = ⟨(l.drop n).toArray⟩ := by
  apply ByteArray.ext
  simp [ByteArray.data_extract, List.take_of_length_le]
theorem ext_take (l : List UInt8) (n : Nat) : (⟨l.toArray⟩ : ByteArray).extract 0 n = ⟨(l.take n).toArray⟩ := by
  apply ByteArray.ext
  simp [ByteArray.data_extract]
/-- the errors of the reader are there -/
def ErrsR (w : World) : Prop := (∃ t v, w.cell? ⟨0, 0, none⟩ = some (.iface t v)) ∧ (∃ t v, w.cell? ⟨3, 0, none⟩ = some (.iface t v))
theorem ErrsR.kept {w w' : World} (h : ErrsR w) (hb : Below w.heap.size w w') : ErrsR w' := by
  obtain ⟨⟨t, v, h1⟩, t', v', h2⟩ := h
  exact ⟨⟨t, v, (hb.cell (cell_block h1)).trans h1⟩, t', v', (hb.cell (cell_block h2)).trans h2⟩
theorem c_readerYes (x : ByteArray) (m : Nat) (h : x.size ≤ m) (hm : m ≤ 9223372036854775807) (w : World) : Calls Tryd.prog 23 #[.string x, .int .i64 m] w fun e w' => e = .returned (.pointer (some ⟨w.heap.size, 0, none⟩)) ∧ w' = w.alloc (.cells #[.string x, .nilIface] 70) := by
  have h' : (x.size : Int) ≤ (m : Int) := by omega
  clear h
  go_enter Tryd.func23, Tryd.ntmps23
  go_wp2_with fail
  go_ret
  exact ⟨rfl, rfl⟩
theorem c_readerNo (x : ByteArray) (m : Nat) (h : m < x.size) (hm : m ≤ 9223372036854775807) (w : World) (he : ErrsR w) : Calls Tryd.prog 23 #[.string x, .int .i64 m] w fun e w' => ∃ t v, e = .returned (.pointer (some ⟨w.heap.size, 0, none⟩)) ∧ w' = w.alloc (.cells #[.string ⟨#[]⟩, .iface t v] 70) := by
  obtain ⟨⟨t, v, h1⟩, _⟩ := he
  have h' : (m : Int) < (x.size : Int) := by omega
  clear h
  go_enter Tryd.func23, Tryd.ntmps23
  go_wp2_with fail
  go_ret
  exact ⟨t, v, rfl, rfl⟩
theorem d_skip (g n : Nat) (l : List UInt8) (e : Value) (u : FrameMode) (w : World) (h : Blk w g 70 #[.string ⟨l.toArray⟩, e]) (hn : n ≤ l.length) (hl : l.length ≤ 1048576) :
    CallsD Tryd.prog 62 #[.pointer (some ⟨g, 0, none⟩), .int .i64 n] u w fun e u' w' => u' = u ∧ (e = .returned (.tuple #[]) ∧ w' = w.setCell ⟨g, 0, none⟩ (.string ⟨(l.drop n).toArray⟩)) := by
  have h0 := h.cell 0
  have hf := h.frozen 0
  have e1 := ext_drop l n
  have e2 := size_mk l
  have hn0 : (0 : Int) ≤ (n : Int) := by omega
  have hn1 : (n : Int) ≤ (l.length : Int) := by omega
  have hl1 : (l.length : Int) ≤ 1048576 := by omega
  go_enter_d Tryd.func62, Tryd.ntmps62
  go_wp2
  go_end0
  exact ⟨rfl, rfl⟩
theorem c_takeErr (g n : Nat) (x : Value) (t : TypeId) (v : Value) (w : World) (h : Blk w g 70 #[x, .iface t v]) :
    Calls Tryd.prog 54 #[.pointer (some ⟨g, 0, none⟩), .int .i64 n] w fun e w' => e = .returned (.string ⟨#[]⟩) ∧ w' = w := by
  have h0 := h.cell 0
  have h1 := h.cell 1
  go_enter_defers Tryd.func54, Tryd.ntmps54
  go_wp2
  exact ⟨_, results_tmp rfl _ _ _, rfl, rfl⟩
theorem c_takeYes (g n : Nat) (l : List UInt8) (w : World) (h : Blk w g 70 #[.string ⟨l.toArray⟩, .nilIface]) (hn : n ≤ l.length) (hl : l.length ≤ 1048576) :
    Calls Tryd.prog 54 #[.pointer (some ⟨g, 0, none⟩), .int .i64 n] w fun e w' => e = .returned (.string ⟨(l.take n).toArray⟩) ∧ w' = w.setCell ⟨g, 0, none⟩ (.string ⟨(l.drop n).toArray⟩) := by
  have h0 := h.cell 0
  have h1 := h.cell 1
  have e1 := ext_take l n
  have e2 := size_mk l
  have hn0 : (0 : Int) ≤ (n : Int) := by omega
  have hn1 : (n : Int) ≤ (l.length : Int) := by omega
  have hl1 : (l.length : Int) ≤ 1048576 := by omega
  go_enter_defers Tryd.func54, Tryd.ntmps54
  go_wp2
  refine leaves_cons (f := 62) (args := #[.pointer (some ⟨g, 0, none⟩), .int .i64 n]) (by simp) (by simp [go_sem]) ?_
  refine (d_skip g n l .nilIface .returning _ h hn hl).mono ?_
  rintro e u' w'' ⟨rfl, rfl, rfl⟩
  exact ⟨_, results_tmp rfl _ _ _, rfl, rfl⟩
end Go.Proofs.YtpfbhckmpkiijaaDoor
