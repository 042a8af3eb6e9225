/-
  EntriesOf: what the program answers. Conditions: at most 2 ^ 20 bytes; the errors lie apart, as the row says.
-/
import Derived.Test.YtpfbhckmpkiijaaDoorErq
import Derived.Test.YtpfbhckmpkiijaaDoorEri
import Derived.BigQuiet
namespace Go.Proofs.YtpfbhckmpkiijaaDoor
open Go.RowKit Go.Deep Go.WideShapes Go.ChangeShapes
set_option linter.unusedVariables false
set_option linter.unusedSimpArgs false

theorem ownS_base {w : World} {B B' : Nat} {a : Option Addr} {cap : Nat} {ls : List (List UInt8)} (h : OwnS w B a cap ls) (hb : B' ≤ B) : OwnS w B' a cap ls := by
  refine ⟨h.1, ?_⟩
  rcases h.2 with h' | ⟨g, c, cur, hv, hB, r⟩
  · exact .inl h'
  · exact .inr ⟨g, c, cur, hv, by omega, r⟩
/-- the three errors are pointers to blocks of their own -/
def ErrsP (w : World) : Prop := ∃ (a0 a1 a2 : Addr) (c0 c1 c2 : Array Value) (t0 t1 t2 : TypeId), ErrsE w (.pointer (some a0)) (.pointer (some a1)) (.pointer (some a2)) ∧ a1 ≠ a0 ∧ a2 ≠ a0 ∧ w.heap[a0.block]? = some (.cells c0 t0 (0, 0)) ∧ w.heap[a1.block]? = some (.cells c1 t1 (0, 0)) ∧ w.heap[a2.block]? = some (.cells c2 t2 (0, 0))
theorem ErrsP.kept {w w' : World} (h : ErrsP w) (hb : Below w.heap.size w w') : ErrsP w' := by
  obtain ⟨a0, a1, a2, c0, c1, c2, t0, t1, t2, h, n1, n2, b0, b1, b2⟩ := h
  exact ⟨a0, a1, a2, c0, c1, c2, t0, t1, t2, h.kept hb, n1, n2, (hb.block _ (Array.getElem?_eq_some_iff.1 b0).1).trans b0, (hb.block _ (Array.getElem?_eq_some_iff.1 b1).1).trans b1, (hb.block _ (Array.getElem?_eq_some_iff.1 b2).1).trans b2⟩
/-- which error, in one word: whether errors.Is finds the first one -/
theorem c_isMany {w : World} {E : Value} {a0 a1 a2 : Addr} {c0 c1 c2 : Array Value} {t0 t1 t2 : TypeId} (n1 : a1 ≠ a0) (n2 : a2 ≠ a0) (b0 : w.heap[a0.block]? = some (.cells c0 t0 (0, 0))) (b1 : w.heap[a1.block]? = some (.cells c1 t1 (0, 0))) (b2 : w.heap[a2.block]? = some (.cells c2 t2 (0, 0)))
    (hE : E = .nilIface ∨ ∃ u, (u = .pointer (some a1) ∨ u = .pointer (some a2)) ∧ E = .iface 122 u) (n : Nat) :
    Calls Tryd.prog 37 #[E, .iface 122 (.pointer (some a0))] (w.drewN n) fun e w' => e = .returned (.bool false) ∧ ∃ m, w' = w.drewN m := by
  rcases hE with rfl | ⟨u, rfl | rfl, rfl⟩
  · exact (c_isNil a0 _).mono fun _ _ ⟨h, hw⟩ => ⟨h, n, hw⟩
  · exact (c_isOther a1 a0 _ _ _ _ (w.drewN n) n1 b1 b0).mono fun _ _ ⟨h, hw⟩ => ⟨h, n, hw⟩
  · exact (c_isOther a2 a0 _ _ _ _ (w.drewN n) n2 b2 b0).mono fun _ _ ⟨h, hw⟩ => ⟨h, n, hw⟩
theorem c_readerMany (x : ByteArray) (m : Nat) (h : m < x.size) (hm : m ≤ 9223372036854775807) (w : World) {p q r : Value} (he : ErrsE w p q r) : Calls Tryd.prog 23 #[.string x, .int .i64 m] w fun e w' => e = .returned (.pointer (some ⟨w.heap.size, 0, none⟩)) ∧ w' = w.alloc (.cells #[.string ⟨#[]⟩, .iface 122 p] 70) := by
  have h1 := he.1
  have h' : (m : Int) < (x.size : Int) := by omega
  clear h
  go_enter Tryd.func23, Tryd.ntmps23
  go_wp2_with fail
  go_ret
  exact ⟨rfl, rfl⟩
theorem c_entryErr (g : Nat) (x : Value) (t : TypeId) (v : Value) (w : World) (h : Blk w g 70 #[x, .iface t v]) :
    Calls Tryd.prog 36 #[.pointer (some ⟨g, 0, none⟩)] w fun e w' => e = .returned (.string ⟨#[]⟩) ∧ Below w.heap.size w w' := by
  have HI := Lib.hid (c_intErr g 4 x t v w h)
  have H := Lib.hid h
  clear h
  go_enter Tryd.func36, Tryd.ntmps36
  go_wp2_with fail
  refine HI.out.mono ?_
  rintro e w1 ⟨rfl, hb⟩
  have HB := Lib.hid hb
  clear hb
  go_wp2_with fail
  refine (c_takeErr g 0 _ _ _ _ (H.out.below HB.out)).mono ?_
  rintro e w2 ⟨rfl, rfl⟩
  go_wp2_with fail
  go_ret
  exact ⟨rfl, HB.out⟩
set_option maxRecDepth 20000 in
set_option maxHeartbeats 2000000 in
theorem c_takeEachSErr (g : Nat) (x : Value) (t : TypeId) (v : Value) (w : World) (h : Blk w g 70 #[x, .iface t v]) :
    Calls Tryd.prog 35 #[.pointer (some ⟨g, 0, none⟩), .int .i64 8, .func (.func 36) #[.pointer (some ⟨g, 0, none⟩)] #[]] w fun e w' => e = .returned (.slice none 0 0) ∧ Below w.heap.size w w' := by
  have H := Lib.hid h
  have HEN := Lib.hid (c_entryErr g x t v w h)
  clear h
  go_enter Tryd.func35, Tryd.ntmps35
  go_wp2_with fail
  go_loopw [7, 10] (fun sv iv wr => sv = .slice none 0 0 ∧ iv = .int .i64 0 ∧ wr = w) (fun _ _ _ => 0)
  case atStart => exact ⟨rfl, rfl, rfl⟩
  case round =>
    obtain ⟨rfl, rfl, rfl⟩ := hrel
    go_wp2_with (go_at_call 36; refine HEN.out.mono ?_; rintro e w5 ⟨rfl, b5⟩; have B5 := Lib.hid b5; have c5 := (H.out.below b5).cell 1; clear b5)
    go_ret
    exact ⟨rfl, B5.out⟩
/-- a list of texts and whether there is one -/
def RetE (b : Bool) (ts : List (List UInt8)) (w : World) (e : Ending) (w' : World) : Prop := ∃ a c, e = .returned (.tuple #[.slice a ts.length c, .bool b]) ∧ OwnS w' w.heap.size a c ts ∧ Below w.heap.size w w'
set_option maxRecDepth 20000 in
set_option maxHeartbeats 2000000 in
theorem t_iEntriesOf (x : ByteArray) (hx : x.size ≤ 1048576) (w : World) (he : ErrsP w) : Calls Tryd.prog 17 #[.string x] w (RetE (vEntriesOf x.data.toList).1 (vEntriesOf x.data.toList).2 w) := by
  obtain ⟨l, rfl⟩ : ∃ l : List UInt8, x = ⟨l.toArray⟩ := ⟨x.data.toList, by cases x; simp⟩
  have hsz := size_mk l
  rw [hsz] at hx
  simp only [List.toList_toArray]
  obtain ⟨a0, a1, a2, c0, c1, c2, t0, t1, t2, hE, n1, n2, b0, b1, b2⟩ := he
  unfold vEntriesOf
  have HE := Lib.hid hE
  have HP := Lib.hid (show w.heap[a0.block]? = some (.cells c0 t0 (0, 0)) ∧ w.heap[a1.block]? = some (.cells c1 t1 (0, 0)) ∧ w.heap[a2.block]? = some (.cells c2 t2 (0, 0)) from ⟨b0, b1, b2⟩)
  have HN := Lib.hid (show a1 ≠ a0 ∧ a2 ≠ a0 from ⟨n1, n2⟩)
  by_cases h4 : l.length ≤ 160032
  · rw [if_pos h4]
    have HR := Lib.hid (c_readerYes ⟨l.toArray⟩ 160032 (by rw [hsz]; exact h4) (by decide) w)
    have HA := Lib.hid (show Below w.heap.size w (w.alloc (.cells #[.string ⟨l.toArray⟩, .nilIface] 70)) from (Below.refl _ _).alloc (Nat.le_refl _) _)
    have HT := Lib.hid (c_takeEachS w.heap.size l _ _ _ _ (Blk.new w 70 #[.string ⟨l.toArray⟩, .nilIface]) hx (hE.kept HA.out))
    clear hE n1 n2 b0 b1 b2 h4 hx
    go_enter Tryd.func17, Tryd.ntmps17
    go_wp2_with (go_at_call 23; refine HR.out.mono ?_; rintro e w1 ⟨rfl, rfl⟩)
    refine HT.out.mono ?_
    rintro e w2 ⟨b, c, rfl, ho, ⟨x2, E, hE, hB⟩, hG⟩
    have HO := Lib.hid (show OwnS w2 w.heap.size b c (entL 8 l) from ownS_base ho (by rw [World.size_alloc]; omega))
    have HB2 := Lib.hid (show Below w.heap.size w w2 from ⟨hG.os, hG.tape, hG.output, by have := hG.size; rw [World.size_alloc] at this; omega, fun j hj => (hG.block j (by rw [World.size_alloc]; omega) (fun e => by have := Option.some.inj e; omega)).trans (HA.out.block j hj)⟩)
    obtain ⟨b0, b1, b2⟩ := HP.out
    have hk := fun {j : Nat} {o : Obj} (h : w.heap[j]? = some o) => (HB2.out.block j (Array.getElem?_eq_some_iff.1 h).1).trans h
    have HI := Lib.hid (fun n => c_isMany (w := w2) HN.out.1 HN.out.2 (hk b0) (hk b1) (hk b2) hE n)
    have hc0 := (HE.out.kept HB2.out).1
    have hc1 := hB.cell 1
    have hc1' : w2.cell? ⟨w.heap.size, 1, none⟩ = some E := hc1
    clear hE hB hG ho b0 b1 b2 hk hc1
    go_wp2_with fail
    go_quiet ((go_at_call 37; exact HI.out _))
    have HB3 := Lib.hid (Below.next HB2.out (Drawn.mk w2 nq).below)
    have HO3 := Lib.hid (HO.out.kept (Drawn.mk w2 nq).below)
    generalize w2.drewN nq = w3 at HB3 HO3 ⊢
    clear hc0 hc1'
    go_wp2_with fail
    go_ret2
    exact ⟨b, c, rfl, HO3.out, HB3.out⟩
  · rw [if_neg h4]
    have HR := Lib.hid (c_readerMany ⟨l.toArray⟩ 160032 (by rw [hsz]; omega) (by decide) w hE)
    have HA := Lib.hid (show Below w.heap.size w (w.alloc (.cells #[.string ⟨#[]⟩, .iface 122 (.pointer (some a0))] 70)) from (Below.refl _ _).alloc (Nat.le_refl _) _)
    have HX := Lib.hid (Blk.new w 70 #[.string ⟨#[]⟩, .iface 122 (.pointer (some a0))])
    have HT := Lib.hid (c_takeEachSErr w.heap.size _ _ _ _ HX.out)
    clear hE n1 n2 b0 b1 b2 h4 hx
    go_enter Tryd.func17, Tryd.ntmps17
    go_wp2_with (go_at_call 23; refine HR.out.mono ?_; rintro e w1 ⟨rfl, rfl⟩)
    refine HT.out.mono ?_
    rintro e w2 ⟨rfl, hb⟩
    have HB2 := Lib.hid (show Below w.heap.size w w2 from HA.out.trans (hb.mono (by rw [World.size_alloc]; omega)))
    have hc0 := (HE.out.kept HB2.out).1
    have hc1' : w2.cell? ⟨w.heap.size, 1, none⟩ = some (.iface 122 (.pointer (some a0))) := (HX.out.below hb).cell 1
    have HI := Lib.hid (fun n => (c_isSame a0 (w2.drewN n)).mono (R' := fun e w' => e = .returned (.bool true) ∧ ∃ m, w' = w2.drewN m) fun _ _ ⟨h, hw⟩ => ⟨h, n, hw⟩)
    clear hb
    go_wp2_with fail
    go_quiet ((go_at_call 37; exact HI.out _))
    have HB3 := Lib.hid (Below.next HB2.out (Drawn.mk w2 nq).below)
    generalize w2.drewN nq = w3 at HB3 ⊢
    clear hc0 hc1'
    go_wp2_with fail
    go_ret2
    exact ⟨none, 0, rfl, nil_ownS _ _, HB3.out⟩
end Go.Proofs.YtpfbhckmpkiijaaDoor
