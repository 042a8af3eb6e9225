/-
  The entries that the program takes. Conditions: the errors lie where the row says.
-/
import Derived.Test.YtpfbhckmpkiijaaDoorErp
import Derived.Test.YtpfbhckmpkiijaaDoorMks
namespace Go.Proofs.YtpfbhckmpkiijaaDoor
open Go.RowKit Go.Deep Go.WideShapes Go.ChangeShapes
set_option linter.unusedVariables false
set_option linter.unusedSimpArgs false

theorem ownS_grown {w w' : World} {g B : Nat} {b : Option Addr} {cp : Nat} {ls : List (List UInt8)} (h : OwnS w B b cp ls) (hg : g < B) (h5 : w.grownBy w' (some g)) : OwnS w' B b cp ls := by
  refine World.ownsRow.kept h (row := some g) h5 (.inr (fun e => ?_))
  rw [ownBlock_slice] at e
  have := (h.lt g e).1
  omega
/-- so many entries are taken -/
def SeRel (l : List UInt8) (g : Nat) (w : World) (sv iv : Value) (wr : World) : Prop :=
  ∃ (k : Nat) (acc : List (List UInt8)) (rest : List UInt8) (b : Option Addr) (cp : Nat), EntAt l k acc rest ∧ iv = .int .i64 k ∧ sv = .slice b acc.length cp ∧ OwnS wr w.heap.size b cp acc ∧ IsR wr g rest ∧ w.grownBy wr (some g)
theorem se_next {l : List UInt8} {g k cp : Nat} {acc : List (List UInt8)} {rest : List UInt8} {w wr w5 w' : World} {b : Option Addr} {v' iv : Value} (hgw : g < w.heap.size) (hA : EntAt l k acc rest) (hk : k < 8) (hr : entOk rest = true) (hiv : iv = .int .i64 ((k : Int) + 1))
    (hG : w.grownBy wr (some g)) (hR : ReadOn wr g (entRest rest) w5) (hO5 : OwnS w5 w.heap.size b cp acc)
    (hown : w'.ownsRow w.heap.size 9 1 v' (acc.length + 1) ((acc.map fun l => Value.string (strB l)) ++ [.string (strB (entHead rest))])) (hgr : (w5.alloc (.cells #[.string (strB (entHead rest))] 9)).grownBy w' (Value.ownBlock (.slice b acc.length cp))) : SeRel l g w v' iv w' := by
  obtain ⟨a', c', rfl⟩ := ownsRow_slice hown
  rw [ownBlock_slice] at hgr
  have h5 := grown_both hG hR.2
  have hlt : ∀ j, blk b = some j → w.heap.size ≤ j := fun j hj => (hO5.lt j hj).1
  have ba : Below w5.heap.size w5 (w5.alloc (.cells #[.string (strB (entHead rest))] 9)) := (Below.refl _ _).alloc (Nat.le_refl _) _
  have hs5 := h5.size
  have hsz := hgr.size
  rw [World.size_alloc] at hsz
  have hbl : ∀ j, j < w.heap.size → w'.heap[j]? = w5.heap[j]? := fun j hj => (hgr.block j (by rw [World.size_alloc]; omega) (fun e => by have := hlt j e.symm; omega)).trans (ba.block j (by omega))
  refine ⟨k + 1, acc ++ [entHead rest], entRest rest, a', c', hA.next hk hr, hiv.trans rfl, by simp, ?_, (hbl g hgw).trans hR.1, ?_⟩
  · unfold OwnS
    rw [List.map_append, List.length_append]
    exact hown
  · exact ⟨(hgr.os.trans ba.os).trans h5.os, (hgr.tape.trans ba.tape).trans h5.tape, (hgr.output.trans ba.output).trans h5.output, by omega, fun j hj hne => (hbl j hj).trans (h5.block j hj hne)⟩
/-- what the reader holds when no more entries are taken -/
def ReadEnd (w : World) (g : Nat) (q r : Value) (w' : World) : Prop := (∃ x E, (E = .nilIface ∨ ∃ u, (u = q ∨ u = r) ∧ E = .iface 122 u) ∧ Blk w' g 70 #[.string x, E]) ∧ w.grownBy w' (some g)
set_option maxRecDepth 20000 in
set_option maxHeartbeats 4000000 in
theorem c_takeEachS (g : Nat) (l : List UInt8) (p q r : Value) (w : World) (h : IsR w g l) (hl : l.length ≤ 1048576) (he : ErrsE w p q r) :
    Calls Tryd.prog 35 #[.pointer (some ⟨g, 0, none⟩), .int .i64 8, .func (.func 36) #[.pointer (some ⟨g, 0, none⟩)] #[]] w fun e w' =>
      ∃ b c, e = .returned (.slice b (entL 8 l).length c) ∧ OwnS w' w.heap.size b c (entL 8 l) ∧ ReadEnd w g q r w' := by
  obtain ⟨i0, hi, hz0, hz1, hz2⟩ := info_parts info_strC
  have JI := Lib.hid hi
  have HZ0 := Lib.hid hz0
  have HZ1 := Lib.hid hz1
  have HZ2 := Lib.hid hz2
  have H := Lib.hid h
  have HE := Lib.hid he
  have HL := Lib.hid hl
  have hgw : g < w.heap.size := Blk.lt h
  clear hi hz0 hz1 hz2 h hl he
  go_enter Tryd.func35, Tryd.ntmps35
  go_wp2_with fail
  go_loopw [7, 10] (fun sv iv wr => SeRel l g w sv iv wr) (fun _ iv _ => 8 - (intOf iv).toNat)
  case atStart => exact ⟨0, [], l, none, 0, EntAt.start l, rfl, rfl, nil_ownS _ _, H.out, grown_refl _ _⟩
  case round =>
    obtain ⟨k, acc, rest, b, cp, hA, rfl, rfl, ho, hR, hG⟩ := hrel
    have HO := Lib.hid ho
    have HG := Lib.hid hG
    have HR := Lib.hid hR
    have HA := Lib.hid hA
    have hk8 := hA.1
    have hal := hA.2.1
    have hrl : rest.length ≤ 1048576 := by obtain ⟨_, _, _, p', hp, rfl⟩ := hA; rw [List.length_drop]; have := HL.out; omega
    clear ho hR hG hA
    by_cases hlt : k < 8
    · have hlt' : (k : Int) < 8 := by omega
      cases hr : entOk rest with
      | true =>
        have HK := Lib.hid hr
        have HEN := Lib.hid (c_entryYes g rest wr HR.out hr hrl)
        have A1 := Lib.hid (show acc.length + 1 ≤ maxLen by unfold maxLen; omega)
        have A2 := Lib.hid (show (acc.length + 1) * 16 ≤ 140737488355328 by omega)
        clear hr hrl hal
        go_wp2_with (first
          | (go_at_call 36; refine HEN.out.mono ?_; rintro e w5 ⟨rfl, hg5⟩; have HG5 := Lib.hid hg5; have c5 := Blk.cell hg5.1 1; have HO5 := Lib.hid (ownS_grown HO.out hgw hg5.2); have HS5 := Lib.hid (show w.heap.size ≤ (w5.alloc (.cells #[.string (strB (entHead rest))] 9)).heap.size by have h1 := hg5.2.size; have h2 := HG.out.size; rw [World.size_alloc]; omega); clear hg5)
          | (at_builtin; refine wpList_append_any _ rfl (.tmp 19) (.tmp 21) 36 rfl w.heap.size 9 i0 (.string ByteArray.empty) 1 16 Tryd.underlying36 JI.out HZ0.out HZ1.out HZ2.out rfl Nat.one_pos (.slice b acc.length cp) acc.length (acc.map fun l => Value.string (strB l)) rfl (strC_own HO5.out) _ (some ⟨w5.heap.size, 0, none⟩) 1 1 [.string (strB (entHead rest))] rfl str_reads (one_str _) A1.out A2.out HS5.out ?_; intro v' w' hown hgr _))
        go_roundw
        case rel => exact se_next hgw HA.out hlt HK.out (by go_num) HG.out HG5.out HO5.out hown hgr
        case measure => simp [intOf]; omega
      | false =>
        have HK := Lib.hid hr
        have HEN := Lib.hid (fun he => c_entryNo g rest p q r wr HR.out hr hrl he)
        clear hr hrl hal
        go_wp2_with (go_at_call 36; refine (HEN.out (HE.out.grown H.out HG.out)).mono ?_; rintro e w5 ⟨rfl, hg5⟩; have HG5 := Lib.hid hg5; obtain ⟨⟨x5, u5, hu5, hb5⟩, hg6⟩ := hg5; have HU5 := Lib.hid hu5; have HB5 := Lib.hid hb5; have HG6 := Lib.hid hg6; have c5 := Blk.cell hb5 1; have HO5 := Lib.hid (ownS_grown HO.out hgw hg6); clear hu5 hb5 hg6)
        go_ret
        have hx := HA.out.stop HK.out
        subst hx
        exact ⟨b, cp, rfl, HO5.out, ⟨x5, _, .inr ⟨u5, HU5.out, rfl⟩, HB5.out⟩, grown_both HG.out HG6.out⟩
    · obtain rfl : k = 8 := by omega
      have hx := HA.out.all
      subst hx
      clear hal hrl
      go_wp2_with fail
      go_ret
      exact ⟨b, cp, rfl, HO.out, ⟨_, _, .inl rfl, HR.out⟩, HG.out⟩
end Go.Proofs.YtpfbhckmpkiijaaDoor
