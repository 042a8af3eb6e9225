/-
  BytesNumbers: what the program answers. Conditions: at most 2 ^ 20 bytes; the reader's errors are there.
-/
import Derived.Test.YtpfbhckmpkiijaaDoorRdy
import Derived.Test.YtpfbhckmpkiijaaDoorNby
namespace Go.Proofs.YtpfbhckmpkiijaaDoor
open Go.RowKit Go.Deep Go.WideShapes Go.ChangeShapes
set_option linter.unusedVariables false
set_option linter.unusedSimpArgs false
attribute [local go_sem] World.drewN_zero

theorem c_numErr (g : Nat) (x : Value) (t : TypeId) (v : Value) (w : World) (h : Blk w g 70 #[x, .iface t v]) :
    Calls Tryd.prog 44 #[.pointer (some ⟨g, 0, none⟩)] w fun e w' => e = .returned (.float .f32 0) ∧ Below w.heap.size w w' := by
  have HI := Lib.hid (c_intErr g 4 x t v w h)
  clear h
  go_enter Tryd.func44, Tryd.ntmps44
  go_wp2_with (first | (go_at_call 53; refine HI.out.mono ?_; rintro e w' ⟨rfl, b⟩; have B := Lib.hid b; clear b) | go_in)
  go_ret
  exact ⟨by first | rfl | simp, B.out⟩
set_option maxRecDepth 20000 in
set_option maxHeartbeats 2000000 in
theorem c_takeEachErr (g n : Nat) (x : Value) (t : TypeId) (v : Value) (w : World) (h : Blk w g 70 #[x, .iface t v]) (hn : n ≤ 1048576) :
    Calls Tryd.prog 43 #[.pointer (some ⟨g, 0, none⟩), .int .i64 n, .func (.func 44) #[.pointer (some ⟨g, 0, none⟩)] #[]] w fun e w' => e = .returned (.slice none 0 0) ∧ Below w.heap.size w w' := by
  have H := Lib.hid h
  have HNUM := Lib.hid (fun W (hb : Below w.heap.size w W) => c_numErr g x t v W (h.below hb))
  have hn1 : (n : Int) ≤ 1048576 := by omega
  clear h hn
  go_enter Tryd.func43, Tryd.ntmps43
  go_wp2_with fail
  go_loopw [7, 10] (fun sv iv wr => sv = .slice none 0 0 ∧ iv = .int .i64 0 ∧ wr = w) (fun _ _ _ => 0)
  case atStart => exact ⟨rfl, rfl, rfl⟩
  case round =>
    obtain ⟨rfl, rfl, rfl⟩ := hrel
    by_cases h0 : n = 0
    · subst h0
      go_wp2_with fail
      go_ret
      exact ⟨rfl, Below.refl _ _⟩
    · have h0' : (0 : Int) < (n : Int) := by omega
      go_wp2_with (go_at_call 44; refine (HNUM.out _ (Below.refl _ _)).mono ?_; rintro e w5 ⟨rfl, b5⟩; have B5 := Lib.hid b5; have c5 := (H.out.below b5).cell 1; clear b5)
      go_ret
      exact ⟨rfl, B5.out⟩
theorem c_numsYes (g n : Nat) (l : List UInt8) (w : World) (h : IsR w g l) (hn : 4 * n ≤ l.length) (hl : l.length ≤ 16384) :
    Calls Tryd.prog 24 #[.pointer (some ⟨g, 0, none⟩), .int .i64 n] w fun e w' =>
      ∃ b c, e = .returned (.slice b (numsB l n).length c) ∧ OwnF w' w.heap.size b c (numsB l n) ∧ Gone4 w g w.heap.size (l.drop (4 * n)) w' ∧ w.heap.size ≤ w'.heap.size := by
  have HT := Lib.hid (c_takeEachF g n l w h hn hl)
  clear h hn hl
  have hmf : ∀ (fn : Fn) (first cap : Array Value) (w : World), (Instr.makeFunc fn first cap).run Tryd.prog w = .ok (.func fn first cap) w := fun _ _ _ _ => rfl
  go_enter Tryd.func24, Tryd.ntmps24
  go_wp2_with (go_at_call 43; refine HT.out.mono ?_; rintro e w' ⟨b, c, rfl, h1, h2⟩; have H1 := Lib.hid h1; have H2 := Lib.hid h2; clear h1 h2)
  go_ret
  exact ⟨b, c, rfl, H1.out, H2.out⟩
theorem c_numsErr (g n : Nat) (x : Value) (t : TypeId) (v : Value) (w : World) (h : Blk w g 70 #[x, .iface t v]) (hn : n ≤ 1048576) :
    Calls Tryd.prog 24 #[.pointer (some ⟨g, 0, none⟩), .int .i64 n] w fun e w' => e = .returned (.slice none 0 0) ∧ Below w.heap.size w w' := by
  have HT := Lib.hid (c_takeEachErr g n x t v w h hn)
  clear h hn
  have hmf : ∀ (fn : Fn) (first cap : Array Value) (w : World), (Instr.makeFunc fn first cap).run Tryd.prog w = .ok (.func fn first cap) w := fun _ _ _ _ => rfl
  go_enter Tryd.func24, Tryd.ntmps24
  go_wp2_with (go_at_call 43; refine HT.out.mono ?_; rintro e w' ⟨rfl, h1⟩; have H1 := Lib.hid h1; clear h1)
  go_ret
  exact ⟨rfl, H1.out⟩
theorem gone_new {w w' : World} {x y E : Value} {t : TypeId} (h : Below (w.alloc (.cells #[x, E] t)).heap.size ((w.alloc (.cells #[x, E] t)).setCell ⟨w.heap.size, 0, none⟩ y) w') : Below w.heap.size w w' := by
  have h1 : Below w.heap.size w ((w.alloc (.cells #[x, E] t)).setCell ⟨w.heap.size, 0, none⟩ y) := ((Below.refl _ w).alloc (Nat.le_refl _) _).setCell (p := ⟨w.heap.size, 0, none⟩) (Nat.le_refl _) _
  exact h1.trans (h.mono (by rw [World.size_alloc]; omega))
set_option maxRecDepth 20000 in
set_option maxHeartbeats 2000000 in
theorem t_iBytesNumbers (x : ByteArray) (hx : x.size ≤ 1048576) (w : World) (he : ErrsR w) : Calls Tryd.prog 7 #[.string x] w (RetL (vBytesNumbers x.data.toList).1 (vBytesNumbers x.data.toList).2 w) := by
  obtain ⟨l, rfl⟩ : ∃ l : List UInt8, x = ⟨l.toArray⟩ := ⟨x.data.toList, by cases x; simp⟩
  have hsz := size_mk l
  rw [hsz] at hx
  simp only [List.toList_toArray]
  obtain ⟨n, hn⟩ : ∃ n, l.length / 4 = n := ⟨_, rfl⟩
  have hq : (l.length : Int) / 4 = (n : Int) := by omega
  have hq' : (l.length : Int).tdiv 4 = (n : Int) := by rw [Int.tdiv_eq_ediv_of_nonneg (by omega)]; exact hq
  have hl0 : (0 : Int) ≤ (l.length : Int) := by omega
  have hl1 : (l.length : Int) ≤ 1048576 := by omega
  by_cases h4 : l.length ≤ 16384
  · have HR := Lib.hid (c_readerYes ⟨l.toArray⟩ 16384 (by rw [hsz]; exact h4) (by decide) w)
    have HNS := Lib.hid (c_numsYes w.heap.size n l (w.alloc (.cells #[.string ⟨l.toArray⟩, .nilIface] 70)) (Blk.new w _ _) (by omega) h4)
    have HNL := Lib.hid (numsB_length l n)
    have h46 : n ≤ 4096 := by omega
    have H4 := Lib.hid h4
    clear he hx h4
    go_enter Tryd.func7, Tryd.ntmps7
    go_wp2_with (go_at_call 23; refine HR.out.mono ?_; rintro e w1 ⟨rfl, rfl⟩)
    refine HNS.out.mono ?_
    rintro e w2 ⟨b, c, rfl, ho, hg, hB⟩
    have HO := Lib.hid (OwnF.base ho (show w.heap.size ≤ _ by rw [World.size_alloc]; omega))
    have HB := Lib.hid (gone_new hg)
    have hf := ho.isFloats
    have HNB := Lib.hid (t_iNumbersBytes (numsB l n) b c w2 hf)
    have hyes : vNumbersBytes (numsB l n) = (⟨(nb (numsB l n)).toArray⟩, true) := by unfold vNumbersBytes; rw [if_pos (by rw [HNL.out]; exact h46)]
    rw [hyes] at HNB
    clear ho hg hB hf hyes HNS HR
    go_wp2_with fail
    refine HNB.out.mono ?_
    rintro e w3 ⟨rfl, b3⟩
    have B3 := Lib.hid b3
    clear b3
    cases hb : (nb (numsB l n) == l) with
    | true =>
      have hv : vBytesNumbers l = (true, (numsB l n).map (canon .f32)) := by
        unfold vBytesNumbers
        rw [if_pos (by simp only [okBN, hn, Bool.and_eq_true, decide_eq_true_eq]; exact ⟨H4.out, by simpa using hb⟩), hn]
      have HV := Lib.hid hv
      clear hv
      go_wp2_with fail
      go_ret2
      rw [HV.out]
      exact ⟨b, c, numsB l n, rfl, HO.out.kept B3.out, rfl, Below.next HB.out B3.out⟩
    | false =>
      have hv : vBytesNumbers l = (false, []) := by
        unfold vBytesNumbers
        rw [if_neg (by simp only [okBN, hn, Bool.and_eq_true, decide_eq_true_eq]; rintro ⟨_, h2⟩; rw [h2] at hb; simp at hb)]
      have HV := Lib.hid hv
      clear hv
      go_wp2_with fail
      go_ret2
      rw [HV.out]
      exact ⟨none, 0, [], rfl, ⟨World.ownsRow_nil _ _ _ _, fun y hy => by cases hy⟩, rfl, Below.next HB.out B3.out⟩
  · have HR := Lib.hid (c_readerNo ⟨l.toArray⟩ 16384 (by rw [hsz]; omega) (by decide) w he)
    have hv : vBytesNumbers l = (false, []) := by
      unfold vBytesNumbers
      rw [if_neg (by simp only [okBN, Bool.and_eq_true, decide_eq_true_eq]; rintro ⟨h1, _⟩; exact h4 h1)]
    rw [hv]
    have hne : ¬ l = [] := fun e => by rw [e] at h4; simp at h4
    have hb1 : (([] : List UInt8) == l) = false := by
      cases l with
      | nil => exact absurd rfl hne
      | cons c l => rfl
    have hb2 : l.isEmpty = false := by
      cases l with
      | nil => exact absurd rfl hne
      | cons c l => rfl
    have hn1 : n ≤ 1048576 := by omega
    clear he hx h4 hv
    go_enter Tryd.func7, Tryd.ntmps7
    go_wp2_with fail
    refine HR.out.mono ?_
    rintro e w1 ⟨t, v, rfl, rfl⟩
    have HNS := Lib.hid (c_numsErr w.heap.size n _ t v (w.alloc (.cells #[.string ⟨#[]⟩, .iface t v] 70)) (Blk.new w _ _) hn1)
    have B1 := Lib.hid ((Below.refl _ w).alloc (Nat.le_refl _) (.cells #[.string ⟨#[]⟩, .iface t v] 70))
    clear HR
    go_wp2_with fail
    refine HNS.out.mono ?_
    rintro e w2 ⟨rfl, b2⟩
    have B2 := Lib.hid (Below.next B1.out b2)
    have HNB := Lib.hid (t_iNumbersBytes [] none 0 w2 (OwnF.isFloats (B := 0) ⟨World.ownsRow_nil _ _ _ _, fun y hy => by cases hy⟩))
    have hyes : vNumbersBytes [] = (⟨#[]⟩, true) := by rfl
    rw [hyes] at HNB
    clear b2 hyes HNS B1
    go_wp2_with fail
    refine HNB.out.mono ?_
    rintro e w3 ⟨rfl, b3⟩
    have B3 := Lib.hid (Below.next B2.out b3)
    clear b3
    go_wp2_with fail
    go_ret2
    exact ⟨none, 0, [], rfl, ⟨World.ownsRow_nil _ _ _ _, fun y hy => by cases hy⟩, rfl, B3.out⟩
end Go.Proofs.YtpfbhckmpkiijaaDoor
