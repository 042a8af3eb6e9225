/-
  RecoverJournal: the program's. Conditions: the text has at most 2 ^ 20 bytes, the table of powers of ten is as its initialiser lays it.
-/
import Derived.Test.YtokminhnkmhneaaDoorRcv
import Derived.Test.YtokminhnkmhneaaDoorJni
import Derived.Test.YtokminhnkmhneaaDoorSip
import Derived.ScopeJumps
import Derived.WalkMore
namespace Go.Proofs.YtokminhnkmhneaaDoor
open Go.RowKit Go.Deep Go.WideShapes Go.ChangeShapes
set_option linter.unusedVariables false
set_option linter.unusedSimpArgs false
attribute [local go_sem] txt_size

theorem scope_loop {P : Program} {a : Act} {w : World} {Q : Exit → Act → World → Prop} {c rest : Code} (l : Nat) (J : Act → World → Prop) (μ : Act → World → Nat) (hf : findLabel c l = some (Code.seq Code.skip rest))
    (pass : ∀ a w, J a w → rest.wp P (Exit.jump l (fun a' w' => J a' w' ∧ μ a' w' < μ a w) Q) a w)
    (first : (∀ a w, J a w → rest.wp P (Exit.jump l J Q) a w) → c.wp P (Exit.jump l J Q) a w) : (Code.scope c).wp P Q a w :=
  wp_scope_jumps l J μ hf (first fun a w h => wp_mono (pass a w h) (fun e a w hq => by cases e <;> first | exact hq | exact ⟨hq.1, hq.2.1⟩)) (fun a w h => wp_seq (wp_skip (pass a w h)))
theorem c_cutNl (x : ByteArray) (hx : x.size ≤ 1048576) (w : World) (hm : MaxOk w) : Calls Tryd.prog 78 #[.string x, .string ⟨#[10]⟩] w fun e w' => ∃ u v, e = .returned (.tuple #[.string (strB (headL x.data.toList)), .string u, .bool v]) ∧ Below w.heap.size w w' := by
  obtain ⟨m, hm⟩ := hm
  refine (Any.strings_Cut lays145 x ⟨#[10]⟩ m w (by omega) hm).mono ?_
  rintro e w' ⟨rfl, n, rfl⟩
  exact ⟨_, _, rfl, Drawn.below ⟨n, rfl⟩⟩
theorem c_cutSp (l : List UInt8) (hx : l.length ≤ 1048576) (w : World) (hm : MaxOk w) : Calls Tryd.prog 78 #[.string (strB l), .string ⟨#[32]⟩] w fun e w' => ∃ u v, e = .returned (.tuple #[.string u, .string (strB (bodyL l)), .bool v]) ∧ Below w.heap.size w w' := by
  obtain ⟨m, hm⟩ := hm
  refine (Any.strings_Cut lays145 (strB l) ⟨#[32]⟩ m w (by rw [strB_size]; omega) hm).mono ?_
  rintro e w' ⟨rfl, n, rfl⟩
  rw [strB_list]
  exact ⟨_, _, rfl, Drawn.below ⟨n, rfl⟩⟩
theorem c_hasPre (x y : ByteArray) (w : World) : Calls Tryd.prog 79 #[.string x, .string y] w fun e w' => e = .returned (.bool (Lib.hasPrefix x.data.toList y.data.toList)) ∧ w = w' := by
  refine (Any.strings_HasPrefix lays99 x y w).mono ?_
  rintro e w' ⟨rfl, rfl⟩
  exact ⟨rfl, rfl⟩
theorem headL_len (t : List UInt8) : (headL t).length ≤ t.length := by
  unfold headL Lib.cut
  split
  · simp
    omega
  · exact Nat.le_refl _
theorem bodyL_len (t : List UInt8) : (bodyL t).length ≤ t.length := by
  unfold bodyL Lib.cut
  split
  · simp
  · simp
/-- lines, length and ok -/
def RetRec (x : ByteArray) (w : World) (e : Ending) (w' : World) : Prop :=
  ∃ a c ls, e = .returned (.tuple #[.slice a (List.length ls) c, .int .i64 ((vRec x.data.toList).2.1 : Nat), .bool (vRec x.data.toList).2.2]) ∧ OwnS w' w.heap.size a c ls ∧ ls = (vRec x.data.toList).1 ∧ Below w.heap.size w w'
/-- what holds at the label -/
def RcJ (x : ByteArray) (w : World) (a' : Act) (wr : World) : Prop :=
  ∃ (a : Option Addr) (k cc : Nat) (c : Int) (r : ByteArray) (ls : List (List UInt8)) (u1 u8 u9 u10 u11 u12 u13 u14 u15 u16 u17 u18 u19 u20 u21 u22 u23 u24 u25 u26 u27 u28 u29 u30 u31 u32 u33 u34 u35 u36 u37 u38 u39 u40 u41 u42 u43 u44 u45 u46 u47 u48 u49 u50 u51 u52 u53 u54 u55 : Value), a' = { tmps := #[.string x, u1, .slice none 0 0, .int .i64 0, .bool false, .slice a k cc, .int .i64 c, .string r, u8, u9, u10, u11, u12, u13, u14, u15, u16, u17, u18, u19, u20, u21, u22, u23, u24, u25, u26, u27, u28, u29, u30, u31, u32, u33, u34, u35, u36, u37, u38, u39, u40, u41, u42, u43, u44, u45, u46, u47, u48, u49, u50, u51, u52, u53, u54, u55], defers := [] } ∧ Hid (ls.length = k ∧ k + r.size ≤ x.size ∧ 0 ≤ c ∧ c ≤ 65002 ∧ OwnS wr w.heap.size a cc ls ∧ Below w.heap.size w wr ∧ (recT 0 x.data.toList).1 = ls ++ (recT c r.data.toList).1 ∧ (recT 0 x.data.toList).2 + r.size = x.size + (recT c r.data.toList).2)
set_option maxRecDepth 20000 in
set_option maxHeartbeats 4000000 in
theorem t_iRecoverJournal (x : ByteArray) (hx : x.size ≤ 1048576) (w : World) (ht : TabOk w) (hm : MaxOk w) : Calls Tryd.prog 40 #[.string x] w (RetRec x w) := by
  obtain ⟨i0, hi, hz0, hz1, hz2⟩ := info_parts info_strC
  have JI := Lib.hid hi
  have HZ0 := Lib.hid hz0
  have HZ1 := Lib.hid hz1
  have HZ2 := Lib.hid hz2
  have HT := Lib.hid ht
  have HM := Lib.hid hm
  have HXL := Lib.hid (show x.data.toList.length = x.size from Array.length_toList)
  clear hi hz0 hz1 hz2 ht hm
  by_cases h8 : x.size ≤ 8000
  case neg =>
    have HV := Lib.hid (show vRec x.data.toList = ([], 0, false) from if_neg (by rw [HXL.out]; exact h8))
    have h8' : (8000 : Int) < (x.size : Int) := by omega
    clear h8
    go_enter Tryd.func40, Tryd.ntmps40
    go_wp2_with fail
    apply wp_scope_straight
    go_wp2_with fail
    simp only [Exit.noGoto_ret]
    go_ret3
    exact ⟨none, 0, [], by rw [HV.out]; rfl, nil_ownS _ _, by rw [HV.out], Below.refl _ _⟩
  case pos =>
    have HV := Lib.hid (show vRec x.data.toList = ((recT 0 x.data.toList).1, (recT 0 x.data.toList).2, true) from if_pos (by rw [HXL.out]; exact h8))
    have h8' : ¬ (8000 : Int) < (x.size : Int) := by omega
    clear h8
    go_enter Tryd.func40, Tryd.ntmps40
    go_wp2_with fail
    refine scope_loop 0 (RcJ x w) (fun a' _ => match a'.tmps.getD 7 undef with | .string r => r.size | _ => 0) rfl ?pass ?first
    case first =>
      intro hrest
      go_wp2_with fail
      go_step3
      rename_i K hK
      show K _ _
      refine hK _ _ ?_
      refine hrest _ _ ⟨none, 0, 0, 0, x, [], _, _, _, _, _, _, _, _, _, _, _, _, _, _, _, _, _, _, _, _, _, _, _, _, _, _, _, _, _, _, _, _, _, _, _, _, _, _, _, _, _, _, _, _, _, _, _, _, _, rfl, Lib.hid ⟨rfl, by omega, by decide, by decide, nil_ownS _ _, Below.refl _ _, rfl, by omega⟩⟩
    case pass =>
      rintro a' wr ⟨a, k, cc, c, r, ls, u1, u8, u9, u10, u11, u12, u13, u14, u15, u16, u17, u18, u19, u20, u21, u22, u23, u24, u25, u26, u27, u28, u29, u30, u31, u32, u33, u34, u35, u36, u37, u38, u39, u40, u41, u42, u43, u44, u45, u46, u47, u48, u49, u50, u51, u52, u53, u54, u55, rfl, hj⟩
      obtain ⟨hlk, hkr, hc0, hc1, ho, hb, e1, e2⟩ := hj.out
      have HLK := Lib.hid hlk
      have HKR := Lib.hid hkr
      have HO := Lib.hid ho
      have HL := Lib.hid hb
      have E1 := Lib.hid e1
      have E2 := Lib.hid e2
      have HRL := Lib.hid (show r.data.toList.length = r.size from Array.length_toList)
      have HX8 := Lib.hid (show x.size ≤ 8000 by have := h8'; omega)
      have HC1 := Lib.hid (c_cutNl r (by have := HX8.out; omega) wr (HM.out.kept hb))
      have hc0' : 0 ≤ c := hc0
      have HCB := Lib.hid (And.intro hc0 hc1)
      have HTR := Lib.hid (HT.out.kept hb)
      clear hj hlk hkr hc0 hc1 ho hb e1 e2 hc0'
      go_wp2_with fail
      refine HC1.out.mono ?_
      rintro e w2 ⟨u, v, rfl, hb⟩
      have B2 := Lib.hid (Below.next HL.out hb)
      have O2 := Lib.hid (HO.out.kept hb)
      clear hb HO
      go_wp2_with fail
      refine (c_cutSp (headL r.data.toList) (by have := headL_len r.data.toList; have := HRL.out; have := HX8.out; have := HKR.out; omega) w2 (HM.out.kept B2.out)).mono ?_
      rintro e w3 ⟨u', v', rfl, hb⟩
      have B3 := Lib.hid (Below.next B2.out hb)
      have O3 := Lib.hid (O2.out.kept hb)
      clear hb O2
      obtain ⟨bb, hbb⟩ : ∃ bb, bodyL (headL r.data.toList) = bb := ⟨_, rfl⟩
      have HBB := Lib.hid hbb
      have HBL := Lib.hid (show bb.length ≤ 8000 by rw [← hbb]; have := bodyL_len (headL r.data.toList); have := headL_len r.data.toList; have := HRL.out; have := HX8.out; have := HKR.out; omega)
      rw [hbb]
      clear hbb
      go_wp2_with fail
      refine (c_journalLine c (strB bb) w3 HCB.out.1 HCB.out.2 (by rw [strB_size]; have := HBL.out; omega) (HT.out.kept B3.out)).mono ?_
      rintro e w4 ⟨rfl, hb⟩
      have B4 := Lib.hid (Below.next B3.out hb)
      have O4 := Lib.hid (O3.out.kept hb)
      clear hb O3
      rw [strB_list]
      have hjl := jline_len HCB.out.1 HCB.out.2 bb
      have HCK := Lib.hid (chk_bd HCB.out.1 HCB.out.2 bb)
      obtain ⟨p, hp⟩ : ∃ p, jline c bb = p := ⟨_, rfl⟩
      obtain ⟨c', hc'⟩ : ∃ c', chk c bb = c' := ⟨_, rfl⟩
      have HP := Lib.hid hp
      have HC' := Lib.hid hc'
      rw [hp] at hjl ⊢
      rw [hc'] at HCK ⊢
      have HJL := Lib.hid hjl
      have HPR := Lib.hid (c_hasPre r (strB p) w4)
      rw [strB_list] at HPR
      have HSP := Lib.hid (show (⟨p.toArray⟩ : ByteArray) = strB p from rfl)
      clear hp hc' hjl
      rw [HSP.out]
      cases hpre : Lib.hasPrefix r.data.toList p with
      | false =>
        have HN := Lib.hid (recT_no (c := c) (t := r.data.toList) (by rw [HBB.out, HP.out]; exact hpre))
        rw [hpre] at HPR
        clear hpre
        have hxz : (x.size : Int) ≤ 8000 := by have := HX8.out; omega
        have hrz : (r.size : Int) ≤ (x.size : Int) := by have := HKR.out; omega
        have HRES := Lib.hid (show (x.size : Int) - (r.size : Int) = (((vRec x.data.toList).2.1 : Nat) : Int) by
          rw [HV.out]
          have := E2.out
          rw [HN.out] at this
          show _ = (((recT 0 x.data.toList).2 : Nat) : Int)
          omega)
        go_wp2_with fail
        refine HPR.out.mono ?_
        rintro e w5 ⟨rfl, rfl⟩
        go_wp2_with fail
        simp only [Exit.jump]
        go_ret3
        exact ⟨a, cc, ls, by rw [HLK.out, ← HRES.out, HV.out]; rfl, O4.out, by rw [HV.out]; have := E1.out; rw [HN.out, List.append_nil] at this; exact this.symm, B4.out⟩
      | true =>
        have HY := Lib.hid (recT_yes (c := c) (t := r.data.toList) (by rw [HBB.out, HP.out]; exact hpre))
        have HPL := Lib.hid (pre_len hpre)
        rw [HBB.out, HP.out, HC'.out] at HY
        rw [hpre] at HPR
        clear hpre
        have hsz := strB_size p
        have hps : ((strB p).size : Int) ≤ (r.size : Int) := by rw [hsz]; have := HPL.out; have := HRL.out; omega
        have hrz : (r.size : Int) ≤ 8000 := by have := HX8.out; have := HKR.out; omega
        have A1 := Lib.hid (show k + 1 ≤ maxLen by unfold maxLen; have := HX8.out; have := HKR.out; omega)
        have A2 := Lib.hid (show (k + 1) * 16 ≤ 140737488355328 by have := HX8.out; have := HKR.out; omega)
        have A3 := Lib.hid B4.out.size
        have HO3 := Lib.hid (show (w4.alloc (.cells #[.string (strB bb)] 9)).ownsRow w.heap.size 9 1 (.slice a k cc) k (ls.map fun l => Value.string (strB l)) by rw [← HLK.out]; exact strC_own O4.out)
        have HEX := Lib.hid (show r.extract (strB p).size r.size = strB (r.data.toList.drop p.length) from extract_of (p := r.data.toList.take p.length) (by rw [List.take_append_drop, List.take_of_length_le (by rw [HRL.out]; exact Nat.le_refl _)]) (by rw [hsz, List.length_take]; have := HPL.out; omega) (Nat.le_refl _))
        clear hsz
        go_wp2_with fail
        refine HPR.out.mono ?_
        rintro e w5 ⟨rfl, rfl⟩
        go_wp2_with (at_builtin; refine wpList_append_any _ rfl (.tmp 41) (.tmp 43) 44 rfl w.heap.size 9 i0 (.string ByteArray.empty) 1 16 Tryd.underlying44 JI.out HZ0.out HZ1.out HZ2.out rfl Nat.one_pos (.slice a k cc) k (ls.map fun l => Value.string (strB l)) rfl HO3.out (w4.heap.size + 1) (some ⟨w4.heap.size, 0, none⟩) 1 1 [.string (strB bb)] rfl str_reads (one_str _) A1.out A2.out (strC_base A3.out) ?_; intro v' w' hown hgr hat; obtain ⟨a', c1, rfl⟩ := ownsRow_slice hown; have HMD := Lib.hid (strC_next HLK.out O4.out (Nat.le_refl _) B4.out rfl hown hgr); clear hown hgr hat)
        go_step3
        refine ⟨rfl, ⟨a', k + 1, c1, c', _, ls ++ [bb], _, _, _, _, _, _, _, _, _, _, _, _, _, _, _, _, _, _, _, _, _, _, _, _, _, _, _, _, _, _, _, _, _, _, _, _, _, _, _, _, _, _, _, _, _, _, _, _, _, rfl, ?_⟩, ?_⟩
        · rw [HEX.out, strB_size, strB_list, List.length_drop]
          have q1 := HJL.out.1
          have q2 := HPL.out
          have q3 := HRL.out
          have q4 := HKR.out
          have q5 := E2.out
          rw [HY.out] at q5
          have q5' : (recT 0 x.data.toList).2 + r.size = x.size + (p.length + (recT c' (r.data.toList.drop p.length)).2) := q5
          exact Lib.hid ⟨by rw [List.length_append, HLK.out]; rfl, by omega, HCK.out.1, HCK.out.2, HMD.out.1, HMD.out.2, by rw [E1.out, HY.out]; simp, by omega⟩
        · show (r.extract (strB p).size r.size).size < r.size
          rw [HEX.out, strB_size, List.length_drop]
          have q1 := HJL.out.1
          have q2 := HPL.out
          have q3 := HRL.out
          omega
end Go.Proofs.YtokminhnkmhneaaDoor
