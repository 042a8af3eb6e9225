/-
  Marks of lists of texts. Conditions: the counts are small.
-/
import Derived.Test.YtpfbhckmpkiijaaDoorCta
import Derived.Test.YtpfbhckmpkiijaaDoorDcm
import Derived.Test.YtpfbhckmpkiijaaDoorTxs
namespace Go.Proofs.YtpfbhckmpkiijaaDoor
open Go.RowKit Go.Deep Go.WideShapes Go.ChangeShapes
set_option linter.unusedVariables false
set_option linter.unusedSimpArgs false
attribute [local go_sem] txt_size

def mkT (k : Nat) : List UInt8 := 109 :: Lib.decDigits k
theorem mkT_len {k : Nat} (h : k ≤ 10000000) : (mkT k).length ≤ 21 := by
  have := decDigits_le k (by omega)
  unfold mkT
  rw [List.length_cons]
  omega
def MtRel (k : Nat) (w : World) (t o : Value) (wr : World) : Prop := ∃ (u : Nat) (D : List UInt8), t = .int .i64 u ∧ o = .string ⟨D.toArray⟩ ∧ dz u ++ D = Lib.decDigits k ∧ u ≤ 10000000 ∧ Below w.heap.size w wr
set_option maxRecDepth 20000 in
set_option maxHeartbeats 2000000 in
theorem c_markText (k : Nat) (h1 : 1 ≤ k) (h : k ≤ 10000000) (w : World) : Calls Tryd.prog 38 #[.int .i64 k] w fun e w' => e = .returned (.string ⟨(mkT k).toArray⟩) ∧ Below w.heap.size w w' := by
  have HK := Lib.hid h
  have hk0 : (0 : Int) < (k : Int) := by omega
  have hki : (k : Int) ≤ 10000000 := by omega
  have HDL := Lib.hid (decDigits_le k (by omega))
  have H0 := Lib.hid (show dz k ++ [] = Lib.decDigits k by rw [List.append_nil, dz_pos (by omega)])
  clear h h1
  go_enter Tryd.func38, Tryd.ntmps38
  go_wp2_with fail
  go_loopw [0, 3] (fun t o wr => MtRel k w t o wr) (fun t _ _ => (intOf t).toNat)
  case atStart => exact ⟨k, [], rfl, rfl, H0.out, HK.out, Below.refl _ _⟩
  case round =>
    obtain ⟨u, D, rfl, rfl, he, hu, hb⟩ := hrel
    have HE := Lib.hid he
    have HB := Lib.hid hb
    have hul : (u : Int) ≤ 10000000 := by omega
    have hu0 : (0 : Int) ≤ (u : Int) := by omega
    have hdl : D.length ≤ 20 := by have := HDL.out; rw [← he, List.length_append] at this; omega
    have t1 : ¬ 9223372036854775807 < 1 + D.length := by omega
    clear he hb hu
    by_cases hpos : 0 < u
    · have hp' : (0 : Int) < (u : Int) := by omega
      obtain ⟨d, hd⟩ : ∃ d : Nat, u % 10 = d := ⟨_, rfl⟩
      have hdi : (u : Int) % 10 = (d : Int) := by omega
      have hd9 : (d : Int) ≤ 9 := by omega
      have hd0 : (0 : Int) ≤ (d : Int) := by omega
      obtain ⟨ch, hch⟩ : ∃ ch, UInt8.ofNat (48 + d) = ch := ⟨_, rfl⟩
      have hvc : (48 : Int) + (d : Int) = (ch.toNat : Int) := by rw [← hch, UInt8.toNat_ofNat']; omega
      have HST := Lib.hid (OwnB.string (w := wr.alloc (.cells #[.int .u8 (48 + (d : Int))] 5)) (B := wr.heap.size) (a := some ⟨wr.heap.size, 0, none⟩) (cap := 1) (l := [ch]) (by
        have h := own_one wr wr.heap.size (48 + (d : Int)) (Nat.le_refl _)
        rw [hvc] at h ⊢
        exact h))
      have HNX := Lib.hid (show dz (u / 10) ++ (ch :: D) = Lib.decDigits k by
        rw [← HE.out, dz_pos (show u ≠ 0 by omega), dec_step u, hd, hch]
        simp)
      have hst := HST.out
      have hlen : ([ch] : List UInt8).length = 1 := rfl
      rw [hlen] at hst
      clear hvc hlen hd hch
      go_wp2_with fail
      go_roundw
      case rel => exact ⟨u / 10, ch :: D, by first | rfl | go_num | (congr 1; omega), by first | rfl | (rw [txt_append]; rfl), HNX.out, by omega, HB.out.alloc HB.out.size _⟩
      case measure => simp [intOf]; omega
    · obtain rfl : u = 0 := by omega
      have HD := Lib.hid (show D = Lib.decDigits k from HE.out)
      have hp' : ¬ (0 : Int) < ((0 : Nat) : Int) := by decide
      go_wp2_with fail
      go_ret
      exact ⟨by rw [HD.out]; rfl, HB.out⟩
def marksT (k n : Nat) : List (List UInt8) := (List.range n).map fun i => mkT (k + i)
theorem marksT_length (k n : Nat) : (marksT k n).length = n := by simp [marksT]
def markedT (k : Nat) (ys : List (List UInt8)) (j : Nat) : List Value := (marksT k j).map (fun l => Value.string (strB l)) ++ (ys.drop j).map (fun l => Value.string (strB l))
theorem marksT_succ (k j : Nat) : marksT k (j + 1) = marksT k j ++ [mkT (k + j)] := by
  unfold marksT; rw [List.range_succ, List.map_append]; rfl
theorem markedT_set (k : Nat) (ys : List (List UInt8)) (j : Nat) (h : j < ys.length) : (markedT k ys j).set j (.string (strB (mkT (k + j)))) = markedT k ys (j + 1) := by
  unfold markedT
  have hl : ((marksT k j).map (fun l => Value.string (strB l))).length = j := by simp [marksT_length]
  rw [List.set_append_right _ _ (by omega), hl, Nat.sub_self, marksT_succ, List.map_append, List.append_assoc]
  congr 1
  rw [List.drop_eq_getElem_cons h]
  rfl
theorem markedT_zero (k : Nat) (ys : List (List UInt8)) : markedT k ys 0 = ys.map (fun l => Value.string (strB l)) := by simp [markedT, marksT]
theorem markedT_all (k : Nat) (ys : List (List UInt8)) : markedT k ys ys.length = (marksT k ys.length).map (fun l => Value.string (strB l)) := by simp [markedT]
def MarkRelT (k0 B g cap : Nat) (ys : List (List UInt8)) (w : World) (k i : Value) (wr : World) : Prop :=
  ∃ j : Nat, j ≤ ys.length ∧ i = .int .i64 j ∧ k = .int .i64 ((k0 + j : Nat) : Int) ∧ wr.ownsRow B 9 1 (.slice (some ⟨g, 0, none⟩) ys.length cap) ys.length (markedT k0 ys j) ∧ w.grownBy wr (some g)
def RetMarkT (k B : Nat) (a : Option Addr) (cap n : Nat) (w : World) (e : Ending) (w' : World) : Prop :=
  e = .returned (.int .i64 ((k + n : Nat) : Int)) ∧ OwnS w' B a cap (marksT k n) ∧ w.grownBy w' (blk a)
theorem grown_then {w wr w' : World} {g : Nat} (h : w.grownBy wr (some g)) (hb : Below wr.heap.size wr w') : w.grownBy w' (some g) :=
  grown_set h ⟨hb.os, hb.tape, hb.output, hb.size, fun j hj _ => hb.block j hj⟩
set_option maxRecDepth 20000 in
set_option maxHeartbeats 1000000 in
theorem c_markStrs (a : Option Addr) (cap B k : Nat) (ys : List (List UInt8)) (w : World) (h : OwnS w B a cap ys) (h1 : 1 ≤ k) (hk : k ≤ 4194304) (hl : ys.length ≤ 1048576) : Calls Tryd.prog 19 #[.slice a ys.length cap, .int .i64 k] w (RetMarkT k B a cap ys.length w) := by
  have ho : w.ownsRow B 9 1 (.slice a ys.length cap) ys.length (ys.map (fun l => Value.string (strB l))) := h
  obtain ⟨n, hn⟩ : ∃ n, ys.length = n := ⟨_, rfl⟩
  have hn1 : n ≤ 1048576 := by omega
  rcases ho.2 with ⟨hv, h0⟩ | ⟨g, c, cur, hv, _⟩
  · simp only [Value.slice.injEq] at hv
    obtain ⟨rfl, _, rfl⟩ := hv
    obtain rfl : ys = [] := List.eq_nil_of_length_eq_zero h0
    clear hn hl hn1 ho h h0
    go_enter Tryd.func19, Tryd.ntmps19
    go_wp2
    refine wp_loop_rounds 1 ?_
    rw [rounds_succ]
    go_wp2
    go_ret
    exact ⟨rfl, World.ownsRow_nil _ _ _ _, grown_refl _ _⟩
  · simp only [Value.slice.injEq] at hv
    obtain ⟨rfl, _, rfl⟩ := hv
    have HO := Lib.hid ho
    have HN := Lib.hid hn
    rw [hn]
    clear ho hl hn h
    go_enter Tryd.func19, Tryd.ntmps19
    go_wp2
    go_loopw [1, 5] (fun k' i wr => MarkRelT k B g cap ys w k' i wr) (fun _ i _ => n - (intOf i).toNat)
    case atStart => exact ⟨0, Nat.zero_le _, rfl, rfl, by rw [markedT_zero]; exact HO.out, grown_refl _ _⟩
    case round =>
      obtain ⟨j, hj, rfl, rfl, ho, hg⟩ := hrel
      rw [HN.out] at hj
      have HO' := Lib.hid ho
      have HG' := Lib.hid hg
      clear ho hg
      by_cases hlt : j < n
      · have HMT := Lib.hid (c_markText (k + j) (by omega) (by omega) wr)
        go_wp2_with fail
        refine HMT.out.mono ?_
        rintro e w2 ⟨rfl, hb⟩
        have HO2 := Lib.hid (HO'.out.kept (row := none) ⟨hb.os, hb.tape, hb.output, hb.size, fun j hj _ => hb.block j hj⟩ (.inr (by simp [Value.ownBlock])))
        have HG2 := Lib.hid (grown_then HG'.out hb)
        clear hb
        have hfz : w2.frozen? ⟨g, j, none⟩ = false := HO2.out.frozenAt j
        obtain ⟨v0, hv0⟩ : ∃ v, w2.cell? ⟨g, j, none⟩ = some v := by
          rw [HO2.out.cellAt j (by rw [HN.out]; omega)]
          exact ⟨_, List.getElem?_eq_getElem (by rw [HO2.out.1, HN.out]; omega)⟩
        go_wp2_with fail
        go_roundw
        case rel =>
          obtain ⟨o1, o2⟩ := HO2.out.stored j (.string (strB (mkT (k + j))))
          rw [markedT_set k ys j (by rw [HN.out]; exact hlt)] at o1
          exact ⟨j + 1, by rw [HN.out]; omega, by go_num, by go_num, o1, grown_set HG2.out o2⟩
        case measure => simp [intOf]; omega
      · obtain rfl : j = n := by omega
        go_wp2_with fail
        go_ret
        have ho := HO'.out
        rw [← HN.out, markedT_all] at ho
        refine ⟨rfl, ?_, HG'.out⟩
        unfold OwnS
        rw [marksT_length, ← HN.out]
        exact ho
def HeldRelT (k0 n : Nat) (w : World) (k i : Value) (wr : World) : Prop := ∃ j : Nat, j ≤ n ∧ i = .int .i64 j ∧ k = .int .i64 ((k0 + j : Nat) : Int) ∧ Below w.heap.size w wr
theorem marksT_at (k n j : Nat) (h : j < n) : ((marksT k n).map strB)[j]? = some (strB (mkT (k + j))) := by
  simp [marksT, h]
set_option maxRecDepth 20000 in
set_option maxHeartbeats 1000000 in
theorem c_heldStrs (a : Option Addr) (cap k n : Nat) (w : World) (h : IsStrs w a n cap ((marksT k n).map strB)) (h1 : 1 ≤ k) (hk : k ≤ 4194304) (hl : n ≤ 1048576) : Calls Tryd.prog 20 #[.slice a n cap, .int .i64 k] w fun e w' => e = .returned (.int .i64 ((k + n : Nat) : Int)) ∧ Below w.heap.size w w' := by
  have H := Lib.hid h
  clear h
  go_enter Tryd.func20, Tryd.ntmps20
  go_wp2
  go_loopw [1, 5] (fun k' i wr => HeldRelT k n w k' i wr) (fun _ i _ => n - (intOf i).toNat)
  case atStart => exact ⟨0, Nat.zero_le _, rfl, rfl, Below.refl _ _⟩
  case round =>
    obtain ⟨j, hj, rfl, rfl, hb⟩ := hrel
    have HB := Lib.hid hb
    have HJ := Lib.hid (And.intro hk (And.intro h1 hl))
    clear hb
    by_cases hlt : j < n
    · obtain ⟨b, off, x, rfl, hbk, hx, hc, _⟩ := (H.out.kept HB.out).one hlt
      rw [marksT_at k n j hlt] at hx
      obtain rfl := Option.some.inj hx
      obtain ⟨l, hle⟩ : ∃ l, mkT (k + j) = l := ⟨_, rfl⟩
      have HMT := Lib.hid (fun W => c_markText (k + j) (by omega) (by omega) W)
      rw [hle] at hc HMT
      have hc9 : wr.cell? ⟨b, off + j, none⟩ = some (.string ⟨l.toArray⟩) := hc
      clear hc hle
      have hc := hc9
      clear hc9
      have HBK := Lib.hid hbk
      have bl : Below wr.heap.size wr wr.drew := (Below.refl _ _).drew
      have BD := Lib.hid (Below.next HB.out bl)
      clear hx hbk bl
      go_wp2_with fail
      go_region_held3 (fun w' => w'.cell? ⟨b, off + j, none⟩ = some (.string ⟨l.toArray⟩)) (go_keep)
        (first
          | (go_at_call 38
             refine (HMT.out wr.drew).mono ?_
             rintro e w4 ⟨rfl, bl⟩
             have B4 := Lib.hid (Below.next BD.out bl)
             have hc2 := (bl.cell (p := ⟨b, off + j, none⟩) (by simpa using HBK.out)).trans (by simpa using hc)
             clear bl hc
             have hc := hc2
             clear hc2))
      all_goals
        go_wp2_with fail
        go_roundw
        case rel => exact ⟨j + 1, by omega, by go_num, by go_num, B4.out⟩
        case measure => simp [intOf]; omega
    · obtain rfl : j = n := by omega
      go_wp2_with fail
      go_ret
      exact ⟨rfl, HB.out⟩
end Go.Proofs.YtpfbhckmpkiijaaDoor
