/-
  ReduceLists: the model's sum in a tree, walked. Conditions: the lists can be read, and can be reduced.
-/
import Derived.Test.YtpdgpoonblldgaaRdt
namespace Go.Proofs.Ytpdgpoonblldgaa
open Go.RowKit Go.Deep Go.WideShapes Go.ChangeShapes
set_option linter.unusedVariables false
set_option linter.unusedSimpArgs false

set_option maxRecDepth 20000 in
set_option maxHeartbeats 4000000 in
theorem c_l10Tree (g : Option Addr) (n cap : Nat) (ls : List FlA) (w : World) (h : SSAt w g n cap ls) (hok : okL (ls.map FlA.z) = true) :
    Calls Try.prog 74 #[.int .i64 1, .slice g n cap] w (RetLs ((List.range ((ls.map FlA.z).getD 0 []).length).map (fun p => treeV (atV (ls.map FlA.z) p))) w) := by
  obtain ⟨f1, f2, f3, f4⟩ := okL_facts hok
  have hln : ls.length = n := h.1
  subst hln
  rw [List.length_map] at f1 f2
  obtain ⟨L, hL⟩ : ∃ L, ((ls.map FlA.z).getD 0 []).length = L := ⟨_, rfl⟩
  rw [hL] at f3 f4 ⊢
  have hall : ∀ x ∈ ls, x.z.length = L := fun x hx => f4 x.z (List.mem_map.2 ⟨x, hx, rfl⟩)
  obtain ⟨TV, hTV⟩ : ∃ TV : Nat → Nat, (fun p => treeV (atV (ls.map FlA.z) p)) = TV := ⟨_, rfl⟩
  rw [hTV]
  have HST := Lib.hid (show OutT TV L w (.slice g ls.length cap) w from ⟨ls, g, cap, rfl, h, ⟨f1, f2⟩, hall, fun p _ => congrFun hTV p, Below.refl _ _⟩)
  have HL5 := Lib.hid f3
  obtain ⟨i0, hi, hz0, hz1, hz2⟩ := info_parts info_sl1
  have HI := Lib.hid hi
  have HZ0 := Lib.hid hz0
  have HZ1 := Lib.hid hz1
  have HZ2 := Lib.hid hz2
  clear h hok f1 f2 f3 f4 hL hall hTV hi hz0 hz1 hz2
  go_enter Try.func74, Try.ntmps74
  go_wp2_with fail
  go_loopw [5] (fun s wr => OutT TV L w s wr) (fun s _ => lenV' s)
  case atStart => exact HST.out
  case round =>
    obtain ⟨zs, gz, cz, rfl, hss, ⟨hz1', hz8⟩, hall, htv, hb⟩ := hrel
    have HSS := Lib.hid hss
    have HALL := Lib.hid hall
    have HTV := Lib.hid htv
    have HB := Lib.hid hb
    obtain ⟨N, hN⟩ : ∃ N, zs.length = N := ⟨_, rfl⟩
    rw [hN] at hz1' hz8 HSS ⊢
    have HN := Lib.hid hN
    have hN8 : (N : Int) ≤ 8 := by omega
    clear hss hall htv hb hN
    obtain ⟨w1, rfl⟩ : ∃ x : World, x = wr := ⟨_, rfl⟩
    by_cases h2 : 2 ≤ N
    · have g1 : (1 : Int) < (N : Int) := by omega
      go_wp2_with fail
      go_loopw [6, 7] (fun s i wq => InnT zs N L w1 s i wq) (fun _ i _ => N + 1 - (intOf i).toNat)
      case atStart => exact ⟨0, 0, _, 0, [], by omega, by omega, rfl, rfl, rfl, World.ownsRow_made w1 #[] 0 (Nat.le_refl _) (by unfold maxLen; omega) rfl, (fun _ h => by cases h), (fun _ _ => rfl), (Below.refl _ _).alloc (Nat.le_refl _) _⟩
      case round =>
        obtain ⟨k, I, q, cp, xs, hI, hIn, rfl, rfl, hk, ho, hx, hp, hb⟩ := hrel
        have HII := Lib.hid hI
        have HK := Lib.hid hk
        have HO := Lib.hid ho
        have HX := Lib.hid hx
        have HP := Lib.hid hp
        have HBQ := Lib.hid hb
        have hI0 : (0 : Int) ≤ (I : Int) := by omega
        have hI9 : (I : Int) ≤ 9 := by omega
        have A1 := Lib.hid (show xs.length + 1 ≤ maxLen by unfold maxLen; omega)
        have A2 := Lib.hid (show (xs.length + 1) * 24 ≤ 140737488355328 by omega)
        have A3 := Lib.hid hb.size
        clear hI hk ho hx hp hb
        by_cases hlt : I < N
        · have hlt' : (I : Int) < (N : Int) := by omega
          obtain ⟨b, off, z1, a1, c1, rfl, hbk, hx1, q1, hf1⟩ := (HSS.out.kept HBQ.out).one hlt
          have hl1 : z1.length = L := HALL.out _ (List.mem_of_getElem? hx1)
          have HX1 := Lib.hid hx1
          have HF1 := Lib.hid hf1
          have HL1 := Lib.hid hl1
          rw [hl1] at q1
          clear hf1
          by_cases hlt2 : I + 1 < N
          · have hlt2' : (I : Int) + 1 < (N : Int) := by omega
            have hI1 : (0 : Int) ≤ (I : Int) + 1 := by omega
            have hIW : IntKind.i64.wrap ((I : Int) + 1) = ((I + 1 : Nat) : Int) := IntWalk.i64_in _ (by omega)
            have hI2 : (0 : Int) ≤ ((I + 1 : Nat) : Int) := by omega
            have hI3 : ((I + 1 : Nat) : Int) < (N : Int) := by omega
            obtain ⟨b2, off2, z2, a2, c2, e2, hbk2, hx2, q2, hf2⟩ := (HSS.out.kept HBQ.out).one hlt2
            cases e2
            have hl2 : z2.length = L := HALL.out _ (List.mem_of_getElem? hx2)
            have HX2 := Lib.hid hx2
            have HF2 := Lib.hid hf2
            have HL2 := Lib.hid hl2
            rw [hl2] at q2
            have HADD := Lib.hid (fun (W : World) (hb : Below wr.heap.size wr W) => (show Calls Try.prog 117 #[.slice a1 L c1, .slice a2 L c2] W (RetLs ((List.range L).map (sumOf z1 z2)) W) by
              have k1 := HF1.out.kept hb
              have k2 := HF2.out.kept hb
              rw [HL1.out] at k1
              rw [HL2.out] at k2
              exact c_l10Add a1 a2 L c1 c2 z1 z2 W k1 k2 HL5.out))
            clear hf2 hl1 hl2 hx1 hx2
            go_wp2_with fail
            go_region_law (first
              | (refine step_append_any _ rfl (.tmp 31) (.tmp 42) 51 rfl w1.heap.size 25 i0 (.slice none 0 0) 1 24 Try.underlying51 HI.out HZ0.out HZ1.out HZ2.out rfl Nat.one_pos (.slice q xs.length cp) xs.length (xs.map FlA.v) rfl ROW5.out (w5.heap.size + 1) (some ⟨w5.heap.size, 0, none⟩) 1 1 [.slice a5 ys.length c5] rfl rd_reads (rd_one _ _ _) A1.out A2.out BAS5.out ?_
                 intro v' w' hown hgr hat
                 obtain ⟨a', c', rfl⟩ := ownsRow_slice hown
                 have HMD := Lib.hid (inn_next (x := ⟨ys, a5, c5⟩) HII.out hlt HK.out HO.out HX.out HP.out HBQ.out HB5.out HY5.out (flS_own HO5.out) HC5.out hown hgr)
                 clear hown hgr hat)
              | (go_simp
                 go_at_call 117
                 refine (HADD.out _ (by first | exact (Below.refl _ _).drew | exact below_drewN (Below.refl _ _) _)).mono ?_
                 rintro e w5 ⟨a5, c5, ys, rfl, ho5, he5, hb5⟩
                 have HO5 := Lib.hid ho5
                 have hb6 : Below wr.heap.size wr w5 := ((Below.refl wr.heap.size wr).drew).trans hb5
                 have HB5 := Lib.hid hb6
                 have hy5 : ys.length = L := by have h := congrArg List.length he5; simpa using h
                 have HY5 := Lib.hid hy5
                 have HC5 := Lib.hid (show ∀ p, p < L → canon .f32 (ys.getD p 0) = treeF zs p k from fun p hp => by
                   rw [treeF_two (by rw [← HII.out]; exact HX1.out) (by rw [← HII.out]; exact HX2.out)]
                   have h := congrArg (fun l => l[p]?) he5
                   simp only [List.getElem?_map, List.getElem?_range hp, Option.map_some] at h
                   rw [List.getElem?_eq_getElem (by rw [hy5]; exact hp)] at h
                   simp only [Option.map_some, Option.some.injEq] at h
                   simp only [List.getD, List.getElem?_eq_getElem (show p < ys.length by rw [hy5]; exact hp), Option.getD_some]
                   exact h)
                 have ROW5 := Lib.hid (row_kept HO.out (Below.next hb6 ((Below.refl w5.heap.size w5).alloc (Nat.le_refl _) (.cells #[.slice a5 ys.length c5] 25))))
                 have BAS5 := Lib.hid (show w1.heap.size ≤ (w5.alloc (.cells #[.slice a5 ys.length c5] 25)).heap.size by rw [World.size_alloc]; have := A3.out; have := hb6.size; omega)
                 clear ho5 he5 hb5 hb6 hy5))
            all_goals
              go_wp2_with fail
              go_roundw
              case rel => exact HMD.out
              case measure => simp [intOf]; omega
          · have hlt2' : ¬ (I : Int) + 1 < (N : Int) := by omega
            have HC1 := Lib.hid (show ∀ p, p < L → canon .f32 (z1.getD p 0) = treeF zs p k from fun p _ => (treeF_one (x := ⟨z1, a1, c1⟩) (by rw [← HII.out]; exact HX1.out) (by rw [HN.out, ← HII.out]; omega)).symm)
            have HFL := Lib.hid (show FlS w1.heap.size wr ⟨z1, a1, c1⟩ from (flS_old (HSS.out.2.2.2.1 _ (List.mem_of_getElem? HX1.out)) (Nat.le_refl _)).kept HBQ.out)
            have ROW1 := Lib.hid (row_kept HO.out ((Below.refl wr.heap.size wr).alloc (Nat.le_refl _) (.cells #[.slice a1 L c1] 25)))
            have BAS1 := Lib.hid (show w1.heap.size ≤ (wr.alloc (.cells #[.slice a1 L c1] 25)).heap.size by rw [World.size_alloc]; have := A3.out; omega)
            clear hl1 hx1
            go_wp2_with (at_builtin; refine wpList_append_any _ rfl (.tmp 44) (.tmp 49) 51 rfl w1.heap.size 25 i0 (.slice none 0 0) 1 24 Try.underlying51 HI.out HZ0.out HZ1.out HZ2.out rfl Nat.one_pos (.slice q xs.length cp) xs.length (xs.map FlA.v) rfl ROW1.out (wr.heap.size + 1) (some ⟨wr.heap.size, 0, none⟩) 1 1 [.slice a1 L c1] rfl rd_reads (rd_one _ _ _) A1.out A2.out BAS1.out ?_; intro v' w' hown hgr hat; obtain ⟨a', c', rfl⟩ := ownsRow_slice hown; have HMD := Lib.hid (inn_next (x := ⟨z1, a1, c1⟩) HII.out hlt HK.out HO.out HX.out HP.out HBQ.out (Below.refl _ _) HL1.out HFL.out HC1.out (by have h := hown; rw [← HL1.out] at h; exact h) hgr); clear hown hgr hat)
            go_roundw
            case rel => exact HMD.out
            case measure => simp [intOf]; omega
        · have hlt' : ¬ (I : Int) < (N : Int) := by omega
          have HSO := Lib.hid (ss_of_row HO.out (fun x hx => (HX.out x hx).2.1))
          have HKK := Lib.hid (show k = chCnt N 2 by have h1 := HII.out; rw [pair_count]; omega)
          go_wp2_with fail
          go_roundw
          case rel =>
            have hk := HK.out
            have hkc := HKK.out
            have hpc := pair_count N
            refine ⟨xs, q, cp, rfl, HSO.out, ⟨by omega, by omega⟩, fun x hx => (HX.out x hx).1, fun p hp => ?_, Below.next HB.out HBQ.out⟩
            have e := HP.out p hp
            rw [hkc, ← HN.out, treeF_all] at e
            rw [e, treeV_pair (by simp [atV]; rw [HN.out]; exact h2)]
            exact HTV.out p hp
          case measure =>
            have hk := HK.out
            have hkc := HKK.out
            have hpc := pair_count N
            show xs.length < N
            omega
    · have g1 : ¬ (1 : Int) < (N : Int) := by omega
      obtain rfl : N = 1 := by omega
      obtain ⟨b, off, z1, a1, c1, rfl, hbk, hx1, q1, hf1⟩ := HSS.out.one (i := 0) (by omega)
      have hl1 : z1.length = L := HALL.out _ (List.mem_of_getElem? hx1)
      rw [Nat.add_zero, hl1] at q1
      have HOW := Lib.hid (c_l02Own a1 L c1 z1 w1 (by rw [hl1] at hf1; exact hf1) (by have := HL5.out; omega))
      have HX1 := Lib.hid hx1
      have HL1 := Lib.hid hl1
      clear hx1 hl1 hf1
      go_wp2_with fail
      refine HOW.out.mono ?_
      rintro e w2 ⟨bb, cc, rfl, ho, hb2⟩
      go_wp2_with fail
      go_ret
      refine ⟨bb, cc, z1, rfl, ho.base HB.out.size, ?_, Below.next HB.out hb2⟩
      apply List.ext_getElem?
      intro p
      by_cases hp : p < L
      · have e := HTV.out p hp
        have e1 : zs = [⟨z1, a1, c1⟩] := by
          have := HN.out
          match zs, this, HX1.out with
          | [y], _, hx => simp at hx; rw [hx]
        rw [e1, treeV_one rfl] at e
        rw [List.getElem?_map, List.getElem?_map, List.getElem?_range hp, List.getElem?_eq_getElem (by rw [HL1.out]; exact hp)]
        simp only [Option.map_some, Option.some.injEq]
        rw [← e]
        simp [atV, List.getD, List.getElem?_eq_getElem (show p < z1.length by rw [HL1.out]; exact hp)]
      · rw [List.getElem?_eq_none (by rw [List.length_map, HL1.out]; omega), List.getElem?_eq_none (by simp; omega)]
end Go.Proofs.Ytpdgpoonblldgaa
