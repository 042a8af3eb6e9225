/-
  ReadNumbers: the model's. Conditions: the text has at most 2 ^ 20 bytes.
-/
import Derived.Test.YtokminhnkmhneaaDoorRnp
import Derived.Test.YtokminhnkmhneaaDoorSit
import Derived.Test.YtokminhnkmhneaaDoorOp5
namespace Go.Proofs.YtokminhnkmhneaaDoor
open Go.RowKit Go.Deep Go.WideShapes Go.ChangeShapes
set_option linter.unusedVariables false
set_option linter.unusedSimpArgs false

theorem growF_reads {wr : World} {v : Nat} : Reads (wr.alloc (.cells #[.float .f32 v] 71)) (wr.heap.size + 1) 1 (some ⟨wr.heap.size, 0, none⟩) 1 [.float .f32 v] := by
  refine ⟨rfl, fun _ => ⟨_, rfl, by simp, fun j u hu => ?_⟩⟩
  rw [add_plain]
  have := (Blk.new wr 71 #[.float .f32 v]).cell (0 + j)
  rw [this, Nat.zero_add]
  simpa using hu
theorem growF_own {B : Nat} {wr : World} {b : Option Addr} {cp : Nat} {v : Nat} {ys : List Nat} (ho : OwnF wr B b cp ys) : (wr.alloc (.cells #[.float .f32 v] 71)).ownsRow B 71 1 (.slice b ys.length cp) ys.length (ys.map (Value.float .f32)) :=
  (ho.kept ((Below.refl _ _).alloc (Nat.le_refl _) _)).1
theorem growF_base {B : Nat} {wr : World} {v : Nat} (h : B ≤ wr.heap.size) : B ≤ (wr.alloc (.cells #[.float .f32 v] 71)).heap.size := by
  rw [World.size_alloc]; exact Nat.le_trans h (Nat.le_succ _)
theorem floatG_next {B n : Nat} {w wr w' : World} {b a' : Option Addr} {cp cp' : Nat} {v : Nat} {ys : List Nat} (hn : ys.length = n) (ho : OwnF wr B b cp ys) (hB : w.heap.size ≤ B) (hl : Below w.heap.size w wr) (hv : v < 2 ^ 32)
    (hown : w'.ownsRow B 71 1 (.slice a' (n + 1) cp') (n + 1) (ys.map (Value.float .f32) ++ [.float .f32 v])) (hg : (wr.alloc (.cells #[.float .f32 v] 71)).grownBy w' (Value.ownBlock (.slice b n cp))) :
    OwnF w' B a' cp' (ys ++ [v]) ∧ Below w.heap.size w w' := by
  rw [ownBlock_slice] at hg
  have bw : Below wr.heap.size wr (wr.alloc (.cells #[.float .f32 v] 71)) := (Below.refl _ _).alloc (Nat.le_refl _) _
  have ho1 := ho.kept bw
  subst hn
  refine ⟨⟨by simpa using hown, fun y hy' => ?_⟩, (hl.trans (bw.mono hl.size)).grown hg (Nat.le_trans hl.size bw.size) (fun g h => Nat.le_trans hB (ho1.lt g h).1)⟩
  rcases List.mem_append.1 hy' with h | h
  · exact ho.2 _ h
  · simp at h; subst h; exact hv
def LfRel (ps : List (List UInt8)) (n : Nat) (pa : Option Addr) (pc : Nat) (w : World) (s i : Value) (wr : World) : Prop :=
  ∃ (k : Nat) (a : Option Addr) (c : Nat) (ys : List Nat), k ≤ n ∧ i = .int .i64 k ∧ s = .slice a ys.length c ∧ ys.map (canon .f32) = (ps.take k).map hval ∧ ys.length = k ∧ OwnF wr w.heap.size a c ys ∧ (ps.take k).all okRN = true ∧ Below w.heap.size w wr ∧ OwnS wr w.heap.size pa pc ps ∧ ∀ g, blk a = some g → blk pa ≠ some g
set_option maxRecDepth 20000 in
set_option maxHeartbeats 4000000 in
theorem c_l01NRead (x : ByteArray) (hx : x.size ≤ 1048576) (w : World) : Calls Tryd.prog 62 #[.string x] w (RetL (vRN x.data.toList).1 (vRN x.data.toList).2 w) := by
  obtain ⟨i0, hi, hz0, hz1, hz2⟩ := info_parts info_f32
  have JI := Lib.hid hi
  have HZ0 := Lib.hid hz0
  have HZ1 := Lib.hid hz1
  have HZ2 := Lib.hid hz2
  have B0 := Lib.hid (show Below w.heap.size w (w.alloc (.cells #[] 71)) from (Below.refl _ _).alloc (Nat.le_refl _) _)
  have O0 := Lib.hid (show OwnF (w.alloc (.cells #[] 71)) w.heap.size (some ⟨w.heap.size, 0, none⟩) 0 [] from ⟨World.ownsRow_made w #[] 0 (Nat.le_refl _) (by unfold maxLen; omega) rfl, fun _ h => by cases h⟩)
  have HC := Lib.hid (fun W => show Calls Tryd.prog 107 #[.string x, .int .u8 44] W _ from c_l01Cut 44 x hx W)
  have HXL := Lib.hid (show x.data.toList.length = x.size from Array.length_toList)
  clear hi hz0 hz1 hz2
  by_cases hno : x.data.toList = noneT
  · have HV := Lib.hid (vRN_none hno)
    have hxs : x = ⟨#[110, 111, 110, 101]⟩ := by
      apply ByteArray.ext
      apply Array.toList_inj.1
      exact hno
    have HXS := Lib.hid hxs
    rw [HV.out]
    clear hno hx
    rw [hxs]
    clear hxs
    go_enter Tryd.func62, Tryd.ntmps62
    go_wp2_with fail
    go_ret2
    exact ⟨_, _, [], rfl, O0.out, rfl, B0.out⟩
  · have HNO := Lib.hid hno
    have hnb : (x.toList == [110, 111, 110, 101]) = false := by rw [ByteArray.toList_eq, beq_eq_false_iff_ne]; exact hno
    have HPS := Lib.hid (fun p (hp : p ∈ parts 44 x.data.toList) => parts_sizes hp)
    have HNC := Lib.hid (parts_count 44 x.data.toList)
    clear hno
    go_enter Tryd.func62, Tryd.ntmps62
    go_wp2_with fail
    refine (HC.out _).mono ?_
    rintro e w2 ⟨pa, pc, rfl, hps, hb⟩
    have B2 := Lib.hid (Below.next B0.out hb)
    have O2 := Lib.hid (O0.out.kept hb)
    obtain ⟨ps, hpsE⟩ : ∃ ps, parts 44 x.data.toList = ps := ⟨_, rfl⟩
    have HPE := Lib.hid hpsE
    rw [hpsE] at hps HPS HNC
    rw [hpsE]
    have AP0 := Lib.hid (show ∀ g, blk (some ⟨w.heap.size, 0, none⟩) = some g → blk pa ≠ some g from fun g h1 h2 => by
      have h3 := (hps.lt g h2).1
      rw [World.size_alloc] at h3
      simp [blk] at h1
      omega)
    have PO := Lib.hid (hps.base (show w.heap.size ≤ (w.alloc (.cells #[] 71)).heap.size by rw [World.size_alloc]; exact Nat.le_succ _))
    have PSX := Lib.hid (fun W (h : OwnS W w.heap.size pa pc ps) => h.isStrs (fun l hl => by have h1 := HPS.out l hl; have h2 := HXL.out; unfold maxLen; omega))
    obtain ⟨n, hn⟩ : ∃ n, ps.length = n := ⟨_, rfl⟩
    have HN := Lib.hid hn
    rw [hn] at PSX HNC ⊢
    have hn1 : n ≤ 1048577 := by have := HNC.out; have := HXL.out; omega
    have hni : (n : Int) ≤ 1048577 := by omega
    clear hps hb hpsE hn
    generalize w.alloc (.cells #[] 71) = w0 at *
    by_cases h256 : n ≤ 256
    case neg =>
      have hgt : (256 : Int) < (n : Int) := by omega
      have HV := Lib.hid (vRN_no HNO.out (okRNs_long (by rw [HPE.out, HN.out]; omega)))
      clear h256
      go_wp2_with fail
      go_ret2
      exact ⟨none, 0, [], by rw [HV.out]; rfl, ⟨World.ownsRow_nil _ _ _ _, fun _ h => by cases h⟩, by rw [HV.out]; rfl, B2.out⟩
    case pos =>
      have hle : ¬ (256 : Int) < (n : Int) := by omega
      have H256 := Lib.hid h256
      clear h256 hni hn1
      go_wp2_with fail
      go_loopw [4, 6] (fun s i wr => LfRel ps n pa pc w s i wr) (fun _ i _ => n - (intOf i).toNat)
      case atStart => exact ⟨0, _, 0, [], Nat.zero_le _, rfl, rfl, rfl, rfl, O2.out, rfl, B2.out, PO.out, AP0.out⟩
      case round =>
        obtain ⟨k, a, c, ys, hk, rfl, rfl, hys, hyl, ho, hal, hb, hpo, hap⟩ := hrel
        have HPO := Lib.hid hpo
        have HAP := Lib.hid hap
        have HO := Lib.hid ho
        have HL := Lib.hid hb
        have HA := Lib.hid hal
        have HYS := Lib.hid hys
        have hk0 : (0 : Int) ≤ (k : Int) := by omega
        have A3 := Lib.hid HL.out.size
        clear ho hb hal hys hpo hap
        by_cases hlt : k < n
        · have hlt' : (k : Int) < (n : Int) := by omega
          obtain ⟨b, off, x0, rfl, hbk, hx0, c1, _⟩ := (PSX.out wr HPO.out).one hlt
          obtain ⟨p, hp, rfl⟩ : ∃ p, ps[k]? = some p ∧ strB p = x0 := by
            rw [List.getElem?_map] at hx0
            obtain ⟨p, h1, h2⟩ := Option.map_eq_some_iff.1 hx0
            exact ⟨p, h1, h2⟩
          have HP := Lib.hid hp
          have hpm := HPS.out p (List.mem_of_getElem? hp)
          have HPM := Lib.hid (show p.length ≤ 1048576 by have := HXL.out; omega)
          have HBY := Lib.hid (fun (m : Nat) (hm : m < p.length) => show (strB p)[m]'(by rw [strB_size]; exact hm) = p[m] from rfl)
          clear hx0 hp hbk hpm
          have HYL := Lib.hid hyl
          clear hyl
          by_cases h8 : p.length = 8
          case neg =>
            have HV := Lib.hid (vRN_no HNO.out (okRNs_bad (l := x.data.toList) (k := k) (p := p) (by rw [HPE.out]; exact HP.out) (okRN_shape (by unfold shp8; rw [decide_eq_false h8]; rfl))))
            have hq8 : ¬ ((p.length : Nat) : Int) = 8 := by omega
            have HSZ := Lib.hid (strB_size p)
            have hq9 : ¬ (((strB p).size : Nat) : Int) = 8 := by rw [HSZ.out]; exact hq8
            clear h8 hq8
            go_wp2_with fail
            go_ret2
            exact ⟨none, 0, [], by rw [HV.out]; rfl, ⟨World.ownsRow_nil _ _ _ _, fun _ h => by cases h⟩, by rw [HV.out]; rfl, HL.out⟩
          case pos =>
            have H8 := Lib.hid h8
            have h8s : (strB p).size = 8 := by rw [strB_size]; exact h8
            clear h8
            go_wp2_with fail
            go_loop [7, 8] (fun vn vj => ∃ (j : Nat) (m : Int), j ≤ 8 ∧ vj = .int .i64 j ∧ vn = .int .i64 m ∧ 0 ≤ m ∧ m ≤ 4294967295 ∧ Hid (m = (hval (p.take j) : Nat) ∧ allH (p.take j) = true)) (fun _ vj => 8 - (intOf vj).toNat)
            case atStart => exact ⟨0, 0, by omega, rfl, rfl, by omega, by omega, Lib.hid ⟨rfl, rfl⟩⟩
            case round =>
              obtain ⟨j, m, hj, rfl, rfl, hm0, hm, hh⟩ := hrel
              by_cases hj8 : j < 8
              case pos =>
                have hjs : j < (strB p).size := by rw [h8s]; exact hj8
                have HJL := Lib.hid (show j < p.length by rw [H8.out]; exact hj8)
                have HTK := Lib.hid (List.take_succ_eq_append_getElem HJL.out)
                have HPC := Lib.hid (show (strB p)[j]'hjs = p[j]'HJL.out from rfl)
                have HBAD := Lib.hid (fun (h : ¬ hv ((strB p)[j]'hjs) < 16) => vRN_no HNO.out (okRNs_bad (l := x.data.toList) (k := k) (p := p) (by rw [HPE.out]; exact HP.out) (okRN_shape (shp8_bad (k := j) (List.getElem?_eq_getElem HJL.out) (by rw [← HPC.out]; exact h)))))
                have HNX := Lib.hid (fun (d : Nat) (h : hv ((strB p)[j]'hjs) = d) (hd : d < 16) => show 16 * m + (d : Int) = ((hval (p.take (j + 1)) : Nat) : Int) ∧ 16 * m + (d : Int) ≤ 4294967295 ∧ allH (p.take (j + 1)) = true by
                  have e1 : hval (p.take (j + 1)) = 16 * hval (p.take j) + d := by rw [HTK.out, hval_snoc, ← HPC.out, h]
                  have e2 : allH (p.take (j + 1)) = true := by rw [HTK.out, allH_snoc, hh.out.2, ← HPC.out, h, decide_eq_true hd]; rfl
                  have e3 := hval_lt _ e2
                  have e4 : (p.take (j + 1)).length ≤ 8 := by rw [List.length_take]; omega
                  have e5 : 16 ^ (p.take (j + 1)).length ≤ 16 ^ 8 := Nat.pow_le_pow_right (by decide) e4
                  have e6 := hh.out.1
                  refine ⟨by omega, by omega, e2⟩)
                have hc256 : ((strB p)[j]'hjs).toNat ≤ 255 := by have := UInt8.toNat_lt ((strB p)[j]'hjs); omega
                clear hh
                by_cases hdig : 48 ≤ ((strB p)[j]'hjs).toNat ∧ ((strB p)[j]'hjs).toNat ≤ 57
                · obtain ⟨hd0, hd1⟩ := hdig
                  have HN := Lib.hid (HNX.out _ (hv_digit hd0 hd1) (by omega))
                  have HC := Lib.hid (show ((((strB p)[j]'hjs).toNat - 48 : Nat) : Int) = (((strB p)[j]'hjs).toNat : Int) - 48 by omega)
                  rw [HC.out] at HN
                  clear HNX HBAD
                  go_wp2_with fail
                  go_round
                  case rel => exact ⟨j + 1, _, by omega, by go_num, rfl, by have := HN.out.1; omega, HN.out.2.1, Lib.hid ⟨HN.out.1, HN.out.2.2⟩⟩
                  case measure => simp [intOf]; omega
                · by_cases hlet : 97 ≤ ((strB p)[j]'hjs).toNat ∧ ((strB p)[j]'hjs).toNat ≤ 102
                  · obtain ⟨hd0, hd1⟩ := hlet
                    have HN := Lib.hid (HNX.out _ (hv_letter hd0 hd1) (by omega))
                    have HC := Lib.hid (show ((((strB p)[j]'hjs).toNat - 87 : Nat) : Int) = (((strB p)[j]'hjs).toNat : Int) - 97 + 10 by omega)
                    rw [HC.out] at HN
                    have hnd : ¬ ((48 : Int) ≤ (((strB p)[j]'hjs).toNat : Int) ∧ (((strB p)[j]'hjs).toNat : Int) ≤ 57) := by omega
                    clear HNX HBAD hdig
                    go_wp2_with fail
                    go_round
                    case rel => exact ⟨j + 1, _, by omega, by go_num, rfl, by have := HN.out.1; omega, HN.out.2.1, Lib.hid ⟨HN.out.1, HN.out.2.2⟩⟩
                    case measure => simp [intOf]; omega
                  · have HV := Lib.hid (HBAD.out (by rw [hv_none hdig hlet]; omega))
                    have hnd : ¬ ((48 : Int) ≤ (((strB p)[j]'hjs).toNat : Int) ∧ (((strB p)[j]'hjs).toNat : Int) ≤ 57) := by omega
                    have hnl : ¬ ((97 : Int) ≤ (((strB p)[j]'hjs).toNat : Int) ∧ (((strB p)[j]'hjs).toNat : Int) ≤ 102) := by omega
                    clear HNX HBAD hdig hlet
                    go_wp2_with fail
                    all_goals go_ret2
                    all_goals exact ⟨none, 0, [], by rw [HV.out]; rfl, ⟨World.ownsRow_nil _ _ _ _, fun _ h => by cases h⟩, by rw [HV.out]; rfl, HL.out⟩
              case neg =>
                obtain rfl : j = 8 := by omega
                have hall : p.take 8 = p := List.take_of_length_le (by rw [H8.out]; exact Nat.le_refl _)
                have hh2 := hh.out
                rw [hall] at hh2
                have hsh : shp8 p = true := by unfold shp8; rw [hh2.2, decide_eq_true H8.out]; rfl
                have hlt32 := shp8_lt hsh
                have HCL := Lib.hid (canon_lt32 hlt32)
                obtain ⟨v, hv⟩ : ∃ v, hval p = v := ⟨_, rfl⟩
                have HVV := Lib.hid hv
                rw [hv] at hh2 hlt32 HCL
                obtain ⟨hmv, _⟩ := hh2
                subst hmv
                have HFR := Lib.hid (fun W => c_l01From v hlt32 W)
                have HBI := Lib.hid (fun W => c_l01Bits v hlt32 W)
                have HL32 := Lib.hid hlt32
                clear hall hh hv hlt32 hj hj8 hm hm0
                by_cases hcn : canon .f32 v = v
                case neg =>
                  have HV := Lib.hid (vRN_no HNO.out (okRNs_bad (l := x.data.toList) (k := k) (p := p) (by rw [HPE.out]; exact HP.out) (okRN_nan (by rw [HVV.out]; exact hcn))))
                  have hcb : ((canon .f32 v : Int) != (v : Int)) = true := by rw [bne_iff_ne]; omega
                  clear hcn hsh
                  go_wp2_with fail
                  refine (HFR.out _).mono ?_
                  rintro e w3 ⟨rfl, rfl⟩
                  go_wp2_with fail
                  refine (HBI.out _).mono ?_
                  rintro e w3 ⟨rfl, rfl⟩
                  go_wp2_with fail
                  go_ret2
                  exact ⟨none, 0, [], by rw [HV.out]; rfl, ⟨World.ownsRow_nil _ _ _ _, fun _ h => by cases h⟩, by rw [HV.out]; rfl, HL.out⟩
                case pos =>
                  have hok : okRN p = true := okRN_yes hsh (by rw [HVV.out]; exact hcn)
                  have HAN := Lib.hid (okn_next HP.out HA.out hok)
                  have HMN := Lib.hid (hvs_next HP.out)
                  rw [HVV.out] at HMN
                  have HCN := Lib.hid hcn
                  rw [hcn] at HBI
                  have hcb : ((v : Int) != (v : Int)) = false := by rw [bne_self_eq_false]
                  rw [HYL.out]
                  have A1 := Lib.hid (show k + 1 ≤ maxLen by unfold maxLen; have := H256.out; omega)
                  have A2 := Lib.hid (show (k + 1) * 4 ≤ 140737488355328 by have := H256.out; omega)
                  have HO3 := Lib.hid (show (wr.alloc (.cells #[.float .f32 v] 71)).ownsRow w.heap.size 71 1 (.slice a k c) k (ys.map (Value.float .f32)) by rw [← HYL.out]; exact growF_own HO.out)
                  have HPA := Lib.hid (HPO.out.kept ((Below.refl _ _).alloc (Nat.le_refl _) (.cells #[.float .f32 v] 71)))
                  clear hcn hok hsh
                  go_wp2_with fail
                  refine (HFR.out _).mono ?_
                  rintro e w3 ⟨rfl, rfl⟩
                  go_wp2_with fail
                  refine (HBI.out _).mono ?_
                  rintro e w3 ⟨rfl, rfl⟩
                  go_wp2_with (at_builtin; refine wpList_append_any _ rfl (.tmp 74) (.tmp 76) 27 rfl w.heap.size 71 i0 (.float .f32 0) 1 4 Tryd.underlying27 JI.out HZ0.out HZ1.out HZ2.out rfl Nat.one_pos (.slice a k c) k (ys.map (Value.float .f32)) rfl HO3.out (wr.heap.size + 1) (some ⟨wr.heap.size, 0, none⟩) 1 1 [.float .f32 v] rfl growF_reads (one_f32 _) A1.out A2.out (growF_base A3.out) ?_; intro v' w' hown hgr hat; obtain ⟨a', c', rfl⟩ := ownsRow_slice hown; have HMD := Lib.hid (floatG_next HYL.out HO.out (Nat.le_refl _) HL.out HL32.out hown hgr); have HPN := Lib.hid (HPA.out.apart (b := a) (by rw [← ownBlock_slice]; exact hgr) (fun g h1 h2 => HAP.out g h2 h1)); have HAT := Lib.hid hat; clear hown hgr hat)
                  go_roundw
                  case rel =>
                    obtain ⟨t1, t2⟩ := HMD.out
                    refine ⟨k + 1, a', c', ys ++ [v], hlt, by go_num, by rw [List.length_append, HYL.out]; rfl, by rw [HMN.out, List.map_append, HYS.out]; simp [HCN.out], by rw [List.length_append, HYL.out]; rfl, t1, HAN.out, t2, HPN.out, fun g h1 h2 => ?_⟩
                    have h3 := (HPO.out.lt g h2).2
                    rcases HAT.out with h | h
                    · rw [ownBlock_slice, ownBlock_slice] at h
                      exact HAP.out g (h.symm.trans h1) h2
                    · rw [ownBlock_slice, h1] at h
                      injection h with h
                      rw [World.size_alloc] at h
                      omega
                  case measure => simp [intOf]; omega
        · obtain rfl : k = n := by omega
          have hall : ps.take k = ps := List.take_of_length_le (by rw [HN.out]; exact Nat.le_refl _)
          have hA := HA.out
          rw [hall] at hA
          have HV := Lib.hid (vRN_yes HNO.out (okRNs_yes (by rw [HPE.out, HN.out]; exact H256.out) (by rw [HPE.out]; exact hA)))
          have hY := HYS.out
          rw [hall] at hY
          have HY := Lib.hid hY
          clear hall hA hY hyl
          go_wp2_with fail
          go_ret2
          exact ⟨a, c, ys, by rw [HV.out]; rfl, HO.out, by rw [HV.out, HPE.out]; exact HY.out, HL.out⟩
theorem t_sReadNumbers (x : ByteArray) (hx : x.size ≤ 1048576) (w : World) : Calls Tryd.prog 22 #[.string x] w (RetL (vRN x.data.toList).1 (vRN x.data.toList).2 w) := by
  have H := Lib.hid (c_l01NRead x hx w)
  clear hx
  go_enter Tryd.func22, Tryd.ntmps22
  go_wp2_with fail
  refine H.out.mono ?_
  rintro e w2 ⟨a, c, ys, rfl, ho, hy, hb⟩
  have HO := Lib.hid ho
  have HY := Lib.hid hy
  have HB := Lib.hid hb
  clear ho hy hb
  go_wp2_with fail
  go_ret2
  exact ⟨a, c, ys, rfl, HO.out, HY.out, HB.out⟩
end Go.Proofs.YtokminhnkmhneaaDoor
