/-
  RecoverJournal: the model's. Conditions: the text has at most 2 ^ 20 bytes.
-/
import Derived.Test.YtokminhnkmhneaaDoorRcp
namespace Go.Proofs.YtokminhnkmhneaaDoor
open Go.RowKit Go.Deep Go.WideShapes Go.ChangeShapes
set_option linter.unusedVariables false
set_option linter.unusedSimpArgs false

def sumL (ls : List (List UInt8)) : Nat := (ls.map fun l => l.length + 1).sum
theorem sumL_cons (l : List UInt8) (ls : List (List UInt8)) : sumL (l :: ls) = l.length + 1 + sumL ls := by simp [sumL]
theorem parts_sum : ∀ (n : Nat) (l : List UInt8), l.length ≤ n → sumL (parts 10 l).dropLast ≤ l.length
  | 0, l, h => by
    have : l = [] := List.eq_nil_of_length_eq_zero (by omega)
    subst this
    decide
  | n + 1, l, h => by
    by_cases hm : (10 : UInt8) ∈ l
    · obtain ⟨a, b, rfl, ha⟩ := first_of hm
      have hl : (a ++ 10 :: b).length = a.length + 1 + b.length := by simp; omega
      rw [parts_split b ha]
      have e : (a :: parts 10 b).dropLast = a :: (parts 10 b).dropLast := by
        cases hp : parts 10 b with
        | nil => exact absurd hp (parts_ne _ _)
        | cons x y => rfl
      rw [e, sumL_cons, hl]
      have := parts_sum n b (by omega)
      omega
    · rw [parts_none hm]
      exact Nat.zero_le _
theorem drop_next {ps : List (List UInt8)} {k : Nat} {l : List UInt8} (h : ps[k]? = some l) : ps.drop k = l :: ps.drop (k + 1) := by
  obtain ⟨hk, he⟩ := List.getElem?_eq_some_iff.1 h
  rw [List.drop_eq_getElem_cons hk, he]
set_option maxRecDepth 20000 in
set_option maxHeartbeats 2000000 in
theorem c_l11Lines (x : ByteArray) (hx : x.size ≤ 8000) (w : World) : Calls Tryd.prog 76 #[.string x] w fun e w' =>
    ∃ pa pc u n, (parts 10 x.data.toList).length = n + 1 ∧ e = .returned (.tuple #[.slice pa n pc, .string u]) ∧ OwnS w' w.heap.size pa pc (parts 10 x.data.toList) ∧ Below w.heap.size w w' := by
  have HC := Lib.hid (show Calls Tryd.prog 107 #[.string x, .int .u8 10] w _ from c_l01Cut 10 x (by omega) w)
  have HPS := Lib.hid (fun p (hp : p ∈ parts 10 x.data.toList) => parts_sizes hp)
  have HXL := Lib.hid (show x.data.toList.length = x.size from Array.length_toList)
  have HNC := Lib.hid (parts_count 10 x.data.toList)
  have HN1 := Lib.hid (parts_len 10 x.data.toList)
  have HX := Lib.hid hx
  clear hx
  go_enter Tryd.func76, Tryd.ntmps76
  go_wp2_with fail
  refine HC.out.mono ?_
  rintro e w2 ⟨pa, pc, rfl, hps, hb⟩
  have HB := Lib.hid hb
  have HO := Lib.hid hps
  obtain ⟨ps, hpsE⟩ : ∃ ps, parts 10 x.data.toList = ps := ⟨_, rfl⟩
  have HPE := Lib.hid hpsE
  rw [hpsE] at HPS HNC HN1 HO hps
  rw [hpsE]
  obtain ⟨n, hn⟩ : ∃ n, ps.length = n + 1 := ⟨ps.length - 1, by have := HN1.out; omega⟩
  have hS := hps.isStrs (fun l hl => by have h1 := HPS.out l hl; have h2 := HXL.out; have := HX.out; unfold maxLen; omega)
  rw [hn] at hS
  obtain ⟨b, off, y, rfl, hbk, hy, hc, _⟩ := hS.one (show n < n + 1 by omega)
  have hcap := hS.2.1
  have HCAP := Lib.hid hcap
  rw [hn]
  have HNN := Lib.hid hn
  have hni : (n : Int) ≤ 8000 := by have := HNC.out; have := HXL.out; have := HX.out; omega
  have hn0 : (0 : Int) ≤ (n : Int) := by omega
  have hcc : ((n : Int) + 1) ≤ (pc : Int) := by omega
  clear hb hps hS hcap hn hpsE hy
  go_wp2_with fail
  go_region
  all_goals
    go_wp2_with fail
    go_ret2
    exact ⟨_, _, _, n, by rw [HPE.out]; exact HNN.out, rfl, by rw [HPE.out]; exact HO.out.kept (Below.refl _ _).drew, Below.next HB.out (Below.refl _ _).drew⟩
def RmRel2 (ps : List (List UInt8)) (n : Nat) (pa : Option Addr) (pc : Nat) (qs : List (List UInt8)) (w : World) (s ck m i : Value) (wr : World) : Prop :=
  ∃ (k : Nat) (a : Option Addr) (c : Nat) (ls : List (List UInt8)) (cv : Int) (mv' : Nat), k ≤ n ∧ i = .int .i64 k ∧ s = .slice a ls.length c ∧ ck = .int .i64 cv ∧ m = .int .i64 mv' ∧ 0 ≤ cv ∧ cv ≤ 65002 ∧ ls.length = k ∧ OwnS wr w.heap.size a c ls ∧ Below w.heap.size w wr ∧
    OwnS wr w.heap.size pa pc qs ∧ (∀ g, blk a = some g → blk pa ≠ some g) ∧ mv' + sumL (ps.drop k) ≤ 8000 ∧ (recL 0 ps).1 = ls ++ (recL cv (ps.drop k)).1 ∧ (recL 0 ps).2 = mv' + (recL cv (ps.drop k)).2
set_option maxRecDepth 20000 in
set_option maxHeartbeats 8000000 in
theorem t_sRecoverJournal (x : ByteArray) (hx : x.size ≤ 1048576) (w : World) : Calls Tryd.prog 39 #[.string x] w (RetRec x w) := by
  obtain ⟨i0, hi, hz0, hz1, hz2⟩ := info_parts info_strC
  have JI := Lib.hid hi
  have HZ0 := Lib.hid hz0
  have HZ1 := Lib.hid hz1
  have HZ2 := Lib.hid hz2
  have HXL := Lib.hid (show x.data.toList.length = x.size from Array.length_toList)
  clear hi hz0 hz1 hz2
  by_cases h8 : x.size ≤ 8000
  case neg =>
    have HV := Lib.hid (show vRec x.data.toList = ([], 0, false) from if_neg (by rw [HXL.out]; exact h8))
    have h8' : (8000 : Int) < (x.size : Int) := by omega
    clear h8
    go_enter Tryd.func39, Tryd.ntmps39
    go_wp2_with fail
    go_ret3
    exact ⟨none, 0, [], by rw [HV.out]; rfl, nil_ownS _ _, by rw [HV.out], Below.refl _ _⟩
  case pos =>
    have HV := Lib.hid (show vRec x.data.toList = ((recT 0 x.data.toList).1, (recT 0 x.data.toList).2, true) from if_pos (by rw [HXL.out]; exact h8))
    have h8' : ¬ (8000 : Int) < (x.size : Int) := by omega
    have HLI := Lib.hid (c_l11Lines x h8 w)
    have HPS := Lib.hid (fun p (hp : p ∈ parts 10 x.data.toList) => parts_sizes hp)
    have HSUM := Lib.hid (show sumL (parts 10 x.data.toList).dropLast ≤ 8000 by have := parts_sum _ x.data.toList (Nat.le_refl _); have := HXL.out; omega)
    have HX8 := Lib.hid h8
    have HNC := Lib.hid (parts_count 10 x.data.toList)
    clear h8
    go_enter Tryd.func39, Tryd.ntmps39
    go_wp2_with fail
    refine HLI.out.mono ?_
    rintro e w2 ⟨pa, pc, u, n, hn, rfl, hps, hb⟩
    have HRT := Lib.hid (show recT 0 x.data.toList = recL 0 (parts 10 x.data.toList).dropLast from rfl)
    obtain ⟨qs, hqs⟩ : ∃ qs, parts 10 x.data.toList = qs := ⟨_, rfl⟩
    rw [hqs] at HPS HSUM HRT HNC hn hps
    obtain ⟨ps, hpd⟩ : ∃ ps, qs.dropLast = ps := ⟨_, rfl⟩
    have HPN := Lib.hid (show ps.length = n by rw [← hpd, List.length_dropLast, hn]; rfl)
    have HPK := Lib.hid (fun k (hk : k < n) => show ps[k]? = qs[k]? by rw [← hpd, List.dropLast_eq_take, List.getElem?_take_of_lt (by rw [hn]; omega)])
    rw [hpd] at HRT HSUM
    have hni : (n : Int) ≤ 8000 := by have := HNC.out; have := HXL.out; have := HX8.out; omega
    have HNI := Lib.hid (show n ≤ 8000 by omega)
    have PSX := Lib.hid (fun W (h : OwnS W w.heap.size pa pc qs) => (h.isStrs (fun l hl => by have h1 := HPS.out l hl; have h2 := HXL.out; have := HX8.out; unfold maxLen; omega)))
    rw [hn] at PSX
    have HQ := Lib.hid hps
    have HB := Lib.hid hb
    have HQL := Lib.hid hps.lt
    clear hqs hpd hn hps hb HNC
    go_wp2_with fail
    obtain ⟨w3, hw3⟩ : ∃ w3, w2.alloc (.cells #[] 9) = w3 := ⟨_, rfl⟩
    have bl : Below w2.heap.size w2 w3 := by rw [← hw3]; exact (Below.refl _ _).alloc (Nat.le_refl _) _
    have O3 := Lib.hid (show OwnS w3 w.heap.size (some ⟨w2.heap.size, 0, none⟩) 0 [] by rw [← hw3]; exact World.ownsRow_made w2 #[] 0 HB.out.size (by unfold maxLen; omega) rfl)
    have B3 := Lib.hid (Below.next HB.out bl)
    have Q3 := Lib.hid (HQ.out.kept bl)
    have AP0 := Lib.hid (show ∀ g, blk (some ⟨w2.heap.size, 0, none⟩) = some g → blk pa ≠ some g from fun g h1 h2 => by
      have h3 := (HQL.out g h2).2
      simp [blk] at h1
      omega)
    clear bl
    go_loopw [7, 8, 9, 10] (fun s ck m i wr => RmRel2 ps n pa pc qs w s ck m i wr) (fun _ _ _ i _ => n - (intOf i).toNat)
    case atStart => rw [hw3]; exact ⟨0, _, 0, [], 0, 0, Nat.zero_le _, rfl, rfl, rfl, rfl, by decide, by decide, rfl, O3.out, B3.out, Q3.out, AP0.out, by rw [Nat.zero_add]; exact HSUM.out, rfl, (Nat.zero_add _).symm⟩
    case round =>
      obtain ⟨k, a, c, ls, cv, m, hk, rfl, rfl, rfl, rfl, hc0, hc1, hlk, ho, hb, hq, hap, hsm, e1, e2⟩ := hrel
      have HO := Lib.hid ho
      have HL := Lib.hid hb
      have HQR := Lib.hid hq
      have HAP := Lib.hid hap
      have HSM := Lib.hid hsm
      have E1 := Lib.hid e1
      have E2 := Lib.hid e2
      have HLK := Lib.hid hlk
      have HCV := Lib.hid (And.intro hc0 hc1)
      have hk0 : (0 : Int) ≤ (k : Int) := by omega
      rw [hlk]
      clear ho hb hq hap hsm e1 e2 hlk hc0 hc1 O3 B3 Q3 AP0 HQ HB HQL hw3
      by_cases hlt : k < n
      case neg =>
        obtain rfl : k = n := by omega
        have hd : ps.drop k = [] := List.drop_eq_nil_of_le (by rw [HPN.out]; exact Nat.le_refl _)
        have q1 := E1.out
        have q2 := E2.out
        rw [hd] at q1 q2
        have H1 := Lib.hid (show (recL 0 ps).1 = ls by rw [q1]; exact List.append_nil _)
        have H2 := Lib.hid (show (recL 0 ps).2 = m from q2)
        clear hd q1 q2
        go_wp2_with fail
        go_ret3
        exact ⟨a, c, ls, by rw [HV.out, HLK.out]; show _ = Ending.returned (Value.tuple #[_, .int .i64 (((recT 0 x.data.toList).2 : Nat) : Int), .bool true]); rw [HRT.out, H2.out]; rfl, HO.out, by rw [HV.out]; show ls = (recT 0 x.data.toList).1; rw [HRT.out, H1.out], HL.out⟩
      case pos =>
        have hlt' : (k : Int) < (n : Int) := by omega
        obtain ⟨b, off, y, rfl, hbk, hy, hc, _⟩ := (PSX.out wr HQR.out).one (show k < n + 1 by omega)
        obtain ⟨l, hl, rfl⟩ : ∃ l, qs[k]? = some l ∧ strB l = y := by
          rw [List.getElem?_map] at hy
          obtain ⟨l, h1, h2⟩ := Option.map_eq_some_iff.1 hy
          exact ⟨l, h1, h2⟩
        have HLl := Lib.hid ((HPK.out k hlt).trans hl)
        have HDN := Lib.hid (drop_next HLl.out)
        have HSZ := Lib.hid (strB_size l)
        have HL8 := Lib.hid (show l.length ≤ 8000 by have := HSM.out; rw [HDN.out, sumL_cons] at this; omega)
        have HBK := Lib.hid hbk
        clear hy hl hbk
        by_cases hs : (32 : UInt8) ∈ l
        case neg =>
          have HG := Lib.hid (recL_no (ps.drop (k + 1)) (goodL_none (c := cv) hs))
          rw [← HDN.out] at HG
          have H1 := Lib.hid (show (recL 0 ps).1 = ls by rw [E1.out, HG.out]; exact List.append_nil _)
          have H2 := Lib.hid (show (recL 0 ps).2 = m by rw [E2.out, HG.out]; rfl)
          have HNS := Lib.hid hs
          have hsz : ((strB l).size : Int) ≤ 8000 := by rw [HSZ.out]; have := HL8.out; omega
          clear hs
          go_wp2_with fail
          go_loop [11] (fun vj => ∃ j : Nat, j ≤ (strB l).size ∧ vj = .int .i64 j) (fun vj => (strB l).size - (intOf vj).toNat)
          case atStart => exact ⟨0, Nat.zero_le _, rfl⟩
          case round =>
            obtain ⟨j, hj, rfl⟩ := hrel
            by_cases hjl : j < (strB l).size
            · have hjl' : (j : Int) < ((strB l).size : Int) := by omega
              have hne : ¬ (((strB l)[j]'hjl).toNat : Int) = 32 := by
                intro he
                apply HNS.out
                have hj2 : j < l.length := by rw [← HSZ.out]; exact hjl
                have e : (strB l)[j]'hjl = l[j]'hj2 := rfl
                have e3 : (strB l)[j]'hjl = 32 := UInt8.toNat_inj.1 (by have : (32 : UInt8).toNat = 32 := rfl; omega)
                rw [← e3, e]
                exact List.getElem_mem _
              go_wp2_with fail
              go_round
              case rel => exact ⟨j + 1, by omega, by go_num⟩
              case measure => simp [intOf]; omega
            · obtain rfl : j = (strB l).size := by omega
              go_wp2_with fail
              go_ret3
              exact ⟨a, c, ls, by rw [HV.out, HLK.out]; show _ = Ending.returned (Value.tuple #[_, .int .i64 (((recT 0 x.data.toList).2 : Nat) : Int), .bool true]); rw [HRT.out, H2.out]; rfl, HO.out, by rw [HV.out]; show ls = (recT 0 x.data.toList).1; rw [HRT.out, H1.out], HL.out⟩
        case pos =>
          obtain ⟨A, Bd, rfl, hA⟩ := first_of hs
          have HA := Lib.hid hA
          have HCV' := HCV.out
          have HEA0 := strB_cut1 A Bd 32
          have HEB0 := strB_cut2 A Bd 32
          rw [Nat.add_zero] at HEA0
          have hBS : A.length < (strB (A ++ 32 :: Bd)).size := by rw [strB_size]; simp
          have HB1 := Lib.hid (fun (j : Nat) (h : j < (strB (A ++ 32 :: Bd)).size) (h2 : j < A.length) => show ¬ (((strB (A ++ 32 :: Bd))[j]'h).toNat : Int) = 32 from fun he => by
            apply hA
            have e : (strB (A ++ 32 :: Bd))[j]'h = (A ++ 32 :: Bd)[j]'(by rw [strB_size] at h; exact h) := rfl
            have e2 : (A ++ 32 :: Bd)[j]'(by rw [strB_size] at h; exact h) = A[j]'h2 := List.getElem_append_left h2
            have e3 : (strB (A ++ 32 :: Bd))[j]'h = 32 := UInt8.toNat_inj.1 (by have : (32 : UInt8).toNat = 32 := rfl; omega)
            rw [← e3, e, e2]
            exact List.getElem_mem _)
          have HB2 := Lib.hid (fun (h : A.length < (strB (A ++ 32 :: Bd)).size) => show (((strB (A ++ 32 :: Bd))[A.length]'h).toNat : Int) = 32 by
            have e : (strB (A ++ 32 :: Bd))[A.length]'h = (A ++ 32 :: Bd)[A.length]'(by rw [strB_size] at h; exact h) := rfl
            have e2 : (A ++ 32 :: Bd)[A.length]'(by rw [strB_size] at h; exact h) = 32 := by simp
            rw [e, e2]
            rfl)
          have HGD := Lib.hid (goodL_at (c := cv) (b := Bd) hA)
          have HBO := Lib.hid (bodyL_at (b := Bd) hA)
          have HLEN := Lib.hid (show (A ++ 32 :: Bd).length = A.length + 1 + Bd.length by simp; omega)
          obtain ⟨xl, hxl⟩ : ∃ xl, strB (A ++ 32 :: Bd) = xl := ⟨_, rfl⟩
          have HXLE := Lib.hid hxl
          rw [hxl] at HEA0 HEB0 hBS HSZ HB1 HB2 hc
          have HEA := Lib.hid HEA0
          have HEB := Lib.hid HEB0
          obtain ⟨q, hq⟩ : ∃ q, chk cv Bd = q := ⟨_, rfl⟩
          have hqb : 0 ≤ q ∧ q ≤ 65002 := by rw [← hq]; exact chk_bd HCV'.1 HCV'.2 Bd
          have HQ := Lib.hid hq
          have HQB := Lib.hid hqb
          have HCK := Lib.hid (fun W => show Calls Tryd.prog 77 #[.int .i64 cv, .string (xl.extract (A.length + 1) xl.size)] W fun e w' => e = .returned (.int .i64 q) ∧ W = w' by
            have h := c_l01Check cv (strB Bd) HCV'.1 HCV'.2 (by rw [strB_size]; have := HL8.out; rw [HLEN.out] at this; unfold maxLen; omega) W
            rw [strB_list, hq] at h
            rw [HEB0]
            exact h)
          have hy0 : ∃ y, strB (Lib.itoa q) = y := ⟨_, rfl⟩
          obtain ⟨y, hy⟩ := hy0
          have HY := Lib.hid hy
          have HD := Lib.hid (fun W => show Calls Tryd.prog 52 #[.int .i64 q] W fun e w' => e = .returned (.string y) ∧ Below W.heap.size W w' by rw [← hy]; exact c_l01Dec q (by omega) (by omega) W)
          have hsz : (xl.size : Int) ≤ 8000 := by rw [HSZ.out]; have := HL8.out; omega
          have hal : (A.length : Int) < (xl.size : Int) := by omega
          have hal2 : (A.length : Int) ≤ (xl.size : Int) := by omega
          have hal0 : (0 : Int) ≤ (A.length : Int) := by omega
          have hal1 : (A.length : Int) + 1 ≤ (xl.size : Int) := by omega
          have hae : ((A.length : Int) == (xl.size : Int)) = false := beq_eq_false_iff_ne.2 (by omega)
          have HBS := Lib.hid hBS
          have HC9 := Lib.hid (fun w' (h : OwnS w' w.heap.size (some ⟨b, off, none⟩) pc qs) => show w'.cell? ⟨b, off + k, none⟩ = some (.string xl) by
            obtain ⟨b9, off9, y9, e9, _, hy9, hc9, _⟩ := (PSX.out w' h).one (show k < n + 1 by omega)
            injection e9 with e9
            injection e9 with e9a e9b _
            subst e9a e9b
            rw [hc9]
            rw [List.getElem?_map, ← HPK.out k hlt, HLl.out] at hy9
            have hy8 : strB (A ++ 32 :: Bd) = y9 := Option.some.inj hy9
            rw [← hy8, HXLE.out])
          have bl : Below wr.heap.size wr wr.drew := (Below.refl _ _).drew
          have BD := Lib.hid (Below.next HL.out bl)
          have HOD := Lib.hid (HO.out.kept bl)
          have HQD := Lib.hid (HQR.out.kept bl)
          clear hs hA HCV' HEA0 HEB0 hxl hq hqb hy bl
          go_wp2_with fail
          go_loop [11] (fun vj => ∃ j : Nat, j ≤ A.length ∧ vj = .int .i64 j) (fun vj => A.length - (intOf vj).toNat)
          case atStart => exact ⟨0, Nat.zero_le _, rfl⟩
          case round =>
            obtain ⟨j, hj, rfl⟩ := hrel
            by_cases hjl : j < A.length
            · have hjx : j < xl.size := by omega
              have hjl' : (j : Int) < (xl.size : Int) := by omega
              have hne := HB1.out j hjx hjl
              clear hBS
              go_wp2_with fail
              go_round
              case rel => exact ⟨j + 1, by omega, by go_num⟩
              case measure => simp [intOf]; omega
            · obtain rfl : j = A.length := by omega
              have he := HB2.out hBS
              by_cases hg : A = Lib.itoa q
              · have hcmp : ((xl.extract 0 A.length).toList == y.toList) = true := by rw [HEA.out, ← HY.out, ← hg]; exact beq_self_eq_true _
                have HGD2 := Lib.hid (show goodL cv (A ++ 32 :: Bd) = true by rw [HGD.out, HQ.out]; exact decide_eq_true hg)
                clear hg
                go_wp2_with fail
                refine (HCK.out wr).mono ?_
                rintro e w4 ⟨rfl, rfl⟩
                go_wp2_with fail
                go_region_held3 (fun w' => w'.cell? ⟨b, off + k, none⟩ = some (.string xl)) (go_keep)
                  (first
                    | (go_at_call 52
                       refine (HD.out wr.drew).mono ?_
                       rintro e w4 ⟨rfl, bl⟩
                       have B4 := Lib.hid (Below.next BD.out bl)
                       have O4 := Lib.hid (HOD.out.kept bl)
                       have Q4 := Lib.hid (HQD.out.kept bl)
                       have hc2 := (bl.cell (p := ⟨b, off + k, none⟩) (by simpa using HBK.out)).trans (by simpa using hc)
                       clear bl hc
                       have hc := hc2
                       clear hc2))
                all_goals
                  have hcs := hc
                  have A1 := Lib.hid (show k + 1 ≤ maxLen by unfold maxLen; have := HNI.out; omega)
                  have A2 := Lib.hid (show (k + 1) * 16 ≤ 140737488355328 by have := HNI.out; omega)
                  have A3 := Lib.hid B4.out.size
                  have HO5 := Lib.hid (show (w4.alloc (.cells #[.string (xl.extract (A.length + 1) xl.size)] 9)).ownsRow w.heap.size 9 1 (.slice a k c) k (ls.map fun l => Value.string (strB l)) by rw [← HLK.out]; exact strC_own O4.out)
                  have HQ5 := Lib.hid (Q4.out.kept ((Below.refl _ _).alloc (Nat.le_refl _) (.cells #[.string (xl.extract (A.length + 1) xl.size)] 9)))
                  have hm8 : (m : Int) ≤ 8000 := by have := HSM.out; omega
                  have hm0 : (0 : Int) ≤ (m : Int) := by omega
                  clear hcs
                  go_wp2_with (at_builtin; refine wpList_append_any _ rfl (.tmp 72) (.tmp 74) 44 rfl w.heap.size 9 i0 (.string ByteArray.empty) 1 16 Tryd.underlying44 JI.out HZ0.out HZ1.out HZ2.out rfl Nat.one_pos (.slice a k c) k (ls.map fun l => Value.string (strB l)) rfl HO5.out (w4.heap.size + 1) (some ⟨w4.heap.size, 0, none⟩) 1 1 [.string (xl.extract (A.length + 1) xl.size)] rfl str_reads (one_str _) A1.out A2.out (strC_base A3.out) ?_; intro v' w' hown hgr hat; obtain ⟨a', c1, rfl⟩ := ownsRow_slice hown; have HMD := Lib.hid (strC_next HLK.out O4.out (Nat.le_refl _) B4.out HEB.out hown hgr); have HPN2 := Lib.hid (HQ5.out.apart (b := a) (by rw [← ownBlock_slice]; exact hgr) (fun g h1 h2 => HAP.out g h2 h1)); have HAT := Lib.hid hat; have hc9 := HC9.out w' HPN2.out; clear hown hgr hat)
                  go_roundw
                  case rel =>
                    obtain ⟨t1, t2⟩ := HMD.out
                    have hrl := recL_yes (c := cv) (ps.drop (k + 1)) HGD2.out
                    rw [← HDN.out, HBO.out, HQ.out] at hrl
                    have q1 := E1.out
                    have q2 := E2.out
                    have q3 := HSM.out
                    rw [hrl] at q1 q2
                    rw [HDN.out, sumL_cons] at q3
                    have q4 := HSZ.out
                    have q2' : (recL 0 ps).2 = m + ((A ++ 32 :: Bd).length + 1 + (recL q (ps.drop (k + 1))).2) := q2
                    refine ⟨k + 1, a', c1, ls ++ [Bd], q, m + (xl.size + 1), hlt, by go_num, by rw [List.length_append, HLK.out]; rfl, rfl, by go_num, HQB.out.1, HQB.out.2, by rw [List.length_append, HLK.out]; rfl, t1, t2, HPN2.out, fun g h1 h2 => ?_, by omega, by rw [q1]; simp, by omega⟩
                    have h3 := (Q4.out.lt g h2).2
                    rcases HAT.out with h | h
                    · rw [ownBlock_slice, ownBlock_slice] at h
                      exact HAP.out g (h.symm.trans h1) h2
                    · rw [ownBlock_slice, h1] at h
                      injection h with h
                      rw [World.size_alloc] at h
                      omega
                  case measure => simp [intOf]; omega
              · have hcmp : ((xl.extract 0 A.length).toList == y.toList) = false := by
                  rw [HEA.out, ← HY.out, ByteArray.toList_eq, ByteArray.toList_eq, strB_list, strB_list, beq_eq_false_iff_ne]
                  exact hg
                have HG := Lib.hid (recL_no (ps.drop (k + 1)) (show goodL cv (A ++ 32 :: Bd) = false by rw [HGD.out, HQ.out]; exact decide_eq_false hg))
                rw [← HDN.out] at HG
                have H1 := Lib.hid (show (recL 0 ps).1 = ls by rw [E1.out, HG.out]; exact List.append_nil _)
                have H2 := Lib.hid (show (recL 0 ps).2 = m by rw [E2.out, HG.out]; rfl)
                clear hg
                go_wp2_with fail
                refine (HCK.out wr).mono ?_
                rintro e w4 ⟨rfl, rfl⟩
                go_wp2_with fail
                go_region_held3 (fun w' => w'.cell? ⟨b, off + k, none⟩ = some (.string xl)) (go_keep)
                  (first
                    | (go_at_call 52
                       refine (HD.out wr.drew).mono ?_
                       rintro e w4 ⟨rfl, bl⟩
                       have B4 := Lib.hid (Below.next BD.out bl)
                       have O4 := Lib.hid (HOD.out.kept bl)
                       have Q4 := Lib.hid (HQD.out.kept bl)
                       have hc2 := (bl.cell (p := ⟨b, off + k, none⟩) (by simpa using HBK.out)).trans (by simpa using hc)
                       clear bl hc
                       have hc := hc2
                       clear hc2))
                all_goals
                  go_wp2_with fail
                  go_ret3
                  exact ⟨a, c, ls, by rw [HV.out, HLK.out]; show _ = Ending.returned (Value.tuple #[_, .int .i64 (((recT 0 x.data.toList).2 : Nat) : Int), .bool true]); rw [HRT.out, H2.out]; rfl, O4.out, by rw [HV.out]; show ls = (recT 0 x.data.toList).1; rw [HRT.out, H1.out], B4.out⟩
end Go.Proofs.YtokminhnkmhneaaDoor
