/-
  ReadList: its values, and the model's. Conditions: the text has at most 2 ^ 20 bytes.
-/
import Derived.Test.YtokminhnkmhneaaDoorCta
import Derived.Test.YtokminhnkmhneaaDoorRdn
import Derived.Test.YtokminhnkmhneaaDoorGrJ
namespace Go.Proofs.YtokminhnkmhneaaDoor
open Go.RowKit Go.Deep Go.WideShapes Go.ChangeShapes
set_option linter.unusedVariables false
set_option linter.unusedSimpArgs false

def okRL (l : List UInt8) : Bool := decide ((parts 44 l).length ≤ 64) && (parts 44 l).all okRD
def vRL (l : List UInt8) : Bool × List Int := if l = noneT then (true, []) else if okRL l = true then (true, (parts 44 l).map mv) else (false, [])
theorem vRL_none {l : List UInt8} (h : l = noneT) : vRL l = (true, []) := if_pos h
theorem vRL_no {l : List UInt8} (h : l ≠ noneT) (h2 : okRL l = false) : vRL l = (false, []) := by unfold vRL; rw [if_neg h, h2]; rfl
theorem vRL_yes {l : List UInt8} (h : l ≠ noneT) (h2 : okRL l = true) : vRL l = (true, (parts 44 l).map mv) := by unfold vRL; rw [if_neg h, if_pos h2]
theorem vRL_len (l : List UInt8) : (vRL l).2.length ≤ 64 := by
  unfold vRL
  split
  · simp
  · split
    · rename_i h
      simp only [okRL, Bool.and_eq_true, decide_eq_true_eq] at h
      simpa using h.1
    · simp
theorem okRL_long {l : List UInt8} (h : 64 < (parts 44 l).length) : okRL l = false := by unfold okRL; rw [decide_eq_false (by omega)]; rfl
theorem okRL_bad {l : List UInt8} {k : Nat} {p : List UInt8} (h : (parts 44 l)[k]? = some p) (hp : okRD p = false) : okRL l = false := by
  unfold okRL
  have : (parts 44 l).all okRD = false := by
    rw [List.all_eq_false]
    exact ⟨p, List.mem_of_getElem? h, by rw [hp]; decide⟩
  rw [this, Bool.and_false]
theorem okRL_yes {l : List UInt8} (h : (parts 44 l).length ≤ 64) (h2 : (parts 44 l).all okRD = true) : okRL l = true := by unfold okRL; rw [decide_eq_true h, h2]; rfl
theorem mv_wf {p : List UInt8} (h : okRD p = true) : (Lit.int .i64 (mv p)).wf = true := by
  obtain ⟨h1, h2⟩ := listable_of (rd_ok h).2.1
  simp [Lit.wf, IntKind.min, IntKind.max, IntKind.signed, IntKind.bits]
  omega
theorem okp_next {ps : List (List UInt8)} {k : Nat} {p : List UInt8} (h : ps[k]? = some p) (ha : (ps.take k).all okRD = true) (hp : okRD p = true) : (ps.take (k + 1)).all okRD = true := by
  rw [List.take_add_one, h, List.all_append, ha]
  simp [hp]
theorem mvs_next {ps : List (List UInt8)} {k : Nat} {p : List UInt8} (h : ps[k]? = some p) : (ps.take (k + 1)).map mv = (ps.take k).map mv ++ [mv p] := by
  rw [List.take_add_one, h, List.map_append]
  rfl
theorem parts_sizes {m : UInt8} : ∀ {l p : List UInt8}, p ∈ parts m l → p.length ≤ l.length
  | [], p, h => by simp [parts] at h; subst h; simp
  | c :: r, p, h => by
    rw [parts] at h
    split at h
    · rcases List.mem_cons.1 h with rfl | h
      · simp
      · exact Nat.le_succ_of_le (parts_sizes h)
    · split at h
      · simp at h; subst h; simp
      · rename_i x xs hx
        rcases List.mem_cons.1 h with rfl | h
        · have := parts_sizes (m := m) (l := r) (p := x) (by rw [hx]; exact List.mem_cons_self ..)
          simpa using this
        · exact Nat.le_succ_of_le (parts_sizes (by rw [hx]; exact List.mem_cons_of_mem _ h))
theorem parts_count (m : UInt8) : ∀ l : List UInt8, (parts m l).length ≤ l.length + 1
  | [] => by simp [parts]
  | c :: r => by
    have ih := parts_count m r
    rw [parts]
    split
    · simpa using ih
    · split
      · simp
      · rename_i x xs hx
        rw [hx] at ih
        simp at ih ⊢
        omega
theorem intG_next {B n : Nat} {w wr w' : World} {b a' : Option Addr} {cp cp' : Nat} {v : Int} {ys : List Int} (hn : ys.length = n) (ho : OwnI wr B b cp ys) (hB : w.heap.size ≤ B) (hl : Below w.heap.size w wr) (hv : (Lit.int .i64 v).wf = true)
    (hown : w'.ownsRow B 2 1 (.slice a' (n + 1) cp') (n + 1) (ys.map toV ++ [.int .i64 v])) (hg : (wr.alloc (.cells #[.int .i64 v] 2)).grownBy w' (Value.ownBlock (.slice b n cp))) :
    OwnI w' B a' cp' (ys ++ [v]) ∧ Below w.heap.size w w' := by
  rw [ownBlock_slice] at hg
  have bw : Below wr.heap.size wr (wr.alloc (.cells #[.int .i64 v] 2)) := (Below.refl _ _).alloc (Nat.le_refl _) _
  have ho1 := ho.kept bw
  subst hn
  refine ⟨⟨by simpa [toV] using hown, fun y hy' => ?_⟩, (hl.trans (bw.mono hl.size)).grown hg (Nat.le_trans hl.size bw.size) (fun g h => Nat.le_trans hB (ho1.lt g h).1)⟩
  rcases List.mem_append.1 hy' with h | h
  · exact ho.2 _ h
  · simp at h; subst h; exact hv
theorem OwnS.base {w : World} {B B' : Nat} {a : Option Addr} {cap : Nat} {ls : List (List UInt8)} (h : OwnS w B a cap ls) (hb : B' ≤ B) : OwnS w B' a cap ls := by
  refine ⟨h.1, ?_⟩
  rcases h.2 with h' | ⟨g, c, cur, hv, hB, r⟩
  · exact .inl h'
  · exact .inr ⟨g, c, cur, hv, by omega, r⟩
theorem OwnS.apart {w w' : World} {B : Nat} {a b : Option Addr} {cap : Nat} {ls : List (List UInt8)} (h : OwnS w B a cap ls) (hg : w.grownBy w' (blk b)) (hne : ∀ g, blk a = some g → blk b ≠ some g) : OwnS w' B a cap ls := by
  refine World.ownsRow.kept h hg ?_
  rw [ownBlock_slice]
  cases ha : blk a with
  | none => exact .inl rfl
  | some g => exact .inr (fun e => hne g ha e.symm)
def LnRel (ps : List (List UInt8)) (n : Nat) (pa : Option Addr) (pc : Nat) (w : World) (s i : Value) (wr : World) : Prop :=
  ∃ (k : Nat) (a : Option Addr) (c : Nat) (ys : List Int), k ≤ n ∧ i = .int .i64 k ∧ s = .slice a ys.length c ∧ ys = (ps.take k).map mv ∧ OwnI wr w.heap.size a c ys ∧ (ps.take k).all okRD = true ∧ Below w.heap.size w wr ∧ OwnS wr w.heap.size pa pc ps ∧ ∀ g, blk a = some g → blk pa ≠ some g
set_option maxRecDepth 20000 in
set_option maxHeartbeats 4000000 in
theorem c_l01Numbers (x : ByteArray) (hx : x.size ≤ 1048576) (w : World) : Calls Tryd.prog 68 #[.string x] w (RetI (vRL x.data.toList).1 (vRL x.data.toList).2 w) := by
  obtain ⟨i0, hi, hz0, hz1, hz2⟩ := info_parts info_j64
  have JI := Lib.hid hi
  have HZ0 := Lib.hid hz0
  have HZ1 := Lib.hid hz1
  have HZ2 := Lib.hid hz2
  have B0 := Lib.hid (show Below w.heap.size w (w.alloc (.cells #[] 2)) from (Below.refl _ _).alloc (Nat.le_refl _) _)
  have O0 := Lib.hid (show OwnI (w.alloc (.cells #[] 2)) w.heap.size (some ⟨w.heap.size, 0, none⟩) 0 [] from ⟨World.ownsRow_made w #[] 0 (Nat.le_refl _) (by unfold maxLen; omega) rfl, fun _ h => by cases h⟩)
  have HC := Lib.hid (fun W => show Calls Tryd.prog 107 #[.string x, .int .u8 44] W _ from c_l01Cut 44 x hx W)
  have HXL := Lib.hid (show x.data.toList.length = x.size from Array.length_toList)
  clear hi hz0 hz1 hz2
  by_cases hno : x.data.toList = noneT
  · have HV := Lib.hid (vRL_none hno)
    have hxs : x = ⟨#[110, 111, 110, 101]⟩ := by
      apply ByteArray.ext
      apply Array.toList_inj.1
      exact hno
    have HXS := Lib.hid hxs
    rw [HV.out]
    clear hno hx
    rw [hxs]
    clear hxs
    go_enter Tryd.func68, Tryd.ntmps68
    go_wp2_with fail
    go_ret2
    exact ⟨_, _, [], rfl, O0.out, rfl, B0.out⟩
  · have HNO := Lib.hid hno
    have hnb : (x.toList == [110, 111, 110, 101]) = false := by rw [ByteArray.toList_eq, beq_eq_false_iff_ne]; exact hno
    have HPS := Lib.hid (fun p (hp : p ∈ parts 44 x.data.toList) => parts_sizes hp)
    have HNC := Lib.hid (parts_count 44 x.data.toList)
    clear hno
    go_enter Tryd.func68, Tryd.ntmps68
    go_wp2_with fail
    refine (HC.out _).mono ?_
    rintro e w2 ⟨pa, pc, rfl, hps, hb⟩
    have B2 := Lib.hid (Below.next B0.out hb)
    have O2 := Lib.hid (O0.out.kept hb)
    obtain ⟨ps, hpsE⟩ : ∃ ps, parts 44 x.data.toList = ps := ⟨_, rfl⟩
    have HPE := Lib.hid hpsE
    rw [hpsE] at hps HPS HNC
    rw [hpsE]
    have AP0 := Lib.hid (show ∀ g, blk (some ⟨w.heap.size, 0, none⟩) = some g → blk pa ≠ some g from fun g h1 h2 => by
      have h3 := (hps.lt g h2).1
      rw [World.size_alloc] at h3
      simp [blk] at h1
      omega)
    have PO := Lib.hid (hps.base (show w.heap.size ≤ (w.alloc (.cells #[] 2)).heap.size by rw [World.size_alloc]; exact Nat.le_succ _))
    have PSX := Lib.hid (fun W (h : OwnS W w.heap.size pa pc ps) => h.isStrs (fun l hl => by have h1 := HPS.out l hl; have h2 := HXL.out; unfold maxLen; omega))
    obtain ⟨n, hn⟩ : ∃ n, ps.length = n := ⟨_, rfl⟩
    have HN := Lib.hid hn
    rw [hn] at PSX HNC ⊢
    have hn1 : n ≤ 1048577 := by have := HNC.out; have := HXL.out; omega
    have hni : (n : Int) ≤ 1048577 := by omega
    clear hps hb hpsE hn
    generalize w.alloc (.cells #[] 2) = w0 at *
    by_cases h64 : n ≤ 64
    case neg =>
      have hgt : (64 : Int) < (n : Int) := by omega
      have HV := Lib.hid (vRL_no HNO.out (okRL_long (by rw [HPE.out, HN.out]; omega)))
      clear h64
      go_wp2_with fail
      go_ret2
      exact ⟨none, 0, [], by rw [HV.out]; rfl, ⟨World.ownsRow_nil _ _ _ _, fun _ h => by cases h⟩, by rw [HV.out], B2.out⟩
    case pos =>
      have hle : ¬ (64 : Int) < (n : Int) := by omega
      have H64 := Lib.hid h64
      clear h64 hni hn1
      go_wp2_with fail
      go_loopw [4, 6] (fun s i wr => LnRel ps n pa pc w s i wr) (fun _ i _ => n - (intOf i).toNat)
      case atStart => exact ⟨0, _, 0, [], Nat.zero_le _, rfl, rfl, rfl, O2.out, rfl, B2.out, PO.out, AP0.out⟩
      case round =>
        obtain ⟨k, a, c, ys, hk, rfl, rfl, hys, ho, hal, hb, hpo, hap⟩ := hrel
        have HPO := Lib.hid hpo
        have HAP := Lib.hid hap
        have HO := Lib.hid ho
        have HL := Lib.hid hb
        have HA := Lib.hid hal
        have HYS := Lib.hid hys
        have hk0 : (0 : Int) ≤ (k : Int) := by omega
        have A3 := Lib.hid HL.out.size
        have hyl : ys.length = k := by rw [hys, List.length_map, List.length_take, HN.out]; omega
        clear ho hb hal hys hpo hap
        by_cases hlt : k < n
        · have hlt' : (k : Int) < (n : Int) := by omega
          obtain ⟨b, off, x0, rfl, hbk, hx0, c1, _⟩ := (PSX.out wr HPO.out).one hlt
          obtain ⟨p, hp, rfl⟩ : ∃ p, ps[k]? = some p ∧ strB p = x0 := by
            rw [List.getElem?_map] at hx0
            obtain ⟨p, h1, h2⟩ := Option.map_eq_some_iff.1 hx0
            exact ⟨p, h1, h2⟩
          have HP := Lib.hid hp
          have hpm := HPS.out p (List.mem_of_getElem? hp)
          have HCV := Lib.hid (fun W => c_l01Value (strB p) (by rw [strB_size]; have := HXL.out; unfold maxLen; omega) W)
          rw [strB_list] at HCV
          clear hx0 hp hbk hpm
          cases hok : okRD p with
          | false =>
            have HV := Lib.hid (vRL_no HNO.out (okRL_bad (l := x.data.toList) (k := k) (p := p) (by rw [HPE.out]; exact HP.out) hok))
            rw [vRD_no hok] at HCV
            clear hok hyl
            go_wp2_with fail
            refine (HCV.out wr).mono ?_
            rintro e w3 ⟨rfl, hb⟩
            have B3 := Lib.hid (Below.next HL.out hb)
            clear hb
            go_wp2_with fail
            go_ret2
            exact ⟨none, 0, [], by rw [HV.out]; rfl, ⟨World.ownsRow_nil _ _ _ _, fun _ h => by cases h⟩, by rw [HV.out], B3.out⟩
          | true =>
            have HWF := Lib.hid (mv_wf hok)
            have HAN := Lib.hid (okp_next HP.out HA.out hok)
            have HMN := Lib.hid (mvs_next HP.out)
            rw [vRD_yes hok] at HCV
            obtain ⟨v, hv⟩ : ∃ v, mv p = v := ⟨_, rfl⟩
            have HVE := Lib.hid hv
            rw [hv] at HWF HMN
            simp only [hv] at HCV
            have HYL := Lib.hid hyl
            rw [hyl]
            have A1 := Lib.hid (show k + 1 ≤ maxLen by unfold maxLen; have := H64.out; omega)
            have A2 := Lib.hid (show (k + 1) * 8 ≤ 140737488355328 by have := H64.out; omega)
            clear hok hyl hv
            go_wp2_with fail
            refine (HCV.out wr).mono ?_
            rintro e w3 ⟨rfl, hb⟩
            have B3 := Lib.hid (Below.next HL.out hb)
            have O3 := Lib.hid (HO.out.kept hb)
            have P3 := Lib.hid (HPO.out.kept hb)
            have A3' := Lib.hid (Nat.le_trans A3.out hb.size)
            have HO3 := Lib.hid (show (w3.alloc (.cells #[.int .i64 v] 2)).ownsRow w.heap.size 2 1 (.slice a k c) k (ys.map toV) by rw [← HYL.out]; exact growJ_own O3.out)
            have HPA := Lib.hid (P3.out.kept ((Below.refl _ _).alloc (Nat.le_refl _) (.cells #[.int .i64 v] 2)))
            clear hb
            go_wp2_with (at_builtin; refine wpList_append_any _ rfl (.tmp 34) (.tmp 36) 36 rfl w.heap.size 2 i0 (.int .i64 0) 1 8 Tryd.underlying36 JI.out HZ0.out HZ1.out HZ2.out rfl Nat.one_pos (.slice a k c) k (ys.map toV) rfl HO3.out (w3.heap.size + 1) (some ⟨w3.heap.size, 0, none⟩) 1 1 [.int .i64 v] rfl growJ_reads (one_i64 _) A1.out A2.out (growJ_base A3'.out) ?_; intro v' w' hown hgr hat; obtain ⟨a', c', rfl⟩ := ownsRow_slice hown; have HMD := Lib.hid (intG_next HYL.out O3.out (Nat.le_refl _) B3.out HWF.out hown hgr); have HPN := Lib.hid (HPA.out.apart (b := a) (by rw [← ownBlock_slice]; exact hgr) (fun g h1 h2 => HAP.out g h2 h1)); have HAT := Lib.hid hat; clear hown hgr hat)
            go_roundw
            case rel =>
              obtain ⟨t1, t2⟩ := HMD.out
              refine ⟨k + 1, a', c', ys ++ [v], hlt, by go_num, by rw [List.length_append, HYL.out]; rfl, by rw [HMN.out, HYS.out], t1, HAN.out, t2, HPN.out, fun g h1 h2 => ?_⟩
              have h3 := (P3.out.lt g h2).2
              rcases HAT.out with h | h
              · rw [ownBlock_slice, ownBlock_slice] at h
                exact HAP.out g (h.symm.trans h1) h2
              · rw [ownBlock_slice, h1] at h
                injection h with h
                rw [World.size_alloc] at h
                omega
            case measure => simp [intOf]; omega
        · obtain rfl : k = n := by omega
          have hall : ps.take k = ps := List.take_of_length_le (by rw [HN.out]; exact Nat.le_refl _)
          have hA := HA.out
          rw [hall] at hA
          have HV := Lib.hid (vRL_yes HNO.out (okRL_yes (by rw [HPE.out, HN.out]; exact H64.out) (by rw [HPE.out]; exact hA)))
          have hY := HYS.out
          rw [hall] at hY
          have HY := Lib.hid hY
          clear hall hA hY hyl
          go_wp2_with fail
          go_ret2
          exact ⟨a, c, ys, by rw [HV.out]; rfl, HO.out, by rw [HV.out, HPE.out]; exact HY.out, HL.out⟩
end Go.Proofs.YtokminhnkmhneaaDoor
