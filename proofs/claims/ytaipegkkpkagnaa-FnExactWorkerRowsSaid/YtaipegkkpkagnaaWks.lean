/-
  WorkerRows: the rows as the program and the model make them. Conditions: at most 16 rows and 8 workers, no more than rows.
-/
import Derived.Test.YtaipegkkpkagnaaWkr
import Derived.Test.YtaipegkkpkagnaaFun
namespace Go.Proofs.Ytaipegkkpkagnaa
open Go.RowKit Go.Deep Go.WideShapes Go.ChangeShapes
set_option linter.unusedVariables false
set_option linter.unusedSimpArgs false

/-- one list more behind those that are there -/
theorem il_next {wr w5 w' : World} {B : Nat} {q a' : Option Addr} {cp c' : Nat} {ys : List IlA} {x : IlA} {tmp : Obj}
    (ho : wr.ownsRow B 86 1 (.slice q ys.length cp) ys.length (ys.map IlA.v)) (hx : OwnL wr B (ilC ys)) (hnd : (blL [.sl 86 1 ys.length q cp (ilC ys)]).Nodup)
    (hb5 : Below wr.heap.size wr w5) (hox : OwnL w5 wr.heap.size [x.cl]) (hndx : (blL [x.cl]).Nodup) (hB : B ≤ wr.heap.size)
    (hown : w'.ownsRow B 86 1 (.slice a' (ys.length + 1) c') (ys.length + 1) (ys.map IlA.v ++ [x.v])) (hg : (w5.alloc tmp).grownBy w' (Value.ownBlock (.slice q ys.length cp)))
    (hat : (Value.slice a' (ys.length + 1) c').ownBlock = (Value.slice q ys.length cp).ownBlock ∨ (Value.slice a' (ys.length + 1) c').ownBlock = some (w5.alloc tmp).heap.size) :
    w'.ownsRow B 86 1 (.slice a' (ys ++ [x]).length c') (ys ++ [x]).length ((ys ++ [x]).map IlA.v) ∧ OwnL w' B (ilC (ys ++ [x])) ∧ (blL [.sl 86 1 (ys ++ [x]).length a' c' (ilC (ys ++ [x]))]).Nodup ∧ Below B wr w' := by
  have ba : Below w5.heap.size w5 (w5.alloc tmp) := (Below.refl _ _).alloc (Nat.le_refl _) _
  have b6 : Below wr.heap.size wr (w5.alloc tmp) := Below.next hb5 ba
  rw [ownBlock_slice] at hg
  rw [ownBlock_slice, ownBlock_slice] at hat
  have hG := GrownIn.of_grown hg
  simp only [blL, Cl.bl, List.append_nil] at hnd
  obtain ⟨n1, n2, n3⟩ := List.nodup_append.1 hnd
  have o1 : OwnL (w5.alloc tmp) B (ilC ys) := OwnL.kept hx b6
  have o2 : OwnL (w5.alloc tmp) wr.heap.size [x.cl] := OwnL.kept hox ba
  have hq : ∀ g ∈ (blk q).toList, B ≤ g ∧ g < wr.heap.size := ownsRow_lt ho
  have p1 : OwnL w' B (ilC ys) := OwnL.apart hG _ o1 (fun g h1 h2 => n3 g h2 g h1 rfl)
  have p2 : OwnL w' wr.heap.size [x.cl] := OwnL.apart hG _ o2 (fun g h1 h2 => by have := (OwnL.lt _ o2 g h1).1; have := (hq g h2).2; omega)
  refine ⟨by simpa using hown, ?_, ?_, ?_⟩
  · rw [ilC_append, OwnL_append]
    exact ⟨p1, OwnL.base hB _ p2⟩
  · simp only [blL, Cl.bl, List.append_nil]
    rw [ilC_append, blL_append]
    have hxx : ∀ g ∈ blL (ilC ys), g ∉ blL (ilC [x]) := fun g h1 h2 => by
      have e1 := (OwnL.lt _ hx g h1).2
      have e2 := (OwnL.lt _ o2 g h2).1
      omega
    refine List.nodup_append.2 ⟨nodup1 _, List.nodup_append.2 ⟨n2, hndx, fun g h1 k h2 e => hxx g h1 (e ▸ h2)⟩, ?_⟩
    rintro g h1 k h2 rfl
    rcases hat with h | h
    · rw [h] at h1
      rcases List.mem_append.1 h2 with h2 | h2
      · exact n3 g h1 g h2 rfl
      · have := (hq g h1).2
        have := (OwnL.lt _ o2 g h2).1
        omega
    · rw [h] at h1
      simp only [Option.toList_some, List.mem_singleton] at h1
      rcases List.mem_append.1 h2 with h2 | h2
      · have := (OwnL.lt _ o1 g h2).2
        omega
      · have := (OwnL.lt _ o2 g h2).2
        omega
  · exact (b6.mono hB).trans (hG.below (Nat.le_trans hB b6.size) (fun g h => (hq g h).1))
theorem rowW_cl (w : World) (a b : Int) : OwnL (w.alloc (.cells #[.int .i64 a, .int .i64 b] 2)) w.heap.size [IlA.cl ⟨[a, b], some ⟨w.heap.size, 0, none⟩, 2⟩] := by
  simp only [IlA.cl, inC, OwnL, Cl.Own, and_true, vs, List.map_cons, List.map_nil, Cl.v, List.length_cons, List.length_nil]
  exact ⟨by simp, .inr ⟨w.heap.size, 2, _, rfl, Nat.le_refl _, heap_alloc_new w _, Nat.le_refl _, by unfold maxLen; omega, rfl, by simp⟩⟩
theorem rowW_nd (a : List Int) (s c : Nat) : (blL [IlA.cl ⟨a, some ⟨s, 0, none⟩, c⟩]).Nodup := by
  have := inC_bl (some ⟨s, 0, none⟩) c a
  simp only [IlA.cl]
  rw [this]
  simp [blk]

/-! the model -/
theorem info_il : (Try.prog.info? 86).map (fun i => (i.zero, i.size, i.bytes)) = some (some (.slice none 0 0), 1, 24) := by kernel_rfl
theorem il_reads {w1 : World} {v : Value} : Reads (w1.alloc (.cells #[v] 86)) (w1.heap.size + 1) 1 (some ⟨w1.heap.size, 0, none⟩) 1 [v] := by
  refine ⟨rfl, fun _ => ⟨_, rfl, by simp, fun j u hu => ?_⟩⟩
  rw [add_plain]
  have := (Blk.new w1 86 #[v]).cell (0 + j)
  rw [this, Nat.zero_add]
  simpa using hu
theorem il_one (a : Option Addr) (n c : Nat) : ∀ u ∈ [Value.slice a n c], u.oneCell' = true := by intro u hu; simp at hu; subst hu; rfl
def WksRel (R N : Nat) (w : World) (ov fv kv : Value) (wr : World) : Prop :=
  ∃ (k : Nat) (ys : List IlA) (q : Option Addr) (cp : Nat), k ≤ N ∧ kv = .int .i64 k ∧ fv = .int .i64 (fstW R N k : Int) ∧ ov = .slice q ys.length cp ∧ ys.map IlA.z = (List.range k).map (rowW R N) ∧
    wr.ownsRow w.heap.size 86 1 (.slice q ys.length cp) ys.length (ys.map IlA.v) ∧ OwnL wr w.heap.size (ilC ys) ∧ (blL [.sl 86 1 ys.length q cp (ilC ys)]).Nodup ∧ Below w.heap.size w wr
def RetIlR (zs : List (List Int)) (w : World) (e : Ending) (w' : World) : Prop :=
  ∃ gs cap ys, e = .returned (.slice gs (List.length ys) cap) ∧ OwnL w' w.heap.size [.sl 86 1 ys.length gs cap (ilC ys)] ∧ (blL [.sl 86 1 ys.length gs cap (ilC ys)]).Nodup ∧ ys.map (fun x => x.z) = zs ∧ Below w.heap.size w w'
set_option maxRecDepth 20000 in
set_option maxHeartbeats 4000000 in
theorem c_l10Rows (R N : Nat) (hR : R ≤ 16) (hN : N ≤ 8) (h1 : 1 ≤ N) (w : World) :
    Calls Try.prog 77 #[.int .i64 R, .int .i64 N] w (RetIlR (rowsW R N) w) := by
  obtain ⟨i0, hi, hz0, hz1, hz2⟩ := info_parts info_il
  have HI := Lib.hid hi
  have HZ0 := Lib.hid hz0
  have HZ1 := Lib.hid hz1
  have HZ2 := Lib.hid hz2
  have HR := Lib.hid hR
  have j1 := quoW (R := R) (N := N)
  have j2 := remW (R := R) (N := N)
  have j3 : ((R : Int) / (N : Int)) = ((R / N : Nat) : Int) := (Int.natCast_ediv R N).symm
  have j4 : ((R : Int) % (N : Int)) = ((R % N : Nat) : Int) := (Int.natCast_emod R N).symm
  obtain ⟨qq, hqq⟩ : ∃ qq, R / N = qq := ⟨_, rfl⟩
  obtain ⟨mm, hmm⟩ : ∃ mm, R % N = mm := ⟨_, rfl⟩
  have hq0 : qq ≤ 16 := by rw [← hqq]; exact Nat.le_trans (Nat.div_le_self _ _) hR
  have hC : ∀ k, cntW R N k = qq + if k < mm then 1 else 0 := fun k => by rw [← hqq, ← hmm]; rfl
  rw [hqq] at j1 j3
  rw [hmm] at j2 j4
  have HC := Lib.hid hC
  have hn0 : ¬ ((N : Int) = 0) := by omega
  have hN8 : (N : Int) ≤ 8 := by omega
  clear hi hz0 hz1 hz2 hqq hmm hC hR
  go_enter Try.func77, Try.ntmps77
  go_wp2_with fail
  go_loopw [5, 6, 7] (fun ov fv kv wr => WksRel R N w ov fv kv wr) (fun _ _ kv _ => N - (intOf kv).toNat)
  case atStart => exact ⟨0, [], some ⟨w.heap.size, 0, none⟩, 0, Nat.zero_le _, rfl, rfl, rfl, rfl, World.ownsRow_made (size := 1) w #[] 0 (Nat.le_refl _) (by unfold maxLen; omega) rfl, by simp [ilC, OwnL], by simp [blL, Cl.bl, ilC, blk], (Below.refl _ _).alloc (Nat.le_refl _) _⟩
  case round =>
    obtain ⟨k, ys, q, cp, hk, rfl, rfl, rfl, hyz, ho, hx, hnd, hb⟩ := hrel
    have HYZ := Lib.hid hyz
    have HO := Lib.hid ho
    have HX := Lib.hid hx
    have HND := Lib.hid hnd
    have HB := Lib.hid hb
    have hyl : ys.length = k := by simpa using congrArg List.length hyz
    have A1 := Lib.hid (show ys.length + 1 ≤ maxLen by unfold maxLen; omega)
    have A2 := Lib.hid (show (ys.length + 1) * 24 ≤ 140737488355328 by omega)
    have ROW1 := Lib.hid (fun o1 o2 => row_kept ho (((Below.refl wr.heap.size wr).alloc (Nat.le_refl _) o1).alloc (by simp) o2))
    have BAS1 := Lib.hid (fun o1 o2 => show w.heap.size ≤ ((wr.alloc o1).alloc o2).heap.size by have := hb.size; simp only [World.size_alloc]; omega)
    have RD := Lib.hid (fun o1 v => show Reads ((wr.alloc o1).alloc (.cells #[v] 86)) (wr.heap.size + 1 + 1) 1 (some ⟨wr.heap.size + 1, 0, none⟩) 1 [v] by have h := il_reads (w1 := wr.alloc o1) (v := v); simpa only [World.size_alloc] using h)
    have HYL := Lib.hid hyl
    have hf0 := fstW_le (N := N) HR.out k
    obtain ⟨F, hF⟩ : ∃ F, fstW R N k = F := ⟨_, rfl⟩
    have HF := Lib.hid hF
    rw [hF] at hf0 ⊢
    clear hyz ho hx hnd hb hF hyl
    by_cases hlt : k < N
    · have hlt' : (k : Int) < (N : Int) := by omega
      by_cases hm : k < mm
      · have hm' : (k : Int) < (mm : Int) := by omega
        go_wp2_with (at_builtin; refine wpList_append_any _ rfl (.tmp 25) (.tmp 29) 57 rfl w.heap.size 86 i0 (.slice none 0 0) 1 24 Try.underlying57 HI.out HZ0.out HZ1.out HZ2.out rfl Nat.one_pos (.slice q ys.length cp) ys.length (ys.map IlA.v) rfl (ROW1.out _ _) (wr.heap.size + 1 + 1) (some ⟨wr.heap.size + 1, 0, none⟩) 1 1 [.slice (some ⟨wr.heap.size, 0, none⟩) 2 2] rfl (RD.out _ _) (il_one _ _ _) A1.out A2.out (BAS1.out _ _) ?_; intro v' w' hown hgr hat; obtain ⟨a', c', rfl⟩ := ownsRow_slice hown; have HMD := Lib.hid (il_next (x := ⟨[(F : Int), (((qq + 1 : Nat) : Int) : Int)], some ⟨wr.heap.size, 0, none⟩, 2⟩) HO.out HX.out HND.out ((Below.refl wr.heap.size wr).alloc (Nat.le_refl _) (.cells #[.int .i64 F, .int .i64 (((qq + 1 : Nat) : Int) : Int)] 2)) (rowW_cl _ _ _) (rowW_nd _ _ _) HB.out.size hown hgr hat); clear hown hgr hat)
        go_roundw
        case rel =>
          obtain ⟨m1, m2, m3, m4⟩ := HMD.out
          refine ⟨k + 1, ys ++ [⟨[(F : Int), (((qq + 1 : Nat) : Int) : Int)], some ⟨wr.heap.size, 0, none⟩, 2⟩], a', c', by omega, by go_num, ?_, by simp, ?_, m1, m2, m3, HB.out.trans m4⟩
          · have e1 := HF.out
            have e2 := HC.out k
            rw [if_pos hm] at e2
            simp only [fstW, e1, e2]
            go_num
          · have e2 := HC.out k
            rw [if_pos hm] at e2
            rw [List.map_append, HYZ.out, List.range_succ, List.map_append]
            simp [rowW, HF.out, e2]
        case measure => simp [intOf]; omega
      · have hm' : ¬ (k : Int) < (mm : Int) := by omega
        go_wp2_with (at_builtin; refine wpList_append_any _ rfl (.tmp 25) (.tmp 29) 57 rfl w.heap.size 86 i0 (.slice none 0 0) 1 24 Try.underlying57 HI.out HZ0.out HZ1.out HZ2.out rfl Nat.one_pos (.slice q ys.length cp) ys.length (ys.map IlA.v) rfl (ROW1.out _ _) (wr.heap.size + 1 + 1) (some ⟨wr.heap.size + 1, 0, none⟩) 1 1 [.slice (some ⟨wr.heap.size, 0, none⟩) 2 2] rfl (RD.out _ _) (il_one _ _ _) A1.out A2.out (BAS1.out _ _) ?_; intro v' w' hown hgr hat; obtain ⟨a', c', rfl⟩ := ownsRow_slice hown; have HMD := Lib.hid (il_next (x := ⟨[(F : Int), (qq : Int)], some ⟨wr.heap.size, 0, none⟩, 2⟩) HO.out HX.out HND.out ((Below.refl wr.heap.size wr).alloc (Nat.le_refl _) (.cells #[.int .i64 F, .int .i64 (qq : Int)] 2)) (rowW_cl _ _ _) (rowW_nd _ _ _) HB.out.size hown hgr hat); clear hown hgr hat)
        go_roundw
        case rel =>
          obtain ⟨m1, m2, m3, m4⟩ := HMD.out
          refine ⟨k + 1, ys ++ [⟨[(F : Int), (qq : Int)], some ⟨wr.heap.size, 0, none⟩, 2⟩], a', c', by omega, by go_num, ?_, by simp, ?_, m1, m2, m3, HB.out.trans m4⟩
          · have e1 := HF.out
            have e2 := HC.out k
            rw [if_neg hm, Nat.add_zero] at e2
            simp only [fstW, e1, e2]
            go_num
          · have e2 := HC.out k
            rw [if_neg hm, Nat.add_zero] at e2
            rw [List.map_append, HYZ.out, List.range_succ, List.map_append]
            simp [rowW, HF.out, e2]
        case measure => simp [intOf]; omega
    · have hlt' : ¬ (k : Int) < (N : Int) := by omega
      obtain rfl : k = N := by omega
      go_wp2_with fail
      go_ret
      refine ⟨q, cp, ys, rfl, ?_, HND.out, HYZ.out, HB.out⟩
      simp only [OwnL, Cl.Own, and_true, vs_ilC]
      exact ⟨HO.out, HX.out⟩
theorem t_sWorkerRows (r n : Int) (w : World) : Calls Try.prog 21 #[.int .i64 r, .int .i64 n] w (RetIl (vWorkerRows r n).1 (vWorkerRows r n).2 w) := by
  unfold vWorkerRows
  obtain ⟨b, hb⟩ : ∃ b, okWR r n = b := ⟨_, rfl⟩
  have HB := Lib.hid hb
  have HC := Lib.hid (show Calls Try.prog 76 #[.int .i64 r, .int .i64 n] w fun e w' => e = .returned (.bool b) ∧ w = w' by rw [← hb]; exact c_l10Workers r n w)
  rw [hb]
  cases b with
  | false =>
    rw [if_neg (by simp)]
    clear hb
    go_enter Try.func21, Try.ntmps21
    go_wp2_with fail
    refine HC.out.mono ?_
    rintro e w' ⟨rfl, rfl⟩
    go_wp2_with fail
    go_ret2
    exact retIl_no (Below.refl _ _)
  | true =>
    rw [if_pos rfl]
    obtain ⟨h1, h2, h3, h4, h5⟩ := (okWR_iff r n).1 hb
    clear hb
    obtain ⟨R, rfl⟩ := Int.eq_ofNat_of_zero_le (show 0 ≤ r by omega)
    obtain ⟨N, rfl⟩ := Int.eq_ofNat_of_zero_le (show 0 ≤ n by omega)
    simp only [Int.toNat_natCast]
    have HR := Lib.hid (c_l10Rows R N (by omega) (by omega) (by omega) w)
    go_enter Try.func21, Try.ntmps21
    go_wp2_with fail
    refine HC.out.mono ?_
    rintro e w' ⟨rfl, rfl⟩
    go_wp2_with fail
    refine HR.out.mono ?_
    rintro e w2 ⟨gs, cap, ys, rfl, ho, hnd, hy, bl⟩
    have HO := Lib.hid ho
    have HY := Lib.hid hy
    clear ho hy
    go_wp2_with fail
    go_ret2
    exact ⟨gs, cap, ys, rfl, HO.out, hnd, HY.out, bl⟩
/-! the program -/
theorem info_prt : (Try.prog.info? 121).map (fun i => (i.zero, i.size, i.bytes)) = some (some (.agg #[.int .i64 0, .int .i64 0]), 2, 16) := by kernel_rfl
def prV (R N k : Nat) : List Value := (List.range k).flatMap fun i => [.int .i64 (fstW R N i : Int), .int .i64 (cntW R N i : Int)]
theorem prV_succ (R N k : Nat) : prV R N (k + 1) = prV R N k ++ [.int .i64 (fstW R N k : Int), .int .i64 (cntW R N k : Int)] := by
  unfold prV
  rw [List.range_succ, List.flatMap_append]
  simp
theorem prV_len (R N k : Nat) : (prV R N k).length = k * 2 := by
  induction k with
  | zero => rfl
  | succ k ih => rw [prV_succ, List.length_append, ih]; simp; omega
theorem prV_get (R N n i : Nat) (h : i < n) : (prV R N n)[i * 2]? = some (.int .i64 (fstW R N i : Int)) ∧ (prV R N n)[i * 2 + 1]? = some (.int .i64 (cntW R N i : Int)) := by
  induction n with
  | zero => omega
  | succ n ih =>
    rw [prV_succ]
    by_cases hi : i < n
    · obtain ⟨h1, h2⟩ := ih hi
      exact ⟨by rw [List.getElem?_append_left (by rw [prV_len]; omega)]; exact h1, by rw [List.getElem?_append_left (by rw [prV_len]; omega)]; exact h2⟩
    · obtain rfl : i = n := by omega
      constructor
      · rw [List.getElem?_append_right (by rw [prV_len]; omega), prV_len, Nat.sub_self]; rfl
      · rw [List.getElem?_append_right (by rw [prV_len]; omega), prV_len, Nat.add_sub_cancel_left]; rfl
theorem storeR {w : World} {B : Nat} {t : TypeId} {n cap g k : Nat} {xs : List Value} {v0 v1 : Value} (h : w.ownsRow B t 2 (.slice (some ⟨g, 0, none⟩) n cap) n xs) (hk : k < n) :
    ∃ ys, ((w.setCell ⟨g, k * 2, none⟩ v0).setCell ⟨g, k * 2 + 1, none⟩ v1).ownsRow B t 2 (.slice (some ⟨g, 0, none⟩) n cap) n ys ∧ ys.take ((k + 1) * 2) = xs.take (k * 2) ++ [v0, v1] := by
  have hl := h.1
  have hkn : k * 2 + 2 ≤ n * 2 := by omega
  refine ⟨_, ((h.stored (k * 2) v0).1.stored (k * 2 + 1) v1).1, ?_⟩
  rw [show (k + 1) * 2 = k * 2 + 1 + 1 by omega, take_set_succ _ _ _ (by simp; omega), take_set_succ _ _ _ (by omega)]
  simp
def DivRel (R N : Nat) (w : World) (fv iv : Value) (wr : World) : Prop :=
  ∃ (k : Nat) (cur : List Value), k ≤ N ∧ fv = .int .i64 (fstW R N k : Int) ∧ iv = .int .i64 k ∧ wr.ownsRow w.heap.size 121 2 (.slice (some ⟨w.heap.size, 0, none⟩) N N) N cur ∧ cur.take (k * 2) = prV R N k ∧ Below w.heap.size w wr
set_option maxRecDepth 20000 in
set_option maxHeartbeats 4000000 in
theorem c_divideRows (R N : Nat) (hR : R ≤ 16) (hN : N ≤ 8) (h1 : 1 ≤ N) (w : World) :
    Calls Try.prog 81 #[.int .i64 R, .int .i64 N] w fun e w' => e = .returned (.slice (some ⟨w.heap.size, 0, none⟩) N N) ∧ w'.ownsRow w.heap.size 121 2 (.slice (some ⟨w.heap.size, 0, none⟩) N N) N (prV R N N) ∧ Below w.heap.size w w' := by
  obtain ⟨i0, hi, hz0, hz1, hz2⟩ := info_parts info_prt
  have HI := Lib.hid hi
  have HZ0 := Lib.hid hz0
  have HZ1 := Lib.hid hz1
  have HZ2 := Lib.hid hz2
  have HR := Lib.hid hR
  have j1 := quoW (R := R) (N := N)
  have j2 := remW (R := R) (N := N)
  have j3 : ((R : Int) / (N : Int)) = ((R / N : Nat) : Int) := (Int.natCast_ediv R N).symm
  have j4 : ((R : Int) % (N : Int)) = ((R % N : Nat) : Int) := (Int.natCast_emod R N).symm
  obtain ⟨qq, hqq⟩ : ∃ qq, R / N = qq := ⟨_, rfl⟩
  obtain ⟨mm, hmm⟩ : ∃ mm, R % N = mm := ⟨_, rfl⟩
  have hq0 : qq ≤ 16 := by rw [← hqq]; exact Nat.le_trans (Nat.div_le_self _ _) hR
  have hC : ∀ k, cntW R N k = qq + if k < mm then 1 else 0 := fun k => by rw [← hqq, ← hmm]; rfl
  rw [hqq] at j1 j3
  rw [hmm] at j2 j4
  have HC := Lib.hid hC
  have hn0 : ¬ ((N : Int) = 0) := by omega
  have hN8 : (N : Int) ≤ 8 := by omega
  clear hi hz0 hz1 hz2 hqq hmm hC hR
  go_enter Try.func81, Try.ntmps81
  go_wp2_with (at_make; refine wpList_make_full _ rfl _ _ 124 rfl w.heap.size 121 i0 (.agg #[.int .i64 0, .int .i64 0]) 2 Try.underlying124 HI.out HZ0.out HZ1.out _ _ _ _ N rfl rfl rfl rfl ?c1 ?c2 ?c3 ?_)
  case c1 => rw [HZ2.out]; omega
  case c2 => unfold maxLen; omega
  case c3 => exact Nat.le_refl _
  intro w1 hown hgrow
  have hb1 : Below w.heap.size w w1 := (Below.refl _ _).grown hgrow (Nat.le_refl _) (fun k h => by cases h)
  have HO := Lib.hid hown
  have HB := Lib.hid hb1
  clear hown hb1 hgrow
  go_wp2_with fail
  go_loopw [7, 17] (fun fv iv wr => DivRel R N w fv iv wr) (fun _ iv _ => N - (intOf iv).toNat)
  case atStart => exact ⟨0, _, Nat.zero_le _, rfl, rfl, HO.out, by simp [prV], HB.out⟩
  case round =>
    obtain ⟨k, cur, hk, rfl, rfl, ho, ht, hb⟩ := hrel
    have HO2 := Lib.hid ho
    have HT := Lib.hid ht
    have HB2 := Lib.hid hb
    have hf0 := fstW_le (N := N) HR.out k
    obtain ⟨F, hF⟩ : ∃ F, fstW R N k = F := ⟨_, rfl⟩
    have HF := Lib.hid hF
    rw [hF] at hf0 ⊢
    clear ho ht hb hF
    by_cases hlt : k < N
    · have hlt' : (k : Int) < (N : Int) := by omega
      obtain ⟨z0, v0, y0⟩ := row_cell HO2.out (k * 2) (by omega)
      obtain ⟨z1, v1, y1⟩ := row_cell HO2.out (k * 2 + 1) (by omega)
      by_cases hm : k < mm
      · have hm' : (k : Int) < (mm : Int) := by omega
        have HK := Lib.hid (show cntW R N k = qq + 1 by have e2 := HC.out k; rw [if_pos hm] at e2; exact e2)
        go_wp2_with fail
        clear z0 y0 z1 y1
        go_roundw
        case rel =>
          obtain ⟨cur', hr, ht⟩ := storeR HO2.out hlt (v0 := .int .i64 F) (v1 := .int .i64 ((qq + 1 : Nat) : Int))
          refine ⟨k + 1, cur', by omega, ?_, by go_num, hr, ?_, (HB2.out.setCell (p := ⟨w.heap.size, _, none⟩) (Nat.le_refl _) _).setCell (p := ⟨w.heap.size, _, none⟩) (Nat.le_refl _) _⟩
          · simp only [fstW, HF.out, HK.out]
            go_num
          · rw [ht, HT.out, prV_succ, HF.out, HK.out]
        case measure => simp [intOf]; omega
      · have hm' : ¬ (k : Int) < (mm : Int) := by omega
        have HK := Lib.hid (show cntW R N k = qq by have e2 := HC.out k; rw [if_neg hm, Nat.add_zero] at e2; exact e2)
        go_wp2_with fail
        clear z0 y0 z1 y1
        go_roundw
        case rel =>
          obtain ⟨cur', hr, ht⟩ := storeR HO2.out hlt (v0 := .int .i64 F) (v1 := .int .i64 (qq : Int))
          refine ⟨k + 1, cur', by omega, ?_, by go_num, hr, ?_, (HB2.out.setCell (p := ⟨w.heap.size, _, none⟩) (Nat.le_refl _) _).setCell (p := ⟨w.heap.size, _, none⟩) (Nat.le_refl _) _⟩
          · simp only [fstW, HF.out, HK.out]
            go_num
          · rw [ht, HT.out, prV_succ, HF.out, HK.out]
        case measure => simp [intOf]; omega
    · have hlt' : ¬ (k : Int) < (N : Int) := by omega
      obtain rfl : k = N := by omega
      go_wp2_with fail
      go_ret
      have ho := HO2.out
      have hcur : cur = prV R k k := by rw [← HT.out, List.take_of_length_le (by have := ho.1; omega)]
      rw [hcur] at ho
      exact ⟨rfl, ho, HB2.out⟩
theorem c_wr1 (a b : Int) (w : World) : Calls Try.prog 79 #[.agg #[.int .i64 a, .int .i64 b]] w fun e w' => ∃ g, e = .returned (.slice (some ⟨g, 0, none⟩) 2 2) ∧ OwnL w' w.heap.size [IlA.cl ⟨[a, b], some ⟨g, 0, none⟩, 2⟩] ∧ Below w.heap.size w w' := by
  go_enter Try.func79, Try.ntmps79
  go_wp2_with fail
  go_ret
  refine ⟨w.heap.size + 1, rfl, ?_, ((Below.refl _ _).alloc (Nat.le_refl _) _).alloc (by simp) _⟩
  have h := rowW_cl (w.alloc (.cells #[.int .i64 a, .int .i64 b] 121)) a b
  rw [World.size_alloc] at h
  exact OwnL.base (by omega) _ h
def EprRel (R N B gd : Nat) (w : World) (iv : Value) (wr : World) : Prop :=
  ∃ (k : Nat) (ys : List IlA) (cur : List Value), k ≤ N ∧ iv = .int .i64 k ∧ ys.length = k ∧ ys.map IlA.z = (List.range k).map (rowW R N) ∧ wr.ownsRow w.heap.size 86 1 (.slice (some ⟨gd, 0, none⟩) N N) N cur ∧
    cur.take k = ys.map IlA.v ∧ OwnL wr (gd + 1) (ilC ys) ∧ (blL (ilC ys)).Nodup ∧ Below w.heap.size w wr
theorem ilC_snoc (ys : List IlA) (y : IlA) : ilC (ys ++ [y]) = ilC ys ++ [y.cl] := by simp [ilC]
set_option maxRecDepth 20000 in
set_option maxHeartbeats 4000000 in
theorem c_eachPr (R N g : Nat) (hN : N ≤ 8) (w : World) (B : Nat) (h : w.ownsRow B 121 2 (.slice (some ⟨g, 0, none⟩) N N) N (prV R N N)) :
    Calls Try.prog 80 #[.slice (some ⟨g, 0, none⟩) N N, .func (.func 79) #[] #[]] w (RetIlR (rowsW R N) w) := by
  obtain ⟨i0, hi, hz0, hz1, hz2⟩ := info_parts info_il
  have HI := Lib.hid hi
  have HZ0 := Lib.hid hz0
  have HZ1 := Lib.hid hz1
  have HZ2 := Lib.hid hz2
  have H := Lib.hid h
  have HG := Lib.hid (show g < w.heap.size from (h.lt _ rfl).2)
  have hE := enters_of Try.func79 (by kernel_rfl) (by kernel_rfl)
  clear h hi hz0 hz1 hz2
  go_enter Try.func80, Try.ntmps80
  go_wp2_with (at_make; refine wpList_make_full _ rfl _ _ 57 rfl w.heap.size 86 i0 (.slice none 0 0) 1 Try.underlying57 HI.out HZ0.out HZ1.out _ _ _ _ N rfl rfl rfl rfl ?c1 ?c2 ?c3 ?_)
  case c1 => rw [HZ2.out]; omega
  case c2 => unfold maxLen; omega
  case c3 => exact Nat.le_refl _
  intro w1 hown hgrow
  have hb1 : Below w.heap.size w w1 := (Below.refl _ _).grown hgrow (Nat.le_refl _) (fun k h => by cases h)
  have HO := Lib.hid hown
  have HB := Lib.hid hb1
  clear hown hb1 hgrow
  go_wp2_with fail
  go_loopw [13] (fun iv wr => EprRel R N B w.heap.size w iv wr) (fun iv _ => N - (intOf iv).toNat)
  case atStart => exact ⟨0, [], _, Nat.zero_le _, rfl, rfl, rfl, HO.out, rfl, by simp [ilC, OwnL], by simp [ilC, blL], HB.out⟩
  case round =>
    obtain ⟨k, ys, cur, hk, rfl, hyl, hyp, ho, htk, how, hnd, hb⟩ := hrel
    have HYL := Lib.hid hyl
    have HYP := Lib.hid hyp
    have HO' := Lib.hid ho
    have HT := Lib.hid htk
    have HW := Lib.hid how
    have HND := Lib.hid hnd
    have HB' := Lib.hid hb
    clear hyl hyp ho htk how hnd hb
    by_cases hlt : k < N
    · have hlt' : (k : Int) < (N : Int) := by omega
      have hrow := row_kept H.out HB'.out
      obtain ⟨g1, g2⟩ := prV_get R N N k hlt
      have q0 : wr.cell? ⟨g, k * 2, none⟩ = some (.int .i64 (fstW R N k : Int)) := (hrow.cellAt (k * 2) (by omega)).trans g1
      have q1 : wr.cell? ⟨g, k * 2 + 1, none⟩ = some (.int .i64 (cntW R N k : Int)) := (hrow.cellAt (k * 2 + 1) (by omega)).trans g2
      obtain ⟨F, hF⟩ : ∃ F, fstW R N k = F := ⟨_, rfl⟩
      obtain ⟨C, hC⟩ : ∃ C, cntW R N k = C := ⟨_, rfl⟩
      have HF := Lib.hid hF
      have HC := Lib.hid hC
      rw [hF] at q0
      rw [hC] at q1
      clear hrow g1 g2 hF hC
      go_wp2_with fail
      refine (c_wr1 F C _).mono ?_
      rintro e w2 ⟨ge, rfl, oe, bl⟩
      have bl2 := Below.next ((Below.refl wr.heap.size wr).alloc (Nat.le_refl _) (.cells #[.int .i64 F, .int .i64 C] 121)) bl
      have ho2 := row_kept HO'.out bl2
      obtain ⟨z0, v0, y0⟩ := row_cell ho2 k (by omega)
      have O2 := Lib.hid ho2
      have OO := Lib.hid (OwnL.base (show wr.heap.size ≤ _ by simp) _ oe)
      have BL := Lib.hid bl2
      clear ho2 oe bl bl2 q0 q1
      go_wp2_with fail
      clear z0 y0
      go_roundw
      case rel =>
        have hlt0 : w.heap.size < wr.heap.size := (HO'.out.lt _ rfl).2
        obtain ⟨cur', hr, ht⟩ := store1 O2.out hlt (v0 := .slice (some ⟨ge, 0, none⟩) 2 2)
        have how2 : OwnL w2 (w.heap.size + 1) (ilC (ys ++ [⟨[(F : Int), (C : Int)], some ⟨ge, 0, none⟩, 2⟩])) := by
          rw [ilC_snoc, OwnL_append]
          exact ⟨OwnL.kept HW.out BL.out, OwnL.base (by omega) _ OO.out⟩
        refine ⟨k + 1, ys ++ [⟨[(F : Int), (C : Int)], some ⟨ge, 0, none⟩, 2⟩], cur', by omega, by go_num, by simp [HYL.out], ?_, hr, ?_, how2.far (p := ⟨w.heap.size, _, none⟩) (by simp) _, ?_,
          (HB'.out.trans (BL.out.mono HB'.out.size)).setCell (p := ⟨w.heap.size, _, none⟩) (Nat.le_refl _) _⟩
        · rw [List.range_succ, List.map_append, List.map_append, HYP.out]
          simp [rowW, HF.out, HC.out]
        · rw [ht, HT.out, List.map_append]
          rfl
        · rw [ilC_snoc, blL_append]
          refine List.nodup_append.2 ⟨HND.out, rowW_nd _ _ _, ?_⟩
          intro x hx y hy e
          subst e
          exact apart_new HW.out OO.out x hx hy
      case measure => simp [intOf]; omega
    · have hlt' : ¬ (k : Int) < (N : Int) := by omega
      obtain rfl : k = N := by omega
      go_wp2_with fail
      go_ret
      have ho := HO'.out
      have hcur : cur = ys.map IlA.v := by
        rw [← HT.out, List.take_of_length_le (by have := ho.1; omega)]
      rw [hcur] at ho
      have hlt0 : w.heap.size < wr.heap.size := (ho.lt _ rfl).2
      refine ⟨some ⟨w.heap.size, 0, none⟩, k, ys, ?_, ?_, ?_, HYP.out, HB'.out⟩
      · rw [HYL.out]; rfl
      · simp only [OwnL, Cl.Own, and_true, vs_ilC]
        exact ⟨by rw [HYL.out]; exact ho, OwnL.base (by omega) _ HW.out⟩
      · simp only [blL, Cl.bl, List.append_nil]
        refine List.nodup_append.2 ⟨by simp [blk], HND.out, ?_⟩
        intro x hx y hy e
        have := (OwnL.lt _ HW.out y hy).1
        simp [blk] at hx
        omega
theorem t_iWorkerRows (r n : Int) (w : World) : Calls Try.prog 22 #[.int .i64 r, .int .i64 n] w (RetIl (vWorkerRows r n).1 (vWorkerRows r n).2 w) := by
  unfold vWorkerRows
  obtain ⟨b, hb⟩ : ∃ b, okWR r n = b := ⟨_, rfl⟩
  have HC := Lib.hid (show Calls Try.prog 78 #[.int .i64 r, .int .i64 n] w fun e w' => e = .returned (.bool b) ∧ w = w' by rw [← hb]; exact c_canDivide r n w)
  rw [hb]
  cases b with
  | false =>
    rw [if_neg (by simp)]
    clear hb
    go_enter Try.func22, Try.ntmps22
    go_wp2_with fail
    refine HC.out.mono ?_
    rintro e w' ⟨rfl, rfl⟩
    go_wp2_with fail
    go_ret2
    exact retIl_no (Below.refl _ _)
  | true =>
    rw [if_pos rfl]
    obtain ⟨h1, h2, h3, h4, h5⟩ := (okWR_iff r n).1 hb
    clear hb
    obtain ⟨R, rfl⟩ := Int.eq_ofNat_of_zero_le (show 0 ≤ r by omega)
    obtain ⟨N, rfl⟩ := Int.eq_ofNat_of_zero_le (show 0 ≤ n by omega)
    simp only [Int.toNat_natCast]
    have HR := Lib.hid (c_divideRows R N (by omega) (by omega) (by omega) w)
    have HN := Lib.hid (show N ≤ 8 by omega)
    go_enter Try.func22, Try.ntmps22
    go_wp2_with fail
    refine HC.out.mono ?_
    rintro e w' ⟨rfl, rfl⟩
    go_wp2_with fail
    refine HR.out.mono ?_
    rintro e w2 ⟨rfl, ho, bl⟩
    have HO := Lib.hid ho
    have BL := Lib.hid bl
    clear ho bl
    go_wp2_with fail
    refine (c_eachPr R N _ HN.out _ _ HO.out).mono ?_
    rintro e w3 ⟨gs, cap, ys, rfl, ho, hnd, hy, bl⟩
    have HO2 := Lib.hid ho
    have HY := Lib.hid hy
    clear ho hy
    go_wp2_with fail
    go_ret2
    exact ⟨gs, cap, ys, rfl, OwnL.base BL.out.size _ HO2.out, hnd, HY.out, Below.next BL.out bl⟩
end Go.Proofs.Ytaipegkkpkagnaa
