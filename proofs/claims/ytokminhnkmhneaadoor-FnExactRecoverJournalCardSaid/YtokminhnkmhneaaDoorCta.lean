/-
  The parts of a text between marks: the model's. Conditions: the text has at most 2 ^ 30 bytes.
-/
import Derived.Test.YtokminhnkmhneaaDoorPrt
import Derived.Test.YtokminhnkmhneaaDoorCheck
import Derived.Test.YtokminhnkmhneaaDoorApp
import Derived.Test.YtokminhnkmhneaaDoorSrs
namespace Go.Proofs.YtokminhnkmhneaaDoor
open Go.RowKit Go.Deep Go.WideShapes Go.ChangeShapes
set_option linter.unusedVariables false
set_option linter.unusedSimpArgs false

def strB (l : List UInt8) : ByteArray := ⟨l.toArray⟩
theorem strB_size (l : List UInt8) : (strB l).size = l.length := by simp [strB, ByteArray.size]
theorem strB_list (l : List UInt8) : (strB l).data.toList = l := by simp [strB]
/-- a row of texts that the call made -/
def OwnS (w : World) (B : Nat) (a : Option Addr) (cap : Nat) (ls : List (List UInt8)) : Prop := w.ownsRow B 9 1 (.slice a ls.length cap) ls.length (ls.map fun l => Value.string (strB l))
theorem OwnS.kept {w w' : World} {B : Nat} {a : Option Addr} {cap : Nat} {l : List (List UInt8)} (h : OwnS w B a cap l) (hb : Below w.heap.size w w') : OwnS w' B a cap l :=
  World.ownsRow.kept h (row := none) ⟨hb.os, hb.tape, hb.output, hb.size, fun j hj _ => hb.block j hj⟩ (by cases hv : Value.ownBlock (.slice a l.length cap) <;> simp)
theorem OwnS.lt {w : World} {B : Nat} {a : Option Addr} {cap : Nat} {l : List (List UInt8)} (h : OwnS w B a cap l) : ∀ g, blk a = some g → B ≤ g ∧ g < w.heap.size := by
  intro g hg
  refine World.ownsRow.lt h g ?_
  cases a with
  | none => cases hg
  | some p => simpa [blk, Value.ownBlock] using hg
theorem nil_ownS (w : World) (B : Nat) : OwnS w B none 0 [] := World.ownsRow_nil _ _ _ _
theorem ownS_made (w : World) : OwnS (w.alloc (.cells #[] 9)) w.heap.size (some ⟨w.heap.size, 0, none⟩) 0 [] := World.ownsRow_made w #[] 0 (Nat.le_refl _) (by unfold maxLen; omega) rfl
theorem OwnS.isStrs {w : World} {B : Nat} {a : Option Addr} {cap : Nat} {ls : List (List UInt8)} (h : OwnS w B a cap ls) (hl : ∀ l ∈ ls, l.length ≤ maxLen) : IsStrs w a ls.length cap (ls.map strB) := by
  refine ⟨by simp, ?_, ?_, ?_, ?_⟩
  · rcases h.2 with ⟨hv, h0⟩ | ⟨g, c, cur, hv, _, _, h1, h2, _⟩
    · omega
    · simp only [Value.slice.injEq] at hv
      omega
  · rcases h.2 with ⟨hv, h0⟩ | ⟨g, c, cur, hv, _, _, h1, h2, _⟩
    · simp only [Value.slice.injEq] at hv
      omega
    · simp only [Value.slice.injEq] at hv
      omega
  · intro s hs
    obtain ⟨l, hl', rfl⟩ := List.mem_map.1 hs
    rw [strB_size]
    exact hl l hl'
  · rcases h.2 with ⟨hv, h0⟩ | ⟨g, c, cur, hv, _, hg, h1, h2, h3, h4⟩
    · exact .inl h0
    · simp only [Value.slice.injEq] at hv
      obtain ⟨rfl, _, rfl⟩ := hv
      refine .inr ⟨g, 0, rfl, (Array.getElem?_eq_some_iff.1 hg).1, fun i x hx => ?_⟩
      have hi : i < ls.length := by have := (List.getElem?_eq_some_iff.1 hx).1; simpa using this
      rw [Nat.zero_add, h.cellAt i (by omega)]
      simp only [List.getElem?_map] at hx ⊢
      rw [List.getElem?_eq_getElem hi] at hx ⊢
      simpa using hx
theorem info_strC : (Tryd.prog.info? 9).map (fun i => (i.zero, i.size, i.bytes)) = some (some (.string ByteArray.empty), 1, 16) := by kernel_rfl
theorem str_reads {wr : World} {v : ByteArray} : Reads (wr.alloc (.cells #[.string v] 9)) (wr.heap.size + 1) 1 (some ⟨wr.heap.size, 0, none⟩) 1 [.string v] := by
  refine ⟨rfl, fun _ => ⟨_, rfl, by simp, fun j u hu => ?_⟩⟩
  rw [add_plain]
  have := (Blk.new wr 9 #[.string v]).cell (0 + j)
  rw [this, Nat.zero_add]
  simpa using hu
theorem one_str (v : ByteArray) : ∀ u ∈ [Value.string v], u.oneCell' = true := by intro u hu; simp at hu; subst hu; rfl
theorem strC_base {B : Nat} {wr : World} {v : ByteArray} (h : B ≤ wr.heap.size) : B ≤ (wr.alloc (.cells #[.string v] 9)).heap.size := by
  rw [World.size_alloc]; exact Nat.le_trans h (Nat.le_succ _)
theorem strC_own {B : Nat} {wr : World} {b : Option Addr} {cp : Nat} {v : ByteArray} {l : List (List UInt8)} (ho : OwnS wr B b cp l) : (wr.alloc (.cells #[.string v] 9)).ownsRow B 9 1 (.slice b l.length cp) l.length (l.map fun l => Value.string (strB l)) := ho.kept ((Below.refl _ _).alloc (Nat.le_refl _) _)
theorem strC_next {B n : Nat} {w wr w' : World} {b a' : Option Addr} {cp cp' : Nat} {v : ByteArray} {c : List UInt8} {l : List (List UInt8)} (hn : l.length = n) (ho : OwnS wr B b cp l) (hB : w.heap.size ≤ B) (hl : Below w.heap.size w wr) (hv : v = strB c)
    (hown : w'.ownsRow B 9 1 (.slice a' (n + 1) cp') (n + 1) ((l.map fun l => Value.string (strB l)) ++ [.string v])) (hg : (wr.alloc (.cells #[.string v] 9)).grownBy w' (Value.ownBlock (.slice b n cp))) :
    OwnS w' B a' cp' (l ++ [c]) ∧ Below w.heap.size w w' := by
  rw [ownBlock_slice] at hg
  have bw : Below wr.heap.size wr (wr.alloc (.cells #[.string v] 9)) := (Below.refl _ _).alloc (Nat.le_refl _) _
  have ho1 := ho.kept bw
  subst hv
  subst hn
  refine ⟨?_, (hl.trans (bw.mono hl.size)).grown hg (Nat.le_trans hl.size bw.size) (fun g h => Nat.le_trans hB (ho1.lt g h).1)⟩
  unfold OwnS
  rw [List.map_append, List.length_append]
  exact hown
theorem extract_of {x : ByteArray} {a b : Nat} {c : List UInt8} {p : List UInt8} (h : x.data.toList.take b = p ++ c) (ha : p.length = a) (hb : b ≤ x.size) : x.extract a b = strB c := by
  apply ByteArray.ext
  apply Array.toList_inj.1
  rw [strB_list, ByteArray.data_extract, Array.toList_extract, List.extract_eq_take_drop]
  have e : (x.data.toList.drop a).take (b - a) = (x.data.toList.take b).drop a := by rw [List.drop_take]
  rw [e, h, ← ha]
  simp
def CutRel (m : UInt8) (x : ByteArray) (w : World) (s f i : Value) (wr : World) : Prop :=
  ∃ (k : Nat) (ls : List (List UInt8)) (fr : Nat) (a : Option Addr) (c : Nat), k ≤ x.size + 1 ∧ i = .int .i64 k ∧ s = .slice a ls.length c ∧ f = .int .i64 fr ∧ OwnS wr w.heap.size a c ls ∧ Below w.heap.size w wr ∧ ls.length ≤ k ∧
    ((k ≤ x.size ∧ ls = pPre m (x.data.toList.take k) ∧ fr + (pCur m (x.data.toList.take k)).length = k) ∨ (k = x.size + 1 ∧ ls = parts m x.data.toList))
set_option maxRecDepth 20000 in
set_option maxHeartbeats 4000000 in
theorem c_l01Cut (m : UInt8) (x : ByteArray) (hx : x.size ≤ 1048576) (w : World) : Calls Tryd.prog 107 #[.string x, .int .u8 m.toNat] w fun e w' =>
    ∃ a c, e = .returned (.slice a (parts m x.data.toList).length c) ∧ OwnS w' w.heap.size a c (parts m x.data.toList) ∧ Below w.heap.size w w' := by
  obtain ⟨i0, hi, hz0, hz1, hz2⟩ := info_parts info_strC
  have JI := Lib.hid hi
  have HZ0 := Lib.hid hz0
  have HZ1 := Lib.hid hz1
  have HZ2 := Lib.hid hz2
  have hxi : (x.size : Int) ≤ 1048576 := by omega
  have HXL := Lib.hid (show x.data.toList.length = x.size from Array.length_toList)
  clear hi hz0 hz1 hz2
  go_enter Tryd.func107, Tryd.ntmps107
  go_wp2_with fail
  go_loopw [5, 6, 7] (fun s f i wr => CutRel m x w s f i wr) (fun _ _ i _ => x.size + 1 - (intOf i).toNat)
  case atStart => exact ⟨0, [], 0, _, 0, Nat.zero_le _, rfl, rfl, rfl, ownS_made w, (Below.refl _ _).alloc (Nat.le_refl _) _, Nat.le_refl _, .inl ⟨Nat.zero_le _, rfl, rfl⟩⟩
  case round =>
    obtain ⟨k, ls, fr, a, c, hk, rfl, rfl, rfl, ho, hb, hlk, hst⟩ := hrel
    have HO := Lib.hid ho
    have HL := Lib.hid hb
    have hk0 : (0 : Int) ≤ (k : Int) := by omega
    have A3 := Lib.hid HL.out.size
    clear ho hb
    rcases hst with ⟨hkx, hls, hfr⟩ | ⟨hkx, hls⟩
    case inr =>
      have hlt : ¬ (k : Int) ≤ (x.size : Int) := by omega
      have HLS := Lib.hid hls
      clear hkx hls hk
      go_wp2_with fail
      go_ret
      exact ⟨a, c, by rw [← HLS.out]; rfl, by rw [← HLS.out]; exact HO.out, HL.out⟩
    case inl =>
      have hle : (k : Int) ≤ (x.size : Int) := by omega
      obtain ⟨p, hp⟩ := pCur_suffix m (x.data.toList.take k)
      have hpl : p.length = fr := by
        have h1 := congrArg List.length hp
        rw [List.length_append, List.length_take, HXL.out, Nat.min_eq_left hkx] at h1
        omega
      have HEX := Lib.hid (extract_of hp hpl hkx)
      have hfk : (fr : Int) ≤ (k : Int) := by omega
      have hfr0 : (0 : Int) ≤ (fr : Int) := by omega
      have HFR := Lib.hid hfr
      have HLS := Lib.hid hls
      obtain ⟨n, hn⟩ : ∃ n, ls.length = n := ⟨_, rfl⟩
      have HN := Lib.hid hn
      rw [hn] at hlk ⊢
      have A1 := Lib.hid (show n + 1 ≤ maxLen by unfold maxLen; omega)
      have A2 := Lib.hid (show (n + 1) * 16 ≤ 140737488355328 by omega)
      have HO3 := Lib.hid (show (wr.alloc (.cells #[.string (x.extract fr k)] 9)).ownsRow w.heap.size 9 1 (.slice a n c) n (ls.map fun l => Value.string (strB l)) by rw [← hn]; exact strC_own HO.out)
      have hxs : (fr : Int) ≤ (x.size : Int) := by omega
      clear hp hpl hfr hls hn hk
      by_cases hke : k = x.size
      · have HALL := Lib.hid (show x.data.toList.take k = x.data.toList from List.take_of_length_le (by rw [HXL.out]; omega))
        have hkb : ((k : Int) == (x.size : Int)) = true := by rw [hke]; exact beq_self_eq_true _
        have HKE := Lib.hid hke
        clear hke
        go_wp2_with (at_builtin; refine wpList_append_any _ rfl (.tmp 26) (.tmp 31) 44 rfl w.heap.size 9 i0 (.string ByteArray.empty) 1 16 Tryd.underlying44 JI.out HZ0.out HZ1.out HZ2.out rfl Nat.one_pos (.slice a n c) n (ls.map fun l => Value.string (strB l)) rfl HO3.out (wr.heap.size + 1) (some ⟨wr.heap.size, 0, none⟩) 1 1 [.string (x.extract fr k)] rfl str_reads (one_str _) A1.out A2.out (strC_base A3.out) ?_; intro v' w' hown hgr hat; obtain ⟨a', c', rfl⟩ := ownsRow_slice hown; have HMD := Lib.hid (strC_next HN.out HO.out (Nat.le_refl _) HL.out HEX.out hown hgr); clear hown hgr hat)
        go_roundw
        case rel =>
          obtain ⟨t1, t2⟩ := HMD.out
          have e : ls ++ [pCur m (x.data.toList.take k)] = parts m x.data.toList := by rw [HLS.out, ← parts_eq, HALL.out]
          refine ⟨k + 1, ls ++ [pCur m (x.data.toList.take k)], k + 1, a', c', by have := HKE.out; omega, by go_num, by rw [List.length_append, HN.out]; rfl, by go_num, t1, t2, by rw [List.length_append, HN.out]; exact Nat.succ_le_succ hlk, .inr ⟨by rw [HKE.out], e⟩⟩
        case measure => simp [intOf]; omega
      · have hkl : k < x.size := by omega
        have hkl' : (k : Int) < (x.size : Int) := by omega
        have hkb : ((k : Int) == (x.size : Int)) = false := by rw [beq_eq_false_iff_ne]; omega
        have HT := Lib.hid (show x.data.toList.take (k + 1) = x.data.toList.take k ++ [x[k]] from take_byte x k hkl)
        have HKL := Lib.hid hkl
        clear hke
        by_cases hm : x[k] = m
        · have hmb : ((x[k].toNat : Int) == (m.toNat : Int)) = true := by rw [hm]; exact beq_self_eq_true _
          have HM := Lib.hid hm
          clear hm
          go_wp2_with (at_builtin; refine wpList_append_any _ rfl (.tmp 26) (.tmp 31) 44 rfl w.heap.size 9 i0 (.string ByteArray.empty) 1 16 Tryd.underlying44 JI.out HZ0.out HZ1.out HZ2.out rfl Nat.one_pos (.slice a n c) n (ls.map fun l => Value.string (strB l)) rfl HO3.out (wr.heap.size + 1) (some ⟨wr.heap.size, 0, none⟩) 1 1 [.string (x.extract fr k)] rfl str_reads (one_str _) A1.out A2.out (strC_base A3.out) ?_; intro v' w' hown hgr hat; obtain ⟨a', c', rfl⟩ := ownsRow_slice hown; have HMD := Lib.hid (strC_next HN.out HO.out (Nat.le_refl _) HL.out HEX.out hown hgr); clear hown hgr hat)
          go_roundw
          case rel =>
            obtain ⟨t1, t2⟩ := HMD.out
            have e := pre_snoc_mark m (x.data.toList.take k)
            have e2 : x.data.toList.take (k + 1) = x.data.toList.take k ++ [m] := HT.out.trans (congrArg (fun c => x.data.toList.take k ++ [c]) HM.out)
            refine ⟨k + 1, ls ++ [pCur m (x.data.toList.take k)], k + 1, a', c', by have := HKL.out; omega, by go_num, by rw [List.length_append, HN.out]; rfl, by go_num, t1, t2, by rw [List.length_append, HN.out]; exact Nat.succ_le_succ hlk, .inl ⟨HKL.out, by rw [e2, e.1, HLS.out], by rw [e2, e.2]; rfl⟩⟩
          case measure => simp [intOf]; omega
        · have hmb : ((x[k].toNat : Int) == (m.toNat : Int)) = false := by
            rw [beq_eq_false_iff_ne]
            exact fun h => hm (UInt8.toNat_inj.1 (by omega))
          have HM := Lib.hid hm
          clear hm
          go_wp2_with fail
          go_roundw
          case rel =>
            have e := pre_snoc_other m x[k] (x.data.toList.take k) HM.out
            refine ⟨k + 1, ls, fr, a, c, by have := HKL.out; omega, by go_num, by rw [HN.out], rfl, HO.out, HL.out, by rw [HN.out]; omega, .inl ⟨HKL.out, HLS.out.trans (e.1.symm.trans (congrArg (pPre m) HT.out.symm)), by rw [show pCur m (x.data.toList.take (k + 1)) = pCur m (x.data.toList.take k) ++ [x[k]] from (congrArg (pCur m) HT.out).trans e.2, List.length_append]; have := HFR.out; simp only [List.length_cons, List.length_nil]; omega⟩⟩
          case measure => simp [intOf]; omega
end Go.Proofs.YtokminhnkmhneaaDoor
