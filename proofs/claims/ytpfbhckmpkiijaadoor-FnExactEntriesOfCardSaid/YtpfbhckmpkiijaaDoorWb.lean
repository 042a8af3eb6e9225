/-
  Lists of bytes that the call makes, and the bytes of integers: the model's. Conditions: the integers are not negative.
-/
import Derived.Test.YtpfbhckmpkiijaaDoorCrc
import Derived.Test.YtpfbhckmpkiijaaDoorApp
import Derived.Lib.AppendStr
import Derived.Lib.BufferRead
import Derived.Laws.IdiomStrings
namespace Go.Proofs.YtpfbhckmpkiijaaDoor
open Go.RowKit Go.Deep Go.WideShapes Go.ChangeShapes
set_option linter.unusedVariables false

def wbAt (n k : Nat) : UInt8 := UInt8.ofNat (n / 256 ^ k % 256)
def wb (n size : Nat) : List UInt8 := (List.range size).map (wbAt n)
theorem wb_succ (n k : Nat) : wb n (k + 1) = wb n k ++ [wbAt n k] := by simp [wb, List.range_succ]
theorem wb_length (n k : Nat) : (wb n k).length = k := by simp [wb]
theorem wbAt_toNat (n k : Nat) : (wbAt n k).toNat = n / 256 ^ k % 256 := by
  unfold wbAt
  rw [UInt8.toNat_ofNat']
  have h : n / 256 ^ k % 256 < 256 := Nat.mod_lt _ (by decide)
  omega
theorem i64_and255 (a : Nat) (ha : a < 9223372036854775808) : bits .and .i64 (a : Int) 255 = ((a % 256 : Nat) : Int) := by
  show IntKind.i64.wrap ((BitVec.ofInt 64 (a : Int) &&& BitVec.ofInt 64 (255 : Int)).toNat : Int) = _
  have h1 : (BitVec.ofInt 64 (a : Int)).toNat = a := by rw [BitVec.ofInt_natCast, BitVec.toNat_ofNat]; exact Nat.mod_eq_of_lt (by omega)
  have h2 : (BitVec.ofInt 64 (255 : Int)).toNat = 255 := by decide
  have h3 : a &&& 255 = a % 256 := Nat.and_two_pow_sub_one_eq_mod a 8
  rw [BitVec.toNat_and, h1, h2, h3, IntKind.wrap_i64]
  omega
theorem wb_val (n k : Nat) (hn : n < 9223372036854775808) : bits .and .i64 ((n : Int) / 2 ^ (8 * k)) 255 % 256 = ((wbAt n k).toNat : Int) := by
  have e : ((n / 256 ^ k : Nat) : Int) = (n : Int) / 2 ^ (8 * k) := by
    rw [show 256 ^ k = 2 ^ (8 * k) by rw [Nat.pow_mul]]
    simp
  have hle : n / 256 ^ k ≤ n := Nat.div_le_self _ _
  rw [← e, i64_and255 _ (by omega), wbAt_toNat]
  omega
/-- a list of bytes that the call made -/
def OwnB (w : World) (B : Nat) (a : Option Addr) (cap : Nat) (l : List UInt8) : Prop := w.ownsRow B 5 1 (.slice a l.length cap) l.length (Lib.byteCells l)
theorem OwnB.kept {w w' : World} {B : Nat} {a : Option Addr} {cap : Nat} {l : List UInt8} (h : OwnB w B a cap l) (hb : Below w.heap.size w w') : OwnB w' B a cap l :=
  World.ownsRow.kept h (row := none) ⟨hb.os, hb.tape, hb.output, hb.size, fun j hj _ => hb.block j hj⟩ (by cases hv : Value.ownBlock (.slice a l.length cap) <;> simp)
theorem OwnB.lt {w : World} {B : Nat} {a : Option Addr} {cap : Nat} {l : List UInt8} (h : OwnB w B a cap l) : ∀ g, blk a = some g → B ≤ g ∧ g < w.heap.size := by
  intro g hg
  refine World.ownsRow.lt h g ?_
  cases a with
  | none => cases hg
  | some p => simpa [blk, Value.ownBlock] using hg
theorem nil_ownB (w : World) (B : Nat) : OwnB w B none 0 [] := World.ownsRow_nil _ _ _ _
theorem ownB_made (w : World) : OwnB (w.alloc (.cells #[] 5)) w.heap.size (some ⟨w.heap.size, 0, none⟩) 0 [] := World.ownsRow_made w #[] 0 (Nat.le_refl _) (by unfold maxLen; omega) rfl
theorem OwnB.string {w : World} {B : Nat} {a : Option Addr} {cap : Nat} {l : List UInt8} (h : OwnB w B a cap l) : (convert 28 9 (.slice a l.length cap)).run Tryd.prog w = .ok (.string ⟨l.toArray⟩) w := by
  rcases h.2 with ⟨hv, h0⟩ | ⟨g, c, cur, hv, _⟩
  · simp only [Value.slice.injEq] at hv
    obtain ⟨rfl, _, rfl⟩ := hv
    obtain rfl : l = [] := List.eq_nil_of_length_eq_zero h0
    exact Lib.run_convert_nil_bytes w _ _ 5 0 Tryd.underlying28 Tryd.underlying5 Tryd.underlying9
  · simp only [Value.slice.injEq] at hv
    obtain ⟨rfl, _, rfl⟩ := hv
    refine run_convert_bytes_back w _ _ 5 ⟨g, 0, none⟩ cap l Tryd.underlying28 Tryd.underlying5 Tryd.underlying9 (fun j hj => ?_)
    rw [add_plain, Nat.zero_add, World.ownsRow.cellAt h j (by omega)]
    simp [Lib.byteCells, hj]
theorem info_u8 : (Tryd.prog.info? 5).map (fun i => (i.zero, i.size, i.bytes)) = some (some (.int .u8 0), 1, 1) := by kernel_rfl
theorem byte_reads {wr : World} {v : Int} : Reads (wr.alloc (.cells #[.int .u8 v] 5)) (wr.heap.size + 1) 1 (some ⟨wr.heap.size, 0, none⟩) 1 [.int .u8 v] := by
  refine ⟨rfl, fun _ => ⟨_, rfl, by simp, fun j u hu => ?_⟩⟩
  rw [add_plain]
  have := (Blk.new wr 5 #[.int .u8 v]).cell (0 + j)
  rw [this, Nat.zero_add]
  simpa using hu
theorem one_u8 (v : Int) : ∀ u ∈ [Value.int .u8 v], u.oneCell' = true := by intro u hu; simp at hu; subst hu; rfl
theorem byte_base {B : Nat} {wr : World} {v : Int} (h : B ≤ wr.heap.size) : B ≤ (wr.alloc (.cells #[.int .u8 v] 5)).heap.size := by
  rw [World.size_alloc]; exact Nat.le_trans h (Nat.le_succ _)
theorem byte_own {B : Nat} {wr : World} {b : Option Addr} {cp : Nat} {v : Int} {l : List UInt8} (ho : OwnB wr B b cp l) : (wr.alloc (.cells #[.int .u8 v] 5)).ownsRow B 5 1 (.slice b l.length cp) l.length (Lib.byteCells l) := ho.kept ((Below.refl _ _).alloc (Nat.le_refl _) _)
theorem byte_next {B : Nat} {w wr w' : World} {b a' : Option Addr} {cp cp' : Nat} {v : Int} {c : UInt8} {l : List UInt8} (ho : OwnB wr B b cp l) (hB : w.heap.size ≤ B) (hl : Below w.heap.size w wr) (hv : v = (c.toNat : Int))
    (hown : w'.ownsRow B 5 1 (.slice a' (l.length + 1) cp') (l.length + 1) (Lib.byteCells l ++ [.int .u8 v])) (hg : (wr.alloc (.cells #[.int .u8 v] 5)).grownBy w' (Value.ownBlock (.slice b l.length cp))) :
    OwnB w' B a' cp' (l ++ [c]) ∧ Below w.heap.size w w' := by
  rw [ownBlock_slice] at hg
  have bw : Below wr.heap.size wr (wr.alloc (.cells #[.int .u8 v] 5)) := (Below.refl _ _).alloc (Nat.le_refl _) _
  have ho1 := ho.kept bw
  subst hv
  refine ⟨?_, (hl.trans (bw.mono hl.size)).grown hg (Nat.le_trans hl.size bw.size) (fun g h => Nat.le_trans hB (ho1.lt g h).1)⟩
  unfold OwnB
  rw [Lib.byteCells_append, List.length_append]
  exact hown
/-- the bytes of a text are added -/
theorem str_next {B : Nat} {w wr w' : World} {b a' : Option Addr} {cp cp' : Nat} {l m : List UInt8} (ho : OwnB wr B b cp l) (hB : w.heap.size ≤ B) (hl : Below w.heap.size w wr)
    (hown : w'.ownsRow B 5 1 (.slice a' (l.length + m.length) cp') (l.length + m.length) (Lib.byteCells l ++ Lib.byteCells m)) (hg : wr.grownBy w' (Value.ownBlock (.slice b l.length cp))) :
    OwnB w' B a' cp' (l ++ m) ∧ Below w.heap.size w w' := by
  rw [ownBlock_slice] at hg
  refine ⟨?_, hl.grown hg hl.size (fun g h => Nat.le_trans hB (ho.lt g h).1)⟩
  unfold OwnB
  rw [Lib.byteCells_append, List.length_append]
  exact hown
def WbRel (n size : Nat) (w : World) (s i : Value) (wr : World) : Prop :=
  ∃ (k : Nat) (a : Option Addr) (c : Nat), k ≤ size ∧ i = .int .i64 k ∧ s = .slice a (wb n k).length c ∧ OwnB wr w.heap.size a c (wb n k) ∧ Below w.heap.size w wr
set_option maxRecDepth 20000 in
set_option maxHeartbeats 2000000 in
theorem c_l08Word (n size : Nat) (hn : n < 9223372036854775808) (hs : size ≤ 8) (w : World) : Calls Tryd.prog 41 #[.int .i64 n, .int .i64 size] w fun e w' => e = .returned (.string ⟨(wb n size).toArray⟩) ∧ Below w.heap.size w w' := by
  obtain ⟨i0, hi, hz0, hz1, hz2⟩ := info_parts info_u8
  have JI := Lib.hid hi
  have HZ0 := Lib.hid hz0
  have HZ1 := Lib.hid hz1
  have HZ2 := Lib.hid hz2
  have hs8 : (size : Int) ≤ 8 := by omega
  clear hi hz0 hz1 hz2
  go_enter Tryd.func41, Tryd.ntmps41
  go_wp2_with fail
  go_loopw [5, 6] (fun s i wr => WbRel n size w s i wr) (fun _ i _ => size - (intOf i).toNat)
  case atStart => exact ⟨0, _, 0, Nat.zero_le _, rfl, rfl, ownB_made w, (Below.refl _ _).alloc (Nat.le_refl _) _⟩
  case round =>
    obtain ⟨k, a, c, hk, rfl, rfl, ho, hb⟩ := hrel
    have HO := Lib.hid ho
    have HL := Lib.hid hb
    have hk0 : (0 : Int) ≤ (k : Int) := by omega
    have hk8 : (k : Int) ≤ 8 := by omega
    clear ho hb
    by_cases hlt : k < size
    · have hlt' : (k : Int) < (size : Int) := by omega
      have HN := Lib.hid (wb_succ n k)
      obtain ⟨l, hl⟩ : ∃ l, wb n k = l := ⟨_, rfl⟩
      have hll : l.length = k := by rw [← hl, wb_length]
      rw [hl] at HO HN ⊢
      have A1 := Lib.hid (show l.length + 1 ≤ maxLen by unfold maxLen; omega)
      have A2 := Lib.hid (show (l.length + 1) * 1 ≤ 140737488355328 by omega)
      have A3 := Lib.hid HL.out.size
      have HV := Lib.hid (wb_val n k hn)
      clear hl hll
      go_wp2_with (at_builtin; refine wpList_append_any _ rfl (.tmp 13) (.tmp 21) 28 rfl w.heap.size 5 i0 (.int .u8 0) 1 1 Tryd.underlying28 JI.out HZ0.out HZ1.out HZ2.out rfl Nat.one_pos (.slice a l.length c) l.length (Lib.byteCells l) rfl (byte_own HO.out) (wr.heap.size + 1) (some ⟨wr.heap.size, 0, none⟩) 1 1 [.int .u8 (bits .and .i64 ((n : Int) / 2 ^ (8 * k)) 255 % 256)] rfl byte_reads (one_u8 _) A1.out A2.out (byte_base A3.out) ?_; intro v' w' hown hgr hat; obtain ⟨a', c', rfl⟩ := ownsRow_slice hown; have HMD := Lib.hid (byte_next HO.out (Nat.le_refl _) HL.out HV.out hown hgr); clear hown hgr hat)
      go_roundw
      case rel =>
        obtain ⟨t1, t2⟩ := HMD.out
        refine ⟨k + 1, a', c', hlt, by go_num, by rw [HN.out, List.length_append]; rfl, by rw [HN.out]; exact t1, t2⟩
      case measure => simp [intOf]; omega
    · obtain rfl : k = size := by omega
      have HC := HO.out.string
      go_wp2_with fail
      go_ret
      exact ⟨rfl, HL.out⟩
end Go.Proofs.YtpfbhckmpkiijaaDoor
