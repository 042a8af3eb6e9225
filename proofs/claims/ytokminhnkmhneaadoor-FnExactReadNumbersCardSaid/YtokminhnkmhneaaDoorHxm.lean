/-
  Hexadecimal digits: their values, and the model's text of a number. Conditions: the number has 32 bits.
-/
import Derived.Test.YtokminhnkmhneaaDoorTlm
namespace Go.Proofs.YtokminhnkmhneaaDoor
open Go.RowKit Go.Deep Go.WideShapes Go.ChangeShapes
set_option linter.unusedVariables false
set_option linter.unusedSimpArgs false

def hd (d : Nat) : UInt8 := if d < 10 then UInt8.ofNat (48 + d) else UInt8.ofNat (87 + d)
/-- the digits of a number, the first ahead -/
def hx (u : Nat) : List UInt8 := if h : u < 16 then [hd u] else hx (u / 16) ++ [hd (u % 16)]
termination_by u
decreasing_by omega
theorem hx_small {u : Nat} (h : u < 16) : hx u = [hd u] := by rw [hx, dif_pos h]
theorem hx_big {u : Nat} (h : ¬ u < 16) : hx u = hx (u / 16) ++ [hd (u % 16)] := (hx.eq_1 u).trans (dif_neg h)
/-- k digits of a number -/
def hk (k n : Nat) : List UInt8 := (List.range k).map fun j => hd (n / 16 ^ (k - 1 - j) % 16)
theorem hk_succ (k n : Nat) : hk (k + 1) n = hk k (n / 16) ++ [hd (n % 16)] := by
  unfold hk
  rw [List.range_succ, List.map_append]
  congr 1
  · refine List.map_congr_left fun j hj => ?_
    have hj := List.mem_range.1 hj
    rw [show k + 1 - 1 - j = (k - 1 - j) + 1 by omega, Nat.pow_succ, Nat.mul_comm, ← Nat.div_div_eq_div_mul]
  · simp
theorem hk_zero (k : Nat) : hk k 0 = List.replicate k 48 := by
  unfold hk
  rw [List.eq_replicate_iff]
  refine ⟨by simp, fun c hc => ?_⟩
  obtain ⟨j, _, rfl⟩ := List.mem_map.1 hc
  rw [Nat.zero_div]
  rfl
theorem hk_len (k n : Nat) : (hk k n).length = k := by simp [hk]
theorem hx_len (k : Nat) : ∀ n, n < 16 ^ k → 1 ≤ k → 1 ≤ (hx n).length ∧ (hx n).length ≤ k := by
  induction k with
  | zero => intro n _ h; omega
  | succ k ih =>
    intro n hn _
    by_cases h : n < 16
    · rw [hx_small h]; simp
    · rw [Nat.pow_succ] at hn
      rw [hx_big h, List.length_append, List.length_singleton]
      cases k with
      | zero => omega
      | succ k => have := ih (n / 16) (by omega) (by omega); omega
theorem hk_hx (k : Nat) : ∀ n, n < 16 ^ k → 1 ≤ k → hk k n = List.replicate (k - (hx n).length) 48 ++ hx n := by
  induction k with
  | zero => intro n _ h; omega
  | succ k ih =>
    intro n hn _
    rw [hk_succ]
    by_cases h : n < 16
    · rw [hx_small h, show n / 16 = 0 by omega, hk_zero, Nat.mod_eq_of_lt h]
      rfl
    · rw [Nat.pow_succ] at hn
      cases k with
      | zero => omega
      | succ k =>
        rw [ih (n / 16) (by omega) (by omega), hx_big h, List.length_append, List.length_singleton, List.append_assoc]
        congr 2
        omega
/-- the text of a number -/
def numT (z : Nat) : List UInt8 := hk 8 (canon .f32 z)
theorem hd_toNat {d : Nat} (h : d < 16) : (hd d).toNat = if d < 10 then 48 + d else 87 + d := by
  unfold hd
  split <;> (rw [UInt8.toNat_ofNat']; omega)
theorem hk_take (n j : Nat) (hj : j < 8) : (hk 8 n).take (j + 1) = (hk 8 n).take j ++ [hd (n / 16 ^ (7 - j) % 16)] := by
  have hl : j < (hk 8 n).length := by rw [hk_len]; exact hj
  rw [List.take_succ_eq_append_getElem hl]
  congr 2
  simp [hk]
theorem hex_at (i : Nat) (h : i < 16) : (⟨#[48, 49, 50, 51, 52, 53, 54, 55, 56, 57, 97, 98, 99, 100, 101, 102]⟩ : ByteArray)[i]'(by simpa [ByteArray.size] using h) = hd i := by
  have : ∀ i : Fin 16, (⟨#[48, 49, 50, 51, 52, 53, 54, 55, 56, 57, 97, 98, 99, 100, 101, 102]⟩ : ByteArray)[i.val]'(by simp [ByteArray.size]) = hd i.val := by decide +kernel
  exact this ⟨i, h⟩
theorem i64_and15 (a : Nat) (ha : a < 9223372036854775808) : bits .and .i64 (a : Int) 15 = ((a % 16 : Nat) : Int) := by
  show IntKind.i64.wrap ((BitVec.ofInt 64 (a : Int) &&& BitVec.ofInt 64 (15 : Int)).toNat : Int) = _
  have h1 : (BitVec.ofInt 64 (a : Int)).toNat = a := by rw [BitVec.ofInt_natCast, BitVec.toNat_ofNat]; exact Nat.mod_eq_of_lt (by omega)
  have h2 : (BitVec.ofInt 64 (15 : Int)).toNat = 15 := by decide
  have h3 : a &&& 15 = a % 16 := Nat.and_two_pow_sub_one_eq_mod a 4
  rw [BitVec.toNat_and, h1, h2, h3, IntKind.wrap_i64]
  omega
def HexRel (n : Nat) (w : World) (s i : Value) (wr : World) : Prop :=
  ∃ (j : Nat) (a : Option Addr) (c : Nat), j ≤ 8 ∧ i = .int .i64 (28 - 4 * (j : Int)) ∧ s = .slice a ((hk 8 n).take j).length c ∧ OwnB wr w.heap.size a c ((hk 8 n).take j) ∧ Below w.heap.size w wr
set_option maxRecDepth 20000 in
set_option maxHeartbeats 2000000 in
theorem c_l01Hex (z : Nat) (hz : z < 4294967296) (w : World) : Calls Tryd.prog 104 #[.float .f32 z] w fun e w' => e = .returned (.string ⟨(numT z).toArray⟩) ∧ Below w.heap.size w w' := by
  obtain ⟨i0, hi, hz0, hz1, hz2⟩ := info_parts info_u8
  have JI := Lib.hid hi
  have HZ0 := Lib.hid hz0
  have HZ1 := Lib.hid hz1
  have HZ2 := Lib.hid hz2
  have hcl := canon_lt32 hz
  have HB := Lib.hid (fun W => c_l01Bits z hz W)
  unfold numT
  obtain ⟨n, hn⟩ : ∃ n, canon .f32 z = n := ⟨_, rfl⟩
  rw [hn] at hcl HB ⊢
  clear hi hz0 hz1 hz2 hz hn
  go_enter Tryd.func104, Tryd.ntmps104
  go_wp2_with fail
  refine (HB.out w).mono ?_
  rintro e w2 ⟨rfl, rfl⟩
  go_wp2_with fail
  go_loopw [4, 5] (fun s i wr => HexRel n w s i wr) (fun _ i _ => (intOf i + 4).toNat)
  case atStart => exact ⟨0, _, 0, Nat.zero_le _, rfl, rfl, ownB_made w, (Below.refl _ _).alloc (Nat.le_refl _) _⟩
  case round =>
    obtain ⟨j, a, c, hj, rfl, rfl, ho, hb⟩ := hrel
    have HO := Lib.hid ho
    have HL := Lib.hid hb
    clear ho hb
    by_cases hlt : j < 8
    · have HN := Lib.hid (hk_take n j hlt)
      obtain ⟨q, hq⟩ : ∃ q : Nat, 28 - 4 * j = q := ⟨_, rfl⟩
      obtain ⟨d, hd⟩ : ∃ d, n / 16 ^ (7 - j) % 16 = d := ⟨_, rfl⟩
      rw [hd] at HN
      have hd16 : d < 16 := by rw [← hd]; exact Nat.mod_lt _ (by decide)
      have hqi : (28 : Int) - 4 * (j : Int) = (q : Int) := by omega
      have hnx : (q : Int) - 4 = 28 - 4 * ((j + 1 : Nat) : Int) := by omega
      have hand : bits .and .i64 ((n : Int) / 2 ^ q) 15 = (d : Int) := by
        have e : ((n / 2 ^ q : Nat) : Int) = (n : Int) / 2 ^ q := by simp
        have hle : n / 2 ^ q ≤ n := Nat.div_le_self _ _
        rw [← e, i64_and15 _ (by omega), ← hd, show (16 : Nat) ^ (7 - j) = 2 ^ q by rw [show (16 : Nat) = 2 ^ 4 by decide, ← Nat.pow_mul]; congr 1; omega]
      have hq28 : (q : Int) ≤ 28 := by omega
      have hq0 : (0 : Int) ≤ (q : Int) := by omega
      have hd15 : (d : Int) ≤ 15 := by omega
      have HNX := Lib.hid hnx
      have HX := Lib.hid (hex_at d hd16)
      have hl8 : ((hk 8 n).take j).length ≤ 8 := by rw [List.length_take, hk_len]; omega
      obtain ⟨l, hl⟩ : ∃ l, (hk 8 n).take j = l := ⟨_, rfl⟩
      rw [hl] at HO HN hl8 ⊢
      rw [hqi]
      have A1 := Lib.hid (show l.length + 1 ≤ maxLen by unfold maxLen; omega)
      have A2 := Lib.hid (show (l.length + 1) * 1 ≤ 140737488355328 by omega)
      have A3 := Lib.hid HL.out.size
      have HJ := Lib.hid hlt
      clear hl hqi hnx hd hq hl8 hlt hj
      go_wp2_with (at_builtin; refine wpList_append_any _ rfl (.tmp 13) (.tmp 20) 83 rfl w.heap.size 5 i0 (.int .u8 0) 1 1 Tryd.underlying83 JI.out HZ0.out HZ1.out HZ2.out rfl Nat.one_pos (.slice a l.length c) l.length (Lib.byteCells l) rfl (byte_own HO.out) (wr.heap.size + 1) (some ⟨wr.heap.size, 0, none⟩) 1 1 [.int .u8 _] rfl byte_reads (one_u8 _) A1.out A2.out (byte_base A3.out) ?_; intro v' w' hown hgr hat; obtain ⟨a', c', rfl⟩ := ownsRow_slice hown; have HMD := Lib.hid (byte_next (c := hd d) HO.out (Nat.le_refl _) HL.out (by rw [HX.out]) hown hgr); clear hown hgr hat)
      go_roundw
      case rel =>
        obtain ⟨t1, t2⟩ := HMD.out
        refine ⟨j + 1, a', c', HJ.out, by rw [HNX.out], by rw [HN.out, List.length_append]; rfl, by rw [HN.out]; exact t1, t2⟩
      case measure => simp [intOf]; omega
    · obtain rfl : j = 8 := by omega
      have hall : (hk 8 n).take 8 = hk 8 n := List.take_of_length_le (by rw [hk_len]; exact Nat.le_refl _)
      rw [hall] at HO ⊢
      have HC := HO.out.string
      clear hall
      go_wp2_with fail
      go_ret
      exact ⟨rfl, HL.out⟩
end Go.Proofs.YtokminhnkmhneaaDoor
