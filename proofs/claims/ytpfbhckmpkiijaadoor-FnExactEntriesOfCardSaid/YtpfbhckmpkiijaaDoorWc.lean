/-
  The bytes of numbers: the model's. Conditions: the numbers can be read.
-/
import Derived.Test.YtpfbhckmpkiijaaDoorWb
import Derived.Test.YtpfbhckmpkiijaaDoorBits
namespace Go.Proofs.YtpfbhckmpkiijaaDoor
open Go.RowKit Go.Deep Go.WideShapes Go.ChangeShapes
set_option linter.unusedVariables false

def nb (zs : List Nat) : List UInt8 := zs.flatMap fun z => wb (canon .f32 z) 4
theorem nb_length (zs : List Nat) : (nb zs).length = 4 * zs.length := by
  induction zs with
  | nil => rfl
  | cons z zs ih =>
    simp only [nb, List.flatMap_cons, List.length_append, wb_length, List.length_cons] at ih ⊢
    omega
theorem nb_snoc {zs : List Nat} {k : Nat} {z : Nat} (h : zs[k]? = some z) : nb (zs.take (k + 1)) = nb (zs.take k) ++ wb (canon .f32 z) 4 := by
  unfold nb
  rw [List.take_add_one, h, List.flatMap_append]
  simp
theorem nb_append (a b : List Nat) : nb (a ++ b) = nb a ++ nb b := by simp [nb]
theorem nb_canon (zs : List Nat) : nb (zs.map (canon .f32)) = nb zs := by
  unfold nb
  rw [List.flatMap_map]
  congr 1
  funext z
  rw [canon_canon]
theorem canon_lt32 {x : Nat} (h : x < 4294967296) : canon .f32 x < 4294967296 := by
  cases hn : isNan .f32 x with
  | true => rw [canon_nan hn]; decide
  | false => rw [canon_num hn]; exact h
theorem flt_atW {w : World} {a : Option Addr} {n cap : Nat} {zs : List Nat} (h : IsFloats .f32 w a n cap zs) {i : Nat} (hi : i < n) : ∃ b off x, a = some ⟨b, off, none⟩ ∧ b < w.heap.size ∧ zs[i]? = some x ∧ w.cell? ⟨b, off + i, none⟩ = some (.float .f32 x) ∧ x < 4294967296 := by
  obtain ⟨_, _, h3, h4, h5⟩ := h
  rcases h5 with h0 | ⟨b, off, e, hb, hc⟩
  · omega
  · have hx : zs[i]? = some zs[i] := List.getElem?_eq_getElem (by omega)
    refine ⟨b, off, zs[i], e, hb, hx, ?_, h4 _ (List.getElem_mem _)⟩
    rw [hc i hi, List.getD_eq_getElem?_getD, hx]
    rfl
theorem size_mk (m : List UInt8) : (⟨m.toArray⟩ : ByteArray).size = m.length := by simp [ByteArray.size]
def NbRel (zs : List Nat) (n : Nat) (w : World) (s i : Value) (wr : World) : Prop :=
  ∃ (k : Nat) (a : Option Addr) (c : Nat), k ≤ n ∧ i = .int .i64 k ∧ s = .slice a (nb (zs.take k)).length c ∧ OwnB wr w.heap.size a c (nb (zs.take k)) ∧ Below w.heap.size w wr
set_option maxRecDepth 20000 in
set_option maxHeartbeats 2000000 in
theorem c_l08Bytes (a : Option Addr) (cap : Nat) (zs : List Nat) (w : World) (h : IsFloats .f32 w a zs.length cap zs) (h4 : zs.length ≤ 4096) : Calls Tryd.prog 22 #[.slice a zs.length cap] w fun e w' => e = .returned (.string ⟨(nb zs).toArray⟩) ∧ Below w.heap.size w w' := by
  obtain ⟨i0, hi, hz0, hz1, hz2⟩ := info_parts info_u8
  have JI := Lib.hid hi
  have HZ0 := Lib.hid hz0
  have HZ1 := Lib.hid hz1
  have HZ2 := Lib.hid hz2
  have HX := Lib.hid h
  obtain ⟨n, hn⟩ : ∃ n, zs.length = n := ⟨_, rfl⟩
  have HN := Lib.hid hn
  rw [hn] at HX h4 ⊢
  have hn4 : (n : Int) ≤ 4096 := by omega
  clear hi hz0 hz1 hz2 h hn
  go_enter Tryd.func22, Tryd.ntmps22
  go_wp2_with fail
  go_loopw [3, 4] (fun s i wr => NbRel zs n w s i wr) (fun _ i _ => n - (intOf i).toNat)
  case atStart => exact ⟨0, _, 0, Nat.zero_le _, rfl, rfl, ownB_made w, (Below.refl _ _).alloc (Nat.le_refl _) _⟩
  case round =>
    obtain ⟨k, a, c, hk, rfl, rfl, ho, hb⟩ := hrel
    have HO := Lib.hid ho
    have HL := Lib.hid hb
    have hk0 : (0 : Int) ≤ (k : Int) := by omega
    clear ho hb
    by_cases hlt : k < n
    · have hlt' : (k : Int) < (n : Int) := by omega
      obtain ⟨b1, o1, x, rfl, hb1, hx, c1, l1⟩ := flt_atW (HX.out.kept HL.out) hlt
      have HS := Lib.hid (nb_snoc hx)
      have HL1 := Lib.hid l1
      have hle : (nb (zs.take k)).length ≤ 16384 := by rw [nb_length, List.length_take]; omega
      obtain ⟨l, hl⟩ : ∃ l, nb (zs.take k) = l := ⟨_, rfl⟩
      rw [hl] at HO HS hle ⊢
      have hcl := canon_lt32 l1
      obtain ⟨y, hy⟩ : ∃ y, canon .f32 x = y := ⟨_, rfl⟩
      have HY := Lib.hid hy
      rw [hy] at HS hcl
      have HW := Lib.hid (fun W => c_l08Word y 4 (by omega) (by omega) W)
      have HLE := Lib.hid hle
      clear hl hx l1 hy hle
      go_wp2_with fail
      refine (c_l01Bits x HL1.out _).mono ?_
      rintro e wz ⟨rfl, rfl⟩
      rw [HY.out]
      clear c1
      go_wp2_with fail
      refine (HW.out _).mono ?_
      rintro e w2 ⟨rfl, hb⟩
      have HL2 := Lib.hid (Below.next HL.out hb)
      have HO2 := Lib.hid (HO.out.kept hb)
      clear hb
      go_wp2_with (at_builtin; refine Lib.wpList_append_own_string _ rfl (.tmp 12) (.tmp 18) 28 9 rfl w.heap.size 5 i0 Tryd.underlying28 Tryd.underlying9 JI.out HZ0.out HZ1.out HZ2.out (.slice a l.length c) l.length (Lib.byteCells l) rfl HO2.out ⟨(wb y 4).toArray⟩ rfl ?c1 ?c2 HL2.out.size ?_)
      case c1 => have := HLE.out; rw [size_mk, wb_length]; unfold maxLen; omega
      case c2 => have := HLE.out; rw [size_mk, wb_length]; omega
      intro v' w5 hown hgr hat
      obtain ⟨a', c', rfl⟩ := ownsRow_slice hown
      have HMD := Lib.hid (str_next HO2.out (Nat.le_refl _) HL2.out hown hgr)
      clear hown hgr hat
      go_wp2_with fail
      go_roundw
      case rel =>
        obtain ⟨t1, t2⟩ := HMD.out
        refine ⟨k + 1, a', c', hlt, by go_num, by rw [HS.out, List.length_append], by rw [HS.out]; exact t1, t2⟩
      case measure => simp [intOf]; omega
    · obtain rfl : k = n := by omega
      have hall : nb (zs.take k) = nb zs := by rw [List.take_of_length_le (by rw [HN.out]; exact Nat.le_refl _)]
      rw [hall] at HO ⊢
      have HC := HO.out.string
      clear hall
      go_wp2_with fail
      go_ret
      exact ⟨rfl, HL.out⟩
end Go.Proofs.YtpfbhckmpkiijaaDoor
