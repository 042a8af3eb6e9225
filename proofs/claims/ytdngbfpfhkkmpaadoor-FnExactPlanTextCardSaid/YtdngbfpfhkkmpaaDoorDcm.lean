/-
  Numerals: the model's. Conditions: the integer is one of 64 bits.
-/
import Derived.Test.YtdngbfpfhkkmpaaDoorWb
import Derived.Lib.ItoaLen
namespace Go.Proofs.YtdngbfpfhkkmpaaDoor
open Go.RowKit Go.Deep Go.WideShapes Go.ChangeShapes
set_option linter.unusedVariables false

theorem i64_bounds {a : Int} (h : (Lit.int .i64 a).wf = true) : -9223372036854775808 ≤ a ∧ a ≤ 9223372036854775807 := by
  simp [Lit.wf, IntKind.min, IntKind.max, IntKind.signed, IntKind.bits] at h
  omega
/-- the digits of a number that is not 0, none for 0 -/
def dz (u : Nat) : List UInt8 := if u = 0 then [] else Lib.decDigits u
theorem dec_step (u : Nat) : Lib.decDigits u = dz (u / 10) ++ [UInt8.ofNat (48 + u % 10)] := by
  unfold dz
  by_cases h : u < 10
  · rw [Lib.decDigits, dif_pos h, if_pos (by omega), Nat.mod_eq_of_lt h, List.nil_append]
  · rw [if_neg (by omega)]
    exact (Lib.decDigits.eq_1 u).trans (dif_neg h)
theorem dz_pos {u : Nat} (h : u ≠ 0) : dz u = Lib.decDigits u := if_neg h
theorem dz_zero : dz 0 = [] := rfl
theorem digit_toNat (u : Nat) : (UInt8.ofNat (48 + u % 10)).toNat = 48 + u % 10 := by
  rw [UInt8.toNat_ofNat']
  omega
theorem decDigits_le (u : Nat) (h : u ≤ 9223372036854775808) : (Lib.decDigits u).length ≤ 20 := by
  rw [Lib.decDigits_length]
  exact Lib.nDigits_le20 u (by omega)
theorem bytes_one (l : List UInt8) : ∀ u ∈ Lib.byteCells l, u.oneCell' = true := by
  intro u hu
  simp only [Lib.byteCells, List.mem_map] at hu
  obtain ⟨x, _, rfl⟩ := hu
  rfl
/-- a byte ahead of a list of bytes: the new list -/
theorem ahead_next {B n : Nat} {w wr w' : World} {a' : Option Addr} {cp' : Nat} {v : Int} {c : UInt8} {l : List UInt8} (hn : l.length = n) (hB : w.heap.size ≤ B) (hw : B ≤ wr.heap.size) (hl : Below w.heap.size w wr) (hv : v = (c.toNat : Int))
    (hown : w'.ownsRow B 5 1 (.slice a' (1 + n) cp') (1 + n) ([.int .u8 v] ++ Lib.byteCells l)) (hg : (wr.alloc (.cells #[.int .u8 v] 5)).grownBy w' (some wr.heap.size)) :
    OwnB w' B a' cp' (c :: l) ∧ Below w.heap.size w w' := by
  have bw : Below wr.heap.size wr (wr.alloc (.cells #[.int .u8 v] 5)) := (Below.refl _ _).alloc (Nat.le_refl _) _
  subst hv
  subst hn
  refine ⟨?_, (hl.trans (bw.mono hl.size)).grown hg (Nat.le_trans hl.size bw.size) (fun g h => by injection h with h; subst h; exact hl.size)⟩
  unfold OwnB
  rw [List.length_cons, Nat.add_comm]
  exact hown
theorem own_one (w : World) (base : Nat) (v : Int) (hb : base ≤ w.heap.size) : (w.alloc (.cells #[.int .u8 v] 5)).ownsRow base 5 1 (.slice (some ⟨w.heap.size, 0, none⟩) 1 1) 1 [.int .u8 v] :=
  ⟨by simp, .inr ⟨w.heap.size, 1, _, rfl, hb, heap_alloc_new w _, Nat.le_refl _, by unfold maxLen; omega, rfl, by simp⟩⟩
def lenV : Value → Nat
  | .slice _ n _ => n
  | _ => 0
def decM (s r : Value) : Nat := (intOf r).natAbs + (if lenV s = 0 then 1 else 0)
theorem itoa_of {n : Int} : Lib.itoa n = if n < 0 then 45 :: Lib.decDigits n.natAbs else Lib.decDigits n.natAbs := by
  unfold Lib.itoa
  split
  · rfl
  · rw [show n.toNat = n.natAbs by omega]
theorem dec_round {n q : Int} {out : List UInt8} (h : (out.length = 0 ∧ q = n) ∨ (out.length ≠ 0 ∧ dz q.natAbs ++ out = Lib.decDigits n.natAbs)) (hne : out.length = 0 ∨ q ≠ 0) :
    dz (q.natAbs / 10) ++ (UInt8.ofNat (48 + q.natAbs % 10) :: out) = Lib.decDigits n.natAbs := by
  rcases h with ⟨h0, rfl⟩ | ⟨h0, he⟩
  · obtain rfl := List.eq_nil_of_length_eq_zero h0
    rw [dec_step q.natAbs]
  · have hq : q ≠ 0 := by rcases hne with h | h; · exact absurd h h0
                          · exact h
    have hqn : q.natAbs ≠ 0 := fun h => hq (by omega)
    rw [← he, dz_pos hqn, dec_step q.natAbs, List.append_assoc]
    rfl
theorem dec_len {n q : Int} {out : List UInt8} (h : (out.length = 0 ∧ q = n) ∨ (out.length ≠ 0 ∧ dz q.natAbs ++ out = Lib.decDigits n.natAbs)) (h0 : -9223372036854775808 ≤ n) (h1 : n ≤ 9223372036854775807) : out.length ≤ 20 := by
  rcases h with ⟨h0, _⟩ | ⟨_, he⟩
  · omega
  · have := decDigits_le n.natAbs (by omega)
    rw [← he, List.length_append] at this
    omega
def DecRel (n : Int) (B : Nat) (w : World) (s r : Value) (wr : World) : Prop :=
  ∃ (q : Int) (out : List UInt8) (a : Option Addr) (c : Nat), r = .int .i64 q ∧ s = .slice a out.length c ∧ OwnB wr B a c out ∧ Below B w wr ∧ -9223372036854775808 ≤ q ∧ q ≤ 9223372036854775807 ∧
    ((out.length = 0 ∧ q = n) ∨ (out.length ≠ 0 ∧ dz q.natAbs ++ out = Lib.decDigits n.natAbs))
set_option maxRecDepth 20000 in
set_option maxHeartbeats 2000000 in
theorem c_l01Dec (n : Int) (h0 : -9223372036854775808 ≤ n) (h1 : n ≤ 9223372036854775807) (w : World) : Calls Tryd.prog 20 #[.int .i64 n] w fun e w' => e = .returned (.string ⟨(Lib.itoa n).toArray⟩) ∧ Below w.heap.size w w' := by
  obtain ⟨i0, hi, hz0, hz1, hz2⟩ := info_parts info_u8
  have JI := Lib.hid hi
  have HZ0 := Lib.hid hz0
  have HZ1 := Lib.hid hz1
  have HZ2 := Lib.hid hz2
  have H0 := Lib.hid h0
  have H1 := Lib.hid h1
  clear hi hz0 hz1 hz2 h0 h1
  go_enter Tryd.func20, Tryd.ntmps20
  go_wp2_with fail
  go_loopw [3, 4] (fun s r wr => DecRel n w.heap.size w s r wr) (fun s r _ => decM s r)
  case atStart => exact ⟨n, [], _, 0, rfl, rfl, ownB_made w, (Below.refl _ _).alloc (Nat.le_refl _) _, H0.out, H1.out, .inl ⟨rfl, rfl⟩⟩
  case round =>
    obtain ⟨q, out, a, c, rfl, rfl, ho, hb, q0, q1, hd⟩ := hrel
    have HO := Lib.hid ho
    have HL := Lib.hid hb
    have HD := Lib.hid hd
    have hl := dec_len hd H0.out H1.out
    clear ho hb hd
    by_cases hstop : out.length = 0 ∨ q ≠ 0
    · have HR := Lib.hid (dec_round HD.out hstop)
      have HST := Lib.hid hstop
      obtain ⟨d, hd⟩ : ∃ d, Int.tmod q 10 = d := ⟨_, rfl⟩
      obtain ⟨q', hq⟩ : ∃ q', Int.tdiv q 10 = q' := ⟨_, rfl⟩
      have hdn : d.natAbs = q.natAbs % 10 := by rw [← hd, Int.natAbs_tmod]; rfl
      have hqn : q'.natAbs = q.natAbs / 10 := by rw [← hq, Int.natAbs_tdiv]; rfl
      have hc8 := digit_toNat q.natAbs
      obtain ⟨ch, hch⟩ : ∃ ch, UInt8.ofNat (48 + q.natAbs % 10) = ch := ⟨_, rfl⟩
      rw [hch] at HR hc8
      have HVa := Lib.hid (show 0 ≤ d → 48 + d = (ch.toNat : Int) by intro h; rw [hc8]; omega)
      have HVb := Lib.hid (show d < 0 → 48 + -d = (ch.toNat : Int) by intro h; rw [hc8]; omega)
      have hq1 : -9223372036854775808 ≤ q' ∧ q' ≤ 9223372036854775807 := by omega
      obtain ⟨hq0, hq9⟩ := hq1
      have HQN := Lib.hid hqn
      have HMS := Lib.hid (fun (b : Option Addr) (k : Nat) => show decM (.slice b (1 + out.length) k) (.int .i64 q') < decM (.slice a out.length c) (.int .i64 q) by unfold decM lenV intOf; simp only; split <;> split <;> omega)
      have hd9 : d.natAbs ≤ 9 := by omega
      have d1 : -9 ≤ d := by omega
      have d2 : d ≤ 9 := by omega
      have A1 := Lib.hid (show 1 + out.length ≤ maxLen by unfold maxLen; omega)
      have A2 := Lib.hid (show (1 + out.length) * 1 ≤ 140737488355328 by omega)
      have A3 := Lib.hid HL.out.size
      clear hqn hdn hd9 hc8 hch
      have HRD := fun v => Reads.of_own (byte_own (v := v) HO.out)
      have HONE := bytes_one out
      obtain ⟨L, hL⟩ : ∃ L, out.length = L := ⟨_, rfl⟩
      have HLL := Lib.hid hL
      rw [hL] at hstop HMS A1 A2 HRD hl ⊢
      have HSTOP := Lib.hid hstop
      clear hstop
      have HREADS := Lib.hid HRD
      have HON := Lib.hid HONE
      clear hL HRD HONE
      by_cases hs : L = 0
      · subst hs
        rcases (show d < 0 ∨ 0 ≤ d by omega) with hd0 | hd0
        · have HV := Lib.hid (HVb.out hd0)
          go_wp2_with (at_builtin; refine wpList_append_any _ rfl (.tmp 24) (.tmp 25) 68 rfl w.heap.size 5 i0 (.int .u8 0) 1 1 Tryd.underlying68 JI.out HZ0.out HZ1.out HZ2.out rfl Nat.one_pos (.slice (some ⟨wr.heap.size, 0, none⟩) 1 1) 1 [.int .u8 _] rfl (own_one wr _ _ A3.out) _ a 0 c (Lib.byteCells out) rfl (HREADS.out _) (HON.out) A1.out A2.out (byte_base A3.out) ?_; intro v' w' hown hgr hat; obtain ⟨a', c', rfl⟩ := ownsRow_slice hown; have HMD := Lib.hid (ahead_next HLL.out (Nat.le_refl _) A3.out HL.out HV.out hown hgr); clear hown hgr hat)
          go_wp2_with fail
          go_roundw
          case rel =>
            obtain ⟨t1, t2⟩ := HMD.out
            exact ⟨q', ch :: out, a', c', rfl, by rw [List.length_cons, HLL.out, Nat.add_comm], t1, t2, hq0, hq9, .inr ⟨by simp, by rw [HQN.out]; exact HR.out⟩⟩
          case measure => exact HMS.out _ _
        · have HV := Lib.hid (HVa.out hd0)
          go_wp2_with (at_builtin; refine wpList_append_any _ rfl (.tmp 24) (.tmp 25) 68 rfl w.heap.size 5 i0 (.int .u8 0) 1 1 Tryd.underlying68 JI.out HZ0.out HZ1.out HZ2.out rfl Nat.one_pos (.slice (some ⟨wr.heap.size, 0, none⟩) 1 1) 1 [.int .u8 _] rfl (own_one wr _ _ A3.out) _ a 0 c (Lib.byteCells out) rfl (HREADS.out _) (HON.out) A1.out A2.out (byte_base A3.out) ?_; intro v' w' hown hgr hat; obtain ⟨a', c', rfl⟩ := ownsRow_slice hown; have HMD := Lib.hid (ahead_next HLL.out (Nat.le_refl _) A3.out HL.out HV.out hown hgr); clear hown hgr hat)
          go_wp2_with fail
          go_roundw
          case rel =>
            obtain ⟨t1, t2⟩ := HMD.out
            exact ⟨q', ch :: out, a', c', rfl, by rw [List.length_cons, HLL.out, Nat.add_comm], t1, t2, hq0, hq9, .inr ⟨by simp, by rw [HQN.out]; exact HR.out⟩⟩
          case measure => exact HMS.out _ _
      · have hsd : decide ((L : Int) = 0) = false := decide_eq_false (by omega)
        have hq0' : q ≠ 0 := HSTOP.out.resolve_left hs
        have hqd : (q != 0) = true := by simpa using hq0'
        rcases (show d < 0 ∨ 0 ≤ d by omega) with hd0 | hd0
        · have HV := Lib.hid (HVb.out hd0)
          go_wp2_with (at_builtin; refine wpList_append_any _ rfl (.tmp 24) (.tmp 25) 68 rfl w.heap.size 5 i0 (.int .u8 0) 1 1 Tryd.underlying68 JI.out HZ0.out HZ1.out HZ2.out rfl Nat.one_pos (.slice (some ⟨wr.heap.size, 0, none⟩) 1 1) 1 [.int .u8 _] rfl (own_one wr _ _ A3.out) _ a L c (Lib.byteCells out) rfl (HREADS.out _) (HON.out) A1.out A2.out (byte_base A3.out) ?_; intro v' w' hown hgr hat; obtain ⟨a', c', rfl⟩ := ownsRow_slice hown; have HMD := Lib.hid (ahead_next HLL.out (Nat.le_refl _) A3.out HL.out HV.out hown hgr); clear hown hgr hat)
          go_wp2_with fail
          go_roundw
          case rel =>
            obtain ⟨t1, t2⟩ := HMD.out
            exact ⟨q', ch :: out, a', c', rfl, by rw [List.length_cons, HLL.out, Nat.add_comm], t1, t2, hq0, hq9, .inr ⟨by simp, by rw [HQN.out]; exact HR.out⟩⟩
          case measure => exact HMS.out _ _
        · have HV := Lib.hid (HVa.out hd0)
          go_wp2_with (at_builtin; refine wpList_append_any _ rfl (.tmp 24) (.tmp 25) 68 rfl w.heap.size 5 i0 (.int .u8 0) 1 1 Tryd.underlying68 JI.out HZ0.out HZ1.out HZ2.out rfl Nat.one_pos (.slice (some ⟨wr.heap.size, 0, none⟩) 1 1) 1 [.int .u8 _] rfl (own_one wr _ _ A3.out) _ a L c (Lib.byteCells out) rfl (HREADS.out _) (HON.out) A1.out A2.out (byte_base A3.out) ?_; intro v' w' hown hgr hat; obtain ⟨a', c', rfl⟩ := ownsRow_slice hown; have HMD := Lib.hid (ahead_next HLL.out (Nat.le_refl _) A3.out HL.out HV.out hown hgr); clear hown hgr hat)
          go_wp2_with fail
          go_roundw
          case rel =>
            obtain ⟨t1, t2⟩ := HMD.out
            exact ⟨q', ch :: out, a', c', rfl, by rw [List.length_cons, HLL.out, Nat.add_comm], t1, t2, hq0, hq9, .inr ⟨by simp, by rw [HQN.out]; exact HR.out⟩⟩
          case measure => exact HMS.out _ _
    · obtain ⟨hs1, hs2⟩ : out.length ≠ 0 ∧ q = 0 := ⟨fun h => hstop (.inl h), Classical.byContradiction fun h => hstop (.inr h)⟩
      subst hs2
      have hout : out = Lib.decDigits n.natAbs := by
        rcases HD.out with ⟨h, _⟩ | ⟨_, h⟩
        · exact absurd h hs1
        · exact h
      have HI := Lib.hid (itoa_of (n := n))
      have HOUT := Lib.hid hout
      have HRD := fun v => Reads.of_own (byte_own (v := v) HO.out)
      have HONE := bytes_one out
      have HC := HO.out.string
      obtain ⟨L, hL⟩ : ∃ L, out.length = L := ⟨_, rfl⟩
      have HLL := Lib.hid hL
      rw [hL] at hs1 HRD HC hl ⊢
      have hsd : decide ((L : Int) = 0) = false := decide_eq_false (by omega)
      have A1 := Lib.hid (show 1 + L ≤ maxLen by unfold maxLen; omega)
      have A2 := Lib.hid (show (1 + L) * 1 ≤ 140737488355328 by omega)
      have A3 := Lib.hid HL.out.size
      have HREADS := Lib.hid HRD
      have HON := Lib.hid HONE
      clear hL HRD HONE hout HD hl q0 q1
      rcases (show n < 0 ∨ 0 ≤ n by omega) with hn0 | hn0
      · clear HC
        go_wp2_with (at_builtin; refine wpList_append_any _ rfl (.tmp 31) (.tmp 32) 68 rfl w.heap.size 5 i0 (.int .u8 0) 1 1 Tryd.underlying68 JI.out HZ0.out HZ1.out HZ2.out rfl Nat.one_pos (.slice (some ⟨wr.heap.size, 0, none⟩) 1 1) 1 [.int .u8 _] rfl (own_one wr _ _ A3.out) _ a L c (Lib.byteCells out) rfl (HREADS.out _) HON.out A1.out A2.out (byte_base A3.out) ?_; intro v' w' hown hgr hat; obtain ⟨a', c', rfl⟩ := ownsRow_slice hown; have HMD := Lib.hid (ahead_next (c := 45) HLL.out (Nat.le_refl _) A3.out HL.out rfl hown hgr); clear hown hgr hat; have HC := HMD.out.1.string; rw [show ((45 : UInt8) :: out).length = 1 + L by rw [List.length_cons, HLL.out]; omega] at HC)
        go_ret
        exact ⟨by rw [HI.out, if_pos hn0, ← HOUT.out]; rfl, HMD.out.2⟩
      · go_wp2_with fail
        go_ret
        exact ⟨by rw [HI.out, if_neg (by omega), ← HOUT.out]; rfl, HL.out⟩
end Go.Proofs.YtdngbfpfhkkmpaaDoor
