/-
  What is read from a text is what was written. Conditions: none.
-/
import Derived.Test.YtjecphimknfphaaDoorRnv
import Derived.Test.YtjecphimknfphaaDoorSit
namespace Go.Proofs.YtjecphimknfphaaDoor
open Go.RowKit Go.Deep Go.WideShapes Go.ChangeShapes
set_option linter.unusedVariables false
set_option linter.unusedSimpArgs false

theorem jn_cons (t : List UInt8) (ts : List (List UInt8)) (h : ts ≠ []) : jn (t :: ts) = t ++ 44 :: jn ts := by
  cases ts with
  | nil => exact absurd rfl h
  | cons s r => simp [jn]
theorem parts_jn : ∀ ts : List (List UInt8), ts ≠ [] → (∀ t ∈ ts, (44 : UInt8) ∉ t) → parts 44 (jn ts) = ts
  | [], h, _ => absurd rfl h
  | [t], _, h => by rw [jn_one, parts_none (h t (List.mem_singleton.2 rfl))]
  | t :: s :: r, _, h => by
    rw [jn_cons t (s :: r) (by simp), parts_split _ (h t (List.mem_cons_self ..)), parts_jn (s :: r) (by simp) (fun u hu => h u (List.mem_cons_of_mem _ hu))]
theorem txt_jn {ts : List (List UInt8)} (h : ts ≠ []) : txt ts = jn ts := by
  unfold txt
  rw [if_neg (by simpa using h)]
theorem parts_noneT : parts 44 noneT = [noneT] := by decide
theorem numT_hex (z : Nat) (hz : z < 4294967296) : allH (numT z) = true ∧ hval (numT z) = canon .f32 z := by
  have := hval_hk 8 (canon .f32 z) (by have := canon_lt32 hz; omega)
  exact ⟨this.2, this.1⟩
theorem hv_comma : hv 44 = 16 := by decide
theorem hv_n : hv 110 = 16 := by decide
theorem numT_comma (z : Nat) (hz : z < 4294967296) : (44 : UInt8) ∉ numT z := by
  intro h
  have := List.all_eq_true.1 (numT_hex z hz).1 44 h
  rw [hv_comma] at this
  exact absurd this (by decide)
theorem numT_len (z : Nat) : (numT z).length = 8 := hk_len 8 _
theorem txt_numT_ne {zs : List Nat} (h : zs ≠ []) (hz : ∀ z ∈ zs, z < 4294967296) : txt (zs.map numT) ≠ noneT := by
  have hne : zs.map numT ≠ [] := by simpa using h
  rw [txt_jn hne]
  intro he
  have hp := parts_jn (zs.map numT) hne (fun t ht => by
    obtain ⟨z, hm, rfl⟩ := List.mem_map.1 ht
    exact numT_comma z (hz z hm))
  rw [he, parts_noneT] at hp
  have hm : noneT ∈ zs.map numT := by rw [← hp]; exact List.mem_singleton.2 rfl
  obtain ⟨z, _, e⟩ := List.mem_map.1 hm
  have := numT_len z
  rw [e] at this
  exact absurd this (by decide)
theorem vRN_txt {zs : List Nat} (hl : zs.length ≤ 256) (hz : ∀ z ∈ zs, z < 4294967296) : vRN (txt (zs.map numT)) = (true, zs.map (canon .f32)) := by
  cases zs with
  | nil => exact vRN_none rfl
  | cons z r =>
    have h : (z :: r) ≠ [] := by simp
    have hne : (z :: r).map numT ≠ [] := by simp
    have hp := parts_jn ((z :: r).map numT) hne (fun t ht => by
      obtain ⟨y, hm, rfl⟩ := List.mem_map.1 ht
      exact numT_comma y (hz y hm))
    have hn := txt_numT_ne h hz
    rw [txt_jn hne] at hn ⊢
    rw [vRN_yes hn (okRNs_yes (by rw [hp, List.length_map]; exact hl) (by
      rw [hp, List.all_eq_true]
      intro t ht
      obtain ⟨y, hm, rfl⟩ := List.mem_map.1 ht
      exact numT_no (hz y hm) rfl)), hp, List.map_map]
    refine congrArg (Prod.mk true) (List.map_congr_left fun y hm => ?_)
    exact (numT_hex y (hz y hm)).2
theorem jn_numT_len (zs : List Nat) (h : zs ≠ []) : ((jn (zs.map numT)).length : Int) = 9 * (zs.length : Int) - 1 := by
  have e : ∀ ys : List Nat, ((ys.map numT).flatMap fun t => (44 : UInt8) :: t).length = 9 * ys.length := by
    intro ys
    induction ys with
    | nil => rfl
    | cons y r ih =>
      rw [List.map_cons, List.flatMap_cons, List.length_append, ih, List.length_cons, numT_len, List.length_cons]
      omega
  unfold jn
  rw [List.length_drop, e]
  have : 1 ≤ zs.length := by
    cases zs with
    | nil => exact absurd rfl h
    | cons _ _ => simp
  omega
theorem txt_numT_len (zs : List Nat) (h : zs ≠ []) : ((txt (zs.map numT)).length : Int) = 9 * (zs.length : Int) - 1 := by
  rw [txt_jn (by simpa using h)]
  exact jn_numT_len zs h

theorem itoa_chars (n : Int) : ∀ c ∈ Lib.itoa n, isDig c = true ∨ c = 45 := by
  rw [itoa_of]
  intro c hc
  split at hc
  · rcases List.mem_cons.1 hc with rfl | hc
    · exact .inr rfl
    · exact .inl (dec_digits _ c hc)
  · exact .inl (dec_digits _ c hc)
theorem itoa_comma (n : Int) : (44 : UInt8) ∉ Lib.itoa n := by
  intro h
  rcases itoa_chars n 44 h with h | h
  · exact absurd h (by decide)
  · exact absurd h (by decide)
theorem itoa_none (n : Int) : Lib.itoa n ≠ noneT := by
  intro h
  rcases itoa_chars n 110 (by rw [h]; decide) with h | h
  · exact absurd h (by decide)
  · exact absurd h (by decide)
theorem okRD_itoa {n : Int} (h : listable n = true) : okRD (Lib.itoa n) = true := by
  have hl := itoa_17 h
  unfold okRD
  rw [mv_itoa, h, decide_eq_true hl.1, decide_eq_true hl.2, decide_eq_true rfl]
  rfl
theorem vRL_txt {zs : List Int} (hl : zs.length ≤ 64) (hz : ∀ z ∈ zs, listable z = true) : vRL (txt (zs.map Lib.itoa)) = (true, zs) := by
  cases zs with
  | nil => exact vRL_none rfl
  | cons z r =>
    have hne : (z :: r).map Lib.itoa ≠ [] := by simp
    have hp := parts_jn ((z :: r).map Lib.itoa) hne (fun t ht => by
      obtain ⟨y, hm, rfl⟩ := List.mem_map.1 ht
      exact itoa_comma y)
    have hn : jn ((z :: r).map Lib.itoa) ≠ noneT := by
      intro he
      rw [he, parts_noneT] at hp
      have hm : noneT ∈ (z :: r).map Lib.itoa := by rw [← hp]; exact List.mem_singleton.2 rfl
      obtain ⟨y, _, e⟩ := List.mem_map.1 hm
      exact itoa_none y e
    rw [txt_jn hne]
    rw [vRL_yes hn (okRL_yes (by rw [hp, List.length_map]; exact hl) (by
      rw [hp, List.all_eq_true]
      intro t ht
      obtain ⟨y, hm, rfl⟩ := List.mem_map.1 ht
      exact okRD_itoa (hz y hm))), hp, List.map_map]
    refine congrArg (Prod.mk true) ?_
    refine (List.map_congr_left (fun y _ => mv_itoa y)).trans ?_
    exact List.map_id' _
end Go.Proofs.YtjecphimknfphaaDoor
