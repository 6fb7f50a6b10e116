import Derived.Test.YtbbpnlflihhflaaDoorHxW
namespace Go.Proofs.YtbbpnlflihhflaaDoor
namespace Hx
open Go.RowKit
set_option linter.unusedVariables false
theorem dv_all : ∀ d : Fin 16, dv (dg d.val).toNat = (d.val : Int) := by decide +kernel
theorem dv_dg (d : Nat) (h : d < 16) : dv (dg d).toNat = (d : Int) := dv_all ⟨d, h⟩
theorem nf_digs (ds : List Nat) (acc : Nat) (hd : ∀ d ∈ ds, d < 16) : nf acc (ds.map dg) = some (vl acc ds) := by
  induction ds generalizing acc with
  | nil => rfl
  | cons d ds ih =>
    rw [List.map_cons, nf, dv_dg d (hd d (by simp)), if_neg (by omega), Int.toNat_natCast]
    exact ih _ (fun x hx => hd x (List.mem_cons_of_mem _ hx))
theorem fs_digs (R : List UInt8) (es : List Nat) (i m : Nat) (e : Int) (hd : ∀ d ∈ es, d < 16) (hi : i + es.length ≤ 9) :
    fs (es.map dg ++ 112 :: R) i m e true = some (vl m es, e - 4 * (es.length : Int), i + es.length) := by
  induction es generalizing i m e with
  | nil => simp [fs, vl]
  | cons d es ih =>
    obtain ⟨n1, n2, n3⟩ := dg_ne d (hd d (by simp))
    rw [List.length_cons] at hi
    rw [List.map_cons, List.cons_append, fs, if_neg n1, if_neg (by simp), dv_dg d (hd d (by simp)), if_neg (by omega), Int.toNat_natCast, if_pos rfl]
    rw [ih (i + 1) (m * 16 + d) (e - 4) (fun x hx => hd x (List.mem_cons_of_mem _ hx)) (by omega)]
    have e1 : vl m (d :: es) = vl (m * 16 + d) es := rfl
    rw [e1, List.length_cons]
    congr 3
    · push_cast; omega
    · omega
theorem pd_step (acc d : Nat) (r : List UInt8) (hd : d < 10) : pd acc (UInt8.ofNat (48 + d) :: r) = pd (acc * 10 + d) r := by
  rw [pd, dec_to d hd, if_neg (by omega), show 48 + d - 48 = d by omega]
theorem pd_dec (n : Nat) (h : n < 1000) : pd 0 (Lib.decDigits n) = some n ∧ 1 ≤ (Lib.decDigits n).length ∧ (Lib.decDigits n).length ≤ 3 := by
  by_cases h1 : n < 10
  · rw [dd_lt n h1, pd_step 0 n _ h1]
    exact ⟨by rw [pd]; congr 1; omega, by simp, by simp⟩
  · by_cases h2 : n < 100
    · rw [dd_ge n h1, dd_lt _ (by omega)]
      simp only [List.cons_append, List.nil_append]
      rw [pd_step 0 _ _ (by omega), pd_step _ _ _ (by omega)]
      exact ⟨by rw [pd]; congr 1; omega, by simp, by simp⟩
    · rw [dd_ge n h1, dd_ge (n / 10) (by omega), dd_lt _ (by omega)]
      simp only [List.cons_append, List.nil_append]
      rw [pd_step 0 _ _ (by omega), pd_step _ _ _ (by omega), pd_step _ _ _ (by omega)]
      exact ⟨by rw [pd]; congr 1; omega, by simp, by simp⟩
theorem p10_px (e : Int) (h0 : -1000 < e) (h1 : e < 1000) : p10 (px e) = (e, true) ∧ 2 ≤ (px e).length ∧ (px e).length ≤ 4 := by
  unfold px
  by_cases h : 0 ≤ e
  · obtain ⟨a, b, c⟩ := pd_dec e.toNat (by omega)
    rw [if_pos h, itoa_pos e h]
    refine ⟨?_, by simp; omega, by simp; omega⟩
    show p10 (43 :: Lib.decDigits e.toNat) = _
    unfold p10
    simp only
    rw [if_neg (by rintro (h | h | h) <;> first | omega | exact absurd rfl h.1), a]
    simp only
    rw [if_neg (by decide)]
    congr 1
    omega
  · obtain ⟨a, b, c⟩ := pd_dec e.natAbs (by omega)
    have hi : Lib.itoa e = 45 :: Lib.decDigits e.natAbs := by unfold Lib.itoa; rw [if_pos (by omega)]
    rw [if_neg h, List.nil_append, hi]
    refine ⟨?_, by simp; omega, by simp; omega⟩
    unfold p10
    simp only
    rw [if_neg (by rintro (h | h | h) <;> first | omega | exact absurd rfl h.2), a]
    simp only
    rw [if_pos trivial]
    congr 1
    omega
/-- The digits, as the document reads them. -/
theorem ff_fin (es : List Nat) (hd : ∀ d ∈ es, d < 16) (hl : es.length ≤ 6) (e : Int) (h0 : -1000 < e) (h1 : e < 1000) :
    ff ((49 :: dot (es.map dg)) ++ 112 :: px e) = (Rd.rnd false (vl 1 es : Int) (e - 4 * (es.length : Int)), true) := by
  obtain ⟨p1, p2, p3⟩ := p10_px e h0 h1
  have hs : ∃ i, fs ((49 :: dot (es.map dg)) ++ 112 :: px e) 0 0 0 false = some (vl 1 es, 0 - 4 * (es.length : Int), i) ∧ (49 :: dot (es.map dg)).length = i := by
    have d49 : dv (49 : UInt8).toNat = 1 := by decide
    unfold dot
    by_cases hn : es.map dg = []
    · rw [if_pos hn]
      have he : es = [] := by simpa using hn
      subst he
      refine ⟨1, ?_, rfl⟩
      rw [List.cons_append, List.nil_append, fs, if_neg (by decide), if_neg (by decide), d49, if_neg (by omega)]
      rw [fs, if_pos rfl]
      rfl
    · rw [if_neg hn]
      refine ⟨2 + es.length, ?_, by simp; omega⟩
      rw [List.cons_append, List.cons_append, fs, if_neg (by decide), if_neg (by decide), d49, if_neg (by omega)]
      rw [fs, if_neg (by decide), if_pos ⟨rfl, rfl⟩]
      exact fs_digs (px e) es 2 1 0 hd (by omega)
  obtain ⟨i, hs1, hs2⟩ := hs
  unfold ff
  rw [hs1]
  simp only
  have hlen : ((49 :: dot (es.map dg)) ++ 112 :: px e).length = i + 1 + (px e).length := by rw [List.length_append, hs2, List.length_cons]; omega
  rw [if_neg (by omega)]
  have hdrop : ((49 :: dot (es.map dg)) ++ 112 :: px e).drop (i + 1) = px e := by
    rw [List.drop_append, hs2, List.drop_eq_nil_of_le (by omega), show i + 1 - i = 1 by omega]; rfl
  rw [hdrop, p1]
  simp only
  congr 2
  omega
theorem rc_hex (u : Int) (h0 : 0 ≤ u) (h1 : u < 4294967296) : rc (hexL u) = some u := by
  have hsd := sg_dec u h0 h1
  rw [hexL_body]
  by_cases hi : 2139095040 ≤ u % 2147483648
  · by_cases hc : Cl.cls u = 4
    · have hb : body u = 110 :: 97 :: 110 :: 58 :: hx (u % 8388608).toNat := by unfold body; rw [if_pos hi]; unfold tl; rw [if_pos hc]
      obtain ⟨e1, e2⟩ := pre_sgn u 110 (97 :: 110 :: 58 :: hx (u % 8388608).toNat) (by decide)
      obtain ⟨ds, d1, d2, d3, d4⟩ := hx_digs (u % 8388608).toNat
      have hlen := hx_len 6 (u % 8388608).toNat (by omega)
      have hne : 1 ≤ (hx (u % 8388608).toNat).length := by rw [d1, List.length_map]; cases ds with | nil => exact absurd rfl d4 | cons a b => simp
      have hnf : nf 0 (hx (u % 8388608).toNat) = some (u % 8388608).toNat := by
        have := nf_digs ds 0 d2
        rw [← d1, d3] at this
        exact this
      unfold rc
      rw [hb, e1, e2, if_neg (no_inf _ _ (by decide)), if_pos ⟨by simp only [List.length_cons]; omega, by simp only [List.length_cons]; omega, rfl⟩]
      show (nf 0 (hx (u % 8388608).toNat)).map _ = _
      rw [hnf]
      simp only [Option.map_some]
      congr 1
      omega
    · have hb : body u = 105 :: [110, 102] := by unfold body; rw [if_pos hi]; unfold tl; rw [if_neg hc]
      obtain ⟨e1, e2⟩ := pre_sgn u 105 [110, 102] (by decide)
      have hu : u % 2147483648 = 2139095040 := by
        unfold Cl.cls at hc
        rw [if_neg (by omega), if_neg (by omega), if_neg (by omega)] at hc
        by_cases h : u % 2147483648 = 2139095040
        · exact h
        · rw [if_neg h] at hc; exact absurd rfl hc
      unfold rc
      rw [hb, e1, e2, if_pos rfl]
      congr 1
      omega
  · by_cases hz : u % 2147483648 = 0
    · have hb : body u = 48 :: 120 :: [48, 112, 43, 48] := by unfold body; rw [if_neg hi, if_pos hz]
      obtain ⟨e1, e2⟩ := pre_sgn u 48 (120 :: [48, 112, 43, 48]) (by decide)
      have hff : ff [48, 112, 43, 48] = (0, true) := by
        unfold ff
        rw [show fs [48, 112, 43, 48] 0 0 0 false = some (0, 0, 1) by decide]
        simp only
        rw [if_neg (by decide), show p10 ([48, 112, 43, 48].drop (1 + 1)) = (0, true) by decide]
        simp only
        unfold Rd.rnd
        rw [if_pos (.inl rfl)]
        rfl
      unfold rc
      rw [hb, e1, e2, if_neg (no_inf _ _ (by decide)), if_neg (by decide), if_pos (by decide)]
      show (match ff [48, 112, 43, 48] with | (v, true) => some (Rd.sg _ + v % 2147483648) | (_, false) => none) = _
      rw [hff]
      simp only
      congr 1
      omega
    · obtain ⟨es, k, f1, f2, f3, f4, f5, f6, f7⟩ := fin_read u h0 h1 (by omega) (by omega)
      have hb := body_fin u (by omega) hz
      rw [f1] at hb
      obtain ⟨e1, e2⟩ := pre_sgn u 48 (120 :: ((49 :: dot (es.map dg)) ++ 112 :: px (Cl.pe u + Rd.lg (Cl.pm u)))) (by decide)
      obtain ⟨p1, p2, p3⟩ := p10_px (Cl.pe u + Rd.lg (Cl.pm u)) (by omega) (by omega)
      have hff := ff_fin es f2 (by omega) (Cl.pe u + Rd.lg (Cl.pm u)) (by omega) (by omega)
      rw [f7 false] at hff
      have hl5 : 5 ≤ (48 :: 120 :: ((49 :: dot (es.map dg)) ++ 112 :: px (Cl.pe u + Rd.lg (Cl.pm u)))).length := by
        simp only [List.length_cons, List.length_append]; omega
      unfold rc
      rw [hb, e1, e2, if_neg (no_inf _ _ (by decide)), if_neg (fun h => by have := h.2.2; simp at this), if_pos ⟨hl5, rfl⟩]
      show (match ff ((49 :: dot (es.map dg)) ++ 112 :: px (Cl.pe u + Rd.lg (Cl.pm u))) with | (v, true) => some (Rd.sg _ + v % 2147483648) | (_, false) => none) = _
      rw [hff]
      simp only
      congr 1
      have : Rd.sg false = 0 := rfl
      rw [this]
      omega
end Hx
end Go.Proofs.YtbbpnlflihhflaaDoor
