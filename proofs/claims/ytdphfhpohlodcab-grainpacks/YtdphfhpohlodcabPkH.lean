import Derived.Test.YtdphfhpohlodcabPkG
namespace Go.Proofs.Ytdphfhpohlodcab
namespace Pk
open Go.RowKit
set_option linter.unusedVariables false
theorem num_any (e : Int) (w : World) : Calls Try.prog 8 #[.int .i64 e] w fun e' w' => e' = .returned (.int .i64 e) ∧ w' = w := by
  go_enter Try.func8, Try.ntmps8
  go_wp2
  go_ret
  exact ⟨rfl, rfl⟩
theorem put_app (L T : List Int) (o : Nat) (v : Int) (k : Nat) (h : o + k ≤ L.length) : putL (L ++ T) o v k = putL L o v k ++ T := by
  induction k with
  | zero => rfl
  | succ k ih => rw [putL_succ, putL_succ, ih (by omega), List.set_append_left _ _ (by rw [putL_len]; omega)]
theorem marked (X : List Int) (h : Bytes X) : Bytes (X ++ [171, 205]) := by
  intro x hx
  rcases List.mem_append.1 hx with h1 | h1
  · exact h x h1
  · simp at h1; omega
theorem own_row {w : World} {g c len : Nat} {X : List Int} (h : Own w g c (X ++ [171, 205])) (hl : X.length = len) (hb : Bytes X) : BRow w (some ⟨g, 0, none⟩) len X := by
  have hr := h.row len (by simp; omega) (marked X hb)
  rw [List.take_append_of_le_length (by omega), List.take_of_length_le (by omega)] at hr
  exact hr
/-- What the struct's cells hold. -/
def Fields (w : World) (s : Nat) (a : Option Addr) (len cap : Nat) (at' width v : Int) : Prop :=
  w.cell? ⟨s, 0, none⟩ = some (.slice a len cap) ∧ w.cell? ⟨s, 1, none⟩ = some (.int .i64 at') ∧ w.cell? ⟨s, 2, none⟩ = some (.int .i64 width) ∧ w.cell? ⟨s, 3, none⟩ = some (.int .u64 v)
theorem Fields.kept {w w' : World} {s len cap B : Nat} {a : Option Addr} {at' width v : Int} (h : Fields w s a len cap at' width v) (hb : Below B w w') (hs : s < B) : Fields w' s a len cap at' width v :=
  ⟨(hb.cell hs).trans h.1, (hb.cell hs).trans h.2.1, (hb.cell hs).trans h.2.2.1, (hb.cell hs).trans h.2.2.2⟩
theorem fields_new (w : World) (a : Option Addr) (len cap : Nat) (at' width v : Int) : Fields (w.alloc (.cells #[.slice a len cap, .int .i64 at', .int .i64 width, .int .u64 v] 39)) w.heap.size a len cap at' width v := by
  refine ⟨?_, ?_, ?_, ?_⟩ <;> simp
set_option maxHeartbeats 4000000 in
theorem law_err (a : Option Addr) (len cap : Nat) (L : List Int) (at' width : Int) (v : Int) (w : World) (hr : BRow w a len L) (hs : len ≤ 140737488351232) (hv0 : 0 ≤ v) (hv1 : v < 18446744073709551616) (a0 : -9223372036854775808 ≤ at') (a1 : at' ≤ 9223372036854775807) (b0 : -9223372036854775808 ≤ width) (b1 : width ≤ 9223372036854775807) (he : ¬ ec len at' width = 0) :
    Calls Try.prog 5 #[.agg #[.slice a len cap, .int .i64 at', .int .i64 width, .int .u64 v]] w fun e w' => e = .returned (.bool true) ∧ Below w.heap.size w w' := by
  have hl := hr.1
  have hby := hr.2.1
  have hF := fields_new w a len cap at' width v
  have hrw : BRow (w.alloc (.cells #[.slice a len cap, .int .i64 at', .int .i64 width, .int .u64 v] 39)) a len L := hr.kept ((Below.refl _ _).alloc (Nat.le_refl _) _)
  have HB0 : Below w.heap.size w (w.alloc (.cells #[.slice a len cap, .int .i64 at', .int .i64 width, .int .u64 v] 39)) := (Below.refl _ _).alloc (Nat.le_refl _) _
  have hsz0 : (w.alloc (.cells #[.slice a len cap, .int .i64 at', .int .i64 width, .int .u64 v] 39)).heap.size = w.heap.size + 1 := by simp
  go_enter Try.func5, Try.ntmps5
  go_wp2_with fail
  refine (twin_any a len cap L _ hrw hs).mono ?_
  rintro e9 u11 ⟨g1, c1, rfl, hg1, ho11, hb11⟩
  have hs11 := hb11.size
  rw [hsz0] at hg1 hb11 hs11
  have hF11 := hF.kept hb11 (by omega)
  have hr11 : BRow u11 a len L := hrw.kept (by rw [hsz0]; exact hb11)
  have HB11 : Below w.heap.size w u11 := HB0.trans (hb11.mono (by omega))
  have hlt1 := ho11.lt
  obtain ⟨f0, f1, f2, f3⟩ := hF11
  go_wp2_with fail
  refine (put_err _ len c1 _ _ _ _ hs a0 a1 b0 b1 he).mono ?_
  rintro e9 w9 ⟨rfl, hw9⟩
  subst w9
  go_wp2_with fail
  refine (rput_err a len cap L _ _ _ _ hr11 hs a0 a1 b0 b1 he).mono ?_
  rintro e9 u13 ⟨x1, rfl, hx1, hb13⟩
  obtain ⟨ax1, cx1, rfl, hrx1, _⟩ := row_of_own hl hby hx1
  have hbx1 : Bytes L := hby
  have hlx1 : L.length = len := hl
  have ho13 := ho11.kept hb13 hlt1
  have hs13 := hb13.size
  have hF13 := Fields.kept ⟨f0, f1, f2, f3⟩ hb13 (by omega)
  have HB13 : Below w.heap.size w u13 := HB11.trans (hb13.mono (by omega))
  clear f0 f1 f2 f3 hr11 ho11 hx1
  have hra1 : BRow u13 (some ⟨g1, 0, none⟩) len L := own_row ho13 hlx1 hbx1
  have hFs := hF13
  obtain ⟨f0, f1, f2, f3⟩ := hF13
  go_wp2_with fail
  refine (kept_any g1 len c1 cx1 ax1 L u13 hs ho13 hrx1).mono ?_
  rintro e9 w9 ⟨rfl, m1, hw9⟩
  subst w9
  go_wp2_with fail
  refine (get_err _ len c1 _ _ (u13.drewN m1) hs a0 a1 b0 b1 he).mono ?_
  rintro e9 w9 ⟨rfl, hw9⟩
  subst w9
  go_wp2_with fail
  refine (rget_err _ len cx1 _ _ (u13.drewN m1) hs a0 a1 b0 b1 he).mono ?_
  rintro e9 w9 ⟨rfl, hw9⟩
  subst w9
  go_wp2_with fail
  refine (kept_any g1 len c1 cx1 ax1 L (u13.drewN m1) hs ho13 hrx1).mono ?_
  rintro e9 w9 ⟨rfl, m1b, hw9⟩
  subst w9
  go_wp2_with (go_at_call 8; refine (num_any _ _).mono ?_; rintro e9 w9 ⟨rfl, hw9⟩; subst w9)
  clear f0 f1 f2 f3
  have hFx : Fields (u13.drewN (m1 + m1b)) w.heap.size a len cap at' width v := hFs
  have HB2 : Below w.heap.size w (u13.drewN (m1 + m1b)) := below_drewN HB13 _
  have hrx : BRow (u13.drewN (m1 + m1b)) a len L := hr.kept HB2
  have hsx := HB2.size
  have hsy : w.heap.size < (u13.drewN (m1 + m1b)).heap.size := by show w.heap.size < u13.heap.size; omega
  clear hrx1 hra1 ho13 hFs
  refine (twin_any a len cap L (u13.drewN (m1 + m1b)) hrx hs).mono ?_
  rintro e9 u21 ⟨g2, c2, rfl, hg2, ho21, hb21⟩
  have hs21 := hb21.size
  have hF21 := hFx.kept hb21 (by omega)
  have hr21 : BRow u21 a len L := hrx.kept hb21
  have HB21 : Below w.heap.size w u21 := HB2.trans (hb21.mono (by omega))
  have hlt2 := ho21.lt
  obtain ⟨f0, f1, f2, f3⟩ := hF21
  go_wp2_with fail
  refine (pi_err _ len c2 _ _ _ _ hs a0 a1 b0 b1 he).mono ?_
  rintro e9 w9 ⟨rfl, hw9⟩
  subst w9
  go_wp2_with fail
  refine (rpi_err a len cap L _ _ _ _ hr21 hs a0 a1 b0 b1 he).mono ?_
  rintro e9 u23 ⟨x2, rfl, hx2, hb23⟩
  obtain ⟨ax2, cx2, rfl, hrx2, _⟩ := row_of_own hl hby hx2
  have hbx2 : Bytes L := hby
  have hlx2 : L.length = len := hl
  have ho23 := ho21.kept hb23 hlt2
  have hs23 := hb23.size
  have hF23 := Fields.kept ⟨f0, f1, f2, f3⟩ hb23 (by omega)
  have HB23 : Below w.heap.size w u23 := HB21.trans (hb23.mono (by omega))
  clear f0 f1 f2 f3 hr21 ho21 hx2
  have hra2 : BRow u23 (some ⟨g2, 0, none⟩) len L := own_row ho23 hlx2 hbx2
  obtain ⟨f0, f1, f2, f3⟩ := hF23
  go_wp2_with fail
  refine (kept_any g2 len c2 cx2 ax2 L u23 hs ho23 hrx2).mono ?_
  rintro e9 w9 ⟨rfl, m2, hw9⟩
  subst w9
  go_wp2_with fail
  refine (gi_err _ len c2 _ _ (u23.drewN m2) hs a0 a1 b0 b1 he).mono ?_
  rintro e9 w9 ⟨rfl, hw9⟩
  subst w9
  go_wp2_with fail
  refine (rgi_err _ len cx2 _ _ (u23.drewN m2) hs a0 a1 b0 b1 he).mono ?_
  rintro e9 w9 ⟨rfl, hw9⟩
  subst w9
  go_wp2_with (go_at_call 8; refine (num_any _ _).mono ?_; rintro e9 w9 ⟨rfl, hw9⟩; subst w9)
  go_ret
  exact ⟨by simp, below_drewN HB23 _⟩
end Pk
end Go.Proofs.Ytdphfhpohlodcab
