import Derived.Test.YtdphfhpohlodcabPkH
namespace Go.Proofs.Ytdphfhpohlodcab
namespace Pk
open Go.RowKit
set_option linter.unusedVariables false
set_option maxHeartbeats 4000000 in
theorem law_oo (a : Option Addr) (len cap : Nat) (L : List Int) (o k : Nat) (v : Int) (w : World) (hr : BRow w a len L) (hs : len ≤ 140737488351232) (hv0 : 0 ≤ v) (hv1 : v < 18446744073709551616) (h1 : 1 ≤ k) (h2 : k ≤ 8) (h3 : o + k ≤ len) (hf1 : v / 2 ^ (8 * k) = 0) (hf2 : SFit (wrap64 v) k) :
    Calls Try.prog 5 #[.agg #[.slice a len cap, .int .i64 (o : Int), .int .i64 (k : Int), .int .u64 v]] w fun e w' => e = .returned (.bool true) ∧ Below w.heap.size w w' := by
  have hl := hr.1
  have hby := hr.2.1
  have hF := fields_new w a len cap (o : Int) (k : Int) v
  have hrw : BRow (w.alloc (.cells #[.slice a len cap, .int .i64 (o : Int), .int .i64 (k : Int), .int .u64 v] 39)) a len L := hr.kept ((Below.refl _ _).alloc (Nat.le_refl _) _)
  have HB0 : Below w.heap.size w (w.alloc (.cells #[.slice a len cap, .int .i64 (o : Int), .int .i64 (k : Int), .int .u64 v] 39)) := (Below.refl _ _).alloc (Nat.le_refl _) _
  have hsz0 : (w.alloc (.cells #[.slice a len cap, .int .i64 (o : Int), .int .i64 (k : Int), .int .u64 v] 39)).heap.size = w.heap.size + 1 := by simp
  have t0 : -9223372036854775808 ≤ wrap64 v := by unfold wrap64; omega
  have t1 : wrap64 v ≤ 9223372036854775807 := by unfold wrap64; omega
  go_enter Try.func5, Try.ntmps5
  go_wp2_with fail
  refine (twin_any a len cap L _ hrw hs).mono ?_
  rintro e9 u11 ⟨g1, c1, rfl, hg1, ho11, hb11⟩
  have hs11 := hb11.size
  rw [hsz0] at hg1 hb11 hs11
  have hF11 := hF.kept hb11 (by omega)
  have hr11 : BRow u11 a len L := hrw.kept (by rw [hsz0]; exact hb11)
  have HB11 : Below w.heap.size w u11 := HB0.trans (hb11.mono (by omega))
  have hlt1 := ho11.lt
  obtain ⟨f0, f1, f2, f3⟩ := hF11
  go_wp2_with fail
  refine (put_ok g1 len c1 o k _ (L ++ [171, 205]) _ hs ho11 (by simp; omega) h1 h2 h3 hv0 hv1 hf1).mono ?_
  rintro e9 u12 ⟨rfl, ho12, hb12⟩
  rw [put_app L _ o _ k (by omega)] at ho12
  have hs12 := hb12.size
  have hF12 := Fields.kept ⟨f0, f1, f2, f3⟩ hb12 (by omega)
  have HB12 : Below w.heap.size w u12 := HB11.trans (hb12.mono (by omega))
  have hr12 : BRow u12 a len L := hr.kept HB12
  clear f0 f1 f2 f3 ho11 hr11
  obtain ⟨f0, f1, f2, f3⟩ := hF12
  go_wp2_with fail
  refine (rput_ok a len cap o k L _ _ hr12 hs h1 h2 h3 hv0 hv1 hf1).mono ?_
  rintro e9 u13 ⟨gx1, cx1, rfl, hgx1, hx1, hb13⟩
  have hbx1 : Bytes (putL L o v k) := putL_bytes L o _ k hby
  have hlx1 : (putL L o v k).length = len := by rw [putL_len]; exact hl
  have hrx1 : BRow u13 (some ⟨gx1, 0, none⟩) len (putL L o v k) := by
    have h := hx1.row len (by omega) hbx1
    rw [List.take_of_length_le (by omega)] at h; exact h
  have ho13 := ho12.kept hb13 ho12.lt
  have hs13 := hb13.size
  have hF13 := Fields.kept ⟨f0, f1, f2, f3⟩ hb13 (by omega)
  have HB13 : Below w.heap.size w u13 := HB12.trans (hb13.mono (by omega))
  clear f0 f1 f2 f3 hr12 ho12 hx1
  have hra1 : BRow u13 (some ⟨g1, 0, none⟩) len (putL L o v k) := own_row ho13 hlx1 hbx1
  have hFs := hF13
  obtain ⟨f0, f1, f2, f3⟩ := hF13
  go_wp2_with fail
  refine (kept_any g1 len c1 cx1 (some ⟨gx1, 0, none⟩) (putL L o v k) u13 hs ho13 hrx1).mono ?_
  rintro e9 w9 ⟨rfl, m1, hw9⟩
  subst w9
  go_wp2_with fail
  refine (get_ok _ len c1 o k (putL L o v k) (u13.drewN m1) hra1 hs h1 h2 h3).mono ?_
  rintro e9 w9 ⟨rfl, hw9⟩
  subst w9
  go_wp2_with fail
  refine (rget_ok _ len cx1 o k (putL L o v k) (u13.drewN m1) hrx1 hs h1 h2 h3).mono ?_
  rintro e9 w9 ⟨rfl, hw9⟩
  subst w9
  go_wp2_with fail
  refine (kept_any g1 len c1 cx1 (some ⟨gx1, 0, none⟩) (putL L o v k) (u13.drewN m1) hs ho13 hrx1).mono ?_
  rintro e9 w9 ⟨rfl, m1b, hw9⟩
  subst w9
  go_wp2_with (go_at_call 8; refine (num_any _ _).mono ?_; rintro e9 w9 ⟨rfl, hw9⟩; subst w9)
  clear f0 f1 f2 f3
  have hFx : Fields (u13.drewN (m1 + m1b)) w.heap.size a len cap (o : Int) (k : Int) v := hFs
  have HB2 : Below w.heap.size w (u13.drewN (m1 + m1b)) := below_drewN HB13 _
  have hrx : BRow (u13.drewN (m1 + m1b)) a len L := hr.kept HB2
  have hsx := HB2.size
  have hsy : w.heap.size < (u13.drewN (m1 + m1b)).heap.size := by show w.heap.size < u13.heap.size; omega
  clear hrx1 hra1 ho13 hFs
  refine (twin_any a len cap L (u13.drewN (m1 + m1b)) hrx hs).mono ?_
  rintro e9 u21 ⟨g2, c2, rfl, hg2, ho21, hb21⟩
  have hs21 := hb21.size
  have hF21 := hFx.kept hb21 (by omega)
  have hr21 : BRow u21 a len L := hrx.kept hb21
  have HB21 : Below w.heap.size w u21 := HB2.trans (hb21.mono (by omega))
  have hlt2 := ho21.lt
  obtain ⟨f0, f1, f2, f3⟩ := hF21
  go_wp2_with fail
  refine (pi_ok g2 len c2 o k _ (L ++ [171, 205]) _ hs ho21 (by simp; omega) h1 h2 h3 t0 t1 hf2).mono ?_
  rintro e9 u22 ⟨rfl, ho22, hb22⟩
  rw [put_app L _ o _ k (by omega)] at ho22
  have hs22 := hb22.size
  have hF22 := Fields.kept ⟨f0, f1, f2, f3⟩ hb22 (by omega)
  have HB22 : Below w.heap.size w u22 := HB21.trans (hb22.mono (by omega))
  have hr22 : BRow u22 a len L := hr.kept HB22
  clear f0 f1 f2 f3 ho21 hr21
  obtain ⟨f0, f1, f2, f3⟩ := hF22
  go_wp2_with fail
  refine (rpi_ok a len cap o k L _ _ hr22 hs h1 h2 h3 t0 t1 hf2).mono ?_
  rintro e9 u23 ⟨gx2, cx2, rfl, hgx2, hx2, hb23⟩
  have hbx2 : Bytes (putL L o (IntKind.u64.wrap (wrap64 v)) k) := putL_bytes L o _ k hby
  have hlx2 : (putL L o (IntKind.u64.wrap (wrap64 v)) k).length = len := by rw [putL_len]; exact hl
  have hrx2 : BRow u23 (some ⟨gx2, 0, none⟩) len (putL L o (IntKind.u64.wrap (wrap64 v)) k) := by
    have h := hx2.row len (by omega) hbx2
    rw [List.take_of_length_le (by omega)] at h; exact h
  have ho23 := ho22.kept hb23 ho22.lt
  have hs23 := hb23.size
  have hF23 := Fields.kept ⟨f0, f1, f2, f3⟩ hb23 (by omega)
  have HB23 : Below w.heap.size w u23 := HB22.trans (hb23.mono (by omega))
  clear f0 f1 f2 f3 hr22 ho22 hx2
  have hra2 : BRow u23 (some ⟨g2, 0, none⟩) len (putL L o (IntKind.u64.wrap (wrap64 v)) k) := own_row ho23 hlx2 hbx2
  obtain ⟨f0, f1, f2, f3⟩ := hF23
  go_wp2_with fail
  refine (kept_any g2 len c2 cx2 (some ⟨gx2, 0, none⟩) (putL L o (IntKind.u64.wrap (wrap64 v)) k) u23 hs ho23 hrx2).mono ?_
  rintro e9 w9 ⟨rfl, m2, hw9⟩
  subst w9
  go_wp2_with fail
  refine (gi_ok _ len c2 o k (putL L o (IntKind.u64.wrap (wrap64 v)) k) (u23.drewN m2) hra2 hs h1 h2 h3).mono ?_
  rintro e9 w9 ⟨rfl, hw9⟩
  subst w9
  go_wp2_with fail
  refine (rgi_ok _ len cx2 o k (putL L o (IntKind.u64.wrap (wrap64 v)) k) (u23.drewN m2) hrx2 hs h1 h2 h3).mono ?_
  rintro e9 w9 ⟨rfl, hw9⟩
  subst w9
  go_wp2_with (go_at_call 8; refine (num_any _ _).mono ?_; rintro e9 w9 ⟨rfl, hw9⟩; subst w9)
  go_ret
  exact ⟨by simp, below_drewN HB23 _⟩
set_option maxHeartbeats 4000000 in
theorem law_ob (a : Option Addr) (len cap : Nat) (L : List Int) (o k : Nat) (v : Int) (w : World) (hr : BRow w a len L) (hs : len ≤ 140737488351232) (hv0 : 0 ≤ v) (hv1 : v < 18446744073709551616) (h1 : 1 ≤ k) (h2 : k ≤ 8) (h3 : o + k ≤ len) (hf1 : v / 2 ^ (8 * k) = 0) (hf2 : ¬ SFit (wrap64 v) k) :
    Calls Try.prog 5 #[.agg #[.slice a len cap, .int .i64 (o : Int), .int .i64 (k : Int), .int .u64 v]] w fun e w' => e = .returned (.bool true) ∧ Below w.heap.size w w' := by
  have hl := hr.1
  have hby := hr.2.1
  have hF := fields_new w a len cap (o : Int) (k : Int) v
  have hrw : BRow (w.alloc (.cells #[.slice a len cap, .int .i64 (o : Int), .int .i64 (k : Int), .int .u64 v] 39)) a len L := hr.kept ((Below.refl _ _).alloc (Nat.le_refl _) _)
  have HB0 : Below w.heap.size w (w.alloc (.cells #[.slice a len cap, .int .i64 (o : Int), .int .i64 (k : Int), .int .u64 v] 39)) := (Below.refl _ _).alloc (Nat.le_refl _) _
  have hsz0 : (w.alloc (.cells #[.slice a len cap, .int .i64 (o : Int), .int .i64 (k : Int), .int .u64 v] 39)).heap.size = w.heap.size + 1 := by simp
  have t0 : -9223372036854775808 ≤ wrap64 v := by unfold wrap64; omega
  have t1 : wrap64 v ≤ 9223372036854775807 := by unfold wrap64; omega
  go_enter Try.func5, Try.ntmps5
  go_wp2_with fail
  refine (twin_any a len cap L _ hrw hs).mono ?_
  rintro e9 u11 ⟨g1, c1, rfl, hg1, ho11, hb11⟩
  have hs11 := hb11.size
  rw [hsz0] at hg1 hb11 hs11
  have hF11 := hF.kept hb11 (by omega)
  have hr11 : BRow u11 a len L := hrw.kept (by rw [hsz0]; exact hb11)
  have HB11 : Below w.heap.size w u11 := HB0.trans (hb11.mono (by omega))
  have hlt1 := ho11.lt
  obtain ⟨f0, f1, f2, f3⟩ := hF11
  go_wp2_with fail
  refine (put_ok g1 len c1 o k _ (L ++ [171, 205]) _ hs ho11 (by simp; omega) h1 h2 h3 hv0 hv1 hf1).mono ?_
  rintro e9 u12 ⟨rfl, ho12, hb12⟩
  rw [put_app L _ o _ k (by omega)] at ho12
  have hs12 := hb12.size
  have hF12 := Fields.kept ⟨f0, f1, f2, f3⟩ hb12 (by omega)
  have HB12 : Below w.heap.size w u12 := HB11.trans (hb12.mono (by omega))
  have hr12 : BRow u12 a len L := hr.kept HB12
  clear f0 f1 f2 f3 ho11 hr11
  obtain ⟨f0, f1, f2, f3⟩ := hF12
  go_wp2_with fail
  refine (rput_ok a len cap o k L _ _ hr12 hs h1 h2 h3 hv0 hv1 hf1).mono ?_
  rintro e9 u13 ⟨gx1, cx1, rfl, hgx1, hx1, hb13⟩
  have hbx1 : Bytes (putL L o v k) := putL_bytes L o _ k hby
  have hlx1 : (putL L o v k).length = len := by rw [putL_len]; exact hl
  have hrx1 : BRow u13 (some ⟨gx1, 0, none⟩) len (putL L o v k) := by
    have h := hx1.row len (by omega) hbx1
    rw [List.take_of_length_le (by omega)] at h; exact h
  have ho13 := ho12.kept hb13 ho12.lt
  have hs13 := hb13.size
  have hF13 := Fields.kept ⟨f0, f1, f2, f3⟩ hb13 (by omega)
  have HB13 : Below w.heap.size w u13 := HB12.trans (hb13.mono (by omega))
  clear f0 f1 f2 f3 hr12 ho12 hx1
  have hra1 : BRow u13 (some ⟨g1, 0, none⟩) len (putL L o v k) := own_row ho13 hlx1 hbx1
  have hFs := hF13
  obtain ⟨f0, f1, f2, f3⟩ := hF13
  go_wp2_with fail
  refine (kept_any g1 len c1 cx1 (some ⟨gx1, 0, none⟩) (putL L o v k) u13 hs ho13 hrx1).mono ?_
  rintro e9 w9 ⟨rfl, m1, hw9⟩
  subst w9
  go_wp2_with fail
  refine (get_ok _ len c1 o k (putL L o v k) (u13.drewN m1) hra1 hs h1 h2 h3).mono ?_
  rintro e9 w9 ⟨rfl, hw9⟩
  subst w9
  go_wp2_with fail
  refine (rget_ok _ len cx1 o k (putL L o v k) (u13.drewN m1) hrx1 hs h1 h2 h3).mono ?_
  rintro e9 w9 ⟨rfl, hw9⟩
  subst w9
  go_wp2_with fail
  refine (kept_any g1 len c1 cx1 (some ⟨gx1, 0, none⟩) (putL L o v k) (u13.drewN m1) hs ho13 hrx1).mono ?_
  rintro e9 w9 ⟨rfl, m1b, hw9⟩
  subst w9
  go_wp2_with (go_at_call 8; refine (num_any _ _).mono ?_; rintro e9 w9 ⟨rfl, hw9⟩; subst w9)
  clear f0 f1 f2 f3
  have hFx : Fields (u13.drewN (m1 + m1b)) w.heap.size a len cap (o : Int) (k : Int) v := hFs
  have HB2 : Below w.heap.size w (u13.drewN (m1 + m1b)) := below_drewN HB13 _
  have hrx : BRow (u13.drewN (m1 + m1b)) a len L := hr.kept HB2
  have hsx := HB2.size
  have hsy : w.heap.size < (u13.drewN (m1 + m1b)).heap.size := by show w.heap.size < u13.heap.size; omega
  clear hrx1 hra1 ho13 hFs
  refine (twin_any a len cap L (u13.drewN (m1 + m1b)) hrx hs).mono ?_
  rintro e9 u21 ⟨g2, c2, rfl, hg2, ho21, hb21⟩
  have hs21 := hb21.size
  have hF21 := hFx.kept hb21 (by omega)
  have hr21 : BRow u21 a len L := hrx.kept hb21
  have HB21 : Below w.heap.size w u21 := HB2.trans (hb21.mono (by omega))
  have hlt2 := ho21.lt
  obtain ⟨f0, f1, f2, f3⟩ := hF21
  go_wp2_with fail
  refine (pi_big g2 len c2 o k _ _ hs h1 h2 h3 t0 t1 hf2).mono ?_
  rintro e9 w9 ⟨rfl, hw9⟩
  subst w9
  go_wp2_with fail
  refine (rpi_big a len cap o k L _ _ hr21 hs h1 h2 h3 t0 t1 hf2).mono ?_
  rintro e9 u23 ⟨gx2, cx2, rfl, hgx2, hx2, hb23⟩
  have hrx2 : BRow u23 (some ⟨gx2, 0, none⟩) len L := by
    have h := hx2.row len (by omega) hby
    rw [List.take_of_length_le (by omega)] at h; exact h
  have hbx2 : Bytes L := hby
  have hlx2 : L.length = len := hl
  have ho23 := ho21.kept hb23 hlt2
  have hs23 := hb23.size
  have hF23 := Fields.kept ⟨f0, f1, f2, f3⟩ hb23 (by omega)
  have HB23 : Below w.heap.size w u23 := HB21.trans (hb23.mono (by omega))
  clear f0 f1 f2 f3 hr21 ho21 hx2
  have hra2 : BRow u23 (some ⟨g2, 0, none⟩) len L := own_row ho23 hlx2 hbx2
  obtain ⟨f0, f1, f2, f3⟩ := hF23
  go_wp2_with fail
  refine (kept_any g2 len c2 cx2 (some ⟨gx2, 0, none⟩) L u23 hs ho23 hrx2).mono ?_
  rintro e9 w9 ⟨rfl, m2, hw9⟩
  subst w9
  go_wp2_with fail
  refine (gi_ok _ len c2 o k L (u23.drewN m2) hra2 hs h1 h2 h3).mono ?_
  rintro e9 w9 ⟨rfl, hw9⟩
  subst w9
  go_wp2_with fail
  refine (rgi_ok _ len cx2 o k L (u23.drewN m2) hrx2 hs h1 h2 h3).mono ?_
  rintro e9 w9 ⟨rfl, hw9⟩
  subst w9
  go_wp2_with (go_at_call 8; refine (num_any _ _).mono ?_; rintro e9 w9 ⟨rfl, hw9⟩; subst w9)
  go_ret
  exact ⟨by simp, below_drewN HB23 _⟩
end Pk
end Go.Proofs.Ytdphfhpohlodcab
