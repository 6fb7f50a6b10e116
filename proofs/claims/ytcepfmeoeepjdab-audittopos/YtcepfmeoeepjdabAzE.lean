import Derived.Test.YtcepfmeoeepjdabAzC
import Derived.Test.YtcepfmeoeepjdabAyM
import Derived.Test.YtcepfmeoeepjdabAyN
namespace Go.Proofs.Ytcepfmeoeepjdab
namespace Au
open Go.RowKit
set_option linter.unusedVariables false
set_option maxRecDepth 8000
/-- The room as truths, and 99 behind. -/
def Mr (W : World) (rb n m : Nat) (M : Nat → Bool) : Prop := ∃ U, GU W rb m U ∧ (∀ v, v < n → U v = w01 M v) ∧ ∀ x, n ≤ x → x < m → U x = 99
theorem Mr.of {W W' : World} {rb n m : Nat} {M : Nat → Bool} (h : Mr W rb n m M) (e : W'.heap[rb]? = W.heap[rb]?) : Mr W' rb n m M := by
  obtain ⟨U, a, b⟩ := h
  exact ⟨U, a.of e, b⟩
theorem Mr.lt {W : World} {rb n m : Nat} {M : Nat → Bool} (h : Mr W rb n m M) : rb < W.heap.size := by
  obtain ⟨U, a, b⟩ := h
  exact a.lt
theorem Mr.cell {W : World} {rb n m : Nat} {M : Nat → Bool} (h : Mr W rb n m M) (hm : n ≤ m) (v : Nat) (hv : v < n) : W.cell? ⟨rb, v, none⟩ = some (.int .u64 (w01 M v)) := by
  obtain ⟨U, a, b, c⟩ := h
  rw [a.cell v (by omega), b v hv]
theorem Mr.fz {W : World} {rb n m : Nat} {M : Nat → Bool} (h : Mr W rb n m M) (j : Nat) : W.frozen? ⟨rb, j, none⟩ = false := by
  obtain ⟨U, a, b⟩ := h
  exact a.fz j
theorem Mr.ext {W : World} {rb n m : Nat} {M M' : Nat → Bool} (h : Mr W rb n m M) (he : ∀ v, v < n → M v = M' v) : Mr W rb n m M' := by
  obtain ⟨U, a, b, c⟩ := h
  exact ⟨U, a, fun v hv => by rw [b v hv]; unfold w01; rw [he v hv], c⟩
theorem Mr.set {W : World} {rb n m : Nat} {M : Nat → Bool} (h : Mr W rb n m M) (v : Nat) (hv : v < n) : Mr (W.setCell ⟨rb, v, none⟩ (.int .u64 1)) rb n m (fun u => M u || u == v) := by
  obtain ⟨U, a, b, c⟩ := h
  refine ⟨_, (a.set v 1).1, fun u hu => ?_, fun x h1 h2 => ?_⟩
  · by_cases e : u = v
    · subst e; rw [up_eq]; unfold w01; simp
    · rw [up_ne _ _ _ _ e, b u hu]; unfold w01
      have : (u == v) = false := by simpa using e
      simp only [this, Bool.or_false]
  · rw [up_ne _ _ _ _ (by omega)]; exact c x h1 h2
theorem GU.zeros {rb m : Nat} (l : Nat) : ∀ {W : World} {U : Nat → Int} (o : Nat), GU W rb m U → GU (W.setCells rb o (List.replicate l (.int .u64 0))) rb m (fun v => if o ≤ v ∧ v < o + l then 0 else U v) := by
  induction l with
  | zero => intro W U o h; exact h.ext (fun v hv => by rw [if_neg (by omega)])
  | succ l ih =>
    intro W U o h
    rw [List.replicate_succ]
    exact (ih (o + 1) (h.set o 0).1).ext (fun v hv => by
      by_cases e : v = o
      · subst e; rw [if_neg (by omega), if_pos (by omega), up_eq]
      · by_cases e2 : o + 1 ≤ v ∧ v < o + 1 + l
        · rw [if_pos e2, if_pos (by omega)]
        · rw [if_neg e2, if_neg (by omega), up_ne _ _ _ _ e])
theorem clear_gu (n m rb : Nat) (U : Nat → Int) (hm : n ≤ m) (hn : 0 < n) (w : World) (h : GU w rb m U) (ty : TypeId) : (Builtin.clear_ #[32] ty #[.slice (some ⟨rb, 0, none⟩) n n]).run Try.prog w = .ok (.tuple #[]) (w.setCells rb 0 (List.replicate n (.int .u64 0))) :=
  Lib.run_clear_slice w 32 28 ty (.int .u64 0) Try.underlying32 (fun w => Try.zeroValue28 w) rfl rfl rb 0 n n hn (fun j hj => by rw [Nat.zero_add, h.cell j (by omega)]; rfl) (fun j hj => h.fz _)
/-- Is an edge ground enough for a level? -/
def carr (u v : Int) : Bool := if v = NN then u == NN else (decide (0 < v) && u == v - 1)
/-- Is rule 2 broken by an edge? -/
def r2b (u v : Int) : Bool := v != NN && (u == NN || decide (v ≤ u))
def mtE9 (S : Nat → Nat → Int) (v : Nat) (e : T3) : Bool := e.2.1 == v && carr (S e.1 0) (S v 0)
def mt9 (S : Nat → Nat → Int) (L : List T3) (v : Nat) : Bool := L.any (mtE9 S v)
def ovE9 (S : Nat → Nat → Int) (v : Nat) (e : T3) : Bool := e.2.1 == v && r2b (S e.1 0) (S v 0)
def ov9 (S : Nat → Nat → Int) (L : List T3) (v : Nat) : Bool := L.any (ovE9 S v)
theorem mt9_app (S : Nat → Nat → Int) (L : List T3) (e : T3) (v : Nat) : mt9 S (L ++ [e]) v = (mt9 S L v || mtE9 S v e) := by simp [mt9]
theorem ov9_app (S : Nat → Nat → Int) (L : List T3) (e : T3) (v : Nat) : ov9 S (L ++ [e]) v = (ov9 S L v || ovE9 S v e) := by simp [ov9]
/-- What TopoLevels asks. -/
def un9 (S : Nat → Nat → Int) (n v : Nat) : Bool := decide ((n : Int) ≤ S v 0) && S v 0 != NN
def ng9 (S : Nat → Nat → Int) (L : List T3) (v : Nat) : Bool := decide (0 < S v 0) && !mt9 S L v
def PT (S : Nat → Nat → Int) (n : Nat) (L : List T3) (a b : Nat) : Prop := (b = 2 ∧ a < n ∧ ov9 S L a = true) ∨ (b = 1 ∧ a < n ∧ un9 S n a = true) ∨ (b = 3 ∧ a < n ∧ ng9 S L a = true)
set_option maxHeartbeats 4000000 in
theorem carries_any (u v : Int) (hv : 0 ≤ v ∧ v < 18446744073709551616) (w : World) : Calls Try.prog 29 #[.int .u64 u, .int .u64 v] w fun e w' => e = .returned (.bool (carr u v)) ∧ w' = w := by
  unfold carr
  by_cases h1 : v = NN
  · rw [if_pos h1]
    have hb : (v == 18446744073709551615) = true := by simpa using h1
    clear h1
    go_enter Try.func29, Try.ntmps29
    go_wp2
    all_goals go_ret
    all_goals exact ⟨rfl, rfl⟩
  · rw [if_neg h1]
    have hb : (v == 18446744073709551615) = false := by simpa using h1
    by_cases h2 : 0 < v
    · have hd : decide (0 < v) = true := by simpa using h2
      have hw : IntKind.u64.wrap (v - 1) = v - 1 := wu _ (by omega) (by omega)
      rw [hd, Bool.true_and]
      clear h1 h2 hv
      go_enter Try.func29, Try.ntmps29
      go_wp2
      all_goals go_ret
      all_goals exact ⟨rfl, rfl⟩
    · have hd : decide (0 < v) = false := by simpa using h2
      rw [hd, Bool.false_and]
      clear h1 h2 hv
      go_enter Try.func29, Try.ntmps29
      go_wp2
      all_goals go_ret
      all_goals exact ⟨rfl, rfl⟩
/-- What a look at levels has about it. -/
structure Eu (W : World) (n rb qb sb nb zb mb sg sn sc : Nat) (S : Nat → Nat → Int) : Prop where
  bs : Boxed W sb 23 (.slice (some ⟨sg, 0, none⟩) sn sc)
  bn : Boxed W nb 22 (.int .u32 (n : Int))
  bz : Boxed W zb 63 (.pointer (some ⟨qb, 0, none⟩))
  bm : Boxed W mb 32 (.slice (some ⟨rb, 0, none⟩) n n)
  bS : SR W sg sn S
  d : ∀ k, k = sb ∨ k = nb ∨ k = zb ∨ k = mb ∨ k = sg → k ≠ rb ∧ k ≠ qb
theorem Eu.of {W W' : World} {n rb qb sb nb zb mb sg sn sc : Nat} {S : Nat → Nat → Int} (h : Eu W n rb qb sb nb zb mb sg sn sc S) (e : ∀ k, k < W.heap.size → k ≠ rb → k ≠ qb → W'.heap[k]? = W.heap[k]?) : Eu W' n rb qb sb nb zb mb sg sn sc S :=
  ⟨(e _ h.bs.lt (h.d _ (by simp)).1 (h.d _ (by simp)).2).trans h.bs, (e _ h.bn.lt (h.d _ (by simp)).1 (h.d _ (by simp)).2).trans h.bn, (e _ h.bz.lt (h.d _ (by simp)).1 (h.d _ (by simp)).2).trans h.bz, (e _ h.bm.lt (h.d _ (by simp)).1 (h.d _ (by simp)).2).trans h.bm, h.bS.of (e _ h.bS.lt (h.d _ (by simp)).1 (h.d _ (by simp)).2), h.d⟩
theorem Eu.ch {X : Nat → Prop} {W W' : World} {n rb qb sb nb zb mb sg sn sc : Nat} {S : Nat → Nat → Int} (h : Eu W n rb qb sb nb zb mb sg sn sc S) (hc : Ch X W W') (hx : ∀ k, X k → k = rb ∨ k = qb) : Eu W' n rb qb sb nb zb mb sg sn sc S :=
  h.of (fun k hk h1 h2 => hc.block k hk (fun q => by rcases hx k q with q | q; exact h1 q; exact h2 q))
abbrev S27b (sb eb sg x y sn sc : Nat) (u v : Int) (w : World) : Prop := w.cell? ⟨sb, 0, none⟩ = some (.slice (some ⟨sg, 0, none⟩) sn sc) ∧ w.cell? ⟨eb, 0, none⟩ = some (.int .u32 (x : Int)) ∧ w.cell? ⟨eb, 1, none⟩ = some (.int .u32 (y : Int)) ∧ w.cell? ⟨sg, x * 8, none⟩ = some (.int .u64 u) ∧ w.cell? ⟨sg, y * 8, none⟩ = some (.int .u64 v)
set_option maxHeartbeats 8000000 in
theorem see27 (n m rb qb sb nb zb mb sg sn sc : Nat) (S : Nat → Nat → Int) (kd : Int) (ed sl : Value) (o : Vd) (M : Nat → Bool) (x y z : Nat) (hx : x < n) (hy : y < n) (hs : n ≤ sn) (hsr : ∀ v, v < n → 0 ≤ S v 0 ∧ S v 0 < 18446744073709551616) (hm : n ≤ m) (hn : n ≤ 5000) (w : World)
    (hP : Mr w rb n m M) (hI : Iq w qb n kd ed sl o) (hV : Eu w n rb qb sb nb zb mb sg sn sc S) (hrq : rb ≠ qb) :
    Calls Try.prog 27 #[eV x y z, .pointer (some ⟨sb, 0, none⟩), .pointer (some ⟨zb, 0, none⟩), .pointer (some ⟨mb, 0, none⟩)] w fun r w' => (∃ v, r = .returned v) ∧ Mr w' rb n m (fun v => M v || mtE9 S v (x, y, z)) ∧ Iq w' qb n kd ed sl (if ovE9 S y (x, y, z) = true then nt o y 2 else o) ∧ Ch (fun k => k = rb ∨ k = qb) w w' := by
  obtain ⟨w0, hw0⟩ : ∃ w0, w.alloc (.cells #[.int .u32 x, .int .u32 y, .int .u32 z] 66) = w0 := ⟨_, rfl⟩
  have hB : Below w.heap.size w w0 := by rw [← hw0]; exact b1 _ _ _
  have he : w0.heap[w.heap.size]? = some (.cells #[.int .u32 x, .int .u32 y, .int .u32 z] 66 (0, 0)) := by rw [← hw0]; exact at0 _ _
  have hV0 : Eu w0 n rb qb sb nb zb mb sg sn sc S := hV.of (fun k hk _ _ => hB.block k hk)
  have hP0 : Mr w0 rb n m M := hP.of (hB.block _ hP.lt)
  have hI0 : Iq w0 qb n kd ed sl o := (hB.block _ hI.lt).trans hI
  have hle : w.heap.size < w0.heap.size := lt_of_some he
  have hr1 := hP.lt
  have hq1 := hI.lt
  obtain ⟨eb, heb⟩ : ∃ eb, eb = w.heap.size := ⟨_, rfl⟩
  rw [← heb] at he
  obtain ⟨u, hu⟩ : ∃ u, S x 0 = u := ⟨_, rfl⟩
  obtain ⟨v, hv⟩ : ∃ v, S y 0 = v := ⟨_, rfl⟩
  have HV : Hid (0 ≤ v ∧ v < 18446744073709551616) := by
    show _ ∧ _
    rw [← hv]; exact hsr y hy
  have hcu := hV0.bS.c x (by omega) 0 (by omega)
  have hcv := hV0.bS.c y (by omega) 0 (by omega)
  rw [hu] at hcu
  rw [hv] at hcv
  have HS : Hid (S27b sb eb sg x y sn sc u v w0.drew) := ⟨hV0.bs.cell, (cell_of_row _ _ _ _ _ _ he).trans rfl, (cell_of_row _ _ _ _ _ _ he).trans rfl, hcu, hcv⟩
  have hmt : ∀ t, t < n → mtE9 S t (x, y, z) = (t == y && carr u v) := fun t ht => by
    unfold mtE9
    by_cases e : t = y
    · subst e; simp [hu, hv]
    · have h1 : (y == t) = false := by simpa using fun q => e q.symm
      have h2 : (t == y) = false := by simpa using e
      simp only [h1, h2, Bool.false_and]
  have hov : ovE9 S y (x, y, z) = r2b u v := by unfold ovE9; simp [hu, hv]
  -- what is left behind rule 2, whatever the world, by the verdict
  have hC0 : Ch (fun k => k = rb ∨ k = qb) w w0.drew := (Ch.of hB).drew
  have HFn : ∀ W o', Iq W qb n kd ed sl o' → Ch (fun k => k = qb) w0.drew W → Hid ((carr u v = false → Mr W rb n m (fun v => M v || mtE9 S v (x, y, z)) ∧ Iq W qb n kd ed sl o' ∧ Ch (fun k => k = rb ∨ k = qb) w W) ∧ (carr u v = true → Mr (W.setCell ⟨rb, y, none⟩ (.int .u64 1)) rb n m (fun v => M v || mtE9 S v (x, y, z)) ∧ Iq (W.setCell ⟨rb, y, none⟩ (.int .u64 1)) qb n kd ed sl o' ∧ Ch (fun k => k = rb ∨ k = qb) w (W.setCell ⟨rb, y, none⟩ (.int .u64 1)))) ∧ W.cell? ⟨eb, 1, none⟩ = some (.int .u32 (y : Int)) ∧ W.cell? ⟨mb, 0, none⟩ = some (.slice (some ⟨rb, 0, none⟩) n n) ∧ W.cell? ⟨rb, y, none⟩ = some (.int .u64 (w01 M y)) ∧ W.frozen? ⟨rb, y, none⟩ = false ∧ True := fun W o' hIW hCW => by
    have hPW : Mr W rb n m M := (hP0.of (W' := w0.drew) rfl).of (hCW.block rb (by show rb < w0.heap.size; omega) hrq)
    have hVW : Eu W n rb qb sb nb zb mb sg sn sc S := (hV0.of (W' := w0.drew) (fun _ _ _ _ => rfl)).ch hCW (fun k hk => Or.inr hk)
    have hCw : Ch (fun k => k = rb ∨ k = qb) w W := hC0.trans (hCW.mono (fun k _ h => Or.inr h))
    have heW : W.heap[eb]? = some (.cells #[.int .u32 x, .int .u32 y, .int .u32 z] 66 (0, 0)) := (hCW.block eb (by show eb < w0.heap.size; omega) (by omega)).trans he
    refine ⟨⟨fun hc => ⟨hPW.ext (fun t ht => by rw [hmt t ht, hc]; simp), hIW, hCw⟩, fun hc => ⟨(hPW.set y hy).ext (fun t ht => by rw [hmt t ht, hc]; simp), (Below.heap_setCell _ _ _ _ (fun q => hrq q.symm)).trans hIW, hCw.set _ _ (Or.inl (Or.inl rfl))⟩⟩, (cell_of_row _ _ _ _ _ _ heW).trans rfl, hVW.bm.cell, hPW.cell hm y hy, hPW.fz y, trivial⟩
  obtain ⟨oR, hoR⟩ : ∃ oR, (if r2b u v = true then nt o y 2 else o) = oR := ⟨_, rfl⟩
  have HOl := hide (fun (hf : r2b u v = false) => HFn w0.drew oR (by rw [← hoR, if_neg (by rw [hf]; simp)]; exact hI0) (Ch.refl _ _))
  have HNt := hide (fun (hf : r2b u v = true) W (h1 : Iq W qb n kd ed sl (nt o y 2)) (h2 : Ch (fun k => k = qb) w0.drew W) => HFn W oR (by rw [← hoR, if_pos hf]; exact h1) h2)
  have HI0 : Hid (Iq w0.drew qb n kd ed sl o) := hI0
  have HZ0 : Hid (w0.drew.cell? ⟨zb, 0, none⟩ = some (.pointer (some ⟨qb, 0, none⟩)) ∧ w0.drew.cell? ⟨eb, 1, none⟩ = some (.int .u32 (y : Int))) := ⟨hV0.bz.cell, (cell_of_row _ _ _ _ _ _ he).trans rfl⟩
  have hxs : x < sn := by omega
  have hys : y < sn := by omega
  have HW0 := hide hw0
  have Heb := hide heb
  rw [hov, hoR]
  clear hoR hP hI hV hB he hV0 hP0 hI0 hC0 HFn hcu hcv hmt hov hle hr1 hq1 hw0 heb hu hv hrq
  go_enter Try.func27, Try.ntmps27
  go_wp2_with (fail)
  rw [HW0.out, ← Heb.out]
  go_region_held3 (S27b sb eb sg x y sn sc u v) ((with_reducible exact HS.out)) ((fail))
  clear HS HW0 Heb
  by_cases h1 : v = NN
  · have hb1 : (v != 18446744073709551615) = false := by simpa using h1
    have hr : r2b u v = false := by unfold r2b; rw [show (v != NN) = false from hb1]; rfl
    obtain ⟨HFin, m0, m1, m2, m3, _⟩ := HOl.out hr
    clear HOl HNt HI0 HZ0 h1 hr
    have HCa := hide (carries_any u v HV.out)
    go_wp2_with (fail)
    refine (HCa.out _).mono ?_
    rintro e3 w3 ⟨rfl, hw3⟩
    subst w3
    clear HCa
    cases hcr : carr u v with
    | true =>
      have HF := hide (HFin.out.2 hcr)
      clear HFin
      go_wp2
      go_end0
      exact ⟨⟨_, rfl⟩, HF.out⟩
    | false =>
      have HF := hide (HFin.out.1 hcr)
      clear HFin m0 m1 m2 m3
      go_wp2
      go_end0
      exact ⟨⟨_, rfl⟩, HF.out⟩
  · have hb1 : (v != 18446744073709551615) = true := by simpa using h1
    by_cases h2 : u = NN
    · have hb2 : (u == 18446744073709551615) = true := by simpa using h2
      have hr : r2b u v = true := by unfold r2b; rw [show (v != NN) = true from hb1, show (u == NN) = true from hb2]; rfl
      obtain ⟨z0, z1⟩ := HZ0.out
      clear h1 h2
      have HN := hide (note_any qb y 2 n kd ed sl o _ HI0.out)
      go_wp2_with (fail)
      refine HN.out.mono ?_
      rintro e2 w2 ⟨⟨v2, rfl⟩, hI2, hC2⟩
      obtain ⟨HFin, m0, m1, m2, m3, _⟩ := HNt.out hr w2 hI2 hC2
      clear hI2 hC2 HN z0 z1 HOl HNt HI0 HZ0 hr
      have HCa := hide (carries_any u v HV.out)
      go_wp2_with (fail)
      refine (HCa.out _).mono ?_
      rintro e3 w3 ⟨rfl, hw3⟩
      subst w3
      clear HCa
      cases hcr : carr u v with
      | true =>
        have HF := hide (HFin.out.2 hcr)
        clear HFin
        go_wp2
        go_end0
        exact ⟨⟨_, rfl⟩, HF.out⟩
      | false =>
        have HF := hide (HFin.out.1 hcr)
        clear HFin m0 m1 m2 m3
        go_wp2
        go_end0
        exact ⟨⟨_, rfl⟩, HF.out⟩
    · have hb2 : (u == 18446744073709551615) = false := by simpa using h2
      by_cases h3 : v ≤ u
      · have hb3 : decide (v ≤ u) = true := by simpa using h3
        have hr : r2b u v = true := by unfold r2b; rw [show (v != NN) = true from hb1, show (u == NN) = false from hb2, hb3]; rfl
        obtain ⟨z0, z1⟩ := HZ0.out
        clear h1 h2 h3
        have HN := hide (note_any qb y 2 n kd ed sl o _ HI0.out)
        go_wp2_with (fail)
        refine HN.out.mono ?_
        rintro e2 w2 ⟨⟨v2, rfl⟩, hI2, hC2⟩
        obtain ⟨HFin, m0, m1, m2, m3, _⟩ := HNt.out hr w2 hI2 hC2
        clear hI2 hC2 HN z0 z1 HOl HNt HI0 HZ0 hr
        have HCa := hide (carries_any u v HV.out)
        go_wp2_with (fail)
        refine (HCa.out _).mono ?_
        rintro e3 w3 ⟨rfl, hw3⟩
        subst w3
        clear HCa
        cases hcr : carr u v with
        | true =>
          have HF := hide (HFin.out.2 hcr)
          clear HFin
          go_wp2
          go_end0
          exact ⟨⟨_, rfl⟩, HF.out⟩
        | false =>
          have HF := hide (HFin.out.1 hcr)
          clear HFin m0 m1 m2 m3
          go_wp2
          go_end0
          exact ⟨⟨_, rfl⟩, HF.out⟩
      · have hb3 : decide (v ≤ u) = false := by simpa using h3
        have hr : r2b u v = false := by unfold r2b; rw [show (v != NN) = true from hb1, show (u == NN) = false from hb2, hb3]; rfl
        obtain ⟨HFin, m0, m1, m2, m3, _⟩ := HOl.out hr
        clear HOl HNt HI0 HZ0 h1 h2 h3 hr
        have HCa := hide (carries_any u v HV.out)
        go_wp2_with (fail)
        refine (HCa.out _).mono ?_
        rintro e3 w3 ⟨rfl, hw3⟩
        subst w3
        clear HCa
        cases hcr : carr u v with
        | true =>
          have HF := hide (HFin.out.2 hcr)
          clear HFin
          go_wp2
          go_end0
          exact ⟨⟨_, rfl⟩, HF.out⟩
        | false =>
          have HF := hide (HFin.out.1 hcr)
          clear HFin m0 m1 m2 m3
          go_wp2
          go_end0
          exact ⟨⟨_, rfl⟩, HF.out⟩
end Au
end Go.Proofs.Ytcepfmeoeepjdab
