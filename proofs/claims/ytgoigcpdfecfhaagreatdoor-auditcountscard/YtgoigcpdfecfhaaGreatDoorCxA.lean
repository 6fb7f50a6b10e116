import Derived.Test.YtgoigcpdfecfhaaGreatDoorCtC
import Derived.Test.YtgoigcpdfecfhaaGreatDoorMgF
import Derived.Lib.SliceRun
namespace Go.Proofs.YtgoigcpdfecfhaaGreatDoor
namespace Au
open Go.RowKit
set_option linter.unusedVariables false
set_option maxRecDepth 8000
/-- The tables. -/
def Tb (w : World) : Prop := Rx.TabAt w ∧ Cl.TabAt64 w
theorem Tb.lt {w : World} (h : Tb w) : 2 ≤ w.heap.size := World.block_lt_of_cell? _ _ (h.2 0 (by omega))
theorem Tb.of {w w' : World} (h : Tb w) (e : ∀ k, k < 2 → w'.heap[k]? = w.heap[k]?) : Tb w' :=
  ⟨⟨(World.cell?_of_block (e 0 (by omega))).trans h.1.1, (World.cell?_of_block (e 0 (by omega))).trans h.1.2.1, (World.cell?_of_block (e 0 (by omega))).trans h.1.2.2⟩, fun i hi => (World.cell?_of_block (e 1 (by omega))).trans (h.2 i hi)⟩
theorem Tb.on {X : Nat → Prop} {w w' : World} (h : Tb w) (hC : Ch X w w') (hx : ∀ k, X k → 2 ≤ k) : Tb w' := h.of fun k hk => hC.block k (by have := h.lt; omega) (fun e => by have := hx k e; omega)
theorem Tb.b {w w' : World} (h : Tb w) (hb : Below w.heap.size w w') : Tb w' := h.on (X := fun _ => False) (Ch.of hb) (fun _ h => h.elim)
/-- So many words; the marks behind them. -/
def Cg (W : World) (rb n m : Nat) (P : Nat → Int) : Prop := ∃ U, GU W rb m U ∧ (∀ v, v < n → U v = P v) ∧ ∀ x, n ≤ x → x < m → U x = 99
theorem Cg.lt {W : World} {rb n m : Nat} {P : Nat → Int} (h : Cg W rb n m P) : rb < W.heap.size := by
  obtain ⟨U, a, b⟩ := h
  exact a.lt
theorem Cg.of {W W' : World} {rb n m : Nat} {P : Nat → Int} (h : Cg W rb n m P) (e : W'.heap[rb]? = W.heap[rb]?) : Cg W' rb n m P := by
  obtain ⟨U, a, b⟩ := h
  exact ⟨U, a.of e, b⟩
theorem Cg.c {W : World} {rb n m : Nat} {P : Nat → Int} (h : Cg W rb n m P) (hm : n ≤ m) (v : Nat) (hv : v < n) : W.cell? ⟨rb, v, none⟩ = some (.int .u64 (P v)) := by
  obtain ⟨U, a, b, c⟩ := h
  rw [a.cell v (by omega), b v hv]
theorem Cg.fz {W : World} {rb n m : Nat} {P : Nat → Int} (h : Cg W rb n m P) (j : Nat) : W.frozen? ⟨rb, j, none⟩ = false := by
  obtain ⟨U, a, b⟩ := h
  exact a.fz j
theorem Cg.ext {W : World} {rb n m : Nat} {P Q : Nat → Int} (h : Cg W rb n m P) (e : ∀ v, v < n → P v = Q v) : Cg W rb n m Q := by
  obtain ⟨U, a, b, c⟩ := h
  exact ⟨U, a, fun v hv => (b v hv).trans (e v hv), c⟩
theorem Cg.set {W : World} {rb n m : Nat} {P : Nat → Int} (h : Cg W rb n m P) (j : Nat) (hj : j < n) (x : Int) : Cg (W.setCell ⟨rb, j, none⟩ (.int .u64 x)) rb n m (up P j x) := by
  obtain ⟨U, a, b, c⟩ := h
  refine ⟨up U j x, (a.set j x).1, fun v hv => ?_, fun v h1 h2 => ?_⟩
  · by_cases e : v = j
    · subst e; rw [up_eq, up_eq]
    · rw [up_ne _ _ _ _ e, up_ne _ _ _ _ e]; exact b v hv
  · rw [up_ne _ _ _ _ (by omega)]; exact c v h1 h2
theorem Cg.sp {W : World} {rb n m : Nat} {P : Nat → Int} (h : Cg W rb n m P) : Sp W rb n m := by
  obtain ⟨U, a, b, c⟩ := h
  exact ⟨U, a, c⟩
theorem Cg.zeros {rb n m : Nat} (l : Nat) : ∀ {W : World} {P : Nat → Int} (o : Nat), Cg W rb n m P → o + l ≤ n → Cg (W.setCells rb o (List.replicate l (.int .u64 0))) rb n m (fun v => if o ≤ v ∧ v < o + l then 0 else P v) := by
  induction l with
  | zero => intro W P o h _; exact h.ext (fun v hv => by rw [if_neg (by omega)])
  | succ l ih =>
    intro W P o h ho
    rw [List.replicate_succ]
    exact (ih (o + 1) (h.set o (by omega) 0) (by omega)).ext (fun v hv => by
      by_cases e : v = o
      · subst e; rw [if_neg (by omega), if_pos (by omega), up_eq]
      · by_cases e2 : o + 1 ≤ v ∧ v < o + 1 + l
        · rw [if_pos e2, if_pos (by omega)]
        · rw [if_neg e2, if_neg (by omega), up_ne _ _ _ _ e])
theorem Ch.zeros {X : Nat → Prop} {w : World} {rb : Nat} (hx : X rb) (l : Nat) : ∀ {W : World} (o : Nat), Ch X w W → Ch X w (W.setCells rb o (List.replicate l (.int .u64 0))) := by
  induction l with
  | zero => intro W o h; exact h
  | succ l ih => intro W o h; rw [List.replicate_succ]; exact ih (o + 1) (h.set _ _ (Or.inl hx))
theorem clear_c (n m rb cp : Nat) (P : Nat → Int) (hm : n ≤ m) (hn : 0 < n) (w : World) (h : Cg w rb n m P) (ty : TypeId) : (Builtin.clear_ #[32] ty #[.slice (some ⟨rb, 0, none⟩) n cp]).run Tryz.prog w = .ok (.tuple #[]) (w.setCells rb 0 (List.replicate n (.int .u64 0))) :=
  Lib.run_clear_slice w 32 28 ty (.int .u64 0) Tryz.underlying32 (fun w => Tryz.zeroValue28 w) rfl rfl rb 0 n cp hn (fun j hj => by rw [Nat.zero_add, h.c hm j hj]; rfl) (fun j hj => h.fz _)
/-- Is a vertex inside? -/
def ins (s : Int) (v : Nat) : Bool := Rx.mix s v % 2 == 1
abbrev S36 (eb b : Nat) (s x y : Int) (w : World) : Prop := w.cell? ⟨eb, 0, none⟩ = some (.int .u64 s) ∧ w.cell? ⟨b, 0, none⟩ = some (.int .u32 x) ∧ w.cell? ⟨b, 1, none⟩ = some (.int .u32 y)
set_option maxHeartbeats 4000000 in
theorem see36 (n m rb fb eb : Nat) (s : Int) (P : Nat → Int) (x y z : Nat) (hx : x < n) (hy : y < n) (hnm : n ≤ m) (hn : n ≤ 10000) (s0 : 0 ≤ s) (s1 : s < 18446744073709551616) (w : World) (hR : Cg w rb n m P) (hb : Boxed w fb 32 (.slice (some ⟨rb, 0, none⟩) n n)) (he : Boxed w eb 28 (.int .u64 s)) (ht : Tb w) :
    Calls Tryz.prog 36 #[eV x y z, .pointer (some ⟨eb, 0, none⟩), .pointer (some ⟨fb, 0, none⟩)] w fun e w' => (∃ v, e = .returned v) ∧ Cg w' rb n m (crs (ins s) P (x, y, z)) ∧ Ch (fun k => k = rb) w w' := by
  obtain ⟨w0, hw0⟩ : ∃ w0, w.alloc (.cells #[.int .u32 x, .int .u32 y, .int .u32 z] 78) = w0 := ⟨_, rfl⟩
  have hB : Below w.heap.size w w0 := by rw [← hw0]; exact b1 _ _ _
  have hR0 : Cg w0.drew rb n m P := hR.of (hB.block _ hR.lt)
  have hb0 : Boxed w0.drew fb 32 (.slice (some ⟨rb, 0, none⟩) n n) := (hB.block _ hb.lt).trans hb
  have ht0 : Tb w0.drew := ht.b (belowD hB)
  have he0 : w0.drew.cell? ⟨eb, 0, none⟩ = some (.int .u64 s) := (show Boxed w0.drew eb 28 (.int .u64 s) from (hB.block _ he.lt).trans he).cell
  have e0 : w0.drew.cell? ⟨w.heap.size, 0, none⟩ = some (.int .u32 x) := by rw [← hw0]; exact cell_new w _ _ _ 0 _ rfl rfl
  have e1 : w0.drew.cell? ⟨w.heap.size, 1, none⟩ = some (.int .u32 y) := by rw [← hw0]; exact cell_new w _ _ _ 1 _ rfl rfl
  have HS : Hid (S36 eb w.heap.size s x y w0.drew) := ⟨he0, e0, e1⟩
  have HX := hide (Rx.in_any s x s0 s1 (by omega) (by omega) w0.drew ht0.1)
  have HY := hide (Rx.in_any s y s0 s1 (by omega) (by omega) w0.drew ht0.1)
  have HC : Hid (Ch (fun k => k = rb) w w0.drew) := (Ch.of hB).drew
  have HR := hide hR0
  have hfz := hR0.fz y
  have hcy := hR0.c hnm y hy
  have hcf := hb0.cell
  obtain ⟨a, ha⟩ : ∃ a : Bool, (Rx.mix s x % 2 == 1) = a := ⟨_, rfl⟩
  obtain ⟨b, hb'⟩ : ∃ b : Bool, (Rx.mix s y % 2 == 1) = b := ⟨_, rfl⟩
  have HI : Hid (crs (ins s) P (x, y, z) = if a != b then up P y (IntKind.u64.wrap (P y + 1)) else P) := by
    show crs (ins s) P (x, y, z) = _
    unfold crs ins
    simp only []
    rw [ha, hb']
  rw [ha] at HX
  rw [hb'] at HY
  have HW := hide hw0
  clear hw0 hR hb he ht hB hR0 hb0 ht0 he0 e0 ha hb'
  go_enter Tryz.func36, Tryz.ntmps36
  go_wp2_with (fail)
  rw [HW.out]
  apply wp_cut (fun w' => w' = w0.drew)
  case h =>
    go_region_held3 (S36 eb w.heap.size s x y) ((with_reducible exact HS.out)) ((first | (go_at_call 37; refine HX.out.mono ?_; rintro e1 w1 ⟨rfl, rfl⟩) | (go_at_call 37; refine HY.out.mono ?_; rintro e1 w1 ⟨rfl, rfl⟩)))
    all_goals exact ⟨rfl, rfl⟩
  case hq =>
    rintro w1 rfl
    clear HX HY HS HW
    have HE := hide (HR.out.set y hy (IntKind.u64.wrap (P y + 1)))
    have HC2 := hide (HC.out.set y (.int .u64 (IntKind.u64.wrap (P y + 1))) (Or.inl rfl))
    cases a <;> cases b <;> go_wp2 <;> go_end0
    · exact ⟨⟨_, rfl⟩, by rw [HI.out]; exact HR.out, HC.out⟩
    · exact ⟨⟨_, rfl⟩, by rw [HI.out]; exact HE.out, HC2.out⟩
    · exact ⟨⟨_, rfl⟩, by rw [HI.out]; exact HE.out, HC2.out⟩
    · exact ⟨⟨_, rfl⟩, by rw [HI.out]; exact HR.out, HC.out⟩
abbrev S39 (sb fb rb sg v n sn sc : Nat) (s0 c0 : Int) (w : World) : Prop := w.cell? ⟨sb, 0, none⟩ = some (.slice (some ⟨sg, 0, none⟩) sn sc) ∧ w.cell? ⟨fb, 0, none⟩ = some (.slice (some ⟨rb, 0, none⟩) n n) ∧ w.cell? ⟨sg, v * 8, none⟩ = some (.int .u64 s0) ∧ w.cell? ⟨rb, v, none⟩ = some (.int .u64 c0)
set_option maxHeartbeats 4000000 in
theorem rule39 (n m rb fb sb sg sn sc : Nat) (P : Nat → Int) (S : Nat → Nat → Int) (v : Nat) (hv : v < n) (hs : n ≤ sn) (hnm : n ≤ m) (hn : n ≤ 10000) (w : World) (hR : Cg w rb n m P) (hb : Boxed w fb 32 (.slice (some ⟨rb, 0, none⟩) n n)) (hsb : Boxed w sb 23 (.slice (some ⟨sg, 0, none⟩) sn sc)) (hS : SR w sg sn S) :
    Calls Tryz.prog 39 #[.int .u32 (v : Int), .pointer (some ⟨sb, 0, none⟩), .pointer (some ⟨fb, 0, none⟩)] w fun e w' => e = .returned (.bool (S v 0 != P v)) ∧ w' = w.drew := by
  have HS : Hid (S39 sb fb rb sg v n sn sc (S v 0) (P v) w.drew) := ⟨hsb.cell, hb.cell, hS.c v (by omega) 0 (by omega), hR.c hnm v hv⟩
  have hsn : v < sn := by omega
  clear hR hb hsb hS
  go_enter Tryz.func39, Tryz.ntmps39
  go_wp2_with (fail)
  go_region_held3 (S39 sb fb rb sg v n sn sc (S v 0) (P v)) ((with_reducible exact HS.out)) ((fail))
  clear HS
  go_wp2
  all_goals go_ret
  all_goals exact ⟨rfl, rfl⟩
end Au
end Go.Proofs.YtgoigcpdfecfhaaGreatDoor
