import Derived.Test.YtipnlcnikpngcaaDoorSpK
namespace Go.Proofs.YtipnlcnikpngcaaDoor
namespace Wp
open Go.RowKit
set_option linter.unusedVariables false
set_option maxRecDepth 8000
theorem K8o.row {b o g : Nat} {c : Nat → Int} {w : World} (h : K8o b o c w) (D : Array Value) (hb : b ≠ g) : K8o b o c (w.setRow g D) :=
  ⟨(cell_setRow_other w g D _ hb).trans h.1, (cell_setRow_other w g D _ hb).trans h.2.1, (cell_setRow_other w g D _ hb).trans h.2.2.1, (cell_setRow_other w g D _ hb).trans h.2.2.2.1, (cell_setRow_other w g D _ hb).trans h.2.2.2.2.1, (cell_setRow_other w g D _ hb).trans h.2.2.2.2.2.1, (cell_setRow_other w g D _ hb).trans h.2.2.2.2.2.2.1, (cell_setRow_other w g D _ hb).trans h.2.2.2.2.2.2.2⟩
/-- The cells that a fold reads. -/
abbrev Sfd (bc ba sb o : Nat) (C A s : Nat → Int) (w : World) : Prop := K4 bc C w ∧ K8 ba A w ∧ K8o sb o s w
/-- What folded keeps. -/
structure Fo (g : Pg) (sb n : Nat) (C : Nat → Int) (S : Nat → Nat → Int) (bc j : Nat) (w wr : World) : Prop where
  t : Below w.heap.size w wr
  c : wr.heap[bc]? = some (.cells (cv C) 65 (0, 0))
  z : wr.heap[bc + 1]? = some (.cells z8 41 (0, 0))
  a : wr.heap[bc + 1 + 1]? = some (.cells (sv (fs g S j)) 41 (0, 0))
theorem lt_of_some {w : World} {b : Nat} {o : Obj} (h : w.heap[b]? = some o) : b < w.heap.size := (Array.getElem?_eq_some_iff.1 h).1
theorem Fo.on {g : Pg} {sb n : Nat} {C : Nat → Int} {S : Nat → Nat → Int} {bc j : Nat} {w wr w' : World} (h : Fo g sb n C S bc j w wr) (hb : Below wr.heap.size wr w') : Fo g sb n C S bc j w w' :=
  ⟨h.t.trans (hb.mono h.t.size), (hb.block _ (lt_of_some h.c)).trans h.c, (hb.block _ (lt_of_some h.z)).trans h.z, (hb.block _ (lt_of_some h.a)).trans h.a⟩
theorem Fo.next {g : Pg} {sb n : Nat} {C : Nat → Int} {S : Nat → Nat → Int} {j : Nat} {w wr : World} (h : Fo g sb n C S w.heap.size j w wr) : Fo g sb n C S w.heap.size (j + 1) w (wr.setRow (w.heap.size + 1 + 1) (sv (fs g S (j + 1)))) :=
  ⟨below_setRow h.t (by omega) _, (setRow_other _ _ _ _ (by omega)).trans h.c, (setRow_other _ _ _ _ (by omega)).trans h.z, setRow_heap _ _ _ _ 41 (0, 0) h.a⟩
set_option maxHeartbeats 4000000 in
theorem folded_any (g : Pg) (N fb B sb n : Nat) (cap : Nat) (C : Nat → Int) (S : Nat → Nat → Int) (hn : n ≤ 1000) (w : World) (hO : Ob g N fb B w) (hBw : B ≤ w.heap.size) (hS : SR w sb n S) :
    Calls Tryd.prog 22 #[.pointer (some ⟨fb, 0, none⟩), .agg (cv C), .slice (some ⟨sb, 0, none⟩) n cap, .int .i64 0] w fun e w' => e = .returned (.tuple #[.agg (sv (fs g S n)), .int .i64 0]) ∧ Below w.heap.size w w' := by
  have HO := hide hO
  have HS := hide hS
  have HBw := hide hBw
  have HN0 := hide (num_any 0)
  have HWo := hide worse_00
  have h0 : Hid (Fo g sb n C S w.heap.size 0 w (((w.alloc (.cells (cv C) 65)).alloc (.cells z8 41)).alloc (.cells z8 41))) := by
    refine ⟨by repeat first | exact Below.refl _ _ | refine bA ?_ (by first | exact Nat.le_refl _ | (simp only [World.size_alloc]; omega)) _, keep _ (keep _ (at0 _ _)), ?_, ?_⟩
    · have h1 := keep (.cells z8 41) (at0 (w.alloc (.cells (cv C) 65)) (.cells z8 41))
      simp only [World.size_alloc] at h1; exact h1
    · have h1 := at0 ((w.alloc (.cells (cv C) 65)).alloc (.cells z8 41)) (.cells z8 41)
      simp only [World.size_alloc] at h1; exact h1
  clear hO hS hBw
  go_enter Tryd.func22, Tryd.ntmps22
  go_wp2_with (fail)
  go_loopw [11, 3] (fun v q wr => ∃ j : Nat, j ≤ n ∧ v = .int .i64 j ∧ q = .int .i64 0 ∧ Hid (Fo g sb n C S w.heap.size j w wr)) (fun v _ _ => n - (intOf v).toNat)
  case atStart => exact ⟨0, Nat.zero_le _, rfl, rfl, h0⟩
  case round =>
    clear h0
    obtain ⟨j, hj, rfl, rfl, HF⟩ := hrel
    by_cases c : j < n
    · have HSj : Hid (SR wr sb n S) := HS.out.on HF.out.t
      have HOj := hide (HO.out.on (HF.out.t.mono HBw.out))
      have HFo := hide (HOj.out.fold C (fs g S j) j (S j))
      have HFs : Hid (fs g S (j + 1) = g.fo (fs g S j) (S j)) := rfl
      have HFc := hide HF.out.c
      have HFa := hide HF.out.a
      obtain ⟨A0, hA0⟩ : ∃ A0, fs g S j = A0 := ⟨_, rfl⟩
      rw [hA0] at HFa HFo HFs
      have hw32 : IntKind.u32.wrap (j : Int) = j := by simp only [IntKind.wrap, IntKind.signed, IntKind.bits]; simp; omega
      have HC := hide c
      clear hA0 hj
      have hS0 : Hid (Sfd w.heap.size (w.heap.size + 1 + 1) sb (j * 8) C A0 (S j) wr.drew) := ⟨k4 (t := 65) HFc.out, k8 (t := 41) HFa.out, HSj.out.k8 j HC.out⟩
      have HZ : Hid (w.heap.size < wr.heap.size ∧ w.heap.size + 1 + 1 < wr.heap.size ∧ sb < wr.heap.size) := ⟨lt_of_some HFc.out, lt_of_some HFa.out, HSj.out.lt⟩
      have HK : Hid (∀ W, Below wr.heap.size wr W → Sfd w.heap.size (w.heap.size + 1 + 1) sb (j * 8) C A0 (S j) W) := fun W hB => ⟨K4.on (k4 (t := 65) HFc.out) hB HZ.out.1, K8.on (k8 (t := 41) HFa.out) hB HZ.out.2.1, K8o.on (HSj.out.k8 j HC.out) hB HZ.out.2.2⟩
      have HBz : Hid (B ≤ wr.heap.size) := Nat.le_trans HBw.out HF.out.t.size
      have HX : Hid (Below wr.heap.size wr (wr.alloc (.cells z8 41)).drew) := by repeat first | exact Below.refl _ _ | refine belowD ?_ | refine belowN ?_ _ | refine bA ?_ (by first | exact Nat.le_refl _ | (simp only [World.size_drew, World.size_alloc]; omega)) _
      have HXd : Hid (Below B wr wr.drew) := belowD (Below.refl _ _)
      have HX0 : Hid ((wr.alloc (.cells z8 41)).drew.heap[wr.heap.size]? = some (.cells z8 41 (0, 0))) := at0 _ _
      have HXz : Hid (wr.heap.size < (wr.alloc (.cells z8 41)).drew.heap.size) := by show _ < _; simp only [World.size_drew, World.size_alloc]; omega
      have HXr : Hid (∀ W C', Sfd w.heap.size (w.heap.size + 1 + 1) sb (j * 8) C A0 (S j) W → Sfd w.heap.size (w.heap.size + 1 + 1) sb (j * 8) C A0 (S j) (W.setRow wr.heap.size C')) := fun W C' h => by
        have h1 := Nat.ne_of_lt HZ.out.1
        have h2 := Nat.ne_of_lt HZ.out.2.1
        have h3 := Nat.ne_of_lt HZ.out.2.2
        exact ⟨K4.row h.1 C' h1, K8.row h.2.1 C' h2, K8o.row h.2.2 C' h3⟩
      go_wp2_with (fail)
      go_region_held3 (Sfd w.heap.size (w.heap.size + 1 + 1) sb (j * 8) C A0 (S j)) ((first | with_reducible exact hS0.out | with_reducible exact HK.out _ HX.out | with_reducible exact HK.out _ hw1.out | with_reducible exact HK.out _ (bA hw1.out hw1z.out _) | (rw [sets8 HQ.out rfl]; exact HXr.out _ _ (HK.out _ hw1.out)))) ((first | (go_at_call 33; refine (HFo.out _ (HX.out.mono HBz.out)).mono ?_; rintro e1 w1 ⟨rfl, hw1'⟩; have HQ := hide ((hw1'.block _ HXz.out).trans HX0.out); have hw1 := hide (HX.out.trans (hw1'.mono HX.out.size)); clear hw1'; have hk2 := k8 (c := fun _ => 0) HQ.out; have hf2 := f8 HQ.out) | (go_at_call 33; refine (HFo.out _ HXd.out).mono ?_; rintro e1 w1 ⟨rfl, hw1'⟩; have hw1 : Hid (Below wr.heap.size wr w1) := ⟨hw1'.os, hw1'.tape, hw1'.output, hw1'.size, hw1'.block⟩; have hw1z := hide hw1.out.size; clear hw1')))
      · have HBx := hide (at0 w1 (.cells (sv (g.fo A0 (S j))) 41))
        have HB2 : Hid (Below wr.heap.size wr (w1.alloc (.cells (sv (g.fo A0 (S j))) 41))) := bA hw1.out hw1z.out _
        have HF2 := hide (HF.out.on HB2.out)
        generalize w1.alloc (.cells (sv (g.fo A0 (S j))) 41) = w2 at *
        generalize w1.heap.size = bx at *
        generalize g.fo A0 (S j) = a1 at *
        have hk := k8 HBx.out
        have hka := k8 HF2.out.a
        have hfa := f8 HF2.out.a
        clear hS0 HZ HK HX HX0 HXz HXr HXd
        go_wp2_with (first | (go_at_call 8; refine (HN0.out _).mono ?_; rintro e3 w3 ⟨rfl, hw3⟩; subst w3) | (go_at_call 20; refine (HWo.out _).mono ?_; rintro e3 w3 ⟨rfl, hw3⟩; subst w3))
        rw [sets8 HF2.out.a rfl]
        refine ⟨⟨j + 1, HC.out, by go_num, rfl, ?_⟩, by simp [intOf]; have := HC.out; omega⟩
        have hE := HF2.out.next
        rw [HFs.out] at hE
        exact hE
      · rw [sets8 HQ.out rfl]
        have HBx := hide (setRow_heap w1 wr.heap.size _ (sv (g.fo A0 (S j))) 41 (0, 0) HQ.out)
        have HB2 : Hid (Below wr.heap.size wr (w1.setRow wr.heap.size (sv (g.fo A0 (S j))))) := below_setRow hw1.out (Nat.le_refl _) _
        have HF2 := hide (HF.out.on HB2.out)
        generalize w1.setRow wr.heap.size (sv (g.fo A0 (S j))) = w2 at *
        generalize hbx : wr.heap.size = bx at HBx ⊢
        generalize g.fo A0 (S j) = a1 at *
        have hk := k8 HBx.out
        have hka := k8 HF2.out.a
        have hfa := f8 HF2.out.a
        clear hS0 HZ HK HX HX0 HXz HXr HXd
        go_wp2_with (first | (go_at_call 8; refine (HN0.out _).mono ?_; rintro e3 w3 ⟨rfl, hw3⟩; subst w3) | (go_at_call 20; refine (HWo.out _).mono ?_; rintro e3 w3 ⟨rfl, hw3⟩; subst w3))
        rw [sets8 HF2.out.a rfl]
        refine ⟨⟨j + 1, HC.out, by go_num, rfl, ?_⟩, by simp [intOf]; have := HC.out; omega⟩
        have hE := HF2.out.next
        rw [HFs.out] at hE
        exact hE
    · have hjn : j = n := by omega
      subst hjn
      have hka := k8 (t := 41) HF.out.a
      have hkz := k8 (c := fun _ => 0) (t := 41) HF.out.z
      have hfz := f8 HF.out.z
      clear c hj
      go_wp2
      rw [sets8 HF.out.z rfl]
      refine bodyPost_ret (v := .tuple #[.agg (sv (fs g S j)), .int .i64 0]) ?_ rfl ⟨rfl, below_setRow HF.out.t (by omega) _⟩
      simp only [results, Tryd.results22, asAddr]
      simp [run_loadVar_row _ _ 41 41 _ (0, 0) _ (setRow_heap _ _ _ (sv (fs g S j)) 41 (0, 0) HF.out.z) Tryd.underlying41 rfl size35]
end Wp
end Go.Proofs.YtipnlcnikpngcaaDoor
