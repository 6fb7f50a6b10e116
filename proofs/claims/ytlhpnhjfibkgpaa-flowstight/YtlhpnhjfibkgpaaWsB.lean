import Derived.Test.YtlhpnhjfibkgpaaWsA
namespace Go.Proofs.Ytlhpnhjfibkgpaa
namespace Wp
open Go.RowKit
set_option linter.unusedVariables false
set_option maxRecDepth 8000
theorem infoW : (Try.prog.info? 33).map (fun i => (i.zero, i.size, i.bytes)) = some (some (.int .u64 0), 1, 8) := by kernel_rfl
theorem make_word (w : World) (n : Nat) (hn : n ≤ 1000000) : (Instr.makeSlice 49 (.int .u32 (n : Int)) (.int .u32 (n : Int))).run Try.prog w = .ok (.slice (some ⟨w.heap.size, 0, none⟩) n n) (w.alloc (.cells (madeCells #[.int .u64 0] n) 33)) := by
  have h := infoW
  cases hh : Try.prog.info? 33 with
  | none => rw [hh] at h; cases h
  | some i =>
    rw [hh] at h
    simp at h
    have hr := run_make (P := Try.prog) w 49 33 i (.int .u64 0) Try.underlying49 hh h.1 .u32 .u32 n n (by omega) (by omega) (by rw [h.2.2]; omega) (by omega)
    rw [h.2.1] at hr
    simp only [Int.toNat_natCast, Nat.mul_one] at hr
    rw [hr]
    rfl
theorem GU.new (w : World) (n : Nat) : GU (w.alloc (.cells (madeCells #[.int .u64 0] n) 33)) w.heap.size n (fun _ => 0) := by
  refine ⟨_, at0 _ _, fun j hj => ?_⟩
  simp [madeCells, hj, Nat.mod_one]
theorem Fo.zero (n : Nat) (F : Nat → Int) : Fo n F (fun v => (v : Int)) (fun v => (v : Int)) :=
  ⟨fun v hv => ⟨by omega, by omega⟩, fun v hv => ⟨by omega, by omega⟩, fun v hv h => rfl, fun v hv => by simp, fun v hv => by simp, fun v hv => by simp⟩
/-- Edges that are within one tree. -/
def Je (E : Nat → Int × Int × Int) (ro : Nat → Int) (i : Nat) : Prop := ∀ j, j < i → ro (E j).1.toNat = ro (E j).2.1.toNat
theorem fo_end {n m : Nat} {E : Nat → Int × Int × Int} {F U ro : Nat → Int} (hI : EIn n m E) (hW : Wcc n m E F) (h : Fo n F U ro) (hJ : Je E ro m) (v : Nat) (hv : v < n) : ro v = F v := by
  have h1 := hW.f (fun x => ro x.toNat) (fun u v ⟨j, hj, ha⟩ => by
    have := hJ j hj
    rcases ha with ⟨a, b⟩ | ⟨a, b⟩
    · rw [a, b] at this; simpa using this
    · rw [a, b] at this; simpa using this.symm) v hv
  have h1' : ro (F v).toNat = ro v := by simpa using h1
  have hb := hW.b v hv
  have h2 := (h.r (F v).toNat (by omega)).2
  have hr := h.r v hv
  have h3 := h.f v hv
  have h4 := (hW.b (ro v).toNat (by omega)).2
  omega
set_option maxHeartbeats 4000000 in
theorem rwcc_any (n m c : Nat) (a : Option Addr) (E : Nat → Int × Int × Int) (F : Nat → Int) (hn : n ≤ 400) (hm : m ≤ 140737488351232) (w : World) (hE : ERow w a m E) (hI : EIn n m E) (hW : Wcc n m E F) :
    Calls Try.prog 15 #[.int .u32 (n : Int), .slice a m c] w fun e w' => e = .returned (.slice (some ⟨w.heap.size, 0, none⟩) n n) ∧ GU w' w.heap.size n F ∧ Below w.heap.size w w' := by
  have HE := hide hE
  have HI := hide hI
  have HW := hide hW
  have hmk := make_word w n (by omega)
  have HG0 := hide (GU.new w n)
  have HB0 : Hid (Below w.heap.size w (w.alloc (.cells (madeCells #[.int .u64 0] n) 33))) := b1 _ _ _
  generalize madeCells #[.int .u64 0] n = mc at *
  clear hE hI hW
  go_enter Try.func15, Try.ntmps15
  go_wp2_with (fail)
  clear hmk
  generalize w.alloc (.cells mc 33) = w0 at *
  go_loopw [6] (fun v wr => ∃ j : Nat, j ≤ n ∧ v = .int .i64 j ∧ Hid (GU wr w.heap.size n (fun v => if v < j then (v : Int) else 0)) ∧ Hid (Below w.heap.size w wr)) (fun v _ => n - (intOf v).toNat)
  case atStart => exact ⟨0, Nat.zero_le _, rfl, by simpa using HG0, HB0⟩
  case round =>
    clear HG0 HB0
    obtain ⟨j, hj, rfl, HG, HB⟩ := hrel
    by_cases cc : j < n
    · have hf := HG.out.fz j
      have hc := HG.out.cell j cc
      have hwj : IntKind.u64.wrap (j : Int) = j := wu _ (by omega) (by omega)
      have HG1 := hide (HG.out.set j (j : Int))
      have HG2 : Hid (GU (wr.setCell ⟨w.heap.size, j, none⟩ (.int .u64 (j : Int))) w.heap.size n (fun v => if v < j + 1 then (v : Int) else 0)) := HG1.out.1.ext (fun v hv => by
        by_cases e : v = j
        · subst e; rw [up_eq, if_pos (by omega)]
        · rw [up_ne _ _ _ _ e]
          by_cases e2 : v < j
          · rw [if_pos e2, if_pos (by omega)]
          · rw [if_neg e2, if_neg (by omega)])
      have HB2 : Hid (Below w.heap.size w (wr.setCell ⟨w.heap.size, j, none⟩ (.int .u64 (j : Int)))) := by
        obtain ⟨C1, h1⟩ := HG1.out.2
        show Below _ _ _
        rw [h1]
        exact below_setRow HB.out (Nat.le_refl _) _
      clear HG1
      go_wp2
      exact ⟨⟨j + 1, cc, by go_num, HG2, HB2⟩, by simp [intOf]; omega⟩
    · have hjn : n = j := by omega
      subst hjn
      have HG1 : Hid (GU wr w.heap.size n (fun v => (v : Int))) := HG.out.ext (fun v hv => if_pos hv)
      have HF1 : Hid (Fo n F (fun v => (v : Int)) (fun v => (v : Int))) := Fo.zero n F
      have HB1 := HB
      clear HG HB cc hj
      go_wp2_with (fail)
      go_loopw [7] (fun v wr => ∃ (i : Nat) (U ro : Nat → Int), i ≤ m ∧ v = .int .i64 i ∧ Hid (GU wr w.heap.size n U) ∧ Hid (Fo n F U ro) ∧ Hid (Je E ro i) ∧ Hid (Below w.heap.size w wr)) (fun v _ => m - (intOf v).toNat)
      case atStart => exact ⟨0, _, _, Nat.zero_le _, rfl, HG1, HF1, fun j hj => by omega, HB1⟩
      case round =>
        clear HG1 HF1 HB1
        obtain ⟨i, U, ro, hi, rfl, HG, HF, HJ, HB⟩ := hrel
        by_cases cc : i < m
        · obtain ⟨eb, rfl, heb, hce⟩ := HE.out (by omega)
          obtain ⟨x, y, hx, hy, hxn, hyn⟩ := HI.out i cc
          obtain ⟨c1, c2, _⟩ := hce i cc
          rw [hx] at c1
          rw [hy] at c2
          have d1 := (HB.out.cell heb).trans c1
          have HC2 := hide c2
          have HEB := hide heb
          have hwx : IntKind.u64.wrap (x : Int) = x := wu _ (by omega) (by omega)
          have hwy : IntKind.u64.wrap (y : Int) = y := wu _ (by omega) (by omega)
          have HFe : Hid (F x = F y) := HW.out.e x y ⟨i, cc, Or.inl ⟨hx, hy⟩⟩
          have HJe : Hid (∀ r' : Nat → Int, Je E r' i → r' x = r' y → Je E r' (i + 1)) := fun r' h1 h2 j hj => by
            by_cases e : j < i
            · exact h1 j e
            · rw [show j = i by omega, hx, hy]; simpa using h2
          have HX := hide hxn
          have HY := hide hyn
          have HCC := hide cc
          have HR1 := hide (root_any n w.heap.size F U ro (by omega) x hxn wr HG.out HF.out)
          have HZ := hide HG.out.lt
          clear c1 c2 hce heb hx hy hi
          go_wp2_with (fail)
          refine HR1.out.mono ?_
          rintro e1 w1 ⟨rfl, U1, hG1, hF1, _, hT1⟩
          have HG1 := hide hG1
          have HF1 := hide hF1
          have HB1 : Hid (Below w.heap.size w w1) := HB.out.trans (hT1.below (Nat.le_refl _) (Nat.le_refl _) (Nat.le_of_lt HZ.out))
          have HZ1 := hide hG1.lt
          have d2 := (HB1.out.cell HEB.out).trans HC2.out
          have HR2 := hide (root_any n w.heap.size F U1 ro (by omega) y hyn w1 hG1 hF1)
          clear hG1 hF1 hT1 HR1 d1 HG HF
          go_wp2_with (fail)
          refine HR2.out.mono ?_
          rintro e2 w2 ⟨rfl, U2, hG2, hF2, _, hT2⟩
          have HG2 := hide hG2
          have HF2 := hide hF2
          have HB2 : Hid (Below w.heap.size w w2) := HB1.out.trans (hT2.below (Nat.le_refl _) (Nat.le_refl _) (Nat.le_of_lt HZ1.out))
          clear hG2 hF2 hT2 HR2 d2 HG1 HF1
          have hrx := HF2.out.r x hxn
          have hry := HF2.out.r y hyn
          obtain ⟨p, hp⟩ : ∃ p : Nat, ro x = p := ⟨(ro x).toNat, by omega⟩
          obtain ⟨q, hq⟩ : ∃ q : Nat, ro y = q := ⟨(ro y).toNat, by omega⟩
          have hpn : p < n := by omega
          have hqn : q < n := by omega
          rw [hp, hq]
          by_cases hlt : p < q
          · have HFn : Hid (Fo n F (up U2 q (p : Int)) (mg ro (p : Int) (q : Int))) := by
              show Fo n F (up U2 q (p : Int)) (mg ro (p : Int) (q : Int))
              have := HF2.out.join x y hxn hyn (by omega) HFe.out
              rw [hp, hq] at this; simpa using this
            have HJn : Hid (Je E (mg ro (p : Int) (q : Int)) (i + 1)) := HJe.out _ (fun j hj => by unfold mg; rw [HJ.out j hj]) (by unfold mg; rw [hp, hq, if_neg (by omega), if_pos rfl])
            have hf := HG2.out.fz q
            have hc := HG2.out.cell q hqn
            have HG3 := hide (HG2.out.set q (p : Int))
            have HB3 : Hid (Below w.heap.size w (w2.setCell ⟨w.heap.size, q, none⟩ (.int .u64 (p : Int)))) := by
              obtain ⟨C1, h1⟩ := HG3.out.2
              show Below _ _ _
              rw [h1]
              exact below_setRow HB2.out (Nat.le_refl _) _
            have hl : decide ((p : Int) < (q : Int)) = true := by simp; omega
            clear hp hq hrx hry HJ
            go_wp2
            all_goals exact ⟨⟨i + 1, _, _, cc, by go_num, HG3.out.1, HFn, HJn, HB3⟩, by simp [intOf]; omega⟩
          · have hf := HG2.out.fz p
            have hc := HG2.out.cell p hpn
            have HG3 := hide (HG2.out.set p (q : Int))
            have HB3 : Hid (Below w.heap.size w (w2.setCell ⟨w.heap.size, p, none⟩ (.int .u64 (q : Int)))) := by
              obtain ⟨C1, h1⟩ := HG3.out.2
              show Below _ _ _
              rw [h1]
              exact below_setRow HB2.out (Nat.le_refl _) _
            have hl : decide ((p : Int) < (q : Int)) = false := by simp; omega
            have HEx : Hid (∃ r', Fo n F (up U2 p (q : Int)) r' ∧ Je E r' (i + 1)) := by
              by_cases e : q < p
              · have h9 := HF2.out.join y x hyn hxn (by omega) HFe.out.symm
                rw [hp, hq] at h9
                exact ⟨mg ro (q : Int) (p : Int), by simpa using h9, HJe.out _ (fun j hj => by unfold mg; rw [HJ.out j hj]) (by unfold mg; rw [hp, hq, if_pos rfl, if_neg (by omega)])⟩
              · have e2 : p = q := by omega
                subst e2
                have h9 := HF2.out.stay x hxn
                rw [hp] at h9
                simp only [Int.toNat_natCast] at h9
                exact ⟨ro, by rw [h9]; exact HF2.out, HJe.out _ HJ.out (by rw [hp, hq])⟩
            obtain ⟨r', hFn, hJn⟩ := HEx.out
            have HFn := hide hFn
            have HJn := hide hJn
            clear hp hq hrx hry HJ HEx hFn hJn
            go_wp2
            all_goals exact ⟨⟨i + 1, _, r', cc, by go_num, HG3.out.1, HFn, HJn, HB3⟩, by simp [intOf]; omega⟩
        · have him : m = i := by omega
          subst him
          have HRf : Hid (∀ v, v < n → ro v = F v) := fun v hv => fo_end HI.out HW.out HF.out HJ.out v hv
          have HG1 := HG
          have HF1 := HF
          have HB1 := HB
          clear HG HF HB HJ cc hi
          go_wp2_with (fail)
          go_loopw [10] (fun v wr => ∃ (j : Nat) (V : Nat → Int), j ≤ n ∧ v = .int .i64 j ∧ Hid (GU wr w.heap.size n V) ∧ Hid (Fo n F V ro) ∧ Hid (∀ v, v < j → V v = ro v) ∧ Hid (Below w.heap.size w wr)) (fun v _ => n - (intOf v).toNat)
          case atStart => exact ⟨0, _, Nat.zero_le _, rfl, HG1, HF1, fun v hv => by omega, HB1⟩
          case round =>
            clear HG1 HF1 HB1
            obtain ⟨j, V, hj, rfl, HG, HF, HV, HB⟩ := hrel
            by_cases cc : j < n
            · have hwj : IntKind.u64.wrap (j : Int) = j := wu _ (by omega) (by omega)
              have HR1 := hide (root_any n w.heap.size F V ro (by omega) j cc wr HG.out HF.out)
              have HZ := hide HG.out.lt
              go_wp2_with (fail)
              refine HR1.out.mono ?_
              rintro e1 w1 ⟨rfl, U1, hG1, hF1, hS1, hT1⟩
              have HG2 := hide (hG1.set j (ro j))
              have HF2 := hide (hF1.flat j cc)
              have HV2 : Hid (∀ v, v < j + 1 → up U1 j (ro j) v = ro v) := fun v hv => by
                by_cases e : v = j
                · subst e; exact up_eq _ _ _
                · rw [up_ne _ _ _ _ e]; exact hS1 v (by omega) (HV.out v (by omega))
              have hf := hG1.fz j
              have hc := hG1.cell j cc
              have HB2 : Hid (Below w.heap.size w (w1.setCell ⟨w.heap.size, j, none⟩ (.int .u64 (ro j)))) := by
                obtain ⟨C1, h1⟩ := HG2.out.2
                show Below _ _ _
                rw [h1]
                exact below_setRow (HB.out.trans (hT1.below (Nat.le_refl _) (Nat.le_refl _) (Nat.le_of_lt HZ.out))) (Nat.le_refl _) _
              clear hG1 hF1 hS1 hT1 HR1 HG HF HV
              go_wp2
              all_goals exact ⟨⟨j + 1, _, cc, by go_num, HG2.out.1, HF2, HV2, HB2⟩, by simp [intOf]; omega⟩
            · have hjn : n = j := by omega
              subst hjn
              have HGf : Hid (GU wr w.heap.size n F) := HG.out.ext (fun v hv => by rw [HV.out v hv, HRf.out v hv])
              clear cc hj HG HF HV
              go_wp2
              all_goals go_ret
              all_goals exact ⟨rfl, HGf.out, HB.out⟩
end Wp
end Go.Proofs.Ytlhpnhjfibkgpaa
