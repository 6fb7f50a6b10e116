import Derived.Test.YtcepfmeoeepjdaaAuP
namespace Go.Proofs.Ytcepfmeoeepjdaa
namespace Au
open Go.RowKit
set_option linter.unusedVariables false
set_option maxRecDepth 8000
theorem make_u32 (w : World) (n : Nat) (hn : n ≤ 1000000) : (Instr.makeSlice 32 (.int .u32 (n : Int)) (.int .u32 (n : Int))).run Try.prog w = .ok (.slice (some ⟨w.heap.size, 0, none⟩) n n) (w.alloc (.cells (madeCells #[.int .u64 0] n) 28)) := by
  have h := infoW
  cases hh : Try.prog.info? 28 with
  | none => rw [hh] at h; cases h
  | some i =>
    rw [hh] at h
    simp at h
    have hr := run_make (P := Try.prog) w 32 28 i (.int .u64 0) Try.underlying32 hh h.1 .u32 .u32 n n (by omega) (by omega) (by rw [h.2.2]; omega) (by omega)
    rw [h.2.1] at hr
    simp only [Int.toNat_natCast, Nat.mul_one] at hr
    rw [hr]
    rfl
theorem take_succ {L : List T3} {i : Nat} {e : T3} (h : L[i]? = some e) : L.take (i + 1) = L.take i ++ [e] := by rw [List.take_add_one, h]; rfl
set_option maxHeartbeats 4000000 in
theorem rwcc_any (n m c : Nat) (a : Option Addr) (L : List T3) (hm1 : m = L.length) (hn : n ≤ 5000) (hm : m ≤ 140737488351232) (w : World) (hE : Row3 .u32 w a L) (hI : ∀ e ∈ L, e.1 < n ∧ e.2.1 < n) :
    Calls Try.prog 17 #[.int .u32 (n : Int), .slice a m c] w fun e w' => e = .returned (.slice (some ⟨w.heap.size, 0, none⟩) n n) ∧ ∃ U ro, Fo n (prs L) U ro ∧ GU w' w.heap.size n ro ∧ Below w.heap.size w w' := by
  subst hm1
  have HE := hide hE
  have HI := hide hI
  have hmk := make_u32 w n (by omega)
  have HG0 := hide (GU.new w n)
  have HB0 : Hid (Below w.heap.size w (w.alloc (.cells (madeCells #[.int .u64 0] n) 28))) := b1 _ _ _
  generalize madeCells #[.int .u64 0] n = mc at *
  clear hE hI
  go_enter Try.func17, Try.ntmps17
  go_wp2_with (fail)
  clear hmk
  generalize w.alloc (.cells mc 28) = w0 at *
  go_loopw [6] (fun v wr => ∃ j : Nat, j ≤ n ∧ v = .int .i64 j ∧ Hid (GU wr w.heap.size n (fun v => if v < j then (v : Int) else 0)) ∧ Hid (Below w.heap.size w wr)) (fun v _ => n - (intOf v).toNat)
  case atStart => exact ⟨0, Nat.zero_le _, rfl, by simpa using HG0, HB0⟩
  case round =>
    clear HG0 HB0
    obtain ⟨j, hj, rfl, HG, HB⟩ := hrel
    by_cases cc : j < n
    · have hf := HG.out.fz j
      have hc := HG.out.cell j cc
      have hwj : IntKind.u64.wrap (j : Int) = j := wu _ (by omega) (by omega)
      have HG1 := hide (HG.out.set j (j : Int))
      have HG2 : Hid (GU (wr.setCell ⟨w.heap.size, j, none⟩ (.int .u64 (j : Int))) w.heap.size n (fun v => if v < j + 1 then (v : Int) else 0)) := HG1.out.1.ext (fun v hv => by
        by_cases e : v = j
        · subst e; rw [up_eq, if_pos (by omega)]
        · rw [up_ne _ _ _ _ e]
          by_cases e2 : v < j
          · rw [if_pos e2, if_pos (by omega)]
          · rw [if_neg e2, if_neg (by omega)])
      have HB2 : Hid (Below w.heap.size w (wr.setCell ⟨w.heap.size, j, none⟩ (.int .u64 (j : Int)))) := by
        obtain ⟨C1, h1⟩ := HG1.out.2
        show Below _ _ _
        rw [h1]
        exact below_setRow HB.out (Nat.le_refl _) _
      clear HG1
      go_wp2
      exact ⟨⟨j + 1, cc, by go_num, HG2, HB2⟩, by simp [intOf]; omega⟩
    · have hjn : n = j := by omega
      subst hjn
      have HG1 : Hid (GU wr w.heap.size n (fun v => (v : Int))) := HG.out.ext (fun v hv => if_pos hv)
      have HF1 : Hid (Fo n (prs (L.take 0)) (fun v => (v : Int)) (fun v => (v : Int))) := Fo.zero n _ (fun v hv => rfl)
      have HB1 := HB
      clear HG HB cc hj
      go_wp2_with (fail)
      go_loopw [7] (fun v wr => ∃ (i : Nat) (U ro : Nat → Int), i ≤ L.length ∧ v = .int .i64 i ∧ Hid (GU wr w.heap.size n U) ∧ Hid (Fo n (prs (L.take i)) U ro) ∧ Hid (Below w.heap.size w wr)) (fun v _ => L.length - (intOf v).toNat)
      case atStart => exact ⟨0, _, _, Nat.zero_le _, rfl, HG1, HF1, HB1⟩
      case round =>
        clear HG1 HF1 HB1
        obtain ⟨i, U, ro, hi, rfl, HG, HF, HB⟩ := hrel
        by_cases cc : i < L.length
        · obtain ⟨eb, rfl, heb, hce⟩ := HE.out (by omega)
          obtain ⟨⟨x, y, z⟩, hxyz⟩ : ∃ e, L[i]? = some e := ⟨L[i]'(by omega), List.getElem?_eq_getElem (by omega)⟩
          obtain ⟨hxn, hyn⟩ := HI.out _ (List.mem_of_getElem? hxyz)
          simp only at hxn hyn
          obtain ⟨c1, c2, _⟩ := cells3 (hce i _ hxyz)
          simp only at c1 c2
          have d1 := (HB.out.cell (p := eb.add (i * 3)) (by rw [add_block]; exact heb)).trans c1
          have HC2 := hide c2
          have HEB := hide heb
          have hwx : IntKind.u64.wrap (x : Int) = x := wu _ (by omega) (by omega)
          have hwy : IntKind.u64.wrap (y : Int) = y := wu _ (by omega) (by omega)
          have HTk : Hid (prs (L.take (i + 1)) = prs (L.take i) ++ [(x, y)]) := by
            show _ = _
            rw [take_succ hxyz, prs_app]
          have HX := hide hxn
          have HY := hide hyn
          have HCC := hide cc
          have HR1 := hide (root54 n n w.heap.size (prs (L.take i)) U ro (Nat.le_refl _) (by omega) x hxn wr HG.out HF.out)
          have HZ := hide HG.out.lt
          clear c1 c2 hce heb hxyz hi
          go_wp2_with (fail)
          refine HR1.out.mono ?_
          rintro e1 w1 ⟨rfl, U1, hG1, hF1, _, _, hT1⟩
          have HG1 := hide hG1
          have HF1 := hide hF1
          have HB1 : Hid (Below w.heap.size w w1) := HB.out.trans (hT1.below (fun k hk h => by omega) (Nat.le_of_lt HZ.out))
          have HZ1 := hide hG1.lt
          have d2 := (HB1.out.cell (p := ⟨(eb.add (i * 3)).block, (eb.add (i * 3)).off + 1, none⟩) (by rw [show (⟨(eb.add (i * 3)).block, (eb.add (i * 3)).off + 1, none⟩ : Addr).block = eb.block from add_block _ _]; exact HEB.out)).trans HC2.out
          have HR2 := hide (root54 n n w.heap.size (prs (L.take i)) U1 ro (Nat.le_refl _) (by omega) y hyn w1 hG1 hF1)
          clear hG1 hF1 hT1 HR1 d1 HG HF
          go_wp2_with (fail)
          refine HR2.out.mono ?_
          rintro e2 w2 ⟨rfl, U2, hG2, hF2, _, _, hT2⟩
          have HG2 := hide hG2
          have HF2 := hide hF2
          have HB2 : Hid (Below w.heap.size w w2) := HB1.out.trans (hT2.below (fun k hk h => by omega) (Nat.le_of_lt HZ1.out))
          clear hG2 hF2 hT2 HR2 d2 HG1 HF1
          have hrx := HF2.out.r x hxn
          have hry := HF2.out.r y hyn
          obtain ⟨p, hp⟩ : ∃ p : Nat, ro x = p := ⟨(ro x).toNat, by omega⟩
          obtain ⟨q, hq⟩ : ∃ q : Nat, ro y = q := ⟨(ro y).toNat, by omega⟩
          have hpn : p < n := by omega
          have hqn : q < n := by omega
          rw [hp, hq]
          by_cases hlt : p < q
          · have HFn : Hid (Fo n (prs (L.take (i + 1))) (up U2 q (p : Int)) (mg ro (p : Int) (q : Int))) := by
              show Fo n (prs (L.take (i + 1))) (up U2 q (p : Int)) (mg ro (p : Int) (q : Int))
              have := HF2.out.join x y hxn hyn (by omega)
              rw [hp, hq] at this
              rw [HTk.out]; simpa using this
            have hf := HG2.out.fz q
            have hc := HG2.out.cell q hqn
            have HG3 := hide (HG2.out.set q (p : Int))
            have HB3 : Hid (Below w.heap.size w (w2.setCell ⟨w.heap.size, q, none⟩ (.int .u64 (p : Int)))) := by
              obtain ⟨C1, h1⟩ := HG3.out.2
              show Below _ _ _
              rw [h1]
              exact below_setRow HB2.out (Nat.le_refl _) _
            have hl : decide ((p : Int) < (q : Int)) = true := by simp; omega
            clear hp hq hrx hry HTk
            go_wp2
            all_goals exact ⟨⟨i + 1, _, _, cc, by go_num, HG3.out.1, HFn, HB3⟩, by simp [intOf]; omega⟩
          · have hf := HG2.out.fz p
            have hc := HG2.out.cell p hpn
            have HG3 := hide (HG2.out.set p (q : Int))
            have HB3 : Hid (Below w.heap.size w (w2.setCell ⟨w.heap.size, p, none⟩ (.int .u64 (q : Int)))) := by
              obtain ⟨C1, h1⟩ := HG3.out.2
              show Below _ _ _
              rw [h1]
              exact below_setRow HB2.out (Nat.le_refl _) _
            have hl : decide ((p : Int) < (q : Int)) = false := by simp; omega
            have HEx : Hid (∃ r', Fo n (prs (L.take (i + 1))) (up U2 p (q : Int)) r') := by
              show ∃ r', Fo n (prs (L.take (i + 1))) (up U2 p (q : Int)) r'
              rw [HTk.out]
              by_cases e : q < p
              · have h9 := (HF2.out.join y x hyn hxn (by omega)).swap
                rw [hp, hq] at h9
                exact ⟨mg ro (q : Int) (p : Int), by simpa using h9⟩
              · have e2 : p = q := by omega
                subst e2
                have h9 := HF2.out.stay x y hxn (by omega)
                rw [hp] at h9
                exact ⟨ro, by simpa using h9⟩
            obtain ⟨r', hFn⟩ := HEx.out
            have HFn := hide hFn
            clear hp hq hrx hry HTk HEx hFn
            go_wp2
            all_goals exact ⟨⟨i + 1, _, r', cc, by go_num, HG3.out.1, HFn, HB3⟩, by simp [intOf]; omega⟩
        · have him : i = L.length := by omega
          subst him
          have hLm : L.take L.length = L := List.take_length
          rw [hLm] at HF
          have HU := hide HF.out
          have HG1 := HG
          have HF1 := HF
          have HB1 := HB
          clear HG HF HB cc hi hLm
          go_wp2_with (fail)
          go_loopw [10] (fun v wr => ∃ (j : Nat) (V : Nat → Int), j ≤ n ∧ v = .int .i64 j ∧ Hid (GU wr w.heap.size n V) ∧ Hid (Fo n (prs L) V ro) ∧ Hid (∀ v, v < j → V v = ro v) ∧ Hid (Below w.heap.size w wr)) (fun v _ => n - (intOf v).toNat)
          case atStart => exact ⟨0, _, Nat.zero_le _, rfl, HG1, HF1, fun v hv => by omega, HB1⟩
          case round =>
            clear HG1 HF1 HB1
            obtain ⟨j, V, hj, rfl, HG, HF, HV, HB⟩ := hrel
            by_cases cc : j < n
            · have hwj : IntKind.u64.wrap (j : Int) = j := wu _ (by omega) (by omega)
              have HR1 := hide (root54 n n w.heap.size (prs L) V ro (Nat.le_refl _) (by omega) j cc wr HG.out HF.out)
              have HZ := hide HG.out.lt
              go_wp2_with (fail)
              refine HR1.out.mono ?_
              rintro e1 w1 ⟨rfl, U1, hG1, hF1, hS1, _, hT1⟩
              have HG2 := hide (hG1.set j (ro j))
              have HF2 := hide (hF1.flat j cc)
              have HV2 : Hid (∀ v, v < j + 1 → up U1 j (ro j) v = ro v) := fun v hv => by
                by_cases e : v = j
                · subst e; exact up_eq _ _ _
                · rw [up_ne _ _ _ _ e]; exact hS1 v (by omega) (HV.out v (by omega))
              have hf := hG1.fz j
              have hc := hG1.cell j cc
              have HB2 : Hid (Below w.heap.size w (w1.setCell ⟨w.heap.size, j, none⟩ (.int .u64 (ro j)))) := by
                obtain ⟨C1, h1⟩ := HG2.out.2
                show Below _ _ _
                rw [h1]
                exact below_setRow (HB.out.trans (hT1.below (fun k hk h => by omega) (Nat.le_of_lt HZ.out))) (Nat.le_refl _) _
              clear hG1 hF1 hS1 hT1 HR1 HG HF HV
              go_wp2
              all_goals exact ⟨⟨j + 1, _, cc, by go_num, HG2.out.1, HF2, HV2, HB2⟩, by simp [intOf]; omega⟩
            · have hjn : n = j := by omega
              subst hjn
              have HGf : Hid (GU wr w.heap.size n ro) := HG.out.ext (fun v hv => HV.out v hv)
              clear cc hj HG HF HV
              go_wp2
              all_goals go_ret
              all_goals exact ⟨rfl, _, ro, HU.out, HGf.out, HB.out⟩
end Au
end Go.Proofs.Ytcepfmeoeepjdaa
