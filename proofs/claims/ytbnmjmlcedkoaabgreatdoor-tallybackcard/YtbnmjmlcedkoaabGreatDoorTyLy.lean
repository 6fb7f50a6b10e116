import Derived.Test.YtbnmjmlcedkoaabGreatDoorTyPs
import Derived.Laws.CopyOwn
namespace Go.Proofs.YtbnmjmlcedkoaabGreatDoor
namespace Ty
open Go.RowKit
set_option linter.unusedVariables false
theorem dv_size (T : List UInt8) : (dv T).size = T.length := by simp [dv]
theorem dv_one (T : List UInt8) : (dv T).all (·.oneCell') = true := by
  rw [Array.all_eq_true]
  intro i hi
  simp [dv]
  rfl
theorem info5' : (Tryz.prog.info? 5).map (·.size) = some 1 := by kernel_rfl
theorem copy_str (w : World) (T : List UInt8) (g off n cap : Nat) (c : List UInt8) (t : TypeId) (hg : w.heap[g]? = some (.cells (dv T) t (0, 0))) (hn : c.length ≤ n) (hfit : off + c.length ≤ T.length) (ty : TypeId) :
    (Builtin.copy_ #[72, 9] ty #[.slice (some ⟨g, off, none⟩) n cap, .string (bs c)]).run Tryz.prog w = .ok (goInt c.length) (w.setRow g (dv (T.take off ++ (c ++ T.drop (off + c.length))))) := by
  have hst := run_storeCells_at Tryz.prog g off t (c.map fun b => Value.int .u8 b.toNat) 0 (dv T) w hg (by simp [dv]; exact hfit) (fun v hv => by obtain ⟨b, -, rfl⟩ := List.mem_map.1 hv; rfl)
  have hmin : Nat.min c.length n = c.length := Nat.min_eq_left hn
  have he : (((dv T).toList.take (off + 0) ++ (c.map fun b => Value.int .u8 b.toNat) ++ (dv T).toList.drop (off + 0 + (c.map fun b => Value.int .u8 b.toNat).length)).toArray) = dv (T.take off ++ (c ++ T.drop (off + c.length))) := by
    simp [dv]
  rw [he] at hst
  have hs : (bs c).size = c.length := bs_size c
  cases hq : Tryz.prog.info? 5 with
  | none => have := info5' ; rw [hq] at this; cases this
  | some i =>
    have hx : (bs c).extract 0 c.length = bs c := by rw [bs_ext]; simp
    have hy : ((bs c).data.map fun b => Value.int .u8 b.toNat).toList = c.map fun b => Value.int .u8 b.toNat := by simp [bs]
    simp only [Builtin.copy_, List.getElem?_toArray, List.getElem?_cons_zero, List.getElem?_cons_succ, Sem.run_bind, run_underlying Tryz.underlying72, Result.andThen_ok, Builtin.lenOf, Builtin.firstCells, sizeOf, typeInfo, hs, hmin, hx, Sem.run_pure, hy]
    simp [hq, hst]
theorem z220_row (w : World) (g : Nat) (h : w.heap[g]? = some (.cells z220 56 (0, 0))) : w.rowIs g 56 220 (fun j => .int .u8 (if j < 0 then 48 else 0)) := ⟨_, h, by simp [z220], fun i hi => by simp [z220, hi]⟩
theorem row_zs {w : World} {g : Nat} (h : w.rowIs g 56 220 (fun j => .int .u8 (if j < 220 then 48 else 0))) : w.heap[g]? = some (.cells (dv (zs 220)) 56 (0, 0)) := by
  obtain ⟨c, hc, hs, hv⟩ := h
  rw [hc]
  have e : c = dv (zs 220) := by
    apply Array.ext_getElem?
    intro i
    by_cases hi : i < 220
    · rw [hv i hi]
      show some (Value.int .u8 (if i < 220 then 48 else 0)) = _
      have e2 : (zs 220)[i]? = some 48 := by rw [zs, List.getElem?_replicate, if_pos hi]
      rw [if_pos hi]
      simp [dv, e2]
    · rw [Array.getElem?_eq_none (by omega), Array.getElem?_eq_none (by rw [dv_size, zs_len]; omega)]
  rw [e]
/-- What the variables of lay hold behind k rounds. -/
def YM (w wr : World) (a b c d : Value) (k : Nat) : Prop :=
  Below w.heap.size w wr ∧ wr.heap[w.heap.size]? = some (.cells #[a, b, c, d] 52 (0, 0)) ∧ wr.rowIs (w.heap.size + 1) 56 220 (fun j => .int .u8 (if j < k then 48 else 0))
theorem ym_start (w : World) (a b c d : Value) : YM w ((w.alloc (.cells #[a, b, c, d] 52)).alloc (.cells Tryz.zeroCells56 56)) a b c d 0 := by
  rw [z220_eq]
  obtain ⟨h1, h2⟩ := heap_two w (.cells #[a, b, c, d] 52) (.cells z220 56)
  exact ⟨((Below.refl _ _).alloc (Nat.le_refl _) _).alloc (by simp) _, h1, z220_row _ _ h2⟩
theorem ym_step {w wr : World} {a b c d : Value} {k : Nat} (h : YM w wr a b c d k) (hk : k < 220) : YM w (wr.setCell ⟨w.heap.size + 1, k, none⟩ (.int .u8 48)) a b c d (k + 1) := by
  obtain ⟨b1, q0, r1⟩ := h
  refine ⟨b1.setCell (by show w.heap.size ≤ w.heap.size + 1; omega) _, ?_, (r1.set k _).congr (fun j hj => ?_)⟩
  · rw [Go.Deep.blk_setCell_other _ _ _ _ (by show w.heap.size ≠ w.heap.size + 1; omega)]; exact q0
  · by_cases e : j = k
    · subst e; simp
    · simp only [e, if_false]
      by_cases h : j < k
      · rw [if_pos h, if_pos (by omega)]
      · rw [if_neg h, if_neg (by omega)]
set_option maxRecDepth 8000 in
set_option maxHeartbeats 1600000 in
theorem lay_walk (neg : Bool) (all T : List UInt8) (p m : Nat) (hp : p + m = 71) (hT : T.length = 220) (ht : ∃ t, T = zs (p + (all.length - (Lib.trimLeftB all 48).length)) ++ core all ++ zs t ∧ 220 = p + (all.length - (Lib.trimLeftB all 48).length) + (core all).length + t) (ha : all.length ≤ 220) (w : World) :
    Calls Tryz.prog 23 #[.agg #[.bool neg, .string (bs all), .int .i64 m, .int .i64 0]] w fun e w' => e = .returned (.tuple #[.agg (dv T), .bool true]) ∧ Below w.heap.size w w' := by
  have h0 := ym_start w (.bool neg) (.string (bs all)) (.int .i64 m) (.int .i64 0)
  have HM0 : Hid (YM w ((w.alloc (.cells #[.bool neg, .string (bs all), .int .i64 m, .int .i64 0] 52)).alloc (.cells Tryz.zeroCells56 56)) (.bool neg) (.string (bs all)) (.int .i64 m) (.int .i64 0) 0) := h0
  clear h0
  have HT : Hid (∃ t, T = zs (p + (all.length - (Lib.trimLeftB all 48).length)) ++ core all ++ zs t ∧ 220 = p + (all.length - (Lib.trimLeftB all 48).length) + (core all).length + t) := ht
  clear ht
  go_enter Tryz.func23, Tryz.ntmps23
  go_wp2_with (fail)
  go_loopw [8, 4] (fun i _ wr => ∃ k : Nat, k ≤ 220 ∧ i = .int .i64 k ∧ YM w wr (.bool neg) (.string (bs all)) (.int .i64 m) (.int .i64 0) k) (fun i _ _ => 220 - (intOf i).toNat)
  case atStart => exact ⟨0, by omega, rfl, HM0.out⟩
  case round =>
    clear HM0
    obtain ⟨k, hk, rfl, hm⟩ := hrel
    have HM : Hid (YM w wr (.bool neg) (.string (bs all)) (.int .i64 m) (.int .i64 0) k) := hm
    clear hm
    by_cases hlt : k < 220
    · have c1 := HM.out.2.2.cell hlt
      have f1 := HM.out.2.2.frozen k
      rw [if_neg (by omega)] at c1
      have HS : Hid (YM w (wr.setCell ⟨w.heap.size + 1, k, none⟩ (.int .u8 48)) (.bool neg) (.string (bs all)) (.int .i64 m) (.int .i64 0) (k + 1)) := ym_step HM.out hlt
      clear HM
      go_wp2
      exact ⟨⟨k + 1, by omega, by go_num, HS.out⟩, by simp [intOf]; omega⟩
    · obtain rfl : k = 220 := by omega
      obtain ⟨b1, q0, r1⟩ := HM.out
      have q1 := row_zs r1
      clear r1 HM
      obtain ⟨cb, -⟩ := cell_of4 q0 1 (.string (bs all)) rfl
      obtain ⟨cc, -⟩ := cell_of4 q0 2 (.int .i64 m) rfl
      obtain ⟨cd, -⟩ := cell_of4 q0 3 (.int .i64 0) rfl
      have HL : Hid (∀ w, Calls Tryz.prog 31 #[.string (bs all), .string ⟨#[48]⟩] w fun e w' => e = .returned (.string (bs (Lib.trimLeftB all 48))) ∧ w' = w) := fun w => trimL all w
      have HR : Hid (∀ w, Calls Tryz.prog 32 #[.string (bs (Lib.trimLeftB all 48)), .string ⟨#[48]⟩] w fun e w' => e = .returned (.string (bs (core all))) ∧ w' = w) := fun w => trimR _ (by have := left_len all; omega) w
      have hll := left_len all
      have tl : (bs (core all)).toList = core all := bs_toList (core all)
      have za : (bs all).size = all.length := bs_size all
      have zl : (bs (Lib.trimLeftB all 48)).size = (Lib.trimLeftB all 48).length := bs_size _
      have zc : (bs (core all)).size = (core all).length := bs_size _
      obtain ⟨t, hTt, h220⟩ := HT.out
      clear HT
      by_cases hcore : core all = []
      · have hTz : T = zs 220 := by
          rw [hTt, hcore, List.append_nil, zs_add]
          congr 1
          rw [hcore] at h220; simp at h220; omega
        have tl2 : (bs (core all)).toList = [] := tl.trans hcore
        clear hcore tl
        have HTZ : Hid (T = zs 220) := hTz
        have hone := dv_one (zs 220)
        have hds : (dv (zs 220)).size = 220 := by rw [dv_size, zs_len]
        have hbel := below_setRow (w.heap.size + 1) (dv (zs 220)) b1 (by omega)
        have hld : (loadVar 56 ⟨w.heap.size + 1, 0, none⟩).run Tryz.prog (wr.setRow (w.heap.size + 1) (dv (zs 220))) = .ok (.agg (dv (zs 220))) (wr.setRow (w.heap.size + 1) (dv (zs 220))) :=
          run_loadVar_row _ _ 56 56 _ (0, 0) _ (setRow_heap wr (w.heap.size + 1) _ _ 56 (0, 0) q1) Tryz.underlying56 rfl (by rw [hds]; exact sizeDig)
        clear hTt h220 hTz zc za zl hll
        have HTD : Hid (dv T = dv (zs 220)) := by show _ = _; rw [HTZ.out]
        generalize dv (zs 220) = ds at *
        generalize bs (core all) = sc at *
        go_wp2_with (fail)
        refine (HL.out _).mono ?_
        rintro e1 w1 ⟨rfl, hw1⟩
        subst w1
        go_wp2_with (fail)
        refine (HR.out _).mono ?_
        rintro e2 w2 ⟨rfl, hw2⟩
        subst w2
        go_wp2_with (first
          | (refine wpList_load220 rfl _ rfl (w.heap.size + 1) ds rfl hds q1 ?_)
          | (refine wpList_store220 rfl _ _ rfl (w.heap.size + 1) ds ds rfl rfl hds hds hone q1 ?_))
        refine bodyPost_ret (v := .tuple #[.agg ds, .bool true]) ?_ rfl ⟨congrArg (fun x => Ending.returned (.tuple #[.agg x, .bool true])) HTD.out.symm, hbel⟩
        simp [results, Tryz.results23, asAddr, hld]
      · have tn : ¬ (bs (core all)).toList = [] := fun e => hcore (tl.symm.trans e)
        have tn1 : (bs (core all)).toList.isEmpty = false := by simpa using tn
        obtain ⟨first, hfirst⟩ : ∃ f : Nat, f = p + (all.length - (Lib.trimLeftB all 48).length) := ⟨_, rfl⟩
        rw [← hfirst] at hTt h220
        have hTd : T = (zs 220).take first ++ (core all ++ (zs 220).drop (first + (core all).length)) := by
          rw [hTt, ← List.append_assoc]
          congr 1
          · congr 1
            simp only [zs, List.take_replicate]
            congr 1; omega
          · simp only [zs, List.drop_replicate]
            congr 1; omega
        have HTD : Hid (dv T = dv ((zs 220).take first ++ (core all ++ (zs 220).drop (first + (core all).length)))) := by show _ = _; rw [← hTd]
        have hone := dv_one T
        have hds : (dv T).size = 220 := by rw [dv_size, hT]
        have hZ : (zs 220).length = 220 := zs_len 220
        have hdz : (dv (zs 220)).size = 220 := by rw [dv_size, zs_len]
        obtain ⟨V, hV, bV, qV⟩ : ∃ V, wr.setRow (w.heap.size + 1) (dv ((zs 220).take first ++ (core all ++ (zs 220).drop (first + (core all).length)))) = V ∧ Below w.heap.size w V ∧ V.heap[w.heap.size + 1]? = some (.cells (dv T) 56 (0, 0)) := by
          refine ⟨_, rfl, below_setRow _ _ b1 (by omega), ?_⟩
          rw [HTD.out]
          exact setRow_heap wr (w.heap.size + 1) _ _ 56 (0, 0) q1
        have hbel := below_setRow (w.heap.size + 1) (dv T) bV (by omega)
        have hld : (loadVar 56 ⟨w.heap.size + 1, 0, none⟩).run Tryz.prog (V.setRow (w.heap.size + 1) (dv T)) = .ok (.agg (dv T)) (V.setRow (w.heap.size + 1) (dv T)) :=
          run_loadVar_row _ _ 56 56 _ (0, 0) _ (setRow_heap V (w.heap.size + 1) _ _ 56 (0, 0) qV) Tryz.underlying56 rfl (by rw [hds]; exact sizeDig)
        have hfx : (71 : Int) - (m : Int) + (all.length : Int) - ((Lib.trimLeftB all 48).length : Int) = (first : Int) := by omega
        have HQ1 : Hid (wr.heap[w.heap.size + 1]? = some (.cells (dv (zs 220)) 56 (0, 0))) := q1
        have HV : Hid (wr.setRow (w.heap.size + 1) (dv ((zs 220).take first ++ (core all ++ (zs 220).drop (first + (core all).length)))) = V) := hV
        have hfit : first + (core all).length ≤ 220 := by omega
        have hf2 : (first : Int) + ((core all).length : Int) ≤ 220 := by omega
        have hf3 : (first : Int) ≤ 220 := by omega
        have HFT : Hid (first + (core all).length ≤ (zs 220).length ∧ (core all).length ≤ 220 - first) := by constructor <;> omega
        have hcl : 0 < (core all).length := List.length_pos_iff.2 hcore
        have hoc : ¬ 220 = first := by omega
        have hoc2 : ¬ first = 220 := by omega
        have hcp : (Builtin.copy_ #[72, 9] 3 #[.slice (some ⟨w.heap.size + 1, first, none⟩) (220 - first) (220 - first), .string (bs (core all))]).run Tryz.prog wr = .ok (goInt (core all).length) V := by
          have h := copy_str wr (zs 220) (w.heap.size + 1) first (220 - first) (220 - first) (core all) 56 HQ1.out HFT.out.2 HFT.out.1 3
          rw [HV.out] at h; exact h
        clear hV hTd hTt h220 hfirst hT tl hcore HTD q1 hdz hZ b1 hp hcl HV
        generalize hnA : all.length = nA at *
        generalize hnL : (Lib.trimLeftB all 48).length = nL at *
        go_wp2_with (fail)
        refine (HL.out _).mono ?_
        rintro e1 w1 ⟨rfl, hw1⟩
        subst w1
        go_wp2_with (fail)
        refine (HR.out _).mono ?_
        rintro e2 w2 ⟨rfl, hw2⟩
        subst w2
        go_wp2_with (first
          | (refine wpList_load220 rfl _ rfl (w.heap.size + 1) (dv T) rfl hds qV ?_)
          | (refine wpList_store220 rfl _ _ rfl (w.heap.size + 1) (dv T) (dv T) rfl rfl hds hds hone qV ?_))
        refine bodyPost_ret (v := .tuple #[.agg (dv T), .bool true]) ?_ rfl ⟨rfl, hbel⟩
        simp [results, Tryz.results23, asAddr, hld]
theorem lay_any (neg : Bool) (T : List UInt8) (hT : T.length = 220) (w : World) :
    Calls Tryz.prog 23 #[.agg #[.bool neg, .string (bs (tA T ++ tB T)), .int .i64 (tA T).length, .int .i64 0]] w fun e w' => e = .returned (.tuple #[.agg (dv T), .bool true]) ∧ Below w.heap.size w w' := by
  have h1 := tA_len T hT
  have h2 := tB_len T hT
  have h3 := t_split T hT
  obtain ⟨t, h4, h5⟩ := laid_split (tA T ++ tB T) (71 - (tA T).length) (149 - (tB T).length)
  rw [List.length_append] at h5
  refine lay_walk neg (tA T ++ tB T) T (71 - (tA T).length) (tA T).length (by omega) hT ⟨t, ?_, ?_⟩ (by rw [List.length_append]; omega) w
  · rw [← h4]; exact h3
  · rw [List.length_append]; omega
end Ty
end Go.Proofs.YtbnmjmlcedkoaabGreatDoor
