import Derived.Test.YtbnmjmlcedkoaabGreatDoorTyTz
import Derived.Test.YtbnmjmlcedkoaabGreatDoorTyTo
import Derived.Test.YtbnmjmlcedkoaabGreatDoorTyTn
namespace Go.Proofs.YtbnmjmlcedkoaabGreatDoor
namespace Ty
open Go.RowKit
set_option linter.unusedVariables false
/-- The text of a sum. -/
def tS (S : Int) : List UInt8 := if S < 0 then 45 :: tU (dL (ab S)) else tU (dL (ab S))
def xH (N : Int) : List Int := (List.range 71).map fun j => dgt N j
def xT (N : Int) : List Int := (List.range 149).map fun j => dgt N (71 + j)
theorem xH_get (N : Int) (i : Nat) (h : i < 71) : (xH N).getD i 0 = dgt N i := by simp [xH, List.getD, h]
theorem xT_get (N : Int) (i : Nat) (h : i < 149) : (xT N).getD i 0 = dgt N (71 + i) := by simp [xT, List.getD, h]
theorem xH_str (N : Int) : strOfNums (xH N) = bs ((dL N).take 71) := by
  apply ba_ext2
  rw [strOfNums_data, bs_data]
  apply List.ext_getElem?
  intro i
  by_cases h : i < 71
  · simp [xH, dL, h]
  · simp [xH, dL, h]
theorem xT_str (N : Int) : strOfNums (xT N) = bs ((dL N).drop 71) := by
  apply ba_ext2
  rw [strOfNums_data, bs_data]
  apply List.ext_getElem?
  intro i
  by_cases h : i < 149
  · simp [xT, dL, h]
  · simp [xT, dL, h]
theorem ab_c (S : Int) (h : Sg S) : 0 ≤ ab S ∧ ab S ≤ 2 ^ 383 ∧ ab S < 2 ^ (64 * 6) := by
  have h1 : (2 : Int) ^ (64 * 6) = 2 * 2 ^ 383 := p384
  have h2 := pw 383
  unfold Sg at h
  unfold ab
  rw [h1]
  split <;> omega
theorem cat_bs (a b : List UInt8) : bs a ++ bs b = bs (a ++ b) := by
  apply ba_ext2
  simp [bs_data]
/-- The text of two trimmed pieces. -/
def jn (neg : Bool) (a b : List UInt8) : List UInt8 := (if neg then [45] else []) ++ ((if a = [] then [48] else a) ++ (if b = [] then [] else 46 :: b))
theorem jn_tS (S : Int) : jn (decide (S < 0)) (Lib.trimLeftB ((dL (ab S)).take 71) 48) (tB (dL (ab S))) = tS S := by
  unfold jn tS tU tA
  by_cases h1 : S < 0 <;> by_cases h2 : tB (dL (ab S)) = [] <;> simp [h1, h2]
set_option maxRecDepth 8000 in
set_option maxHeartbeats 3200000 in
theorem text_walk (S : Int) (h : Sg S) (neg : Bool) (hneg : neg = decide (S < 0)) (a b : List UInt8) (ha : a = Lib.trimLeftB ((dL (ab S)).take 71) 48) (hb : b = Lib.trimRightB ((dL (ab S)).drop 71) 48) (w : World) : Calls Tryz.prog 7 #[.agg (sm S)] w fun e w' => e = .returned (.string (bs (jn neg a b))) ∧ Below w.heap.size w w' := by
  obtain ⟨h4, h6, h5⟩ := ab_c S h
  have hlL : ((dL (ab S)).drop 71).length ≤ 9223372036854775807 := by rw [List.length_drop, dL_len]; omega
  have za : (bs a).size ≤ 71 := by
    rw [bs_size, ha]
    have := left_len ((dL (ab S)).take 71)
    rw [List.length_take, dL_len] at this; omega
  have zb : (bs b).size ≤ 149 := by
    rw [bs_size, hb]
    have := right_len ((dL (ab S)).drop 71)
    rw [List.length_drop, dL_len] at this; omega
  generalize hN : ab S = N at *
  have HZ : Hid (∀ w, Calls Tryz.prog 29 #[.agg (sm S)] w fun e w' => e = .returned (.agg (sm N)) ∧ Below w.heap.size w w') := fun w => by
    have h := sizeof_any S h w
    rw [hN] at h; exact h
  have HD : Hid (∀ w, Calls Tryz.prog 30 #[.agg (sm N)] w fun e w' => e = .returned (.agg (dgs N)) ∧ Below w.heap.size w w') := fun w => digits_any N h4 h5 w
  obtain ⟨sg, hsg, hsn⟩ : ∃ sg : Int, sgn S = sg ∧ (neg = true ↔ sg < 0) := by
    refine ⟨_, rfl, ?_⟩
    rw [hneg]; unfold sgn
    split
    · simp [*]
    · split <;> simp [*]
  have HS : Hid (∀ w, Calls Tryz.prog 33 #[.agg (sm S)] w fun e w' => e = .returned (.int .i64 sg) ∧ Below w.heap.size w w') := fun w => by
    have h := sign_any S h w
    rw [hsg] at h; exact h
  have hsa : (sm S).size = 6 := rfl
  have HR : Hid (∀ (W : World) (g : Nat), W.heap[g]? = some (.cells (dgs N) 56 (0, 0)) → (∀ i, i < 71 → W.cell? ⟨g, 0 + i, none⟩ = some (.int .u8 ((xH N).getD i 0))) ∧ ∀ i, i < 149 → W.cell? ⟨g, 71 + i, none⟩ = some (.int .u8 ((xT N).getD i 0))) := fun W g hg => by
    have hr : W.rowIs g 56 220 (fun i => .int .u8 (dgt N i)) := ⟨_, hg, dgs_size N, fun i hi => dgs_get N i hi⟩
    refine ⟨fun i hi => ?_, fun i hi => ?_⟩
    · rw [hr.cell (show 0 + i < 220 by omega), xH_get N i hi, Nat.zero_add]
    · rw [hr.cell (show 71 + i < 220 by omega), xT_get N i hi]
  have hds := dgs_size N
  have hone := dgs_one N
  obtain ⟨v, hv, hvb, hvs, hv0⟩ : ∃ v, w.alloc (.cells (sm S) 25) = v ∧ Below w.heap.size w v ∧ v.heap.size = w.heap.size + 1 ∧ v.heap[w.heap.size]? = some (.cells (sm S) 25 (0, 0)) := ⟨_, rfl, (Below.refl _ _).alloc (Nat.le_refl _) _, by simp, heap_alloc_last w _⟩
  generalize hca : sm S = ca at *
  generalize hdg : dgs N = ds at *
  clear hca hdg h hsg hneg hN h4 h5 h6
  go_enter Tryz.func7, Tryz.ntmps7
  go_wp2_with (refine wpList_load6 25 _ Tryz.underlying25 sizeSum rfl _ rfl w.heap.size ca rfl hsa hv0 ?_)
  clear hv
  refine (HZ.out _).mono ?_
  rintro e1 w1 ⟨rfl, hw1⟩
  have b1 := below_chain hvb hw1 (Nat.le_refl _)
  have q1 := (hw1.block _ (by omega)).trans hv0
  have s1 : w.heap.size + 1 ≤ w1.heap.size := by have := hw1.size; omega
  clear hvb hw1 hv0 hvs HZ
  go_wp2_with (fail)
  refine (HD.out _).mono ?_
  rintro e2 w2 ⟨rfl, hw2⟩
  have b2 := below_chain b1 hw2 (Nat.le_refl _)
  have q2 := (hw2.block _ (by omega)).trans q1
  have s2 : w.heap.size + 1 ≤ w2.heap.size := by have := hw2.size; omega
  clear b1 hw2 q1 s1 HD
  have hz0 : (w2.alloc (.cells Tryz.zeroCells56 56)).heap[w2.heap.size]? = some (.cells z220 56 (0, 0)) := by rw [z220_eq]; exact heap_alloc_last w2 _
  obtain ⟨V, hV, hVb, hVs, hV0⟩ : ∃ V, (w2.alloc (.cells Tryz.zeroCells56 56)).setRow w2.heap.size ds = V ∧ Below w.heap.size w V ∧ V.heap.size = w2.heap.size + 1 ∧ V.heap[w2.heap.size]? = some (.cells ds 56 (0, 0)) :=
    ⟨_, rfl, below_setRow _ _ (b2.alloc (by omega) _) (by omega), by simp, setRow_heap _ w2.heap.size _ _ 56 (0, 0) hz0⟩
  have qV : V.heap[w.heap.size]? = some (.cells ca 25 (0, 0)) := by
    rw [← hV, setRow_other _ _ _ _ (by omega), blk_alloc _ _ _ (by omega)]; exact q2
  have hzs : z220.size = 220 := by simp [z220]
  have hrr := HR.out V w2.heap.size hV0
  have hc1 : (convert 72 9 (.slice (some ⟨w2.heap.size, 0, none⟩) 71 220)).run Tryz.prog V = .ok (.string (bs ((dL N).take 71))) V := by
    rw [← xH_str]; exact run_convert_bytes_arg (P := Tryz.prog) V 72 5 Tryz.underlying72 Tryz.underlying5 w2.heap.size 0 71 220 (xH N) (by simp [xH]) hrr.1 9 Tryz.underlying9
  have hc2 : (convert 72 9 (.slice (some ⟨w2.heap.size, 71, none⟩) 149 149)).run Tryz.prog V = .ok (.string (bs ((dL N).drop 71))) V := by
    rw [← xT_str]; exact run_convert_bytes_arg (P := Tryz.prog) V 72 5 Tryz.underlying72 Tryz.underlying5 w2.heap.size 71 149 149 (xT N) (by simp [xT]) hrr.2 9 Tryz.underlying9
  have HT1 : Hid (∀ w, Calls Tryz.prog 31 #[.string (bs ((dL N).take 71)), .string ⟨#[48]⟩] w fun e w' => e = .returned (.string (bs a)) ∧ w' = w) := fun w => by rw [ha]; exact trimL _ w
  have HT2 : Hid (∀ w, Calls Tryz.prog 32 #[.string (bs ((dL N).drop 71)), .string ⟨#[48]⟩] w fun e w' => e = .returned (.string (bs b)) ∧ w' = w) := fun w => by rw [hb]; exact trimR _ hlL w
  generalize z220 = zz at *
  clear hrr HR b2 q2 ha hb hlL
  generalize bs ((dL N).take 71) = s70 at *
  generalize bs ((dL N).drop 71) = s149 at *
  have ta := bs_toList a
  have tb := bs_toList b
  go_wp2_with (refine wpList_store220 rfl _ _ rfl w2.heap.size ds zz rfl rfl hds hzs hone hz0 ?_; rw [hV])
  clear hz0 hV
  refine (HT1.out _).mono ?_
  rintro e3 w3 ⟨rfl, hw3⟩
  subst w3
  have HJ : Hid (∀ x : ByteArray, x.data.toList = jn neg a b → x = bs (jn neg a b)) := fun x hx => by apply ba_ext2; rw [hx, bs_data]
  have da : (bs a).data.toList = a := bs_data a
  have db : (bs b).data.toList = b := bs_data b
  have HQ : Hid ((bs a).data.toList = a ∧ (bs b).data.toList = b) := ⟨da, db⟩
  clear da db
  by_cases ea : a = [] <;> by_cases eb : b = [] <;> cases neg
  · have hsg : ¬ sg < 0 := fun h => absurd (hsn.2 h) (by decide)
    clear hsn
    have na : (bs a).toList.isEmpty = true := by rw [ta]; rw [ea]; rfl
    have nb : (bs b).toList.isEmpty = true := by rw [tb]; rw [eb]; rfl
    have na2 : (bs a).toList = [] := by rw [ta]; exact ea
    have nb2 : (bs b).toList = [] := by rw [tb]; exact eb
    have HE : Hid (jn false a b = jn false a b ∧ a = [] ∧ b = []) := ⟨rfl, ea, eb⟩
    clear ta tb ea eb
    generalize hba : bs a = sa at *
    generalize hbb : bs b = sb9 at *
    clear hba hbb
    go_wp2_with (fail)
    refine (HT2.out _).mono ?_
    rintro e4 w4 ⟨rfl, hw4⟩
    subst w4
    go_wp2_with (refine wpList_load6 25 _ Tryz.underlying25 sizeSum rfl _ rfl w.heap.size ca rfl hsa qV ?_)
    refine (HS.out _).mono ?_
    rintro e5 w5 ⟨rfl, hw5⟩
    have b5 := below_chain hVb hw5 (Nat.le_refl _)
    clear hVb hw5 HS HT1 HT2
    go_wp2
    go_ret
    refine ⟨congrArg (fun x => Ending.returned (Value.string x)) (HJ.out _ ?_), b5⟩
    simp [jn, HE.out.2.1, HE.out.2.2]
  · have hsg : sg < 0 := hsn.1 rfl
    clear hsn
    have na : (bs a).toList.isEmpty = true := by rw [ta]; rw [ea]; rfl
    have nb : (bs b).toList.isEmpty = true := by rw [tb]; rw [eb]; rfl
    have na2 : (bs a).toList = [] := by rw [ta]; exact ea
    have nb2 : (bs b).toList = [] := by rw [tb]; exact eb
    have HE : Hid (jn true a b = jn true a b ∧ a = [] ∧ b = []) := ⟨rfl, ea, eb⟩
    clear ta tb ea eb
    generalize hba : bs a = sa at *
    generalize hbb : bs b = sb9 at *
    clear hba hbb
    go_wp2_with (fail)
    refine (HT2.out _).mono ?_
    rintro e4 w4 ⟨rfl, hw4⟩
    subst w4
    go_wp2_with (refine wpList_load6 25 _ Tryz.underlying25 sizeSum rfl _ rfl w.heap.size ca rfl hsa qV ?_)
    refine (HS.out _).mono ?_
    rintro e5 w5 ⟨rfl, hw5⟩
    have b5 := below_chain hVb hw5 (Nat.le_refl _)
    clear hVb hw5 HS HT1 HT2
    go_wp2
    go_ret
    refine ⟨congrArg (fun x => Ending.returned (Value.string x)) (HJ.out _ ?_), b5⟩
    simp [jn, HE.out.2.1, HE.out.2.2]
  · have hsg : ¬ sg < 0 := fun h => absurd (hsn.2 h) (by decide)
    clear hsn
    have na : (bs a).toList.isEmpty = true := by rw [ta]; rw [ea]; rfl
    have nb : (bs b).toList.isEmpty = false := by rw [tb]; simpa using eb
    have na2 : (bs a).toList = [] := by rw [ta]; exact ea
    have nb2 : ¬ (bs b).toList = [] := by rw [tb]; exact eb
    have HE : Hid (jn false a b = jn false a b ∧ a = [] ∧ ¬ b = []) := ⟨rfl, ea, eb⟩
    clear ta tb ea eb
    generalize hba : bs a = sa at *
    generalize hbb : bs b = sb9 at *
    clear hba hbb
    go_wp2_with (fail)
    refine (HT2.out _).mono ?_
    rintro e4 w4 ⟨rfl, hw4⟩
    subst w4
    go_wp2_with (refine wpList_load6 25 _ Tryz.underlying25 sizeSum rfl _ rfl w.heap.size ca rfl hsa qV ?_)
    refine (HS.out _).mono ?_
    rintro e5 w5 ⟨rfl, hw5⟩
    have b5 := below_chain hVb hw5 (Nat.le_refl _)
    clear hVb hw5 HS HT1 HT2
    go_wp2
    go_ret
    refine ⟨congrArg (fun x => Ending.returned (Value.string x)) (HJ.out _ ?_), b5⟩
    simp [jn, HE.out.2.1, HE.out.2.2, HQ.out.2]
  · have hsg : sg < 0 := hsn.1 rfl
    clear hsn
    have na : (bs a).toList.isEmpty = true := by rw [ta]; rw [ea]; rfl
    have nb : (bs b).toList.isEmpty = false := by rw [tb]; simpa using eb
    have na2 : (bs a).toList = [] := by rw [ta]; exact ea
    have nb2 : ¬ (bs b).toList = [] := by rw [tb]; exact eb
    have HE : Hid (jn true a b = jn true a b ∧ a = [] ∧ ¬ b = []) := ⟨rfl, ea, eb⟩
    clear ta tb ea eb
    generalize hba : bs a = sa at *
    generalize hbb : bs b = sb9 at *
    clear hba hbb
    go_wp2_with (fail)
    refine (HT2.out _).mono ?_
    rintro e4 w4 ⟨rfl, hw4⟩
    subst w4
    go_wp2_with (refine wpList_load6 25 _ Tryz.underlying25 sizeSum rfl _ rfl w.heap.size ca rfl hsa qV ?_)
    refine (HS.out _).mono ?_
    rintro e5 w5 ⟨rfl, hw5⟩
    have b5 := below_chain hVb hw5 (Nat.le_refl _)
    clear hVb hw5 HS HT1 HT2
    go_wp2
    go_ret
    refine ⟨congrArg (fun x => Ending.returned (Value.string x)) (HJ.out _ ?_), b5⟩
    simp [jn, HE.out.2.1, HE.out.2.2, HQ.out.2]
  · have hsg : ¬ sg < 0 := fun h => absurd (hsn.2 h) (by decide)
    clear hsn
    have na : (bs a).toList.isEmpty = false := by rw [ta]; simpa using ea
    have nb : (bs b).toList.isEmpty = true := by rw [tb]; rw [eb]; rfl
    have na2 : ¬ (bs a).toList = [] := by rw [ta]; exact ea
    have nb2 : (bs b).toList = [] := by rw [tb]; exact eb
    have HE : Hid (jn false a b = jn false a b ∧ ¬ a = [] ∧ b = []) := ⟨rfl, ea, eb⟩
    clear ta tb ea eb
    generalize hba : bs a = sa at *
    generalize hbb : bs b = sb9 at *
    clear hba hbb
    go_wp2_with (fail)
    refine (HT2.out _).mono ?_
    rintro e4 w4 ⟨rfl, hw4⟩
    subst w4
    go_wp2_with (refine wpList_load6 25 _ Tryz.underlying25 sizeSum rfl _ rfl w.heap.size ca rfl hsa qV ?_)
    refine (HS.out _).mono ?_
    rintro e5 w5 ⟨rfl, hw5⟩
    have b5 := below_chain hVb hw5 (Nat.le_refl _)
    clear hVb hw5 HS HT1 HT2
    go_wp2
    go_ret
    refine ⟨congrArg (fun x => Ending.returned (Value.string x)) (HJ.out _ ?_), b5⟩
    simp [jn, HE.out.2.1, HE.out.2.2, HQ.out.1]
  · have hsg : sg < 0 := hsn.1 rfl
    clear hsn
    have na : (bs a).toList.isEmpty = false := by rw [ta]; simpa using ea
    have nb : (bs b).toList.isEmpty = true := by rw [tb]; rw [eb]; rfl
    have na2 : ¬ (bs a).toList = [] := by rw [ta]; exact ea
    have nb2 : (bs b).toList = [] := by rw [tb]; exact eb
    have HE : Hid (jn true a b = jn true a b ∧ ¬ a = [] ∧ b = []) := ⟨rfl, ea, eb⟩
    clear ta tb ea eb
    generalize hba : bs a = sa at *
    generalize hbb : bs b = sb9 at *
    clear hba hbb
    go_wp2_with (fail)
    refine (HT2.out _).mono ?_
    rintro e4 w4 ⟨rfl, hw4⟩
    subst w4
    go_wp2_with (refine wpList_load6 25 _ Tryz.underlying25 sizeSum rfl _ rfl w.heap.size ca rfl hsa qV ?_)
    refine (HS.out _).mono ?_
    rintro e5 w5 ⟨rfl, hw5⟩
    have b5 := below_chain hVb hw5 (Nat.le_refl _)
    clear hVb hw5 HS HT1 HT2
    go_wp2
    go_ret
    refine ⟨congrArg (fun x => Ending.returned (Value.string x)) (HJ.out _ ?_), b5⟩
    simp [jn, HE.out.2.1, HE.out.2.2, HQ.out.1]
  · have hsg : ¬ sg < 0 := fun h => absurd (hsn.2 h) (by decide)
    clear hsn
    have na : (bs a).toList.isEmpty = false := by rw [ta]; simpa using ea
    have nb : (bs b).toList.isEmpty = false := by rw [tb]; simpa using eb
    have na2 : ¬ (bs a).toList = [] := by rw [ta]; exact ea
    have nb2 : ¬ (bs b).toList = [] := by rw [tb]; exact eb
    have HE : Hid (jn false a b = jn false a b ∧ ¬ a = [] ∧ ¬ b = []) := ⟨rfl, ea, eb⟩
    clear ta tb ea eb
    generalize hba : bs a = sa at *
    generalize hbb : bs b = sb9 at *
    clear hba hbb
    go_wp2_with (fail)
    refine (HT2.out _).mono ?_
    rintro e4 w4 ⟨rfl, hw4⟩
    subst w4
    go_wp2_with (refine wpList_load6 25 _ Tryz.underlying25 sizeSum rfl _ rfl w.heap.size ca rfl hsa qV ?_)
    refine (HS.out _).mono ?_
    rintro e5 w5 ⟨rfl, hw5⟩
    have b5 := below_chain hVb hw5 (Nat.le_refl _)
    clear hVb hw5 HS HT1 HT2
    go_wp2
    go_ret
    refine ⟨congrArg (fun x => Ending.returned (Value.string x)) (HJ.out _ ?_), b5⟩
    simp [jn, HE.out.2.1, HE.out.2.2, HQ.out.1, HQ.out.2]
  · have hsg : sg < 0 := hsn.1 rfl
    clear hsn
    have na : (bs a).toList.isEmpty = false := by rw [ta]; simpa using ea
    have nb : (bs b).toList.isEmpty = false := by rw [tb]; simpa using eb
    have na2 : ¬ (bs a).toList = [] := by rw [ta]; exact ea
    have nb2 : ¬ (bs b).toList = [] := by rw [tb]; exact eb
    have HE : Hid (jn true a b = jn true a b ∧ ¬ a = [] ∧ ¬ b = []) := ⟨rfl, ea, eb⟩
    clear ta tb ea eb
    generalize hba : bs a = sa at *
    generalize hbb : bs b = sb9 at *
    clear hba hbb
    go_wp2_with (fail)
    refine (HT2.out _).mono ?_
    rintro e4 w4 ⟨rfl, hw4⟩
    subst w4
    go_wp2_with (refine wpList_load6 25 _ Tryz.underlying25 sizeSum rfl _ rfl w.heap.size ca rfl hsa qV ?_)
    refine (HS.out _).mono ?_
    rintro e5 w5 ⟨rfl, hw5⟩
    have b5 := below_chain hVb hw5 (Nat.le_refl _)
    clear hVb hw5 HS HT1 HT2
    go_wp2
    go_ret
    refine ⟨congrArg (fun x => Ending.returned (Value.string x)) (HJ.out _ ?_), b5⟩
    simp [jn, HE.out.2.1, HE.out.2.2, HQ.out.1, HQ.out.2]
theorem text_any (S : Int) (h : Sg S) (w : World) : Calls Tryz.prog 7 #[.agg (sm S)] w fun e w' => e = .returned (.string (bs (tS S))) ∧ Below w.heap.size w w' := by
  have h1 := text_walk S h _ rfl _ _ rfl rfl w
  have e : jn (decide (S < 0)) (Lib.trimLeftB ((dL (ab S)).take 71) 48) (Lib.trimRightB ((dL (ab S)).drop 71) 48) = tS S := jn_tS S
  rw [e] at h1; exact h1
end Ty
end Go.Proofs.YtbnmjmlcedkoaabGreatDoor
