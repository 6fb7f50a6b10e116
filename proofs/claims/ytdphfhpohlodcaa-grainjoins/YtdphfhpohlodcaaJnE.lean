import Derived.Test.YtdphfhpohlodcaaJnD
namespace Go.Proofs.Ytdphfhpohlodcaa
namespace Jn
open Go.RowKit
set_option linter.unusedVariables false
theorem size45 : (Try.prog.info? 45).map (·.size) = some 32 := by kernel_rfl
theorem loadAt45 (w : World) (b : Nat) (c : Array Value) (hs : c.size = 32) (h : w.heap[b]? = some (.cells c 45 (0, 0))) :
    (Instr.loadAt 45 (.pointer (some ⟨b, 0, none⟩))).run Try.prog w = .ok (.agg c) w := by
  simp only [Instr.loadAt, Instr.sureAddr, Sem.run_bind, Sem.run_pure, Result.andThen]
  exact run_loadVar_row _ _ 45 45 c (0, 0) _ h Try.underlying45 rfl (by rw [hs]; exact size45)
theorem storeAt45 (w : World) (b : Nat) (c old : Array Value) (hs : c.size = 32) (ho : old.size = 32) (h1 : c.all (·.oneCell') = true) (h : w.heap[b]? = some (.cells old 45 (0, 0))) :
    (Instr.storeAt 45 (.pointer (some ⟨b, 0, none⟩)) (.agg c)).run Try.prog w = .ok () (w.setRow b c) := by
  simp only [Instr.storeAt, Instr.sureAddr, Sem.run_bind, Sem.run_pure, Result.andThen]
  exact run_storeVar_row _ _ 45 45 old c h (by rw [hs]; exact size45) (by omega) h1
theorem wpList_load45 {w : World} {ops : Array Oper} {rest : List Oper} {o : Oper} {a : Act} {Q : Exit → Act → World → Prop} (hgd : o.guard = none) (s : Operand) (ho : o.op = .load 45 s)
    (b : Nat) (c : Array Value) (hs : a.eval s = .pointer (some ⟨b, 0, none⟩)) (hsz : c.size = 32) (hh : w.heap[b]? = some (.cells c 45 (0, 0)))
    (h : wpList Try.prog ops Q rest (a.put o.dst (.agg c)) w) : wpList Try.prog ops Q (o :: rest) a w := by
  refine wpList_plain hgd fun K hK => ?_
  unfold Oper.wp execOp
  simp only [ho, hs, Sem.run_bind, Sem.run_pure, Result.andThen_ok, loadAt45 w b c hsz hh]
  exact hK _ _ h
theorem wpList_store45 {w : World} {ops : Array Oper} {rest : List Oper} {o : Oper} {a : Act} {Q : Exit → Act → World → Prop} (hgd : o.guard = none) (s x : Operand) (ho : o.op = .store 45 s x)
    (b : Nat) (c old : Array Value) (hs : a.eval s = .pointer (some ⟨b, 0, none⟩)) (hx : a.eval x = .agg c) (hsz : c.size = 32) (hoz : old.size = 32) (h1 : c.all (·.oneCell') = true) (hh : w.heap[b]? = some (.cells old 45 (0, 0)))
    (h : wpList Try.prog ops Q rest (a.put o.dst undef) (w.setRow b c)) : wpList Try.prog ops Q (o :: rest) a w := by
  refine wpList_plain hgd fun K hK => ?_
  unfold Oper.wp execOp
  simp only [ho, hs, hx, Sem.run_bind, Sem.run_pure, Result.andThen_ok, storeAt45 w b c old hsz hoz h1 hh]
  exact hK _ _ h
theorem held_drew45 {wr : World} {b j : Nat} {cc : Array Value} {M : Nat → Int} (h : wr.heap[b]? = some (.cells cc 45 (0, 0))) (hj : cc[j]? = some (.int .u32 (M j))) :
    wr.drew.rangeAt b 0 cc.toList ∧ wr.drew.cell? ⟨b, j, none⟩ = some (.int .u32 (M j)) := by
  have h' : wr.drew.heap[b]? = some (.cells cc 45 (0, 0)) := h
  refine ⟨fun i v hv => ?_, ?_⟩
  · rw [cell_of_row _ _ (0 + i) cc 45 (0, 0) h', Nat.zero_add]; simpa using hv
  · rw [cell_of_row _ _ j cc 45 (0, 0) h']; exact hj
theorem row_of45 {w : World} {b : Nat} {c : Array Value} {M : Nat → Int} (hc : Arr c M) (h : w.heap[b]? = some (.cells c 45 (0, 0))) : w.rowIs b 45 32 (fun i => .int .u32 (M i)) :=
  ⟨c, h, hc.1, fun i hi => (hc.2 i hi).1⟩
/-- A row that is being filled with f: j of its cells are. -/
def Fil (w wr : World) (f : Nat → Int) (j : Nat) : Prop :=
  Below w.heap.size w wr ∧ w.heap.size < wr.heap.size ∧ wr.rowIs w.heap.size 45 32 (fun i => .int .u32 (if i < j then f i else 0))
theorem fil_start (w : World) (f : Nat → Int) : Fil w (w.alloc (.cells (Array.replicate 32 (.int .u32 0)) 45)) f 0 := by
  refine ⟨(Below.refl _ _).alloc (Nat.le_refl _) _, by simp, ?_⟩
  exact (row_of45 zeros (heap_alloc_last w _)).congr (fun i hi => by simp)
theorem fil_step {w wr w9 : World} {f : Nat → Int} {j : Nat} {v : Int} (hm : Fil w wr f j) (hb : Below wr.heap.size wr w9) (hv : v = f j) :
    Fil w (w9.setCell ⟨w.heap.size, j, none⟩ (.int .u32 v)) f (j + 1) := by
  obtain ⟨b1, b2, r⟩ := hm
  subst hv
  have hs := hb.size
  refine ⟨(b1.trans (hb.mono b1.size)).setCell (Nat.le_refl _) _, by simp; omega, ?_⟩
  refine ((r.of_block (hb.block _ b2)).set j _).congr (fun i hi => ?_)
  by_cases e : i = j
  · subst e; simp
  · simp only [e, if_false]
    by_cases h : i < j
    · rw [if_pos h, if_pos (by omega)]
    · rw [if_neg h, if_neg (by omega)]
theorem fil_end {w wr : World} {f : Nat → Int} (hm : Fil w wr f 32) (hf : ∀ i, i < 32 → W32 (f i)) : ∃ c, wr.heap[w.heap.size]? = some (.cells c 45 (0, 0)) ∧ Arr c f := by
  obtain ⟨-, -, c, h, hs, hc⟩ := hm
  exact ⟨c, h, hs, fun i hi => ⟨by rw [hc i hi]; simp [hi], hf i hi⟩⟩
set_option maxHeartbeats 1600000 in
theorem refJoin_any (a b n : Int) (ha : W32 a) (hb : W32 b) (w : World) :
    Calls Try.prog 12 #[.int .u32 a, .int .u32 b, .int .i64 n] w fun e w' => e = .returned (.tuple #[.int .u32 (val a b n), .int .i64 (err n)]) ∧ Below w.heap.size w w' := by
  by_cases hout : n < 0 ∨ n > 1099511627776
  · have H1 : Hid (val a b n = 0) := by show _ = _; unfold val; rw [if_pos hout]
    have H2 : Hid (err n = 12) := by show _ = _; unfold err; rw [if_pos hout]
    by_cases h0 : n < 0
    · clear hout
      go_enter Try.func12, Try.ntmps12
      go_wp2
      go_ret2
      exact ⟨ret_two H1.out.symm H2.out.symm, Below.refl _ _⟩
    · have h1 : 1099511627776 < n := by omega
      clear hout
      go_enter Try.func12, Try.ntmps12
      go_wp2
      go_ret2
      exact ⟨ret_two H1.out.symm H2.out.symm, Below.refl _ _⟩
  · obtain ⟨m, rfl⟩ := Int.eq_ofNat_of_zero_le (show 0 ≤ n by omega)
    have hm : m ≤ 1099511627776 := by omega
    have H1 : Hid (val a b m = bits .xor .u32 (run seed a (8 * m)) b) := by
      show _ = _; unfold val; rw [if_neg hout, Int.toNat_natCast]
    have H2 : Hid (err m = 0) := by show _ = _; unfold err; rw [if_neg hout]
    have hm' : ¬ (1099511627776 < (m : Int)) := by omega
    clear hout
    go_enter Try.func12, Try.ntmps12
    go_wp2
    go_loopw [9] (fun iv wr => ∃ j : Nat, j ≤ 32 ∧ iv = .int .i64 j ∧ Fil w wr seed j) (fun iv _ => 32 - (intOf iv).toNat)
    case atStart => exact ⟨0, by omega, rfl, fil_start w seed⟩
    case round =>
      obtain ⟨j, hj, rfl, hF⟩ := hrel
      by_cases hlt : j < 32
      · have HF : Hid (Fil w (wr.setCell ⟨w.heap.size, j, none⟩ (.int .u32 (dn (2 ^ j)))) seed (j + 1)) := fil_step hF (Below.refl _ _) (dn_seed j hlt)
        obtain ⟨v0, hj2⟩ : ∃ v, wr.cell? ⟨w.heap.size, j, none⟩ = some v := ⟨_, hF.2.2.cell hlt⟩
        have hj3 := hF.2.2.frozen j
        have t2 : Hid ((2 : Int) ^ j % 4294967296 = 2 ^ j) := Int.emod_eq_of_lt (Int.le_of_lt (two_b j (by omega)).1) (two_b j (by omega)).2
        have t3 : Hid ((0 : Int) ≤ 2 ^ j ∧ (2 : Int) ^ j < 4294967296) := ⟨Int.le_of_lt (two_b j hlt).1, (two_b j hlt).2⟩
        clear hF
        go_wp2_with (go_at_call 20; rw [t2.out]; refine (down_any _ _ t3.out.1 t3.out.2).mono ?_; rintro e9 w9 ⟨rfl, rfl⟩)
        exact ⟨⟨j + 1, by omega, by go_num, HF.out⟩, by simp [intOf]; omega⟩
      · obtain rfl : j = 32 := by omega
        rw [show ((32 : Nat) : Int) = 32 from rfl]
        have hPw : Pw 45 w wr w.heap.size seed := ⟨hF.1, hF.2.1, Nat.le_refl _, fil_end hF seed_b⟩
        have HPw : Hid (Pw 45 w wr w.heap.size seed) := hPw
        clear hF hPw
        generalize seed = M0 at *
        go_wp2
        go_loopw [0, 10] (fun av kv wr => ∃ (a' : Int) (k' : Nat) (M : Nat → Int), av = .int .u32 a' ∧ kv = .int .i64 k' ∧ W32 a' ∧ k' ≤ 8796093022208 ∧ Pw 45 w wr w.heap.size M ∧ run M a' k' = run M0 a (8 * m)) (fun _ kv _ => (intOf kv).toNat)
        case atStart =>
          exact ⟨a, 8 * m, M0, rfl, by go_num, ha, by omega, HPw.out, rfl⟩
        case round =>
          clear HPw
          rename World => wr0
          obtain ⟨a', k', M, rfl, rfl, ha', hk', ⟨b1, b2, -, c, hc, hA⟩, HR⟩ := hrel
          have HR' : Hid (run M a' k' = run M0 a (8 * m)) := HR
          have HA : Hid (Arr c M) := hA
          have hsz := hA.1
          clear HR hA
          by_cases hpos : 0 < k'
          · have hposI : (0 : Int) < (k' : Int) := by omega
            by_cases hodd : k' % 2 = 1
            · have hoddI : (k' : Int) % 2 = 1 := by omega
              have hoddB : ((k' : Int) % 2 == 1) = true := by simpa using hoddI
              go_wp2_with (refine wpList_load45 rfl _ rfl w.heap.size c rfl hsz hc ?_)
              refine (through_any c M a' _ HA.out ha').mono ?_
              rintro e9 w9 ⟨rfl, hb9⟩
              have hc9 := (hb9.block _ b2).trans hc
              have b19 := b1.trans (hb9.mono b1.size)
              have b29 := Nat.lt_of_lt_of_le b2 hb9.size
              clear hc b1 b2 hb9
              have hc := hc9
              have b1 := b19
              have b2 := b29
              clear hc9 b19 b29
              go_wp2
              have HO : Hid (k' % 2 = 1) := hodd
              clear hoddI hoddB hodd
              go_loopw [12] (fun iv wr => ∃ j : Nat, j ≤ 32 ∧ iv = .int .i64 j ∧ Fil w9 wr (sq M) j) (fun iv _ => 32 - (intOf iv).toNat)
              case atStart => exact ⟨0, by omega, rfl, fil_start _ _⟩
              case round =>
                obtain ⟨j, hj, rfl, hF⟩ := hrel
                have HF : Hid (Fil w9 wr (sq M) j) := hF
                have hcc := (hF.1.block _ b2).trans hc
                have hlt0 : w.heap.size < wr.heap.size := Nat.lt_of_lt_of_le b2 hF.1.size
                by_cases hlt : j < 32
                · obtain ⟨v0, hj2⟩ : ∃ v, wr.cell? ⟨w9.heap.size, j, none⟩ = some v := ⟨_, hF.2.2.cell hlt⟩
                  have hj3 := hF.2.2.frozen j
                  have hlt1 := hF.2.1
                  have hmj := (HA.out.2 j hlt).2
                  have HA' : Hid (Arr c.toList.toArray M) := by simpa using HA
                  have hD : Hid (wr.drew.rangeAt w.heap.size 0 c.toList ∧ wr.drew.cell? ⟨w.heap.size, j, none⟩ = some (.int .u32 (M j))) := held_drew45 hcc (HA.out.2 j hlt).1
                  have hu45 : Try.prog.underlying 45 = some (.array 32 31) := Try.underlying45
                  have hi45 : (Try.prog.info? 45).map (·.size) = some c.toList.length := by rw [Array.length_toList, hsz]; exact size45
                  clear hF hcc hc b1
                  go_wp2
                  go_region_held (fun w' => w'.rangeAt w.heap.size 0 c.toList ∧ w'.cell? ⟨w.heap.size, j, none⟩ = some (.int .u32 (M j)))
                    (first | exact hD.out | exact held_below hD.out hb8 hlt0 | (exact held_set (by assumption) (by show w9.heap.size ≠ w.heap.size; omega)))
                    ((go_at_call 21; refine (through_any _ M (M j) _ HA'.out hmj).mono ?_; rintro e9 w8 ⟨rfl, hb8⟩; have q1 := (hb8.cell (p := ⟨w9.heap.size, j, none⟩) hlt1).trans hj2; have q2 := (hb8.frozen (p := ⟨w9.heap.size, j, none⟩) hlt1).trans hj3))
                  have hmm := fil_step HF.out (v := ofL M (M j) 32) (((Below.refl wr.heap.size wr).drew).trans hb8) rfl
                  go_wp2
                  go_roundw
                  case rel => exact ⟨j + 1, by omega, by go_num, hmm⟩
                  case measure => simp [intOf]; omega
                · obtain rfl : j = 32 := by omega
                  obtain ⟨c2, hc2, hA2⟩ := fil_end hF (fun i _ => ofL_b _ _ _)
                  have hP : Hid (Pw 45 w (wr.setRow w.heap.size c2) w.heap.size (sq M)) := pw_step b1 b2 (Nat.le_refl _) hc hF.1 hA2
                  have hall := all_one hA2
                  have hsz2 := hA2.1
                  clear HF hF hA2
                  go_wp2_with (first
                    | (refine wpList_load45 rfl _ rfl w9.heap.size c2 rfl hsz2 hc2 ?_)
                    | (refine wpList_store45 rfl _ _ rfl w.heap.size c2 c rfl rfl hsz2 hsz hall hcc ?_))
                  go_roundw
                  case rel => exact ⟨ofL M a' 32, k' / 2, sq M, rfl, by go_num, ofL_b _ _ _, by omega, hP.out, by rw [← HR'.out, run_pos M a' k' hpos, if_pos HO.out]⟩
                  case measure => simp [intOf]; omega
            · have hoddI : (k' : Int) % 2 = 0 := by omega
              have hoddB : ((k' : Int) % 2 == 1) = false := by rw [hoddI]; rfl
              go_wp2
              have HO : Hid (¬ k' % 2 = 1) := hodd
              clear hoddI hoddB hodd
              go_loopw [12] (fun iv wz => ∃ j : Nat, j ≤ 32 ∧ iv = .int .i64 j ∧ Fil wr0 wz (sq M) j) (fun iv _ => 32 - (intOf iv).toNat)
              case atStart => exact ⟨0, by omega, rfl, fil_start _ _⟩
              case round =>
                obtain ⟨j, hj, rfl, hF⟩ := hrel
                have HF : Hid (Fil wr0 wr (sq M) j) := hF
                have hcc := (hF.1.block _ b2).trans hc
                have hlt0 : w.heap.size < wr.heap.size := Nat.lt_of_lt_of_le b2 hF.1.size
                by_cases hlt : j < 32
                · obtain ⟨v0, hj2⟩ : ∃ v, wr.cell? ⟨wr0.heap.size, j, none⟩ = some v := ⟨_, hF.2.2.cell hlt⟩
                  have hj3 := hF.2.2.frozen j
                  have hlt1 := hF.2.1
                  have hmj := (HA.out.2 j hlt).2
                  have HA' : Hid (Arr c.toList.toArray M) := by simpa using HA
                  have hD : Hid (wr.drew.rangeAt w.heap.size 0 c.toList ∧ wr.drew.cell? ⟨w.heap.size, j, none⟩ = some (.int .u32 (M j))) := held_drew45 hcc (HA.out.2 j hlt).1
                  have hu45 : Try.prog.underlying 45 = some (.array 32 31) := Try.underlying45
                  have hi45 : (Try.prog.info? 45).map (·.size) = some c.toList.length := by rw [Array.length_toList, hsz]; exact size45
                  clear hF hcc hc b1
                  go_wp2
                  go_region_held (fun w' => w'.rangeAt w.heap.size 0 c.toList ∧ w'.cell? ⟨w.heap.size, j, none⟩ = some (.int .u32 (M j)))
                    (first | exact hD.out | exact held_below hD.out hb9 hlt0 | (exact held_set (by assumption) (by show wr0.heap.size ≠ w.heap.size; omega)))
                    ((go_at_call 21; refine (through_any _ M (M j) _ HA'.out hmj).mono ?_; rintro e9 w9 ⟨rfl, hb9⟩; have q1 := (hb9.cell (p := ⟨wr0.heap.size, j, none⟩) hlt1).trans hj2; have q2 := (hb9.frozen (p := ⟨wr0.heap.size, j, none⟩) hlt1).trans hj3))
                  have hmm := fil_step HF.out (v := ofL M (M j) 32) (((Below.refl wr.heap.size wr).drew).trans hb9) rfl
                  go_wp2
                  go_roundw
                  case rel => exact ⟨j + 1, by omega, by go_num, hmm⟩
                  case measure => simp [intOf]; omega
                · obtain rfl : j = 32 := by omega
                  obtain ⟨c2, hc2, hA2⟩ := fil_end hF (fun i _ => ofL_b _ _ _)
                  have hP : Hid (Pw 45 w (wr.setRow w.heap.size c2) w.heap.size (sq M)) := pw_step b1 b2 (Nat.le_refl _) hc hF.1 hA2
                  have hall := all_one hA2
                  have hsz2 := hA2.1
                  clear HF hF hA2
                  go_wp2_with (first
                    | (refine wpList_load45 rfl _ rfl wr0.heap.size c2 rfl hsz2 hc2 ?_)
                    | (refine wpList_store45 rfl _ _ rfl w.heap.size c2 c rfl rfl hsz2 hsz hall hcc ?_))
                  go_roundw
                  case rel => exact ⟨a', k' / 2, sq M, rfl, by go_num, ha', by omega, hP.out, by rw [← HR'.out, run_pos M a' k' hpos, if_neg HO.out]⟩
                  case measure => simp [intOf]; omega
          · obtain rfl : k' = 0 := by omega
            go_wp2
            go_ret2
            exact ⟨ret_two (by rw [H1.out, ← HR'.out, run_zero]) H2.out.symm, b1⟩
end Jn
end Go.Proofs.Ytdphfhpohlodcaa
