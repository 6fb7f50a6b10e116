import Derived.Test.YtbnmjmlcedkoaabDoorTyRc2
import Derived.Deep.RegionLaw
namespace Go.Proofs.YtbnmjmlcedkoaabDoor
namespace Ty
open Go.RowKit
set_option linter.unusedVariables false
/-- A list of int that came in. -/
def IRow (w : World) (a : Option Addr) (len : Nat) (zs : List Int) : Prop :=
  (len ≤ zs.length ∧ len ≤ 9223372036854775807) ∧ (0 < len → ∃ x : Addr, a = some x ∧ x.block < w.heap.size ∧ ∀ i, i < len → w.cell? (x.add i) = some (.int .i64 (zs.getD i 0))) ∧ ∀ i, i < len → -9223372036854775808 ≤ zs.getD i 0 ∧ zs.getD i 0 < 9223372036854775808
def lenV : Value → Nat
  | .slice _ n _ => n
  | _ => 0
theorem lenV_s (a : Option Addr) (n c : Nat) : lenV (.slice a n c) = n := rfl
def OS (w wr : World) (vl vy : Value) (ls ys xs : List Int) : Prop :=
  Below w.heap.size w wr ∧ UL wr w.heap.size vl ls ∧ UL wr w.heap.size vy ys ∧ (∀ g, vl.ownBlock = some g → vy.ownBlock ≠ some g) ∧ List.Perm (ys ++ ls) xs
theorem us_nil : us [] = [] := rfl
theorem lenV_own {w : World} {B e n : Nat} {v : Value} {xs : List Value} (h : w.ownsRow B e 1 v n xs) : lenV v = n := by
  obtain ⟨h1, h2⟩ := h
  rcases h2 with ⟨rfl, h0⟩ | ⟨g, cap, cur, rfl, h3⟩
  · rw [h0]; rfl
  · rfl
theorem add0 (g i : Nat) : (⟨g, 0, none⟩ : Addr).add i = ⟨g, i, none⟩ := by unfold Addr.add; split <;> simp_all
theorem addk (g k i : Nat) : (⟨g, k, none⟩ : Addr).add i = ⟨g, k + i, none⟩ := by unfold Addr.add; split <;> simp_all
theorem perm_pick (ls ys : List Int) (k : Nat) (hk : k < ls.length) : List.Perm ((ys ++ [ls.getD k 0]) ++ (ls.take k ++ ls.drop (k + 1))) (ys ++ ls) := by
  have e : ls.getD k 0 = ls[k] := by simp [List.getD_eq_getElem?_getD, hk]
  rw [e, List.append_assoc]
  refine List.Perm.append_left ys ?_
  have h : ls = ls.take k ++ ls[k] :: ls.drop (k + 1) := by
    rw [← List.drop_eq_getElem_cons hk, List.take_append_drop]
  have h2 : List.Perm (ls.take k ++ ls[k] :: ls.drop (k + 1)) ([ls[k]] ++ (ls.take k ++ ls.drop (k + 1))) := List.perm_middle
  rw [← h] at h2
  exact h2.symm
theorem srcB {W : World} {g n k cp : Nat} {ls : List Int} (hn : ls.length = n) (hk : k < n) (hcp : n ≤ cp) (hc : ∀ i, i < n → W.cell? ⟨g, i, none⟩ = some (.int .u32 (ls.getD i 0))) :
    Src W (.slice (if cp = k + 1 then some ⟨g, 0, none⟩ else some ⟨g, k + 1, none⟩) (n - (k + 1)) (cp - (k + 1))) (n - (k + 1)) (us (ls.drop (k + 1))) := by
  have hl : (us (ls.drop (k + 1))).length = n - (k + 1) := by rw [us_len, List.length_drop, hn]
  by_cases e : cp = k + 1
  · rw [if_pos e]
    refine Or.inr ⟨_, _, rfl, hl, fun j u hj => ?_, us_one _⟩
    have h9 := (List.getElem?_eq_some_iff.1 hj).1
    omega
  · rw [if_neg e]
    refine Or.inr ⟨_, _, rfl, hl, fun j u hj => ?_, us_one _⟩
    have h9 := (List.getElem?_eq_some_iff.1 hj).1
    rw [addk, hc (k + 1 + j) (by omega), ← hj]
    rw [us, List.getElem?_map, List.getElem?_drop, List.getD_eq_getElem?_getD, List.getElem?_eq_getElem (by omega)]; rfl
theorem os_step {w w2 w3 w4 : World} {vy va vb : Value} {ls ys xs : List Int} {n m k : Nat} (hn : ls.length = n) (hm : ys.length = m) (hk : k < n) (hperm : List.Perm (ys ++ ls) xs) (b2 : Below w.heap.size w w2)
    (hy : w2.ownsRow w.heap.size 37 1 vy (m + 1) (us ys ++ [.int .u32 (ls.getD k 0)]))
    (hgA : (w2.alloc (.cells #[] 37)).drew.grownBy w3 (some w2.heap.size)) (hatA : va.ownBlock = some w2.heap.size ∨ va.ownBlock = some (w2.heap.size + 1))
    (hgB : w3.grownBy w4 va.ownBlock) (hatB : vb.ownBlock = va.ownBlock ∨ vb.ownBlock = some w3.heap.size) (hb : w4.ownsRow w.heap.size 37 1 vb (k + (n - (k + 1))) (us (ls.take k) ++ us (ls.drop (k + 1)))) :
    OS w w4 vb vy (ls.take k ++ ls.drop (k + 1)) (ys ++ [ls.getD k 0]) xs := by
  have hs0 : (w2.alloc (.cells #[] 37)).drew.heap.size = w2.heap.size + 1 := by simp
  have hs3 : w2.heap.size + 1 ≤ w3.heap.size := by have := hgA.size; omega
  have hw2 := b2.size
  have hva : ∀ j, va.ownBlock = some j → w2.heap.size ≤ j := fun j hj => by
    rcases hatA with h | h <;> rw [h] at hj <;> cases hj <;> omega
  have hvb : ∀ j, vb.ownBlock = some j → w2.heap.size ≤ j := fun j hj => by
    rcases hatB with h | h
    · exact hva j (by rw [← h]; exact hj)
    · rw [h] at hj; cases hj; omega
  have hA : Below w2.heap.size w2 w3 := (((Below.refl _ _).alloc (Nat.le_refl _) _).drew).grown hgA (by omega) (fun j hj => by cases hj; exact Nat.le_refl _)
  have hB : Below w2.heap.size w2 w4 := hA.grown hgB (by omega) hva
  have hyl : ∀ j, vy.ownBlock = some j → j < w2.heap.size := fun j hj => (World.ownsRow.lt hy j hj).2
  refine ⟨b2.trans (hB.mono hw2), ?_, ?_, fun j hj h2 => ?_, (perm_pick ls ys k (by omega)).trans hperm⟩
  · show w4.ownsRow _ _ _ _ _ _
    have e : (ls.take k ++ ls.drop (k + 1)).length = k + (n - (k + 1)) := by rw [List.length_append, List.length_take, List.length_drop]; omega
    have e2 : us (ls.take k ++ ls.drop (k + 1)) = us (ls.take k) ++ us (ls.drop (k + 1)) := by simp [us]
    rw [e, e2]; exact hb
  · have h : UL w2 w.heap.size vy (ys ++ [ls.getD k 0]) := by
      show w2.ownsRow _ _ _ _ _ _
      rw [List.length_append, hm, us_snoc]; exact hy
    exact h.keep (fun j hj => hB.block j (hyl j hj))
  · have h3 := hvb j hj
    have h4 := hyl j h2
    omega
set_option maxRecDepth 8000 in
set_option maxHeartbeats 800000 in
theorem order_any (B : Nat) (v : Value) (xs : List Int) (a : Option Addr) (len cap : Nat) (ps : List Int) (w : World) (hv : UL w B v xs) (hB : B ≤ w.heap.size) (hx : ∀ x ∈ xs, 0 ≤ x ∧ x < 4294967296) (hs : xs.length ≤ 35184372088832) (hp : IRow w a len ps) :
    Calls Tryd.prog 11 #[v, .slice a len cap] w fun e w' => ∃ v' ys, e = .returned v' ∧ UL w' w.heap.size v' ys ∧ List.Perm ys xs ∧ Below w.heap.size w w' := by
  have HS : Hid (Src (w.alloc (.cells #[] 37)) v xs.length (us xs)) := by
    have hk : UL (w.alloc (.cells #[] 37)) B v xs := hv.keep (fun g hg => blk_alloc _ _ _ (World.ownsRow.lt hv g hg).2)
    exact hk.src
  have HC : Hid (UL (w.alloc (.cells #[] 37)) w.heap.size (.slice (some ⟨w.heap.size, 0, none⟩) 0 0) []) := comp_own w w.heap.size (Nat.le_refl _)
  have HP : Hid (IRow w a len ps) := hp
  have HX : Hid (∀ x ∈ xs, 0 ≤ x ∧ x < 4294967296) := hx
  clear hv hp hx
  go_enter Tryd.func11, Tryd.ntmps11
  go_wp2_with (at_builtin; refine wpList_append_src rfl _ _ rfl w.heap.size _ _ 0 xs.length (us []) (us xs) rfl HC.out rfl HS.out (by omega) (by simp) ?_)
  intro v' w1 hown hgrow hat
  have HO : Hid (OS w w1 v' (.slice none 0 0) xs [] xs) := by
    refine ⟨((Below.refl _ _).alloc (Nat.le_refl _) _).grown hgrow (by simp) (fun j hj => by cases hj; exact Nat.le_refl _), hown, World.ownsRow_nil _ _ _ _, (fun g _ h => by cases h), List.Perm.refl _⟩
  clear hown hgrow hat HS HC
  go_wp2_with (fail)
  go_loopw [5, 6, 7, 8] (fun vl vy i _ wr => ∃ ls ys : List Int, i = .int .i64 ys.length ∧ OS w wr vl vy ls ys xs) (fun vl _ _ _ _ => lenV vl)
  case atStart => exact ⟨xs, [], rfl, HO.out⟩
  case round =>
    clear HO
    obtain ⟨ls, ys, rfl, ho⟩ := hrel
    have HO : Hid (OS w wr u5 u6 ls ys xs) := ho
    have hpl := ho.2.2.2.2.length_eq
    rw [List.length_append] at hpl
    by_cases hl0 : ls.length = 0
    · obtain ⟨b1, h2, h3, h4, h5⟩ := ho
      have hls : ls = [] := List.eq_nil_of_length_eq_zero hl0
      obtain ⟨h21, h22⟩ := h2
      rw [hl0] at h22
      rcases h22 with ⟨rfl, h0⟩ | ⟨g, cp, cur, rfl, h6, h7, h8⟩
      · go_wp2
        go_ret
        first | refine ⟨_, rfl, ys, h3, ?_, b1⟩ | refine ⟨_, ys, rfl, h3, ?_, b1⟩
        rw [hls, List.append_nil] at h5; exact h5
      · go_wp2
        go_ret
        first | refine ⟨_, rfl, ys, h3, ?_, b1⟩ | refine ⟨_, ys, rfl, h3, ?_, b1⟩
        rw [hls, List.append_nil] at h5; exact h5
    · obtain ⟨b1, h2, h3, h4, h5⟩ := ho
      obtain ⟨h21, h22⟩ := h2
      rcases h22 with ⟨rfl, h0⟩ | ⟨g, cp, cur, rfl, h6, h7, h8⟩
      · exact absurd h0 hl0
      · have hsz := b1.size
        have HL : Hid (UL wr w.heap.size (.slice (some ⟨g, 0, none⟩) ls.length cp) ls) := HO.out.2.1
        generalize hn : ls.length = n at *
        generalize hm : ys.length = m at *
        have h3' : wr.ownsRow w.heap.size 37 1 u6 m (us ys) := by
          have h := h3
          unfold UL at h; rw [hm] at h; exact h
        have HG : Hid (∀ o w1, (wr.alloc o).grownBy w1 u6.ownBlock → Below w.heap.size w w1 ∧ w1.heap[g]? = wr.heap[g]? ∧ wr.heap.size + 1 ≤ w1.heap.size) := fun o w1 hg => by
          have lg : g < wr.heap.size := (Array.getElem?_eq_some_iff.1 h7).1
          have hsz1 : (wr.alloc o).heap.size = wr.heap.size + 1 := by simp
          refine ⟨own_step2 hsz h3' b1 hg, ?_, by have := hg.size; omega⟩
          rw [hg.block g (by omega) (fun e => h4 g rfl e.symm), blk_alloc _ _ _ lg]
        have HCE : Hid (∀ i, i < n → wr.cell? ⟨g, i, none⟩ = some (.int .u32 (ls.getD i 0))) := fun i hi => by
          have h' : wr.ownsRow w.heap.size 37 1 (.slice (some ⟨g, 0, none⟩) n cp) n (us ls) := by
            have h9 := HL.out
            unfold UL at h9; rw [hn] at h9; exact h9
          have h := World.ownsRow.cellAt h' i (by omega)
          rw [h, us, List.getElem?_map, List.getD_eq_getElem?_getD, List.getElem?_eq_getElem (by omega)]; rfl
        have lg : g < wr.heap.size := (Array.getElem?_eq_some_iff.1 h7).1
        have hcp := h8.1
        have hcpm : cp ≤ 9223372036854775807 := by have := h8.2.1; unfold maxLen at this; omega
        clear h21 h8 h7 h4 h3 h5
        by_cases hlt : m < len
        · obtain ⟨x, rfl, hxb, hcell⟩ := HP.out.2.1 (by omega)
          have hcx : wr.cell? (x.add m) = some (.int .i64 (ps.getD m 0)) := (b1.cell (p := x.add m) (by unfold Addr.add; split <;> exact hxb)).trans (hcell m hlt)
          have hpb := HP.out.2.2 m hlt
          clear hcell
          generalize ps.getD m 0 = p at *
          obtain ⟨k, hk, hkn⟩ : ∃ k : Nat, wrap64 ((IntKind.u64.wrap p).tmod (n : Int)) = (k : Int) ∧ k < n := by
            have h0 : 0 ≤ IntKind.u64.wrap p := wrap_u64_nonneg p
            have h1 : (IntKind.u64.wrap p).tmod (n : Int) = IntKind.u64.wrap p % (n : Int) := Int.tmod_eq_emod_of_nonneg h0
            have h2 := Int.emod_nonneg (IntKind.u64.wrap p) (show (n : Int) ≠ 0 by omega)
            have h3 := Int.emod_lt_of_pos (IntKind.u64.wrap p) (show (0 : Int) < n by omega)
            refine ⟨(IntKind.u64.wrap p % (n : Int)).toNat, ?_, by omega⟩
            rw [h1, Int.toNat_of_nonneg h2]
            unfold wrap64
            omega
          have hkI : (k : Int) < (n : Int) := by omega
          have hck := HCE.out k hkn
          have HZ : Hid (ls.getD k 0 = ls.getD k 0) := rfl
          generalize hz : ls.getD k 0 = z at *
          go_wp2_with (at_builtin; refine wpList_append_src rfl _ _ rfl w.heap.size _ _ m 1 (us ys) [.int .u32 z] rfl (h3'.alloc _) rfl (Or.inr ⟨_, 1, rfl, rfl, cell_one_new _ _ _, by simp [Value.oneCell']⟩) (by omega) (by simp; omega) ?_)
          intro vy w2 hownY hgrowY hatY
          obtain ⟨b2, hb2, s2⟩ := HG.out _ _ hgrowY
          have hck2 : ∀ i, w2.cell? ⟨g, i, none⟩ = wr.cell? ⟨g, i, none⟩ := fun i => World.cell?_of_block (w := wr) (a := ⟨g, i, none⟩) hb2
          clear hck
          go_wp2_with (fail)
          have hcpk : (k : Int) ≤ (cp : Int) := by omega
          have hk1 : IntKind.i64.wrap ((k : Int) + 1) = (k : Int) + 1 := by rw [IntKind.wrap_i64]; omega
          have lg2 : g < w2.heap.size := by omega
          have HCL : Hid (∀ i, i < n → w2.cell? ⟨g, i, none⟩ = some (.int .u32 (ls.getD i 0))) := fun i hi => (hck2 i).trans (HCE.out i hi)
          have HCO : Hid (UL (w2.alloc (.cells #[] 37)).drew w.heap.size (.slice (some ⟨w2.heap.size, 0, none⟩) 0 0) []) := (comp_own w2 w.heap.size (by omega)).keep (fun _ _ => rfl)
          have HSA : Hid (Src (w2.alloc (.cells #[] 37)).drew (.slice (some ⟨g, 0, none⟩) k cp) k (us (ls.take k))) := by
            refine Or.inr ⟨_, _, rfl, by rw [us_len, List.length_take]; omega, fun j u hj => ?_, us_one _⟩
            have hjk : j < k := by
              have h9 := (List.getElem?_eq_some_iff.1 hj).1
              rw [us_len, List.length_take] at h9; omega
            rw [add0, World.cell?_of_block (w := w2) (a := ⟨g, j, none⟩) (show (w2.alloc (.cells #[] 37)).drew.heap[g]? = w2.heap[g]? from blk_alloc _ _ _ lg2), HCL.out j (by omega), ← hj]
            rw [us, List.getElem?_map, List.getElem?_take_of_lt hjk, List.getD_eq_getElem?_getD, List.getElem?_eq_getElem (by omega)]; rfl
          have HSB : Hid (∀ w3, (w2.alloc (.cells #[] 37)).drew.grownBy w3 (some w2.heap.size) → Src w3 (.slice (if cp = k + 1 then some ⟨g, 0, none⟩ else some ⟨g, k + 1, none⟩) (n - (k + 1)) (cp - (k + 1))) (n - (k + 1)) (us (ls.drop (k + 1)))) := fun w3 hg => by
            refine srcB hn hkn hcp (fun i hi => ?_)
            have hs0 : (w2.alloc (.cells #[] 37)).drew.heap.size = w2.heap.size + 1 := by simp
            rw [World.cell?_of_block (w := w2) (a := ⟨g, i, none⟩) ((hg.block g (by omega) (fun e => by cases e; omega)).trans (blk_alloc _ _ _ lg2))]
            exact HCL.out i hi
          have HST : Hid (∀ (w3 w4 : World) (va vb : Value), (w2.alloc (.cells #[] 37)).drew.grownBy w3 (some w2.heap.size) → (va.ownBlock = some w2.heap.size ∨ va.ownBlock = some (w2.heap.size + 1)) → w3.grownBy w4 va.ownBlock → (vb.ownBlock = va.ownBlock ∨ vb.ownBlock = some w3.heap.size) → w4.ownsRow w.heap.size 37 1 vb (k + (n - (k + 1))) (us (ls.take k) ++ us (ls.drop (k + 1))) → OS w w4 vb vy (ls.take k ++ ls.drop (k + 1)) (ys ++ [z]) xs) := fun w3 w4 va vb h1 h2 h3 h4 h5 => by
            have h := os_step hn hm hkn HO.out.2.2.2.2 b2 (by rw [hz]; exact hownY) h1 h2 h3 h4 h5
            rw [hz] at h; exact h
          have hbk : 0 ≤ (k : Int) + 1 ∧ (k : Int) + 1 ≤ (n : Int) := by omega
          have hw2s : w.heap.size ≤ w2.heap.size := by omega
          have HYL : Hid ((ys ++ [z]).length = m + 1) := by show _ = _; rw [List.length_append, hm]; rfl
          clear hck2 HCE HG HCL hownY hgrowY hatY
          go_region_law ((first
            | (refine step_append_src (by rfl) _ _ (by rfl) w.heap.size (.slice (some ⟨w2.heap.size, 0, none⟩) 0 0) (.slice (some ⟨g, 0, none⟩) k cp) 0 k (us []) (us (ls.take k)) (by rfl) HCO.out (by rfl) HSA.out (by omega) (by simp; omega) ?_; intro va w3 hownA hgrowA hatA)
            | (refine step_append_src (by rfl) _ _ (by rfl) w.heap.size va _ _ (n - (k + 1)) _ (us (ls.drop (k + 1))) (by rfl) hownA (by rfl) (HSB.out w3 hgrowA) (by omega) (by have h9 := hgrowA.size; simp at h9; omega) ?_; intro vb w4 hownB hgrowB hatB)))
          have hownB' : w4.ownsRow w.heap.size 37 1 vb (k + (n - (k + 1))) (us (ls.take k) ++ us (ls.drop (k + 1))) := by
            have h := hownB
            simp only [us_nil, Nat.zero_add, List.nil_append] at h; exact h
          have hatA' : va.ownBlock = some w2.heap.size ∨ va.ownBlock = some (w2.heap.size + 1) := by
            rcases hatA with h | h
            · exact Or.inl h
            · exact Or.inr (by simpa using h)
          have HF : Hid (OS w w4 vb vy (ls.take k ++ ls.drop (k + 1)) (ys ++ [z]) xs) := HST.out w3 w4 va vb hgrowA hatA' hgrowB hatB hownB'
          have HLV : Hid (lenV vb = k + (n - (k + 1))) := lenV_own hownB'
          clear hownB hownB' hatA hatA' hgrowA hgrowB hatB hownA HSB HST HSA HCO HL h3' hcx hk hk1 hbk
          go_wp2
          refine ⟨⟨ls.take k ++ ls.drop (k + 1), ys ++ [z], ?_, HF.out⟩, ?_⟩
          · rw [HYL.out]; go_num
          · rw [HLV.out, lenV_s]; omega
        · have hlt' : ¬ (m : Int) < (len : Int) := by omega
          have hkn : 0 < n := by omega
          have hk1 : IntKind.i64.wrap 1 = 1 := by rw [IntKind.wrap_i64]; omega
          have hkI : (0 : Int) < (n : Int) := by omega
          have hck := HCE.out 0 hkn
          have HZ : Hid (ls.getD 0 0 = ls.getD 0 0) := rfl
          generalize hz : ls.getD 0 0 = z at *
          go_wp2_with (at_builtin; refine wpList_append_src rfl _ _ rfl w.heap.size _ _ m 1 (us ys) [.int .u32 z] rfl (h3'.alloc _) rfl (Or.inr ⟨_, 1, rfl, rfl, cell_one_new _ _ _, by simp [Value.oneCell']⟩) (by omega) (by simp; omega) ?_)
          intro vy w2 hownY hgrowY hatY
          obtain ⟨b2, hb2, s2⟩ := HG.out _ _ hgrowY
          have hck2 : ∀ i, w2.cell? ⟨g, i, none⟩ = wr.cell? ⟨g, i, none⟩ := fun i => World.cell?_of_block (w := wr) (a := ⟨g, i, none⟩) hb2
          clear hck
          go_wp2_with (fail)
          have hcpk : (0 : Int) ≤ (cp : Int) := by omega
          have lg2 : g < w2.heap.size := by omega
          have HCL : Hid (∀ i, i < n → w2.cell? ⟨g, i, none⟩ = some (.int .u32 (ls.getD i 0))) := fun i hi => (hck2 i).trans (HCE.out i hi)
          have HCO : Hid (UL (w2.alloc (.cells #[] 37)).drew w.heap.size (.slice (some ⟨w2.heap.size, 0, none⟩) 0 0) []) := (comp_own w2 w.heap.size (by omega)).keep (fun _ _ => rfl)
          have HSA : Hid (Src (w2.alloc (.cells #[] 37)).drew (.slice (some ⟨g, 0, none⟩) 0 cp) 0 (us (ls.take 0))) := by
            refine Or.inr ⟨_, _, rfl, by rw [us_len, List.length_take]; omega, fun j u hj => ?_, us_one _⟩
            have hjk : j < 0 := by
              have h9 := (List.getElem?_eq_some_iff.1 hj).1
              rw [us_len, List.length_take] at h9; omega
            rw [add0, World.cell?_of_block (w := w2) (a := ⟨g, j, none⟩) (show (w2.alloc (.cells #[] 37)).drew.heap[g]? = w2.heap[g]? from blk_alloc _ _ _ lg2), HCL.out j (by omega), ← hj]
            rw [us, List.getElem?_map, List.getElem?_take_of_lt hjk, List.getD_eq_getElem?_getD, List.getElem?_eq_getElem (by omega)]; rfl
          have HSB : Hid (∀ w3, (w2.alloc (.cells #[] 37)).drew.grownBy w3 (some w2.heap.size) → Src w3 (.slice (if cp = 1 then some ⟨g, 0, none⟩ else some ⟨g, 1, none⟩) (n - (1)) (cp - (1))) (n - (1)) (us (ls.drop (1)))) := fun w3 hg => by
            refine srcB hn hkn hcp (fun i hi => ?_)
            have hs0 : (w2.alloc (.cells #[] 37)).drew.heap.size = w2.heap.size + 1 := by simp
            rw [World.cell?_of_block (w := w2) (a := ⟨g, i, none⟩) ((hg.block g (by omega) (fun e => by cases e; omega)).trans (blk_alloc _ _ _ lg2))]
            exact HCL.out i hi
          have HST : Hid (∀ (w3 w4 : World) (va vb : Value), (w2.alloc (.cells #[] 37)).drew.grownBy w3 (some w2.heap.size) → (va.ownBlock = some w2.heap.size ∨ va.ownBlock = some (w2.heap.size + 1)) → w3.grownBy w4 va.ownBlock → (vb.ownBlock = va.ownBlock ∨ vb.ownBlock = some w3.heap.size) → w4.ownsRow w.heap.size 37 1 vb (n - 1) (us (ls.take 0) ++ us (ls.drop (1))) → OS w w4 vb vy (ls.take 0 ++ ls.drop (1)) (ys ++ [z]) xs) := fun w3 w4 va vb h1 h2 h3 h4 h5 => by
            have h := os_step hn hm hkn HO.out.2.2.2.2 b2 (by rw [hz]; exact hownY) h1 h2 h3 h4 (by rw [Nat.zero_add]; exact h5)
            rw [hz] at h; exact h
          have hbk : 0 ≤ (1 : Int) ∧ (1 : Int) ≤ (n : Int) := by omega
          have hw2s : w.heap.size ≤ w2.heap.size := by omega
          have HYL : Hid ((ys ++ [z]).length = m + 1) := by show _ = _; rw [List.length_append, hm]; rfl
          clear hck2 HCE HG HCL hownY hgrowY hatY
          go_region_law ((first
            | (refine step_append_src (by rfl) _ _ (by rfl) w.heap.size (.slice (some ⟨w2.heap.size, 0, none⟩) 0 0) (.slice (some ⟨g, 0, none⟩) 0 cp) 0 0 (us []) (us (ls.take 0)) (by rfl) HCO.out (by rfl) HSA.out (by omega) (by simp; omega) ?_; intro va w3 hownA hgrowA hatA)
            | (refine step_append_src (by rfl) _ _ (by rfl) w.heap.size va _ _ (n - (1)) _ (us (ls.drop (1))) (by rfl) hownA (by rfl) (HSB.out w3 hgrowA) (by omega) (by have h9 := hgrowA.size; simp at h9; omega) ?_; intro vb w4 hownB hgrowB hatB)))
          have hownB' : w4.ownsRow w.heap.size 37 1 vb (n - 1) (us (ls.take 0) ++ us (ls.drop (1))) := by
            have h := hownB
            simp only [us_nil, Nat.zero_add, List.nil_append] at h; exact h
          have hatA' : va.ownBlock = some w2.heap.size ∨ va.ownBlock = some (w2.heap.size + 1) := by
            rcases hatA with h | h
            · exact Or.inl h
            · exact Or.inr (by simpa using h)
          have HF : Hid (OS w w4 vb vy (ls.take 0 ++ ls.drop (1)) (ys ++ [z]) xs) := HST.out w3 w4 va vb hgrowA hatA' hgrowB hatB hownB'
          have HLV : Hid (lenV vb = n - 1) := lenV_own hownB'
          clear hownB hownB' hatA hatA' hgrowA hgrowB hatB hownA HSB HST HSA HCO HL h3' hbk
          go_wp2
          refine ⟨⟨ls.take 0 ++ ls.drop (1), ys ++ [z], ?_, HF.out⟩, ?_⟩
          · rw [HYL.out]; go_num
          · rw [HLV.out, lenV_s]; omega
end Ty
end Go.Proofs.YtbnmjmlcedkoaabDoor
