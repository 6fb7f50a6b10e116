import Derived.Test.YtclgbificccadaaSvV
namespace Go.Proofs.Ytclgbificccadaa
namespace Sv
open Go.RowKit Go.Shelf
set_option linter.unusedVariables false
attribute [local go_sem] Oper.semAt_some
def Ok (A : List Int) (k : Nat) : Prop := ∀ (i : Nat) (x : Int), A[i]? = some x → 0 ≤ x ∧ x < (k : Int)
set_option maxRecDepth 20000 in
set_option maxHeartbeats 4000000 in
theorem order_any (v : Value) (A : List Int) (k : Nat) (hk : k ≤ 512) (hl : A.length * 24 ≤ 140737488355328) (w : World) (hv : IR w v A) :
    Calls Try.prog 25 #[v, .int .i64 (k : Int)] w fun e w' => Below w.heap.size w w' ∧
      ((¬ Ok A k ∧ e = .returned (.tuple #[.slice none 0 0, .slice none 0 0, .bool false])) ∨
        (Ok A k ∧ ∃ vo vs, e = .returned (.tuple #[vo, vs, .bool true]) ∧ IR w' vo (nz (ord A k)) ∧ IR w' vs (sts A k))) := by
  have HV : Hid (∀ W, Below w.heap.size w W → IR W v A) := fun W hW => hv.on hW
  obtain ⟨x, c, rfl, hsome⟩ : ∃ x c, v = .slice x A.length c ∧ (0 < A.length → ∃ g, x = some ⟨g, 0, none⟩) := by
    rcases hv with ⟨h1, h2⟩ | ⟨g, c, h1, _⟩
    · subst h2; exact ⟨none, 0, h1, fun h => by simp at h⟩
    · exact ⟨_, c, h1, fun _ => ⟨g, rfl⟩⟩
  have HC : Hid (∀ W g, Below w.heap.size w W → x = some ⟨g, 0, none⟩ → ∀ i y, A[i]? = some y → W.cell? ⟨g, i, none⟩ = some (.int .i64 y)) := fun W g hW hx i y hy => by
    rcases HV.out W hW with ⟨h1, h2⟩ | ⟨g', c', h1, _, h3⟩
    · subst h2; simp at hy
    · rw [hx] at h1
      simp at h1
      rw [h1.1]
      exact h3 i y hy
  clear hv HV
  have hB1 : Below w.heap.size w (w.alloc (.cells #[.int .i64 0] 3)) := b1 w 3 _
  have hS1 : (w.alloc (.cells #[.int .i64 0] 3)).ownsRow w.heap.size 3 1 (.slice (some ⟨w.heap.size, 0, none⟩) 1 1) 1 (iv [0]) :=
    ⟨rfl, .inr ⟨w.heap.size, 1, #[.int .i64 0], rfl, Nat.le_refl _, World.alloc_heap_new w _, Nat.le_refl _, by decide, rfl, rfl⟩⟩
  go_enter Try.func25, Try.ntmps25
  go_wp2
  obtain ⟨W1, hW1⟩ : ∃ W1, W1 = w.alloc (.cells #[.int .i64 0] 3) := ⟨_, rfl⟩
  rw [← hW1] at hB1 hS1 ⊢
  have hs1 : W1.heap.size = w.heap.size + 1 := by rw [hW1, World.size_alloc]
  clear hW1
  have HS1 : Hid (W1.ownsRow w.heap.size 3 1 (.slice (some ⟨w.heap.size, 0, none⟩) 1 1) 1 (iv [0])) := hS1
  have HB1 : Hid (Below w.heap.size w W1) := hB1
  clear hS1 hB1
  go_loop [9] (fun i => ∃ j : Nat, j ≤ A.length ∧ i = .int .i64 (j : Int) ∧ ∀ i y, i < j → A[i]? = some y → 0 ≤ y ∧ y < (k : Int)) (fun i => A.length - (intOf i).toNat)
  case atStart => exact ⟨0, Nat.zero_le _, rfl, fun i y h => by omega⟩
  case round =>
    obtain ⟨j, hj, rfl, hG⟩ := hrel
    have HG : Hid (∀ i y, i < j → A[i]? = some y → 0 ≤ y ∧ y < (k : Int)) := hG
    clear hG
    by_cases hjl : j < A.length
    · obtain ⟨y, hy⟩ : ∃ y, A[j]? = some y := ⟨A[j], List.getElem?_eq_getElem hjl⟩
      obtain ⟨g, rfl⟩ := hsome (by omega)
      have y0 := HC.out W1 g HB1.out rfl j y hy
      have hjl' : (j : Int) < (A.length : Int) := by omega
      have HY : Hid (A[j]? = some y) := hy
      clear hy hsome
      by_cases h0 : y < 0
      · have HN : Hid (¬ Ok A k) := fun h => by have := (h j y HY.out).1; omega
        clear HC HG HY HS1
        go_wp2
        go_ret3
        exact ⟨HB1.out, .inl ⟨HN.out, rfl⟩⟩
      by_cases hk1 : (k : Int) ≤ y
      · have HN : Hid (¬ Ok A k) := fun h => by have := (h j y HY.out).2; omega
        clear HC HG HY HS1
        go_wp2
        go_ret3
        exact ⟨HB1.out, .inl ⟨HN.out, rfl⟩⟩
      have HG2 : Hid (∀ i z, i < j + 1 → A[i]? = some z → 0 ≤ z ∧ z < (k : Int)) := fun i z hi hz => by
        by_cases e : i < j
        · exact HG.out i z e hz
        · obtain rfl : i = j := by omega
          rw [HY.out] at hz; cases hz; omega
      clear HC HG HY HS1
      go_wp2
      exact ⟨⟨j + 1, by omega, by go_num, HG2.out⟩, by simp [intOf]; omega⟩
    · obtain rfl : j = A.length := by omega
      have HOK : Hid (Ok A k) := fun i y hy => HG.out i y (List.getElem?_eq_some_iff.1 hy).1 hy
      have HGA : Hid (∀ i y, A[i]? = some y → y = (ga A i : Int)) := fun i y hy => by
        have := HOK.out i y hy
        unfold ga; rw [hy]; simp; omega
      clear HG
      go_wp2
      go_loopw [10, 7, 8] (fun p o t wr => ∃ d : Nat, d ≤ k ∧ p = .int .i64 (d : Int) ∧ wr.ownsRow w.heap.size 3 1 o (ord A d).length (iv (nz (ord A d))) ∧ wr.ownsRow w.heap.size 3 1 t (d + 1) (iv (sts A d)) ∧ Dj o t ∧ Below w.heap.size w wr) (fun p _ _ _ => k - (intOf p).toNat)
      case atStart => exact ⟨0, Nat.zero_le _, rfl, World.ownsRow_nil _ _ _ _, by rw [show sts A 0 = [0] by simp [sts, opn_zero]]; exact HS1.out, (fun g hg => by simp [Value.ownBlock] at hg), HB1.out⟩
      case round =>
        clear HS1 HB1
        obtain ⟨d, hd, rfl, hO, hT, hD, hB⟩ := hrel
        by_cases hdk : d < k
        · have hdk' : (d : Int) < (k : Int) := by omega
          have HO : Hid (wr.ownsRow w.heap.size 3 1 u7 (ord A d).length (iv (nz (ord A d)))) := hO
          have HT : Hid (wr.ownsRow w.heap.size 3 1 u8 (d + 1) (iv (sts A d))) := hT
          have HD : Hid (Dj u7 u8) := hD
          have HB : Hid (Below w.heap.size w wr) := hB
          clear hO hT hD hB
          go_wp2
          go_loopw [11, 7] (fun p o wr => ∃ i : Nat, i ≤ A.length ∧ p = .int .i64 (i : Int) ∧ wr.ownsRow w.heap.size 3 1 o ((ord A d) ++ fl A d i).length (iv (nz ((ord A d) ++ fl A d i))) ∧ wr.ownsRow w.heap.size 3 1 u8 (d + 1) (iv (sts A d)) ∧ Dj o u8 ∧ Below w.heap.size w wr) (fun p _ _ => A.length - (intOf p).toNat)
          case atStart => exact ⟨0, Nat.zero_le _, rfl, by rw [fl_zero, List.append_nil]; exact HO.out, HT.out, HD.out, HB.out⟩
          case round =>
            clear HO HT HD HB
            obtain ⟨i, hi, rfl, hO, hT, hD, hB⟩ := hrel
            have HO : Hid (wr.ownsRow w.heap.size 3 1 u7 ((ord A d) ++ fl A d i).length (iv (nz ((ord A d) ++ fl A d i)))) := hO
            have HT : Hid (wr.ownsRow w.heap.size 3 1 u8 (d + 1) (iv (sts A d))) := hT
            have HD : Hid (Dj u7 u8) := hD
            have HB : Hid (Below w.heap.size w wr) := hB
            have hsz := hB.size
            clear hO hT hD hB
            by_cases hil : i < A.length
            · obtain ⟨y, hy⟩ : ∃ y, A[i]? = some y := ⟨A[i], List.getElem?_eq_getElem hil⟩
              obtain ⟨g, rfl⟩ := hsome (by omega)
              have y0 := HC.out wr g HB.out rfl i y hy
              have hyg := HGA.out i y hy
              have hil' : (i : Int) < (A.length : Int) := by omega
              clear hy hsome
              by_cases hyd : y = (d : Int)
              · have HE : Hid (fl A d (i + 1) = fl A d i ++ [i]) := fl_in A d i (by omega)
                subst hyd
                have hlen : ((ord A d) ++ fl A d i).length ≤ 2 * A.length := by
                  have h1 := ord_le A d
                  have h2 := fl_len A d i
                  rw [List.length_append]; omega
                clear hyg
                go_wp2_with (at_builtin; refine wpList_append1 rfl _ _ rfl w.heap.size u7 wr.heap.size 1 ((ord A d) ++ fl A d i).length (nz ((ord A d) ++ fl A d i)) (i : Int) rfl (HO.out.alloc _) rfl (by simp) (by omega) (by simp only [World.size_alloc]; omega) ?_)
                intro v1 w1 hown hgr hat
                have hB1 : Below w.heap.size w w1 := (HB.out.alloc hsz _).grown hgr (by simp only [World.size_alloc]; omega) (fun j hj => (HO.out.lt j hj).1)
                have HF : Hid (w1.ownsRow w.heap.size 3 1 v1 ((ord A d) ++ fl A d (i + 1)).length (iv (nz ((ord A d) ++ fl A d (i + 1)))) ∧ w1.ownsRow w.heap.size 3 1 u8 (d + 1) (iv (sts A d)) ∧ Dj v1 u8 ∧ Below w.heap.size w w1) := by
                  refine ⟨?_, (HT.out.alloc _).kept hgr HD.out.symm.kept, (HD.out.symm.new (N := wr.heap.size + 1) (fun g hg => by have := (HT.out.lt g hg).2; omega) hat).symm, hB1⟩
                  rw [HE.out, ← List.append_assoc, nz_app]
                  rw [List.length_append, List.length_append]
                  exact hown
                clear hown hgr hat hB1 HO HT HD HB HE hlen HC HGA
                go_wp2
                exact ⟨⟨i + 1, by omega, by go_num, HF.out.1, HF.out.2.1, HF.out.2.2.1, HF.out.2.2.2⟩, by simp [intOf]; omega⟩
              · have HE : Hid (fl A d (i + 1) = fl A d i) := fl_out A d i (by omega)
                have HF : Hid (wr.ownsRow w.heap.size 3 1 u7 ((ord A d) ++ fl A d (i + 1)).length (iv (nz ((ord A d) ++ fl A d (i + 1)))) ∧ wr.ownsRow w.heap.size 3 1 u8 (d + 1) (iv (sts A d)) ∧ Dj u7 u8 ∧ Below w.heap.size w wr) := by
                  refine ⟨?_, HT.out, HD.out, HB.out⟩
                  rw [HE.out]; exact HO.out
                have hb : (y == (d : Int)) = false := by simp; exact hyd
                clear HO HT HD HB HE HC HGA hyg hyd
                go_wp2
                exact ⟨⟨i + 1, by omega, by go_num, HF.out.1, HF.out.2.1, HF.out.2.2.1, HF.out.2.2.2⟩, by simp [intOf]; omega⟩
            · obtain rfl : i = A.length := by omega
              rw [← ord_succ] at HO
              have hol := ord_le A (d + 1)
              obtain ⟨x7, c7, rfl⟩ : ∃ x7 c7, u7 = .slice x7 (ord A (d + 1)).length c7 := by
                rcases HO.out.2 with ⟨h1, h0⟩ | ⟨g, cap, cur, h1, _⟩
                · exact ⟨none, 0, by rw [h1, h0]⟩
                · exact ⟨_, cap, h1⟩
              have hel : ((ord A (d + 1)).length : Int) = (opn (ga A) (List.range A.length) (d + 1) : Int) := by rw [ord_len]
              obtain ⟨q, hq⟩ : ∃ q, q = (ord A (d + 1)).length := ⟨_, rfl⟩
              rw [← hq] at HO HD hol hel ⊢
              have HQ : Hid (sts A (d + 1) = sts A d ++ [(q : Int)]) := by show sts A (d + 1) = _; rw [sts_succ, hel]
              have HQ2 : Hid (q = (ord A (d + 1)).length) := hq
              clear hq hel
              go_wp2_with (at_builtin; refine wpList_append1 rfl _ _ rfl w.heap.size u8 wr.heap.size 1 (d + 1) (sts A d) (q : Int) rfl (HT.out.alloc _) rfl (by simp) (by omega) (by simp only [World.size_alloc]; omega) ?_)
              intro v1 w1 hown hgr hat
              have hB1 : Below w.heap.size w w1 := (HB.out.alloc hsz _).grown hgr (by simp only [World.size_alloc]; omega) (fun j hj => (HT.out.lt j hj).1)
              have HF : Hid (w1.ownsRow w.heap.size 3 1 (.slice x7 q c7) (ord A (d + 1)).length (iv (nz (ord A (d + 1)))) ∧ w1.ownsRow w.heap.size 3 1 v1 (d + 1 + 1) (iv (sts A (d + 1))) ∧ Dj (.slice x7 q c7) v1 ∧ Below w.heap.size w w1) := by
                refine ⟨?_, ?_, HD.out.new (N := wr.heap.size + 1) (fun g hg => by have := (HO.out.lt g hg).2; omega) hat, hB1⟩
                · rw [← HQ2.out]; exact (HO.out.alloc _).kept hgr HD.out.kept
                · rw [HQ.out]; exact hown
              clear hown hgr hat hB1 HO HT HD HB HQ HQ2 HC HGA
              go_wp2
              exact ⟨⟨d + 1, by omega, by go_num, HF.out.1, HF.out.2.1, HF.out.2.2.1, HF.out.2.2.2⟩, by simp [intOf]; omega⟩
        · obtain rfl : d = k := by omega
          have HF : Hid (IR wr u7 (nz (ord A d)) ∧ IR wr u8 (sts A d)) := ⟨IR.of hO (nz_len _), IR.of hT (sts_len _ _)⟩
          clear hO hT hD HC HGA
          go_wp2
          go_ret3
          exact ⟨hB, .inr ⟨HOK.out, _, _, rfl, HF.out.1, HF.out.2⟩⟩
end Sv
end Go.Proofs.Ytclgbificccadaa
