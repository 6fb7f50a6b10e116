import Derived.Test.YtclgbificccadaaSvR
namespace Go.Proofs.Ytclgbificccadaa
namespace Sv
open Go.RowKit Go.Shelf
set_option linter.unusedVariables false
attribute [local go_sem] Oper.semAt_some
/-- The first n records of a list, and zeros behind its end. -/
def ups (L : List T3) (n : Nat) : List T3 := (List.range n).map fun i => (L[i]?).getD (0, 0, 0)
theorem ups_len (L : List T3) (n : Nat) : (ups L n).length = n := by simp [ups]
theorem ups_zero (L : List T3) : ups L 0 = [] := rfl
theorem ups_succ (L : List T3) (n : Nat) : ups L (n + 1) = ups L n ++ [(L[n]?).getD (0, 0, 0)] := by simp [ups, List.range_succ]
theorem ups_self (L : List T3) : ups L L.length = L := by
  apply List.ext_getElem?
  intro i
  by_cases h : i < L.length
  · simp [ups, h]
  · rw [List.getElem?_eq_none (by rw [ups_len]; omega), List.getElem?_eq_none (by omega)]
theorem ups_nil (n : Nat) : ups [] n = List.replicate n (0, 0, 0) := by
  induction n with
  | zero => rfl
  | succ n ih => rw [ups_succ, ih, List.replicate_succ']; rfl
abbrev m77 : T3 := (77, 77, 77)
abbrev m78 : T3 := (78, 78, 78)
theorem src_newL (w : World) (cs : List Value) (m c : Nat) (t : TypeId) (hl : cs.length = m * 3) (h1 : ∀ u ∈ cs, u.oneCell' = true) : Src (w.alloc (.cells cs.toArray t)) (.slice (some ⟨w.heap.size, 0, none⟩) m c) m cs :=
  .inr ⟨_, _, rfl, hl, (fun j u hj => by rw [add0]; exact cell_new _ _ _ _ _ _ rfl (by simpa using hj)), h1⟩
theorem src_two3 (w : World) (a b c : Int) : Src ((w.alloc (.cells #[.int .u32 a, .int .u64 b, .int .u64 c] 44)).alloc (.cells #[.int .u32 a, .int .u64 b, .int .u64 c] 44)) (.slice (some ⟨w.heap.size + 1, 0, none⟩) 1 1) 1 [.int .u32 a, .int .u64 b, .int .u64 c] := by
  have h := src_new3 (w.alloc (.cells #[.int .u32 a, .int .u64 b, .int .u64 c] 44)) (.int .u32 a) (.int .u64 b) (.int .u64 c) 44 rfl rfl rfl 1
  rw [World.size_alloc] at h
  exact h
set_option maxRecDepth 20000 in
set_option maxHeartbeats 4000000 in
theorem updates_any (a : Option Addr) (c : Nat) (L : List T3) (n : Nat) (hn : (n + 2) * 24 ≤ 140737488355328) (w : World) (hr : Row3 .u64 w a L) :
    Calls Try.prog 24 #[.slice a L.length c, .int .i64 (n : Int)] w fun e w' => ∃ g cap T, e = .returned (.slice (some ⟨g, 0, none⟩) n cap) ∧ n + 2 ≤ cap ∧ w.heap.size ≤ g ∧ Below w.heap.size w w' ∧ Rv w' g 44 (cl .u64 (ups L n ++ [m77, m78]) ++ T) := by
  have HR : Hid (∀ W, Below w.heap.size w W → Row3 .u64 W a L) := fun W hW => hr.on hW (Nat.le_refl _)
  clear hr
  go_enter Try.func24, Try.ntmps24
  go_wp2
  go_loopw [6, 5] (fun i v wr => ∃ j : Nat, j ≤ n ∧ i = .int .i64 (j : Int) ∧ wr.ownsRow w.heap.size 44 3 v j (cl .u64 (ups L j)) ∧ Below w.heap.size w wr) (fun i _ _ => n - (intOf i).toNat)
  case atStart => exact ⟨0, Nat.zero_le _, rfl, World.ownsRow_nil _ _ _ _, Below.refl _ _⟩
  case round =>
    obtain ⟨j, hj, rfl, hO, hB⟩ := hrel
    have hsz := hB.size
    have HO : Hid (wr.ownsRow w.heap.size 44 3 u5 j (cl .u64 (ups L j))) := hO
    have HB : Hid (Below w.heap.size w wr) := hB
    clear hO hB
    by_cases hjn : j < n
    · have hjn' : (j : Int) < (n : Int) := by omega
      obtain ⟨e, he⟩ : ∃ e, e = (L[j]?).getD (0, 0, 0) := ⟨_, rfl⟩
      have HE : Hid (ups L (j + 1) = ups L j ++ [e]) := by show ups L (j + 1) = ups L j ++ [e]; rw [ups_succ, he]
      by_cases hjl : j < L.length
      · have he' : L[j]? = some e := by rw [he, List.getElem?_eq_getElem hjl]; rfl
        obtain ⟨x, rfl, hx⟩ := HR.out (wr.alloc (.cells #[.int .u32 0, .int .u64 0, .int .u64 0] 44)) (HB.out.alloc hsz _) (by omega)
        obtain ⟨x0, x1, x2⟩ := cells3 (hx.2 j e he')
        have hjl' : (j : Int) < (L.length : Int) := by omega
        clear hx he he'
        have HS : Hid (Src ((wr.alloc (.cells #[.int .u32 e.1, .int .u64 e.2.1, .int .u64 e.2.2] 44)).alloc (.cells #[.int .u32 e.1, .int .u64 e.2.1, .int .u64 e.2.2] 44)) (.slice (some ⟨wr.heap.size + 1, 0, none⟩) 1 1) 1 [.int .u32 e.1, .int .u64 e.2.1, .int .u64 e.2.2]) := src_two3 wr _ _ _
        go_wp2_with (at_builtin; refine wpList_append3 tpU rfl _ _ rfl w.heap.size u5 _ j 1 (cl .u64 (ups L j)) [.int .u32 e.1, .int .u64 e.2.1, .int .u64 e.2.2] rfl ((HO.out.alloc _).alloc _) rfl HS.out (by omega) (by decide) (by simp only [World.size_alloc]; omega) ?_)
        intro v1 w1 hown hgr hat
        have hB1 : Below w.heap.size w w1 := ((HB.out.alloc hsz _).alloc (by simp; omega) _).grown hgr (by simp; omega) (fun j hj => (HO.out.lt j hj).1)
        have HO1 : Hid (w1.ownsRow w.heap.size 44 3 v1 (j + 1) (cl .u64 (ups L (j + 1)))) := by rw [HE.out, cl_app]; exact hown
        have HB1 : Hid (Below w.heap.size w w1) := hB1
        clear hown hgr hat hB1 HO HB HE x0 x1 x2 HR
        go_wp2
        exact ⟨⟨j + 1, by omega, by go_num, HO1.out, HB1.out⟩, by simp [intOf]; omega⟩
      · have hjl' : ¬ (j : Int) < (L.length : Int) := by omega
        obtain rfl : e = (0, 0, 0) := by rw [he, List.getElem?_eq_none (by omega)]; rfl
        clear he
        have HS : Hid (Src ((wr.alloc (.cells #[.int .u32 0, .int .u64 0, .int .u64 0] 44)).alloc (.cells #[.int .u32 0, .int .u64 0, .int .u64 0] 44)) (.slice (some ⟨wr.heap.size + 1, 0, none⟩) 1 1) 1 [.int .u32 0, .int .u64 0, .int .u64 0]) := src_two3 wr _ _ _
        go_wp2_with (at_builtin; refine wpList_append3 tpU rfl _ _ rfl w.heap.size u5 _ j 1 (cl .u64 (ups L j)) [.int .u32 0, .int .u64 0, .int .u64 0] rfl ((HO.out.alloc _).alloc _) rfl HS.out (by omega) (by decide) (by simp only [World.size_alloc]; omega) ?_)
        intro v1 w1 hown hgr hat
        have hB1 : Below w.heap.size w w1 := ((HB.out.alloc hsz _).alloc (by simp; omega) _).grown hgr (by simp; omega) (fun j hj => (HO.out.lt j hj).1)
        have HO1 : Hid (w1.ownsRow w.heap.size 44 3 v1 (j + 1) (cl .u64 (ups L (j + 1)))) := by rw [HE.out, cl_app]; exact hown
        have HB1 : Hid (Below w.heap.size w w1) := hB1
        clear hown hgr hat hB1 HO HB HE HR
        go_wp2
        exact ⟨⟨j + 1, by omega, by go_num, HO1.out, HB1.out⟩, by simp [intOf]; omega⟩
    · obtain rfl : j = n := by omega
      have HS : Hid (Src (wr.alloc (.cells #[.int .u32 77, .int .u64 77, .int .u64 77, .int .u32 78, .int .u64 78, .int .u64 78] 44)) (.slice (some ⟨wr.heap.size, 0, none⟩) 2 2) 2 (cl .u64 [m77, m78])) := src_newL wr (cl .u64 [m77, m78]) 2 2 44 rfl (cl_one .u64 _)
      go_wp2_with (at_builtin; refine wpList_append3 tpU rfl _ _ rfl w.heap.size u5 _ j 2 (cl .u64 (ups L j)) (cl .u64 [m77, m78]) rfl (HO.out.alloc _) rfl HS.out (by omega) (by decide) (by simp only [World.size_alloc]; omega) ?_)
      intro v1 w1 hown hgr hat
      have hB1 : Below w.heap.size w w1 := (HB.out.alloc hsz _).grown hgr (by simp; omega) (fun j hj => (HO.out.lt j hj).1)
      rw [← cl_app] at hown
      have hul := ups_len L j
      rcases hown.2 with ⟨rfl, h0⟩ | ⟨g, cap, cur, rfl, h1, h2, h3, h4, h5, h6⟩
      · omega
      · have hRv : Rv w1 g 44 (cl .u64 (ups L j ++ [m77, m78]) ++ cur.toList.drop ((j + 2) * 3)) := by
          unfold Rv
          rw [← h6, List.take_append_drop, Array.toArray_toList]
          exact h2
        have HF : Hid (w.heap.size ≤ g ∧ Below w.heap.size w w1 ∧ Rv w1 g 44 (cl .u64 (ups L j ++ [m77, m78]) ++ cur.toList.drop ((j + 2) * 3))) := ⟨h1, hB1, hRv⟩
        have hjc : (j : Int) ≤ (cap : Int) := by omega
        clear hown hgr hat h1 h2 h4 h5 h6 hRv hB1 HO HB HR HS
        go_wp2
        go_ret
        exact ⟨g, cap, _, rfl, h3, HF.out.1, HF.out.2.1, HF.out.2.2⟩
end Sv
end Go.Proofs.Ytclgbificccadaa
