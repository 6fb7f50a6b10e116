import Derived.Test.YtiljdiagabepbaaDoorPbP
import Derived.Shelf.SlIter.Nil
import Derived.Shelf.SortM.Plain
import Derived.Shelf.SortM.SortNone
import Derived.Ground.GgzProg
import Derived.Ground.SlgmProg
namespace Go.Proofs
open Go.RowKit Go.Maps Go.Sort Go.Shelf
shelf_lay_g SlLaysZ.n7 Ggz 7 at Tryd 53 as Tryd.pbKeys
shelf_lay_g SlLaysZ.n6 Ggz 6 at Tryd 52 as Tryd.pbSorted
shelf_lay_g SlLaysM.n6 Slgm 6 at Tryd 72 as Tryd.pbSort
namespace YtiljdiagabepbaaDoor
namespace Pb
set_option linter.unusedVariables false
/-- Sorting texts at this seat. -/
theorem pb_sorts (m : Nat) : AnyZ.SortsIn Tryd.prog Tryd.pbSorted_ren Fence.wide m :=
  ⟨fun blk off cap ss W h1 h2 h3 => callsIn_wide.2 (AnyM.slices_Sort_string Tryd.pbSort blk off cap ss W h1 h2 h3), fun p cap W => callsIn_wide.2 (AnyM.slices_Sort_string_none Tryd.pbSort p cap W)⟩
def pbR : Value → Option (DataW Unit × List MemPlace) := fun _ => some (.lit (.bool true), [])
def pbD : DataW Unit := .map [(.string [102], .lit (.bool true))]
theorem own_m1 (gn gf : Nat) (w : World) (h : w.heap[gn]? = some (.map (m1 gf 0) 1)) : w.ownsMap Tryd.prog 9 pbR gn 1 pbD := by
  have hk : ∀ (v : Value) (b : Nat), Go.WideElems.rd (H := Unit) Tryd.prog 9 pbR ⟨.string ⟨#[102]⟩, v, b⟩ = some (.string [102], .lit (.bool true)) := fun v b => Go.WideElems.rd_mk (R := pbR) (yv := (.lit (.bool true), [])) (Go.WideMaps.keyOf_string_mk Tryd.underlying9 (s := ⟨#[102]⟩) (by decide)) rfl
  refine ⟨m1 gf 0, 1, h, ⟨by simp [m1, maxLen], ?_, ?_⟩, by simp [m1], ?_⟩
  · refine ⟨?_, ?_, ?_⟩ <;> simp [m1]
  · intro x hx
    simp [m1] at hx
    subst hx
    exact ⟨_, hk _ _⟩
  · simp [m1, pbD, Go.WideElems.rg, hk, DataW.insert]
set_option maxHeartbeats 1000000 in
theorem sorted_one : SortedOne := by
  intro gn gf w hn
  have hown := own_m1 gn gf w hn
  have hbl := hown.lt
  have hseq : SeqGives Fence.wide 2 Tryd.prog 73 #[.pointer (some ⟨w.heap.size, 0, none⟩)] encStr (fun ss => ss.Perm (strKeys pbD)) (Maps.size pbD) (w.alloc (.cells #[.map (some gn)] 65)) :=
    AnyZ.keys_gives (ρ := Tryd.pbKeys_ren) { Tryd.pbKeys with } Fence.wide _ trivial rfl (by omega) w.heap.size gn 1 pbD _ (by simp) (by simp) (by
      obtain ⟨es, clock, hb, Ft, hs, hD⟩ := hown
      exact ⟨es, clock, (Below.heap_alloc _ _ gn hbl).trans hb, Ft, hs, hD⟩)
  have HK : Hid (Calls Tryd.prog 53 #[.map (some gn)] w fun e w' => e = .returned (.func (.func 73) #[] #[.pointer (some ⟨w.heap.size, 0, none⟩)]) ∧ w' = w.alloc (.cells #[.map (some gn)] 65)) := callsIn_wide.1 (AnyZ.keys_in Tryd.pbKeys Fence.wide 5 trivial rfl (some gn) w)
  have HS : Hid (Calls Tryd.prog 52 #[.func (.func 73) #[] #[.pointer (some ⟨w.heap.size, 0, none⟩)]] (w.alloc (.cells #[.map (some gn)] 65)) fun e w' => ∃ b cap, e = .returned (.slice (some ⟨b, 0, none⟩) 1 cap) ∧ w.heap.size ≤ b ∧ w'.cell? ⟨b, 0, none⟩ = some (.string ⟨#[102]⟩) ∧ Below w.heap.size w w') := by
    refine (callsIn_wide.1 (AnyZ.sorted_in Tryd.pbSorted Fence.wide 5 trivial trivial trivial trivial rfl (by omega) (pb_sorts _) (enters_of Tryd.func72 (by kernel_rfl) rfl) 73 #[.pointer (some ⟨w.heap.size, 0, none⟩)] trivial (enters_of Tryd.func73 (by kernel_rfl) rfl) _ _ (by decide) (by decide) _ hseq)).mono ?_
    rintro e w' ⟨v, ss, rfl, hp, hrow, hnil, hb⟩
    obtain rfl : ss = [[102]] := List.perm_singleton.1 hp
    have hsz : (w.alloc (.cells #[.map (some gn)] 65)).heap.size = w.heap.size + 1 := by simp
    rcases hrow.2 with ⟨rfl, h0⟩ | ⟨gB, cap, cu, rfl, hbg, hgB, hnc, hcm, hcs, htake⟩
    · exact absurd h0 (by simp)
    · refine ⟨gB, cap, rfl, by omega, ?_, ?_⟩
      · have h1 := hrow.cellAt 0 (by decide)
        rw [h1, List.mergeSort_singleton]
        rfl
      · exact (((Below.refl _ w).alloc (Nat.le_refl _) _)).trans (hb.mono (by omega))
  clear hseq hown
  go_enter Tryd.func25, Tryd.ntmps25
  go_wp2_with (fail)
  refine HK.out.mono ?_
  rintro e1 w1 ⟨rfl, hw1⟩
  subst w1
  go_wp2_with (fail)
  refine HS.out.mono ?_
  rintro e2 w2 ⟨b, cap, rfl, hb, hc, hB⟩
  go_wp2
  go_ret
  exact ⟨b, cap, rfl, hb, hc, hB⟩
end Pb
end YtiljdiagabepbaaDoor
end Go.Proofs
