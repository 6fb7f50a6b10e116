import Derived.Test.YtiljdiagabepbaaDoorPbF
import Derived.Test.YtiljdiagabepbaaDoorPbG1
import Derived.Deep.RegionHeld3
namespace Go.Proofs.YtiljdiagabepbaaDoor
namespace Pb
open Go.RowKit
set_option linter.unusedVariables false
/-- The cells of a file. -/
def fl (bytes : Value) (next writes wrote reads rb seeks : Int) : Array Value :=
  #[bytes, .int .i64 0, .int .i64 next, .string ⟨#[]⟩, .int .i64 0, .int .i64 0, .int .i64 reads, .int .i64 rb, .int .i64 writes, .int .i64 wrote, .int .i64 seeks]
theorem two_blk (w : World) (o1 o2 : Obj) : ((w.alloc o1).alloc o2).heap[w.heap.size]? = some o1 ∧ ((w.alloc o1).alloc o2).heap[w.heap.size + 1]? = some o2 := by
  have h := heap_alloc_last (w.alloc o1) o2
  have e : (w.alloc o1).heap.size = w.heap.size + 1 := by simp
  rw [e] at h
  exact ⟨(Go.Deep.blk_alloc_lt _ _ _ (by rw [e]; omega)).trans (heap_alloc_last w o1), h⟩
set_option maxHeartbeats 1600000 in
set_option maxRecDepth 8000 in
theorem create_clo (g gp gn gd bd bn : Nat) (q ops used : Int) (w : World) (hg : w.heap[g]? = some (.cells (dk g q ops gp gn gd (.slice none 0 0) used) 68 (0, 0))) (hn : w.heap[gn]? = some (.map #[] 0)) (hd : w.heap[bd]? = some (.cells #[.pointer (some ⟨g, 0, none⟩)] 23 (0, 0))) (hs : w.heap[bn]? = some (.cells #[.string ⟨#[102]⟩] 9 (0, 0))) :
    Calls Tryd.prog 21 (#[.agg #[.int .i64 0, .int .i64 0, .int .i64 0]] ++ #[.pointer (some ⟨bd, 0, none⟩), .pointer (some ⟨bn, 0, none⟩)]) w fun e w' => ∃ E, e = .returned (.int .i64 E) ∧ E = 0 ∧ ∃ gf ch, w'.heap[g]? = some (.cells (dk g q ops gp gn gd ch used) 68 (0, 0)) ∧ w'.heap[gn]? = some (.map (m1 gf 0) 1) ∧ w'.heap[gf]? = some (.cells (fl (.slice none 0 0) 0 0 0 0 0 0) 79 (0, 0)) ∧ w.heap.size ≤ gf ∧ (∀ k, k < w.heap.size → k ≠ gn → k ≠ g → w'.heap[k]? = w.heap[k]?) ∧ ∀ B w0, Below B w0 w → B ≤ gn → B ≤ g → Below B w0 w' := by
  show Calls Tryd.prog 21 #[.agg #[.int .i64 0, .int .i64 0, .int .i64 0], .pointer (some ⟨bd, 0, none⟩), .pointer (some ⟨bn, 0, none⟩)] w _
  have lg := (Array.getElem?_eq_some_iff.1 hg).1
  have ln := (Array.getElem?_eq_some_iff.1 hn).1
  have ld := (Array.getElem?_eq_some_iff.1 hd).1
  have ls := (Array.getElem?_eq_some_iff.1 hs).1
  obtain ⟨v, hv, gv, nv, dv, nsv, sv, ov, bv⟩ : ∃ v, w.alloc (.cells #[.int .i64 0, .int .i64 0, .int .i64 0] 73) = v ∧ v.heap[g]? = some (.cells (dk g q ops gp gn gd (.slice none 0 0) used) 68 (0, 0)) ∧ v.heap[gn]? = some (.map #[] 0) ∧ v.heap[bd]? = some (.cells #[.pointer (some ⟨g, 0, none⟩)] 23 (0, 0)) ∧ v.heap[bn]? = some (.cells #[.string ⟨#[102]⟩] 9 (0, 0)) ∧ v.heap.size = w.heap.size + 1 ∧ (∀ k, k < w.heap.size → v.heap[k]? = w.heap[k]?) ∧ ∀ B w0, Below B w0 w → B ≤ gn → Below B w0 v :=
    ⟨_, rfl, (Go.Deep.blk_alloc_lt _ _ _ lg).trans hg, (Go.Deep.blk_alloc_lt _ _ _ ln).trans hn, (Go.Deep.blk_alloc_lt _ _ _ ld).trans hd, (Go.Deep.blk_alloc_lt _ _ _ ls).trans hs, by simp, fun k hk => Go.Deep.blk_alloc_lt _ _ _ hk, fun B w0 h hb => h.alloc (by omega) _⟩
  obtain ⟨c7, -⟩ := dcell gv 7 (.map (some gn)) rfl
  obtain ⟨d0, -⟩ := dcell dv 0 (.pointer (some ⟨g, 0, none⟩)) rfl
  obtain ⟨s0, -⟩ := dcell nsv 0 (.string ⟨#[102]⟩) rfl
  have HFN : Hid (∀ W, W.heap[gn]? = some (.map #[] 0) → Calls Tryd.prog 22 #[.map (some gn), .string ⟨#[102]⟩] W fun e w' => e = .returned (.tuple #[.pointer none, .int .i64 31]) ∧ w' = W) := fun W h => find_none gn 0 #[] W h rfl
  have hlen : ∀ W : World, W.heap[gn]? = some (.map #[] 0) → (Builtin.len_ #[65] 3 #[.map (some gn)]).run Tryd.prog W = .ok (.int .i64 0) W := fun W h => by simp [Builtin.len_, get_map h]; rfl
  go_enter Tryd.func21, Tryd.ntmps21
  go_wp2
  clear hv
  have hS0 : Hid (v.drew.cell? ⟨bd, 0, none⟩ = some (.pointer (some ⟨g, 0, none⟩)) ∧ v.drew.cell? ⟨g, 7, none⟩ = some (.map (some gn)) ∧ v.drew.cell? ⟨bn, 0, none⟩ = some (.string ⟨#[102]⟩)) := ⟨d0, c7, s0⟩
  go_region_held3 (fun W => W.cell? ⟨bd, 0, none⟩ = some (.pointer (some ⟨g, 0, none⟩)) ∧ W.cell? ⟨g, 7, none⟩ = some (.map (some gn)) ∧ W.cell? ⟨bn, 0, none⟩ = some (.string ⟨#[102]⟩)) ((with_reducible exact hS0.out))
    ((go_at_call 22; refine (HFN.out _ (by exact nv)).mono ?_; rintro e5 w5 ⟨rfl, h5⟩; subst w5))
  have hl1 := hlen v.drew nv
  clear hS0
  have hne : gn ≠ g := by rintro rfl; rw [hg] at hn; cases hn
  obtain ⟨X, hX, gX, nX, fX, sX, oX, bX⟩ : ∃ X, (v.alloc (.cells (fl (.slice none 0 0) 0 0 0 0 0 0) 79)).drew = X ∧ X.heap[g]? = some (.cells (dk g q ops gp gn gd (.slice none 0 0) used) 68 (0, 0)) ∧ X.heap[gn]? = some (.map #[] 0) ∧ X.heap[w.heap.size + 1]? = some (.cells (fl (.slice none 0 0) 0 0 0 0 0 0) 79 (0, 0)) ∧ X.heap.size = w.heap.size + 1 + 1 ∧ (∀ k, k < w.heap.size → X.heap[k]? = w.heap[k]?) ∧ ∀ B w0, Below B w0 w → B ≤ gn → Below B w0 X := by
    refine ⟨_, rfl, (Go.Deep.blk_alloc_lt _ _ _ (by omega)).trans gv, (Go.Deep.blk_alloc_lt _ _ _ (by omega)).trans nv, ?_, ?_, fun k hk => (Go.Deep.blk_alloc_lt _ _ _ (by omega)).trans (ov k hk), fun B w0 h hb => ((bv B w0 h hb).alloc (by omega) _).drew⟩
    · have h := heap_alloc_last v (.cells (fl (.slice none 0 0) 0 0 0 0 0 0) 79)
      rw [sv] at h; exact h
    · show (v.alloc _).heap.size = _; simp [sv]
  go_wp2_with (fail)
  have hX' : (v.alloc (.cells #[.slice none 0 0, .int .i64 0, .int .i64 0, .string ⟨#[]⟩, .int .i64 0, .int .i64 0, .int .i64 0, .int .i64 0, .int .i64 0, .int .i64 0, .int .i64 0] 79)).drew = X := hX
  rw [hX']
  refine (alter_new g gp gn gd (w.heap.size + 1) q ops used X gX nX).mono ?_
  rintro e6 w6 ⟨rfl, ⟨ch, g6⟩, n6, s6, o6, b6⟩
  go_wp2
  go_ret
  exact ⟨0, rfl, rfl, w.heap.size + 1, ch, g6, n6, (o6 _ (by omega) (by omega) (by omega)).trans fX, by omega, fun k hk h1 h2 => (o6 k (by omega) h1 h2).trans (oX k hk), fun B w0 h hb1 hb2 => b6 B w0 (bX B w0 h hb1) hb1 hb2⟩
/-- A disk without faults, with the one file f in it: what lies where. -/
def DS (w0 w : World) (g gp gn gd gf : Nat) (q ops used : Int) (ch : Value) (fc : Array Value) : Prop :=
  Below w0.heap.size w0 w ∧ w0.heap.size ≤ g ∧ w0.heap.size ≤ gn ∧ w0.heap.size ≤ gf ∧ w.heap[g]? = some (.cells (dk g q ops gp gn gd ch used) 68 (0, 0)) ∧ w.heap[gp]? = some (.map #[] 0) ∧ w.heap[gn]? = some (.map (m1 gf 0) 1) ∧ w.heap[gf]? = some (.cells fc 79 (0, 0)) ∧ g ≠ gf
set_option maxHeartbeats 1600000 in
set_option maxRecDepth 8000 in
theorem create_f (w0 : World) (g gp gn gd : Nat) (q ops used : Int) (w : World) (ho : 0 ≤ ops) (ho1 : ops < 4611686018427387904) (hB : Below w0.heap.size w0 w) (hBg : w0.heap.size ≤ g) (hBn : w0.heap.size ≤ gn) (hpn : gp ≠ gn) (hg : w.heap[g]? = some (.cells (dk g q ops gp gn gd (.slice none 0 0) used) 68 (0, 0))) (hp : w.heap[gp]? = some (.map #[] 0)) (hn : w.heap[gn]? = some (.map #[] 0)) :
    Calls Tryd.prog 8 #[.pointer (some ⟨g, 0, none⟩), .string ⟨#[102]⟩] w fun e w' => e = .returned (.int .i64 0) ∧ ∃ gf ch, DS w0 w' g gp gn gd gf q (ops + 1) used ch (fl (.slice none 0 0) 0 0 0 0 0 0) := by
  have lg := (Array.getElem?_eq_some_iff.1 hg).1
  have lp := (Array.getElem?_eq_some_iff.1 hp).1
  have ln := (Array.getElem?_eq_some_iff.1 hn).1
  have hng : gn ≠ g := by rintro rfl; rw [hg] at hn; cases hn
  have hpg : gp ≠ g := by rintro rfl; rw [hg] at hp; cases hp
  obtain ⟨v, hv, gv, pv, nv, dv, nsv, sv, bv⟩ : ∃ v, (w.alloc (.cells #[.pointer (some ⟨g, 0, none⟩)] 23)).alloc (.cells #[.string ⟨#[102]⟩] 9) = v ∧ v.heap[g]? = some (.cells (dk g q ops gp gn gd (.slice none 0 0) used) 68 (0, 0)) ∧ v.heap[gp]? = some (.map #[] 0) ∧ v.heap[gn]? = some (.map #[] 0) ∧ v.heap[w.heap.size]? = some (.cells #[.pointer (some ⟨g, 0, none⟩)] 23 (0, 0)) ∧ v.heap[w.heap.size + 1]? = some (.cells #[.string ⟨#[102]⟩] 9 (0, 0)) ∧ v.heap.size = w.heap.size + 1 + 1 ∧ Below w0.heap.size w0 v :=
    ⟨_, rfl, (Go.Deep.blk_alloc_lt _ _ _ (by simp; omega)).trans ((Go.Deep.blk_alloc_lt _ _ _ lg).trans hg), (Go.Deep.blk_alloc_lt _ _ _ (by simp; omega)).trans ((Go.Deep.blk_alloc_lt _ _ _ lp).trans hp), (Go.Deep.blk_alloc_lt _ _ _ (by simp; omega)).trans ((Go.Deep.blk_alloc_lt _ _ _ ln).trans hn), (two_blk w _ _).1, (two_blk w _ _).2, by simp, (hB.alloc hB.size _).alloc (by have := hB.size; simp; omega) _⟩
  obtain ⟨x1, -⟩ := dcell dv 0 (.pointer (some ⟨g, 0, none⟩)) rfl
  have HG : Hid (Calls Tryd.prog 20 #[.pointer (some ⟨g, 0, none⟩), .int .u8 8, .func (.func 21) #[] #[.pointer (some ⟨w.heap.size, 0, none⟩), .pointer (some ⟨w.heap.size + 1, 0, none⟩)]] v fun e w' => ∃ E, e = .returned (.int .i64 E) ∧ E = 0 ∧ ∃ gf ch, DS w0 w' g gp gn gd gf q (ops + 1) used ch (fl (.slice none 0 0) 0 0 0 0 0 0)) := by
    refine gate_create g gp gn gd q ops used _ _ v (fun E w' => E = 0 ∧ ∃ gf ch, DS w0 w' g gp gn gd gf q (ops + 1) used ch (fl (.slice none 0 0) 0 0 0 0 0 0)) ho ho1 gv pv (fun W hW bW => ?_)
    have bs : Below w0.heap.size w0 (v.setCell ⟨g, 2, none⟩ (.int .i64 (ops + 1))) := bv.setCell hBg _
    have hbl : ∀ k, k < v.heap.size → k ≠ g → W.heap[k]? = v.heap[k]? := fun k hk hk2 => (bW.block k hk).trans (Go.Deep.blk_setCell_other _ _ _ _ hk2)
    have bsz := bW.size
    have hvw : (v.setCell ⟨g, 2, none⟩ (.int .i64 (ops + 1))).heap.size = v.heap.size := by simp
    have bW0 : Below w0.heap.size w0 W := bs.trans (bW.mono (by have := bv.size; omega))
    refine (create_clo g gp gn gd w.heap.size (w.heap.size + 1) q (ops + 1) used W hW ((hbl gn (by omega) hng).trans nv) ((hbl _ (by omega) (by omega)).trans dv) ((hbl _ (by omega) (by omega)).trans nsv)).mono ?_
    rintro e w' ⟨E, rfl, hE, gf, ch, q1, q2, q3, q4, q5, q6⟩
    have hgW := (Array.getElem?_eq_some_iff.1 hW).1
    refine ⟨E, rfl, hE, gf, ch, q6 _ _ bW0 hBn hBg, hBg, hBn, by have := bW0.size; omega, q1, ?_, q2, q3, by omega⟩
    exact (q5 gp (by omega) hpn hpg).trans ((hbl gp (by omega) hpg).trans pv)
  clear gv pv nv nsv bv
  go_enter Tryd.func8, Tryd.ntmps8
  go_wp2_with (fail)
  refine HG.out.mono ?_
  rintro e3 w3 ⟨E, rfl, rfl, hD⟩
  go_wp2
  go_ret
  exact ⟨rfl, hD⟩
end Pb
end Go.Proofs.YtiljdiagabepbaaDoor
