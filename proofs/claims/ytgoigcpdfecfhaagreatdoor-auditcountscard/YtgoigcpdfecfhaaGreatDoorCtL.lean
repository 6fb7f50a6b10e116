import Derived.Test.YtgoigcpdfecfhaaGreatDoorCtK
import Derived.Test.YtgoigcpdfecfhaaGreatDoorCsD
namespace Go.Proofs.YtgoigcpdfecfhaaGreatDoor
namespace Au
open Go.RowKit
set_option linter.unusedVariables false
set_option maxRecDepth 8000
theorem d19 (c : Cs) (L : List T3) (S : Nat → Nat → Int) (f D : Int) (o : Vd) (b : Bool) (x y : Int) (w : World) (hf0 : 0 ≤ f) (hl12 : L.length * 12 ≤ 140737488351232) (hsd : 0 ≤ c.seed ∧ c.seed < 18446744073709551616) (hL : c.en = L.length)
    (hD : dk (rz c.N (rn c)) c.N c.sn (rm c) 2 0 L f = D) (hva : D = 0 → b = vR o ∧ x = vV o ∧ y = vK o) (hS : Row8 w c.sa c.sn S) (hE : Row3 .u32 w c.ea L) (hD0 : D = 0) (hP : AR c.N L c.seed (rn c).toNat S o) (W : World) (hW : Below w.heap.size w W) :
    Calls Tryz.prog 19 #[.int .u32 (c.N : Int), .int .i64 (rn c), .int .u64 c.seed, .slice c.ea c.en c.ec, .slice c.sa c.sn c.sc] W fun e w' => e = .returned (.agg #[.bool b, .int .u32 x, .int .i64 y]) ∧ Below W.heap.size W w' := by
  obtain ⟨hz, hsn, hrl, hgd⟩ := dz hf0 hD hD0
  obtain ⟨hn0, hr1⟩ := rz_zero hz
  have hrm := (rm_b c).1
  have hrn := rn_b c
  obtain ⟨eb, ex, ey⟩ := hva hD0
  have hr := hS.on hW (Nat.le_refl _)
  rw [hL]
  rw [hsn] at hr ⊢
  have h := rregs_any c.N L.length c.ec c.sc (rn c).toNat c.ea c.sa L c.seed S hsd.1 hsd.2 rfl hn0 (by omega) (by omega) (by omega) (by omega) W (hE.on hW (Nat.le_refl _)) hr hgd
  rw [show ((rn c).toNat : Int) = rn c by omega] at h
  refine h.mono ?_
  rintro e w' ⟨o', rfl, hl, hb⟩
  obtain rfl : o' = o := hl.one hP
  rw [eb, ex, ey]
  exact ⟨rfl, hb⟩
end Au
end Go.Proofs.YtgoigcpdfecfhaaGreatDoor
