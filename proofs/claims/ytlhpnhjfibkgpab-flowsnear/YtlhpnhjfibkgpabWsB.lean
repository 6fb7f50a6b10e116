import Derived.Test.YtlhpnhjfibkgpabWsA
namespace Go.Proofs.Ytlhpnhjfibkgpab
namespace Wp
open Go.RowKit
set_option linter.unusedVariables false
set_option maxRecDepth 8000
theorem infoW : (Try.prog.info? 34).map (fun i => (i.zero, i.size, i.bytes)) = some (some (.int .u64 0), 1, 8) := by kernel_rfl
theorem make_word (w : World) (n : Nat) (hn : n ≤ 1000000) : (Instr.makeSlice 43 (.int .u32 (n : Int)) (.int .u32 (n : Int))).run Try.prog w = .ok (.slice (some ⟨w.heap.size, 0, none⟩) n n) (w.alloc (.cells (madeCells #[.int .u64 0] n) 34)) := by
  have h := infoW
  cases hh : Try.prog.info? 34 with
  | none => rw [hh] at h; cases h
  | some i =>
    rw [hh] at h
    simp at h
    have hr := run_make (P := Try.prog) w 43 34 i (.int .u64 0) Try.underlying43 hh h.1 .u32 .u32 n n (by omega) (by omega) (by rw [h.2.2]; omega) (by omega)
    rw [h.2.1] at hr
    simp only [Int.toNat_natCast, Nat.mul_one] at hr
    rw [hr]
    rfl
theorem GU.new (w : World) (n : Nat) : GU (w.alloc (.cells (madeCells #[.int .u64 0] n) 34)) w.heap.size n (fun _ => 0) := by
  refine ⟨_, at0 _ _, fun j hj => ?_⟩
  simp [madeCells, hj, Nat.mod_one]
end Wp
end Go.Proofs.Ytlhpnhjfibkgpab
