import Derived.Test.YtlhpnhjfibkgpaaWvK
import Derived.Test.YtlhpnhjfibkgpaaWrD
namespace Go.Proofs.Ytlhpnhjfibkgpaa
namespace Wp
open Go.RowKit
set_option linter.unusedVariables false
set_option maxRecDepth 8000
/-- A list of bools as it lies. -/
def GT (w : World) (b n : Nat) (H : Nat → Bool) : Prop := ∃ C : Array Value, w.heap[b]? = some (.cells C 4 (0, 0)) ∧ ∀ v, v < n → C[v]? = some (.bool (H v))
theorem GT.lt {w : World} {b n : Nat} {H : Nat → Bool} (h : GT w b n H) : b < w.heap.size := by
  obtain ⟨C, h, _⟩ := h
  exact (Array.getElem?_eq_some_iff.1 h).1
theorem GT.of {w w' : World} {b n : Nat} {H : Nat → Bool} (h : GT w b n H) (e : w'.heap[b]? = w.heap[b]?) : GT w' b n H := by
  obtain ⟨C, h, h2⟩ := h
  exact ⟨C, e.trans h, h2⟩
theorem GT.on {w w' : World} {b n : Nat} {H : Nat → Bool} (h : GT w b n H) (hb : Below w.heap.size w w') : GT w' b n H := h.of (hb.block b h.lt)
theorem GT.cell {w : World} {b n : Nat} {H : Nat → Bool} (h : GT w b n H) (v : Nat) (hv : v < n) : w.cell? ⟨b, v, none⟩ = some (.bool (H v)) := by
  obtain ⟨C, h, h2⟩ := h
  exact (cell_of_row w b _ _ 4 (0, 0) h).trans (h2 v hv)
theorem GT.fz {w : World} {b n : Nat} {H : Nat → Bool} (h : GT w b n H) (j : Nat) : w.frozen? ⟨b, j, none⟩ = false := by
  obtain ⟨C, h, h2⟩ := h
  exact frozen_of_row w b _ _ 4 h
theorem GT.set {w : World} {b n : Nat} {H : Nat → Bool} (h : GT w b n H) (j : Nat) (x : Bool) : GT (w.setCell ⟨b, j, none⟩ (.bool x)) b n (fun v => if v = j then x else H v) ∧ ∃ C, w.setCell ⟨b, j, none⟩ (.bool x) = w.setRow b C := by
  obtain ⟨C, h, h2⟩ := h
  rw [setCell_eq_setRow w b j C 4 (0, 0) _ h]
  refine ⟨⟨_, setRow_heap w b _ _ 4 (0, 0) h, fun v hv => ?_⟩, _, rfl⟩
  show _ = some (Value.bool (if v = j then x else H v))
  rw [Array.getElem?_setIfInBounds]
  have hv2 := h2 v hv
  have := (Array.getElem?_eq_some_iff.1 hv2).1
  by_cases e : j = v
  · subst e; rw [if_pos rfl, if_pos this, if_pos rfl]
  · rw [if_neg e, if_neg (fun k => e k.symm)]; exact hv2
theorem infoT : (Try.prog.info? 4).map (fun i => (i.zero, i.size, i.bytes)) = some (some (.bool false), 1, 1) := by kernel_rfl
theorem make_truth (w : World) (n : Nat) (hn : n ≤ 1000000) : (Instr.makeSlice 66 (.int .i64 (n : Int)) (.int .i64 (n : Int))).run Try.prog w = .ok (.slice (some ⟨w.heap.size, 0, none⟩) n n) (w.alloc (.cells (madeCells #[.bool false] n) 4)) := by
  have h := infoT
  cases hh : Try.prog.info? 4 with
  | none => rw [hh] at h; cases h
  | some i =>
    rw [hh] at h
    simp at h
    have hr := run_make (P := Try.prog) w 66 4 i (.bool false) Try.underlying66 hh h.1 .i64 .i64 n n (by omega) (by omega) (by rw [h.2.2]; omega) (by omega)
    rw [h.2.1] at hr
    simp only [Int.toNat_natCast, Nat.mul_one] at hr
    rw [hr]
    rfl
theorem GT.new (w : World) (n : Nat) : GT (w.alloc (.cells (madeCells #[.bool false] n) 4)) w.heap.size n (fun _ => false) := by
  refine ⟨_, at0 _ _, fun j hj => ?_⟩
  simp [madeCells, hj, Nat.mod_one]
/-- Who is held by the first i edges. -/
def Hk (k : Int) (E : Nat → Int × Int × Int) (L W : Nat → Int) (H : Nat → Bool) (i : Nat) : Prop := ∀ x y z, Aw k E i x y z → L x ≠ 9223372036854775807 → L x + z = L y → W x < W y → H y = true
theorem Hk.pass {k : Int} {E : Nat → Int × Int × Int} {L W : Nat → Int} {H : Nat → Bool} {i : Nat} (h : Hk k E L W H i) (x y : Nat) (hx : (E i).1 = x) (hy : (E i).2.1 = y) (hno : L x = 9223372036854775807 ∨ L x + wt k (E i).2.2 ≠ L y ∨ ¬ W x < W y) : Hk k E L W H (i + 1) := fun x' y' z' ⟨j, hj, h1, h2, h3⟩ hL hS hW => by
  by_cases e : j < i
  · exact h x' y' z' ⟨j, e, h1, h2, h3⟩ hL hS hW
  · have e2 : j = i := by omega
    subst e2
    have e3 : x' = x := by omega
    have e4 : y' = y := by omega
    subst e3; subst e4; subst h3
    rcases hno with q | q | q
    · exact absurd q hL
    · exact absurd hS q
    · exact absurd hW q
theorem Hk.put {k : Int} {E : Nat → Int × Int × Int} {L W : Nat → Int} {H : Nat → Bool} {i : Nat} (h : Hk k E L W H i) (y : Nat) (hy : (E i).2.1 = y) : Hk k E L W (fun v => if v = y then true else H v) (i + 1) := fun x' y' z' ⟨j, hj, h1, h2, h3⟩ hL hS hW => by
  show (if y' = y then true else H y') = true
  by_cases e : y' = y
  · rw [if_pos e]
  · rw [if_neg e]
    exact h x' y' z' ⟨j, by
      have : j ≠ i := fun q => e (by subst q; omega)
      omega, h1, h2, h3⟩ hL hS hW
abbrev Sg (bx bz eb p : Nat) (s t : Nat → Int) (z : Int) (w : World) : Prop := K8 bx s w ∧ K8 bz t w ∧ w.cell? ⟨eb, p, none⟩ = some (.int .u32 z)
set_option maxHeartbeats 4000000 in
theorem reasons_any (sb n cap m c s : Nat) (A C : Nat → Int) (kk u k : Int) (a : Option Addr) (E : Nat → Int × Int × Int) (S : Nat → Nat → Int) (L W : Nat → Int) (h1n : 1 ≤ n) (hn : n ≤ 400) (hm : m ≤ 11728124029610) (hsn : s < n) (w : World) (hS : SR w sb n S) (hE : ERow w a m E) (hI : EIn n m E) (hsp : Sp m s k E L W) (h0 : ∀ v, S v 0 = us (L v)) (h2 : ∀ v, S v 2 = W v) :
    Calls Try.prog 24 #[.agg (rc (.slice (some ⟨sb, 0, none⟩) n cap) A C kk u), .int .u32 (s : Int), .int .i64 k, .slice a m c] w fun e w' => e = .returned (.bool true) ∧ Below w.heap.size w w' := by
  have HI := hide hI
  have HSp := hide hsp
  have H0 := hide h0
  have H2 := hide h2
  have HH0 : Hid (Ho 0 w.heap.size sb n cap m a E S A C kk u w (w.alloc (.cells (rc (.slice (some ⟨sb, 0, none⟩) n cap) A C kk u) 39))) := ⟨at0 _ _, hS.on (b1 _ _ _), hE.on (b1 _ _ _), b1 _ _ _⟩
  have hkr := HH0.out.r.kr.1
  have hmk := make_truth (w.alloc (.cells (rc (.slice (some ⟨sb, 0, none⟩) n cap) A C kk u) 39)) n (by omega)
  have HG0 := hide (GT.new (w.alloc (.cells (rc (.slice (some ⟨sb, 0, none⟩) n cap) A C kk u) 39)) n)
  have HZ6 : Hid (Below (w.alloc (.cells (rc (.slice (some ⟨sb, 0, none⟩) n cap) A C kk u) 39)).heap.size (w.alloc (.cells (rc (.slice (some ⟨sb, 0, none⟩) n cap) A C kk u) 39)) ((w.alloc (.cells (rc (.slice (some ⟨sb, 0, none⟩) n cap) A C kk u) 39)).alloc (.cells (madeCells #[.bool false] n) 4))) := b1 _ _ _
  generalize madeCells #[.bool false] n = mc at *
  clear hS hE hI hsp h0 h2
  go_enter Try.func24, Try.ntmps24
  go_wp2_with (fail)
  clear hmk hkr
  have HGb : Hid ((w.alloc (.cells (rc (.slice (some ⟨sb, 0, none⟩) n cap) A C kk u) 39)).heap.size = w.heap.size + 1) := World.size_alloc _ _
  rw [HGb.out] at HG0 HZ6
  generalize w.alloc (.cells (rc (.slice (some ⟨sb, 0, none⟩) n cap) A C kk u) 39) = w5 at *
  generalize w5.alloc (.cells mc 4) = w6 at *
  generalize w.heap.size + 1 = gb at *
  generalize w.heap.size = rb at *
  go_loopw [10] (fun v wr => ∃ (i : Nat) (H : Nat → Bool), i ≤ m ∧ v = .int .i64 i ∧ Hid (GT wr gb n H) ∧ Hid (Hk k E L W H i) ∧ Hid (Below gb w5 wr)) (fun v _ => m - (intOf v).toNat)
  case atStart => exact ⟨0, _, Nat.zero_le _, rfl, HG0, fun x y z ⟨j, hj, _⟩ => by omega, HZ6⟩
  case round =>
    clear HG0 HZ6
    obtain ⟨i, H, hi, rfl, HG, HHe, HB⟩ := hrel
    have HHr : Hid (Ho 0 rb sb n cap m a E S A C kk u w wr) := HH0.out.on (by rw [HGb.out]; exact HB.out)
    by_cases cc : i < m
    · obtain ⟨eb, rfl, heb, hce⟩ := HHr.out.e (by omega)
      obtain ⟨x, y, hx, hy, hxn, hyn⟩ := HI.out i cc
      obtain ⟨c1, c2, c3⟩ := hce i cc
      rw [hx] at c1
      rw [hy] at c2
      have HPs := hide (HHe.out.pass x y hx hy)
      have HPt := hide (HHe.out.put y hy)
      obtain ⟨z, hz⟩ : ∃ z, (E i).2.2 = z := ⟨_, rfl⟩
      rw [hz] at c3 HPs
      have HEb := hide heb
      have HC1 := hide c1
      have HC2 := hide c2
      have HC3 := hide c3
      have HX := hide hxn
      have HY := hide hyn
      have HCC := hide cc
      have hS7 : Hid (Sl rb eb sb (i * 3) (x * 8) (.slice (some ⟨sb, 0, none⟩) n cap) (x : Int) (S x) wr.drew) := ⟨HHr.out.r.kr.1, c1, HHr.out.s.k8 x hxn⟩
      have HK7 : Hid (∀ W, Below wr.heap.size wr W → Sl rb eb sb (i * 3) (x * 8) (.slice (some ⟨sb, 0, none⟩) n cap) (x : Int) (S x) W) := fun W hB => ⟨(hB.cell HHr.out.r.lt).trans HHr.out.r.kr.1, (hB.cell HEb.out).trans HC1.out, K8o.on (HHr.out.s.k8 x HX.out) hB HHr.out.s.lt⟩
      clear c1 c2 c3 hce hx hy heb hi hz HHe
      go_wp2_with (fail)
      go_region_held3 (Sl rb eb sb (i * 3) (x * 8) (.slice (some ⟨sb, 0, none⟩) n cap) (x : Int) (S x)) ((first | with_reducible exact hS7.out | (refine HK7.out _ ?_; repeat first | exact Below.refl _ _ | refine belowD ?_ | refine belowN ?_ _ | refine bA ?_ (by first | exact Nat.le_refl _ | (simp only [World.size_drew, World.size_alloc]; omega)) _))) ((fail))
      have HW7 : Hid (Below wr.heap.size wr (wr.alloc (.cells (sv (S x)) 35)).drew) := by repeat first | exact Below.refl _ _ | refine belowD ?_ | refine belowN ?_ _ | refine bA ?_ (by first | exact Nat.le_refl _ | (simp only [World.size_drew, World.size_alloc]; omega)) _
      have HX7 : Hid ((wr.alloc (.cells (sv (S x)) 35)).drew.heap[wr.heap.size]? = some (.cells (sv (S x)) 35 (0, 0))) := at0 wr _
      have HGz : Hid (gb ≤ wr.heap.size) := Nat.le_of_lt HG.out.lt
      have HH7 := hide (HHr.out.on HW7.out)
      have HG7 := hide (HG.out.on HW7.out)
      have HB7 : Hid (Below gb w5 (wr.alloc (.cells (sv (S x)) 35)).drew) := HB.out.trans (HW7.out.mono HGz.out)
      have HE7 : Hid (eb < (wr.alloc (.cells (sv (S x)) 35)).drew.heap.size) := Nat.lt_of_lt_of_le HEb.out HW7.out.size
      have HC72 := hide ((HW7.out.cell HEb.out).trans HC2.out)
      have HC73 := hide ((HW7.out.cell HEb.out).trans HC3.out)
      clear hS7 HK7 HHr HG HB HEb HC1 HC2 HC3 HW7
      generalize (wr.alloc (.cells (sv (S x)) 35)).drew = w7 at *
      generalize wr.heap.size = bx at *
      clear HGz
      have hS8 : Hid (Sl rb eb sb (i * 3 + 1) (y * 8) (.slice (some ⟨sb, 0, none⟩) n cap) (y : Int) (S y) w7.drew) := ⟨HH7.out.r.kr.1, HC72.out, HH7.out.s.k8 y hyn⟩
      have HK8 : Hid (∀ W, Below w7.heap.size w7 W → Sl rb eb sb (i * 3 + 1) (y * 8) (.slice (some ⟨sb, 0, none⟩) n cap) (y : Int) (S y) W) := fun W hB => ⟨(hB.cell HH7.out.r.lt).trans HH7.out.r.kr.1, (hB.cell HE7.out).trans HC72.out, K8o.on (HH7.out.s.k8 y HY.out) hB HH7.out.s.lt⟩
      go_wp2_with (fail)
      go_region_held3 (Sl rb eb sb (i * 3 + 1) (y * 8) (.slice (some ⟨sb, 0, none⟩) n cap) (y : Int) (S y)) ((first | with_reducible exact hS8.out | (refine HK8.out _ ?_; repeat first | exact Below.refl _ _ | refine belowD ?_ | refine belowN ?_ _ | refine bA ?_ (by first | exact Nat.le_refl _ | (simp only [World.size_drew, World.size_alloc]; omega)) _))) ((fail))
      have HW8 : Hid (Below w7.heap.size w7 (w7.alloc (.cells (sv (S y)) 35)).drew) := by repeat first | exact Below.refl _ _ | refine belowD ?_ | refine belowN ?_ _ | refine bA ?_ (by first | exact Nat.le_refl _ | (simp only [World.size_drew, World.size_alloc]; omega)) _
      have HY8 : Hid ((w7.alloc (.cells (sv (S y)) 35)).drew.heap[w7.heap.size]? = some (.cells (sv (S y)) 35 (0, 0))) := at0 w7 _
      have HX8 : Hid ((w7.alloc (.cells (sv (S y)) 35)).drew.heap[bx]? = some (.cells (sv (S x)) 35 (0, 0))) := (HW8.out.block _ (Array.getElem?_eq_some_iff.1 HX7.out).1).trans HX7.out
      have HGz : Hid (gb ≤ w7.heap.size) := Nat.le_of_lt HG7.out.lt
      have HG8 := hide (HG7.out.on HW8.out)
      have HB8 : Hid (Below gb w5 (w7.alloc (.cells (sv (S y)) 35)).drew) := HB7.out.trans (HW8.out.mono HGz.out)
      have HC82 := hide ((HW8.out.cell HE7.out).trans HC72.out)
      have HC83 := hide ((HW8.out.cell HE7.out).trans HC73.out)
      clear hS8 HK8 HH7 HG7 HB7 HE7 HC72 HC73 HW8 HX7
      generalize (w7.alloc (.cells (sv (S y)) 35)).drew = w8 at *
      generalize w7.heap.size = bz at *
      clear HGz
      have hS9 : Hid (Sg bx bz eb (i * 3 + 2) (S x) (S y) z w8.drew) := ⟨k8 HX8.out, k8 HY8.out, HC83.out⟩
      have hlx := HSp.out.b x
      have hly := HSp.out.b y
      have HU : Hid (S x 0 = 9223372036854775807 ↔ L x = 9223372036854775807) := by show _ ↔ _; rw [H0.out x]; exact us_inf _ (by omega) (by omega)
      have q1 : IntKind.i64.wrap (S x 0) = L x := by rw [H0.out x, w64e]; exact us_back _ (by omega) (by omega)
      have q2 : wrap64 (S x 0) = L x := by rw [H0.out x]; exact us_back _ (by omega) (by omega)
      have q3 : IntKind.i64.wrap (S y 0) = L y := by rw [H0.out y, w64e]; exact us_back _ (by omega) (by omega)
      have q4 : wrap64 (S y 0) = L y := by rw [H0.out y]; exact us_back _ (by omega) (by omega)
      have HW2 : Hid (S x 2 = W x ∧ S y 2 = W y) := ⟨H2.out x, H2.out y⟩
      have HWt := hide (rweight_any k z)
      have hwz := wt_b k z
      by_cases hU : L x = 9223372036854775807
      · have b1 : (S x 0 != 9223372036854775807) = false := by simp [HU.out.2 hU]
        have HHn := hide (HPs.out (.inl hU))
        clear hU hlx hly hwz HU q1 q2 q3 q4 HPs HPt
        go_wp2_with (fail)
        refine wp_region_held_drew (S := Sg bx bz eb (i * 3 + 2) (S x) (S y) z) (by kernel_rfl) ?_ (fun hHeld => ?_)
        · exact hS9.out
        refine wpAnyH_take (i := 0) (oi := ({ dst := some 43, op := Go.Op.indexAddr 35 (Go.Operand.tmp 11) (Go.Operand.const (Go.Value.int Go.IntKind.i64 0)), type := 0, pos := "law.go:287", after := #[], guard := none } : Oper)) (v := ?_) rfl (by kernel_rfl) (by kernel_rfl) (by kernel_rfl) (fun _ _ _ h => h) (Or.inl ⟨by rfl, ?_⟩) (by assumption) ?_
        rotate_left 1
        · (intro w hSw; (try dsimp only at hSw); go_simp; (try with_reducible rfl))
        try simp only [Act.put, List.setIfInBounds_toArray, List.set_cons_zero, List.set_cons_succ]
        refine wpAnyH_take (i := 1) (oi := ({ dst := some 44, op := Go.Op.load 33 (Go.Operand.tmp 43), type := 33, pos := "law.go:287", after := #[{ on := 0, ground := Go.Ground.data }], guard := none } : Oper)) (v := ?_) rfl (by kernel_rfl) (by kernel_rfl) (by kernel_rfl) (fun _ _ _ h => h) (Or.inl ⟨by rfl, ?_⟩) (by assumption) ?_
        rotate_left 1
        · (intro w hSw; (try dsimp only at hSw); go_simp; (try with_reducible rfl))
        try simp only [Act.put, List.setIfInBounds_toArray, List.set_cons_zero, List.set_cons_succ]
        refine wpAnyH_take (i := 2) (oi := ({ dst := some 45, op := Go.Op.binOp Go.BinOp.neq 33 (Go.Operand.tmp 44) (Go.Operand.const (Go.Value.int Go.IntKind.u64 9223372036854775807)) 33, type := 4, pos := "law.go:287", after := #[{ on := 1, ground := Go.Ground.data }], guard := none } : Oper)) (v := ?_) rfl (by kernel_rfl) (by kernel_rfl) (by kernel_rfl) (fun _ _ _ h => h) (Or.inl ⟨by rfl, ?_⟩) (by assumption) ?_
        rotate_left 1
        · (intro w hSw; (try dsimp only at hSw); go_simp; (try with_reducible rfl))
        try simp only [Act.put, List.setIfInBounds_toArray, List.set_cons_zero, List.set_cons_succ]
        refine wpAnyH_take (i := 3) (oi := ({ dst := some 46, op := Go.Op.move (Go.Operand.tmp 45), type := 4, pos := "law.go:287", after := #[{ on := 2, ground := Go.Ground.data }], guard := none } : Oper)) (v := ?_) rfl (by kernel_rfl) (by kernel_rfl) (by kernel_rfl) (fun _ _ _ h => h) (Or.inl ⟨by rfl, ?_⟩) (by assumption) ?_
        rotate_left 1
        · (intro w hSw; (try dsimp only at hSw); go_simp; (try with_reducible rfl))
        try simp only [Act.put, List.setIfInBounds_toArray, List.set_cons_zero, List.set_cons_succ]
        refine wpAnyH_take (i := 4) (oi := ({ dst := some 47, op := Go.Op.indexAddr 35 (Go.Operand.tmp 11) (Go.Operand.const (Go.Value.int Go.IntKind.i64 0)), type := 0, pos := "law.go:287", after := #[{ on := 3, ground := Go.Ground.guard }], guard := some (3, true) } : Oper)) (v := undef) rfl (by kernel_rfl) (by kernel_rfl) (by kernel_rfl) (fun _ _ _ h => h) (Or.inr ⟨by rfl, rfl⟩) (by assumption) ?_
        try simp only [Act.put, List.setIfInBounds_toArray, List.set_cons_zero, List.set_cons_succ]
        refine wpAnyH_take (i := 5) (oi := ({ dst := some 48, op := Go.Op.load 33 (Go.Operand.tmp 47), type := 33, pos := "law.go:287", after := #[{ on := 4, ground := Go.Ground.data }, { on := 3, ground := Go.Ground.guard }], guard := some (3, true) } : Oper)) (v := undef) rfl (by kernel_rfl) (by kernel_rfl) (by kernel_rfl) (fun _ _ _ h => h) (Or.inr ⟨by rfl, rfl⟩) (by assumption) ?_
        try simp only [Act.put, List.setIfInBounds_toArray, List.set_cons_zero, List.set_cons_succ]
        refine wpAnyH_take (i := 6) (oi := ({ dst := some 49, op := Go.Op.convert 33 2 (Go.Operand.tmp 48), type := 2, pos := "law.go:287", after := #[{ on := 5, ground := Go.Ground.data }, { on := 3, ground := Go.Ground.guard }], guard := some (3, true) } : Oper)) (v := undef) rfl (by kernel_rfl) (by kernel_rfl) (by kernel_rfl) (fun _ _ _ h => h) (Or.inr ⟨by rfl, rfl⟩) (by assumption) ?_
        try simp only [Act.put, List.setIfInBounds_toArray, List.set_cons_zero, List.set_cons_succ]
        refine wpAnyH_take (i := 7) (oi := ({ dst := some 50, op := Go.Op.move (Go.Operand.tmp 2), type := 3, pos := "law.go:287", after := #[{ on := 3, ground := Go.Ground.guard }], guard := some (3, true) } : Oper)) (v := undef) rfl (by kernel_rfl) (by kernel_rfl) (by kernel_rfl) (fun _ _ _ h => h) (Or.inr ⟨by rfl, rfl⟩) (by assumption) ?_
        try simp only [Act.put, List.setIfInBounds_toArray, List.set_cons_zero, List.set_cons_succ]
        refine wpAnyH_take (i := 8) (oi := ({ dst := some 51, op := Go.Op.move (Go.Operand.tmp 3), type := 22, pos := "law.go:287", after := #[{ on := 3, ground := Go.Ground.guard }], guard := some (3, true) } : Oper)) (v := undef) rfl (by kernel_rfl) (by kernel_rfl) (by kernel_rfl) (fun _ _ _ h => h) (Or.inr ⟨by rfl, rfl⟩) (by assumption) ?_
        try simp only [Act.put, List.setIfInBounds_toArray, List.set_cons_zero, List.set_cons_succ]
        refine wpAnyH_take (i := 9) (oi := ({ dst := some 52, op := Go.Op.move (Go.Operand.tmp 10), type := 3, pos := "law.go:287", after := #[{ on := 3, ground := Go.Ground.guard }], guard := some (3, true) } : Oper)) (v := undef) rfl (by kernel_rfl) (by kernel_rfl) (by kernel_rfl) (fun _ _ _ h => h) (Or.inr ⟨by rfl, rfl⟩) (by assumption) ?_
        try simp only [Act.put, List.setIfInBounds_toArray, List.set_cons_zero, List.set_cons_succ]
        refine wpAnyH_take (i := 10) (oi := ({ dst := some 53, op := Go.Op.indexAddr 22 (Go.Operand.tmp 51) (Go.Operand.tmp 52), type := 0, pos := "law.go:287", after := #[{ on := 8, ground := Go.Ground.data }, { on := 9, ground := Go.Ground.data }, { on := 3, ground := Go.Ground.guard }], guard := some (3, true) } : Oper)) (v := undef) rfl (by kernel_rfl) (by kernel_rfl) (by kernel_rfl) (fun _ _ _ h => h) (Or.inr ⟨by rfl, rfl⟩) (by assumption) ?_
        try simp only [Act.put, List.setIfInBounds_toArray, List.set_cons_zero, List.set_cons_succ]
        refine wpAnyH_take (i := 11) (oi := ({ dst := some 54, op := Go.Op.fieldAddr 45 (Go.Operand.tmp 53) 2, type := 0, pos := "law.go:287", after := #[{ on := 10, ground := Go.Ground.data }, { on := 3, ground := Go.Ground.guard }], guard := some (3, true) } : Oper)) (v := undef) rfl (by kernel_rfl) (by kernel_rfl) (by kernel_rfl) (fun _ _ _ h => h) (Or.inr ⟨by rfl, rfl⟩) (by assumption) ?_
        try simp only [Act.put, List.setIfInBounds_toArray, List.set_cons_zero, List.set_cons_succ]
        refine wpAnyH_take (i := 12) (oi := ({ dst := some 55, op := Go.Op.load 25 (Go.Operand.tmp 54), type := 25, pos := "law.go:287", after := #[{ on := 11, ground := Go.Ground.data }, { on := 3, ground := Go.Ground.guard }], guard := some (3, true) } : Oper)) (v := undef) rfl (by kernel_rfl) (by kernel_rfl) (by kernel_rfl) (fun _ _ _ h => h) (Or.inr ⟨by rfl, rfl⟩) (by assumption) ?_
        try simp only [Act.put, List.setIfInBounds_toArray, List.set_cons_zero, List.set_cons_succ]
        refine wpAnyH_take (i := 13) (oi := ({ dst := some 56, op := Go.Op.call { callee := Go.Callee.value (Go.Operand.func 23), args := #[Go.Operand.tmp 50, Go.Operand.tmp 55], argTypes := #[3, 25] }, type := 2, pos := "law.go:287", after := #[{ on := 7, ground := Go.Ground.data }, { on := 12, ground := Go.Ground.data }, { on := 3, ground := Go.Ground.chain }, { on := 3, ground := Go.Ground.guard }], guard := some (3, true) } : Oper)) (v := undef) rfl (by kernel_rfl) (by kernel_rfl) (by kernel_rfl) (fun _ _ _ h => h) (Or.inr ⟨by rfl, rfl⟩) (by assumption) ?_
        try simp only [Act.put, List.setIfInBounds_toArray, List.set_cons_zero, List.set_cons_succ]
        refine wpAnyH_take (i := 14) (oi := ({ dst := some 57, op := Go.Op.binOp Go.BinOp.add 2 (Go.Operand.tmp 49) (Go.Operand.tmp 56) 2, type := 2, pos := "law.go:287", after := #[{ on := 6, ground := Go.Ground.data }, { on := 13, ground := Go.Ground.data }, { on := 3, ground := Go.Ground.guard }], guard := some (3, true) } : Oper)) (v := undef) rfl (by kernel_rfl) (by kernel_rfl) (by kernel_rfl) (fun _ _ _ h => h) (Or.inr ⟨by rfl, rfl⟩) (by assumption) ?_
        try simp only [Act.put, List.setIfInBounds_toArray, List.set_cons_zero, List.set_cons_succ]
        refine wpAnyH_take (i := 15) (oi := ({ dst := some 58, op := Go.Op.indexAddr 35 (Go.Operand.tmp 12) (Go.Operand.const (Go.Value.int Go.IntKind.i64 0)), type := 0, pos := "law.go:287", after := #[{ on := 3, ground := Go.Ground.guard }], guard := some (3, true) } : Oper)) (v := undef) rfl (by kernel_rfl) (by kernel_rfl) (by kernel_rfl) (fun _ _ _ h => h) (Or.inr ⟨by rfl, rfl⟩) (by assumption) ?_
        try simp only [Act.put, List.setIfInBounds_toArray, List.set_cons_zero, List.set_cons_succ]
        refine wpAnyH_take (i := 16) (oi := ({ dst := some 59, op := Go.Op.load 33 (Go.Operand.tmp 58), type := 33, pos := "law.go:287", after := #[{ on := 15, ground := Go.Ground.data }, { on := 3, ground := Go.Ground.guard }], guard := some (3, true) } : Oper)) (v := undef) rfl (by kernel_rfl) (by kernel_rfl) (by kernel_rfl) (fun _ _ _ h => h) (Or.inr ⟨by rfl, rfl⟩) (by assumption) ?_
        try simp only [Act.put, List.setIfInBounds_toArray, List.set_cons_zero, List.set_cons_succ]
        refine wpAnyH_take (i := 17) (oi := ({ dst := some 60, op := Go.Op.convert 33 2 (Go.Operand.tmp 59), type := 2, pos := "law.go:287", after := #[{ on := 16, ground := Go.Ground.data }, { on := 3, ground := Go.Ground.guard }], guard := some (3, true) } : Oper)) (v := undef) rfl (by kernel_rfl) (by kernel_rfl) (by kernel_rfl) (fun _ _ _ h => h) (Or.inr ⟨by rfl, rfl⟩) (by assumption) ?_
        try simp only [Act.put, List.setIfInBounds_toArray, List.set_cons_zero, List.set_cons_succ]
        refine wpAnyH_take (i := 18) (oi := ({ dst := some 61, op := Go.Op.binOp Go.BinOp.eql 2 (Go.Operand.tmp 57) (Go.Operand.tmp 60) 2, type := 4, pos := "law.go:287", after := #[{ on := 14, ground := Go.Ground.data }, { on := 17, ground := Go.Ground.data }, { on := 3, ground := Go.Ground.guard }], guard := some (3, true) } : Oper)) (v := undef) rfl (by kernel_rfl) (by kernel_rfl) (by kernel_rfl) (fun _ _ _ h => h) (Or.inr ⟨by rfl, rfl⟩) (by assumption) ?_
        try simp only [Act.put, List.setIfInBounds_toArray, List.set_cons_zero, List.set_cons_succ]
        refine wpAnyH_take (i := 19) (oi := ({ dst := some 62, op := Go.Op.pick (Go.Operand.tmp 46) (Go.Operand.tmp 61) (Go.Operand.const (Go.Value.bool false)), type := 4, pos := "law.go:287", after := #[{ on := 3, ground := Go.Ground.data }, { on := 18, ground := Go.Ground.data }], guard := none } : Oper)) (v := ?_) rfl (by kernel_rfl) (by kernel_rfl) (by kernel_rfl) (fun _ _ _ h => h) (Or.inl ⟨by rfl, ?_⟩) (by assumption) ?_
        rotate_left 1
        · (intro w hSw; (try dsimp only at hSw); go_simp; (try with_reducible rfl))
        try simp only [Act.put, List.setIfInBounds_toArray, List.set_cons_zero, List.set_cons_succ]
        refine wpAnyH_take (i := 20) (oi := ({ dst := some 63, op := Go.Op.move (Go.Operand.tmp 62), type := 4, pos := "law.go:287", after := #[{ on := 19, ground := Go.Ground.data }, { on := 13, ground := Go.Ground.chain }], guard := none } : Oper)) (v := ?_) rfl (by kernel_rfl) (by kernel_rfl) (by kernel_rfl) (fun _ _ _ h => h) (Or.inl ⟨by rfl, ?_⟩) (by assumption) ?_
        rotate_left 1
        · (intro w hSw; (try dsimp only at hSw); go_simp; (try with_reducible rfl))
        try simp only [Act.put, List.setIfInBounds_toArray, List.set_cons_zero, List.set_cons_succ]
        refine wpAnyH_take (i := 21) (oi := ({ dst := some 64, op := Go.Op.indexAddr 35 (Go.Operand.tmp 11) (Go.Operand.const (Go.Value.int Go.IntKind.i64 2)), type := 0, pos := "law.go:287", after := #[{ on := 20, ground := Go.Ground.guard }], guard := some (20, true) } : Oper)) (v := undef) rfl (by kernel_rfl) (by kernel_rfl) (by kernel_rfl) (fun _ _ _ h => h) (Or.inr ⟨by rfl, rfl⟩) (by assumption) ?_
        try simp only [Act.put, List.setIfInBounds_toArray, List.set_cons_zero, List.set_cons_succ]
        refine wpAnyH_take (i := 22) (oi := ({ dst := some 65, op := Go.Op.load 33 (Go.Operand.tmp 64), type := 33, pos := "law.go:287", after := #[{ on := 21, ground := Go.Ground.data }, { on := 20, ground := Go.Ground.guard }], guard := some (20, true) } : Oper)) (v := undef) rfl (by kernel_rfl) (by kernel_rfl) (by kernel_rfl) (fun _ _ _ h => h) (Or.inr ⟨by rfl, rfl⟩) (by assumption) ?_
        try simp only [Act.put, List.setIfInBounds_toArray, List.set_cons_zero, List.set_cons_succ]
        refine wpAnyH_take (i := 23) (oi := ({ dst := some 66, op := Go.Op.indexAddr 35 (Go.Operand.tmp 12) (Go.Operand.const (Go.Value.int Go.IntKind.i64 2)), type := 0, pos := "law.go:287", after := #[{ on := 20, ground := Go.Ground.guard }], guard := some (20, true) } : Oper)) (v := undef) rfl (by kernel_rfl) (by kernel_rfl) (by kernel_rfl) (fun _ _ _ h => h) (Or.inr ⟨by rfl, rfl⟩) (by assumption) ?_
        try simp only [Act.put, List.setIfInBounds_toArray, List.set_cons_zero, List.set_cons_succ]
        refine wpAnyH_take (i := 24) (oi := ({ dst := some 67, op := Go.Op.load 33 (Go.Operand.tmp 66), type := 33, pos := "law.go:287", after := #[{ on := 23, ground := Go.Ground.data }, { on := 20, ground := Go.Ground.guard }], guard := some (20, true) } : Oper)) (v := undef) rfl (by kernel_rfl) (by kernel_rfl) (by kernel_rfl) (fun _ _ _ h => h) (Or.inr ⟨by rfl, rfl⟩) (by assumption) ?_
        try simp only [Act.put, List.setIfInBounds_toArray, List.set_cons_zero, List.set_cons_succ]
        refine wpAnyH_take (i := 25) (oi := ({ dst := some 68, op := Go.Op.binOp Go.BinOp.lss 33 (Go.Operand.tmp 65) (Go.Operand.tmp 67) 33, type := 4, pos := "law.go:287", after := #[{ on := 22, ground := Go.Ground.data }, { on := 24, ground := Go.Ground.data }, { on := 20, ground := Go.Ground.guard }], guard := some (20, true) } : Oper)) (v := undef) rfl (by kernel_rfl) (by kernel_rfl) (by kernel_rfl) (fun _ _ _ h => h) (Or.inr ⟨by rfl, rfl⟩) (by assumption) ?_
        try simp only [Act.put, List.setIfInBounds_toArray, List.set_cons_zero, List.set_cons_succ]
        refine wpAnyH_take (i := 26) (oi := ({ dst := some 69, op := Go.Op.pick (Go.Operand.tmp 63) (Go.Operand.tmp 68) (Go.Operand.const (Go.Value.bool false)), type := 4, pos := "law.go:287", after := #[{ on := 20, ground := Go.Ground.data }, { on := 25, ground := Go.Ground.data }], guard := none } : Oper)) (v := ?_) rfl (by kernel_rfl) (by kernel_rfl) (by kernel_rfl) (fun _ _ _ h => h) (Or.inl ⟨by rfl, ?_⟩) (by assumption) ?_
        rotate_left 1
        · (intro w hSw; (try dsimp only at hSw); go_simp; (try with_reducible rfl))
        try simp only [Act.put, List.setIfInBounds_toArray, List.set_cons_zero, List.set_cons_succ]
        refine wpAnyH_done (by kernel_rfl) ?_ _
        go_wp2
        all_goals exact ⟨⟨i + 1, H, cc, by go_num, HG8.out.on (belowD (Below.refl _ _)), HHn, belowD HB8.out⟩, by simp [intOf]; omega⟩
      · have b1 : (S x 0 != 9223372036854775807) = true := by have h9 : S x 0 ≠ 9223372036854775807 := (fun q => hU (HU.out.1 q)); simp [h9]
        have hlx' := hlx.resolve_left hU
        obtain ⟨q, hq⟩ : ∃ q, L x + wt k z = q := ⟨_, rfl⟩
        have q5 : IntKind.i64.wrap (L x + wt k z) = q := by rw [wi _ (by omega) (by omega)]; exact hq
        have q6 : wrap64 (L x + wt k z) = q := by rw [w64 _ (by omega) (by omega)]; exact hq
        by_cases hEq : q = L y
        · have b2 : (q == L y) = true := by simp [hEq]
          by_cases hlt : S x 2 < S y 2
          · have b3 : decide (S x 2 < S y 2) = true := by simp [hlt]
            have HG9 := hide (GT.set (w := w8.drew) HG8.out y true)
            have HB9 : Hid (Below gb w5 (w8.drew.setCell ⟨gb, y, none⟩ (.bool true))) := by
              obtain ⟨C1, h1⟩ := HG9.out.2
              show Below _ _ _
              rw [h1]
              exact below_setRow (belowD HB8.out) (Nat.le_refl _) _
            have g2 : w8.drew.cell? ⟨gb, y, none⟩ = some (.bool (H y)) := HG8.out.cell y hyn
            have f2 : w8.drew.frozen? ⟨gb, y, none⟩ = false := HG8.out.fz y
            have d2 : w8.drew.cell? ⟨eb, i * 3 + 1, none⟩ = some (.int .u32 (y : Int)) := HC82.out
            clear hU hlx hly hlx' hwz HU hq hEq hlt HPs
            go_wp2_with (fail)
            refine wp_region_held_drew (S := Sg bx bz eb (i * 3 + 2) (S x) (S y) z) (by kernel_rfl) ?_ (fun hHeld => ?_)
            · exact hS9.out
            refine wpAnyH_take (i := 0) (oi := ({ dst := some 43, op := Go.Op.indexAddr 35 (Go.Operand.tmp 11) (Go.Operand.const (Go.Value.int Go.IntKind.i64 0)), type := 0, pos := "law.go:287", after := #[], guard := none } : Oper)) (v := ?_) rfl (by kernel_rfl) (by kernel_rfl) (by kernel_rfl) (fun _ _ _ h => h) (Or.inl ⟨by rfl, ?_⟩) (by assumption) ?_
            rotate_left 1
            · (intro w hSw; (try dsimp only at hSw); go_simp; (try with_reducible rfl))
            try simp only [Act.put, List.setIfInBounds_toArray, List.set_cons_zero, List.set_cons_succ]
            refine wpAnyH_take (i := 1) (oi := ({ dst := some 44, op := Go.Op.load 33 (Go.Operand.tmp 43), type := 33, pos := "law.go:287", after := #[{ on := 0, ground := Go.Ground.data }], guard := none } : Oper)) (v := ?_) rfl (by kernel_rfl) (by kernel_rfl) (by kernel_rfl) (fun _ _ _ h => h) (Or.inl ⟨by rfl, ?_⟩) (by assumption) ?_
            rotate_left 1
            · (intro w hSw; (try dsimp only at hSw); go_simp; (try with_reducible rfl))
            try simp only [Act.put, List.setIfInBounds_toArray, List.set_cons_zero, List.set_cons_succ]
            refine wpAnyH_take (i := 2) (oi := ({ dst := some 45, op := Go.Op.binOp Go.BinOp.neq 33 (Go.Operand.tmp 44) (Go.Operand.const (Go.Value.int Go.IntKind.u64 9223372036854775807)) 33, type := 4, pos := "law.go:287", after := #[{ on := 1, ground := Go.Ground.data }], guard := none } : Oper)) (v := ?_) rfl (by kernel_rfl) (by kernel_rfl) (by kernel_rfl) (fun _ _ _ h => h) (Or.inl ⟨by rfl, ?_⟩) (by assumption) ?_
            rotate_left 1
            · (intro w hSw; (try dsimp only at hSw); go_simp; (try with_reducible rfl))
            try simp only [Act.put, List.setIfInBounds_toArray, List.set_cons_zero, List.set_cons_succ]
            refine wpAnyH_take (i := 3) (oi := ({ dst := some 46, op := Go.Op.move (Go.Operand.tmp 45), type := 4, pos := "law.go:287", after := #[{ on := 2, ground := Go.Ground.data }], guard := none } : Oper)) (v := ?_) rfl (by kernel_rfl) (by kernel_rfl) (by kernel_rfl) (fun _ _ _ h => h) (Or.inl ⟨by rfl, ?_⟩) (by assumption) ?_
            rotate_left 1
            · (intro w hSw; (try dsimp only at hSw); go_simp; (try with_reducible rfl))
            try simp only [Act.put, List.setIfInBounds_toArray, List.set_cons_zero, List.set_cons_succ]
            refine wpAnyH_take (i := 4) (oi := ({ dst := some 47, op := Go.Op.indexAddr 35 (Go.Operand.tmp 11) (Go.Operand.const (Go.Value.int Go.IntKind.i64 0)), type := 0, pos := "law.go:287", after := #[{ on := 3, ground := Go.Ground.guard }], guard := some (3, true) } : Oper)) (v := ?_) rfl (by kernel_rfl) (by kernel_rfl) (by kernel_rfl) (fun _ _ _ h => h) (Or.inl ⟨by rfl, ?_⟩) (by assumption) ?_
            rotate_left 1
            · (intro w hSw; (try dsimp only at hSw); go_simp; (try with_reducible rfl))
            try simp only [Act.put, List.setIfInBounds_toArray, List.set_cons_zero, List.set_cons_succ]
            refine wpAnyH_take (i := 5) (oi := ({ dst := some 48, op := Go.Op.load 33 (Go.Operand.tmp 47), type := 33, pos := "law.go:287", after := #[{ on := 4, ground := Go.Ground.data }, { on := 3, ground := Go.Ground.guard }], guard := some (3, true) } : Oper)) (v := ?_) rfl (by kernel_rfl) (by kernel_rfl) (by kernel_rfl) (fun _ _ _ h => h) (Or.inl ⟨by rfl, ?_⟩) (by assumption) ?_
            rotate_left 1
            · (intro w hSw; (try dsimp only at hSw); go_simp; (try with_reducible rfl))
            try simp only [Act.put, List.setIfInBounds_toArray, List.set_cons_zero, List.set_cons_succ]
            refine wpAnyH_take (i := 6) (oi := ({ dst := some 49, op := Go.Op.convert 33 2 (Go.Operand.tmp 48), type := 2, pos := "law.go:287", after := #[{ on := 5, ground := Go.Ground.data }, { on := 3, ground := Go.Ground.guard }], guard := some (3, true) } : Oper)) (v := ?_) rfl (by kernel_rfl) (by kernel_rfl) (by kernel_rfl) (fun _ _ _ h => h) (Or.inl ⟨by rfl, ?_⟩) (by assumption) ?_
            rotate_left 1
            · (intro w hSw; (try dsimp only at hSw); go_simp; (try with_reducible rfl))
            try simp only [Act.put, List.setIfInBounds_toArray, List.set_cons_zero, List.set_cons_succ]
            refine wpAnyH_take (i := 7) (oi := ({ dst := some 50, op := Go.Op.move (Go.Operand.tmp 2), type := 3, pos := "law.go:287", after := #[{ on := 3, ground := Go.Ground.guard }], guard := some (3, true) } : Oper)) (v := ?_) rfl (by kernel_rfl) (by kernel_rfl) (by kernel_rfl) (fun _ _ _ h => h) (Or.inl ⟨by rfl, ?_⟩) (by assumption) ?_
            rotate_left 1
            · (intro w hSw; (try dsimp only at hSw); go_simp; (try with_reducible rfl))
            try simp only [Act.put, List.setIfInBounds_toArray, List.set_cons_zero, List.set_cons_succ]
            refine wpAnyH_take (i := 8) (oi := ({ dst := some 51, op := Go.Op.move (Go.Operand.tmp 3), type := 22, pos := "law.go:287", after := #[{ on := 3, ground := Go.Ground.guard }], guard := some (3, true) } : Oper)) (v := ?_) rfl (by kernel_rfl) (by kernel_rfl) (by kernel_rfl) (fun _ _ _ h => h) (Or.inl ⟨by rfl, ?_⟩) (by assumption) ?_
            rotate_left 1
            · (intro w hSw; (try dsimp only at hSw); go_simp; (try with_reducible rfl))
            try simp only [Act.put, List.setIfInBounds_toArray, List.set_cons_zero, List.set_cons_succ]
            refine wpAnyH_take (i := 9) (oi := ({ dst := some 52, op := Go.Op.move (Go.Operand.tmp 10), type := 3, pos := "law.go:287", after := #[{ on := 3, ground := Go.Ground.guard }], guard := some (3, true) } : Oper)) (v := ?_) rfl (by kernel_rfl) (by kernel_rfl) (by kernel_rfl) (fun _ _ _ h => h) (Or.inl ⟨by rfl, ?_⟩) (by assumption) ?_
            rotate_left 1
            · (intro w hSw; (try dsimp only at hSw); go_simp; (try with_reducible rfl))
            try simp only [Act.put, List.setIfInBounds_toArray, List.set_cons_zero, List.set_cons_succ]
            refine wpAnyH_take (i := 10) (oi := ({ dst := some 53, op := Go.Op.indexAddr 22 (Go.Operand.tmp 51) (Go.Operand.tmp 52), type := 0, pos := "law.go:287", after := #[{ on := 8, ground := Go.Ground.data }, { on := 9, ground := Go.Ground.data }, { on := 3, ground := Go.Ground.guard }], guard := some (3, true) } : Oper)) (v := ?_) rfl (by kernel_rfl) (by kernel_rfl) (by kernel_rfl) (fun _ _ _ h => h) (Or.inl ⟨by rfl, ?_⟩) (by assumption) ?_
            rotate_left 1
            · (intro w hSw; (try dsimp only at hSw); go_simp; (try with_reducible rfl))
            try simp only [Act.put, List.setIfInBounds_toArray, List.set_cons_zero, List.set_cons_succ]
            refine wpAnyH_take (i := 11) (oi := ({ dst := some 54, op := Go.Op.fieldAddr 45 (Go.Operand.tmp 53) 2, type := 0, pos := "law.go:287", after := #[{ on := 10, ground := Go.Ground.data }, { on := 3, ground := Go.Ground.guard }], guard := some (3, true) } : Oper)) (v := ?_) rfl (by kernel_rfl) (by kernel_rfl) (by kernel_rfl) (fun _ _ _ h => h) (Or.inl ⟨by rfl, ?_⟩) (by assumption) ?_
            rotate_left 1
            · (intro w hSw; (try dsimp only at hSw); go_simp; (try with_reducible rfl))
            try simp only [Act.put, List.setIfInBounds_toArray, List.set_cons_zero, List.set_cons_succ]
            refine wpAnyH_take (i := 12) (oi := ({ dst := some 55, op := Go.Op.load 25 (Go.Operand.tmp 54), type := 25, pos := "law.go:287", after := #[{ on := 11, ground := Go.Ground.data }, { on := 3, ground := Go.Ground.guard }], guard := some (3, true) } : Oper)) (v := ?_) rfl (by kernel_rfl) (by kernel_rfl) (by kernel_rfl) (fun _ _ _ h => h) (Or.inl ⟨by rfl, ?_⟩) (by assumption) ?_
            rotate_left 1
            · (intro w hSw; (try dsimp only at hSw); go_simp; (try with_reducible rfl))
            try simp only [Act.put, List.setIfInBounds_toArray, List.set_cons_zero, List.set_cons_succ]
            refine wpAnyH_take (i := 15) (oi := ({ dst := some 58, op := Go.Op.indexAddr 35 (Go.Operand.tmp 12) (Go.Operand.const (Go.Value.int Go.IntKind.i64 0)), type := 0, pos := "law.go:287", after := #[{ on := 3, ground := Go.Ground.guard }], guard := some (3, true) } : Oper)) (v := ?_) rfl (by kernel_rfl) (by kernel_rfl) (by kernel_rfl) (fun _ _ _ h => h) (Or.inl ⟨by rfl, ?_⟩) (by assumption) ?_
            rotate_left 1
            · (intro w hSw; (try dsimp only at hSw); go_simp; (try with_reducible rfl))
            try simp only [Act.put, List.setIfInBounds_toArray, List.set_cons_zero, List.set_cons_succ]
            refine wpAnyH_take (i := 16) (oi := ({ dst := some 59, op := Go.Op.load 33 (Go.Operand.tmp 58), type := 33, pos := "law.go:287", after := #[{ on := 15, ground := Go.Ground.data }, { on := 3, ground := Go.Ground.guard }], guard := some (3, true) } : Oper)) (v := ?_) rfl (by kernel_rfl) (by kernel_rfl) (by kernel_rfl) (fun _ _ _ h => h) (Or.inl ⟨by rfl, ?_⟩) (by assumption) ?_
            rotate_left 1
            · (intro w hSw; (try dsimp only at hSw); go_simp; (try with_reducible rfl))
            try simp only [Act.put, List.setIfInBounds_toArray, List.set_cons_zero, List.set_cons_succ]
            refine wpAnyH_take (i := 17) (oi := ({ dst := some 60, op := Go.Op.convert 33 2 (Go.Operand.tmp 59), type := 2, pos := "law.go:287", after := #[{ on := 16, ground := Go.Ground.data }, { on := 3, ground := Go.Ground.guard }], guard := some (3, true) } : Oper)) (v := ?_) rfl (by kernel_rfl) (by kernel_rfl) (by kernel_rfl) (fun _ _ _ h => h) (Or.inl ⟨by rfl, ?_⟩) (by assumption) ?_
            rotate_left 1
            · (intro w hSw; (try dsimp only at hSw); go_simp; (try with_reducible rfl))
            try simp only [Act.put, List.setIfInBounds_toArray, List.set_cons_zero, List.set_cons_succ]
            refine wpAnyH_ready (rs := [13]) (by kernel_rfl) (by simp) ?_
            refine AllReadyH.cons (o := ({ dst := some 56, op := Go.Op.call { callee := Go.Callee.value (Go.Operand.func 23), args := #[Go.Operand.tmp 50, Go.Operand.tmp 55], argTypes := #[3, 25] }, type := 2, pos := "law.go:287", after := #[{ on := 7, ground := Go.Ground.data }, { on := 12, ground := Go.Ground.data }, { on := 3, ground := Go.Ground.chain }, { on := 3, ground := Go.Ground.guard }], guard := some (3, true) } : Oper)) rfl (fun K hK => ?_) AllReadyH.nil
            go_simp
            go_at_call 23
            refine (HWt.out _).mono ?_
            rintro e9 w9 ⟨rfl, hw9⟩
            subst w9
            go_wp2_with (fail)
            refine hK.out _ _ ?_ (fun hHeld => ?_)
            · exact hS9.out
            clear hK K
            try simp only [Act.put, List.setIfInBounds_toArray, List.set_cons_zero, List.set_cons_succ]
            refine wpAnyH_take (i := 14) (oi := ({ dst := some 57, op := Go.Op.binOp Go.BinOp.add 2 (Go.Operand.tmp 49) (Go.Operand.tmp 56) 2, type := 2, pos := "law.go:287", after := #[{ on := 6, ground := Go.Ground.data }, { on := 13, ground := Go.Ground.data }, { on := 3, ground := Go.Ground.guard }], guard := some (3, true) } : Oper)) (v := ?_) rfl (by kernel_rfl) (by kernel_rfl) (by kernel_rfl) (fun _ _ _ h => h) (Or.inl ⟨by rfl, ?_⟩) (by assumption) ?_
            rotate_left 1
            · (intro w hSw; (try dsimp only at hSw); go_simp; (try with_reducible rfl))
            try simp only [Act.put, List.setIfInBounds_toArray, List.set_cons_zero, List.set_cons_succ]
            refine wpAnyH_take (i := 18) (oi := ({ dst := some 61, op := Go.Op.binOp Go.BinOp.eql 2 (Go.Operand.tmp 57) (Go.Operand.tmp 60) 2, type := 4, pos := "law.go:287", after := #[{ on := 14, ground := Go.Ground.data }, { on := 17, ground := Go.Ground.data }, { on := 3, ground := Go.Ground.guard }], guard := some (3, true) } : Oper)) (v := ?_) rfl (by kernel_rfl) (by kernel_rfl) (by kernel_rfl) (fun _ _ _ h => h) (Or.inl ⟨by rfl, ?_⟩) (by assumption) ?_
            rotate_left 1
            · (intro w hSw; (try dsimp only at hSw); go_simp; (try with_reducible rfl))
            try simp only [Act.put, List.setIfInBounds_toArray, List.set_cons_zero, List.set_cons_succ]
            refine wpAnyH_take (i := 19) (oi := ({ dst := some 62, op := Go.Op.pick (Go.Operand.tmp 46) (Go.Operand.tmp 61) (Go.Operand.const (Go.Value.bool false)), type := 4, pos := "law.go:287", after := #[{ on := 3, ground := Go.Ground.data }, { on := 18, ground := Go.Ground.data }], guard := none } : Oper)) (v := ?_) rfl (by kernel_rfl) (by kernel_rfl) (by kernel_rfl) (fun _ _ _ h => h) (Or.inl ⟨by rfl, ?_⟩) (by assumption) ?_
            rotate_left 1
            · (intro w hSw; (try dsimp only at hSw); go_simp; (try with_reducible rfl))
            try simp only [Act.put, List.setIfInBounds_toArray, List.set_cons_zero, List.set_cons_succ]
            refine wpAnyH_take (i := 20) (oi := ({ dst := some 63, op := Go.Op.move (Go.Operand.tmp 62), type := 4, pos := "law.go:287", after := #[{ on := 19, ground := Go.Ground.data }, { on := 13, ground := Go.Ground.chain }], guard := none } : Oper)) (v := ?_) rfl (by kernel_rfl) (by kernel_rfl) (by kernel_rfl) (fun _ _ _ h => h) (Or.inl ⟨by rfl, ?_⟩) (by assumption) ?_
            rotate_left 1
            · (intro w hSw; (try dsimp only at hSw); go_simp; (try with_reducible rfl))
            try simp only [Act.put, List.setIfInBounds_toArray, List.set_cons_zero, List.set_cons_succ]
            refine wpAnyH_take (i := 21) (oi := ({ dst := some 64, op := Go.Op.indexAddr 35 (Go.Operand.tmp 11) (Go.Operand.const (Go.Value.int Go.IntKind.i64 2)), type := 0, pos := "law.go:287", after := #[{ on := 20, ground := Go.Ground.guard }], guard := some (20, true) } : Oper)) (v := ?_) rfl (by kernel_rfl) (by kernel_rfl) (by kernel_rfl) (fun _ _ _ h => h) (Or.inl ⟨by rfl, ?_⟩) (by assumption) ?_
            rotate_left 1
            · (intro w hSw; (try dsimp only at hSw); go_simp; (try with_reducible rfl))
            try simp only [Act.put, List.setIfInBounds_toArray, List.set_cons_zero, List.set_cons_succ]
            refine wpAnyH_take (i := 22) (oi := ({ dst := some 65, op := Go.Op.load 33 (Go.Operand.tmp 64), type := 33, pos := "law.go:287", after := #[{ on := 21, ground := Go.Ground.data }, { on := 20, ground := Go.Ground.guard }], guard := some (20, true) } : Oper)) (v := ?_) rfl (by kernel_rfl) (by kernel_rfl) (by kernel_rfl) (fun _ _ _ h => h) (Or.inl ⟨by rfl, ?_⟩) (by assumption) ?_
            rotate_left 1
            · (intro w hSw; (try dsimp only at hSw); go_simp; (try with_reducible rfl))
            try simp only [Act.put, List.setIfInBounds_toArray, List.set_cons_zero, List.set_cons_succ]
            refine wpAnyH_take (i := 23) (oi := ({ dst := some 66, op := Go.Op.indexAddr 35 (Go.Operand.tmp 12) (Go.Operand.const (Go.Value.int Go.IntKind.i64 2)), type := 0, pos := "law.go:287", after := #[{ on := 20, ground := Go.Ground.guard }], guard := some (20, true) } : Oper)) (v := ?_) rfl (by kernel_rfl) (by kernel_rfl) (by kernel_rfl) (fun _ _ _ h => h) (Or.inl ⟨by rfl, ?_⟩) (by assumption) ?_
            rotate_left 1
            · (intro w hSw; (try dsimp only at hSw); go_simp; (try with_reducible rfl))
            try simp only [Act.put, List.setIfInBounds_toArray, List.set_cons_zero, List.set_cons_succ]
            refine wpAnyH_take (i := 24) (oi := ({ dst := some 67, op := Go.Op.load 33 (Go.Operand.tmp 66), type := 33, pos := "law.go:287", after := #[{ on := 23, ground := Go.Ground.data }, { on := 20, ground := Go.Ground.guard }], guard := some (20, true) } : Oper)) (v := ?_) rfl (by kernel_rfl) (by kernel_rfl) (by kernel_rfl) (fun _ _ _ h => h) (Or.inl ⟨by rfl, ?_⟩) (by assumption) ?_
            rotate_left 1
            · (intro w hSw; (try dsimp only at hSw); go_simp; (try with_reducible rfl))
            try simp only [Act.put, List.setIfInBounds_toArray, List.set_cons_zero, List.set_cons_succ]
            refine wpAnyH_take (i := 25) (oi := ({ dst := some 68, op := Go.Op.binOp Go.BinOp.lss 33 (Go.Operand.tmp 65) (Go.Operand.tmp 67) 33, type := 4, pos := "law.go:287", after := #[{ on := 22, ground := Go.Ground.data }, { on := 24, ground := Go.Ground.data }, { on := 20, ground := Go.Ground.guard }], guard := some (20, true) } : Oper)) (v := ?_) rfl (by kernel_rfl) (by kernel_rfl) (by kernel_rfl) (fun _ _ _ h => h) (Or.inl ⟨by rfl, ?_⟩) (by assumption) ?_
            rotate_left 1
            · (intro w hSw; (try dsimp only at hSw); go_simp; (try with_reducible rfl))
            try simp only [Act.put, List.setIfInBounds_toArray, List.set_cons_zero, List.set_cons_succ]
            refine wpAnyH_take (i := 26) (oi := ({ dst := some 69, op := Go.Op.pick (Go.Operand.tmp 63) (Go.Operand.tmp 68) (Go.Operand.const (Go.Value.bool false)), type := 4, pos := "law.go:287", after := #[{ on := 20, ground := Go.Ground.data }, { on := 25, ground := Go.Ground.data }], guard := none } : Oper)) (v := ?_) rfl (by kernel_rfl) (by kernel_rfl) (by kernel_rfl) (fun _ _ _ h => h) (Or.inl ⟨by rfl, ?_⟩) (by assumption) ?_
            rotate_left 1
            · (intro w hSw; (try dsimp only at hSw); go_simp; (try with_reducible rfl))
            try simp only [Act.put, List.setIfInBounds_toArray, List.set_cons_zero, List.set_cons_succ]
            refine wpAnyH_done (by kernel_rfl) ?_ _
            go_wp2
            all_goals exact ⟨⟨i + 1, _, cc, by go_num, HG9.out.1, HPt, HB9⟩, by simp [intOf]; omega⟩
          · have b3 : decide (S x 2 < S y 2) = false := by simp [hlt]
            have HHn := hide (HPs.out (.inr (.inr (by have h8 := HW2.out.1; have h9 := HW2.out.2; omega))))
            clear hU hlx hly hlx' hwz HU hq hEq hlt HPs HPt
            go_wp2_with (fail)
            refine wp_region_held_drew (S := Sg bx bz eb (i * 3 + 2) (S x) (S y) z) (by kernel_rfl) ?_ (fun hHeld => ?_)
            · exact hS9.out
            refine wpAnyH_take (i := 0) (oi := ({ dst := some 43, op := Go.Op.indexAddr 35 (Go.Operand.tmp 11) (Go.Operand.const (Go.Value.int Go.IntKind.i64 0)), type := 0, pos := "law.go:287", after := #[], guard := none } : Oper)) (v := ?_) rfl (by kernel_rfl) (by kernel_rfl) (by kernel_rfl) (fun _ _ _ h => h) (Or.inl ⟨by rfl, ?_⟩) (by assumption) ?_
            rotate_left 1
            · (intro w hSw; (try dsimp only at hSw); go_simp; (try with_reducible rfl))
            try simp only [Act.put, List.setIfInBounds_toArray, List.set_cons_zero, List.set_cons_succ]
            refine wpAnyH_take (i := 1) (oi := ({ dst := some 44, op := Go.Op.load 33 (Go.Operand.tmp 43), type := 33, pos := "law.go:287", after := #[{ on := 0, ground := Go.Ground.data }], guard := none } : Oper)) (v := ?_) rfl (by kernel_rfl) (by kernel_rfl) (by kernel_rfl) (fun _ _ _ h => h) (Or.inl ⟨by rfl, ?_⟩) (by assumption) ?_
            rotate_left 1
            · (intro w hSw; (try dsimp only at hSw); go_simp; (try with_reducible rfl))
            try simp only [Act.put, List.setIfInBounds_toArray, List.set_cons_zero, List.set_cons_succ]
            refine wpAnyH_take (i := 2) (oi := ({ dst := some 45, op := Go.Op.binOp Go.BinOp.neq 33 (Go.Operand.tmp 44) (Go.Operand.const (Go.Value.int Go.IntKind.u64 9223372036854775807)) 33, type := 4, pos := "law.go:287", after := #[{ on := 1, ground := Go.Ground.data }], guard := none } : Oper)) (v := ?_) rfl (by kernel_rfl) (by kernel_rfl) (by kernel_rfl) (fun _ _ _ h => h) (Or.inl ⟨by rfl, ?_⟩) (by assumption) ?_
            rotate_left 1
            · (intro w hSw; (try dsimp only at hSw); go_simp; (try with_reducible rfl))
            try simp only [Act.put, List.setIfInBounds_toArray, List.set_cons_zero, List.set_cons_succ]
            refine wpAnyH_take (i := 3) (oi := ({ dst := some 46, op := Go.Op.move (Go.Operand.tmp 45), type := 4, pos := "law.go:287", after := #[{ on := 2, ground := Go.Ground.data }], guard := none } : Oper)) (v := ?_) rfl (by kernel_rfl) (by kernel_rfl) (by kernel_rfl) (fun _ _ _ h => h) (Or.inl ⟨by rfl, ?_⟩) (by assumption) ?_
            rotate_left 1
            · (intro w hSw; (try dsimp only at hSw); go_simp; (try with_reducible rfl))
            try simp only [Act.put, List.setIfInBounds_toArray, List.set_cons_zero, List.set_cons_succ]
            refine wpAnyH_take (i := 4) (oi := ({ dst := some 47, op := Go.Op.indexAddr 35 (Go.Operand.tmp 11) (Go.Operand.const (Go.Value.int Go.IntKind.i64 0)), type := 0, pos := "law.go:287", after := #[{ on := 3, ground := Go.Ground.guard }], guard := some (3, true) } : Oper)) (v := ?_) rfl (by kernel_rfl) (by kernel_rfl) (by kernel_rfl) (fun _ _ _ h => h) (Or.inl ⟨by rfl, ?_⟩) (by assumption) ?_
            rotate_left 1
            · (intro w hSw; (try dsimp only at hSw); go_simp; (try with_reducible rfl))
            try simp only [Act.put, List.setIfInBounds_toArray, List.set_cons_zero, List.set_cons_succ]
            refine wpAnyH_take (i := 5) (oi := ({ dst := some 48, op := Go.Op.load 33 (Go.Operand.tmp 47), type := 33, pos := "law.go:287", after := #[{ on := 4, ground := Go.Ground.data }, { on := 3, ground := Go.Ground.guard }], guard := some (3, true) } : Oper)) (v := ?_) rfl (by kernel_rfl) (by kernel_rfl) (by kernel_rfl) (fun _ _ _ h => h) (Or.inl ⟨by rfl, ?_⟩) (by assumption) ?_
            rotate_left 1
            · (intro w hSw; (try dsimp only at hSw); go_simp; (try with_reducible rfl))
            try simp only [Act.put, List.setIfInBounds_toArray, List.set_cons_zero, List.set_cons_succ]
            refine wpAnyH_take (i := 6) (oi := ({ dst := some 49, op := Go.Op.convert 33 2 (Go.Operand.tmp 48), type := 2, pos := "law.go:287", after := #[{ on := 5, ground := Go.Ground.data }, { on := 3, ground := Go.Ground.guard }], guard := some (3, true) } : Oper)) (v := ?_) rfl (by kernel_rfl) (by kernel_rfl) (by kernel_rfl) (fun _ _ _ h => h) (Or.inl ⟨by rfl, ?_⟩) (by assumption) ?_
            rotate_left 1
            · (intro w hSw; (try dsimp only at hSw); go_simp; (try with_reducible rfl))
            try simp only [Act.put, List.setIfInBounds_toArray, List.set_cons_zero, List.set_cons_succ]
            refine wpAnyH_take (i := 7) (oi := ({ dst := some 50, op := Go.Op.move (Go.Operand.tmp 2), type := 3, pos := "law.go:287", after := #[{ on := 3, ground := Go.Ground.guard }], guard := some (3, true) } : Oper)) (v := ?_) rfl (by kernel_rfl) (by kernel_rfl) (by kernel_rfl) (fun _ _ _ h => h) (Or.inl ⟨by rfl, ?_⟩) (by assumption) ?_
            rotate_left 1
            · (intro w hSw; (try dsimp only at hSw); go_simp; (try with_reducible rfl))
            try simp only [Act.put, List.setIfInBounds_toArray, List.set_cons_zero, List.set_cons_succ]
            refine wpAnyH_take (i := 8) (oi := ({ dst := some 51, op := Go.Op.move (Go.Operand.tmp 3), type := 22, pos := "law.go:287", after := #[{ on := 3, ground := Go.Ground.guard }], guard := some (3, true) } : Oper)) (v := ?_) rfl (by kernel_rfl) (by kernel_rfl) (by kernel_rfl) (fun _ _ _ h => h) (Or.inl ⟨by rfl, ?_⟩) (by assumption) ?_
            rotate_left 1
            · (intro w hSw; (try dsimp only at hSw); go_simp; (try with_reducible rfl))
            try simp only [Act.put, List.setIfInBounds_toArray, List.set_cons_zero, List.set_cons_succ]
            refine wpAnyH_take (i := 9) (oi := ({ dst := some 52, op := Go.Op.move (Go.Operand.tmp 10), type := 3, pos := "law.go:287", after := #[{ on := 3, ground := Go.Ground.guard }], guard := some (3, true) } : Oper)) (v := ?_) rfl (by kernel_rfl) (by kernel_rfl) (by kernel_rfl) (fun _ _ _ h => h) (Or.inl ⟨by rfl, ?_⟩) (by assumption) ?_
            rotate_left 1
            · (intro w hSw; (try dsimp only at hSw); go_simp; (try with_reducible rfl))
            try simp only [Act.put, List.setIfInBounds_toArray, List.set_cons_zero, List.set_cons_succ]
            refine wpAnyH_take (i := 10) (oi := ({ dst := some 53, op := Go.Op.indexAddr 22 (Go.Operand.tmp 51) (Go.Operand.tmp 52), type := 0, pos := "law.go:287", after := #[{ on := 8, ground := Go.Ground.data }, { on := 9, ground := Go.Ground.data }, { on := 3, ground := Go.Ground.guard }], guard := some (3, true) } : Oper)) (v := ?_) rfl (by kernel_rfl) (by kernel_rfl) (by kernel_rfl) (fun _ _ _ h => h) (Or.inl ⟨by rfl, ?_⟩) (by assumption) ?_
            rotate_left 1
            · (intro w hSw; (try dsimp only at hSw); go_simp; (try with_reducible rfl))
            try simp only [Act.put, List.setIfInBounds_toArray, List.set_cons_zero, List.set_cons_succ]
            refine wpAnyH_take (i := 11) (oi := ({ dst := some 54, op := Go.Op.fieldAddr 45 (Go.Operand.tmp 53) 2, type := 0, pos := "law.go:287", after := #[{ on := 10, ground := Go.Ground.data }, { on := 3, ground := Go.Ground.guard }], guard := some (3, true) } : Oper)) (v := ?_) rfl (by kernel_rfl) (by kernel_rfl) (by kernel_rfl) (fun _ _ _ h => h) (Or.inl ⟨by rfl, ?_⟩) (by assumption) ?_
            rotate_left 1
            · (intro w hSw; (try dsimp only at hSw); go_simp; (try with_reducible rfl))
            try simp only [Act.put, List.setIfInBounds_toArray, List.set_cons_zero, List.set_cons_succ]
            refine wpAnyH_take (i := 12) (oi := ({ dst := some 55, op := Go.Op.load 25 (Go.Operand.tmp 54), type := 25, pos := "law.go:287", after := #[{ on := 11, ground := Go.Ground.data }, { on := 3, ground := Go.Ground.guard }], guard := some (3, true) } : Oper)) (v := ?_) rfl (by kernel_rfl) (by kernel_rfl) (by kernel_rfl) (fun _ _ _ h => h) (Or.inl ⟨by rfl, ?_⟩) (by assumption) ?_
            rotate_left 1
            · (intro w hSw; (try dsimp only at hSw); go_simp; (try with_reducible rfl))
            try simp only [Act.put, List.setIfInBounds_toArray, List.set_cons_zero, List.set_cons_succ]
            refine wpAnyH_take (i := 15) (oi := ({ dst := some 58, op := Go.Op.indexAddr 35 (Go.Operand.tmp 12) (Go.Operand.const (Go.Value.int Go.IntKind.i64 0)), type := 0, pos := "law.go:287", after := #[{ on := 3, ground := Go.Ground.guard }], guard := some (3, true) } : Oper)) (v := ?_) rfl (by kernel_rfl) (by kernel_rfl) (by kernel_rfl) (fun _ _ _ h => h) (Or.inl ⟨by rfl, ?_⟩) (by assumption) ?_
            rotate_left 1
            · (intro w hSw; (try dsimp only at hSw); go_simp; (try with_reducible rfl))
            try simp only [Act.put, List.setIfInBounds_toArray, List.set_cons_zero, List.set_cons_succ]
            refine wpAnyH_take (i := 16) (oi := ({ dst := some 59, op := Go.Op.load 33 (Go.Operand.tmp 58), type := 33, pos := "law.go:287", after := #[{ on := 15, ground := Go.Ground.data }, { on := 3, ground := Go.Ground.guard }], guard := some (3, true) } : Oper)) (v := ?_) rfl (by kernel_rfl) (by kernel_rfl) (by kernel_rfl) (fun _ _ _ h => h) (Or.inl ⟨by rfl, ?_⟩) (by assumption) ?_
            rotate_left 1
            · (intro w hSw; (try dsimp only at hSw); go_simp; (try with_reducible rfl))
            try simp only [Act.put, List.setIfInBounds_toArray, List.set_cons_zero, List.set_cons_succ]
            refine wpAnyH_take (i := 17) (oi := ({ dst := some 60, op := Go.Op.convert 33 2 (Go.Operand.tmp 59), type := 2, pos := "law.go:287", after := #[{ on := 16, ground := Go.Ground.data }, { on := 3, ground := Go.Ground.guard }], guard := some (3, true) } : Oper)) (v := ?_) rfl (by kernel_rfl) (by kernel_rfl) (by kernel_rfl) (fun _ _ _ h => h) (Or.inl ⟨by rfl, ?_⟩) (by assumption) ?_
            rotate_left 1
            · (intro w hSw; (try dsimp only at hSw); go_simp; (try with_reducible rfl))
            try simp only [Act.put, List.setIfInBounds_toArray, List.set_cons_zero, List.set_cons_succ]
            refine wpAnyH_ready (rs := [13]) (by kernel_rfl) (by simp) ?_
            refine AllReadyH.cons (o := ({ dst := some 56, op := Go.Op.call { callee := Go.Callee.value (Go.Operand.func 23), args := #[Go.Operand.tmp 50, Go.Operand.tmp 55], argTypes := #[3, 25] }, type := 2, pos := "law.go:287", after := #[{ on := 7, ground := Go.Ground.data }, { on := 12, ground := Go.Ground.data }, { on := 3, ground := Go.Ground.chain }, { on := 3, ground := Go.Ground.guard }], guard := some (3, true) } : Oper)) rfl (fun K hK => ?_) AllReadyH.nil
            go_simp
            go_at_call 23
            refine (HWt.out _).mono ?_
            rintro e9 w9 ⟨rfl, hw9⟩
            subst w9
            go_wp2_with (fail)
            refine hK.out _ _ ?_ (fun hHeld => ?_)
            · exact hS9.out
            clear hK K
            try simp only [Act.put, List.setIfInBounds_toArray, List.set_cons_zero, List.set_cons_succ]
            refine wpAnyH_take (i := 14) (oi := ({ dst := some 57, op := Go.Op.binOp Go.BinOp.add 2 (Go.Operand.tmp 49) (Go.Operand.tmp 56) 2, type := 2, pos := "law.go:287", after := #[{ on := 6, ground := Go.Ground.data }, { on := 13, ground := Go.Ground.data }, { on := 3, ground := Go.Ground.guard }], guard := some (3, true) } : Oper)) (v := ?_) rfl (by kernel_rfl) (by kernel_rfl) (by kernel_rfl) (fun _ _ _ h => h) (Or.inl ⟨by rfl, ?_⟩) (by assumption) ?_
            rotate_left 1
            · (intro w hSw; (try dsimp only at hSw); go_simp; (try with_reducible rfl))
            try simp only [Act.put, List.setIfInBounds_toArray, List.set_cons_zero, List.set_cons_succ]
            refine wpAnyH_take (i := 18) (oi := ({ dst := some 61, op := Go.Op.binOp Go.BinOp.eql 2 (Go.Operand.tmp 57) (Go.Operand.tmp 60) 2, type := 4, pos := "law.go:287", after := #[{ on := 14, ground := Go.Ground.data }, { on := 17, ground := Go.Ground.data }, { on := 3, ground := Go.Ground.guard }], guard := some (3, true) } : Oper)) (v := ?_) rfl (by kernel_rfl) (by kernel_rfl) (by kernel_rfl) (fun _ _ _ h => h) (Or.inl ⟨by rfl, ?_⟩) (by assumption) ?_
            rotate_left 1
            · (intro w hSw; (try dsimp only at hSw); go_simp; (try with_reducible rfl))
            try simp only [Act.put, List.setIfInBounds_toArray, List.set_cons_zero, List.set_cons_succ]
            refine wpAnyH_take (i := 19) (oi := ({ dst := some 62, op := Go.Op.pick (Go.Operand.tmp 46) (Go.Operand.tmp 61) (Go.Operand.const (Go.Value.bool false)), type := 4, pos := "law.go:287", after := #[{ on := 3, ground := Go.Ground.data }, { on := 18, ground := Go.Ground.data }], guard := none } : Oper)) (v := ?_) rfl (by kernel_rfl) (by kernel_rfl) (by kernel_rfl) (fun _ _ _ h => h) (Or.inl ⟨by rfl, ?_⟩) (by assumption) ?_
            rotate_left 1
            · (intro w hSw; (try dsimp only at hSw); go_simp; (try with_reducible rfl))
            try simp only [Act.put, List.setIfInBounds_toArray, List.set_cons_zero, List.set_cons_succ]
            refine wpAnyH_take (i := 20) (oi := ({ dst := some 63, op := Go.Op.move (Go.Operand.tmp 62), type := 4, pos := "law.go:287", after := #[{ on := 19, ground := Go.Ground.data }, { on := 13, ground := Go.Ground.chain }], guard := none } : Oper)) (v := ?_) rfl (by kernel_rfl) (by kernel_rfl) (by kernel_rfl) (fun _ _ _ h => h) (Or.inl ⟨by rfl, ?_⟩) (by assumption) ?_
            rotate_left 1
            · (intro w hSw; (try dsimp only at hSw); go_simp; (try with_reducible rfl))
            try simp only [Act.put, List.setIfInBounds_toArray, List.set_cons_zero, List.set_cons_succ]
            refine wpAnyH_take (i := 21) (oi := ({ dst := some 64, op := Go.Op.indexAddr 35 (Go.Operand.tmp 11) (Go.Operand.const (Go.Value.int Go.IntKind.i64 2)), type := 0, pos := "law.go:287", after := #[{ on := 20, ground := Go.Ground.guard }], guard := some (20, true) } : Oper)) (v := ?_) rfl (by kernel_rfl) (by kernel_rfl) (by kernel_rfl) (fun _ _ _ h => h) (Or.inl ⟨by rfl, ?_⟩) (by assumption) ?_
            rotate_left 1
            · (intro w hSw; (try dsimp only at hSw); go_simp; (try with_reducible rfl))
            try simp only [Act.put, List.setIfInBounds_toArray, List.set_cons_zero, List.set_cons_succ]
            refine wpAnyH_take (i := 22) (oi := ({ dst := some 65, op := Go.Op.load 33 (Go.Operand.tmp 64), type := 33, pos := "law.go:287", after := #[{ on := 21, ground := Go.Ground.data }, { on := 20, ground := Go.Ground.guard }], guard := some (20, true) } : Oper)) (v := ?_) rfl (by kernel_rfl) (by kernel_rfl) (by kernel_rfl) (fun _ _ _ h => h) (Or.inl ⟨by rfl, ?_⟩) (by assumption) ?_
            rotate_left 1
            · (intro w hSw; (try dsimp only at hSw); go_simp; (try with_reducible rfl))
            try simp only [Act.put, List.setIfInBounds_toArray, List.set_cons_zero, List.set_cons_succ]
            refine wpAnyH_take (i := 23) (oi := ({ dst := some 66, op := Go.Op.indexAddr 35 (Go.Operand.tmp 12) (Go.Operand.const (Go.Value.int Go.IntKind.i64 2)), type := 0, pos := "law.go:287", after := #[{ on := 20, ground := Go.Ground.guard }], guard := some (20, true) } : Oper)) (v := ?_) rfl (by kernel_rfl) (by kernel_rfl) (by kernel_rfl) (fun _ _ _ h => h) (Or.inl ⟨by rfl, ?_⟩) (by assumption) ?_
            rotate_left 1
            · (intro w hSw; (try dsimp only at hSw); go_simp; (try with_reducible rfl))
            try simp only [Act.put, List.setIfInBounds_toArray, List.set_cons_zero, List.set_cons_succ]
            refine wpAnyH_take (i := 24) (oi := ({ dst := some 67, op := Go.Op.load 33 (Go.Operand.tmp 66), type := 33, pos := "law.go:287", after := #[{ on := 23, ground := Go.Ground.data }, { on := 20, ground := Go.Ground.guard }], guard := some (20, true) } : Oper)) (v := ?_) rfl (by kernel_rfl) (by kernel_rfl) (by kernel_rfl) (fun _ _ _ h => h) (Or.inl ⟨by rfl, ?_⟩) (by assumption) ?_
            rotate_left 1
            · (intro w hSw; (try dsimp only at hSw); go_simp; (try with_reducible rfl))
            try simp only [Act.put, List.setIfInBounds_toArray, List.set_cons_zero, List.set_cons_succ]
            refine wpAnyH_take (i := 25) (oi := ({ dst := some 68, op := Go.Op.binOp Go.BinOp.lss 33 (Go.Operand.tmp 65) (Go.Operand.tmp 67) 33, type := 4, pos := "law.go:287", after := #[{ on := 22, ground := Go.Ground.data }, { on := 24, ground := Go.Ground.data }, { on := 20, ground := Go.Ground.guard }], guard := some (20, true) } : Oper)) (v := ?_) rfl (by kernel_rfl) (by kernel_rfl) (by kernel_rfl) (fun _ _ _ h => h) (Or.inl ⟨by rfl, ?_⟩) (by assumption) ?_
            rotate_left 1
            · (intro w hSw; (try dsimp only at hSw); go_simp; (try with_reducible rfl))
            try simp only [Act.put, List.setIfInBounds_toArray, List.set_cons_zero, List.set_cons_succ]
            refine wpAnyH_take (i := 26) (oi := ({ dst := some 69, op := Go.Op.pick (Go.Operand.tmp 63) (Go.Operand.tmp 68) (Go.Operand.const (Go.Value.bool false)), type := 4, pos := "law.go:287", after := #[{ on := 20, ground := Go.Ground.data }, { on := 25, ground := Go.Ground.data }], guard := none } : Oper)) (v := ?_) rfl (by kernel_rfl) (by kernel_rfl) (by kernel_rfl) (fun _ _ _ h => h) (Or.inl ⟨by rfl, ?_⟩) (by assumption) ?_
            rotate_left 1
            · (intro w hSw; (try dsimp only at hSw); go_simp; (try with_reducible rfl))
            try simp only [Act.put, List.setIfInBounds_toArray, List.set_cons_zero, List.set_cons_succ]
            refine wpAnyH_done (by kernel_rfl) ?_ _
            go_wp2
            all_goals exact ⟨⟨i + 1, H, cc, by go_num, HG8.out.on (belowD (Below.refl _ _)), HHn, belowD HB8.out⟩, by simp [intOf]; omega⟩
        · have b2 : (q == L y) = false := by simp [hEq]
          have HHn := hide (HPs.out (.inr (.inl (by rw [hq]; exact hEq))))
          clear hU hlx hly hlx' hwz HU hq hEq HPs HPt
          go_wp2_with (fail)
          refine wp_region_held_drew (S := Sg bx bz eb (i * 3 + 2) (S x) (S y) z) (by kernel_rfl) ?_ (fun hHeld => ?_)
          · exact hS9.out
          refine wpAnyH_take (i := 0) (oi := ({ dst := some 43, op := Go.Op.indexAddr 35 (Go.Operand.tmp 11) (Go.Operand.const (Go.Value.int Go.IntKind.i64 0)), type := 0, pos := "law.go:287", after := #[], guard := none } : Oper)) (v := ?_) rfl (by kernel_rfl) (by kernel_rfl) (by kernel_rfl) (fun _ _ _ h => h) (Or.inl ⟨by rfl, ?_⟩) (by assumption) ?_
          rotate_left 1
          · (intro w hSw; (try dsimp only at hSw); go_simp; (try with_reducible rfl))
          try simp only [Act.put, List.setIfInBounds_toArray, List.set_cons_zero, List.set_cons_succ]
          refine wpAnyH_take (i := 1) (oi := ({ dst := some 44, op := Go.Op.load 33 (Go.Operand.tmp 43), type := 33, pos := "law.go:287", after := #[{ on := 0, ground := Go.Ground.data }], guard := none } : Oper)) (v := ?_) rfl (by kernel_rfl) (by kernel_rfl) (by kernel_rfl) (fun _ _ _ h => h) (Or.inl ⟨by rfl, ?_⟩) (by assumption) ?_
          rotate_left 1
          · (intro w hSw; (try dsimp only at hSw); go_simp; (try with_reducible rfl))
          try simp only [Act.put, List.setIfInBounds_toArray, List.set_cons_zero, List.set_cons_succ]
          refine wpAnyH_take (i := 2) (oi := ({ dst := some 45, op := Go.Op.binOp Go.BinOp.neq 33 (Go.Operand.tmp 44) (Go.Operand.const (Go.Value.int Go.IntKind.u64 9223372036854775807)) 33, type := 4, pos := "law.go:287", after := #[{ on := 1, ground := Go.Ground.data }], guard := none } : Oper)) (v := ?_) rfl (by kernel_rfl) (by kernel_rfl) (by kernel_rfl) (fun _ _ _ h => h) (Or.inl ⟨by rfl, ?_⟩) (by assumption) ?_
          rotate_left 1
          · (intro w hSw; (try dsimp only at hSw); go_simp; (try with_reducible rfl))
          try simp only [Act.put, List.setIfInBounds_toArray, List.set_cons_zero, List.set_cons_succ]
          refine wpAnyH_take (i := 3) (oi := ({ dst := some 46, op := Go.Op.move (Go.Operand.tmp 45), type := 4, pos := "law.go:287", after := #[{ on := 2, ground := Go.Ground.data }], guard := none } : Oper)) (v := ?_) rfl (by kernel_rfl) (by kernel_rfl) (by kernel_rfl) (fun _ _ _ h => h) (Or.inl ⟨by rfl, ?_⟩) (by assumption) ?_
          rotate_left 1
          · (intro w hSw; (try dsimp only at hSw); go_simp; (try with_reducible rfl))
          try simp only [Act.put, List.setIfInBounds_toArray, List.set_cons_zero, List.set_cons_succ]
          refine wpAnyH_take (i := 4) (oi := ({ dst := some 47, op := Go.Op.indexAddr 35 (Go.Operand.tmp 11) (Go.Operand.const (Go.Value.int Go.IntKind.i64 0)), type := 0, pos := "law.go:287", after := #[{ on := 3, ground := Go.Ground.guard }], guard := some (3, true) } : Oper)) (v := ?_) rfl (by kernel_rfl) (by kernel_rfl) (by kernel_rfl) (fun _ _ _ h => h) (Or.inl ⟨by rfl, ?_⟩) (by assumption) ?_
          rotate_left 1
          · (intro w hSw; (try dsimp only at hSw); go_simp; (try with_reducible rfl))
          try simp only [Act.put, List.setIfInBounds_toArray, List.set_cons_zero, List.set_cons_succ]
          refine wpAnyH_take (i := 5) (oi := ({ dst := some 48, op := Go.Op.load 33 (Go.Operand.tmp 47), type := 33, pos := "law.go:287", after := #[{ on := 4, ground := Go.Ground.data }, { on := 3, ground := Go.Ground.guard }], guard := some (3, true) } : Oper)) (v := ?_) rfl (by kernel_rfl) (by kernel_rfl) (by kernel_rfl) (fun _ _ _ h => h) (Or.inl ⟨by rfl, ?_⟩) (by assumption) ?_
          rotate_left 1
          · (intro w hSw; (try dsimp only at hSw); go_simp; (try with_reducible rfl))
          try simp only [Act.put, List.setIfInBounds_toArray, List.set_cons_zero, List.set_cons_succ]
          refine wpAnyH_take (i := 6) (oi := ({ dst := some 49, op := Go.Op.convert 33 2 (Go.Operand.tmp 48), type := 2, pos := "law.go:287", after := #[{ on := 5, ground := Go.Ground.data }, { on := 3, ground := Go.Ground.guard }], guard := some (3, true) } : Oper)) (v := ?_) rfl (by kernel_rfl) (by kernel_rfl) (by kernel_rfl) (fun _ _ _ h => h) (Or.inl ⟨by rfl, ?_⟩) (by assumption) ?_
          rotate_left 1
          · (intro w hSw; (try dsimp only at hSw); go_simp; (try with_reducible rfl))
          try simp only [Act.put, List.setIfInBounds_toArray, List.set_cons_zero, List.set_cons_succ]
          refine wpAnyH_take (i := 7) (oi := ({ dst := some 50, op := Go.Op.move (Go.Operand.tmp 2), type := 3, pos := "law.go:287", after := #[{ on := 3, ground := Go.Ground.guard }], guard := some (3, true) } : Oper)) (v := ?_) rfl (by kernel_rfl) (by kernel_rfl) (by kernel_rfl) (fun _ _ _ h => h) (Or.inl ⟨by rfl, ?_⟩) (by assumption) ?_
          rotate_left 1
          · (intro w hSw; (try dsimp only at hSw); go_simp; (try with_reducible rfl))
          try simp only [Act.put, List.setIfInBounds_toArray, List.set_cons_zero, List.set_cons_succ]
          refine wpAnyH_take (i := 8) (oi := ({ dst := some 51, op := Go.Op.move (Go.Operand.tmp 3), type := 22, pos := "law.go:287", after := #[{ on := 3, ground := Go.Ground.guard }], guard := some (3, true) } : Oper)) (v := ?_) rfl (by kernel_rfl) (by kernel_rfl) (by kernel_rfl) (fun _ _ _ h => h) (Or.inl ⟨by rfl, ?_⟩) (by assumption) ?_
          rotate_left 1
          · (intro w hSw; (try dsimp only at hSw); go_simp; (try with_reducible rfl))
          try simp only [Act.put, List.setIfInBounds_toArray, List.set_cons_zero, List.set_cons_succ]
          refine wpAnyH_take (i := 9) (oi := ({ dst := some 52, op := Go.Op.move (Go.Operand.tmp 10), type := 3, pos := "law.go:287", after := #[{ on := 3, ground := Go.Ground.guard }], guard := some (3, true) } : Oper)) (v := ?_) rfl (by kernel_rfl) (by kernel_rfl) (by kernel_rfl) (fun _ _ _ h => h) (Or.inl ⟨by rfl, ?_⟩) (by assumption) ?_
          rotate_left 1
          · (intro w hSw; (try dsimp only at hSw); go_simp; (try with_reducible rfl))
          try simp only [Act.put, List.setIfInBounds_toArray, List.set_cons_zero, List.set_cons_succ]
          refine wpAnyH_take (i := 10) (oi := ({ dst := some 53, op := Go.Op.indexAddr 22 (Go.Operand.tmp 51) (Go.Operand.tmp 52), type := 0, pos := "law.go:287", after := #[{ on := 8, ground := Go.Ground.data }, { on := 9, ground := Go.Ground.data }, { on := 3, ground := Go.Ground.guard }], guard := some (3, true) } : Oper)) (v := ?_) rfl (by kernel_rfl) (by kernel_rfl) (by kernel_rfl) (fun _ _ _ h => h) (Or.inl ⟨by rfl, ?_⟩) (by assumption) ?_
          rotate_left 1
          · (intro w hSw; (try dsimp only at hSw); go_simp; (try with_reducible rfl))
          try simp only [Act.put, List.setIfInBounds_toArray, List.set_cons_zero, List.set_cons_succ]
          refine wpAnyH_take (i := 11) (oi := ({ dst := some 54, op := Go.Op.fieldAddr 45 (Go.Operand.tmp 53) 2, type := 0, pos := "law.go:287", after := #[{ on := 10, ground := Go.Ground.data }, { on := 3, ground := Go.Ground.guard }], guard := some (3, true) } : Oper)) (v := ?_) rfl (by kernel_rfl) (by kernel_rfl) (by kernel_rfl) (fun _ _ _ h => h) (Or.inl ⟨by rfl, ?_⟩) (by assumption) ?_
          rotate_left 1
          · (intro w hSw; (try dsimp only at hSw); go_simp; (try with_reducible rfl))
          try simp only [Act.put, List.setIfInBounds_toArray, List.set_cons_zero, List.set_cons_succ]
          refine wpAnyH_take (i := 12) (oi := ({ dst := some 55, op := Go.Op.load 25 (Go.Operand.tmp 54), type := 25, pos := "law.go:287", after := #[{ on := 11, ground := Go.Ground.data }, { on := 3, ground := Go.Ground.guard }], guard := some (3, true) } : Oper)) (v := ?_) rfl (by kernel_rfl) (by kernel_rfl) (by kernel_rfl) (fun _ _ _ h => h) (Or.inl ⟨by rfl, ?_⟩) (by assumption) ?_
          rotate_left 1
          · (intro w hSw; (try dsimp only at hSw); go_simp; (try with_reducible rfl))
          try simp only [Act.put, List.setIfInBounds_toArray, List.set_cons_zero, List.set_cons_succ]
          refine wpAnyH_take (i := 15) (oi := ({ dst := some 58, op := Go.Op.indexAddr 35 (Go.Operand.tmp 12) (Go.Operand.const (Go.Value.int Go.IntKind.i64 0)), type := 0, pos := "law.go:287", after := #[{ on := 3, ground := Go.Ground.guard }], guard := some (3, true) } : Oper)) (v := ?_) rfl (by kernel_rfl) (by kernel_rfl) (by kernel_rfl) (fun _ _ _ h => h) (Or.inl ⟨by rfl, ?_⟩) (by assumption) ?_
          rotate_left 1
          · (intro w hSw; (try dsimp only at hSw); go_simp; (try with_reducible rfl))
          try simp only [Act.put, List.setIfInBounds_toArray, List.set_cons_zero, List.set_cons_succ]
          refine wpAnyH_take (i := 16) (oi := ({ dst := some 59, op := Go.Op.load 33 (Go.Operand.tmp 58), type := 33, pos := "law.go:287", after := #[{ on := 15, ground := Go.Ground.data }, { on := 3, ground := Go.Ground.guard }], guard := some (3, true) } : Oper)) (v := ?_) rfl (by kernel_rfl) (by kernel_rfl) (by kernel_rfl) (fun _ _ _ h => h) (Or.inl ⟨by rfl, ?_⟩) (by assumption) ?_
          rotate_left 1
          · (intro w hSw; (try dsimp only at hSw); go_simp; (try with_reducible rfl))
          try simp only [Act.put, List.setIfInBounds_toArray, List.set_cons_zero, List.set_cons_succ]
          refine wpAnyH_take (i := 17) (oi := ({ dst := some 60, op := Go.Op.convert 33 2 (Go.Operand.tmp 59), type := 2, pos := "law.go:287", after := #[{ on := 16, ground := Go.Ground.data }, { on := 3, ground := Go.Ground.guard }], guard := some (3, true) } : Oper)) (v := ?_) rfl (by kernel_rfl) (by kernel_rfl) (by kernel_rfl) (fun _ _ _ h => h) (Or.inl ⟨by rfl, ?_⟩) (by assumption) ?_
          rotate_left 1
          · (intro w hSw; (try dsimp only at hSw); go_simp; (try with_reducible rfl))
          try simp only [Act.put, List.setIfInBounds_toArray, List.set_cons_zero, List.set_cons_succ]
          refine wpAnyH_ready (rs := [13]) (by kernel_rfl) (by simp) ?_
          refine AllReadyH.cons (o := ({ dst := some 56, op := Go.Op.call { callee := Go.Callee.value (Go.Operand.func 23), args := #[Go.Operand.tmp 50, Go.Operand.tmp 55], argTypes := #[3, 25] }, type := 2, pos := "law.go:287", after := #[{ on := 7, ground := Go.Ground.data }, { on := 12, ground := Go.Ground.data }, { on := 3, ground := Go.Ground.chain }, { on := 3, ground := Go.Ground.guard }], guard := some (3, true) } : Oper)) rfl (fun K hK => ?_) AllReadyH.nil
          go_simp
          go_at_call 23
          refine (HWt.out _).mono ?_
          rintro e9 w9 ⟨rfl, hw9⟩
          subst w9
          go_wp2_with (fail)
          refine hK.out _ _ ?_ (fun hHeld => ?_)
          · exact hS9.out
          clear hK K
          try simp only [Act.put, List.setIfInBounds_toArray, List.set_cons_zero, List.set_cons_succ]
          refine wpAnyH_take (i := 14) (oi := ({ dst := some 57, op := Go.Op.binOp Go.BinOp.add 2 (Go.Operand.tmp 49) (Go.Operand.tmp 56) 2, type := 2, pos := "law.go:287", after := #[{ on := 6, ground := Go.Ground.data }, { on := 13, ground := Go.Ground.data }, { on := 3, ground := Go.Ground.guard }], guard := some (3, true) } : Oper)) (v := ?_) rfl (by kernel_rfl) (by kernel_rfl) (by kernel_rfl) (fun _ _ _ h => h) (Or.inl ⟨by rfl, ?_⟩) (by assumption) ?_
          rotate_left 1
          · (intro w hSw; (try dsimp only at hSw); go_simp; (try with_reducible rfl))
          try simp only [Act.put, List.setIfInBounds_toArray, List.set_cons_zero, List.set_cons_succ]
          refine wpAnyH_take (i := 18) (oi := ({ dst := some 61, op := Go.Op.binOp Go.BinOp.eql 2 (Go.Operand.tmp 57) (Go.Operand.tmp 60) 2, type := 4, pos := "law.go:287", after := #[{ on := 14, ground := Go.Ground.data }, { on := 17, ground := Go.Ground.data }, { on := 3, ground := Go.Ground.guard }], guard := some (3, true) } : Oper)) (v := ?_) rfl (by kernel_rfl) (by kernel_rfl) (by kernel_rfl) (fun _ _ _ h => h) (Or.inl ⟨by rfl, ?_⟩) (by assumption) ?_
          rotate_left 1
          · (intro w hSw; (try dsimp only at hSw); go_simp; (try with_reducible rfl))
          try simp only [Act.put, List.setIfInBounds_toArray, List.set_cons_zero, List.set_cons_succ]
          refine wpAnyH_take (i := 19) (oi := ({ dst := some 62, op := Go.Op.pick (Go.Operand.tmp 46) (Go.Operand.tmp 61) (Go.Operand.const (Go.Value.bool false)), type := 4, pos := "law.go:287", after := #[{ on := 3, ground := Go.Ground.data }, { on := 18, ground := Go.Ground.data }], guard := none } : Oper)) (v := ?_) rfl (by kernel_rfl) (by kernel_rfl) (by kernel_rfl) (fun _ _ _ h => h) (Or.inl ⟨by rfl, ?_⟩) (by assumption) ?_
          rotate_left 1
          · (intro w hSw; (try dsimp only at hSw); go_simp; (try with_reducible rfl))
          try simp only [Act.put, List.setIfInBounds_toArray, List.set_cons_zero, List.set_cons_succ]
          refine wpAnyH_take (i := 20) (oi := ({ dst := some 63, op := Go.Op.move (Go.Operand.tmp 62), type := 4, pos := "law.go:287", after := #[{ on := 19, ground := Go.Ground.data }, { on := 13, ground := Go.Ground.chain }], guard := none } : Oper)) (v := ?_) rfl (by kernel_rfl) (by kernel_rfl) (by kernel_rfl) (fun _ _ _ h => h) (Or.inl ⟨by rfl, ?_⟩) (by assumption) ?_
          rotate_left 1
          · (intro w hSw; (try dsimp only at hSw); go_simp; (try with_reducible rfl))
          try simp only [Act.put, List.setIfInBounds_toArray, List.set_cons_zero, List.set_cons_succ]
          refine wpAnyH_take (i := 21) (oi := ({ dst := some 64, op := Go.Op.indexAddr 35 (Go.Operand.tmp 11) (Go.Operand.const (Go.Value.int Go.IntKind.i64 2)), type := 0, pos := "law.go:287", after := #[{ on := 20, ground := Go.Ground.guard }], guard := some (20, true) } : Oper)) (v := undef) rfl (by kernel_rfl) (by kernel_rfl) (by kernel_rfl) (fun _ _ _ h => h) (Or.inr ⟨by rfl, rfl⟩) (by assumption) ?_
          try simp only [Act.put, List.setIfInBounds_toArray, List.set_cons_zero, List.set_cons_succ]
          refine wpAnyH_take (i := 22) (oi := ({ dst := some 65, op := Go.Op.load 33 (Go.Operand.tmp 64), type := 33, pos := "law.go:287", after := #[{ on := 21, ground := Go.Ground.data }, { on := 20, ground := Go.Ground.guard }], guard := some (20, true) } : Oper)) (v := undef) rfl (by kernel_rfl) (by kernel_rfl) (by kernel_rfl) (fun _ _ _ h => h) (Or.inr ⟨by rfl, rfl⟩) (by assumption) ?_
          try simp only [Act.put, List.setIfInBounds_toArray, List.set_cons_zero, List.set_cons_succ]
          refine wpAnyH_take (i := 23) (oi := ({ dst := some 66, op := Go.Op.indexAddr 35 (Go.Operand.tmp 12) (Go.Operand.const (Go.Value.int Go.IntKind.i64 2)), type := 0, pos := "law.go:287", after := #[{ on := 20, ground := Go.Ground.guard }], guard := some (20, true) } : Oper)) (v := undef) rfl (by kernel_rfl) (by kernel_rfl) (by kernel_rfl) (fun _ _ _ h => h) (Or.inr ⟨by rfl, rfl⟩) (by assumption) ?_
          try simp only [Act.put, List.setIfInBounds_toArray, List.set_cons_zero, List.set_cons_succ]
          refine wpAnyH_take (i := 24) (oi := ({ dst := some 67, op := Go.Op.load 33 (Go.Operand.tmp 66), type := 33, pos := "law.go:287", after := #[{ on := 23, ground := Go.Ground.data }, { on := 20, ground := Go.Ground.guard }], guard := some (20, true) } : Oper)) (v := undef) rfl (by kernel_rfl) (by kernel_rfl) (by kernel_rfl) (fun _ _ _ h => h) (Or.inr ⟨by rfl, rfl⟩) (by assumption) ?_
          try simp only [Act.put, List.setIfInBounds_toArray, List.set_cons_zero, List.set_cons_succ]
          refine wpAnyH_take (i := 25) (oi := ({ dst := some 68, op := Go.Op.binOp Go.BinOp.lss 33 (Go.Operand.tmp 65) (Go.Operand.tmp 67) 33, type := 4, pos := "law.go:287", after := #[{ on := 22, ground := Go.Ground.data }, { on := 24, ground := Go.Ground.data }, { on := 20, ground := Go.Ground.guard }], guard := some (20, true) } : Oper)) (v := undef) rfl (by kernel_rfl) (by kernel_rfl) (by kernel_rfl) (fun _ _ _ h => h) (Or.inr ⟨by rfl, rfl⟩) (by assumption) ?_
          try simp only [Act.put, List.setIfInBounds_toArray, List.set_cons_zero, List.set_cons_succ]
          refine wpAnyH_take (i := 26) (oi := ({ dst := some 69, op := Go.Op.pick (Go.Operand.tmp 63) (Go.Operand.tmp 68) (Go.Operand.const (Go.Value.bool false)), type := 4, pos := "law.go:287", after := #[{ on := 20, ground := Go.Ground.data }, { on := 25, ground := Go.Ground.data }], guard := none } : Oper)) (v := ?_) rfl (by kernel_rfl) (by kernel_rfl) (by kernel_rfl) (fun _ _ _ h => h) (Or.inl ⟨by rfl, ?_⟩) (by assumption) ?_
          rotate_left 1
          · (intro w hSw; (try dsimp only at hSw); go_simp; (try with_reducible rfl))
          try simp only [Act.put, List.setIfInBounds_toArray, List.set_cons_zero, List.set_cons_succ]
          refine wpAnyH_done (by kernel_rfl) ?_ _
          go_wp2
          all_goals exact ⟨⟨i + 1, H, cc, by go_num, HG8.out.on (belowD (Below.refl _ _)), HHn, belowD HB8.out⟩, by simp [intOf]; omega⟩
    · have him : m = i := by omega
      subst him
      have HH1 := HHr
      have HG1 := HG
      have HGz : Hid (gb ≤ wr.heap.size) := Nat.le_of_lt HG.out.lt
      clear cc hi HB HHr HG
      go_wp2_with (fail)
      go_loopw [13] (fun v wx => ∃ j : Nat, j ≤ n ∧ v = .int .i64 j ∧ Hid (Ho 0 rb sb n cap m a E S A C kk u w wx) ∧ Hid (GT wx gb n H)) (fun v _ => n - (intOf v).toNat)
      case atStart => exact ⟨0, Nat.zero_le _, rfl, HH1, HG1⟩
      case round =>
        clear HH1 HG1
        obtain ⟨j, hj, rfl, HH2, HG2⟩ := hrel
        by_cases cj : j < n
        · have k0 := HH2.out.r.kr.1
          have k1 := HH2.out.s.k8 j cj
          have HW8 : Hid (Below wr.heap.size wr (wr.alloc (.cells (sv (S j)) 35))) := b1 _ _ _
          have HH8 := hide (HH2.out.on HW8.out)
          have HG8 := hide (HG2.out.on HW8.out)
          have hcj := HG8.out.cell j cj
          have hk8 := k8 (at0 wr (.cells (sv (S j)) 35))
          have huj : IntKind.u32.wrap (j : Int) = j := by simp only [IntKind.wrap, IntKind.signed, IntKind.bits]; simp; omega
          have hlj := HSp.out.b j
          by_cases e : j = s
          · have hb : ((j : Int) == (s : Int)) = true := by rw [e]; simp
            have b2 : (S j 2 != 0) = false := by rw [H2.out j, e, HSp.out.so.2]; rfl
            clear e hlj
            go_wp2
            all_goals exact ⟨⟨j + 1, cj, by go_num, HH8, HG8⟩, by simp [intOf]; omega⟩
          · have hb : ((j : Int) == (s : Int)) = false := by simp; omega
            by_cases hU : L j = 9223372036854775807
            · have b1 : (S j 0 == 9223372036854775807) = true := by rw [H0.out j, (us_inf _ (by omega) (by omega)).2 hU]; rfl
              have b2 : (S j 2 != 0) = false := by
                have : W j = 0 := by
                  have := (HSp.out.wb j).1
                  apply Classical.byContradiction
                  intro q
                  exact (HSp.out.w1 j (by omega)).1 hU
                rw [H2.out j, this]; rfl
              clear e hU hlj
              go_wp2
              all_goals exact ⟨⟨j + 1, cj, by go_num, HH8, HG8⟩, by simp [intOf]; omega⟩
            · have b1 : (S j 0 == 9223372036854775807) = false := by
                have : S j 0 ≠ 9223372036854775807 := by rw [H0.out j]; exact fun q => hU ((us_inf _ (by omega) (by omega)).1 q)
                simp [this]
              have b4 : H j = true := by
                have hw : 0 < W j := by
                  have := (HSp.out.wb j).1
                  apply Classical.byContradiction
                  intro q
                  rcases HSp.out.w0 j (by omega) with r | r
                  · exact hU r
                  · exact e r
                obtain ⟨_, x, z, ha, hx, hs, hww⟩ := HSp.out.w1 j hw
                exact HHe.out x j z ha hx hs hww
              rw [b4] at hcj
              clear e hU hlj b4
              go_wp2
              all_goals exact ⟨⟨j + 1, cj, by go_num, HH8, HG8⟩, by simp [intOf]; omega⟩
        · have hjn : n = j := by omega
          subst hjn
          clear cj hj
          go_wp2
          all_goals go_ret
          all_goals exact ⟨rfl, HH2.out.t⟩
end Wp
end Go.Proofs.Ytlhpnhjfibkgpaa
