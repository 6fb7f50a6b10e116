import Derived.Test.YtipnlcnikpngcaaDoorScD
namespace Go.Proofs.YtipnlcnikpngcaaDoor
namespace Wp
open Go.RowKit
set_option linter.unusedVariables false
set_option maxRecDepth 8000
theorem Cz.mk {E : Nat → Int × Int × Int} {m n cb : Nat} {K : Nat → Nat} {w wr : World} (h1 : GV wr cb 23 n (fun v => .int .u64 (K v : Int))) (h2 : Ks E m n K) (h3 : Below w.heap.size w wr) (h4 : w.heap.size ≤ cb) : Cz E m n w (.returned (.slice (some ⟨cb, 0, none⟩) n n)) wr := ⟨cb, K, rfl, h1, h2, h3, h4⟩
theorem w64 (x : Int) (h1 : 0 ≤ x) (h2 : x < 18446744073709551616) : IntKind.u64.wrap x = x := wu x h1 h2
/-- What the loop over those that may go keeps. -/
structure RmI (E : Nat → Int × Int × Int) (m n k : Nat) (K : Nat → Nat) (A0 A : Nat → Bool) (j : Nat) (b : Bool) : Prop where
  a : Ac E m n k K A
  s : ∀ u, u < j → A u = true → k ≤ dgr E A0 m u
  l : ∀ u, u < n → A u = true → A0 u = true
  f : b = false → ∀ u, u < n → A u = A0 u
  t : b = true → ∃ u, u < n ∧ A0 u = true ∧ A u = false
theorem RmI.new {E : Nat → Int × Int × Int} {m n k : Nat} {K : Nat → Nat} {A0 : Nat → Bool} (h : Ac E m n k K A0) : RmI E m n k K A0 A0 0 false := ⟨h, fun u hu => by omega, fun _ _ q => q, fun _ _ _ => rfl, fun q => by cases q⟩
theorem RmI.keep {E : Nat → Int × Int × Int} {m n k j : Nat} {K : Nat → Nat} {A0 A : Nat → Bool} {b : Bool} (h : RmI E m n k K A0 A j b) (hk : A j = true → k ≤ dgr E A0 m j) : RmI E m n k K A0 A (j + 1) b :=
  ⟨h.a, fun u hu q => by
    by_cases e : u = j
    · subst e; exact hk q
    · exact h.s u (by omega) q, h.l, h.f, h.t⟩
theorem RmI.drop {E : Nat → Int × Int × Int} {m n k j : Nat} {K : Nat → Nat} {A0 A : Nat → Bool} {b : Bool} (hI : EIn n m E) (h0 : Ac E m n k K A0) (h : RmI E m n k K A0 A j b) (hj : j < n) (ha : A j = true) (hk : dgr E A0 m j < k) : RmI E m n k K A0 (fun u => if u = j then false else A u) (j + 1) true := by
  have h1 := h.l j hj ha
  have h2 : dgr E A0 m j = nbc E j A0 m := if_pos h1
  refine ⟨Ac.drop hI h0 h.a j hj (by omega), fun u hu q => ?_, fun u hu q => ?_, (fun q => by cases q), fun _ => ⟨j, hj, h1, by simp⟩⟩
  · by_cases e : u = j
    · subst e; simp at q
    · simp only [if_neg e] at q; exact h.s u (by omega) q
  · by_cases e : u = j
    · subst e; exact h1
    · simp only [if_neg e] at q; exact h.l u hu q
theorem RmI.stable {E : Nat → Int × Int × Int} {m n k : Nat} {K : Nat → Nat} {A0 A : Nat → Bool} (hI : EIn n m E) (h : RmI E m n k K A0 A n false) : Sb E m n k A := fun v hv ha => by
  have h1 := h.s v hv ha
  have h2 : dgr E A0 m v = nbc E v A0 m := if_pos (h.l v hv ha)
  rw [nbc_congr hI v (P := A) (Q := A0) (h.f rfl)]
  omega
theorem RmI.less {E : Nat → Int × Int × Int} {m n k : Nat} {K : Nat → Nat} {A0 A : Nat → Bool} (h : RmI E m n k K A0 A n true) : ca A n < ca A0 n := (ca_le A0 A n h.l).2 (h.t rfl)
theorem ag_less {E : Nat → Int × Int × Int} {m n k lb : Nat} {K : Nat → Nat} {A0 A : Nat → Bool} {b : Bool} {w w' : World} (h : RmI E m n k K A0 A n b) (h1 : GV w lb 4 n (fun v => .bool (A v))) (h0 : GV w' lb 4 n (fun v => .bool (A0 v))) : ag lb n (.bool b) w < ag lb n (.bool true) w' := by
  show ag lb n (.bool b) w < tct lb w' n + 1
  rw [tct_eq h0 n (Nat.le_refl _)]
  cases b with
  | false => exact Nat.succ_pos _
  | true =>
    show tct lb w n + 1 < _
    rw [tct_eq h1 n (Nat.le_refl _)]
    have := h.less
    omega
set_option maxHeartbeats 40000000 in
theorem cores_doc (n m c : Nat) (a : Option Addr) (E : Nat → Int × Int × Int) (h0 : 1 ≤ n) (hn : n ≤ 1000) (hm : m ≤ 1048576) (w : World) (hE : ERow w a m E) (hI : EIn n m E) :
    Calls Tryd.prog 14 #[.int .u32 (n : Int), .slice a m c] w fun e w' => Cz E m n w e w' := by
  have HE := hide hE
  have HI := hide hI
  have HMw := hide (fun W => make_word W n (by omega))
  have HMb := hide (fun W => make_bool W n (by omega))
  have hmk := HMw.out w
  have hG0 := GV.new w 23 (.int .u64 0) n
  have HG0 : Hid (GV (w.alloc (.cells (madeCells #[.int .u64 0] n) 23)) w.heap.size 23 n (fun v => .int .u64 (((fun _ => 0 : Nat → Nat) v : Nat) : Int))) := hG0
  have HB0 : Hid (Below w.heap.size w (w.alloc (.cells (madeCells #[.int .u64 0] n) 23))) := b1 _ _ _
  have HK0 := hide (Kc.one E m n)
  clear hE hI hG0
  generalize hmc : madeCells #[.int .u64 0] n = mc at *
  generalize hmb : madeCells #[.bool false] n = mb at *
  have HNe : Hid (n ≤ 1000 ∧ m ≤ 1048576) := ⟨hn, hm⟩
  have hmw : IntKind.u64.wrap (m : Int) = (m : Int) := wu _ (by omega) (by omega)
  have hmw2 : IntKind.u64.wrap (2 * (m : Int)) = 2 * (m : Int) := wu _ (by omega) (by omega)
  obtain ⟨cb, hcb⟩ : ∃ cb, w.heap.size = cb := ⟨_, rfl⟩
  have HCb : Hid (w.heap.size ≤ cb) := Nat.le_of_eq hcb
  rw [hcb] at HG0 hmk
  clear hcb
  go_enter Tryd.func14, Tryd.ntmps14
  go_wp2_with (fail)
  clear hmk
  go_loopw [6] (fun q wr => ∃ (k : Nat) (K : Nat → Nat), 1 ≤ k ∧ k ≤ 2 * m + 1 ∧ q = .int .u64 (k : Int) ∧ Hid (Kc E m n k K) ∧ Hid (GV wr cb 23 n (fun v => .int .u64 (K v : Int))) ∧ Hid (Below w.heap.size w wr)) (fun q _ => 2 * m + 1 - (intOf q).toNat)
  case atStart => exact ⟨1, _, Nat.le_refl _, by omega, rfl, HK0, HG0, HB0⟩
  case round =>
    clear HK0 HG0 HB0
    obtain ⟨k, K, hk1, hk2, rfl, HK, HG, HB⟩ := hrel
    by_cases cc : k ≤ 2 * m
    · have hkm : (k : Int) ≤ 2 * (m : Int) := by omega
      have HKk : Hid (1 ≤ k ∧ k ≤ 2 * m) := ⟨hk1, cc⟩
      obtain ⟨wo, rfl⟩ : ∃ wo, wo = wr := ⟨_, rfl⟩
      have hmk := HMb.out wo
      have hGb := GV.new wo 4 (.bool false) n
      rw [hmb] at hGb
      obtain ⟨lb, hlb⟩ : ∃ lb, wo.heap.size = lb := ⟨_, rfl⟩
      have HC0 : Hid (CI E n K (fun v => decide (v < 0) && decide (K v + 1 = k)) cb lb w (wo.alloc (.cells mb 4))) := by
        refine ⟨bA2 HB.out _, HG.out.on (b1 _ _ _), ?_, HCb.out, ?_, ?_⟩
        · rw [← hlb]; exact hGb.ext (fun v _ => by simp)
        · rw [← hlb]; exact HB.out.size
        · have := HG.out.lt; omega
      rw [hlb] at hmk
      have hk1w : IntKind.u64.wrap ((k : Int) - 1) = (k : Int) - 1 := wu _ (by omega) (by have := HNe.out; omega)
      clear hGb hlb HG HB hk1 hk2 cc
      go_wp2_with (fail)
      clear hmk
      go_loopw [9] (fun q wr => ∃ j : Nat, j ≤ n ∧ q = .int .u32 (j : Int) ∧ Hid (CI E n K (fun v => decide (v < j) && decide (K v + 1 = k)) cb lb w wr)) (fun q _ => n - (intOf q).toNat)
      case atStart => exact ⟨0, Nat.zero_le _, rfl, HC0⟩
      case round =>
        clear HC0
        obtain ⟨j, hj, rfl, HC⟩ := hrel
        by_cases cj : j < n
        · have HCj := hide cj
          have g1 := HC.out.k.cell j cj
          have g2 := HC.out.l.cell j cj
          have f1 := HC.out.l.fz j
          obtain ⟨x, hx⟩ : ∃ x, K j = x := ⟨_, rfl⟩
          rw [hx] at g1
          obtain ⟨b, hb⟩ : ∃ b, ((x : Int) == (k : Int) - 1) = b := ⟨_, rfl⟩
          have HN : Hid (CI E n K (fun v => decide (v < j + 1) && decide (K v + 1 = k)) cb lb w (wr.setCell ⟨lb, j, none⟩ (.bool b))) := by
            refine (HC.out.setL j cj b).ext (fun _ _ => rfl) (fun v hv => ?_)
            by_cases e : v = j
            · rw [if_pos e, e, hx, ← hb]
              by_cases q : x + 1 = k
              · have q2 : (x : Int) = (k : Int) - 1 := by omega
                simp [q, q2]
              · have q2 : ¬ (x : Int) = (k : Int) - 1 := by omega
                simp [q, q2]
            · rw [if_neg e]
              have : decide (v < j) = decide (v < j + 1) := by simp; omega
              rw [this]
          have hjn : (j : Int) < (n : Int) := by omega
          have hwj : IntKind.u32.wrap ((j : Int) + 1) = (j : Int) + 1 := by simp only [IntKind.wrap, IntKind.signed, IntKind.bits]; simp; omega
          have hws := fun (C : Array Value) => HC.out.l.lt
          clear hx hj HC hws
          go_wp2_with (fail)
          exact ⟨⟨j + 1, HCj.out, by go_num, HN⟩, by simp [intOf]; have := HCj.out; omega⟩
        · have hjn : n = j := by omega
          subst hjn
          obtain ⟨A1, hA1⟩ : ∃ A1 : Nat → Bool, (fun v => decide (v < n) && decide (K v + 1 = k)) = A1 := ⟨_, rfl⟩
          have HA1 : Hid (Ac E m n k K A1) := Ac.new HK.out A1 (fun v hv => by rw [← hA1]; simp [hv])
          rw [hA1] at HC
          clear cj hj hA1
          obtain ⟨wo2, rfl⟩ : ∃ wo2, wo2 = wr := ⟨_, rfl⟩
          go_wp2_with (fail)
          go_loopw [10] (fun q wr => ∃ (A : Nat → Bool) (b : Bool), q = .bool b ∧ Hid (Ac E m n k K A) ∧ Hid (b = false → Sb E m n k A) ∧ Hid (CI E n K A cb lb w wr)) (fun q wr => ag lb n q wr)
          case atStart => exact ⟨A1, true, rfl, HA1, (fun q => by cases q), HC⟩
          case round =>
            clear HA1 HC
            obtain ⟨A, b, rfl, HA, HSb, HC⟩ := hrel
            cases b
            · have HS := hide (HSb.out rfl)
              clear HSb
              have HK1 : Hid (CI E n (fun v => if v < 0 ∧ A v = true then k else K v) A cb lb w wr) := HC.out.ext (fun v _ => by simp) (fun _ _ => rfl)
              clear HC
              go_wp2_with (fail)
              go_loopw [15, 8] (fun q z wr => ∃ (j : Nat) (f : Bool), j ≤ n ∧ q = .int .u32 (j : Int) ∧ z = .bool f ∧ Hid (f = true ↔ ∃ u, u < j ∧ A u = true) ∧ Hid (CI E n (fun v => if v < j ∧ A v = true then k else K v) A cb lb w wr)) (fun q _ _ => n - (intOf q).toNat)
              case atStart => exact ⟨0, false, Nat.zero_le _, rfl, rfl, ⟨(fun q => by cases q), (fun ⟨u, hu, _⟩ => by omega)⟩, HK1⟩
              case round =>
                clear HK1
                obtain ⟨j, f, hj, rfl, rfl, HF, HC⟩ := hrel
                by_cases cj : j < n
                · have HCj := hide cj
                  have g1 := HC.out.l.cell j cj
                  have g2 := HC.out.k.cell j cj
                  have f1 := HC.out.k.fz j
                  have hjn : (j : Int) < (n : Int) := by omega
                  have hwj : IntKind.u32.wrap ((j : Int) + 1) = (j : Int) + 1 := by simp only [IntKind.wrap, IntKind.signed, IntKind.bits]; simp; omega
                  obtain ⟨x, hx⟩ : ∃ x, A j = x := ⟨_, rfl⟩
                  rw [hx] at g1
                  cases x
                  · have HN : Hid (CI E n (fun v => if v < j + 1 ∧ A v = true then k else K v) A cb lb w wr) := by
                      refine HC.out.ext (fun v hv => ?_) (fun _ _ => rfl)
                      by_cases e : v = j
                      · subst e; simp [hx]
                      · have q : v < j ↔ v < j + 1 := by omega
                        simp only [q]
                    have HF2 : Hid (f = true ↔ ∃ u, u < j + 1 ∧ A u = true) := by
                      refine HF.out.trans ⟨fun ⟨u, q1, q2⟩ => ⟨u, by omega, q2⟩, fun ⟨u, q1, q2⟩ => ⟨u, ?_, q2⟩⟩
                      refine Nat.lt_of_le_of_ne (by omega) (fun e => ?_)
                      subst e; rw [hx] at q2; cases q2
                    clear hx hj HC HF f1
                    go_wp2_with (fail)
                    exact ⟨⟨j + 1, _, HCj.out, by go_num, rfl, HF2, HN⟩, by simp [intOf]; have := HCj.out; omega⟩
                  · have HN : Hid (CI E n (fun v => if v < j + 1 ∧ A v = true then k else K v) A cb lb w (wr.setCell ⟨cb, j, none⟩ (.int .u64 (k : Int)))) := by
                      refine (HC.out.setK j cj k).ext (fun v hv => ?_) (fun _ _ => rfl)
                      by_cases e : v = j
                      · subst e; simp [hx]
                      · have q : v < j ↔ v < j + 1 := by omega
                        simp only [if_neg e, q]
                    have HF2 : Hid (true = true ↔ ∃ u, u < j + 1 ∧ A u = true) := ⟨fun _ => ⟨j, Nat.lt_succ_self j, hx⟩, fun _ => rfl⟩
                    clear hx hj HC HF
                    go_wp2_with (fail)
                    exact ⟨⟨j + 1, _, HCj.out, by go_num, rfl, HF2, HN⟩, by simp [intOf]; have := HCj.out; omega⟩
                · have hjn : n = j := by omega
                  subst hjn
                  clear cj hj
                  cases f
                  · have HKs : Hid (Ks E m n (fun v => if v < n ∧ A v = true then k else K v)) := HK.out.stop HA.out (fun v hv => by
                      cases hv2 : A v with
                      | false => rfl
                      | true => have := HF.out.2 ⟨v, hv, hv2⟩; cases this)
                    go_wp2_with (fail)
                    go_ret
                    exact Cz.mk HC.out.k HKs.out HC.out.t HCb.out
                  · have HKn : Hid (Kc E m n (k + 1) (fun v => if v < n ∧ A v = true then k else K v)) := HK.out.next HI.out HA.out HS.out
                    have hwk : IntKind.u64.wrap ((k : Int) + 1) = (k : Int) + 1 := wu _ (by omega) (by have := HNe.out; omega)
                    clear HF
                    go_wp2_with (fail)
                    exact ⟨⟨k + 1, _, by omega, by have := HKk.out; omega, by go_num, HKn, HC.out.k, HC.out.t⟩, by simp [intOf]; have := HKk.out; omega⟩
            · clear HSb
              obtain ⟨wo3, rfl⟩ : ∃ wo3, wo3 = wr := ⟨_, rfl⟩
              have hmk := HMw.out wo3
              have hGd := GV.new wo3 23 (.int .u64 0) n
              rw [hmc] at hGd
              obtain ⟨db, hdb⟩ : ∃ db, wo3.heap.size = db := ⟨_, rfl⟩
              have HD0 : Hid (CD E n K A (dgr E A 0) cb lb db w (wo3.alloc (.cells mc 23))) := by
                refine ⟨HC.out.on (b1 _ _ _), ?_, ?_, ?_, ?_⟩
                · rw [← hdb]; exact hGd.ext (fun v _ => by unfold dgr; split <;> rfl)
                · rw [← hdb]; exact HC.out.t.size
                · have := HC.out.k.lt; omega
                · have := HC.out.l.lt; omega
              have HL0 : Hid (GV wo3 lb 4 n (fun v => .bool (A v))) := HC.out.l
              rw [hdb] at hmk
              clear hGd hdb HC
              go_wp2_with (fail)
              clear hmk
              go_loopw [12] (fun q wr => ∃ i : Nat, i ≤ m ∧ q = .int .i64 (i : Int) ∧ Hid (CD E n K A (dgr E A i) cb lb db w wr)) (fun q _ => m - (intOf q).toNat)
              case atStart => exact ⟨0, Nat.zero_le _, rfl, HD0⟩
              case round =>
                clear HD0
                obtain ⟨i, hi, rfl, HD⟩ := hrel
                by_cases ci : i < m
                · obtain ⟨eb, rfl, heb, hc⟩ := HE.out (by omega)
                  obtain ⟨h1, h2, h3⟩ := hc i ci
                  obtain ⟨x, y, hx, hy, hxn, hyn⟩ := HI.out i ci
                  obtain ⟨z, hz⟩ : ∃ z, (E i).2.2 = z := ⟨_, rfl⟩
                  rw [hx] at h1
                  rw [hy] at h2
                  rw [hz] at h3
                  have c1 := (HD.out.c.t.cell heb).trans h1
                  have c2 := (HD.out.c.t.cell heb).trans h2
                  have c3 := (HD.out.c.t.cell heb).trans h3
                  have gx := HD.out.c.l.cell x hxn
                  have gy := HD.out.c.l.cell y hyn
                  have lx := HD.out.c.l.lt
                  have HCi := hide ci
                  have him : (i : Int) < (m : Int) := by omega
                  have HKeep : Hid (¬ (x ≠ y ∧ A x = true ∧ A y = true) → ∀ ww, Below wr.heap.size wr ww → CD E n K A (dgr E A (i + 1)) cb lb db w ww) := fun q ww hw => (HD.out.on hw).ext (fun v _ => (dgr_no hx hy q v).symm)
                  have hBe := b1 wr 52 (ev x y z)
                  have hxnI : (x : Int) < (n : Int) := by omega
                  have hynI : (y : Int) < (n : Int) := by omega
                  by_cases hxy : x = y
                  · have HN := hide (HKeep.out (fun q => q.1 hxy) _ hBe)
                    have hxb : ((x : Int) != (y : Int)) = false := by simp; omega
                    clear hi hc h1 h2 h3 hx hy hz HKeep hBe HD gx gy hxy
                    go_wp2_with (fail)
                    exact ⟨⟨i + 1, HCi.out, by go_num, HN⟩, by simp [intOf]; have := HCi.out; omega⟩
                  · have hxb : ((x : Int) != (y : Int)) = true := by simp; omega
                    cases hax : A x
                    · have HN := hide (HKeep.out (fun q => by rw [hax] at q; cases q.2.1) _ hBe)
                      rw [hax] at gx
                      clear hi hc h1 h2 h3 hx hy hz HKeep hBe HD gy hxy hax
                      go_wp2_with (fail)
                      exact ⟨⟨i + 1, HCi.out, by go_num, HN⟩, by simp [intOf]; have := HCi.out; omega⟩
                    · cases hay : A y
                      · have HN := hide (HKeep.out (fun q => by rw [hay] at q; cases q.2.2) _ hBe)
                        rw [hax] at gx
                        rw [hay] at gy
                        clear hi hc h1 h2 h3 hx hy hz HKeep hBe HD hxy hax hay
                        go_wp2_with (fail)
                        exact ⟨⟨i + 1, HCi.out, by go_num, HN⟩, by simp [intOf]; have := HCi.out; omega⟩
                      · rw [hax] at gx
                        rw [hay] at gy
                        have dx := HD.out.d.cell x hxn
                        have fx := HD.out.d.fz x
                        have lx2 := dgr_le E A i x
                        have ly2 := dgr_le E A i y
                        have hyf := dgr_yes hx hy hxy hax hay
                        obtain ⟨p, hp⟩ : ∃ p, dgr E A i x = p := ⟨_, rfl⟩
                        obtain ⟨q, hq⟩ : ∃ q, dgr E A i y = q := ⟨_, rfl⟩
                        rw [hp] at dx lx2
                        rw [hq] at ly2
                        obtain ⟨p1, hp1⟩ : ∃ p1, p + 1 = p1 := ⟨_, rfl⟩
                        obtain ⟨q1, hq1⟩ : ∃ q1, q + 1 = q1 := ⟨_, rfl⟩
                        have HD1 := hide (HD.out.setD x hxn p1)
                        have dy := HD1.out.d.cell y hyn
                        rw [if_neg (fun e => hxy e.symm), hq] at dy
                        have fy := HD1.out.d.fz y
                        have HD2 := HD1.out.setD y hyn q1
                        have HD3 : Hid (CD E n K A (dgr E A (i + 1)) cb lb db w ((wr.setCell ⟨db, x, none⟩ (.int .u64 (p1 : Int))).setCell ⟨db, y, none⟩ (.int .u64 (q1 : Int)))) := by
                          refine HD2.ext (fun v _ => ?_)
                          rw [hyf v, hp, hq, hp1, hq1]
                        have HN : Hid (CD E n K A (dgr E A (i + 1)) cb lb db w (((wr.setCell ⟨db, x, none⟩ (.int .u64 (p1 : Int))).setCell ⟨db, y, none⟩ (.int .u64 (q1 : Int))).alloc (.cells (ev x y z) 52))) := HD3.out.on (b1 _ _ _)
                        have hpw : IntKind.u64.wrap ((p : Int) + 1) = (p1 : Int) := by rw [wu _ (by omega) (by have := HNe.out; omega)]; omega
                        have hqw : IntKind.u64.wrap ((q : Int) + 1) = (q1 : Int) := by rw [wu _ (by omega) (by have := HNe.out; omega)]; omega
                        have ldb := HD.out.d.lt
                        clear hi hc h1 h2 h3 hx hy hz HKeep hBe HD hxy hax hay hyf hp hq HD1 HD2 HD3 lx2 ly2 hp1 hq1
                        go_wp2_with (fail)
                        exact ⟨⟨i + 1, HCi.out, by go_num, HN⟩, by simp [intOf]; have := HCi.out; omega⟩
                · have him : m = i := by omega
                  subst him
                  clear ci hi
                  have HR0 := hide (RmI.new HA.out)
                  obtain ⟨wo4, rfl⟩ : ∃ wo4, wo4 = wr := ⟨_, rfl⟩
                  go_wp2_with (fail)
                  go_loopw [14, 10] (fun q z wr => ∃ (j : Nat) (B : Nat → Bool) (f : Bool), j ≤ n ∧ q = .int .u32 (j : Int) ∧ z = .bool f ∧ Hid (RmI E m n k K A B j f) ∧ Hid (CD E n K B (dgr E A m) cb lb db w wr)) (fun q _ _ => n - (intOf q).toNat)
                  case atStart => exact ⟨0, A, false, Nat.zero_le _, rfl, rfl, HR0, HD⟩
                  case round =>
                    clear HR0 HD
                    obtain ⟨j, B, f, hj, rfl, rfl, HR, HD⟩ := hrel
                    by_cases cj : j < n
                    · have HCj := hide cj
                      have g1 := HD.out.c.l.cell j cj
                      have f1 := HD.out.c.l.fz j
                      have d1 := HD.out.d.cell j cj
                      have hjn : (j : Int) < (n : Int) := by omega
                      have hwj : IntKind.u32.wrap ((j : Int) + 1) = (j : Int) + 1 := by simp only [IntKind.wrap, IntKind.signed, IntKind.bits]; simp; omega
                      cases hb : B j
                      · rw [hb] at g1
                        have HR2 := hide (HR.out.keep (fun q => by rw [hb] at q; cases q))
                        clear hb hj HR d1 f1
                        go_wp2_with (fail)
                        exact ⟨⟨j + 1, B, _, HCj.out, by go_num, rfl, HR2, HD⟩, by simp [intOf]; have := HCj.out; omega⟩
                      · rw [hb] at g1
                        obtain ⟨p, hp⟩ : ∃ p, dgr E A m j = p := ⟨_, rfl⟩
                        rw [hp] at d1
                        by_cases hd : p < k
                        · have HR2 := hide (HR.out.drop HI.out HA.out cj hb (by omega))
                          have HD2 := hide (HD.out.setL j cj false)
                          have hdI : (p : Int) < (k : Int) := by omega
                          clear hb hj HR hp hd HD
                          go_wp2_with (fail)
                          exact ⟨⟨j + 1, (fun u => if u = j then false else B u), true, HCj.out, by go_num, rfl, HR2, HD2⟩, by simp [intOf]; have := HCj.out; omega⟩
                        · have HR2 := hide (HR.out.keep (fun _ => by omega))
                          have hdI : ¬ (p : Int) < (k : Int) := by omega
                          clear hb hj HR hp hd f1
                          go_wp2_with (fail)
                          exact ⟨⟨j + 1, B, _, HCj.out, by go_num, rfl, HR2, HD⟩, by simp [intOf]; have := HCj.out; omega⟩
                    · have hjn : n = j := by omega
                      subst hjn
                      clear cj hj
                      have HS2 : Hid (f = false → Sb E m n k B) := fun e => by subst e; exact HR.out.stable HI.out
                      have HAg := hide (ag_less HR.out HD.out.c.l HL0.out)
                      have HA2 := hide HR.out.a
                      have HC2 := hide HD.out.c
                      clear HR HD
                      go_wp2_with (fail)
                      exact ⟨⟨B, f, rfl, HA2, HS2, HC2⟩, HAg.out⟩
    · have HKs := hide (HK.out.fin (by omega) hk2)
      have hkm : ¬ (k : Int) ≤ 2 * (m : Int) := by omega
      clear cc hk1 hk2
      go_wp2_with (fail)
      go_ret
      exact Cz.mk HG.out HKs.out HB.out HCb.out
end Wp
end Go.Proofs.YtipnlcnikpngcaaDoor
