import Derived.Test.YtclgbificccadaaSvR
import Derived.Deep.DeepCutAuto
namespace Go.Proofs.Ytclgbificccadaa
namespace Sv
open Go.RowKit Go.Shelf
set_option linter.unusedVariables false
attribute [local go_sem] Oper.semAt_some
theorem below_drewN {B : Nat} {w w' : World} (h : Below B w w') (n : Nat) : Below B w (w'.drewN n) := ⟨h.os, h.tape, h.output, h.size, h.block⟩
theorem own_bx {w : World} {B : Nat} {v : Value} {n : Nat} {L : List T3} (h : w.ownsRow B 44 3 v n (cl .u64 L)) (hn : L.length = n) :
    ∃ xa ca ga T, v = .slice xa n ca ∧ n ≤ ca ∧ (xa = none → ca = 0) ∧ Row3 .u64 w xa L ∧ ((xa = none ∧ n = 0) ∨ (xa = some ⟨ga, 0, none⟩ ∧ Rv w ga 44 (cl .u64 L ++ T) ∧ B ≤ ga)) := by
  subst hn
  rcases h.2 with ⟨rfl, h0⟩ | ⟨g, cap, cur, rfl, h1, h2, h3, h4, h5, h6⟩
  · refine ⟨none, 0, 0, [], by rw [h0], by omega, fun _ => rfl, fun h9 => by omega, .inl ⟨rfl, h0⟩⟩
  · have hR : Rv w g 44 (cl .u64 L ++ cur.toList.drop (L.length * 3)) := by
      unfold Rv
      rw [← h6, List.take_append_drop, Array.toArray_toList]
      exact h2
    exact ⟨some ⟨g, 0, none⟩, cap, g, _, rfl, h3, (fun h => by cases h), Bx.row (T := cur.toList.drop (L.length * 3)) (fun _ => ⟨rfl, hR⟩), .inr ⟨rfl, hR, h1⟩⟩
/-- What Shuffle leaves. -/
def SP (A : List T3) (V : Int) (P : Nat) (xa : Option Addr) (ga gb : Nat) (Ta Tb : List Value) (W : World) (v1 v2 v3 : Value) (wx : World) : Prop :=
  ∃ (s g : Nat), v1 = .slice (sw s xa (some ⟨gb, 0, none⟩)) A.length A.length ∧ v2 = .slice (some ⟨g, 0, none⟩) (P + 1) (P + 1) ∧ v3 = .int .i64 0 ∧ W.heap.size ≤ g ∧ Rv wx g 3 (iv (mx (pn V P) A P P)) ∧
    Bx wx (sw s xa (some ⟨gb, 0, none⟩)) (sw s ga gb) (stg (pn V P) P A) (sw s Ta Tb) ∧ Two ga gb W wx
/-- The box of the ranges. -/
abbrev CB (B0 : Nat) (V : Int) (P : Nat) (W : World) : Prop := W.cell? ⟨B0, 0, none⟩ = some (.int .u32 V) ∧ W.cell? ⟨B0, 1, none⟩ = some (.int .i64 (P : Int))
/-- What the last test reads. -/
abbrev C9 (B g gw gi gs B0 j d q : Nat) (V : Int) (P O : Nat) (x : T3) (f : Int) (W : World) : Prop :=
  (W.cell? ⟨B, 0, none⟩ = some (.int .u32 x.1) ∧ W.cell? ⟨B, 1, none⟩ = some (.int .u64 (j : Int)) ∧ W.cell? ⟨B, 2, none⟩ = some (.int .u64 x.2.2)) ∧ W.cell? ⟨gs, j, none⟩ = some (.bool false) ∧
  (W.cell? ⟨gw, j * 3, none⟩ = some (.int .u32 x.1) ∧ W.cell? ⟨gw, j * 3 + 1, none⟩ = some (.int .u64 (j : Int)) ∧ W.cell? ⟨gw, j * 3 + 2, none⟩ = some (.int .u64 x.2.2)) ∧ (W.cell? ⟨B0, 0, none⟩ = some (.int .u32 V) ∧ W.cell? ⟨B0, 1, none⟩ = some (.int .i64 (P : Int))) ∧
  W.cell? ⟨g, d, none⟩ = some (.int .i64 (O : Int)) ∧ W.cell? ⟨gi, q * 3 + 1, none⟩ = some (.int .u64 f)
/-- What a round reads of a record that came in. -/
abbrev C2 (x : Addr) (j : Nat) (e : T3) (W : World) : Prop := W.cell? (x.add (j * 3)) = some (.int .u32 e.1) ∧ W.cell? ⟨(x.add (j * 3)).block, (x.add (j * 3)).off + 2, none⟩ = some (.int .u64 e.2.2)
set_option maxRecDepth 20000 in
set_option maxHeartbeats 8000000 in
theorem stable_any (a : Option Addr) (c : Nat) (L : List T3) (n k fan : Int) (hn0 : 0 ≤ n) (hn1 : n ≤ 4294967295) (w : World) (hl : L.length * 24 ≤ 140737488351232) (hn : a = none → c = 0) (hr : Row3 .u64 w a L) (hu : ∀ e ∈ L, 0 ≤ e.1) :
    Calls Try.prog 5 #[.slice a L.length c, .int .u32 n, .int .i64 k, .int .i64 fan] w fun e w' => e = .returned (.bool true) ∧ Below w.heap.size w w' := by
  have HR : Hid (∀ W, Below w.heap.size w W → Row3 .u64 W a L) := fun W hW => hr.on hW (Nat.le_refl _)
  have HU : Hid (∀ e ∈ L, 0 ≤ e.1) := hu
  clear hr hu
  go_enter Try.func5, Try.ntmps5
  go_upto_region 1 with (fail)
  go_cut [9] (fun v wx => (∃ V : Int, 1 ≤ V ∧ V ≤ 1048576 ∧ v = .int .u32 V) ∧ wx = w)
  case first =>
    as_aux_lemma =>
      go_wp2_with (fail)
      all_goals
        go_meet
        exact ⟨⟨_, by omega, by omega, rfl⟩, rfl⟩
  case rest =>
    obtain ⟨⟨V, hV1, hV2, rfl⟩, hwc⟩ := hcut
    subst wc
    go_upto_region 2 with (fail)
    go_cut [10] (fun v wx => (∃ P : Nat, 1 ≤ P ∧ P ≤ 512 ∧ (P : Int) ≤ V ∧ v = .int .i64 (P : Int)) ∧ wx = w)
    case first =>
      as_aux_lemma =>
        go_wp2_with (fail)
        all_goals
          go_meet
          first
            | exact ⟨⟨1, by omega, by omega, by omega, rfl⟩, rfl⟩
            | exact ⟨⟨512, by omega, by omega, by omega, rfl⟩, rfl⟩
            | (refine ⟨⟨k.toNat, by omega, by omega, by omega, ?_⟩, rfl⟩; rw [Int.toNat_of_nonneg (by omega)])
            | (refine ⟨⟨V.toNat, by omega, by omega, by omega, ?_⟩, rfl⟩; rw [Int.toNat_of_nonneg (by omega)])
    case rest =>
      obtain ⟨⟨P, hP1, hP2, hP3, rfl⟩, hwc⟩ := hcut
      subst wc
      have hRg : Rg V (P : Int) := ⟨by omega, by omega, hP3, by omega⟩
      go_wp2_with (fail)
      refine (split_any V (P : Int) (by omega) (by omega) _).mono ?_
      rintro e1 w1 ⟨hb1, h1⟩
      obtain rfl := (h1.resolve_left (fun h => h.1.not hRg)).2
      clear h1
      have hs1 := hb1.size
      go_wp2_with (fail)
      refine (num_any _ _).mono ?_
      rintro e2 w2 ⟨rfl, h2⟩
      subst w2
      have hbx : Rv (w1.alloc (.cells #[.int .u32 V, .int .i64 (P : Int)] 39)) w1.heap.size 39 [.int .u32 V, .int .i64 (P : Int)] := Rv.new w1 39 _
      have hB1 : Below w.heap.size w (w1.alloc (.cells #[.int .u32 V, .int .i64 (P : Int)] 39)) := hb1.alloc hs1 _
      go_wp2
      obtain ⟨W1, hW1⟩ : ∃ W1, W1 = w1.alloc (.cells #[.int .u32 V, .int .i64 (P : Int)] 39) := ⟨_, rfl⟩
      obtain ⟨B0, hB0⟩ : ∃ B0, B0 = w1.heap.size := ⟨_, rfl⟩
      rw [← hW1] at hbx hB1 ⊢
      rw [← hB0] at hbx ⊢
      have hB0l := hbx.lt
      clear hW1 hB0 hb1 hs1
      go_loopw [14, 13] (fun i v wr => ∃ j : Nat, j ≤ L.length ∧ i = .int .i64 (j : Int) ∧ wr.ownsRow W1.heap.size 44 3 v j (cl .u64 ((mk V L).take j)) ∧ Below W1.heap.size W1 wr) (fun i _ _ => L.length - (intOf i).toNat)
      case atStart => exact ⟨0, Nat.zero_le _, rfl, World.ownsRow_nil _ _ _ _, Below.refl _ _⟩
      case round =>
        obtain ⟨j, hj, rfl, hO, hB⟩ := hrel
        by_cases hjl : j < L.length
        · as_aux_lemma =>
            obtain ⟨e, he⟩ : ∃ e, L[j]? = some e := ⟨L[j], List.getElem?_eq_getElem hjl⟩
            have hBW := hB1.trans (hB.mono hB1.size)
            obtain ⟨x, rfl, hx⟩ := HR.out wr hBW (by omega)
            obtain ⟨x0, x1, x2⟩ := cells3 (hx.2 j e he)
            have e0 := HU.out e (List.mem_of_getElem? he)
            have hjl' : (j : Int) < (L.length : Int) := by omega
            have HO : Hid (wr.ownsRow W1.heap.size 44 3 u13 j (cl .u64 ((mk V L).take j))) := hO
            have HB : Hid (Below W1.heap.size W1 wr) := hB
            have hsz := hB.size
            have HM : Hid ((mk V L)[j]? = some (e.1 % V, (j : Int), e.2.2)) := mk_get he
            have t1 : e.1.tmod V = e.1 % V := Int.tmod_eq_emod_of_nonneg e0
            have hm0 := Int.emod_nonneg e.1 (show V ≠ 0 by omega)
            have hm1 := Int.emod_lt_of_pos e.1 (show 0 < V by omega)
            obtain ⟨r, hrr⟩ : ∃ r, r = e.1 % V := ⟨_, rfl⟩
            rw [← hrr] at hm0 hm1 t1 HM
            have w1' : IntKind.u32.wrap r = r := by simp only [IntKind.wrap, IntKind.signed, IntKind.bits]; simp; omega
            have w2' : IntKind.u64.wrap (j : Int) = (j : Int) := by simp only [IntKind.wrap, IntKind.signed, IntKind.bits]; simp; omega
            have z1 : (V == 0) = false := by simp; omega
            have z2 : ¬ V = 0 := by omega
            have HK : Hid (∀ W, Below W1.heap.size W1 W → C2 x j e W) := fun W hW => by
              obtain ⟨x', hx', hA⟩ := HR.out W (hB1.trans (hW.mono hB1.size)) (by omega)
              cases hx'
              obtain ⟨q0, q1, q2⟩ := cells3 (hA.2 j e he)
              exact ⟨q0, q2⟩
            clear hx he hO hB hBW hrr hbx x0 x1 x2
            go_wp2
            go_region_held3 (C2 x j e) ((first | exact HK.out _ hB3 | exact HK.out _ (below_drewN HB.out 1) | exact HK.out _ (below_drewN (HB.out.alloc hsz _) 1) | exact HK.out _ (HB.out.alloc hsz _)))
              ((refine step_append3 tpU (by rfl) _ _ (by rfl) W1.heap.size u13 _ j 1 (cl .u64 ((mk V L).take j)) [.int .u32 r, .int .u64 (j : Int), .int .u64 e.2.2] (by rfl) (HO.out.alloc _) (by rfl) (src_new3 _ _ _ _ _ rfl rfl rfl _) (by omega) (by decide) (by simp; omega) ?_; intro v3 w3 hown3 hgr3 hat3; have hB3 : Below W1.heap.size W1 w3 := (below_drewN (HB.out.alloc hsz _) 1).grown hgr3 (by simp; omega) (fun j hj => (HO.out.lt j hj).1)))
            have HO3 : Hid (w3.ownsRow W1.heap.size 44 3 v3 (j + 1) (cl .u64 ((mk V L).take (j + 1)))) := by
              rw [take_snoc HM.out, cl_app]
              exact hown3
            have HB3 : Hid (Below W1.heap.size W1 w3) := hB3
            clear hown3 hgr3 hat3 hB3 HK HO HB
            go_wp2
            exact ⟨⟨j + 1, by omega, by go_num, HO3.out, HB3.out⟩, by simp [intOf]; omega⟩
        · obtain rfl : j = L.length := by omega
          rw [List.take_of_length_le (by rw [mk_len]; omega)] at hO
          have hA9 : (mk V L).length = L.length := mk_len V L
          obtain ⟨A, hA⟩ : ∃ A, A = mk V L := ⟨_, rfl⟩
          rw [← hA] at hO hA9
          have HA : Hid (A = mk V L) := hA
          clear hA
          obtain ⟨xa, ca, ga, Ta, rfl, hca, hcn, hRa, hxa⟩ := own_bx hO hA9
          clear hO
          have hsz := hB.size
          have hSr := (Row3.src hRa ca hcn)
          rw [hA9] at hSr
          have HSr : Hid (Src (wr.alloc (.cells #[] 44)) (.slice xa L.length ca) L.length (cl .u64 A)) := by
            have := (Row3.src (hRa.on (b1 wr 44 #[]) (Nat.le_refl _)) ca hcn)
            rw [hA9] at this
            exact this
          clear hSr
          go_wp2_with (at_builtin; refine wpList_append3 tpU rfl _ _ rfl wr.heap.size _ _ 0 L.length [] (cl .u64 A) rfl (own_empty wr 44 _ (Nat.le_refl _)) rfl HSr.out (by omega) (by decide) (by simp) ?_)
          intro v1 w2 hown1 hgr1 hat1
          replace hown1 : w2.ownsRow wr.heap.size 44 3 v1 L.length (cl .u64 A) := by simpa using hown1
          have hB2 : Below wr.heap.size wr w2 := (b1 wr 44 #[]).grown hgr1 (by simp) (fun j hj => by simp [Value.ownBlock] at hj; omega)
          obtain ⟨gw, cw, rfl⟩ := own_some hown1 (by rcases hat1 with h | h <;> rw [h] <;> simp [Value.ownBlock])
          have hgw := hown1.lt gw rfl
          rw [← hA9] at hown1
          have hWas : At3 .u64 w2 ⟨gw, 0, none⟩ A := LR.cells hown1
          clear hgr1 hat1 hown1 HSr
          have hbW : Below W1.heap.size W1 w2 := hB.trans (hB2.mono hsz)
          have hb2 : Rv w2 B0 39 [.int .u32 V, .int .i64 (P : Int)] := hbx.on hbW hB0l
          obtain ⟨gA, hgA1, hgA2, bA, hgA3⟩ : ∃ gA, W1.heap.size ≤ gA ∧ gA < w2.heap.size ∧ Bx w2 xa gA A Ta ∧ (0 < L.length → gA ≠ gw) := by
            rcases hxa with ⟨rfl, h0⟩ | ⟨rfl, hR, hb⟩
            · exact ⟨gw, by omega, hgw.2, (fun h => by omega), fun h => by omega⟩
            · have hl := hR.lt
              have := hB2.size
              exact ⟨ga, hb, by omega, (fun _ => ⟨rfl, hR.on hB2 hR.lt⟩), fun _ => by omega⟩
          have hVx : Vx V P A := fun x hx => by
            rw [HA.out] at hx
            obtain ⟨i, e, _, rfl, _⟩ := mk_mem hx
            have h1 := Int.emod_nonneg e.1 (show V ≠ 0 by omega)
            have h2 := Int.emod_lt_of_pos e.1 (show 0 < V by omega)
            exact ⟨.inl hRg, h1, by show e.1 % V ≤ _; omega⟩
          have hGd : Gd V P P A := fun x hx => by
            rw [HA.out] at hx
            obtain ⟨i, e, _, rfl, _⟩ := mk_mem hx
            exact pt_b hRg (Int.emod_nonneg e.1 (show V ≠ 0 by omega)) (Int.emod_lt_of_pos e.1 (show 0 < V by omega))
          have HGd : Hid (∀ x ∈ A, pn V P x < P ∧ pt V P x.1 = (pn V P x : Int)) := fun x hx => by have := hGd x hx; unfold pa at this; unfold pn; omega
          obtain ⟨Z44, hZ44⟩ : ∃ Z44, Z44 = (cl .u64 (List.replicate L.length (0, 0, 0))).toArray := ⟨_, rfl⟩
          have hmk : ∀ W, (Instr.makeSlice 37 (.int .i64 (L.length : Int)) (.int .i64 (L.length : Int))).run Try.prog W = .ok (.slice (some ⟨W.heap.size, 0, none⟩) L.length L.length) (W.alloc (.cells Z44 44)) := fun W => by rw [hZ44]; exact make_updates W L.length (by omega)
          have bB : Bx (w2.alloc (.cells Z44 44)) (some ⟨w2.heap.size, 0, none⟩) w2.heap.size (List.replicate L.length (0, 0, 0)) [] := fun _ => ⟨rfl, by rw [List.append_nil, hZ44]; exact Rv.new _ _ _⟩
          have HSH : Hid (∀ F : Int, 2 ≤ F → F ≤ 256 → Calls Try.prog 13 #[.slice xa L.length ca, .slice (some ⟨w2.heap.size, 0, none⟩) L.length L.length, .int .i64 (P : Int), .int .i64 F, .func (.func 14) #[rg V P] #[]] (w2.alloc (.cells Z44 44)).drew
              (fun e w' => ∃ v1 v2 v3, e = .returned (.tuple #[v1, v2, v3]) ∧ SP A V P xa gA w2.heap.size Ta [] (w2.alloc (.cells Z44 44)) v1 v2 v3 w')) := fun F' hF1' hF2' => by
            obtain ⟨F, rfl⟩ : ∃ F : Nat, F' = (F : Int) := ⟨F'.toNat, by omega⟩
            have hF1 : 2 ≤ F := by omega
            have hF2 : F ≤ 256 := by omega
            have h := shuffle_ok V P P F hP1 hP2 hF1 hF2 A (List.replicate L.length (0, 0, 0)) (by omega) hVx hGd (by simp [hA9]) xa ca L.length L.length gA w2.heap.size Ta [] (by omega) (by omega) hcn (by omega) (Nat.le_refl _) (w2.alloc (.cells Z44 44)).drew (by show gA < (w2.alloc _).heap.size; simp; omega) (by show w2.heap.size < (w2.alloc _).heap.size; simp) (bA.on (b1 w2 44 _).drew) bB
            rw [hA9] at h
            refine h.mono ?_
            rintro e w' ⟨s, M', g, _, _, rfl, _, hg, hr, hb, _, ht⟩
            exact ⟨_, _, _, rfl, s, g, by rw [hA9], rfl, rfl, hg, hr, hb, ⟨ht.os, ht.tape, ht.output, ht.size, ht.block⟩⟩
          have HCB : Hid (∀ W, Below w2.heap.size w2 W → CB B0 V P W) := fun W hW => ⟨(hb2.on hW (by omega)).cell rfl, (hb2.on hW (by omega)).cell rfl⟩
          have HCB5 : Hid (∀ v1 v2 v3 w', SP A V P xa gA w2.heap.size Ta [] (w2.alloc (.cells Z44 44)) v1 v2 v3 w' → CB B0 V P w') := by
            rintro v1 v2 v3 w' ⟨s, g, _, _, _, _, _, _, ht⟩
            have hr : Rv w' B0 39 [.int .u32 V, .int .i64 (P : Int)] := ht.rv (hb2.alloc _) (by omega) (by omega)
            exact ⟨hr.cell rfl, hr.cell rfl⟩
          clear hVx hGd bA bB hRa hxa hbx hZ44
          go_upto_region 12 with (fail)
          go_cut [16, 17, 18] (fun v1 v2 v3 wx => SP A V P xa gA w2.heap.size Ta [] (w2.alloc (.cells Z44 44)) v1 v2 v3 wx)
          case first =>
            as_aux_lemma =>
              have HF := HSH.out (if 256 < if fan < 2 then 2 else fan then 256 else if fan < 2 then 2 else fan) (by split <;> (try split) <;> omega) (by split <;> (try split) <;> omega)
              have HF2 : Hid (Calls Try.prog 13 #[.slice xa L.length ca, .slice (some ⟨w2.heap.size, 0, none⟩) L.length L.length, .int .i64 (P : Int), .int .i64 (if 256 < if fan < 2 then 2 else fan then 256 else if fan < 2 then 2 else fan), .func (.func 14) #[.agg #[.int .u32 V, .int .i64 (P : Int)]] #[]] (w2.alloc (.cells Z44 44)).drew
                  (fun e w' => ∃ v1 v2 v3, e = .returned (.tuple #[v1, v2, v3]) ∧ SP A V P xa gA w2.heap.size Ta [] (w2.alloc (.cells Z44 44)) v1 v2 v3 w')) := HF
              clear HF HSH HGd HA HR HU hWas hb2 hB hB2 hbW
              go_region_held3 (CB B0 V P) ((first | with_reducible exact HCB5.out _ _ _ _ hSP | with_reducible exact HCB.out _ (b1 w2 44 _) | with_reducible exact HCB.out _ (Below.refl _ _) | with_reducible exact HCB.out _ (b1 w2 44 _).drew | with_reducible exact HCB.out _ (Below.refl _ _).drew))
                ((go_at_call 13; refine HF2.out.mono ?_; generalize (if 256 < if fan < 2 then 2 else fan then 256 else if fan < 2 then 2 else fan) = E9; generalize (if fan < 2 then 2 else fan) = E8; rintro e5 w5 ⟨v1, v2, v3, rfl, hSP⟩))
              all_goals
                go_wp2
                go_meet
                exact hSP
          case rest =>
            as_aux_lemma =>
              obtain ⟨s, g, rfl, rfl, rfl, hg, hR, hBx, hT⟩ := hcut
              obtain ⟨xin, hxin⟩ : ∃ xin, xin = sw s xa (some ⟨w2.heap.size, 0, none⟩) := ⟨_, rfl⟩
              obtain ⟨gi, hgi⟩ : ∃ gi, gi = sw s gA w2.heap.size := ⟨_, rfl⟩
              obtain ⟨Ti, hTi⟩ : ∃ Ti, Ti = sw s Ta [] := ⟨_, rfl⟩
              obtain ⟨S, hS⟩ : ∃ S, S = stg (pn V P) P A := ⟨_, rfl⟩
              rw [← hxin, ← hgi, ← hTi, ← hS] at hBx
              rw [← hxin]
              have hgil : gi ≤ w2.heap.size := by rw [hgi]; unfold sw; split <;> omega
              rw [World.size_alloc] at hg
              have hCB : Rv wc B0 39 [.int .u32 V, .int .i64 (P : Int)] := hT.rv (hb2.alloc _) (by omega) (by omega)
              have hgl := hR.lt
              have hAS : ∀ x ∈ A, pn V P x < P := fun x hx => (HGd.out x hx).1
              have hSl : S.length = L.length := by rw [hS, stg_len _ _ _ hAS, hA9]
              have hop : opn (pn V P) A P = L.length := by rw [← stg_prefix, ← hS, hSl]
              have hWs : ∀ j e, A[j]? = some e → wc.cell? ⟨gw, j * 3, none⟩ = some (.int .u32 e.1) ∧ wc.cell? ⟨gw, j * 3 + 1, none⟩ = some (.int .u64 e.2.1) ∧ wc.cell? ⟨gw, j * 3 + 2, none⟩ = some (.int .u64 e.2.2) := fun j e he => by
                have hj := (List.getElem?_eq_some_iff.1 he).1
                have hb : wc.heap[gw]? = w2.heap[gw]? := (hT.block gw (by rw [World.size_alloc]; omega) (fun h => hgA3 (by omega) h.symm) (by omega)).trans (Below.heap_alloc w2 _ gw hgw.2)
                have ea : ∀ j, (⟨gw, 0, none⟩ : Addr).add j = ⟨gw, j, none⟩ := fun j => by unfold Addr.add; split <;> simp_all
                have h := hWas.2 j e he
                rw [ea, ea, ea] at h
                exact ⟨(World.cell?_of_block (a := ⟨gw, j * 3, none⟩) hb).trans h.1, (World.cell?_of_block (a := ⟨gw, j * 3 + 1, none⟩) hb).trans h.2.1, (World.cell?_of_block (a := ⟨gw, j * 3 + 2, none⟩) hb).trans h.2.2⟩
              have HBL : Hid (Below w.heap.size w wc) := hB1.trans ((hbW.trans ((Two.toBelow (B := W1.heap.size) hT (by rw [World.size_alloc]; have := hbW.size; omega) hgA1 (by have := hbW.size; omega)) |> fun h => ((Below.refl W1.heap.size w2).alloc (by have := hbW.size; omega) _).trans h)).mono hB1.size)
              have HWs : Hid (∀ j e, A[j]? = some e → wc.cell? ⟨gw, j * 3, none⟩ = some (.int .u32 e.1) ∧ wc.cell? ⟨gw, j * 3 + 1, none⟩ = some (.int .u64 e.2.1) ∧ wc.cell? ⟨gw, j * 3 + 2, none⟩ = some (.int .u64 e.2.2)) := hWs
              have s0 : (mx (pn V P) A P P)[0]? = some 0 := by rw [mx_get _ _ P P 0 (by omega), if_pos (by omega), opn_zero]; rfl
              have sP : (mx (pn V P) A P P)[P]? = some (L.length : Int) := by rw [mx_get _ _ P P P (by omega), if_pos (by omega), hop]
              have c0 := hR.cell (iv_get s0)
              have cP := hR.cell (iv_get sP)
              have HN : Hid ((S.map (·.2.1)).Nodup) := by
                have := stg_nodup (pn V P) V L P (by rw [← HA.out]; exact hAS)
                rw [← HA.out, ← hS] at this
                exact this
              have hmb : ∀ W, (Instr.makeSlice 49 (.int .i64 (L.length : Int)) (.int .i64 (L.length : Int))).run Try.prog W = .ok (.slice (some ⟨W.heap.size, 0, none⟩) L.length L.length) (W.alloc (.cells (bv (List.replicate L.length false)).toArray 4)) := fun W => make_bools W L.length (by omega)
              have HSS : Hid (S = stg (pn V P) P A) := hS
              clear hWs hxin hgi hTi hS s0 sP hmk hT hWas hb2 hB hB2 hbW HCB HCB5 HSH HR HU
              rw [hA9]
              go_wp2_with (fail)
              refine (num_any _ _).mono ?_
              rintro e2 w9 ⟨rfl, h2⟩
              subst w9
              go_wp2
              have hW4 : Rv (wc.alloc (.cells (bv (List.replicate L.length false)).toArray 4)) wc.heap.size 4 (bv (sn S L.length (opn (pn V P) A 0))) := by
                rw [opn_zero, sn_zero]; exact Rv.new _ _ _
              obtain ⟨W4, hW⟩ : ∃ W4, W4 = wc.alloc (.cells (bv (List.replicate L.length false)).toArray 4) := ⟨_, rfl⟩
              have hwc4 : Below wc.heap.size wc W4 := by rw [hW]; exact b1 wc 4 _
              rw [← hW] at hW4 ⊢
              have hs4 : W4.heap.size = wc.heap.size + 1 := by rw [hW, World.size_alloc]
              have HB4 : Hid (Below w.heap.size w W4) := HBL.out.trans (hwc4.mono HBL.out.size)
              have hwl := HBL.out.size
              have HR4 : Hid (Rv W4 g 3 (iv (mx (pn V P) A P P))) := hR.on hwc4 hgl
              have HX4 : Hid (Bx W4 xin gi S Ti) := hBx.on hwc4
              have HC4 : Hid (Rv W4 B0 39 [.int .u32 V, .int .i64 (P : Int)]) := hCB.on hwc4 hCB.lt
              have HS4 : Hid (∀ j e, A[j]? = some e → W4.cell? ⟨gw, j * 3, none⟩ = some (.int .u32 e.1) ∧ W4.cell? ⟨gw, j * 3 + 1, none⟩ = some (.int .u64 e.2.1) ∧ W4.cell? ⟨gw, j * 3 + 2, none⟩ = some (.int .u64 e.2.2)) := fun j e he => by
                obtain ⟨q0, q1, q2⟩ := HWs.out j e he
                exact ⟨(hwc4.cell (p := ⟨gw, j * 3, none⟩) (World.block_lt_of_cell? _ _ q0)).trans q0, (hwc4.cell (p := ⟨gw, j * 3 + 1, none⟩) (World.block_lt_of_cell? _ _ q1)).trans q1, (hwc4.cell (p := ⟨gw, j * 3 + 2, none⟩) (World.block_lt_of_cell? _ _ q2)).trans q2⟩
              have hgn : g < wc.heap.size ∧ gi < wc.heap.size ∧ B0 < wc.heap.size ∧ gw < wc.heap.size := ⟨hgl, by omega, hCB.lt, by omega⟩
              generalize wc.heap.size = gs at *
              clear hmb hW hwc4 hBx hR c0 cP HWs hCB
              go_loopw [20] (fun p wr => ∃ d : Nat, d ≤ P ∧ p = .int .i64 (d : Int) ∧ Two gs gs W4 wr ∧ Rv wr gs 4 (bv (sn S L.length (opn (pn V P) A d)))) (fun p _ => P - (intOf p).toNat)
              case atStart => exact ⟨0, Nat.zero_le _, rfl, Two.refl _ _ _, hW4⟩
              case round =>
                obtain ⟨d, hd, rfl, hT, hV⟩ := hrel
                by_cases hdP : d < P
                · have sd : (mx (pn V P) A P P)[d]? = some (opn (pn V P) A d : Int) := by rw [mx_get _ _ P P d (by omega), if_pos (by omega)]
                  have se : (mx (pn V P) A P P)[d + 1]? = some (opn (pn V P) A (d + 1) : Int) := by rw [mx_get _ _ P P (d + 1) (by omega), if_pos (by omega)]
                  have hRw := hT.rv HR4.out (by omega) (by omega)
                  have cd := hRw.cell (iv_get sd)
                  have ce := hRw.cell (iv_get se)
                  have hle : opn (pn V P) A d ≤ opn (pn V P) A (d + 1) := by rw [opn_succ]; omega
                  have hll := opn_le (pn V P) A (d + 1)
                  rw [hA9] at hll
                  obtain ⟨O, hO⟩ : ∃ O, O = opn (pn V P) A d := ⟨_, rfl⟩
                  obtain ⟨O2, hO2⟩ : ∃ O2, O2 = opn (pn V P) A (d + 1) := ⟨_, rfl⟩
                  rw [← hO] at hV cd hle
                  rw [← hO2] at ce hle hll
                  have HO : Hid (O = opn (pn V P) A d ∧ O2 = opn (pn V P) A (d + 1)) := ⟨hO, hO2⟩
                  have hdi : (d : Int) < (P : Int) := by omega
                  have n1 : ¬ (O2 : Int) < (O : Int) := by omega
                  have b1' : (d : Int) < (P : Int) + 1 := by omega
                  have b2' : (d : Int) + 1 < (P : Int) + 1 := by omega
                  clear hO hO2 sd se hRw
                  go_wp2
                  go_region
                  go_wp2
                  have hT5 : Two gs gs W4 wr.drew := hT.drew
                  have hV5 : Rv wr.drew gs 4 (bv (sn S L.length O)) := hV
                  rw [show decide (O2 < O) = false by simp; omega]
                  clear hT hV cd ce n1
                  generalize wr.drew = Wd at *
                  go_loopw [21] (fun p wr => ∃ q : Nat, O ≤ q ∧ q ≤ O2 ∧ p = .int .i64 (q : Int) ∧ Two gs gs W4 wr ∧ Rv wr gs 4 (bv (sn S L.length q))) (fun p _ => O2 - (intOf p).toNat)
                  case atStart => exact ⟨O, Nat.le_refl _, hle, rfl, hT5, hV5⟩
                  case round =>
                    clear hT5 hV5
                    obtain ⟨q, hq1, hq2, rfl, hT, hV⟩ := hrel
                    have hRw := hT.rv HR4.out (by omega) (by omega)
                    have cd := hRw.cell (iv_get (show (mx (pn V P) A P P)[d]? = some (O : Int) by rw [mx_get _ _ P P d (by omega), if_pos (by omega), ← HO.out.1]))
                    have ce := hRw.cell (iv_get (show (mx (pn V P) A P P)[d + 1]? = some (O2 : Int) by rw [mx_get _ _ P P (d + 1) (by omega), if_pos (by omega), ← HO.out.2]))
                    by_cases hqO : q < O2
                    · have hqi : (q : Int) < (O2 : Int) := by omega
                      obtain ⟨x, hx⟩ : ∃ x, S[q]? = some x := ⟨S[q]'(by omega), List.getElem?_eq_getElem (by omega)⟩
                      have hxA : x ∈ A := by have := List.mem_of_getElem? hx; rw [HSS.out] at this; exact stg_mem this
                      obtain ⟨j, hjl, hxj, hAj⟩ := mk_at (HA.out ▸ hxA)
                      rw [← HA.out] at hAj
                      have hpd : pn V P x = d := stg_part (pn V P) A d P q x hdP (by rw [← HO.out.1]; exact hq1) (by rw [← HO.out.2]; exact hqO) (HSS.out ▸ hx)
                      have hpt : pt V P x.1 = (d : Int) := by rw [(HGd.out x hxA).2, hpd]
                      have hX := HX4.out.of (w' := wr) (fun h => hT.block gi h (by omega) (by omega))
                      obtain ⟨rfl, _⟩ := hX (by omega)
                      obtain ⟨i0, i1, i2⟩ := hX.cells hx
                      have hqn : (q : Int) < (L.length : Int) := by omega
                      rw [hxj] at i1
                      have HPT : Hid (∀ W, Calls Try.prog 15 #[.agg #[.int .u32 V, .int .i64 (P : Int)], .int .u32 x.1] W (fun e w' => e = .returned (.int .i64 (d : Int)) ∧ Below W.heap.size W w')) := fun W => by
                        have hmm := mk_mem (HA.out ▸ hxA)
                        obtain ⟨i9, e9, _, hx9, _⟩ := hmm
                        have h1 := Int.emod_nonneg e9.1 (show V ≠ 0 by omega)
                        have h2 := Int.emod_lt_of_pos e9.1 (show 0 < V by omega)
                        have hx1 : x.1 = e9.1 % V := by rw [hx9]
                        have := part_any V P x.1 (.inl hRg) (by omega) (by omega) W
                        rw [hpt] at this
                        exact this
                      have hVn := hV.cell (bv_get (sn_new S L.length q j x HN.out hx hxj hjl))
                      have hsN := sn_next S L.length q j x hx hxj hjl
                      obtain ⟨V0, hV0⟩ : ∃ V0, V0 = wr.alloc (.cells #[.int .u32 x.1, .int .u64 (j : Int), .int .u64 x.2.2] 44) := ⟨_, rfl⟩
                      have hV0s : V0.heap.size = wr.heap.size + 1 := by rw [hV0, World.size_alloc]
                      have hV0b : Below wr.heap.size wr V0 := by rw [hV0]; exact b1 wr 44 _
                      have hV0x : Rv V0 wr.heap.size 44 [.int .u32 x.1, .int .u64 (j : Int), .int .u64 x.2.2] := by rw [hV0]; exact Rv.new wr 44 _
                      have hTs := hT.size
                      have HK : Hid (∀ q' f W, wr.cell? ⟨gi, q' * 3 + 1, none⟩ = some (.int .u64 f) → Below V0.heap.size V0 W → C9 wr.heap.size g gw gi gs B0 j d q' V P O x f W) := fun q' f W hf hW => by
                        have tr : ∀ {p : Addr} {v : Value}, wr.cell? p = some v → W.cell? p = some v := fun {p} {v} h => (hW.cell (by have := World.block_lt_of_cell? _ _ h; omega)).trans ((hV0b.cell (World.block_lt_of_cell? _ _ h)).trans h)
                        have tw : ∀ {p : Addr} {v : Value}, p.block < gs → W4.cell? p = some v → wr.cell? p = some v := fun {p} {v} hp h => (World.cell?_of_block (a := p) (hT.block p.block (World.block_lt_of_cell? _ _ h) (by omega) (by omega))).trans h
                        have hx9 := hV0x.on hW (by omega)
                        obtain ⟨a0, a1, a2⟩ := HS4.out j x hAj
                        rw [hxj] at a1
                        exact ⟨⟨hx9.cell rfl, hx9.cell rfl, hx9.cell rfl⟩, tr hVn, ⟨tr (tw (by show gw < gs; omega) a0), tr (tw (by show gw < gs; omega) a1), tr (tw (by show gw < gs; omega) a2)⟩, ⟨tr (tw (by show B0 < gs; omega) (HC4.out.cell rfl)), tr (tw (by show B0 < gs; omega) (HC4.out.cell rfl))⟩, tr cd, tr hf⟩
                      have HE : Hid (∀ W, Below V0.heap.size V0 W → Two gs gs W4 (W.setCell ⟨gs, j, none⟩ (.bool true)) ∧ Rv (W.setCell ⟨gs, j, none⟩ (.bool true)) gs 4 (bv (sn S L.length (q + 1))) ∧ W.frozen? ⟨gs, j, none⟩ = false) := fun W hW => by
                        have hb : Below wr.heap.size wr W := hV0b.trans (hW.mono (by omega))
                        have hr := hV.on hb hV.lt
                        refine ⟨(hT.trans (Two.below hb)).set _ _ (.inl rfl), ?_, hr.frozen j⟩
                        have h := hr.set j (.bool true)
                        rw [bv_set, hsN] at h
                        exact h
                      have HF : Hid (∀ q', q = q' + 1 → O ≤ q' → ∃ f : Int, wr.cell? ⟨gi, q' * 3 + 1, none⟩ = some (.int .u64 f) ∧ f < (j : Int)) := fun q' e1 e2 => by
                        obtain ⟨y, hy⟩ : ∃ y, S[q']? = some y := ⟨S[q']'(by omega), List.getElem?_eq_getElem (by omega)⟩
                        refine ⟨y.2.1, (hX.cells hy).2.1, ?_⟩
                        rw [← hxj]
                        have a := HA.out
                        refine stg_order (pn V P) V L d P q' y x hdP ?_ ?_ ?_ ?_
                        · rw [← a, ← HO.out.1]; exact e2
                        · rw [← a, ← HO.out.2, ← e1]; exact hqO
                        · rw [← a, ← HSS.out]; exact hy
                        · rw [← a, ← HSS.out, ← e1]; exact hx
                      have hF0 := hX.cells hx
                      rw [hxj] at hF0
                      have HF0 : Hid (wr.cell? ⟨gi, q * 3 + 1, none⟩ = some (.int .u64 (j : Int))) := hF0.2.1
                      have HV0 : Hid (V0 = wr.alloc (.cells #[.int .u32 x.1, .int .u64 (j : Int), .int .u64 x.2.2] 44)) := hV0
                      have hjn : (j : Int) < (L.length : Int) := by omega
                      have hqM : (q : Int) ≤ (L.length : Int) := by omega
                      clear hV0 hV0x hV0b hF0 hVn hsN hxA hpd hpt hxj hAj hx hX hRw hV hT HN HS4 HC4 HX4 HR4 HB4 HGd HBL
                      go_wp2
                      rw [← HV0.out]
                      have hNl : ¬ (L.length : Int) ≤ (j : Int) := by omega
                      have wL : IntKind.u64.wrap (L.length : Int) = (L.length : Int) := by simp only [IntKind.wrap, IntKind.signed, IntKind.bits]; simp; omega
                      generalize wr.heap.size = B at *
                      have hd9 : Below V0.heap.size V0 V0.drew := (Below.refl _ _).drew
                      by_cases hqq : q = O
                      · as_aux_lemma =>
                          have HK9 : Hid (∀ W, Below V0.heap.size V0 W → C9 B g gw gi gs B0 j d q V P O x (j : Int) W) := fun W hW => HK.out q (j : Int) W HF0.out hW
                          have hK9 : Hid (C9 B g gw gi gs B0 j d q V P O x (j : Int) V0.drew) := HK9.out _ hd9
                          clear HK HF HF0
                          subst hqq
                          go_cut [200] (fun v wx => v = .bool false ∧ Below V0.heap.size V0 wx)
                          case first =>
                            as_aux_lemma =>
                              clear HE
                              refine wp_region_held_drew (S := C9 B g gw gi gs B0 j d q V P q x (j : Int)) (by kernel_rfl) ?_ (fun hHeld => ?_)
                              · exact hK9.out
                              refine wpAnyH_take (i := 0) (oi := ({ dst := some 152, op := Go.Op.fieldAddr 44 (Go.Operand.tmp 22) 1, type := 0, pos := "outright.go:246", after := #[], guard := none } : Oper)) (v := ?_) rfl (by kernel_rfl) (by kernel_rfl) (by kernel_rfl) (fun _ _ _ h => h) (Or.inl ⟨by rfl, ?_⟩) (by assumption) ?_
                              rotate_left 1
                              · (intro w hSw; (try dsimp only at hSw); go_simp; (try with_reducible rfl))
                              try simp only [Act.put, List.setIfInBounds_toArray, List.set_cons_zero, List.set_cons_succ]
                              refine wpAnyH_take (i := 1) (oi := ({ dst := some 153, op := Go.Op.load 42 (Go.Operand.tmp 152), type := 42, pos := "outright.go:246", after := #[{ on := 0, ground := Go.Ground.data }], guard := none } : Oper)) (v := ?_) rfl (by kernel_rfl) (by kernel_rfl) (by kernel_rfl) (fun _ _ _ h => h) (Or.inl ⟨by rfl, ?_⟩) (by assumption) ?_
                              rotate_left 1
                              · (intro w hSw; (try dsimp only at hSw); go_simp; (try with_reducible rfl))
                              try simp only [Act.put, List.setIfInBounds_toArray, List.set_cons_zero, List.set_cons_succ]
                              refine wpAnyH_take (i := 2) (oi := ({ dst := some 154, op := Go.Op.move (Go.Operand.tmp 15), type := 37, pos := "outright.go:246", after := #[], guard := none } : Oper)) (v := ?_) rfl (by kernel_rfl) (by kernel_rfl) (by kernel_rfl) (fun _ _ _ h => h) (Or.inl ⟨by rfl, ?_⟩) (by assumption) ?_
                              rotate_left 1
                              · (intro w hSw; (try dsimp only at hSw); go_simp; (try with_reducible rfl))
                              try simp only [Act.put, List.setIfInBounds_toArray, List.set_cons_zero, List.set_cons_succ]
                              refine wpAnyH_take (i := 3) (oi := ({ dst := some 155, op := Go.Op.call { callee := Go.Callee.builtin Go.Builtin.len, args := #[Go.Operand.tmp 154], argTypes := #[37] }, type := 3, pos := "outright.go:246", after := #[{ on := 2, ground := Go.Ground.data }], guard := none } : Oper)) (v := ?_) rfl (by kernel_rfl) (by kernel_rfl) (by kernel_rfl) (fun _ _ _ h => h) (Or.inl ⟨by rfl, ?_⟩) (by assumption) ?_
                              rotate_left 1
                              · (intro w hSw; (try dsimp only at hSw); go_simp; (try with_reducible rfl))
                              try simp only [Act.put, List.setIfInBounds_toArray, List.set_cons_zero, List.set_cons_succ]
                              refine wpAnyH_take (i := 4) (oi := ({ dst := some 156, op := Go.Op.convert 3 42 (Go.Operand.tmp 155), type := 42, pos := "outright.go:246", after := #[{ on := 3, ground := Go.Ground.data }], guard := none } : Oper)) (v := ?_) rfl (by kernel_rfl) (by kernel_rfl) (by kernel_rfl) (fun _ _ _ h => h) (Or.inl ⟨by rfl, ?_⟩) (by assumption) ?_
                              rotate_left 1
                              · (intro w hSw; (try dsimp only at hSw); go_simp; (try with_reducible rfl))
                              try simp only [Act.put, List.setIfInBounds_toArray, List.set_cons_zero, List.set_cons_succ]
                              refine wpAnyH_take (i := 5) (oi := ({ dst := some 157, op := Go.Op.binOp Go.BinOp.geq 42 (Go.Operand.tmp 153) (Go.Operand.tmp 156) 42, type := 4, pos := "outright.go:246", after := #[{ on := 1, ground := Go.Ground.data }, { on := 4, ground := Go.Ground.data }], guard := none } : Oper)) (v := ?_) rfl (by kernel_rfl) (by kernel_rfl) (by kernel_rfl) (fun _ _ _ h => h) (Or.inl ⟨by rfl, ?_⟩) (by assumption) ?_
                              rotate_left 1
                              · (intro w hSw; (try dsimp only at hSw); go_simp; (try with_reducible rfl))
                              try simp only [Act.put, List.setIfInBounds_toArray, List.set_cons_zero, List.set_cons_succ]
                              refine wpAnyH_take (i := 6) (oi := ({ dst := some 158, op := Go.Op.move (Go.Operand.tmp 157), type := 4, pos := "outright.go:246", after := #[{ on := 5, ground := Go.Ground.data }], guard := none } : Oper)) (v := ?_) rfl (by kernel_rfl) (by kernel_rfl) (by kernel_rfl) (fun _ _ _ h => h) (Or.inl ⟨by rfl, ?_⟩) (by assumption) ?_
                              rotate_left 1
                              · (intro w hSw; (try dsimp only at hSw); go_simp; (try with_reducible rfl))
                              try simp only [Act.put, List.setIfInBounds_toArray, List.set_cons_zero, List.set_cons_succ]
                              refine wpAnyH_take (i := 7) (oi := ({ dst := some 159, op := Go.Op.move (Go.Operand.tmp 19), type := 49, pos := "outright.go:246", after := #[{ on := 6, ground := Go.Ground.guard }], guard := some (6, false) } : Oper)) (v := ?_) rfl (by kernel_rfl) (by kernel_rfl) (by kernel_rfl) (fun _ _ _ h => h) (Or.inl ⟨by rfl, ?_⟩) (by assumption) ?_
                              rotate_left 1
                              · (intro w hSw; (try dsimp only at hSw); go_simp; (try with_reducible rfl))
                              try simp only [Act.put, List.setIfInBounds_toArray, List.set_cons_zero, List.set_cons_succ]
                              refine wpAnyH_take (i := 8) (oi := ({ dst := some 160, op := Go.Op.fieldAddr 44 (Go.Operand.tmp 22) 1, type := 0, pos := "outright.go:246", after := #[{ on := 6, ground := Go.Ground.guard }], guard := some (6, false) } : Oper)) (v := ?_) rfl (by kernel_rfl) (by kernel_rfl) (by kernel_rfl) (fun _ _ _ h => h) (Or.inl ⟨by rfl, ?_⟩) (by assumption) ?_
                              rotate_left 1
                              · (intro w hSw; (try dsimp only at hSw); go_simp; (try with_reducible rfl))
                              try simp only [Act.put, List.setIfInBounds_toArray, List.set_cons_zero, List.set_cons_succ]
                              refine wpAnyH_take (i := 9) (oi := ({ dst := some 161, op := Go.Op.load 42 (Go.Operand.tmp 160), type := 42, pos := "outright.go:246", after := #[{ on := 8, ground := Go.Ground.data }, { on := 6, ground := Go.Ground.guard }], guard := some (6, false) } : Oper)) (v := ?_) rfl (by kernel_rfl) (by kernel_rfl) (by kernel_rfl) (fun _ _ _ h => h) (Or.inl ⟨by rfl, ?_⟩) (by assumption) ?_
                              rotate_left 1
                              · (intro w hSw; (try dsimp only at hSw); go_simp; (try with_reducible rfl))
                              try simp only [Act.put, List.setIfInBounds_toArray, List.set_cons_zero, List.set_cons_succ]
                              refine wpAnyH_take (i := 10) (oi := ({ dst := some 162, op := Go.Op.indexAddr 49 (Go.Operand.tmp 159) (Go.Operand.tmp 161), type := 0, pos := "outright.go:246", after := #[{ on := 7, ground := Go.Ground.data }, { on := 9, ground := Go.Ground.data }, { on := 6, ground := Go.Ground.guard }], guard := some (6, false) } : Oper)) (v := ?_) rfl (by kernel_rfl) (by kernel_rfl) (by kernel_rfl) (fun _ _ _ h => h) (Or.inl ⟨by rfl, ?_⟩) (by assumption) ?_
                              rotate_left 1
                              · (intro w hSw; (try dsimp only at hSw); go_simp; (try with_reducible rfl))
                              try simp only [Act.put, List.setIfInBounds_toArray, List.set_cons_zero, List.set_cons_succ]
                              refine wpAnyH_take (i := 11) (oi := ({ dst := some 163, op := Go.Op.load 4 (Go.Operand.tmp 162), type := 4, pos := "outright.go:246", after := #[{ on := 10, ground := Go.Ground.data }, { on := 6, ground := Go.Ground.guard }], guard := some (6, false) } : Oper)) (v := ?_) rfl (by kernel_rfl) (by kernel_rfl) (by kernel_rfl) (fun _ _ _ h => h) (Or.inl ⟨by rfl, ?_⟩) (by assumption) ?_
                              rotate_left 1
                              · (intro w hSw; (try dsimp only at hSw); go_simp; (try with_reducible rfl))
                              try simp only [Act.put, List.setIfInBounds_toArray, List.set_cons_zero, List.set_cons_succ]
                              refine wpAnyH_take (i := 12) (oi := ({ dst := some 164, op := Go.Op.pick (Go.Operand.tmp 158) (Go.Operand.const (Go.Value.bool true)) (Go.Operand.tmp 163), type := 4, pos := "outright.go:246", after := #[{ on := 6, ground := Go.Ground.data }, { on := 11, ground := Go.Ground.data }], guard := none } : Oper)) (v := ?_) rfl (by kernel_rfl) (by kernel_rfl) (by kernel_rfl) (fun _ _ _ h => h) (Or.inl ⟨by rfl, ?_⟩) (by assumption) ?_
                              rotate_left 1
                              · (intro w hSw; (try dsimp only at hSw); go_simp; (try with_reducible rfl))
                              try simp only [Act.put, List.setIfInBounds_toArray, List.set_cons_zero, List.set_cons_succ]
                              refine wpAnyH_take (i := 13) (oi := ({ dst := some 165, op := Go.Op.move (Go.Operand.tmp 164), type := 4, pos := "outright.go:246", after := #[{ on := 12, ground := Go.Ground.data }, { on := 6, ground := Go.Ground.chain }], guard := none } : Oper)) (v := ?_) rfl (by kernel_rfl) (by kernel_rfl) (by kernel_rfl) (fun _ _ _ h => h) (Or.inl ⟨by rfl, ?_⟩) (by assumption) ?_
                              rotate_left 1
                              · (intro w hSw; (try dsimp only at hSw); go_simp; (try with_reducible rfl))
                              try simp only [Act.put, List.setIfInBounds_toArray, List.set_cons_zero, List.set_cons_succ]
                              refine wpAnyH_take (i := 14) (oi := ({ dst := some 166, op := Go.Op.move (Go.Operand.tmp 15), type := 37, pos := "outright.go:246", after := #[{ on := 13, ground := Go.Ground.guard }], guard := some (13, false) } : Oper)) (v := ?_) rfl (by kernel_rfl) (by kernel_rfl) (by kernel_rfl) (fun _ _ _ h => h) (Or.inl ⟨by rfl, ?_⟩) (by assumption) ?_
                              rotate_left 1
                              · (intro w hSw; (try dsimp only at hSw); go_simp; (try with_reducible rfl))
                              try simp only [Act.put, List.setIfInBounds_toArray, List.set_cons_zero, List.set_cons_succ]
                              refine wpAnyH_take (i := 15) (oi := ({ dst := some 167, op := Go.Op.fieldAddr 44 (Go.Operand.tmp 22) 1, type := 0, pos := "outright.go:246", after := #[{ on := 13, ground := Go.Ground.guard }], guard := some (13, false) } : Oper)) (v := ?_) rfl (by kernel_rfl) (by kernel_rfl) (by kernel_rfl) (fun _ _ _ h => h) (Or.inl ⟨by rfl, ?_⟩) (by assumption) ?_
                              rotate_left 1
                              · (intro w hSw; (try dsimp only at hSw); go_simp; (try with_reducible rfl))
                              try simp only [Act.put, List.setIfInBounds_toArray, List.set_cons_zero, List.set_cons_succ]
                              refine wpAnyH_take (i := 16) (oi := ({ dst := some 168, op := Go.Op.load 42 (Go.Operand.tmp 167), type := 42, pos := "outright.go:246", after := #[{ on := 15, ground := Go.Ground.data }, { on := 13, ground := Go.Ground.guard }], guard := some (13, false) } : Oper)) (v := ?_) rfl (by kernel_rfl) (by kernel_rfl) (by kernel_rfl) (fun _ _ _ h => h) (Or.inl ⟨by rfl, ?_⟩) (by assumption) ?_
                              rotate_left 1
                              · (intro w hSw; (try dsimp only at hSw); go_simp; (try with_reducible rfl))
                              try simp only [Act.put, List.setIfInBounds_toArray, List.set_cons_zero, List.set_cons_succ]
                              refine wpAnyH_take (i := 17) (oi := ({ dst := some 169, op := Go.Op.indexAddr 37 (Go.Operand.tmp 166) (Go.Operand.tmp 168), type := 0, pos := "outright.go:246", after := #[{ on := 14, ground := Go.Ground.data }, { on := 16, ground := Go.Ground.data }, { on := 13, ground := Go.Ground.guard }], guard := some (13, false) } : Oper)) (v := ?_) rfl (by kernel_rfl) (by kernel_rfl) (by kernel_rfl) (fun _ _ _ h => h) (Or.inl ⟨by rfl, ?_⟩) (by assumption) ?_
                              rotate_left 1
                              · (intro w hSw; (try dsimp only at hSw); go_simp; (try with_reducible rfl))
                              try simp only [Act.put, List.setIfInBounds_toArray, List.set_cons_zero, List.set_cons_succ]
                              refine wpAnyH_take (i := 18) (oi := ({ dst := some 170, op := Go.Op.load 44 (Go.Operand.tmp 169), type := 44, pos := "outright.go:246", after := #[{ on := 17, ground := Go.Ground.data }, { on := 13, ground := Go.Ground.guard }], guard := some (13, false) } : Oper)) (v := ?_) rfl (by kernel_rfl) (by kernel_rfl) (by kernel_rfl) (fun _ _ _ h => h) (Or.inl ⟨by rfl, ?_⟩) (by assumption) ?_
                              rotate_left 1
                              · (intro w hSw; (try dsimp only at hSw); go_simp; (try with_reducible rfl))
                              try simp only [Act.put, List.setIfInBounds_toArray, List.set_cons_zero, List.set_cons_succ]
                              refine wpAnyH_take (i := 19) (oi := ({ dst := some 171, op := Go.Op.load 44 (Go.Operand.tmp 22), type := 44, pos := "outright.go:246", after := #[{ on := 13, ground := Go.Ground.guard }], guard := some (13, false) } : Oper)) (v := ?_) rfl (by kernel_rfl) (by kernel_rfl) (by kernel_rfl) (fun _ _ _ h => h) (Or.inl ⟨by rfl, ?_⟩) (by assumption) ?_
                              rotate_left 1
                              · (intro w hSw; (try dsimp only at hSw); go_simp; (try with_reducible rfl))
                              try simp only [Act.put, List.setIfInBounds_toArray, List.set_cons_zero, List.set_cons_succ]
                              refine wpAnyH_take (i := 20) (oi := ({ dst := some 172, op := Go.Op.binOp Go.BinOp.neq 44 (Go.Operand.tmp 170) (Go.Operand.tmp 171) 44, type := 4, pos := "outright.go:246", after := #[{ on := 18, ground := Go.Ground.data }, { on := 19, ground := Go.Ground.data }, { on := 13, ground := Go.Ground.guard }], guard := some (13, false) } : Oper)) (v := ?_) rfl (by kernel_rfl) (by kernel_rfl) (by kernel_rfl) (fun _ _ _ h => h) (Or.inl ⟨by rfl, ?_⟩) (by assumption) ?_
                              rotate_left 1
                              · (intro w hSw; (try dsimp only at hSw); go_simp; (try with_reducible rfl))
                              try simp only [Act.put, List.setIfInBounds_toArray, List.set_cons_zero, List.set_cons_succ]
                              refine wpAnyH_take (i := 21) (oi := ({ dst := some 173, op := Go.Op.pick (Go.Operand.tmp 165) (Go.Operand.const (Go.Value.bool true)) (Go.Operand.tmp 172), type := 4, pos := "outright.go:246", after := #[{ on := 13, ground := Go.Ground.data }, { on := 20, ground := Go.Ground.data }], guard := none } : Oper)) (v := ?_) rfl (by kernel_rfl) (by kernel_rfl) (by kernel_rfl) (fun _ _ _ h => h) (Or.inl ⟨by rfl, ?_⟩) (by assumption) ?_
                              rotate_left 1
                              · (intro w hSw; (try dsimp only at hSw); go_simp; (try with_reducible rfl))
                              try simp only [Act.put, List.setIfInBounds_toArray, List.set_cons_zero, List.set_cons_succ]
                              refine wpAnyH_take (i := 22) (oi := ({ dst := some 174, op := Go.Op.move (Go.Operand.tmp 173), type := 4, pos := "outright.go:246", after := #[{ on := 21, ground := Go.Ground.data }, { on := 13, ground := Go.Ground.chain }], guard := none } : Oper)) (v := ?_) rfl (by kernel_rfl) (by kernel_rfl) (by kernel_rfl) (fun _ _ _ h => h) (Or.inl ⟨by rfl, ?_⟩) (by assumption) ?_
                              rotate_left 1
                              · (intro w hSw; (try dsimp only at hSw); go_simp; (try with_reducible rfl))
                              try simp only [Act.put, List.setIfInBounds_toArray, List.set_cons_zero, List.set_cons_succ]
                              refine wpAnyH_take (i := 23) (oi := ({ dst := some 175, op := Go.Op.load 39 (Go.Operand.tmp 11), type := 39, pos := "outright.go:246", after := #[{ on := 22, ground := Go.Ground.guard }], guard := some (22, false) } : Oper)) (v := ?_) rfl (by kernel_rfl) (by kernel_rfl) (by kernel_rfl) (fun _ _ _ h => h) (Or.inl ⟨by rfl, ?_⟩) (by assumption) ?_
                              rotate_left 1
                              · (intro w hSw; (try dsimp only at hSw); go_simp; (try with_reducible rfl))
                              try simp only [Act.put, List.setIfInBounds_toArray, List.set_cons_zero, List.set_cons_succ]
                              refine wpAnyH_take (i := 24) (oi := ({ dst := some 176, op := Go.Op.fieldAddr 44 (Go.Operand.tmp 22) 0, type := 0, pos := "outright.go:246", after := #[{ on := 22, ground := Go.Ground.guard }], guard := some (22, false) } : Oper)) (v := ?_) rfl (by kernel_rfl) (by kernel_rfl) (by kernel_rfl) (fun _ _ _ h => h) (Or.inl ⟨by rfl, ?_⟩) (by assumption) ?_
                              rotate_left 1
                              · (intro w hSw; (try dsimp only at hSw); go_simp; (try with_reducible rfl))
                              try simp only [Act.put, List.setIfInBounds_toArray, List.set_cons_zero, List.set_cons_succ]
                              refine wpAnyH_take (i := 25) (oi := ({ dst := some 177, op := Go.Op.load 27 (Go.Operand.tmp 176), type := 27, pos := "outright.go:246", after := #[{ on := 24, ground := Go.Ground.data }, { on := 22, ground := Go.Ground.guard }], guard := some (22, false) } : Oper)) (v := ?_) rfl (by kernel_rfl) (by kernel_rfl) (by kernel_rfl) (fun _ _ _ h => h) (Or.inl ⟨by rfl, ?_⟩) (by assumption) ?_
                              rotate_left 1
                              · (intro w hSw; (try dsimp only at hSw); go_simp; (try with_reducible rfl))
                              try simp only [Act.put, List.setIfInBounds_toArray, List.set_cons_zero, List.set_cons_succ]
                              refine wpAnyH_take (i := 27) (oi := ({ dst := some 179, op := Go.Op.move (Go.Operand.tmp 20), type := 3, pos := "outright.go:246", after := #[{ on := 22, ground := Go.Ground.guard }], guard := some (22, false) } : Oper)) (v := ?_) rfl (by kernel_rfl) (by kernel_rfl) (by kernel_rfl) (fun _ _ _ h => h) (Or.inl ⟨by rfl, ?_⟩) (by assumption) ?_
                              rotate_left 1
                              · (intro w hSw; (try dsimp only at hSw); go_simp; (try with_reducible rfl))
                              try simp only [Act.put, List.setIfInBounds_toArray, List.set_cons_zero, List.set_cons_succ]
                              refine wpAnyH_ready (rs := [26]) (by kernel_rfl) (by simp) ?_
                              refine AllReadyH.cons (o := ({ dst := some 178, op := Go.Op.call { callee := Go.Callee.value (Go.Operand.func 15), args := #[Go.Operand.tmp 175, Go.Operand.tmp 177], argTypes := #[39, 27] }, type := 3, pos := "outright.go:246", after := #[{ on := 23, ground := Go.Ground.data }, { on := 25, ground := Go.Ground.data }, { on := 22, ground := Go.Ground.chain }, { on := 22, ground := Go.Ground.guard }], guard := some (22, false) } : Oper)) rfl (fun K hK => ?_) AllReadyH.nil
                              go_simp
                              go_at_call 15
                              refine (HPT.out _).mono ?_
                              rintro e5 w5 ⟨rfl, o5⟩
                              replace hd9 := hd9.trans (o5.mono hd9.size)
                              replace hK9 : Hid (C9 B g gw gi gs B0 j d q V P q x (j : Int) w5) := HK9.out w5 hd9
                              clear o5 hHeld
                              go_wp2_with (fail)
                              refine hK.out _ _ ?_ (fun hHeld => ?_)
                              · exact hK9.out
                              clear hK K
                              try simp only [Act.put, List.setIfInBounds_toArray, List.set_cons_zero, List.set_cons_succ]
                              refine wpAnyH_take (i := 28) (oi := ({ dst := some 180, op := Go.Op.binOp Go.BinOp.neq 3 (Go.Operand.tmp 178) (Go.Operand.tmp 179) 3, type := 4, pos := "outright.go:246", after := #[{ on := 26, ground := Go.Ground.data }, { on := 27, ground := Go.Ground.data }, { on := 22, ground := Go.Ground.guard }], guard := some (22, false) } : Oper)) (v := ?_) rfl (by kernel_rfl) (by kernel_rfl) (by kernel_rfl) (fun _ _ _ h => h) (Or.inl ⟨by rfl, ?_⟩) (by assumption) ?_
                              rotate_left 1
                              · (intro w hSw; (try dsimp only at hSw); go_simp; (try with_reducible rfl))
                              try simp only [Act.put, List.setIfInBounds_toArray, List.set_cons_zero, List.set_cons_succ]
                              refine wpAnyH_take (i := 29) (oi := ({ dst := some 181, op := Go.Op.pick (Go.Operand.tmp 174) (Go.Operand.const (Go.Value.bool true)) (Go.Operand.tmp 180), type := 4, pos := "outright.go:246", after := #[{ on := 22, ground := Go.Ground.data }, { on := 28, ground := Go.Ground.data }], guard := none } : Oper)) (v := ?_) rfl (by kernel_rfl) (by kernel_rfl) (by kernel_rfl) (fun _ _ _ h => h) (Or.inl ⟨by rfl, ?_⟩) (by assumption) ?_
                              rotate_left 1
                              · (intro w hSw; (try dsimp only at hSw); go_simp; (try with_reducible rfl))
                              try simp only [Act.put, List.setIfInBounds_toArray, List.set_cons_zero, List.set_cons_succ]
                              refine wpAnyH_take (i := 30) (oi := ({ dst := some 182, op := Go.Op.move (Go.Operand.tmp 181), type := 4, pos := "outright.go:246", after := #[{ on := 29, ground := Go.Ground.data }, { on := 26, ground := Go.Ground.chain }], guard := none } : Oper)) (v := ?_) rfl (by kernel_rfl) (by kernel_rfl) (by kernel_rfl) (fun _ _ _ h => h) (Or.inl ⟨by rfl, ?_⟩) (by assumption) ?_
                              rotate_left 1
                              · (intro w hSw; (try dsimp only at hSw); go_simp; (try with_reducible rfl))
                              try simp only [Act.put, List.setIfInBounds_toArray, List.set_cons_zero, List.set_cons_succ]
                              refine wpAnyH_take (i := 31) (oi := ({ dst := some 183, op := Go.Op.move (Go.Operand.tmp 21), type := 3, pos := "outright.go:246", after := #[{ on := 30, ground := Go.Ground.guard }], guard := some (30, false) } : Oper)) (v := ?_) rfl (by kernel_rfl) (by kernel_rfl) (by kernel_rfl) (fun _ _ _ h => h) (Or.inl ⟨by rfl, ?_⟩) (by assumption) ?_
                              rotate_left 1
                              · (intro w hSw; (try dsimp only at hSw); go_simp; (try with_reducible rfl))
                              try simp only [Act.put, List.setIfInBounds_toArray, List.set_cons_zero, List.set_cons_succ]
                              refine wpAnyH_take (i := 32) (oi := ({ dst := some 184, op := Go.Op.move (Go.Operand.tmp 17), type := 45, pos := "outright.go:246", after := #[{ on := 30, ground := Go.Ground.guard }], guard := some (30, false) } : Oper)) (v := ?_) rfl (by kernel_rfl) (by kernel_rfl) (by kernel_rfl) (fun _ _ _ h => h) (Or.inl ⟨by rfl, ?_⟩) (by assumption) ?_
                              rotate_left 1
                              · (intro w hSw; (try dsimp only at hSw); go_simp; (try with_reducible rfl))
                              try simp only [Act.put, List.setIfInBounds_toArray, List.set_cons_zero, List.set_cons_succ]
                              refine wpAnyH_take (i := 33) (oi := ({ dst := some 185, op := Go.Op.move (Go.Operand.tmp 20), type := 3, pos := "outright.go:246", after := #[{ on := 30, ground := Go.Ground.guard }], guard := some (30, false) } : Oper)) (v := ?_) rfl (by kernel_rfl) (by kernel_rfl) (by kernel_rfl) (fun _ _ _ h => h) (Or.inl ⟨by rfl, ?_⟩) (by assumption) ?_
                              rotate_left 1
                              · (intro w hSw; (try dsimp only at hSw); go_simp; (try with_reducible rfl))
                              try simp only [Act.put, List.setIfInBounds_toArray, List.set_cons_zero, List.set_cons_succ]
                              refine wpAnyH_take (i := 34) (oi := ({ dst := some 186, op := Go.Op.indexAddr 45 (Go.Operand.tmp 184) (Go.Operand.tmp 185), type := 0, pos := "outright.go:246", after := #[{ on := 32, ground := Go.Ground.data }, { on := 33, ground := Go.Ground.data }, { on := 30, ground := Go.Ground.guard }], guard := some (30, false) } : Oper)) (v := ?_) rfl (by kernel_rfl) (by kernel_rfl) (by kernel_rfl) (fun _ _ _ h => h) (Or.inl ⟨by rfl, ?_⟩) (by assumption) ?_
                              rotate_left 1
                              · (intro w hSw; (try dsimp only at hSw); go_simp; (try with_reducible rfl))
                              try simp only [Act.put, List.setIfInBounds_toArray, List.set_cons_zero, List.set_cons_succ]
                              refine wpAnyH_take (i := 35) (oi := ({ dst := some 187, op := Go.Op.load 3 (Go.Operand.tmp 186), type := 3, pos := "outright.go:246", after := #[{ on := 34, ground := Go.Ground.data }, { on := 30, ground := Go.Ground.guard }], guard := some (30, false) } : Oper)) (v := ?_) rfl (by kernel_rfl) (by kernel_rfl) (by kernel_rfl) (fun _ _ _ h => h) (Or.inl ⟨by rfl, ?_⟩) (by assumption) ?_
                              rotate_left 1
                              · (intro w hSw; (try dsimp only at hSw); go_simp; (try with_reducible rfl))
                              try simp only [Act.put, List.setIfInBounds_toArray, List.set_cons_zero, List.set_cons_succ]
                              refine wpAnyH_take (i := 36) (oi := ({ dst := some 188, op := Go.Op.binOp Go.BinOp.gtr 3 (Go.Operand.tmp 183) (Go.Operand.tmp 187) 3, type := 4, pos := "outright.go:246", after := #[{ on := 31, ground := Go.Ground.data }, { on := 35, ground := Go.Ground.data }, { on := 30, ground := Go.Ground.guard }], guard := some (30, false) } : Oper)) (v := ?_) rfl (by kernel_rfl) (by kernel_rfl) (by kernel_rfl) (fun _ _ _ h => h) (Or.inl ⟨by rfl, ?_⟩) (by assumption) ?_
                              rotate_left 1
                              · (intro w hSw; (try dsimp only at hSw); go_simp; (try with_reducible rfl))
                              try simp only [Act.put, List.setIfInBounds_toArray, List.set_cons_zero, List.set_cons_succ]
                              refine wpAnyH_take (i := 37) (oi := ({ dst := some 189, op := Go.Op.move (Go.Operand.tmp 188), type := 4, pos := "outright.go:246", after := #[{ on := 36, ground := Go.Ground.data }, { on := 30, ground := Go.Ground.chain }, { on := 30, ground := Go.Ground.guard }], guard := some (30, false) } : Oper)) (v := ?_) rfl (by kernel_rfl) (by kernel_rfl) (by kernel_rfl) (fun _ _ _ h => h) (Or.inl ⟨by rfl, ?_⟩) (by assumption) ?_
                              rotate_left 1
                              · (intro w hSw; (try dsimp only at hSw); go_simp; (try with_reducible rfl))
                              try simp only [Act.put, List.setIfInBounds_toArray, List.set_cons_zero, List.set_cons_succ]
                              refine wpAnyH_take (i := 38) (oi := ({ dst := some 190, op := Go.Op.move (Go.Operand.tmp 16), type := 37, pos := "outright.go:246", after := #[{ on := 37, ground := Go.Ground.guard }], guard := some (37, true) } : Oper)) (v := undef) rfl (by kernel_rfl) (by kernel_rfl) (by kernel_rfl) (fun _ _ _ h => h) (Or.inr ⟨by rfl, rfl⟩) (by assumption) ?_
                              try simp only [Act.put, List.setIfInBounds_toArray, List.set_cons_zero, List.set_cons_succ]
                              refine wpAnyH_take (i := 39) (oi := ({ dst := some 191, op := Go.Op.move (Go.Operand.tmp 21), type := 3, pos := "outright.go:246", after := #[{ on := 37, ground := Go.Ground.guard }], guard := some (37, true) } : Oper)) (v := undef) rfl (by kernel_rfl) (by kernel_rfl) (by kernel_rfl) (fun _ _ _ h => h) (Or.inr ⟨by rfl, rfl⟩) (by assumption) ?_
                              try simp only [Act.put, List.setIfInBounds_toArray, List.set_cons_zero, List.set_cons_succ]
                              refine wpAnyH_take (i := 40) (oi := ({ dst := some 192, op := Go.Op.binOp Go.BinOp.sub 3 (Go.Operand.tmp 191) (Go.Operand.const (Go.Value.int Go.IntKind.i64 1)) 3, type := 3, pos := "outright.go:246", after := #[{ on := 39, ground := Go.Ground.data }, { on := 37, ground := Go.Ground.guard }], guard := some (37, true) } : Oper)) (v := undef) rfl (by kernel_rfl) (by kernel_rfl) (by kernel_rfl) (fun _ _ _ h => h) (Or.inr ⟨by rfl, rfl⟩) (by assumption) ?_
                              try simp only [Act.put, List.setIfInBounds_toArray, List.set_cons_zero, List.set_cons_succ]
                              refine wpAnyH_take (i := 41) (oi := ({ dst := some 193, op := Go.Op.indexAddr 37 (Go.Operand.tmp 190) (Go.Operand.tmp 192), type := 0, pos := "outright.go:246", after := #[{ on := 38, ground := Go.Ground.data }, { on := 40, ground := Go.Ground.data }, { on := 37, ground := Go.Ground.guard }], guard := some (37, true) } : Oper)) (v := undef) rfl (by kernel_rfl) (by kernel_rfl) (by kernel_rfl) (fun _ _ _ h => h) (Or.inr ⟨by rfl, rfl⟩) (by assumption) ?_
                              try simp only [Act.put, List.setIfInBounds_toArray, List.set_cons_zero, List.set_cons_succ]
                              refine wpAnyH_take (i := 42) (oi := ({ dst := some 194, op := Go.Op.fieldAddr 44 (Go.Operand.tmp 193) 1, type := 0, pos := "outright.go:246", after := #[{ on := 41, ground := Go.Ground.data }, { on := 37, ground := Go.Ground.guard }], guard := some (37, true) } : Oper)) (v := undef) rfl (by kernel_rfl) (by kernel_rfl) (by kernel_rfl) (fun _ _ _ h => h) (Or.inr ⟨by rfl, rfl⟩) (by assumption) ?_
                              try simp only [Act.put, List.setIfInBounds_toArray, List.set_cons_zero, List.set_cons_succ]
                              refine wpAnyH_take (i := 43) (oi := ({ dst := some 195, op := Go.Op.load 42 (Go.Operand.tmp 194), type := 42, pos := "outright.go:246", after := #[{ on := 42, ground := Go.Ground.data }, { on := 37, ground := Go.Ground.guard }], guard := some (37, true) } : Oper)) (v := undef) rfl (by kernel_rfl) (by kernel_rfl) (by kernel_rfl) (fun _ _ _ h => h) (Or.inr ⟨by rfl, rfl⟩) (by assumption) ?_
                              try simp only [Act.put, List.setIfInBounds_toArray, List.set_cons_zero, List.set_cons_succ]
                              refine wpAnyH_take (i := 44) (oi := ({ dst := some 196, op := Go.Op.fieldAddr 44 (Go.Operand.tmp 22) 1, type := 0, pos := "outright.go:246", after := #[{ on := 37, ground := Go.Ground.guard }], guard := some (37, true) } : Oper)) (v := undef) rfl (by kernel_rfl) (by kernel_rfl) (by kernel_rfl) (fun _ _ _ h => h) (Or.inr ⟨by rfl, rfl⟩) (by assumption) ?_
                              try simp only [Act.put, List.setIfInBounds_toArray, List.set_cons_zero, List.set_cons_succ]
                              refine wpAnyH_take (i := 45) (oi := ({ dst := some 197, op := Go.Op.load 42 (Go.Operand.tmp 196), type := 42, pos := "outright.go:246", after := #[{ on := 44, ground := Go.Ground.data }, { on := 37, ground := Go.Ground.guard }], guard := some (37, true) } : Oper)) (v := undef) rfl (by kernel_rfl) (by kernel_rfl) (by kernel_rfl) (fun _ _ _ h => h) (Or.inr ⟨by rfl, rfl⟩) (by assumption) ?_
                              try simp only [Act.put, List.setIfInBounds_toArray, List.set_cons_zero, List.set_cons_succ]
                              refine wpAnyH_take (i := 46) (oi := ({ dst := some 198, op := Go.Op.binOp Go.BinOp.geq 42 (Go.Operand.tmp 195) (Go.Operand.tmp 197) 42, type := 4, pos := "outright.go:246", after := #[{ on := 43, ground := Go.Ground.data }, { on := 45, ground := Go.Ground.data }, { on := 37, ground := Go.Ground.guard }], guard := some (37, true) } : Oper)) (v := undef) rfl (by kernel_rfl) (by kernel_rfl) (by kernel_rfl) (fun _ _ _ h => h) (Or.inr ⟨by rfl, rfl⟩) (by assumption) ?_
                              try simp only [Act.put, List.setIfInBounds_toArray, List.set_cons_zero, List.set_cons_succ]
                              refine wpAnyH_take (i := 47) (oi := ({ dst := some 199, op := Go.Op.pick (Go.Operand.tmp 189) (Go.Operand.tmp 198) (Go.Operand.const (Go.Value.bool false)), type := 4, pos := "outright.go:246", after := #[{ on := 37, ground := Go.Ground.data }, { on := 46, ground := Go.Ground.data }, { on := 30, ground := Go.Ground.guard }], guard := some (30, false) } : Oper)) (v := ?_) rfl (by kernel_rfl) (by kernel_rfl) (by kernel_rfl) (fun _ _ _ h => h) (Or.inl ⟨by rfl, ?_⟩) (by assumption) ?_
                              rotate_left 1
                              · (intro w hSw; (try dsimp only at hSw); go_simp; (try with_reducible rfl))
                              try simp only [Act.put, List.setIfInBounds_toArray, List.set_cons_zero, List.set_cons_succ]
                              refine wpAnyH_take (i := 48) (oi := ({ dst := some 200, op := Go.Op.pick (Go.Operand.tmp 182) (Go.Operand.const (Go.Value.bool true)) (Go.Operand.tmp 199), type := 4, pos := "outright.go:246", after := #[{ on := 30, ground := Go.Ground.data }, { on := 47, ground := Go.Ground.data }], guard := none } : Oper)) (v := ?_) rfl (by kernel_rfl) (by kernel_rfl) (by kernel_rfl) (fun _ _ _ h => h) (Or.inl ⟨by rfl, ?_⟩) (by assumption) ?_
                              rotate_left 1
                              · (intro w hSw; (try dsimp only at hSw); go_simp; (try with_reducible rfl))
                              try simp only [Act.put, List.setIfInBounds_toArray, List.set_cons_zero, List.set_cons_succ]
                              refine wpAnyH_done (by kernel_rfl) ?_ _
                              all_goals
                                go_wp2
                                go_meet
                                first
                                  | exact ⟨rfl, hd9⟩
                                  | exact ⟨congrArg Value.bool (decide_eq_false (by omega)), hd9⟩
                          case rest =>
                            as_aux_lemma =>
                              obtain ⟨rfl, hW9⟩ := hcut
                              obtain ⟨hE1, hE2, hE3⟩ := HE.out _ hW9
                              obtain ⟨⟨y0, y1, y2⟩, yS, _⟩ := HK9.out _ hW9
                              have HEE : Hid (Two gs gs W4 (wc.setCell ⟨gs, j, none⟩ (.bool true)) ∧ Rv (wc.setCell ⟨gs, j, none⟩ (.bool true)) gs 4 (bv (sn S L.length (q + 1)))) := ⟨hE1, hE2⟩
                              clear hE1 hE2 HE HK9 HPT
                              go_wp2
                              exact ⟨⟨q + 1, by omega, by omega, by go_num, HEE.out.1, HEE.out.2⟩, by simp [intOf]; omega⟩
                      · as_aux_lemma =>
                          obtain ⟨q', hq'⟩ : ∃ q', q = q' + 1 := ⟨q - 1, by omega⟩
                          obtain ⟨f, hf1, hf2⟩ := HF.out q' hq' (by omega)
                          have HK9 : Hid (∀ W, Below V0.heap.size V0 W → C9 B g gw gi gs B0 j d q' V P O x f W) := fun W hW => HK.out q' f W hf1 hW
                          have hK9 : Hid (C9 B g gw gi gs B0 j d q' V P O x f V0.drew) := HK9.out _ hd9
                          have hng : (O : Int) < (q' : Int) + 1 := by omega
                          have hm2 : IntKind.i64.wrap (q' : Int) = (q' : Int) := by simp only [IntKind.wrap, IntKind.signed, IntKind.bits]; simp; omega
                          have hm4 : IntKind.i64.wrap ((q' : Int) + 1 - 1) = (q' : Int) := by rw [show (q' : Int) + 1 - 1 = (q' : Int) by omega]; exact hm2
                          have hm3 : (q' : Int) < (L.length : Int) := by omega
                          have hnf : ¬ (j : Int) ≤ f := by omega
                          clear HK HF HF0 hqq hf1
                          subst hq'
                          rw [show ((q' + 1 : Nat) : Int) = (q' : Int) + 1 from rfl]
                          go_cut [200] (fun v wx => v = .bool false ∧ Below V0.heap.size V0 wx)
                          case first =>
                            as_aux_lemma =>
                              clear HE
                              go_region_held3 (C9 B g gw gi gs B0 j d q' V P O x f) ((with_reducible exact hK9.out))
                                  ((go_at_call 15; refine (HPT.out _).mono ?_; rintro e5 w5 ⟨rfl, o5⟩; (replace hd9 := hd9.trans (o5.mono hd9.size)); (replace hK9 : Hid (C9 B g gw gi gs B0 j d q' V P O x f w5) := HK9.out w5 hd9); clear o5))
                              all_goals
                                go_wp2
                                go_meet
                                first
                                  | exact ⟨rfl, hd9⟩
                                  | exact ⟨congrArg Value.bool (decide_eq_false (by omega)), hd9⟩
                          case rest =>
                            as_aux_lemma =>
                              obtain ⟨rfl, hW9⟩ := hcut
                              obtain ⟨hE1, hE2, hE3⟩ := HE.out _ hW9
                              obtain ⟨⟨y0, y1, y2⟩, yS, _⟩ := HK9.out _ hW9
                              have HEE : Hid (Two gs gs W4 (wc.setCell ⟨gs, j, none⟩ (.bool true)) ∧ Rv (wc.setCell ⟨gs, j, none⟩ (.bool true)) gs 4 (bv (sn S L.length ((q' + 1) + 1)))) := ⟨hE1, hE2⟩
                              clear hE1 hE2 HE HK9 HPT
                              go_wp2
                              exact ⟨⟨(q' + 1) + 1, by omega, by omega, by go_num, HEE.out.1, HEE.out.2⟩, by simp [intOf]; omega⟩
                    · as_aux_lemma =>
                        obtain rfl : q = O2 := by omega
                        have HV9 : Hid (Rv wr gs 4 (bv (sn S L.length (opn (pn V P) A (d + 1))))) := HO.out.2 ▸ hV
                        clear hV
                        go_wp2
                        exact ⟨⟨d + 1, by omega, by go_num, hT, HV9.out⟩, by simp [intOf]; omega⟩
                · as_aux_lemma =>
                    obtain rfl : d = P := by omega
                    have hbe := HB4.out.trans ((hT.toBelow (B := w.heap.size) (by omega) (by omega) (by omega)))
                    go_wp2
                    go_ret
                    exact ⟨rfl, hbe⟩
end Sv
end Go.Proofs.Ytclgbificccadaa
