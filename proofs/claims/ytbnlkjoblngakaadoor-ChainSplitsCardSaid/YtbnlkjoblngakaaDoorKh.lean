/- ChainSplits (stage 13) walked, over any package of chains. -/
import Derived.Test.YtbnlkjoblngakaaDoorKg
import Derived.Test.YtbnlkjoblngakaaDoorKf
namespace Go.Proofs.YtbnlkjoblngakaaDoor
open Go.RowKit Go.Shelf
attribute [local go_sem] store_one S_match S_store

theorem wrap_le (l : List Stp) : wrapC l < 10 := by unfold wrapC; split <;> (try split) <;> omega
set_option maxRecDepth 100000 in
set_option maxHeartbeats 2000000 in
theorem splits13_any {w : World} (C : ChainI w) (l : List Stp) (V : Value) (bs os : Nat) (hS : StA w V l bs os) (cut : Nat) (hcut : cut < 256) (r : Rq) (Vr : Value) (b o : Nat) (hA : FA w Vr r.fs b o) :
    Calls Tryd.prog 5 #[V, .int .u8 (cut : Int), rqV r Vr] w fun e w' => e = .returned (.bool true) ∧ Below w.heap.size w w' := by
  unfold rqV
  obtain ⟨W1, hW1⟩ : ∃ W, W = w.alloc (.cells (rqC r Vr) 25) := ⟨_, rfl⟩
  have hM : RqAt w w.heap.size r Vr b o W1 := by rw [hW1]; exact rqAt_new hA
  have hS1 : StA W1 V l bs os := hS.below hM.bel
  obtain ⟨b1, hb1⟩ : ∃ b, b = w.heap.size := ⟨_, rfl⟩
  rw [← hb1] at hM
  have c0 : W1.cell? ⟨b1, 0, none⟩ = some (S r.m) := hM.cell 0 _ rfl
  have c1 : W1.cell? ⟨b1, 1, none⟩ = some (S r.p) := hM.cell 1 _ rfl
  have c2 : W1.cell? ⟨b1, 2, none⟩ = some (S r.q) := hM.cell 2 _ rfl
  have c3 : W1.cell? ⟨b1, 3, none⟩ = some (.int .i64 r.v) := hM.cell 3 _ rfl
  have c4 : W1.cell? ⟨b1, 4, none⟩ = some (Vr) := hM.cell 4 _ rfl
  have c5 : W1.cell? ⟨b1, 5, none⟩ = some (S r.body) := hM.cell 5 _ rfl
  have c6 : W1.cell? ⟨b1, 6, none⟩ = some (.bool r.cl) := hM.cell 6 _ rfl
  have HB := Lib.hid (fun h : r.fs ≠ [] => hA.lt h)
  have HC := Lib.hid C
  have HM := Lib.hid hM
  have HS := Lib.hid hS1
  have hg := great13_any l V bs os r Vr b o W1 hS1 hM.fa
  have HG := Lib.hid hg
  have hlS := hS.len 3
  obtain ⟨N, hN⟩ : ∃ N, N = l.length := ⟨_, rfl⟩
  rw [← hN] at hlS
  have HN := Lib.hid hN
  clear hg C hM hS1 hS hA hN
  unfold rqV at HG
  rw [hW1] at HG c0 c1 c2 c3 c4 c5 c6
  rw [hb1] at c0 c1 c2 c3 c4 c5 c6
  have hrc : rqC r Vr = #[S r.m, S r.p, S r.q, .int .i64 r.v, Vr, S r.body, .bool r.cl] := rfl
  rw [hrc] at HG hW1 ⊢
  simp only [hrc] at c0 c1 c2 c3 c4 c5 c6
  clear hrc
  go_enter Tryd.func5, Tryd.ntmps5
  go_wp2_with fail
  refine HG.out.mono ?_
  rintro e W2 ⟨x, rfl, hx, hB⟩
  rw [← hW1] at hB
  have H2 := Lib.hid (HM.out.below hB)
  have HS2 := Lib.hid (HS.out.below hB)
  have HW := Lib.hid (wakes13_any (HC.out.up H2.out.bel))
  clear hB HG c0 c1 c2 c3 c4 c5 c6 HM HS hW1
  have hskip : (x = true ∨ 8 < N) ∨ (x = false ∧ N ≤ 8) := by cases x <;> simp <;> omega
  rcases hskip with hskip | ⟨rfl, hN8⟩
  · cases x with
    | true =>
      clear hx hskip
      go_wp2_with fail
      refine HW.out.mono ?_
      rintro e W3 ⟨rfl, hB⟩
      have HE := Lib.hid (H2.out.bel.trans (hB.mono H2.out.bel.size))
      clear hB
      go_wp2
      go_ret
      exact ⟨rfl, HE.out⟩
    | false =>
      have g8 : decide ((8 : Int) < (N : Int)) = true := decide_eq_true (by rcases hskip with h | h; cases h; omega)
      clear hx hskip
      go_wp2_with fail
      refine HW.out.mono ?_
      rintro e W3 ⟨rfl, hB⟩
      have HE := Lib.hid (H2.out.bel.trans (hB.mono H2.out.bel.size))
      clear hB
      go_wp2
      go_ret
      exact ⟨rfl, HE.out⟩
  · have g8 : decide ((8 : Int) < (N : Int)) = false := decide_eq_false (by omega)
    obtain ⟨hsl, hsr⟩ := hx rfl
    have HSL := Lib.hid hsl
    have HSR := Lib.hid hsr
    have hw1 : IntKind.i64.wrap ((N : Int) + 1) = (N : Int) + 1 := by rw [IntKind.wrap_i64]; omega
    obtain ⟨k, hk⟩ : ∃ k, k = cut % (N + 1) := ⟨_, rfl⟩
    have hkN : k ≤ N := by rw [hk]; have := Nat.mod_lt cut (show 0 < N + 1 by omega); omega
    have hmod : ((cut : Int)).tmod ((N : Int) + 1) = (k : Int) := by
      rw [Int.tmod_eq_emod_of_nonneg (by omega), hk]
      rw [show ((N : Int) + 1) = ((N + 1 : Nat) : Int) by omega, ← Int.natCast_emod]
    have hP0 : ¬ ((N : Int) + 1) = 0 := by omega
    have hP1 : ((N : Int) + 1) ≠ 0 := hP0
    have hrem : binOp .rem 3 (.int .i64 (cut : Int)) (.int .i64 ((N : Int) + 1)) = pure (.int .i64 (k : Int)) := by
      unfold binOp
      simp [go_sem, hP0, hmod]
    have hcv : ∀ w, (convert 5 3 (.int .u8 (cut : Int))).run Tryd.prog w = .ok (.int .i64 (cut : Int)) w := fun w => by
      have := conv_byte (P := Tryd.prog) Tryd.underlying5 Tryd.underlying3 (UInt8.ofNat cut) w
      have e : (UInt8.ofNat cut).toNat = cut := by rw [UInt8.toNat_ofNat']; omega
      unfold B at this
      rw [e] at this
      exact this
    have hwl := HC.out.wrap l V bs os 20 #[] W2 H2.out.bel HS2.out hsl (enters_of Tryd.func20 (by kernel_rfl) rfl)
    have HWL := Lib.hid hwl
    unfold hV at HWL
    have HKN : Hid (k ≤ l.length) := Lib.hid (by rw [← HN.out]; exact hkN)
    have h8 : l.length ≤ 8 := by rw [← HN.out]; exact hN8
    have hall : l.all rightS = ((l.take k).all rightS && (l.drop k).all rightS) := by rw [← right_append, List.take_append_drop]
    have hwA : wrapC (l.take k) = if (l.take k).all rightS = true then 0 else 1 := wrap_small (by rw [List.length_take]; omega)
    have hwD : wrapC (l.drop k) = if (l.drop k).all rightS = true then 0 else 1 := wrap_small (by rw [List.length_drop]; omega)
    have hwL : wrapC l = if ((l.take k).all rightS && (l.drop k).all rightS) = true then 0 else 1 := by rw [wrap_small h8, hall]
    have HSM : Hid (SmallS (l.take k) ∧ SmallS (l.drop k)) := Lib.hid ⟨⟨by rw [List.length_take]; omega, fun s hs => hsl.2 s (List.mem_of_mem_take hs)⟩, ⟨by rw [List.length_drop]; omega, fun s hs => hsl.2 s (List.mem_of_mem_drop hs)⟩⟩
    have hnn : ∀ w, (binOp .eql 40 .nilFunc .nilFunc).run Tryd.prog w = .ok (.bool true) w := eql_nilnil Tryd.underlying40
    clear hx hsl hsr hk hwl hmod h8 hall
    obtain ⟨Ar, hAr⟩ : ∃ x, x = (l.take k).all rightS := ⟨_, rfl⟩
    obtain ⟨Dr, hDr⟩ : ∃ x, x = (l.drop k).all rightS := ⟨_, rfl⟩
    rw [← hAr] at hwA hwL
    rw [← hDr] at hwD hwL
    clear hAr hDr
    cases Dr with
    | false =>
      rw [if_neg Bool.false_ne_true] at hwD
      rw [Bool.and_false, if_neg Bool.false_ne_true] at hwL
      clear hwA
      go_wp2_with fail
      refine HWL.out.mono ?_
      rintro e W3 ⟨hB3, h3⟩
      obtain rfl : e = .returned (.tuple #[.nilFunc, .int .i64 1]) := by
        rcases h3 with ⟨_, h⟩ | ⟨h, _⟩
        · rw [h, hwL]; rfl
        · rw [hwL] at h; cases h
      have H3 := Lib.hid (H2.out.below hB3)
      have HS3 := Lib.hid (HS2.out.below hB3)
      obtain ⟨V2, hsl2, hSD⟩ := HS3.out.drop HKN.out
      have hwd := HC.out.wrap (l.drop k) V2 bs (os + k * 4) 20 #[] W3 H3.out.bel hSD HSM.out.2 (enters_of Tryd.func20 (by kernel_rfl) rfl)
      have HWD := Lib.hid hwd
      unfold hV at HWD
      clear h3 hB3 hSD hwd HWL H2 HS2
      go_wp2_with fail
      refine HWD.out.mono ?_
      rintro e W4 ⟨hB4, h4⟩
      obtain rfl : e = .returned (.tuple #[.nilFunc, .int .i64 1]) := by
        rcases h4 with ⟨_, h⟩ | ⟨h, _⟩
        · rw [h, hwD]; rfl
        · rw [hwD] at h; cases h
      have H4 := Lib.hid (H3.out.below hB4)
      have HW4 := Lib.hid (wakes13_any (HC.out.up H4.out.bel))
      clear h4 hB4 HWD H3 HS3 HW
      go_wp2_with fail
      refine HW4.out.mono ?_
      rintro e W5 ⟨rfl, hB⟩
      have HE := Lib.hid (H4.out.bel.trans (hB.mono H4.out.bel.size))
      clear hB
      go_wp2
      go_ret
      exact ⟨rfl, HE.out⟩
    | true =>
    rw [if_pos rfl] at hwD
    rw [Bool.and_true] at hwL
    cases Ar with
    | false =>
      rw [if_neg Bool.false_ne_true] at hwA hwL
      go_wp2_with fail
      refine HWL.out.mono ?_
      rintro e W3 ⟨hB3, h3⟩
      obtain rfl : e = .returned (.tuple #[.nilFunc, .int .i64 1]) := by
        rcases h3 with ⟨_, h⟩ | ⟨h, _⟩
        · rw [h, hwL]; rfl
        · rw [hwL] at h; cases h
      have H3 := Lib.hid (H2.out.below hB3)
      have HS3 := Lib.hid (HS2.out.below hB3)
      obtain ⟨V2, hsl2, hSD⟩ := HS3.out.drop HKN.out
      have hwd := HC.out.wrap (l.drop k) V2 bs (os + k * 4) 20 #[] W3 H3.out.bel hSD HSM.out.2 (enters_of Tryd.func20 (by kernel_rfl) rfl)
      have HWD := Lib.hid hwd
      unfold hV at HWD
      clear h3 hB3 hSD hwd HWL H2 HS2
      go_wp2_with fail
      refine HWD.out.mono ?_
      rintro e W4 ⟨hB4, h4⟩
      rcases h4 with ⟨h4, _⟩ | ⟨_, gi, lbi, rfl, heni, hdi⟩
      · exact absurd hwD h4
      have H4 := Lib.hid (H3.out.below hB4)
      have HS4 := Lib.hid (HS3.out.below hB4)
      obtain ⟨V3, hsl3, hST⟩ := HS4.out.take HKN.out
      have hwt := HC.out.wrap (l.take k) V3 bs os gi lbi W4 H4.out.bel hST HSM.out.1 heni
      have HWT := Lib.hid hwt
      unfold hV at HWT
      clear hB4 hST hwt HWD H3 HS3 hdi
      go_wp2_with fail
      refine HWT.out.mono ?_
      rintro e W5 ⟨hB5, h5⟩
      obtain rfl : e = .returned (.tuple #[.nilFunc, .int .i64 1]) := by
        rcases h5 with ⟨_, h⟩ | ⟨h, _⟩
        · rw [h, hwA]; rfl
        · rw [hwA] at h; cases h
      have H5 := Lib.hid (H4.out.below hB5)
      have HW5 := Lib.hid (wakes13_any (HC.out.up H5.out.bel))
      clear h5 hB5 HWT H4 HS4 HW
      go_wp2_with fail
      refine HW5.out.mono ?_
      rintro e W6 ⟨rfl, hB⟩
      have HE := Lib.hid (H5.out.bel.trans (hB.mono H5.out.bel.size))
      clear hB
      go_wp2
      go_ret
      exact ⟨rfl, HE.out⟩
    | true =>
    rw [if_pos rfl] at hwA hwL
    go_wp2_with fail
    refine HWL.out.mono ?_
    rintro e W3 ⟨hB3, h3⟩
    rcases h3 with ⟨h3, _⟩ | ⟨_, gw, lbw, rfl, henw, hdw⟩
    · exact absurd hwL h3
    have H3 := Lib.hid (H2.out.below hB3)
    have HS3 := Lib.hid (HS2.out.below hB3)
    have HDW := Lib.hid (And.intro hdw hB3)
    obtain ⟨V2, hsl2, hSD⟩ := HS3.out.drop HKN.out
    have hwd := HC.out.wrap (l.drop k) V2 bs (os + k * 4) 20 #[] W3 H3.out.bel hSD HSM.out.2 (enters_of Tryd.func20 (by kernel_rfl) rfl)
    have HWD := Lib.hid hwd
    unfold hV at HWD
    clear hB3 hSD hwd HWL H2 HS2 hdw
    go_wp2_with fail
    refine HWD.out.mono ?_
    rintro e W4 ⟨hB4, h4⟩
    rcases h4 with ⟨h4, _⟩ | ⟨_, gi, lbi, rfl, heni, hdi⟩
    · exact absurd hwD h4
    have H4 := Lib.hid (H3.out.below hB4)
    have HS4 := Lib.hid (HS3.out.below hB4)
    have HDI := Lib.hid (And.intro hdi hB4)
    obtain ⟨V3, hsl3, hST⟩ := HS4.out.take HKN.out
    have hwt := HC.out.wrap (l.take k) V3 bs os gi lbi W4 H4.out.bel hST HSM.out.1 heni
    have HWT := Lib.hid hwt
    unfold hV at HWT
    clear hB4 hST hwt HWD H3 HS3 hdi
    go_wp2_with fail
    refine HWT.out.mono ?_
    rintro e W5 ⟨hB5, h5⟩
    rcases h5 with ⟨h5, _⟩ | ⟨_, go, lbo, rfl, heno, hdo⟩
    · exact absurd hwA h5
    have H5 := Lib.hid (H4.out.below hB5)
    have HDO := Lib.hid (And.intro hdo hB5)
    have hqw : ∀ w, (binOp .eql 40 (.func (.func gw) #[] lbw) .nilFunc).run Tryd.prog w = .ok (.bool false) w := eql_nilFunc Tryd.underlying40 (.func gw) #[] lbw
    have hqi : ∀ w, (binOp .eql 40 (.func (.func gi) #[] lbi) .nilFunc).run Tryd.prog w = .ok (.bool false) w := eql_nilFunc Tryd.underlying40 (.func gi) #[] lbi
    have hqo : ∀ w, (binOp .eql 40 (.func (.func go) #[] lbo) .nilFunc).run Tryd.prog w = .ok (.bool false) w := eql_nilFunc Tryd.underlying40 (.func go) #[] lbo
    clear hB5 hdo HWT H4 HS4 HW
    go_wp2
    obtain ⟨Wq, hWq⟩ : ∃ Wq, Wq = W5.drew := ⟨_, rfl⟩
    have hBq : Below W5.heap.size W5 Wq := by rw [hWq]; exact ⟨rfl, rfl, rfl, Nat.le_refl _, fun _ _ => rfl⟩
    have HQ := Lib.hid (And.intro hBq (H5.out.below hBq))
    obtain ⟨SS, hSS⟩ : ∃ SS : World → Prop, SS = fun W => W.cell? ⟨w.heap.size, 0, none⟩ = some (S r.m) ∧ W.cell? ⟨w.heap.size, 1, none⟩ = some (S r.p) ∧ W.cell? ⟨w.heap.size, 2, none⟩ = some (S r.q) ∧ W.cell? ⟨w.heap.size, 3, none⟩ = some (.int .i64 r.v) ∧ W.cell? ⟨w.heap.size, 4, none⟩ = some Vr ∧ W.cell? ⟨w.heap.size, 5, none⟩ = some (S r.body) ∧ W.cell? ⟨w.heap.size, 6, none⟩ = some (.bool r.cl) := ⟨_, rfl⟩
    have HSS : Hid (∀ W, RqAt w b1 r Vr b o W → SS W) := Lib.hid fun W h => by
      rw [hSS, ← hb1]
      exact ⟨h.cell 0 _ rfl, h.cell 1 _ rfl, h.cell 2 _ rfl, h.cell 3 _ rfl, h.cell 4 _ rfl, h.cell 5 _ rfl, h.cell 6 _ rfl⟩
    have hSQ := HSS.out Wq HQ.out.2
    have hB35 := HDI.out.2.trans (HDO.out.2.mono HDI.out.2.size)
    have hB3q := hB35.trans (HQ.out.1.mono hB35.size)
    have hB4q := HDO.out.2.trans (HQ.out.1.mono HDO.out.2.size)
    have HX1 := Lib.hid (tell_does HDW.out.1 (W := Wq) hB3q.size (fun j _ hj => hB3q.block j hj) r Vr b o HQ.out.2.fa HSR.out (fun h => HQ.out.2.fa.lt h))
    have HX2 : Hid (∀ W, Below Wq.heap.size Wq W → Calls Tryd.prog go (#[rqV r Vr] ++ lbo) W (AnsV (tellA r l) W)) := Lib.hid fun W hB => by
      have h := split_does HDI.out.1 HDO.out.1 (by rw [List.length_drop]; have := HSL.out.1; omega) (W := W) (Nat.le_refl _) HDO.out.2.size (Nat.le_trans HQ.out.1.size hB.size)
        (fun j _ hj => (hB.block j (by have := hB4q.size; omega)).trans (hB4q.block j hj)) (fun j _ hj => (hB.block j (by have := HQ.out.1.size; omega)).trans (HQ.out.1.block j hj)) r Vr b o (HQ.out.2.fa.below hB) HSR.out (fun h => (HQ.out.2.fa.below hB).lt h)
      rwa [List.take_append_drop] at h
    have hew : ∀ args w, (callFunc gw args).run Tryd.prog w = .ok (.enter gw args) w := henw
    have heo : ∀ args w, (callFunc go args).run Tryd.prog w = .ok (.enter go args) w := heno
    unfold rqV at HX1 HX2
    have hrc : rqC r Vr = #[S r.m, S r.p, S r.q, .int .i64 r.v, Vr, S r.body, .bool r.cl] := rfl
    rw [hrc] at HX1 HX2
    have HTL := Lib.hid (tellA_len r l)
    obtain ⟨T, hT⟩ : ∃ T, T = tellA r l := ⟨_, rfl⟩
    rw [← hT] at HX1 HX2 HTL
    obtain ⟨tc, tb, tf⟩ := T
    clear hrc hT hB35 hB3q hB4q hqw hqi hqo hnn hBq HDW HDI HDO henw heni heno hsl2 hsl3
    refine wp_region_noPanic ?_
    refine wp_region_held_drew (S := SS) (by kernel_rfl) (by rw [← hWq]; exact hSQ) (fun _ => ?_)
    rw [← hWq]
    clear hWq
    rw [hSS] at hSQ HSS ⊢
    clear hSS
    refine take_at (i := 0) (d := some 78) (v := .func (.func gw) #[] lbw) rfl (by kernel_rfl) (by kernel_rfl) (by kernel_rfl) (fun _ _ _ h => h) (fun oi ho => ?_) hSQ ?_
    · obtain rfl := Option.some.inj ho
      exact Or.inl ⟨by rfl, fun wx hSw => by go_simp⟩
    simp only [Act.put, List.setIfInBounds_toArray, List.set_cons_zero, List.set_cons_succ]
    refine take_at (i := 3) (d := some 81) (v := .func (.func go) #[] lbo) rfl (by kernel_rfl) (by kernel_rfl) (by kernel_rfl) (fun _ _ _ h => h) (fun oi ho => ?_) hSQ ?_
    · obtain rfl := Option.some.inj ho
      exact Or.inl ⟨by rfl, fun wx hSw => by go_simp⟩
    simp only [Act.put, List.setIfInBounds_toArray, List.set_cons_zero, List.set_cons_succ]
    refine take_at (i := 1) (d := some 79) (v := .agg #[S r.m, S r.p, S r.q, .int .i64 r.v, Vr, S r.body, .bool r.cl]) rfl (by kernel_rfl) (by kernel_rfl) (by kernel_rfl) (fun _ _ _ h => h) (fun oi ho => ?_) hSQ ?_
    · obtain rfl := Option.some.inj ho
      exact Or.inl ⟨by rfl, fun wx hSw => by (have k0 := hSw.1; have k1 := hSw.2.1; have k2 := hSw.2.2.1; have k3 := hSw.2.2.2.1; have k4 := hSw.2.2.2.2.1; have k5 := hSw.2.2.2.2.2.1; have k6 := hSw.2.2.2.2.2.2; go_simp)⟩
    simp only [Act.put, List.setIfInBounds_toArray, List.set_cons_zero, List.set_cons_succ]
    refine take_at (i := 4) (d := some 82) (v := .agg #[S r.m, S r.p, S r.q, .int .i64 r.v, Vr, S r.body, .bool r.cl]) rfl (by kernel_rfl) (by kernel_rfl) (by kernel_rfl) (fun _ _ _ h => h) (fun oi ho => ?_) hSQ ?_
    · obtain rfl := Option.some.inj ho
      exact Or.inl ⟨by rfl, fun wx hSw => by (have k0 := hSw.1; have k1 := hSw.2.1; have k2 := hSw.2.2.1; have k3 := hSw.2.2.2.1; have k4 := hSw.2.2.2.2.1; have k5 := hSw.2.2.2.2.2.1; have k6 := hSw.2.2.2.2.2.2; go_simp)⟩
    simp only [Act.put, List.setIfInBounds_toArray, List.set_cons_zero, List.set_cons_succ]
    refine ready_call (i := 2) (d := some 80) (f := gw) (args := #[.agg #[S r.m, S r.p, S r.q, .int .i64 r.v, Vr, S r.body, .bool r.cl]] ++ lbw) rfl (by kernel_rfl) (fun oi ho => ?_) ?_
    · obtain rfl := Option.some.inj ho
      exact ⟨by rfl, by go_simp⟩
    refine HX1.out.mono ?_
    rintro e W6 ⟨V6, rfl, hF6, hB6⟩
    obtain ⟨g6, hA6, -⟩ := FO.fa hF6
    obtain ⟨a6, q6, hv6⟩ := hA6.form
    subst hv6
    have H6 := Lib.hid (And.intro (HQ.out.2.below hB6) hA6)
    have hX := HX2.out W6 hB6
    have HX3 := Lib.hid hX
    clear hF6 hB6 hA6 hX HX1 HX2
    refine ⟨_, rfl, HSS.out W6 H6.out.1, ?_⟩
    unfold rpV rpC
    dsimp only
    simp only [Act.put, List.setIfInBounds_toArray, List.set_cons_zero, List.set_cons_succ]
    refine ready_call (i := 5) (d := some 83) (f := go) (args := #[.agg #[S r.m, S r.p, S r.q, .int .i64 r.v, Vr, S r.body, .bool r.cl]] ++ lbo) rfl (by kernel_rfl) (fun oi ho => ?_) ?_
    · obtain rfl := Option.some.inj ho
      exact ⟨by rfl, by go_simp⟩
    refine HX3.out.mono ?_
    rintro e W7 ⟨V7, rfl, hF7, hB7⟩
    obtain ⟨g7, hA7, -⟩ := FO.fa hF7
    obtain ⟨a7, q7, hv7⟩ := hA7.form
    subst hv7
    have H7 := Lib.hid (H6.out.1.below hB7)
    have HSA := Lib.hid (same13_true (tc : Int) tb tf (.slice a6 tf.length q6) (.slice a7 tf.length q7) g6 0 g7 0 (by have := HTL.out; have := HSL.out.1; dsimp only at *; omega) W7 (H6.out.2.below hB7) hA7)
    unfold rpV rpC at HSA
    clear hF7 hB7 hA7 HX3 H6
    refine ⟨_, rfl, HSS.out W7 H7.out, ?_⟩
    unfold rpV rpC
    dsimp only
    simp only [Act.put, List.setIfInBounds_toArray, List.set_cons_zero, List.set_cons_succ]
    refine ready_call (i := 6) (d := some 84) (f := 17) (args := #[.agg #[.int .i64 (tc : Int), .slice a6 tf.length q6, S tb], .agg #[.int .i64 (tc : Int), .slice a7 tf.length q7, S tb]]) rfl (by kernel_rfl) (fun oi ho => ?_) ?_
    · obtain rfl := Option.some.inj ho
      exact ⟨by rfl, by go_simp⟩
    refine HSA.out.mono ?_
    rintro e W8 ⟨rfl, hB8⟩
    have H8 := Lib.hid (H7.out.below hB8)
    have HW8 := Lib.hid (wakes13_any (HC.out.up H8.out.bel))
    clear hB8 HSA H7
    refine ⟨_, rfl, HSS.out W8 H8.out, ?_⟩
    simp only [Act.put, List.setIfInBounds_toArray, List.set_cons_zero, List.set_cons_succ]
    have hSQ8 := HSS.out W8 H8.out
    refine take_at (i := 7) (d := some 85) (v := .bool true) rfl (by kernel_rfl) (by kernel_rfl) (by kernel_rfl) (fun _ _ _ h => h) (fun oi ho => ?_) hSQ8 ?_
    · obtain rfl := Option.some.inj ho
      exact Or.inl ⟨by rfl, fun wx hSw => by go_simp⟩
    simp only [Act.put, List.setIfInBounds_toArray, List.set_cons_zero, List.set_cons_succ]
    refine ready_call (i := 8) (d := some 86) (f := 10) (args := #[]) rfl (by kernel_rfl) (fun oi ho => ?_) ?_
    · obtain rfl := Option.some.inj ho
      exact ⟨by rfl, by go_simp⟩
    refine HW8.out.mono ?_
    rintro e W9 ⟨rfl, hB9⟩
    have H9 := Lib.hid (H8.out.below hB9)
    clear hB9 HW8 hSQ8
    refine ⟨_, rfl, HSS.out W9 H9.out, ?_⟩
    simp only [Act.put, List.setIfInBounds_toArray, List.set_cons_zero, List.set_cons_succ]
    have hSQ9 := HSS.out W9 H9.out
    refine take_at (i := 9) (d := some 87) (v := .bool true) rfl (by kernel_rfl) (by kernel_rfl) (by kernel_rfl) (fun _ _ _ h => h) (fun oi ho => ?_) hSQ9 ?_
    · obtain rfl := Option.some.inj ho
      exact Or.inl ⟨by rfl, fun wx hSw => by go_simp⟩
    simp only [Act.put, List.setIfInBounds_toArray, List.set_cons_zero, List.set_cons_succ]
    refine take_at (i := 10) (d := some 6) (v := .bool true) rfl (by kernel_rfl) (by kernel_rfl) (by kernel_rfl) (fun _ _ _ h => h) (fun oi ho => ?_) hSQ9 ?_
    · obtain rfl := Option.some.inj ho
      exact Or.inl ⟨by rfl, fun wx hSw => by go_simp⟩
    simp only [Act.put, List.setIfInBounds_toArray, List.set_cons_zero, List.set_cons_succ]
    refine wpAnyH_done (by kernel_rfl) ?_ _
    refine NoPanic.normal ?_
    clear hSQ9 hSQ
    go_wp2
    go_ret
    exact ⟨rfl, H9.out.bel⟩
end Go.Proofs.YtbnlkjoblngakaaDoor
