/- The law's TrieOrder (stage 12) walked. (mktd.py writes it.) -/
import Derived.Test.YtgoaljnfegaldaaDoorTc
import Derived.Test.YtgoaljnfegaldaaDoorTm3
namespace Go.Proofs.YtgoaljnfegaldaaDoor
open Go.RowKit
attribute [local go_sem] store_one B_match B_store S_match S_store

section
variable {RA : World → (Nat → Prop) → Nat → Int → Ents Txt → Prop} {w W : World} {g : Nat} {max : Int} {l : List Txt}
theorem OneT.findT (C : TxtI w RA) (h : OneT RA w g max (dup l) W) {path : List Txt} {V : Value} {b o : Nat} (hV : TA W V path b o) (hp : PathOk path) {r : Option (Txt × Txt)} (hr : FindIs (dup l) path r) {p : Txt} {ok : Bool} {fs : List (Txt × Txt)}
    (hpp : fdP r = p) (hok : r.isSome = ok) (hfs : fdF r path = fs) :
    Calls Tryd.prog 12 #[.pointer (some ⟨g, 0, none⟩), V] W fun e W' => ∃ VF gf o', e = .returned (.tuple #[S p, VF, S p, .bool ok]) ∧ RowT RA w g max (dup l) VF fs gf o' W' ∧ Below W.heap.size W W' := by
  have hx : fdX [] r = p := (dup_same hr).trans hpp
  have h1 := OneT.find C h hV hp hr
  rw [hx, hpp, hok, hfs] at h1
  exact h1
end
set_option maxRecDepth 100000 in
set_option maxHeartbeats 2000000 in
theorem order12_any {w : World} {RA : World → (Nat → Prop) → Nat → Int → Ents Int → Prop} {RB : World → (Nat → Prop) → Nat → Int → Ents Txt → Prop} (C : IntI w RA) (R : RightI w) (D : TxtI w RB) (E : AllI 11 w RB)
    (l : List Txt) (V : Value) (b o : Nat) (hV : TA w V l b o) (turn : Int) (path : List Txt) (Vp : Value) (bp op : Nat) (hP : TA w Vp path bp op) :
    Calls Tryd.prog 3 #[V, .int .i64 turn, Vp] w fun e w' => e = .returned (.bool true) ∧ Below w.heap.size w w' := by
  have HC := Lib.hid C
  have HR := Lib.hid R
  have HD := Lib.hid D
  have HE := Lib.hid E
  have hlV := hV.len 3
  obtain ⟨N, hN⟩ : ∃ N, N = l.length := ⟨_, rfl⟩
  rw [← hN] at hlV
  have HV := Lib.hid (And.intro hV hN)
  have HP := Lib.hid hP
  have hg := great12_any path Vp bp op w hP
  obtain ⟨O, hO⟩ : ∃ O, O = greatF path := ⟨_, rfl⟩
  rw [← hO] at hg
  have HG := Lib.hid hg
  have HO := Lib.hid hO
  clear C R D E hV hP hN hO hg
  go_enter Tryd.func3, Tryd.ntmps3
  by_cases h30 : 30 < N
  · have g1 : decide ((30 : Int) < (N : Int)) = true := decide_eq_true (by omega)
    have HWK := Lib.hid (wakes12_any (HC.out.up (Below.refl w.heap.size w)) (HR.out.up (Below.refl w.heap.size w)))
    go_wp2_with fail
    refine HWK.out.mono ?_
    rintro e W1 ⟨rfl, hB⟩
    have HEE := Lib.hid (Below.trans (Below.refl w.heap.size w) (hB.mono (Below.size (Below.refl w.heap.size w))))
    clear hB HWK
    go_wp2
    go_ret
    exact ⟨rfl, HEE.out⟩
  have g1 : decide ((30 : Int) < (N : Int)) = false := decide_eq_false (by omega)
  go_wp2_with fail
  refine HG.out.mono ?_
  rintro e W0 ⟨rfl, hWW⟩
  subst hWW
  cases O with
  | true =>
    have HWK := Lib.hid (wakes12_any (HC.out.up (Below.refl W0.heap.size W0)) (HR.out.up (Below.refl W0.heap.size W0)))
    go_wp2_with fail
    refine HWK.out.mono ?_
    rintro e W1 ⟨rfl, hB⟩
    have HEE := Lib.hid (Below.trans (Below.refl W0.heap.size W0) (hB.mono (Below.size (Below.refl W0.heap.size W0))))
    clear hB HWK
    go_wp2
    go_ret
    exact ⟨rfl, HEE.out⟩
  | false =>
    have HPK := Lib.hid (great_ok HO.out.symm)
    have HM := Lib.hid (OneT.make HD.out 40 (by decide) (Below.refl _ W0))
    clear HG HO
    go_wp2_with fail
    refine HM.out.mono ?_
    rintro e W1 ⟨ga, rfl, hT⟩
    have HT1 := Lib.hid hT
    clear hT HM
    go_wp2_with fail
    go_loopw [8] (fun iv wr => ∃ i : Nat, i ≤ N ∧ iv = .int .i64 (i : Int) ∧ Hid (OneT RB W0 ga ((40 : Nat) : Int) (addsN ((40 : Nat) : Int) (fun _ p => p) l i) wr ∧ ∀ s ∈ l.take i, s.length ≤ 200)) (fun iv _ => N - (intOf iv).toNat)
    case atStart => exact ⟨0, Nat.zero_le _, rfl, Lib.hid ⟨HT1.out, by simp⟩⟩
    case round =>
      obtain ⟨i, hi, rfl, HI⟩ := hrel
      by_cases hlt : i < N
      · have g3 : decide ((i : Int) < (N : Int)) = true := decide_eq_true (by omega)
        obtain ⟨x, hx⟩ : ∃ x, l[i]? = some x := ⟨l[i]'(by have := HV.out.2; omega), List.getElem?_eq_getElem _⟩
        have hix := HV.out.1.index i (by have := HV.out.2; omega)
        have k0 := (HV.out.1.below HI.out.1.bel).cell i x hx
        obtain ⟨kk, hkk⟩ : ∃ k, k = o + i := ⟨_, rfl⟩
        have HKC : Hid (∀ W', Below wr.heap.size wr W' → W'.cell? ⟨b, kk, none⟩ = some (S x)) := Lib.hid fun W' hB => by
          rw [hkk]; exact (HV.out.1.below (HI.out.1.bel.trans (hB.mono HI.out.1.bel.size))).cell i x hx
        have HKA : Hid (∀ W', Below W0.heap.size W0 W' → W'.cell? ⟨b, kk, none⟩ = some (S x)) := Lib.hid fun W' hB => by
          rw [hkk]; exact (HV.out.1.below hB).cell i x hx
        rw [← hkk] at hix k0
        have hl1 := run_len_S (P := Tryd.prog) Tryd.underlying9 3 x
        obtain ⟨lx, hlx⟩ : ∃ a, a = x.length := ⟨_, rfl⟩
        rw [← hlx] at hl1
        have hw1 : IntKind.i64.wrap ((i : Int) + 1) = (i : Int) + 1 := by rw [IntKind.wrap_i64]; omega
        have HX := Lib.hid (And.intro hx hlx)
        clear hx hlx hkk
        by_cases hx2 : 200 < lx
        · have g4 : decide ((200 : Int) < (lx : Int)) = true := decide_eq_true (by omega)
          have HWK := Lib.hid (wakes12_any (HC.out.up HI.out.1.bel) (HR.out.up HI.out.1.bel))
          go_wp2_with fail
          refine HWK.out.mono ?_
          rintro e W2 ⟨rfl, hB⟩
          have HEE := Lib.hid (Below.trans HI.out.1.bel (hB.mono (Below.size HI.out.1.bel)))
          clear hB HWK
          go_wp2
          go_ret
          exact ⟨rfl, HEE.out⟩
        · have g4 : decide ((200 : Int) < (lx : Int)) = false := decide_eq_false (by omega)
          have HXL : Hid (x.length ≤ 200) := Lib.hid (by have := HX.out.2; omega)
          go_wp2
          refine wp_region_noPanic ?_
          refine wp_region_held_drew (S := fun wx => wx.cell? ⟨b, kk, none⟩ = some (S x)) (by kernel_rfl) (HKC.out wr.drew (Below.refl _ _).drew) (fun k9 => ?_)
          obtain ⟨Wq, hWq⟩ : ∃ Wq, Wq = wr.drew := ⟨_, rfl⟩
          have hTq : OneT RB W0 ga ((40 : Nat) : Int) (addsN ((40 : Nat) : Int) (fun _ p => p) l i) Wq := by rw [hWq]; exact HI.out.1.below HD.out (Below.refl _ wr).drew
          rw [← hWq] at k9 ⊢
          have HA := Lib.hid (OneT.add HD.out hTq x x HXL.out)
          clear hWq hTq k0
          refine take_at (i := 0) (d := some 50) (v := .pointer (some ⟨ga, 0, none⟩)) rfl (by kernel_rfl) (by kernel_rfl) (by kernel_rfl) (fun _ _ _ h => h) (fun oi ho => ?_) k9 ?_
          · obtain rfl := Option.some.inj ho
            exact Or.inl ⟨by rfl, fun wx hSw => by go_simp⟩
          simp only [Act.put, List.setIfInBounds_toArray, List.set_cons_zero, List.set_cons_succ]
          refine take_at (i := 1) (d := some 51) (v := V) rfl (by kernel_rfl) (by kernel_rfl) (by kernel_rfl) (fun _ _ _ h => h) (fun oi ho => ?_) k9 ?_
          · obtain rfl := Option.some.inj ho
            exact Or.inl ⟨by rfl, fun wx hSw => by go_simp⟩
          simp only [Act.put, List.setIfInBounds_toArray, List.set_cons_zero, List.set_cons_succ]
          refine take_at (i := 2) (d := some 52) (v := .int .i64 (i : Int)) rfl (by kernel_rfl) (by kernel_rfl) (by kernel_rfl) (fun _ _ _ h => h) (fun oi ho => ?_) k9 ?_
          · obtain rfl := Option.some.inj ho
            exact Or.inl ⟨by rfl, fun wx hSw => by go_simp⟩
          simp only [Act.put, List.setIfInBounds_toArray, List.set_cons_zero, List.set_cons_succ]
          refine take_at (i := 3) (d := some 53) (v := .pointer (some ⟨b, kk, none⟩)) rfl (by kernel_rfl) (by kernel_rfl) (by kernel_rfl) (fun _ _ _ h => h) (fun oi ho => ?_) k9 ?_
          · obtain rfl := Option.some.inj ho
            exact Or.inl ⟨by rfl, fun wx hSw => by go_simp⟩
          simp only [Act.put, List.setIfInBounds_toArray, List.set_cons_zero, List.set_cons_succ]
          refine take_at (i := 4) (d := some 54) (v := S x) rfl (by kernel_rfl) (by kernel_rfl) (by kernel_rfl) (fun _ _ _ h => h) (fun oi ho => ?_) k9 ?_
          · obtain rfl := Option.some.inj ho
            exact Or.inl ⟨by rfl, fun wx hSw => by go_simp⟩
          simp only [Act.put, List.setIfInBounds_toArray, List.set_cons_zero, List.set_cons_succ]
          refine take_at (i := 5) (d := some 55) (v := V) rfl (by kernel_rfl) (by kernel_rfl) (by kernel_rfl) (fun _ _ _ h => h) (fun oi ho => ?_) k9 ?_
          · obtain rfl := Option.some.inj ho
            exact Or.inl ⟨by rfl, fun wx hSw => by go_simp⟩
          simp only [Act.put, List.setIfInBounds_toArray, List.set_cons_zero, List.set_cons_succ]
          refine take_at (i := 6) (d := some 56) (v := .int .i64 (i : Int)) rfl (by kernel_rfl) (by kernel_rfl) (by kernel_rfl) (fun _ _ _ h => h) (fun oi ho => ?_) k9 ?_
          · obtain rfl := Option.some.inj ho
            exact Or.inl ⟨by rfl, fun wx hSw => by go_simp⟩
          simp only [Act.put, List.setIfInBounds_toArray, List.set_cons_zero, List.set_cons_succ]
          refine take_at (i := 7) (d := some 57) (v := .pointer (some ⟨b, kk, none⟩)) rfl (by kernel_rfl) (by kernel_rfl) (by kernel_rfl) (fun _ _ _ h => h) (fun oi ho => ?_) k9 ?_
          · obtain rfl := Option.some.inj ho
            exact Or.inl ⟨by rfl, fun wx hSw => by go_simp⟩
          simp only [Act.put, List.setIfInBounds_toArray, List.set_cons_zero, List.set_cons_succ]
          refine take_at (i := 8) (d := some 58) (v := S x) rfl (by kernel_rfl) (by kernel_rfl) (by kernel_rfl) (fun _ _ _ h => h) (fun oi ho => ?_) k9 ?_
          · obtain rfl := Option.some.inj ho
            exact Or.inl ⟨by rfl, fun wx hSw => by go_simp⟩
          simp only [Act.put, List.setIfInBounds_toArray, List.set_cons_zero, List.set_cons_succ]
          refine ready_call (i := 9) (d := some 59) (f := 10) (args := #[.pointer (some ⟨ga, 0, none⟩), S x, S x]) rfl (by kernel_rfl) (fun oi ho => ?_) ?_
          · obtain rfl := Option.some.inj ho
            exact ⟨by rfl, by go_simp⟩
          refine HA.out.mono ?_
          rintro e W2 ⟨rfl, hT⟩
          have hS2 := HKA.out W2 hT.bel
          have HT9 := Lib.hid hT
          clear hT HA
          refine ⟨_, rfl, hS2, ?_⟩
          simp only [Act.put, List.setIfInBounds_toArray, List.set_cons_zero, List.set_cons_succ]
          refine wpAnyH_done (by kernel_rfl) ?_ _
          refine NoPanic.normal ?_
          have HX3 : Hid (OneT RB W0 ga ((40 : Nat) : Int) (addsN ((40 : Nat) : Int) (fun _ p => p) l (i + 1)) W2 ∧ ∀ s ∈ l.take (i + 1), s.length ≤ 200) := Lib.hid ⟨by rw [adds_next HX.out.1]; exact HT9.out, by
            intro s hs
            rw [List.take_add_one, HX.out.1] at hs
            rcases List.mem_append.1 hs with hs | hs
            · exact HI.out.2 s hs
            · have : s = x := by simpa using hs
              rw [this]; exact HXL.out⟩
          clear k9 hS2 HT9
          go_wp2
          exact ⟨⟨i + 1, by omega, by go_num, HX3⟩, by simp [intOf]; omega⟩
      · obtain rfl : i = N := by omega
        have g3 : decide ((i : Int) < (i : Int)) = false := decide_eq_false (by omega)
        obtain ⟨T, hT⟩ : ∃ T, T = addsN ((40 : Nat) : Int) (fun _ p => p) l i := ⟨_, rfl⟩
        obtain ⟨ps, hps⟩ : ∃ ps, ps = T.map (·.1) := ⟨_, rfl⟩
        have hTd : T = dup ps := by
          rw [hps]
          refine dup_of fun e he => ?_
          rw [hT] at he
          obtain ⟨_, _, _, h⟩ := adds_mem _ _ _ _ e he
          exact h
        have HT : Hid (OneT RB W0 ga ((40 : Nat) : Int) (dup ps) wr ∧ Wf (dup ps) ∧ (∀ s ∈ ps, s.length ≤ 200) ∧ ps.length ≤ 30) := Lib.hid (by
          rw [← hTd, hT]
          refine ⟨HI.out.1, adds_wf _ _ _ _, fun s hs => ?_, ?_⟩
          · rw [hps] at hs
            obtain ⟨e, he, rfl⟩ := List.mem_map.1 hs
            rw [hT] at he
            exact adds_small HI.out.2 e he
          · rw [hps, List.length_map, hT]
            have := adds_len ((40 : Nat) : Int) (fun _ p => p) l i
            omega)
        clear hT hps hTd HI HT1
        have ha := OneT.all HD.out HE.out HT.out.1
        rw [dup_fst] at ha
        have HA := Lib.hid ha
        clear ha
        go_wp2_with fail
        refine HA.out.mono ?_
        rintro e Wa ⟨Vl, bl, ol, rfl, hl, hT⟩
        have HTA := Lib.hid (And.intro hT hl)
        clear hT HA
        have hlL := hl.len 3
        obtain ⟨n, hn⟩ : ∃ n, n = ps.length := ⟨_, rfl⟩
        rw [← hn] at hlL
        have HN : Hid (n = ps.length ∧ n ≤ 30) := Lib.hid ⟨hn, by rw [hn]; exact HT.out.2.2.2⟩
        clear hl hn
        obtain ⟨z, hz⟩ : ∃ z, turn.tmod (n : Int) = z := ⟨_, rfl⟩
        obtain ⟨k, hk⟩ : ∃ k, k = (if z < 0 then z + n else z).toNat := ⟨_, rfl⟩
        have HZ : Hid (0 < n → -(n : Int) < z ∧ z < n ∧ k < n ∧ (z < 0 → z + n = k) ∧ (¬ z < 0 → z = k)) := Lib.hid fun h => by
          obtain ⟨h1, h2⟩ := tmod_range turn h
          rw [hz] at h1 h2
          by_cases h0 : z < 0
          · rw [if_pos h0] at hk
            exact ⟨h1, h2, by omega, fun _ => by omega, fun e => absurd h0 e⟩
          · rw [if_neg h0] at hk
            exact ⟨h1, h2, by omega, fun e => absurd e h0, fun _ => by omega⟩
        clear hk
        have HMB := Lib.hid (OneT.make (HD.out.up HTA.out.1.bel) 40 (by decide) (Below.refl _ Wa))
        go_wp2_with fail
        refine HMB.out.mono ?_
        rintro e W3 ⟨gb, rfl, hT⟩
        have HB1 := Lib.hid hT
        clear hT HMB
        have HMC := Lib.hid (OneT.two (HD.out.up HTA.out.1.bel) HB1.out 40 (by decide))
        go_wp2_with fail
        refine HMC.out.mono ?_
        rintro e W4 ⟨gc, rfl, hT⟩
        have HB2 := Lib.hid hT
        clear hT HMC HB1
        go_wp2_with fail
        go_loopw [12] (fun iv wq => ∃ i : Nat, i ≤ n ∧ iv = .int .i64 (i : Int) ∧ Hid (TwoT RB Wa gb ((40 : Nat) : Int) (dup ((rotF k ps).take i)) gc ((40 : Nat) : Int) (dup (ps.reverse.take i)) wq)) (fun iv _ => n - (intOf iv).toNat)
        case atStart => exact ⟨0, Nat.zero_le _, rfl, Lib.hid HB2.out⟩
        case round =>
          obtain ⟨i, hi, rfl, HI⟩ := hrel
          by_cases hlt : i < n
          · have g5 : decide ((i : Int) < (n : Int)) = true := decide_eq_true (by omega)
            have h30 : n ≤ 30 := HN.out.2
            obtain ⟨z1, z2, z3, z4, z5⟩ := HZ.out (by omega)
            have hP0 : ¬ n = 0 := by omega
            have hP1 : (n : Int) ≠ 0 := by omega
            have hP2 : ((n : Int) == 0) = false := by rw [beq_eq_false_iff_ne]; omega
            have hwr : IntKind.i64.wrap z = z := by rw [IntKind.wrap_i64]; omega
            obtain ⟨m, hm⟩ : ∃ m, m = i + k := ⟨_, rfl⟩
            obtain ⟨j, hj⟩ : ∃ j, j = m % n := ⟨_, rfl⟩
            have hjn : j < n := by rw [hj]; exact Nat.mod_lt _ (by omega)
            have hm2 : (m : Int).tmod (n : Int) = (j : Int) := by rw [Int.tmod_eq_emod_of_nonneg (by omega), hj]; omega
            have hwj : IntKind.i64.wrap (j : Int) = (j : Int) := by rw [IntKind.wrap_i64]; omega
            obtain ⟨x1, hx1⟩ : ∃ x, ps[j]? = some x := ⟨ps[j]'(by have := HN.out.1; omega), List.getElem?_eq_getElem _⟩
            obtain ⟨n1, hn1⟩ : ∃ a, a = n - 1 := ⟨_, rfl⟩
            obtain ⟨j2, hj2⟩ : ∃ a, a = n - 1 - i := ⟨_, rfl⟩
            have hwn : IntKind.i64.wrap ((n : Int) - 1) = (n1 : Int) := by rw [IntKind.wrap_i64]; omega
            have hwk : IntKind.i64.wrap ((n1 : Int) - (i : Int)) = (j2 : Int) := by rw [IntKind.wrap_i64]; omega
            obtain ⟨x2, hx2⟩ : ∃ x, ps[j2]? = some x := ⟨ps[j2]'(by have := HN.out.1; omega), List.getElem?_eq_getElem _⟩
            have hi1 := HTA.out.2.index j (by have := HN.out.1; omega)
            have hi2 := HTA.out.2.index j2 (by have := HN.out.1; omega)
            have c1 := (HTA.out.2.below HI.out.bel).cell j x1 hx1
            have c2 := (HTA.out.2.below HI.out.bel).cell j2 x2 hx2
            obtain ⟨k1, hk1⟩ : ∃ a, a = ol + j := ⟨_, rfl⟩
            obtain ⟨k2, hk2⟩ : ∃ a, a = ol + j2 := ⟨_, rfl⟩
            rw [← hk1] at hi1 c1
            rw [← hk2] at hi2 c2
            have hw1 : IntKind.i64.wrap ((i : Int) + 1) = (i : Int) + 1 := by rw [IntKind.wrap_i64]; omega
            have HS1 : Hid ((rotF k ps)[i]? = some x1 ∧ ps.reverse[i]? = some x2) := Lib.hid ⟨by
              rw [rot_get (by have := HN.out.1; omega) (by have := HN.out.1; omega), ← hm, ← HN.out.1, ← hj]; exact hx1, by
              rw [List.getElem?_reverse (by have := HN.out.1; omega), ← HN.out.1, show n - 1 - i = j2 by omega]; exact hx2⟩
            have HL1 : Hid (x1.length ≤ 200 ∧ x2.length ≤ 200) := Lib.hid ⟨HT.out.2.2.1 _ (List.mem_of_getElem? hx1), HT.out.2.2.1 _ (List.mem_of_getElem? hx2)⟩
            have ha := TwoT.add (HD.out.up HTA.out.1.bel) HI.out x1 x1 HL1.out.1
            rw [dup_step (q := rotF k ps) (wf_perm (dup_perm (rot_perm k ps)) HT.out.2.1) (by rw [rot_len]; exact HT.out.2.2.2) HS1.out.1] at ha
            have HA := Lib.hid ha
            have HWM : Hid (n = ps.length) := Lib.hid HN.out.1
            by_cases h0 : z < 0
            · have d1 : decide (z < 0) = true := decide_eq_true h0
              have w2 : IntKind.i64.wrap (z + (n : Int)) = (k : Int) := by rw [z4 (by omega), IntKind.wrap_i64]; omega
              have w3 : IntKind.i64.wrap ((i : Int) + (k : Int)) = (m : Int) := by rw [IntKind.wrap_i64]; omega
              clear z1 z2 z4 z5 h0 hx1 hx2 hj hm hj2 hn1 hk1 hk2 ha
              go_wp2_with fail
              refine HA.out.mono ?_
              rintro e W5 ⟨rfl, hT⟩
              have h2 := TwoT.add (HD.out.up HTA.out.1.bel) hT.swap x2 x2 HL1.out.2
              rw [dup_step (q := ps.reverse) (wf_perm (dup_perm ps.reverse_perm.symm) HT.out.2.1) (by rw [List.length_reverse]; exact HT.out.2.2.2) HS1.out.2] at h2
              have HA2 := Lib.hid h2
              clear hT h2 HA
              go_wp2_with fail
              refine HA2.out.mono ?_
              rintro e W6 ⟨rfl, hT⟩
              have HT6 := Lib.hid hT.swap
              clear hT HA2
              go_wp2
              exact ⟨⟨i + 1, by omega, by go_num, HT6⟩, by simp [intOf]; omega⟩
            · have d1 : decide (z < 0) = false := decide_eq_false h0
              have w3 : IntKind.i64.wrap ((i : Int) + z) = (m : Int) := by rw [z5 (by omega), IntKind.wrap_i64]; omega
              clear z1 z2 z4 z5 h0 hx1 hx2 hj hm hj2 hn1 hk1 hk2 ha
              go_wp2_with fail
              refine HA.out.mono ?_
              rintro e W5 ⟨rfl, hT⟩
              have h2 := TwoT.add (HD.out.up HTA.out.1.bel) hT.swap x2 x2 HL1.out.2
              rw [dup_step (q := ps.reverse) (wf_perm (dup_perm ps.reverse_perm.symm) HT.out.2.1) (by rw [List.length_reverse]; exact HT.out.2.2.2) HS1.out.2] at h2
              have HA2 := Lib.hid h2
              clear hT h2 HA
              go_wp2_with fail
              refine HA2.out.mono ?_
              rintro e W6 ⟨rfl, hT⟩
              have HT6 := Lib.hid hT.swap
              clear hT HA2
              go_wp2
              exact ⟨⟨i + 1, by omega, by go_num, HT6⟩, by simp [intOf]; omega⟩
          · obtain rfl : i = n := by omega
            have g5 : decide ((i : Int) < (i : Int)) = false := decide_eq_false (by omega)
            have hq := HI.out
            rw [List.take_of_length_le (by rw [rot_len, ← HN.out.1]; exact Nat.le_refl _), List.take_of_length_le (by rw [List.length_reverse, ← HN.out.1]; exact Nat.le_refl _)] at hq
            have HQ := Lib.hid hq
            clear hq
            obtain ⟨r, hr⟩ := find_is path HT.out.2.1
            obtain ⟨p, hp⟩ : ∃ p, p = fdP r := ⟨_, rfl⟩
            obtain ⟨ok, hok⟩ : ∃ ok, ok = r.isSome := ⟨_, rfl⟩
            obtain ⟨fs, hfs⟩ : ∃ fs, fs = fdF r path := ⟨_, rfl⟩
            have HRR := Lib.hid (And.intro hr (And.intro hp.symm (And.intro hok.symm hfs.symm)))
            have HFL : Hid (fs.length ≤ 1000000) := Lib.hid (by rw [hfs]; have h1 := fdF_len r path; have h2 := HPK.out.1; omega)
            clear hr hp hok hfs HI HB2
            have HBW := Lib.hid (HTA.out.1.bel.trans (HQ.out.bel.mono HTA.out.1.bel.size))
            have HFA := Lib.hid (OneT.findT HD.out (HTA.out.1.below HD.out HQ.out.bel) (HP.out.below HBW.out) HPK.out HRR.out.1 HRR.out.2.1 HRR.out.2.2.1 HRR.out.2.2.2)
            have q2 : binOp .eql 9 (S p) (S p) = pure (.bool true) := by rw [eql_S]; simp
            have n2 : ∀ a b, eqGuard .eql 9 a b (S p) (S p) = pure () := fun a b => guard_S 9 a b p p
            go_wp2_with fail
            refine HFA.out.mono ?_
            rintro e W7 ⟨VF, gf, of, rfl, hT, hB⟩
            have HQ7 := Lib.hid (HQ.out.below (HD.out.up HTA.out.1.bel) hB)
            have HF7 := Lib.hid hT.row
            have HB7 := Lib.hid (HBW.out.trans (hB.mono HBW.out.size))
            clear hT hB HFA HQ HBW
            have HFB := Lib.hid (OneT.findT (HD.out.up HTA.out.1.bel) HQ7.out.one (HP.out.below HB7.out) HPK.out (find_dup (rot_perm k ps) HRR.out.1) HRR.out.2.1 HRR.out.2.2.1 HRR.out.2.2.2)
            go_wp2_with fail
            refine HFB.out.mono ?_
            rintro e W8 ⟨VG, gg, og, rfl, hT, hB⟩
            have HQ8 := Lib.hid (HQ7.out.below (HD.out.up HTA.out.1.bel) hB)
            have HF8 := Lib.hid (And.intro (HF7.out.below hB) hT.row)
            have HB8 := Lib.hid (HB7.out.trans (hB.mono HB7.out.size))
            clear hT hB HFB HQ7 HF7 HB7
            have HFC := Lib.hid (OneT.findT (HD.out.up HTA.out.1.bel) HQ8.out.swap.one (HP.out.below HB8.out) HPK.out (find_dup ps.reverse_perm.symm HRR.out.1) HRR.out.2.1 HRR.out.2.2.1 HRR.out.2.2.2)
            go_wp2_with fail
            refine HFC.out.mono ?_
            rintro e W9 ⟨VH, gh, oh, rfl, hT, hB⟩
            have HF9 := Lib.hid (And.intro (HF8.out.1.below hB) (And.intro (HF8.out.2.below hB) hT.row))
            have HB9 := Lib.hid (HB8.out.trans (hB.mono HB8.out.size))
            clear hT hB HFC HQ8 HF8 HB8
            have HSA := Lib.hid (sameF12_true fs VF VG gf of gg og HFL.out W9 HF9.out.1 HF9.out.2.1)
            cases ok with
            | false =>
              go_wp2_with fail
              refine HSA.out.mono ?_
              rintro e W10 ⟨rfl, hB⟩
              have HB10 := Lib.hid (HB9.out.trans (hB.mono HB9.out.size))
              have HSB := Lib.hid (sameF12_true fs VF VH gf of gh oh HFL.out W10 (HF9.out.1.below hB) (HF9.out.2.2.below hB))
              clear hB HSA HF9
              go_wp2_with fail
              refine HSB.out.mono ?_
              rintro e W11 ⟨rfl, hB⟩
              have HB11 := Lib.hid (HB10.out.trans (hB.mono HB10.out.size))
              clear hB HSB HB10 HB9
              have HWK := Lib.hid (wakes12_any (HC.out.up HB11.out) (HR.out.up HB11.out))
              go_wp2_with fail
              refine HWK.out.mono ?_
              rintro e W12 ⟨rfl, hB⟩
              have HEE := Lib.hid (Below.trans HB11.out (hB.mono (Below.size HB11.out)))
              clear hB HWK
              go_wp2
              go_ret
              exact ⟨rfl, HEE.out⟩
            | true =>
              go_wp2_with fail
              refine HSA.out.mono ?_
              rintro e W10 ⟨rfl, hB⟩
              have HB10 := Lib.hid (HB9.out.trans (hB.mono HB9.out.size))
              have HSB := Lib.hid (sameF12_true fs VF VH gf of gh oh HFL.out W10 (HF9.out.1.below hB) (HF9.out.2.2.below hB))
              clear hB HSA HF9
              go_wp2_with fail
              refine HSB.out.mono ?_
              rintro e W11 ⟨rfl, hB⟩
              have HB11 := Lib.hid (HB10.out.trans (hB.mono HB10.out.size))
              clear hB HSB HB10 HB9
              have HWK := Lib.hid (wakes12_any (HC.out.up HB11.out) (HR.out.up HB11.out))
              go_wp2_with fail
              refine HWK.out.mono ?_
              rintro e W12 ⟨rfl, hB⟩
              have HEE := Lib.hid (Below.trans HB11.out (hB.mono (Below.size HB11.out)))
              clear hB HWK
              go_wp2
              go_ret
              exact ⟨rfl, HEE.out⟩
end Go.Proofs.YtgoaljnfegaldaaDoor
