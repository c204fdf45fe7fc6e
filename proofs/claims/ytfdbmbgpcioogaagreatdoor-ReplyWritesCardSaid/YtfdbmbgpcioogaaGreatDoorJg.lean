/- Texts of this proof that several statements share, one behind the other. -/
import Derived.Test.YtfdbmbgpcioogaaGreatDoorJf
import Derived.Test.YtfdbmbgpcioogaaGreatDoorJc
/- The landed field.Get, sizeOf, closes and others walked. (mkpx5.py writes it.) -/
namespace Go.Proofs.YtfdbmbgpcioogaaGreatDoor
open Go.RowKit Go.Shelf
attribute [local go_sem] store_one S_match S_store eguard_BN nguard_BN

theorem many_snoc (t : List UInt8) (f : List UInt8 × List UInt8) : ∀ l, manyF t (l ++ [f]) = manyF t l + (alikeF f.1 t).toNat
  | [] => by simp [manyF]
  | g :: l => by rw [List.cons_append, many_cons, many_cons, many_snoc t f l, Nat.add_assoc]
theorem first_snoc (t : List UInt8) (f : List UInt8 × List UInt8) : ∀ l, firstF t (l ++ [f]) = if alikeF f.1 t = true then (if manyF t l = 0 then f.2 else firstF t l) else firstF t l
  | [] => by simp [firstF, manyF]
  | g :: l => by
    rw [List.cons_append, firstF, firstF, many_cons, first_snoc t f l]
    cases hg : alikeF g.1 t
    · simp
    · simp
theorem many_le (t : List UInt8) : ∀ l, manyF t l ≤ l.length
  | [] => Nat.le_refl _
  | g :: l => by
    have := many_le t l
    have h2 : (alikeF g.1 t).toNat ≤ 1 := Bool.toNat_le _
    rw [many_cons, List.length_cons]; omega
set_option maxRecDepth 100000 in
set_option maxHeartbeats 1000000 in
theorem get_any (V : Value) (fs : List (List UInt8 × List UInt8)) (b : Nat) (t : List UInt8) (ht : t.length ≤ 100000) (hfew : fs.length ≤ 1000000) (hlong : ∀ f ∈ fs, f.1.length ≤ 100000) (w : World) (hV : FldsAt w V fs b) :
    Calls Tryz.prog 46 #[V, S t] w fun e w' => e = .returned (.tuple #[S (firstF t fs), .int .i64 (manyF t fs : Int)]) ∧ Below w.heap.size w w' := by
  have hlen := hV.len 3
  obtain ⟨n, hn⟩ : ∃ n, n = fs.length := ⟨_, rfl⟩
  rw [← hn] at hlen hfew
  have HV := Lib.hid (And.intro hV (And.intro ht (And.intro hlong hn)))
  clear hV ht hlong hn
  go_enter Tryz.func46, Tryz.ntmps46
  go_wp2
  go_loopw [4, 5, 10] (fun vv cv iv wr => ∃ k : Nat, k ≤ n ∧ vv = S (firstF t (fs.take k)) ∧ cv = .int .i64 (manyF t (fs.take k) : Int) ∧ iv = .int .i64 (k : Int) ∧ Below w.heap.size w wr) (fun _ _ iv _ => n - (intOf iv).toNat)
  case atStart => exact ⟨0, Nat.zero_le _, rfl, rfl, rfl, Below.refl _ _⟩
  case round =>
    obtain ⟨k, hk, rfl, rfl, rfl, hB⟩ := hrel
    by_cases hlt : k < n
    · have hVr := HV.out.1.below hB
      have hkl : k < fs.length := by rw [← HV.out.2.2.2]; exact hlt
      obtain ⟨⟨nk, vk⟩, hf⟩ : ∃ f, fs[k]? = some f := ⟨fs[k], List.getElem?_eq_getElem hkl⟩
      have hix := hVr.index k hkl
      obtain ⟨c0, c1⟩ := hVr.cell k _ hf
      dsimp only at c0 c1
      have HA := Lib.hid fun W => alike16_any nk t (HV.out.2.2.1 _ (List.mem_of_getElem? hf)) HV.out.2.1 W
      have hfl := many_le t (fs.take k)
      rw [List.length_take] at hfl
      have HB := Lib.hid hB
      have HG : Hid (firstF t (fs.take (k + 1)) = (if alikeF nk t = true then (if manyF t (fs.take k) = 0 then vk else firstF t (fs.take k)) else firstF t (fs.take k)) ∧ manyF t (fs.take (k + 1)) = manyF t (fs.take k) + (alikeF nk t).toNat) := Lib.hid (by
        rw [List.take_add_one, hf]
        exact ⟨first_snoc t (nk, vk) _, many_snoc t (nk, vk) _⟩)
      clear hVr hB hf
      generalize k * 2 = q at *
      obtain ⟨W2, hW2⟩ : ∃ W2, W2 = wr.alloc (.cells #[S nk, S vk] 35) := ⟨_, rfl⟩
      obtain ⟨g, hg⟩ : ∃ g, g = wr.heap.size := ⟨_, rfl⟩
      have hr2 : Row W2 g #[S nk, S vk] 35 := by rw [hW2, hg]; exact row_new wr _ _
      have hB2 : Below w.heap.size w W2 := by rw [hW2]; exact HB.out.alloc HB.out.size _
      have H2 := Lib.hid (And.intro hr2 hB2)
      clear hr2 hB2
      obtain ⟨fv, hfv⟩ : ∃ fv, fv = firstF t (fs.take k) := ⟨_, rfl⟩
      obtain ⟨fc, hfc⟩ : ∃ fc, fc = manyF t (fs.take k) := ⟨_, rfl⟩
      rw [← hfc] at hfl HG ⊢
      rw [← hfv] at HG ⊢
      clear hfv hfc
      have hw1 : IntKind.i64.wrap ((fc : Int) + 1) = (fc : Int) + 1 := by rw [IntKind.wrap_i64]; omega
      have hw2 : IntKind.i64.wrap ((k : Int) + 1) = (k : Int) + 1 := by rw [IntKind.wrap_i64]; omega
      clear hfl hkl
      go_wp2_with fail
      rw [← hg, ← hW2]
      clear hg hW2 c0 c1 hix
      refine (HA.out W2).mono ?_
      rintro e W3 ⟨rfl, hD⟩
      have hr3 := H2.out.1.below hD.below H2.out.1.lt
      have c3 := cell_of_row W3 _ 1 _ 35 (0, 0) hr3
      have H3 : Hid (Below w.heap.size w W3) := Lib.hid (H2.out.2.trans (hD.below.mono H2.out.2.size))
      clear hD hr3 H2
      cases hb : alikeF nk t with
      | true =>
        have HG2 : Hid (firstF t (fs.take (k + 1)) = (if fc = 0 then vk else fv) ∧ manyF t (fs.take (k + 1)) = fc + 1) := Lib.hid (by have := HG.out; rw [hb, if_pos rfl] at this; exact this)
        clear hb
        by_cases h0 : fc = 0
        · have hz : ((fc : Int) == 0) = true := by rw [beq_iff_eq]; omega
          have hz' : (fc == 0) = true := by rw [beq_iff_eq]; exact h0
          have HG3 : Hid (firstF t (fs.take (k + 1)) = vk ∧ manyF t (fs.take (k + 1)) = fc + 1) := Lib.hid (by have := HG2.out; rw [if_pos h0] at this; exact this)
          clear h0
          go_wp2
          exact ⟨⟨k + 1, by omega, by rw [HG3.out.1], by rw [HG3.out.2]; go_num, by go_num, H3.out⟩, by simp [intOf]; omega⟩
        · have hz : ((fc : Int) == 0) = false := by rw [beq_eq_false_iff_ne]; omega
          have hz' : (fc == 0) = false := by rw [beq_eq_false_iff_ne]; exact h0
          have hz2 : decide (fc = 0) = false := decide_eq_false h0
          have HG3 : Hid (firstF t (fs.take (k + 1)) = fv ∧ manyF t (fs.take (k + 1)) = fc + 1) := Lib.hid (by have := HG2.out; rw [if_neg h0] at this; exact this)
          clear h0
          go_wp2
          exact ⟨⟨k + 1, by omega, by rw [HG3.out.1], by rw [HG3.out.2]; go_num, by go_num, H3.out⟩, by simp [intOf]; omega⟩
      | false =>
        have HG2 : Hid (firstF t (fs.take (k + 1)) = fv ∧ manyF t (fs.take (k + 1)) = fc) := Lib.hid (by have := HG.out; rw [hb, if_neg Bool.false_ne_true] at this; exact this)
        clear hb
        go_wp2
        exact ⟨⟨k + 1, by omega, by rw [HG2.out.1], by rw [HG2.out.2], by go_num, H3.out⟩, by simp [intOf]; omega⟩
    · obtain rfl : k = n := by omega
      have HB : Hid (Below w.heap.size w wr ∧ fs.take k = fs) := Lib.hid ⟨hB, by rw [HV.out.2.2.2, List.take_length]⟩
      clear hB
      go_wp2
      go_ret2
      exact ⟨by rw [HB.out.2]; rfl, HB.out.1⟩
theorem trim10_any (s : List UInt8) (hs : s.length ≤ 100000) (w : World) : Calls Tryz.prog 47 #[S s, .string ⟨#[48, 49, 50, 51, 52, 53, 54, 55, 56, 57]⟩] w fun e w' => e = .returned (S (Lib.trimS s digL)) ∧ Below w.heap.size w w' :=
  Any.strings_Trim_laid Tryz.lays160 (by kernel_rfl) ⟨s.toArray⟩ ⟨#[48, 49, 50, 51, 52, 53, 54, 55, 56, 57]⟩ w (by show s.length ≤ _; omega) (by decide) (Go.Proofs.ascii_of_all (by decide))
set_option maxRecDepth 100000 in
set_option maxHeartbeats 1000000 in
theorem sizeof_any (c : Nat) (V : Value) (fs : List Fld) (b : Nat) (hfew : fs.length ≤ 1000000) (hlong : ∀ f ∈ fs, f.1.length ≤ 100000) (hlong2 : ∀ f ∈ fs, f.2.length ≤ 100000) (w : World) (hV : FldsAt w V fs b) :
    Calls Tryz.prog 32 #[.int .i64 (c : Int), V] w fun e w' => e = .returned (.tuple #[.int .i64 ((sizeOfL c fs).1 : Int), .bool (sizeOfL c fs).2]) ∧ Below w.heap.size w w' := by
  obtain ⟨⟨o1, o2⟩, hO⟩ : ∃ x, x = sizeOfL c fs := ⟨_, rfl⟩
  rw [← hO]
  dsimp only
  have HG := Lib.hid fun (t : List UInt8) (ht : t.length ≤ 100000) (W : World) (h : FldsAt W V fs b) => get_any V fs b t ht hfew hlong W h
  have HV := Lib.hid hV
  obtain ⟨T, hT⟩ : ∃ T, T = manyF teU fs := ⟨_, rfl⟩
  obtain ⟨M, hM⟩ : ∃ M, M = manyF clU fs := ⟨_, rfl⟩
  obtain ⟨D, hD⟩ : ∃ D, D = firstF clU fs := ⟨_, rfl⟩
  obtain ⟨E, hE⟩ : ∃ E, E = firstF teU fs := ⟨_, rfl⟩
  have hDl : M ≠ 0 → D.length ≤ 100000 := fun h => by
    obtain ⟨f, hf, _, he⟩ := first_some (hM ▸ h)
    rw [hD, he]; exact hlong2 f hf
  have HG1 := Lib.hid fun W (h : FldsAt W V fs b) => HG.out teU (by decide) W h
  have HG2 := Lib.hid fun W (h : FldsAt W V fs b) => HG.out clU (by decide) W h
  rw [← hT, ← hE] at HG1
  rw [← hM, ← hD] at HG2
  unfold sizeOfL at hO
  rw [← hT, ← hM, ← hD] at hO
  have HB := Lib.hid fun W => bare10_any (c : Int) W
  obtain ⟨nb, hnb⟩ : ∃ nb, nb = nobB (c : Int) := ⟨_, rfl⟩
  rw [← hnb] at HB hO
  have hlen := run_len_S (P := Tryz.prog) Tryz.underlying9 3 D
  have HO := Lib.hid hO
  have HDL := Lib.hid hDl
  clear hO hnb hT hM hD hE hfew hlong hlong2 hV HG hDl
  by_cases h0 : 0 < T
  case pos =>
    have g0 : decide ((0 : Int) < (T : Int)) = true := decide_eq_true (by omega)
    have g0' : decide (0 < T) = true := decide_eq_true h0
    have HP : Hid (o1 = 0 ∧ o2 = false) := Lib.hid (by have := HO.out; rw [if_pos h0] at this; cases this; exact ⟨rfl, rfl⟩)
    clear h0
    go_enter Tryz.func32, Tryz.ntmps32
    go_wp2_with fail
    refine (HG1.out _ HV.out).mono ?_
    rintro e W1 ⟨rfl, hB1⟩
    have HV1 := Lib.hid (HV.out.below hB1)
    have H1 := Lib.hid hB1
    clear hB1
    go_wp2_with fail
    refine (HG2.out _ HV1.out).mono ?_
    rintro e W2 ⟨rfl, hB2⟩
    have H2 := Lib.hid (H1.out.trans (hB2.mono H1.out.size))
    clear hB2 H1 HV1
    have HX := Lib.hid H2.out
    go_wp2
    go_ret2
    exact ⟨by first | (rw [HP.out.1, HP.out.2]; rfl) | (rw [HP.out.1, HP.out.2]), HX.out⟩
  have g0 : decide ((0 : Int) < (T : Int)) = false := decide_eq_false (by omega)
  have g0' : decide (0 < T) = false := decide_eq_false h0
  have HO2 : Hid ((o1, o2) = if nb = true then (0, decide (M = 0)) else if M ≠ 1 ∨ D = [] ∨ 6 < D.length ∨ D.all dgtB = false then (0, false) else (decN D, true)) := Lib.hid (by have := HO.out; rwa [if_neg h0] at this)
  clear h0 HO
  cases nb with
  | true =>
    have HO3 : Hid (o1 = 0 ∧ o2 = decide (M = 0)) := Lib.hid (by have := HO2.out; rw [if_pos rfl] at this; injection this with a b; exact ⟨a, b⟩)
    by_cases hm : M = 0
    · have g1 : ((M : Int) == 0) = true := by rw [beq_iff_eq]; omega
      have g1' : (M == 0) = true := beq_iff_eq.2 hm
      have HP : Hid (o1 = 0 ∧ o2 = true) := Lib.hid ⟨HO3.out.1, HO3.out.2.trans (decide_eq_true hm)⟩
      clear hm
      go_enter Tryz.func32, Tryz.ntmps32
      go_wp2_with fail
      refine (HG1.out _ HV.out).mono ?_
      rintro e W1 ⟨rfl, hB1⟩
      have HV1 := Lib.hid (HV.out.below hB1)
      have H1 := Lib.hid hB1
      clear hB1
      go_wp2_with fail
      refine (HG2.out _ HV1.out).mono ?_
      rintro e W2 ⟨rfl, hB2⟩
      have H2 := Lib.hid (H1.out.trans (hB2.mono H1.out.size))
      clear hB2 H1 HV1
      go_wp2_with fail
      refine (HB.out _).mono ?_
      rintro e W3 ⟨rfl, rfl⟩
      have HX := Lib.hid H2.out
      go_wp2
      go_ret2
      exact ⟨by first | (rw [HP.out.1, HP.out.2]; rfl) | (rw [HP.out.1, HP.out.2]), HX.out⟩
    · have g1 : ((M : Int) == 0) = false := by rw [beq_eq_false_iff_ne]; omega
      have g1' : (M == 0) = false := beq_eq_false_iff_ne.2 hm
      have g1'' : decide (M = 0) = false := decide_eq_false hm
      have HP : Hid (o1 = 0 ∧ o2 = false) := Lib.hid ⟨HO3.out.1, HO3.out.2.trans (decide_eq_false hm)⟩
      clear hm
      go_enter Tryz.func32, Tryz.ntmps32
      go_wp2_with fail
      refine (HG1.out _ HV.out).mono ?_
      rintro e W1 ⟨rfl, hB1⟩
      have HV1 := Lib.hid (HV.out.below hB1)
      have H1 := Lib.hid hB1
      clear hB1
      go_wp2_with fail
      refine (HG2.out _ HV1.out).mono ?_
      rintro e W2 ⟨rfl, hB2⟩
      have H2 := Lib.hid (H1.out.trans (hB2.mono H1.out.size))
      clear hB2 H1 HV1
      go_wp2_with fail
      refine (HB.out _).mono ?_
      rintro e W3 ⟨rfl, rfl⟩
      have HX := Lib.hid H2.out
      go_wp2
      go_ret2
      exact ⟨by first | (rw [HP.out.1, HP.out.2]; rfl) | (rw [HP.out.1, HP.out.2]), HX.out⟩
  | false =>
  have HO3 : Hid ((o1, o2) = if M ≠ 1 ∨ D = [] ∨ 6 < D.length ∨ D.all dgtB = false then (0, false) else (decN D, true)) := Lib.hid (by have := HO2.out; rwa [if_neg Bool.false_ne_true] at this)
  clear HO2
  by_cases hm : M = 1
  case neg =>
    have g1 : ((M : Int) != 1) = true := by rw [bne_iff_ne]; omega
    have g1' : (M != 1) = true := bne_iff_ne.2 hm
    have HP : Hid (o1 = 0 ∧ o2 = false) := Lib.hid (by have := HO3.out; rw [if_pos (.inl hm)] at this; injection this with a b; exact ⟨a, b⟩)
    clear hm
    go_enter Tryz.func32, Tryz.ntmps32
    go_wp2_with fail
    refine (HG1.out _ HV.out).mono ?_
    rintro e W1 ⟨rfl, hB1⟩
    have HV1 := Lib.hid (HV.out.below hB1)
    have H1 := Lib.hid hB1
    clear hB1
    go_wp2_with fail
    refine (HG2.out _ HV1.out).mono ?_
    rintro e W2 ⟨rfl, hB2⟩
    have H2 := Lib.hid (H1.out.trans (hB2.mono H1.out.size))
    clear hB2 H1 HV1
    go_wp2_with fail
    refine (HB.out _).mono ?_
    rintro e W3 ⟨rfl, rfl⟩
    have HX := Lib.hid H2.out
    go_wp2
    go_ret2
    exact ⟨by first | (rw [HP.out.1, HP.out.2]; rfl) | (rw [HP.out.1, HP.out.2]), HX.out⟩
  have hDl := HDL.out (by omega)
  have g1 : ((M : Int) != 1) = false := by rw [hm]; rfl
  have g1' : (M != 1) = false := by rw [hm]; rfl
  have q0 : binOp .eql 9 (S D) (.string ⟨#[]⟩) = pure (.bool (D == [])) := eql_S 9 D []
  have gg : ∀ x y, eqGuard .eql 9 x y (S D) (.string ⟨#[]⟩) = pure () := fun x y => guard_S 9 x y D []
  obtain ⟨L, hL⟩ : ∃ L, L = D.length := ⟨_, rfl⟩
  rw [← hL] at hlen HO3 hDl
  have HL := Lib.hid hL
  clear hL
  by_cases hd : D = []
  case pos =>
    rw [show (D == []) = true from beq_iff_eq.2 hd] at q0
    have HP : Hid (o1 = 0 ∧ o2 = false) := Lib.hid (by have := HO3.out; rw [if_pos (.inr (.inl hd))] at this; injection this with a b; exact ⟨a, b⟩)
    clear hm hd
    go_enter Tryz.func32, Tryz.ntmps32
    go_wp2_with fail
    refine (HG1.out _ HV.out).mono ?_
    rintro e W1 ⟨rfl, hB1⟩
    have HV1 := Lib.hid (HV.out.below hB1)
    have H1 := Lib.hid hB1
    clear hB1
    go_wp2_with fail
    refine (HG2.out _ HV1.out).mono ?_
    rintro e W2 ⟨rfl, hB2⟩
    have H2 := Lib.hid (H1.out.trans (hB2.mono H1.out.size))
    clear hB2 H1 HV1
    go_wp2_with fail
    refine (HB.out _).mono ?_
    rintro e W3 ⟨rfl, rfl⟩
    have HX := Lib.hid H2.out
    go_wp2
    go_ret2
    exact ⟨by first | (rw [HP.out.1, HP.out.2]; rfl) | (rw [HP.out.1, HP.out.2]), HX.out⟩
  rw [show (D == []) = false from beq_eq_false_iff_ne.2 hd] at q0
  by_cases h6 : 6 < L
  case pos =>
    have g6 : decide ((6 : Int) < (L : Int)) = true := decide_eq_true (by omega)
    have HP : Hid (o1 = 0 ∧ o2 = false) := Lib.hid (by have := HO3.out; rw [if_pos (.inr (.inr (.inl h6)))] at this; injection this with a b; exact ⟨a, b⟩)
    clear hm hd h6
    go_enter Tryz.func32, Tryz.ntmps32
    go_wp2_with fail
    refine (HG1.out _ HV.out).mono ?_
    rintro e W1 ⟨rfl, hB1⟩
    have HV1 := Lib.hid (HV.out.below hB1)
    have H1 := Lib.hid hB1
    clear hB1
    go_wp2_with fail
    refine (HG2.out _ HV1.out).mono ?_
    rintro e W2 ⟨rfl, hB2⟩
    have H2 := Lib.hid (H1.out.trans (hB2.mono H1.out.size))
    clear hB2 H1 HV1
    go_wp2_with fail
    refine (HB.out _).mono ?_
    rintro e W3 ⟨rfl, rfl⟩
    have HX := Lib.hid H2.out
    go_wp2
    go_ret2
    exact ⟨by first | (rw [HP.out.1, HP.out.2]; rfl) | (rw [HP.out.1, HP.out.2]), HX.out⟩
  have g6 : decide ((6 : Int) < (L : Int)) = false := decide_eq_false (by omega)
  have HT := Lib.hid fun W => trim10_any D (by rw [← HL.out]; exact hDl) W
  have htd := trim_dig D
  obtain ⟨R, hR⟩ : ∃ R, R = Lib.trimS D digL := ⟨_, rfl⟩
  rw [← hR] at HT htd
  clear hR
  have q1 : binOp .neq 9 (S R) (.string ⟨#[]⟩) = pure (.bool (R != [])) := neql_S 9 R []
  have gn : ∀ x y, eqGuard .neq 9 x y (S R) (.string ⟨#[]⟩) = pure () := fun x y => nguard_S 9 x y R []
  by_cases hr : R = []
  case neg =>
    rw [show (R != []) = true from bne_iff_ne.2 hr] at q1
    have hda : D.all dgtB = false := by
      cases hx : D.all dgtB with
      | false => rfl
      | true => exact absurd (htd.2 hx) hr
    have HP : Hid (o1 = 0 ∧ o2 = false) := Lib.hid (by have := HO3.out; rw [if_pos (.inr (.inr (.inr hda)))] at this; injection this with a b; exact ⟨a, b⟩)
    clear hm hd h6 hr htd hda
    go_enter Tryz.func32, Tryz.ntmps32
    go_wp2_with fail
    refine (HG1.out _ HV.out).mono ?_
    rintro e W1 ⟨rfl, hB1⟩
    have HV1 := Lib.hid (HV.out.below hB1)
    have H1 := Lib.hid hB1
    clear hB1
    go_wp2_with fail
    refine (HG2.out _ HV1.out).mono ?_
    rintro e W2 ⟨rfl, hB2⟩
    have H2 := Lib.hid (H1.out.trans (hB2.mono H1.out.size))
    clear hB2 H1 HV1
    go_wp2_with fail
    refine (HB.out _).mono ?_
    rintro e W3 ⟨rfl, rfl⟩
    go_wp2_with fail
    refine (HT.out _).mono ?_
    rintro e W4 ⟨rfl, hB⟩
    have HX := Lib.hid (H2.out.trans (hB.mono H2.out.size))
    clear hB
    go_wp2
    go_ret2
    exact ⟨by first | (rw [HP.out.1, HP.out.2]; rfl) | (rw [HP.out.1, HP.out.2]), HX.out⟩
  rw [show (R != []) = false by rw [hr]; rfl] at q1
  have hda := htd.1 hr
  have HA := Lib.hid fun W => atoi_any D hd (by rw [← HL.out]; omega) hda W
  have HP : Hid (o1 = decN D ∧ o2 = true) := Lib.hid (by
    have := HO3.out
    rw [if_neg (by
      rintro (e | e | e | e)
      · exact e hm
      · exact hd e
      · exact h6 e
      · rw [hda] at e; cases e)] at this
    injection this with a b; exact ⟨a, b⟩)
  clear hm hd h6 hr htd hda
  go_enter Tryz.func32, Tryz.ntmps32
  go_wp2_with fail
  refine (HG1.out _ HV.out).mono ?_
  rintro e W1 ⟨rfl, hB1⟩
  have HV1 := Lib.hid (HV.out.below hB1)
  have H1 := Lib.hid hB1
  clear hB1
  go_wp2_with fail
  refine (HG2.out _ HV1.out).mono ?_
  rintro e W2 ⟨rfl, hB2⟩
  have H2 := Lib.hid (H1.out.trans (hB2.mono H1.out.size))
  clear hB2 H1 HV1
  go_wp2_with fail
  refine (HB.out _).mono ?_
  rintro e W3 ⟨rfl, rfl⟩
  go_wp2_with fail
  refine (HT.out _).mono ?_
  rintro e W4 ⟨rfl, hB⟩
  have HX4 := Lib.hid (H2.out.trans (hB.mono H2.out.size))
  clear hB
  go_wp2_with fail
  refine (HA.out _).mono ?_
  rintro e W5 ⟨rfl, hB⟩
  have HX := Lib.hid (HX4.out.trans (hB.mono HX4.out.size))
  clear hB
  go_wp2
  go_ret2
  exact ⟨by first | (rw [HP.out.1, HP.out.2]; rfl) | (rw [HP.out.1, HP.out.2]), HX.out⟩
set_option maxRecDepth 100000 in
set_option maxHeartbeats 1000000 in
theorem closes10_any (c : Nat) (V : Value) (fs : List Fld) (b : Nat) (hfew : fs.length ≤ 1000000) (hlong : ∀ f ∈ fs, f.1.length ≤ 100000) (w : World) (hV : FldsAt w V fs b) :
    Calls Tryz.prog 33 #[.int .i64 (c : Int), V] w fun e w' => e = .returned (.tuple #[.bool (closesL c fs).1, .bool (closesL c fs).2]) ∧ Below w.heap.size w w' := by
  obtain ⟨⟨o1, o2⟩, hO⟩ : ∃ x, x = closesL c fs := ⟨_, rfl⟩
  rw [← hO]
  dsimp only
  have HG := Lib.hid fun (W : World) (h : FldsAt W V fs b) => get_any V fs b coU (by decide) hfew hlong W h
  have HV := Lib.hid hV
  obtain ⟨M, hM⟩ : ∃ M, M = manyF coU fs := ⟨_, rfl⟩
  obtain ⟨D, hD⟩ : ∃ D, D = firstF coU fs := ⟨_, rfl⟩
  rw [← hM, ← hD] at HG
  unfold closesL at hO
  rw [← hM, ← hD] at hO
  have HO := Lib.hid hO
  clear hO hM hD hfew hlong hV
  have q1 : binOp .neq 9 (S D) (.string ⟨#[99, 108, 111, 115, 101]⟩) = pure (.bool (D != closeL)) := neql_S 9 D closeL
  have gn : ∀ x y, eqGuard .neq 9 x y (S D) (.string ⟨#[99, 108, 111, 115, 101]⟩) = pure () := fun x y => nguard_S 9 x y D closeL
  by_cases h0 : M = 0
  case pos =>
    have g1 : ((M : Int) == 0) = true := by rw [beq_iff_eq]; omega
    have g1' : (M == 0) = true := beq_iff_eq.2 h0
    have HP : Hid (o1 = false ∧ o2 = true) := Lib.hid (by have := HO.out; rw [if_pos (.inl h0)] at this; injection this with a b; exact ⟨a, b⟩)
    clear h0
    go_enter Tryz.func33, Tryz.ntmps33
    go_wp2_with fail
    refine (HG.out _ HV.out).mono ?_
    rintro e W1 ⟨rfl, hB⟩
    have HX := Lib.hid hB
    clear hB
    go_wp2
    go_ret2
    exact ⟨by first | (rw [HP.out.1, HP.out.2]; rfl) | (rw [HP.out.1, HP.out.2]), HX.out⟩
  have g1 : ((M : Int) == 0) = false := by rw [beq_eq_false_iff_ne]; omega
  have g1' : (M == 0) = false := beq_eq_false_iff_ne.2 h0
  have g1'' : decide (M = 0) = false := decide_eq_false h0
  by_cases h1 : c = 101
  case pos =>
    have g2 : ((c : Int) == 101) = true := by rw [beq_iff_eq]; omega
    have HP : Hid (o1 = false ∧ o2 = true) := Lib.hid (by have := HO.out; rw [if_pos (.inr h1)] at this; injection this with a b; exact ⟨a, b⟩)
    clear h0 h1
    go_enter Tryz.func33, Tryz.ntmps33
    go_wp2_with fail
    refine (HG.out _ HV.out).mono ?_
    rintro e W1 ⟨rfl, hB⟩
    have HX := Lib.hid hB
    clear hB
    go_wp2
    go_ret2
    exact ⟨by first | (rw [HP.out.1, HP.out.2]; rfl) | (rw [HP.out.1, HP.out.2]), HX.out⟩
  have g2 : ((c : Int) == 101) = false := by rw [beq_eq_false_iff_ne]; omega
  have HO2 : Hid ((o1, o2) = if 1 < M ∨ D ≠ closeL then (false, false) else (true, true)) := Lib.hid (by have := HO.out; rwa [if_neg (fun e => e.elim h0 h1)] at this)
  clear h0 h1 HO
  by_cases h2 : 1 < M
  case pos =>
    have g3 : decide ((1 : Int) < (M : Int)) = true := decide_eq_true (by omega)
    have g3' : decide (1 < M) = true := decide_eq_true h2
    have HP : Hid (o1 = false ∧ o2 = false) := Lib.hid (by have := HO2.out; rw [if_pos (.inl h2)] at this; injection this with a b; exact ⟨a, b⟩)
    clear h2
    go_enter Tryz.func33, Tryz.ntmps33
    go_wp2_with fail
    refine (HG.out _ HV.out).mono ?_
    rintro e W1 ⟨rfl, hB⟩
    have HX := Lib.hid hB
    clear hB
    go_wp2
    go_ret2
    exact ⟨by first | (rw [HP.out.1, HP.out.2]; rfl) | (rw [HP.out.1, HP.out.2]), HX.out⟩
  have g3 : decide ((1 : Int) < (M : Int)) = false := decide_eq_false (by omega)
  have g3' : decide (1 < M) = false := decide_eq_false h2
  by_cases h3 : D = closeL
  case pos =>
    rw [show (D != closeL) = false by rw [h3]; rfl] at q1
    have HP : Hid (o1 = true ∧ o2 = true) := Lib.hid (by have := HO2.out; rw [if_neg (fun e => e.elim h2 (fun k => k h3))] at this; injection this with a b; exact ⟨a, b⟩)
    clear h2 h3
    go_enter Tryz.func33, Tryz.ntmps33
    go_wp2_with fail
    refine (HG.out _ HV.out).mono ?_
    rintro e W1 ⟨rfl, hB⟩
    have HX := Lib.hid hB
    clear hB
    go_wp2
    go_ret2
    exact ⟨by first | (rw [HP.out.1, HP.out.2]; rfl) | (rw [HP.out.1, HP.out.2]), HX.out⟩
  rw [show (D != closeL) = true from bne_iff_ne.2 h3] at q1
  have HP : Hid (o1 = false ∧ o2 = false) := Lib.hid (by have := HO2.out; rw [if_pos (.inr h3)] at this; injection this with a b; exact ⟨a, b⟩)
  clear h2 h3
  go_enter Tryz.func33, Tryz.ntmps33
  go_wp2_with fail
  refine (HG.out _ HV.out).mono ?_
  rintro e W1 ⟨rfl, hB⟩
  have HX := Lib.hid hB
  clear hB
  go_wp2
  go_ret2
  exact ⟨by first | (rw [HP.out.1, HP.out.2]; rfl) | (rw [HP.out.1, HP.out.2]), HX.out⟩
/-- Fields kept so far, in a slice of one's own. -/
def OthAt (w : World) (v : Value) (fs : List Fld) (W : World) : Prop := W.ownsRow w.heap.size 35 2 v fs.length (fcells fs) ∧ Below w.heap.size w W
theorem OthAt.below {w : World} {v : Value} {fs : List Fld} {W W' : World} (h : OthAt w v fs W) (hb : Below W.heap.size W W') : OthAt w v fs W' :=
  ⟨own_below h.1 hb, h.2.trans (hb.mono h.2.size)⟩
set_option maxRecDepth 100000 in
set_option maxHeartbeats 1000000 in
theorem others_any (c : Nat) (V : Value) (fs : List Fld) (b : Nat) (hfew : fs.length ≤ 100000) (hlong : ∀ f ∈ fs, f.1.length ≤ 100000) (w : World) (hV : FldsAt w V fs b) :
    Calls Tryz.prog 34 #[.int .i64 (c : Int), V] w fun e w' => ∃ v, e = .returned v ∧ OthAt w v (othersL c fs) w' := by
  have hlV := hV.len 3
  obtain ⟨N, hN⟩ : ∃ N, N = fs.length := ⟨_, rfl⟩
  rw [← hN] at hlV hfew
  have HV := Lib.hid (And.intro hV (And.intro hN hlong))
  clear hV hN hlong
  go_enter Tryz.func34, Tryz.ntmps34
  go_wp2_with fail
  go_loopw [5, 10] (fun xv iv wr => ∃ (i : Nat) (vv : Value), i ≤ N ∧ xv = vv ∧ iv = .int .i64 (i : Int) ∧ Hid (OthAt w vv (othersL c (fs.take i)) wr)) (fun _ iv _ => N - (intOf iv).toNat)
  case atStart => exact ⟨0, _, Nat.zero_le _, rfl, rfl, Lib.hid ⟨World.ownsRow_nil _ _ _ _, Below.refl _ _⟩⟩
  case round =>
    obtain ⟨i, _, hi, rfl, rfl, HR⟩ := hrel
    by_cases hlt : i < N
    case neg =>
      obtain rfl : i = N := by omega
      have g3 : decide ((i : Int) < (i : Int)) = false := decide_eq_false (by omega)
      have HP : Hid (OthAt w u5 (othersL c fs) wr) := Lib.hid (by have h := HR.out; rwa [HV.out.2.1, List.take_length] at h)
      go_wp2
      go_ret
      exact ⟨_, rfl, HP.out⟩
    have g3 : decide ((i : Int) < (N : Int)) = true := decide_eq_true (by omega)
    obtain ⟨⟨n, u⟩, hf⟩ : ∃ f, fs[i]? = some f := ⟨fs[i]'(by have := HV.out.2.1; omega), List.getElem?_eq_getElem _⟩
    have hfa := HV.out.1.below HR.out.2
    have hix := hfa.index i (by have := HV.out.2.1; omega)
    have hcl := hfa.cell i _ hf
    have hwi : IntKind.i64.wrap ((i : Int) + 1) = (i : Int) + 1 := by rw [IntKind.wrap_i64]; omega
    obtain ⟨kk, hkk⟩ : ∃ kk, kk = i * 2 := ⟨_, rfl⟩
    rw [← hkk] at hix hcl
    have k0 : wr.cell? ⟨b, kk, none⟩ = some (S n) := hcl.1
    have k1 : wr.cell? ⟨b, kk + 1, none⟩ = some (S u) := hcl.2
    have HOW := Lib.hid fun W => isown_any n (c : Int) (HV.out.2.2 (n, u) (List.mem_of_getElem? hf)) W
    have HTK : Hid (othersL c (fs.take (i + 1)) = othersL c (fs.take i) ++ if ownB n (c : Int) = true then [] else [(n, u)]) := Lib.hid (by
      unfold othersL
      rw [List.take_add_one, hf, List.filter_append]
      show _ ++ List.filter _ [(n, u)] = _
      cases ho : ownB n (c : Int) <;> simp [ho])
    obtain ⟨gs, hgs⟩ : ∃ gs, gs = othersL c (fs.take i) := ⟨_, rfl⟩
    have hgl : gs.length < 1000000 := by
      have h1 : gs.length ≤ (fs.take i).length := by rw [hgs]; exact List.length_filter_le ..
      rw [List.length_take] at h1; omega
    rw [← hgs] at HR HTK
    obtain ⟨x2, hx2⟩ : ∃ x, x = ownB n (c : Int) := ⟨_, rfl⟩
    rw [← hx2] at HOW HTK
    clear hf hfa hcl hkk hx2 hgs
    obtain ⟨W4, hW4⟩ : ∃ W, W = wr.alloc (.cells #[S n, S u] 35) := ⟨_, rfl⟩
    obtain ⟨b4, hb4⟩ : ∃ b, b = wr.heap.size := ⟨_, rfl⟩
    have hB4 : Below wr.heap.size wr W4 := by rw [hW4]; exact (Below.refl _ wr).alloc (Nat.le_refl _) _
    have hr4 : Row W4 b4 #[S n, S u] 35 := by rw [hW4, hb4]; exact row_new _ _ _
    have H4 := Lib.hid (And.intro (HR.out.below hB4) hr4)
    have e0 : W4.cell? ⟨b4, 0, none⟩ = some (S n) := cell_of_row _ _ 0 _ _ (0, 0) hr4
    clear hB4 hr4
    go_wp2_with fail
    all_goals try rw [← hW4, ← hb4]
    all_goals try go_wp2_with fail
    clear hW4 hb4 k0 k1 e0
    refine (HOW.out _).mono ?_
    rintro e W5 ⟨rfl, hB⟩
    have hr5 := H4.out.2.below hB H4.out.2.lt
    have e0 : W5.cell? ⟨b4, 0, none⟩ = some (S n) := cell_of_row _ _ 0 _ _ (0, 0) hr5
    have e1 : W5.cell? ⟨b4, 1, none⟩ = some (S u) := cell_of_row _ _ 1 _ _ (0, 0) hr5
    have H5 := Lib.hid (H4.out.1.below hB)
    clear hB hr5
    cases x2 with
    | true =>
      have HX : Hid (OthAt w u5 (othersL c (fs.take (i + 1))) W5) := Lib.hid (by rw [HTK.out, if_pos rfl, List.append_nil]; exact H5.out)
      go_wp2
      exact ⟨⟨i + 1, _, by omega, rfl, by go_num, HX⟩, by simp [intOf]; omega⟩
    | false =>
      have hone : ∀ x ∈ (#[S n, S u] : Array Value).toList, x.oneCell' = true := by
        intro x hx
        simp only [List.mem_cons, List.not_mem_nil, or_false] at hx
        rcases hx with rfl | rfl <;> rfl
      have hsz := H5.out.2.size
      go_wp2_with (at_builtin; refine wpList_addK rfl 22 35 (.tmp 19) (.tmp 21) rfl Tryz.underlying22 eleF (by omega) w.heap.size W5 u5 rfl gs.length (fcells gs) H5.out.1 #[S n, S u] rfl hone rfl W5.heap.size rfl rfl hgl hsz ?_; intro gg cap W9 o2 g2; have H9 : Hid (OthAt w (.slice (some ⟨gg, 0, none⟩) (gs.length + 1) cap) (othersL c (fs.take (i + 1))) W9) := Lib.hid (by rw [HTK.out, if_neg Bool.false_ne_true]; exact ⟨by rw [fcells_snoc, List.length_append]; exact o2, H5.out.2.grown g2 hsz (fun k e => (H5.out.1.lt k e).1)⟩); clear o2 g2)
      exact ⟨⟨i + 1, _, by omega, rfl, by go_num, H9⟩, by simp [intOf]; omega⟩
end Go.Proofs.YtfdbmbgpcioogaaGreatDoor
/- The landed package's way, as list functions: what its loops tell is the document's answer. -/
namespace Go.Proofs.YtfdbmbgpcioogaaGreatDoor
open Go.RowKit

/-! A request's line, cut at its blanks. -/
def hver0 : List UInt8 := [72, 84, 84, 80, 47, 49, 46, 48]
def hver1 : List UInt8 := [72, 84, 84, 80, 47, 49, 46, 49]
def verN (s : List UInt8) : Nat := if s = hver0 then 10 else if s = hver1 then 11 else 0
theorem line_miss {s : List UInt8} (h : 32 ∉ s) : lineF s = ([], [], 0, false) := by
  have hall : s.all (notB 32) = true := by
    rw [List.all_eq_true]; intro c hc; unfold notB; rw [bne_iff_ne]; rintro rfl; exact h hc
  have e : s.takeWhile (notB 32) = s := by
    have := List.takeWhile_append_of_pos (p := notB 32) (l₁ := s) (l₂ := []) (by simpa using hall)
    simpa using this
  unfold lineF
  simp only
  rw [e, List.drop_of_length_le (by omega)]
  rw [if_neg (by simp)]
theorem notin_all {k : UInt8} {a : List UInt8} (h : k ∉ a) : a.all (notB k) = true := by
  rw [List.all_eq_true]; intro c hc; unfold notB; rw [bne_iff_ne]; rintro rfl; exact h hc
theorem line_one {m r : List UInt8} (hm : 32 ∉ m) : lineF (m ++ 32 :: r) = if tokF m = true ∧ r.takeWhile visB ≠ [] then (if r.drop (r.takeWhile visB).length = http0 then (m, r.takeWhile visB, 10, true) else if r.drop (r.takeWhile visB).length = http1 then (m, r.takeWhile visB, 11, true) else ([], [], 0, false)) else ([], [], 0, false) := by
  unfold lineF
  simp only
  rw [take_while_stop (notin_all hm) rfl]
  have : (m ++ 32 :: r).drop (m.length + 1) = r := by rw [List.drop_append, List.drop_of_length_le (by omega), show m.length + 1 - m.length = 1 by omega]; rfl
  rw [this]
theorem drop_mem {k : UInt8} {r q : List UInt8} {n : Nat} (h : r.drop n = k :: q) : k ∈ r := by
  have : k ∈ r.drop n := by rw [h]; exact List.mem_cons_self
  exact List.mem_of_mem_drop this
theorem line_miss2 {m r : List UInt8} (hm : 32 ∉ m) (hr : 32 ∉ r) : lineF (m ++ 32 :: r) = ([], [], 0, false) := by
  rw [line_one hm]
  split
  · have n0 : ¬ (r.drop (r.takeWhile visB).length = http0) := fun e => hr (drop_mem (k := 32) (q := http0.tail) e)
    have n1 : ¬ (r.drop (r.takeWhile visB).length = http1) := fun e => hr (drop_mem (k := 32) (q := http1.tail) e)
    rw [if_neg n0, if_neg n1]
  · rfl
theorem while_drop (p : UInt8 → Bool) : ∀ (t : List UInt8), t.all p = false → ∀ q, ∃ c r, (t ++ q).drop ((t ++ q).takeWhile p).length = c :: r ∧ p c = false ∧ c ∈ t
  | [], h, _ => by cases h
  | c :: t, h, q => by
    cases hc : p c with
    | false =>
      refine ⟨c, t ++ q, ?_, hc, List.mem_cons_self⟩
      rw [List.cons_append, List.takeWhile_cons, hc]; rfl
    | true =>
      rw [List.all_cons, hc, Bool.true_and] at h
      obtain ⟨d, r, h1, h2, h3⟩ := while_drop p t h q
      refine ⟨d, r, ?_, h2, List.mem_cons_of_mem _ h3⟩
      rw [List.cons_append, List.takeWhile_cons, if_pos hc, List.length_cons, List.drop_succ_cons]
      exact h1
theorem line_two {m t l : List UInt8} (hm : 32 ∉ m) (ht : 32 ∉ t) : lineF (m ++ 32 :: (t ++ 32 :: l)) = if (tokF m && (t.all visB && t != []) && verN l != 0) = true then (m, t, verN l, true) else ([], [], 0, false) := by
  rw [line_one hm]
  cases hv : t.all visB with
  | false =>
    obtain ⟨c, r, h1, h2, h3⟩ := while_drop visB t hv (32 :: l)
    have hc : c ≠ 32 := fun e => ht (by rw [← e]; exact h3)
    rw [h1, Bool.false_and, Bool.and_false, Bool.false_and, if_neg Bool.false_ne_true]
    split
    · have n0 : ¬ (c :: r = http0) := fun e => hc (List.cons.inj (show c :: r = 32 :: http0.tail from e)).1
      have n1 : ¬ (c :: r = http1) := fun e => hc (List.cons.inj (show c :: r = 32 :: http1.tail from e)).1
      rw [if_neg n0, if_neg n1]
    · rfl
  | true =>
    have e1 : (t ++ 32 :: l).takeWhile visB = t := take_while_stop hv rfl
    have e2 : (t ++ 32 :: l).drop t.length = 32 :: l := List.drop_left
    rw [e1, e2]
    have h0 : (32 :: l = http0) = (l = hver0) := by unfold http0 hver0; simp
    have h1 : (32 :: l = http1) = (l = hver1) := by unfold http1 hver1; simp
    simp only [h0, h1]
    unfold verN
    by_cases a : tokF m = true
    · by_cases b : t = []
      · simp [a, b]
      · by_cases c : l = hver0
        · simp [a, b, c]
        · by_cases d : l = hver1
          · subst d
            have n10 : hver1 ≠ hver0 := by decide
            simp [a, b, n10]
          · simp [a, b, c, d]
    · simp [a]

/-! A target: each of its bytes is told, or begins an escape. -/
def escF : List UInt8 → Bool
  | c :: x :: y :: _ => c == 37 && hexB x && hexB y
  | _ => false
def wrF (p : UInt8 → Bool) : List UInt8 → Bool
  | [] => true
  | c :: r => (p c || escF (c :: r)) && wrF p r
def queryB (c : UInt8) : Bool := c == 63 || pathB c
theorem hex_path (c : UInt8) (h : hexB c = true) : pathB c = true := by
  have := all_bytes (p := fun c => !hexB c || pathB c) (by decide +kernel) c
  simpa [h] using this
theorem esc_not {c : UInt8} {r : List UInt8} (h : c ≠ 37) : escF (c :: r) = false := by
  match r with
  | [] => rfl
  | [_] => rfl
  | x :: y :: r =>
    have : escF (c :: x :: y :: r) = (c == 37 && hexB x && hexB y) := rfl
    rw [this, show (c == 37) = false from beq_eq_false_iff_ne.2 h]; rfl
/-- Any function that tells a path's characters, and of the others at most the question mark. -/
theorem wr_ok {p : UInt8 → Bool} (hp : ∀ c, c ≠ 63 → p c = pathB c) : ∀ (n : Nat) (s : List UInt8), s.length ≤ n → (63 ∈ s → p 63 = true) → wrF p s = okT s
  | 0, s, hn, _ => by
    obtain rfl := List.length_eq_zero_iff.1 (Nat.le_zero.1 hn); rfl
  | n + 1, [], _, _ => rfl
  | n + 1, c :: r, hn, hq => by
    simp only [List.length_cons] at hn
    have ih := wr_ok hp n r (by omega) (fun h => hq (List.mem_cons_of_mem _ h))
    by_cases hc : c = 37
    · subst hc
      have h37 : p 37 = false := by rw [hp 37 (by decide)]; exact path_pct
      rw [wrF, h37, Bool.false_or]
      by_cases hr : ∃ x y q, r = x :: y :: q ∧ hexB x = true ∧ hexB y = true
      · obtain ⟨x, y, q, rfl, hx, hy⟩ := hr
        rw [okT_pct hx hy, ih, okT_one (hex_not x hx).1, okT_one (hex_not y hy).1, hex_path x hx, hex_path y hy]
        simp [escF, hx, hy]
      · rw [okT_bad (fun x y q e he => hr ⟨x, y, q, e, he⟩)]
        have : escF (37 :: r) = false := by
          match r, hr with
          | [], _ => rfl
          | [_], _ => rfl
          | x :: y :: q, hr =>
            cases he : escF (37 :: x :: y :: q) with
            | false => rfl
            | true =>
              unfold escF at he
              simp only [beq_self_eq_true, Bool.true_and, Bool.and_eq_true] at he
              exact absurd ⟨x, y, q, rfl, he.1, he.2⟩ hr
        rw [this, Bool.false_and]
    · rw [wrF, esc_not hc, Bool.or_false, okT_one hc, ih]
      by_cases h63 : c = 63
      · subst h63
        rw [hq List.mem_cons_self]; rfl
      · rw [hp c h63, show (c == 63) = false from beq_eq_false_iff_ne.2 h63, Bool.false_or]
theorem wr_path {s : List UInt8} (h : 63 ∉ s) : wrF pathB s = okT s := wr_ok (fun _ _ => rfl) _ s (Nat.le_refl _) (fun e => absurd e h)
theorem wr_query (s : List UInt8) : wrF queryB s = okT s := wr_ok (fun c h => by unfold queryB; rw [show (c == 63) = false from beq_eq_false_iff_ne.2 h, Bool.false_or]) _ s (Nat.le_refl _) (fun _ => rfl)
theorem target_bad {s : List UInt8} (h : s[0]? ≠ some 47) : targetF s = ([], [], false) := by unfold targetF; rw [if_pos (.inl h)]
theorem targ_miss {s : List UInt8} (h0 : s[0]? = some 47) (hl : s.length ≤ 512) (hq : 63 ∉ s) : targetF s = if (wrF pathB s && wrF queryB []) = true then (s, [], true) else ([], [], false) := by
  rw [wr_path hq]
  cases ho : okT s with
  | true => rw [target_path h0 hl ho hq]; rfl
  | false => rw [target_none ho]; rfl
theorem targ_hit {a b : List UInt8} (h0 : (a ++ 63 :: b)[0]? = some 47) (hl : (a ++ 63 :: b).length ≤ 512) (hq : 63 ∉ a) : targetF (a ++ 63 :: b) = if (wrF pathB a && wrF queryB b) = true then (a, b, true) else ([], [], false) := by
  rw [wr_path hq, wr_query]
  have ha0 : 0 < a.length := by
    cases a with
    | nil => cases h0
    | cons => simp
  rw [List.getElem?_append_left ha0] at h0
  rw [List.length_append, List.length_cons] at hl
  cases ho : okT a with
  | false =>
    rw [target_none]
    · rfl
    · cases hab : okT (a ++ 63 :: b) with
      | false => rfl
      | true => rw [(okT_mark _ a b (Nat.le_refl _) hq hab).1] at ho; cases ho
  | true =>
    cases hob : okT b with
    | true =>
      have := target_query h0 (by omega) ho hob hq
      rw [show (a ++ [63]) ++ b = a ++ 63 :: b by simp] at this
      rw [this]; rfl
    | false =>
      rw [target_none]
      · rfl
      · rw [okT_append _ a _ (Nat.le_refl _) ho, okT_one (by decide), hob, Bool.and_false]

/-! A reply's line. -/
def codeOfF : List UInt8 → Nat
  | [a, b, c] => if digB a = true ∧ digB b = true ∧ digB c = true ∧ 49 ≤ a.toNat ∧ a.toNat ≤ 53 then codeN a b c else 0
  | _ => 0
theorem code_none {d : List UInt8} (h : d.length ≠ 3) : codeOfF d = 0 := by
  match d, h with
  | [], _ => rfl
  | [_], _ => rfl
  | [_, _], _ => rfl
  | [_, _, _], h => exact absurd rfl h
  | _ :: _ :: _ :: _ :: _, _ => rfl
theorem cut_same {k : UInt8} {a a' b b' : List UInt8} (h : a ++ k :: b = a' ++ k :: b') (ha : k ∉ a) (ha' : k ∉ a') : a = a' ∧ b = b' := by
  have e1 := take_while_stop (notin_all ha) (r := b) (c := k) (by unfold notB; simp)
  have e2 := take_while_stop (notin_all ha') (r := b') (c := k) (by unfold notB; simp)
  rw [h, e2] at e1
  subst e1
  exact ⟨rfl, (List.cons.inj (List.append_cancel_left h)).2⟩
theorem dig_ne {n : Nat} (h : n ≤ 9) : UInt8.ofNat (48 + n) ≠ 32 := fun e => by
  have := congrArg UInt8.toNat e
  rw [dig_nat h] at this
  have : 48 + n = 32 := this
  omega
theorem dig3_ne {n : Nat} (h1 : 100 ≤ n) (h2 : n ≤ 599) : 32 ∉ dig3 n := by
  unfold dig3
  simp only [List.mem_cons, List.not_mem_nil, or_false]
  rintro (e | e | e)
  · exact dig_ne (by omega) e.symm
  · exact dig_ne (by omega) e.symm
  · exact dig_ne (by omega) e.symm
theorem http_cut (r : List UInt8) : httpS ++ r = hver1 ++ 32 :: r := rfl
/-- Any answer that tells a reply's line is put together as it. -/
theorem status_no {s : List UInt8} (h : ∀ c r, 100 ≤ c → c ≤ 599 → r.any badB = false → s ≠ hver1 ++ 32 :: (dig3 c ++ 32 :: r)) : statusF s = (0, [], false) := by
  obtain ⟨⟨c, r, k⟩, hp⟩ : ∃ p, statusF s = p := ⟨_, rfl⟩
  cases k with
  | true =>
    obtain ⟨h1, h2, h3, h4, _⟩ := status_true hp
    exact absurd (h4.trans (http_cut _)) (h c r h1 h2 h3)
  | false => obtain ⟨rfl, rfl⟩ := status_false hp; exact hp
theorem stat_miss {s : List UInt8} (h : 32 ∉ s) : statusF s = (0, [], false) := status_no fun c r _ _ _ e => h (by rw [e]; simp)
theorem stat_miss2 {v r : List UInt8} (hv : 32 ∉ v) (hr : 32 ∉ r) : statusF (v ++ 32 :: r) = (0, [], false) := status_no fun c q _ _ _ e => by
  obtain ⟨_, e2⟩ := cut_same e hv (by decide)
  exact hr (by rw [e2]; simp)
theorem code_pos {d : List UInt8} (h : codeOfF d ≠ 0) : ∃ a b c, d = [a, b, c] ∧ digB a = true ∧ digB b = true ∧ digB c = true ∧ 49 ≤ a.toNat ∧ a.toNat ≤ 53 ∧ codeOfF d = codeN a b c := by
  match d, h with
  | [], h => exact absurd rfl h
  | [_], h => exact absurd rfl h
  | [_, _], h => exact absurd rfl h
  | [a, b, c], h =>
    have e : codeOfF [a, b, c] = if digB a = true ∧ digB b = true ∧ digB c = true ∧ 49 ≤ a.toNat ∧ a.toNat ≤ 53 then codeN a b c else 0 := rfl
    by_cases hc : digB a = true ∧ digB b = true ∧ digB c = true ∧ 49 ≤ a.toNat ∧ a.toNat ≤ 53
    · exact ⟨a, b, c, rfl, hc.1, hc.2.1, hc.2.2.1, hc.2.2.2.1, hc.2.2.2.2, by rw [e, if_pos hc]⟩
    · rw [e, if_neg hc] at h
      exact absurd rfl h
  | _ :: _ :: _ :: _ :: _, h => exact absurd rfl h
theorem code_dig3 {n : Nat} (h1 : 100 ≤ n) (h2 : n ≤ 599) : codeOfF (dig3 n) ≠ 0 := by
  have ea := dig_nat (k := n / 100) (by omega)
  have eb := dig_nat (k := n / 10 % 10) (by omega)
  have ec := dig_nat (k := n % 10) (by omega)
  have dg : ∀ k, k ≤ 9 → digB (UInt8.ofNat (48 + k)) = true := fun k hk => by
    unfold digB; rw [dig_nat hk, decide_eq_true (by omega), decide_eq_true (by omega)]; rfl
  have e : ∀ a b c : UInt8, codeOfF [a, b, c] = if digB a = true ∧ digB b = true ∧ digB c = true ∧ 49 ≤ a.toNat ∧ a.toNat ≤ 53 then codeN a b c else 0 := fun _ _ _ => rfl
  unfold dig3
  rw [e, if_pos ⟨dg _ (by omega), dg _ (by omega), dg _ (by omega), by rw [ea]; omega, by rw [ea]; omega⟩]
  unfold codeN
  rw [ea]; omega
theorem stat_two {v d r : List UInt8} (hv : 32 ∉ v) (hd : 32 ∉ d) : statusF (v ++ 32 :: (d ++ 32 :: r)) = if (v == hver1 && codeOfF d != 0 && r.all valB) = true then (codeOfF d, r, true) else (0, [], false) := by
  by_cases hc : (v == hver1 && codeOfF d != 0 && r.all valB) = true
  · rw [if_pos hc]
    simp only [Bool.and_eq_true, beq_iff_eq, bne_iff_ne] at hc
    obtain ⟨⟨rfl, h0⟩, hr⟩ := hc
    obtain ⟨a, b, c, rfl, ha, hb, hc', h1, h5, hcd⟩ := code_pos h0
    rw [hcd]
    have hbad : r.any badB = false := by rw [val_bad] at hr; simpa using hr
    unfold statusF
    have e1 : (hver1 ++ 32 :: ([a, b, c] ++ 32 :: r)).drop 9 = a :: b :: c :: 32 :: r := rfl
    have e2 : (hver1 ++ 32 :: ([a, b, c] ++ 32 :: r)).take 9 = httpS := rfl
    rw [e1, e2]
    simp only
    rw [if_pos ⟨trivial, ha, hb, hc', h1, h5, hbad⟩]
  · rw [if_neg hc]
    refine status_no fun c q h1 h2 hq e => hc ?_
    obtain ⟨rfl, e2⟩ := cut_same e hv (by decide)
    obtain ⟨rfl, rfl⟩ := cut_same e2 hd (dig3_ne h1 h2)
    simp only [Bool.and_eq_true, beq_iff_eq, bne_iff_ne]
    exact ⟨⟨trivial, code_dig3 h1 h2⟩, by rw [val_bad, hq]; rfl⟩
/-- What field.Parse tells of x: ahead of a text. -/
theorem parse_x (s : List UInt8) : (parseF (120 :: 58 :: s)).2.2 = s.all valB := by
  have h := parse_cut [120] s (by decide)
  rw [show ([120] : List UInt8) ++ 58 :: s = 120 :: 58 :: s from rfl] at h
  rw [h, show tokF [120] = true by decide, Bool.true_and]
  cases s.all valB <;> rfl
end Go.Proofs.YtfdbmbgpcioogaaGreatDoor
/- The landed package of lines walked: its bytes and its loops. (mklv.py writes it.) -/
namespace Go.Proofs.YtfdbmbgpcioogaaGreatDoor
open Go.RowKit
attribute [local go_sem] store_one S_match S_store eguard_BN nguard_BN

theorem B_lss (t : TypeId) (x : UInt8) (k : Int) : binOp .lss t (B x) (.int .u8 k) = pure (.bool (decide ((x.toNat : Int) < k))) := rfl
theorem B_gtr (t : TypeId) (x : UInt8) (k : Int) : binOp .gtr t (B x) (.int .u8 k) = pure (.bool (decide (k < (x.toNat : Int)))) := rfl
theorem hex_small : ∀ n : Fin 256, hexB (UInt8.ofNat n.1) = ((decide (48 ≤ n.1) && decide (n.1 ≤ 57)) || (decide (97 ≤ n.1) && decide (n.1 ≤ 102)) || (decide (65 ≤ n.1) && decide (n.1 ≤ 70))) := by decide +kernel
theorem hex_eq (c : UInt8) : hexB c = ((decide (48 ≤ c.toNat) && decide (c.toNat ≤ 57)) || (decide (97 ≤ c.toNat) && decide (c.toNat ≤ 102)) || (decide (65 ≤ c.toNat) && decide (c.toNat ≤ 70))) := by
  have := hex_small ⟨c.toNat, c.toNat_lt⟩
  simp only [UInt8.ofNat_toNat] at this
  exact this
def pmarkL : List UInt8 := [45, 46, 95, 126, 33, 36, 38, 39, 40, 41, 42, 43, 44, 59, 61, 58, 64, 47]
theorem path_small : ∀ n : Fin 256, pathB (UInt8.ofNat n.1) = ((decide (65 ≤ n.1) && decide (n.1 ≤ 90)) || (decide (97 ≤ n.1) && decide (n.1 ≤ 122)) || (decide (48 ≤ n.1) && decide (n.1 ≤ 57)) || pmarkL.contains (UInt8.ofNat n.1)) := by decide +kernel
theorem path_eq (c : UInt8) : pathB c = ((decide (65 ≤ c.toNat) && decide (c.toNat ≤ 90)) || (decide (97 ≤ c.toNat) && decide (c.toNat ≤ 122)) || (decide (48 ≤ c.toNat) && decide (c.toNat ≤ 57)) || pmarkL.contains c) := by
  have := path_small ⟨c.toNat, c.toNat_lt⟩
  simp only [UInt8.ofNat_toNat] at this
  exact this

set_option maxRecDepth 100000 in
set_option maxHeartbeats 1000000 in
theorem inten_any (c : UInt8) (w : World) : Calls Tryz.prog 76 #[B c] w fun e w' => e = .returned (.bool (digB c)) ∧ w' = w := by
  have h1 := B_geq 5 c 48
  have h2 := B_leq 5 c 57
  rcases (by omega : c.toNat < 48 ∨ (48 ≤ c.toNat ∧ c.toNat ≤ 57) ∨ 57 < c.toNat) with a | a | a
  · rw [show digB c = false by unfold digB; simp; omega]
    rw [decide_eq_false (by omega)] at h1
    clear h2 a
    go_enter Tryz.func76, Tryz.ntmps76
    go_wp2
    go_ret
    exact ⟨rfl, rfl⟩
  · rw [show digB c = true by unfold digB; simp; omega]
    rw [decide_eq_true (by omega)] at h1 h2
    clear a
    go_enter Tryz.func76, Tryz.ntmps76
    go_wp2
    go_ret
    exact ⟨rfl, rfl⟩
  · rw [show digB c = false by unfold digB; simp; omega]
    rw [decide_eq_true (by omega)] at h1
    rw [decide_eq_false (by omega)] at h2
    clear a
    go_enter Tryz.func76, Tryz.ntmps76
    go_wp2
    go_ret
    exact ⟨rfl, rfl⟩
theorem pmark_any (c : UInt8) (w : World) : Calls Tryz.prog 91 #[.string ⟨#[45, 46, 95, 126, 33, 36, 38, 39, 40, 41, 42, 43, 44, 59, 61, 58, 64, 47]⟩, B c] w fun e w' => e = .returned (.int .i64 (Lib.indexByte pmarkL c)) ∧ w' = w := by
  have h := Any.strings_IndexByte Tryz.lays137 ⟨#[45, 46, 95, 126, 33, 36, 38, 39, 40, 41, 42, 43, 44, 59, 61, 58, 64, 47]⟩ (c.toNat : Int) w
  have e : (c.toNat : Int).toNat.toUInt8 = c := by simp
  rw [e] at h
  exact h
theorem B_sub48 (t : TypeId) (x : UInt8) (h : 48 ≤ x.toNat) : binOp .sub t (B x) (.int .u8 48) = pure (B (x - 48)) := by
  have := x.toNat_lt
  have e : (x - 48).toNat = x.toNat - 48 := by rw [UInt8.toNat_sub_of_le _ _ (by rw [UInt8.le_iff_toNat_le]; exact h)]; rfl
  have hw : IntKind.u8.wrap ((x.toNat : Int) - 48) = ((x.toNat - 48 : Nat) : Int) := by rw [IntKind.wrap_u8]; omega
  simp only [B, e]
  show pure (Value.int .u8 (IntKind.u8.wrap ((x.toNat : Int) - 48))) = _
  rw [hw]
set_option maxRecDepth 100000 in
set_option maxHeartbeats 1000000 in
theorem code_any (s : List UInt8) (hs : s.length ≤ 100000) (w : World) : Calls Tryz.prog 56 #[S s] w fun e w' => e = .returned (.int .i64 (codeOfF s : Int)) ∧ Drawn w w' := by
  have hlen := run_len_S (P := Tryz.prog) Tryz.underlying9 3 s
  by_cases h3 : s.length ≠ 3
  · have g1 : ((s.length : Int) != 3) = true := by rw [bne_iff_ne]; omega
    rw [code_none h3]
    clear h3
    go_enter Tryz.func56, Tryz.ntmps56
    go_wp2
    go_ret
    exact ⟨rfl, Drawn.refl _⟩
  replace h3 := Classical.not_not.1 h3
  obtain ⟨a, b, c, rfl⟩ : ∃ a b c, s = [a, b, c] := by
    match s, h3 with
    | [a, b, c], _ => exact ⟨a, b, c, rfl⟩
  have i0 : ∀ w, (Instr.index 9 (S [a, b, c]) (.int .i64 0)).run Tryz.prog w = .ok (B a) w := fun w => index_S (P := Tryz.prog) Tryz.underlying9 _ 0 a rfl w
  have i1 : ∀ w, (Instr.index 9 (S [a, b, c]) (.int .i64 1)).run Tryz.prog w = .ok (B b) w := fun w => index_S (P := Tryz.prog) Tryz.underlying9 _ 1 b rfl w
  have i2 : ∀ w, (Instr.index 9 (S [a, b, c]) (.int .i64 2)).run Tryz.prog w = .ok (B c) w := fun w => index_S (P := Tryz.prog) Tryz.underlying9 _ 2 c rfl w
  have hlen3 : ∀ w, (Builtin.len_ #[9] 3 #[S [a, b, c]]).run Tryz.prog w = .ok (.int .i64 3) w := hlen
  have HB := Lib.hid (fun w => inten_any b w)
  have HC := Lib.hid (fun w => inten_any c w)
  have q1 := B_lss 5 a 49
  have q2 := B_gtr 5 a 53
  have hE : codeOfF [a, b, c] = if digB a = true ∧ digB b = true ∧ digB c = true ∧ 49 ≤ a.toNat ∧ a.toNat ≤ 53 then codeN a b c else 0 := rfl
  rw [hE]
  clear hE h3 hlen hs
  generalize [a, b, c] = s at *
  rcases (by omega : a.toNat < 49 ∨ (49 ≤ a.toNat ∧ a.toNat ≤ 53) ∨ 53 < a.toNat) with k | k | k
  · rw [if_neg (fun h => by omega)]
    rw [decide_eq_true (by omega)] at q1
    clear k q2 HB HC i1 i2
    go_enter Tryz.func56, Tryz.ntmps56
    go_wp2
    go_ret
    exact ⟨rfl, Drawn.refl _⟩
  · rw [decide_eq_false (by omega)] at q1 q2
    cases hb : digB b with
    | false =>
      rw [if_neg (fun h => Bool.noConfusion h.2.1)]
      rw [hb] at HB
      clear k HC i2 hb
      go_enter Tryz.func56, Tryz.ntmps56
      go_wp2_with fail
      refine (HB.out w).mono ?_
      rintro e w1 ⟨rfl, hw1⟩
      obtain rfl := hw1.symm
      clear hw1
      go_wp2
      go_ret
      exact ⟨rfl, Drawn.refl _⟩
    | true =>
      cases hc : digB c with
      | false =>
        rw [if_neg (fun h => Bool.noConfusion h.2.2.1)]
        rw [hb] at HB
        rw [hc] at HC
        clear k hb hc
        go_enter Tryz.func56, Tryz.ntmps56
        go_wp2_with fail
        refine (HB.out w).mono ?_
        rintro e w1 ⟨rfl, hw1⟩
        obtain rfl := hw1.symm
        clear hw1
        go_wp2_with fail
        refine (HC.out w).mono ?_
        rintro e w1 ⟨rfl, hw1⟩
        obtain rfl := hw1.symm
        clear hw1
        go_wp2
        go_ret
        exact ⟨rfl, Drawn.refl _⟩
      | true =>
        have hb1 := dig_of hb
        have hc1 := dig_of hc
        rw [if_pos ⟨by unfold digB; simp; omega, rfl, rfl, k.1, k.2⟩]
        rw [hb] at HB
        rw [hc] at HC
        have s0 := B_sub48 5 a (by omega)
        have s1 := B_sub48 5 b hb1.1
        have s2 := B_sub48 5 c hc1.1
        have e0 : (a - 48).toNat = a.toNat - 48 := by rw [UInt8.toNat_sub_of_le _ _ (by rw [UInt8.le_iff_toNat_le]; show 48 ≤ _; omega)]; rfl
        have e1 : (b - 48).toNat = b.toNat - 48 := by rw [UInt8.toNat_sub_of_le _ _ (by rw [UInt8.le_iff_toNat_le]; exact hb1.1)]; rfl
        have e2 : (c - 48).toNat = c.toNat - 48 := by rw [UInt8.toNat_sub_of_le _ _ (by rw [UInt8.le_iff_toNat_le]; exact hc1.1)]; rfl
        have c0 := fun w => conv_byte (P := Tryz.prog) Tryz.underlying5 Tryz.underlying3 (a - 48) w
        have c1 := fun w => conv_byte (P := Tryz.prog) Tryz.underlying5 Tryz.underlying3 (b - 48) w
        have c2 := fun w => conv_byte (P := Tryz.prog) Tryz.underlying5 Tryz.underlying3 (c - 48) w
        rw [e0] at c0
        rw [e1] at c1
        rw [e2] at c2
        obtain ⟨x, hx⟩ : ∃ x, x = a.toNat - 48 := ⟨_, rfl⟩
        obtain ⟨y, hy⟩ : ∃ y, y = b.toNat - 48 := ⟨_, rfl⟩
        obtain ⟨z, hz⟩ : ∃ z, z = c.toNat - 48 := ⟨_, rfl⟩
        rw [← hx] at c0
        rw [← hy] at c1
        rw [← hz] at c2
        have HR : Hid (codeN a b c = 100 * x + 10 * y + z) := Lib.hid (by unfold codeN; rw [hx, hy, hz])
        have w0 : IntKind.i64.wrap ((x : Int) * 100) = (x : Int) * 100 := by rw [IntKind.wrap_i64]; omega
        have w1 : IntKind.i64.wrap ((y : Int) * 10) = (y : Int) * 10 := by rw [IntKind.wrap_i64]; omega
        have w2 : IntKind.i64.wrap ((x : Int) * 100 + (y : Int) * 10) = (x : Int) * 100 + (y : Int) * 10 := by rw [IntKind.wrap_i64]; omega
        have w3 : IntKind.i64.wrap ((x : Int) * 100 + (y : Int) * 10 + (z : Int)) = (x : Int) * 100 + (y : Int) * 10 + (z : Int) := by rw [IntKind.wrap_i64]; omega
        have hR : ((codeN a b c : Nat) : Int) = (x : Int) * 100 + (y : Int) * 10 + (z : Int) := by rw [HR.out]; omega
        rw [hR]
        clear hx hy hz e0 e1 e2 hb1 hc1 hb hc k hR HR
        go_enter Tryz.func56, Tryz.ntmps56
        go_wp2_with fail
        refine (HB.out w).mono ?_
        rintro e w1 ⟨rfl, hw1⟩
        obtain rfl := hw1.symm
        clear hw1
        go_wp2_with fail
        refine (HC.out w).mono ?_
        rintro e w1 ⟨rfl, hw1⟩
        obtain rfl := hw1.symm
        clear hw1
        go_wp2
        clear HB HC q1 q2 hlen3
        have hmx : Tryz.prog.follows .mixedOrders = true := by kernel_rfl
        go_region
        go_wp2
        go_ret
        exact ⟨rfl, 1, rfl⟩
  · rw [if_neg (fun h => by omega)]
    rw [decide_eq_false (by omega)] at q1
    rw [decide_eq_true (by omega)] at q2
    clear k HB HC i1 i2
    go_enter Tryz.func56, Tryz.ntmps56
    go_wp2
    go_ret
    exact ⟨rfl, Drawn.refl _⟩
set_option maxRecDepth 100000 in
set_option maxHeartbeats 1000000 in
theorem isreason_any (s : List UInt8) (hs : s.length ≤ 99998) (w : World) : Calls Tryz.prog 57 #[S s] w fun e w' => e = .returned (.bool (s.all valB)) ∧ Below w.heap.size w w' := by
  have ha : binOp .add 9 (.string ⟨#[120, 58]⟩) (S s) = pure (S (120 :: 58 :: s)) := S_add 9 [120, 58] s (by simp; omega)
  have hP := fun w => parse10_any (120 :: 58 :: s) (by simp; omega) w
  have hx := parse_x s
  obtain ⟨⟨n, v, k⟩, hp⟩ : ∃ p, p = parseF (120 :: 58 :: s) := ⟨_, rfl⟩
  rw [← hp] at hP hx
  rw [show parseV (n, v, k) = .tuple #[.agg #[S n, S v], .bool k] from rfl] at hP
  rw [← hx]
  have HP := Lib.hid hP
  clear hP hx hp
  generalize (120 :: 58 :: s) = T at *
  go_enter Tryz.func57, Tryz.ntmps57
  go_wp2_with fail
  refine (HP.out w).mono ?_
  rintro e W ⟨rfl, hB⟩
  have HB := Lib.hid hB
  clear hB HP ha
  go_wp2
  go_ret
  exact ⟨rfl, HB.out.alloc HB.out.size _⟩
end Go.Proofs.YtfdbmbgpcioogaaGreatDoor
/- The landed package of lines does what is asked of it: Parse, Target, Status. (mklz.py writes it.) -/
namespace Go.Proofs.YtfdbmbgpcioogaaGreatDoor
open Go.RowKit
attribute [local go_sem] store_one S_match S_store eguard_BN nguard_BN
theorem results_t4 {fn : Func} {t u v x : Tmp} (h : fn.results = #[.tmp t, .tmp u, .tmp v, .tmp x]) (tmps : Array Value) (P : Program) (w : World) :
    (results fn tmps).run P w = .ok (.tuple #[tmps.getD t undef, tmps.getD u undef, tmps.getD v undef, tmps.getD x undef]) w := by
  simp [results, h, go_sem]

set_option maxRecDepth 100000 in
set_option maxHeartbeats 1000000 in
theorem lstatus_any (s : List UInt8) (w : World) (hs : s.length ≤ 100000) : Calls Tryz.prog 45 #[S s] w fun e w' => e = .returned (statusV (statusF s)) ∧ Below w.heap.size w w' := by
  have fin : ∀ (v r d q : List UInt8) (b1 b2 : Bool), d.length ≤ 100000 → q.length ≤ 99998 →
      (∀ w, Calls Tryz.prog 29 #[S s, .string ⟨#[32]⟩] w fun e w' => e = .returned (.tuple #[S v, S r, .bool b1]) ∧ Drawn w w') →
      (∀ w, Calls Tryz.prog 29 #[S r, .string ⟨#[32]⟩] w fun e w' => e = .returned (.tuple #[S d, S q, .bool b2]) ∧ Drawn w w') →
      statusF s = (if (v == hver1 && codeOfF d != 0 && b2 && q.all valB) = true then (codeOfF d, q, true) else (0, [], false)) →
      Calls Tryz.prog 45 #[S s] w fun e w' => e = .returned (statusV (statusF s)) ∧ Below w.heap.size w w' := by
    intro v r d q b1 b2 hd hq h1 h2 hE
    rw [hE]
    have H1 := Lib.hid h1
    have H2 := Lib.hid h2
    have H3 := Lib.hid (fun w => code_any d hd w)
    have H4 := Lib.hid (fun w => isreason_any q hq w)
    have hn : binOp .neq 9 (S v) (.string ⟨#[72, 84, 84, 80, 47, 49, 46, 49]⟩) = pure (.bool (v != hver1)) := neql_S 9 v hver1
    have hg : ∀ x y, eqGuard .neq 9 x y (S v) (.string ⟨#[72, 84, 84, 80, 47, 49, 46, 49]⟩) = pure () := fun x y => nguard_S 9 x y v hver1
    obtain ⟨n, hnn⟩ : ∃ n, n = codeOfF d := ⟨_, rfl⟩
    rw [← hnn] at H3
    rw [← hnn]
    clear h1 h2 hE hs hd hq hnn
    by_cases a : v = hver1
    · rw [show (v == hver1) = true from beq_iff_eq.2 a, Bool.true_and]
      rw [show (v != hver1) = false by rw [a]; rfl] at hn
      clear a
      by_cases c : n = 0
      · have k : ((n : Int) == 0) = true := by rw [beq_iff_eq]; omega
        rw [show (n != 0) = false by rw [c]; rfl, Bool.false_and, Bool.false_and, if_neg Bool.false_ne_true]
        clear c H4
        go_enter Tryz.func45, Tryz.ntmps45
        go_wp2_with fail
        refine (H1.out w).mono ?_
        rintro e W1 ⟨rfl, hd1⟩
        have D1 := Lib.hid hd1
        clear hd1 H1
        go_wp2_with fail
        refine (H2.out W1).mono ?_
        rintro e W2 ⟨rfl, hd2⟩
        have D2 := Lib.hid (D1.out.trans hd2)
        clear hd2 H2 D1
        go_wp2_with fail
        refine (H3.out W2).mono ?_
        rintro e W3 ⟨rfl, hd3⟩
        have D3 := Lib.hid (D2.out.trans hd3)
        clear hd3 H3 D2
        go_wp2
        go_ret3
        exact ⟨rfl, D3.out.below⟩
      · have k : ((n : Int) == 0) = false := by rw [beq_eq_false_iff_ne]; omega
        rw [show (n != 0) = true from bne_iff_ne.2 c, Bool.true_and]
        clear c
        cases b2 with
        | false =>
          rw [Bool.false_and, if_neg Bool.false_ne_true]
          clear H4
          go_enter Tryz.func45, Tryz.ntmps45
          go_wp2_with fail
          refine (H1.out w).mono ?_
          rintro e W1 ⟨rfl, hd1⟩
          have D1 := Lib.hid hd1
          clear hd1 H1
          go_wp2_with fail
          refine (H2.out W1).mono ?_
          rintro e W2 ⟨rfl, hd2⟩
          have D2 := Lib.hid (D1.out.trans hd2)
          clear hd2 H2 D1
          go_wp2_with fail
          refine (H3.out W2).mono ?_
          rintro e W3 ⟨rfl, hd3⟩
          have D3 := Lib.hid (D2.out.trans hd3)
          clear hd3 H3 D2
          go_wp2
          go_ret3
          exact ⟨rfl, D3.out.below⟩
        | true =>
          rw [Bool.true_and]
          cases y : q.all valB with
          | false =>
            rw [y] at H4
            rw [if_neg Bool.false_ne_true]
            clear y
            go_enter Tryz.func45, Tryz.ntmps45
            go_wp2_with fail
            refine (H1.out w).mono ?_
            rintro e W1 ⟨rfl, hd1⟩
            have D1 := Lib.hid hd1
            clear hd1 H1
            go_wp2_with fail
            refine (H2.out W1).mono ?_
            rintro e W2 ⟨rfl, hd2⟩
            have D2 := Lib.hid (D1.out.trans hd2)
            clear hd2 H2 D1
            go_wp2_with fail
            refine (H3.out W2).mono ?_
            rintro e W3 ⟨rfl, hd3⟩
            have D3 := Lib.hid (D2.out.trans hd3)
            clear hd3 H3 D2
            go_wp2_with fail
            refine (H4.out W3).mono ?_
            rintro e W4 ⟨rfl, hb4⟩
            have D4 := Lib.hid (D3.out.below.trans (hb4.mono D3.out.below.size))
            clear hb4 H4 D3
            go_wp2
            go_ret3
            exact ⟨rfl, D4.out⟩
          | true =>
            rw [y] at H4
            rw [if_pos rfl]
            clear y
            go_enter Tryz.func45, Tryz.ntmps45
            go_wp2_with fail
            refine (H1.out w).mono ?_
            rintro e W1 ⟨rfl, hd1⟩
            have D1 := Lib.hid hd1
            clear hd1 H1
            go_wp2_with fail
            refine (H2.out W1).mono ?_
            rintro e W2 ⟨rfl, hd2⟩
            have D2 := Lib.hid (D1.out.trans hd2)
            clear hd2 H2 D1
            go_wp2_with fail
            refine (H3.out W2).mono ?_
            rintro e W3 ⟨rfl, hd3⟩
            have D3 := Lib.hid (D2.out.trans hd3)
            clear hd3 H3 D2
            go_wp2_with fail
            refine (H4.out W3).mono ?_
            rintro e W4 ⟨rfl, hb4⟩
            have D4 := Lib.hid (D3.out.below.trans (hb4.mono D3.out.below.size))
            clear hb4 H4 D3
            go_wp2
            go_ret3
            exact ⟨rfl, D4.out⟩
    · rw [show (v == hver1) = false from beq_eq_false_iff_ne.2 a, Bool.false_and, Bool.false_and, Bool.false_and, if_neg Bool.false_ne_true]
      rw [show (v != hver1) = true from bne_iff_ne.2 a] at hn
      clear a H4
      go_enter Tryz.func45, Tryz.ntmps45
      go_wp2_with fail
      refine (H1.out w).mono ?_
      rintro e W1 ⟨rfl, hd1⟩
      have D1 := Lib.hid hd1
      clear hd1 H1
      go_wp2_with fail
      refine (H2.out W1).mono ?_
      rintro e W2 ⟨rfl, hd2⟩
      have D2 := Lib.hid (D1.out.trans hd2)
      clear hd2 H2 D1
      go_wp2_with fail
      refine (H3.out W2).mono ?_
      rintro e W3 ⟨rfl, hd3⟩
      have D3 := Lib.hid (D2.out.trans hd3)
      clear hd3 H3 D2
      go_wp2
      go_ret3
      exact ⟨rfl, D3.out.below⟩
  rcases cut_cases 32 s with ⟨v, r, rfl, hab⟩ | hm
  · rw [List.length_append, List.length_cons] at hs
    rcases cut_cases 32 r with ⟨d, q, rfl, hab2⟩ | hm2
    · rw [List.length_append, List.length_cons] at hs
      exact fin v (d ++ 32 :: q) d q true true (by omega) (by omega) (fun w => cut_hit 32 v _ hab (by rw [List.length_append, List.length_cons]; omega) w) (fun w => cut_hit 32 d q hab2 (by omega) w) (by rw [stat_two hab hab2, Bool.and_true])
    · exact fin v r r [] true false (by omega) (by simp) (fun w => cut_hit 32 v _ hab (by omega) w) (fun w => cut_miss 32 r hm2 w) (by
        rw [stat_miss2 hab hm2, Bool.and_false, Bool.false_and, if_neg Bool.false_ne_true])
  · exact fin s [] [] [] false false (by simp) (by simp) (fun w => cut_miss 32 s hm w) (fun w => cut_miss 32 [] (by simp) w) (by
      rw [stat_miss hm, Bool.and_false, Bool.false_and, if_neg Bool.false_ne_true])
end Go.Proofs.YtfdbmbgpcioogaaGreatDoor
/- The landed headOf walked. (mkpx6.py writes it.) -/
namespace Go.Proofs.YtfdbmbgpcioogaaGreatDoor
open Go.RowKit Go.Shelf
attribute [local go_sem] store_one S_match S_store eguard_BN nguard_BN

def lenV (v : Value) : Nat := match v with | .string s => s.size | _ => 0
def toB (v : Value) : Bool := match v with | .bool b => b | _ => false
def goOn (rv mv : Value) : Nat := if toB mv = true then lenV rv + 1 else 0
theorem lenV_S (s : List UInt8) : lenV (S s) = s.length := S_size s
theorem parse_short {l : List UInt8} (h : l.length ≤ 100000) : (parseF l).1.length ≤ 100000 ∧ (parseF l).2.1.length ≤ 100000 := by
  obtain ⟨⟨a1, a2, a3⟩, ha⟩ : ∃ x, parseF l = x := ⟨_, rfl⟩
  rw [ha]
  cases a3 with
  | true => obtain ⟨_, _, _, h4, h5, _⟩ := parse_true ha; exact ⟨by dsimp only; omega, by dsimp only; omega⟩
  | false => obtain ⟨h4, h5⟩ := parse_no ha; subst h4 h5; simp
/-- What headOf tells. -/
def HdPost (w : World) (x : Nat × List Fld × Bool) (e : Ending) (w' : World) : Prop := ∃ v, e = .returned (.tuple #[.int .i64 (x.1 : Int), v, .bool x.2.2]) ∧ OthAt w v x.2.1 w'
/-- How far the lines are read: those in pr are; while more is true the text r holds the rest. -/
structure LnSt (ls pr : List (List UInt8)) (more : Bool) (r : List UInt8) : Prop where
  all : pr ++ (if more = true then lnsF [] r else []) = ls
  len : r.length ≤ 100000
theorem ln_step {ls pr : List (List UInt8)} {r : List UInt8} (h : LnSt ls pr true r) : ∃ l r' m, cutF r [13, 10] = (l, r', m) ∧ LnSt ls (pr ++ [l]) m r' ∧ l.length ≤ 100000 ∧ (m = true → r'.length < r.length) := by
  have ha := h.all
  rw [if_pos rfl] at ha
  rcases cut_line r with ⟨l, r', hc, hl, hn⟩ | ⟨hc, hl⟩
  · have h2 := hl []
    rw [List.nil_append] at h2
    exact ⟨l, r', true, hc, ⟨by rw [if_pos rfl, List.append_assoc, List.singleton_append, ← h2]; exact ha, by have := h.len; omega⟩, by have := h.len; omega, fun _ => by omega⟩
  · have h2 := hl []
    rw [List.nil_append] at h2
    exact ⟨r, [], false, hc, ⟨by rw [if_neg Bool.false_ne_true, List.append_nil, ← h2]; exact ha, by simp⟩, h.len, fun e => by cases e⟩
theorem ln_first (s : List UInt8) (hs : s.length ≤ 100000) : ∃ l0 r m ls, cutF s [13, 10] = (l0, r, m) ∧ lnsF [] s = l0 :: ls ∧ LnSt ls [] m r ∧ l0.length ≤ 100000 := by
  rcases cut_line s with ⟨l, r', hc, hl, hn⟩ | ⟨hc, hl⟩
  · have h2 := hl []
    rw [List.nil_append] at h2
    exact ⟨l, r', true, _, hc, h2, ⟨by rw [if_pos rfl]; rfl, by omega⟩, by omega⟩
  · have h2 := hl []
    rw [List.nil_append] at h2
    exact ⟨s, [], false, [], hc, h2, ⟨by rw [if_neg Bool.false_ne_true]; rfl, by simp⟩, hs⟩
set_option maxRecDepth 100000 in
set_option maxHeartbeats 2000000 in
theorem headof_any (s : List UInt8) (hs : s.length ≤ 100000) (w : World) (hm : MaxAt w) :
    Calls Tryz.prog 31 #[S s] w (HdPost w (headOfL (lnsF [] s))) := by
  obtain ⟨l0, r0, m0, ls, hcut, hln, hst, hl0⟩ := ln_first s hs
  have hc0 := fun W h => cut_any s [13, 10] hs W h
  rw [hcut] at hc0
  have HC0 := Lib.hid hc0
  have hs0 := fun W => lstatus_any l0 W hl0
  obtain ⟨⟨cd, rs, sok⟩, hsf⟩ : ∃ x, x = statusF l0 := ⟨_, rfl⟩
  rw [← hsf] at hs0
  have HS0 := Lib.hid hs0
  have hH : headOfL (lnsF [] s) = if sok = true ∧ (∀ l ∈ ls, (parseF l).2.2 = true) then (cd, ls.map pfF, true) else (0, [], false) := by
    rw [hln]
    unfold headOfL
    dsimp only
    rw [← hsf]
  obtain ⟨PO, hPO⟩ : ∃ PO, PO = HdPost w (headOfL (lnsF [] s)) := ⟨_, rfl⟩
  rw [← hPO]
  have HBAD : Hid ((sok = false ∨ ∃ l ∈ ls, (parseF l).2.2 = false) → ∀ W, Below w.heap.size w W → PO (.returned (.tuple #[.int .i64 0, .slice none 0 0, .bool false])) W) := Lib.hid fun h W hW => by
    rw [hPO, hH, if_neg]
    · exact ⟨_, rfl, World.ownsRow_nil _ _ _ _, hW⟩
    · rintro ⟨h1, h2⟩
      rcases h with h | ⟨l, hl, h⟩
      · rw [h] at h1; cases h1
      · rw [h2 l hl] at h; cases h
  have HGOOD : Hid (sok = true → (∀ l ∈ ls, (parseF l).2.2 = true) → ∀ v W, OthAt w v (ls.map pfF) W → PO (.returned (.tuple #[.int .i64 (cd : Int), v, .bool true])) W) := Lib.hid fun h1 h2 v W hW => by
    rw [hPO, hH, if_pos ⟨h1, h2⟩]
    exact ⟨v, rfl, hW⟩
  have HST := Lib.hid hst
  have HM := Lib.hid hm
  clear hcut hln hst hc0 hs0 hsf hH hPO hm hs hl0
  go_enter Tryz.func31, Tryz.ntmps31
  go_wp2_with fail
  refine (HC0.out _ HM.out).mono ?_
  rintro e W1 ⟨rfl, hB⟩
  have H1 := Lib.hid hB
  clear hB
  unfold cutV
  go_wp2_with fail
  refine (HS0.out _).mono ?_
  rintro e W2 ⟨rfl, hB⟩
  have H2 := Lib.hid (H1.out.trans (hB.mono H1.out.size))
  clear hB H1
  unfold statusV
  go_wp2_with fail
  go_loopw [3, 4, 6, 7] (fun fv ov rv mv wr => ∃ (pr : List (List UInt8)) (v : Value) (more : Bool) (r : List UInt8) (ok : Bool), fv = v ∧ ov = .bool ok ∧ rv = S r ∧ mv = .bool more ∧ Hid (LnSt ls pr more r ∧ OthAt w v (pr.map pfF) wr ∧ pr.length + (if more = true then r.length + 1 else 0) ≤ 100001 ∧ (ok = true ↔ sok = true ∧ ∀ l ∈ pr, (parseF l).2.2 = true))) (fun _ _ rv mv _ => goOn rv mv)
  case atStart => exact ⟨[], _, _, _, _, rfl, rfl, rfl, rfl, Lib.hid ⟨HST.out, ⟨World.ownsRow_nil _ _ _ _, H2.out⟩, by have := HST.out.len; rw [List.length_nil]; split <;> omega, by simp⟩⟩
  case round =>
    obtain ⟨pr, _, more, r, ok, rfl, rfl, rfl, rfl, HR⟩ := hrel
    cases ok with
    | false =>
      have HB : Hid (sok = false ∨ ∃ l ∈ ls, (parseF l).2.2 = false) := Lib.hid (by
        obtain ⟨h1, _, _, h4⟩ := HR.out
        cases hso : sok with
        | false => exact .inl rfl
        | true =>
          right
          refine Classical.byContradiction fun hno => ?_
          have h5 := h4.2 ⟨hso, fun l hl => by
            cases hx : (parseF l).2.2 with
            | true => rfl
            | false => exact absurd ⟨l, by rw [← h1.all]; exact List.mem_append_left _ hl, hx⟩ hno⟩
          cases h5)
      have HBW := Lib.hid HR.out.2.1.2
      go_wp2
      go_ret3
      exact HBAD.out HB.out _ HBW.out
    | true =>
    cases more with
    | false =>
      have HALL : Hid (sok = true ∧ (∀ l ∈ ls, (parseF l).2.2 = true) ∧ OthAt w u3 (ls.map pfF) wr) := Lib.hid (by
        obtain ⟨h1, h2, _, h4⟩ := HR.out
        have ha := h1.all
        rw [if_neg Bool.false_ne_true, List.append_nil] at ha
        rw [ha] at h2 h4
        obtain ⟨h5, h6⟩ := h4.1 (by first | rfl | trivial)
        exact ⟨h5, h6, h2⟩)
      go_wp2
      go_ret3
      exact HGOOD.out HALL.out.1 HALL.out.2.1 _ _ HALL.out.2.2
    | true =>
      obtain ⟨l, r', m, hcut, hst, hl, hlt⟩ := ln_step HR.out.1
      have hc := fun W h => cut_any r [13, 10] HR.out.1.len W h
      rw [hcut] at hc
      unfold cutV at hc
      have HC := Lib.hid hc
      have hp := fun W => parse10_any l hl W
      have HPF : Hid (pfF l = ((parseF l).1, (parseF l).2.1)) := Lib.hid rfl
      obtain ⟨⟨n, u, fine⟩, hpf⟩ : ∃ x, x = parseF l := ⟨_, rfl⟩
      rw [← hpf] at hp HPF
      unfold parseV at hp
      dsimp only at hp HPF hc
      have HP := Lib.hid hp
      have HN : Hid (LnSt ls (pr ++ [l]) m r' ∧ (m = true → r'.length < r.length) ∧ (parseF l).2.2 = fine) := Lib.hid ⟨hst, hlt, by rw [← hpf]⟩
      have HMW := Lib.hid (HM.out.below HR.out.2.1.2)
      clear hcut hc hst hl hlt hp hpf
      go_wp2_with fail
      refine (HC.out _ HMW.out).mono ?_
      rintro e W3 ⟨rfl, hB⟩
      have H3 := Lib.hid hB
      clear hB
      obtain ⟨W4, hW4⟩ : ∃ W, W = W3.alloc (.cells #[.string ⟨#[]⟩, .string ⟨#[]⟩] 35) := ⟨_, rfl⟩
      obtain ⟨b4, hb4⟩ : ∃ b, b = W3.heap.size := ⟨_, rfl⟩
      have hB4 : Below wr.heap.size wr W4 := by rw [hW4]; exact H3.out.alloc H3.out.size _
      have hr4 : Row W4 b4 #[.string ⟨#[]⟩, .string ⟨#[]⟩] 35 := by rw [hW4, hb4]; exact row_new _ _ _
      have H4 := Lib.hid (And.intro hB4 (And.intro hr4 (show wr.heap.size ≤ b4 by rw [hb4]; exact H3.out.size)))
      clear hB4 hr4
      go_wp2_with fail
      all_goals try rw [← hW4, ← hb4]
      all_goals try go_wp2_with fail
      clear hW4 hb4
      refine (HP.out _).mono ?_
      rintro e W5 ⟨rfl, hB⟩
      have hr5 := H4.out.2.1.below hB H4.out.2.1.lt
      have d0 : W5.cell? ⟨b4, 0, none⟩ = some (.string ⟨#[]⟩) := cell_of_row W5 _ 0 _ _ (0, 0) hr5
      have df0 : W5.frozen? ⟨b4, 0, none⟩ = false := Row.frozen hr5 0
      have d1 : W5.cell? ⟨b4, 1, none⟩ = some (.string ⟨#[]⟩) := cell_of_row W5 _ 1 _ _ (0, 0) hr5
      have df1 : W5.frozen? ⟨b4, 1, none⟩ = false := Row.frozen hr5 1
      have hr6 : Row ((W5.setCell ⟨b4, 0, none⟩ (S n)).setCell ⟨b4, 1, none⟩ (S u)) b4 #[S n, S u] 35 := (hr5.set 0 (S n)).set 1 (S u)
      have e0 : ((W5.setCell ⟨b4, 0, none⟩ (S n)).setCell ⟨b4, 1, none⟩ (S u)).cell? ⟨b4, 0, none⟩ = some (S n) := cell_of_row _ _ 0 _ _ (0, 0) hr6
      have e1 : ((W5.setCell ⟨b4, 0, none⟩ (S n)).setCell ⟨b4, 1, none⟩ (S u)).cell? ⟨b4, 1, none⟩ = some (S u) := cell_of_row _ _ 1 _ _ (0, 0) hr6
      have hB6 : Below wr.heap.size wr ((W5.setCell ⟨b4, 0, none⟩ (S n)).setCell ⟨b4, 1, none⟩ (S u)) :=
        ((H4.out.1.trans (hB.mono H4.out.1.size)).setCell (p := ⟨b4, 0, none⟩) H4.out.2.2 (S n)).setCell (p := ⟨b4, 1, none⟩) H4.out.2.2 (S u)
      have H6 := Lib.hid (HR.out.2.1.below hB6)
      obtain ⟨gs, hgs⟩ : ∃ gs, gs = pr.map pfF := ⟨_, rfl⟩
      have hgl : gs.length < 1000000 := by
        have h1 : pr.length + (r.length + 1) ≤ 100001 := by simpa using HR.out.2.2.1
        rw [hgs, List.length_map]; omega
      have HGS : Hid ((pr ++ [l]).map pfF = gs ++ [(n, u)]) := Lib.hid (by rw [List.map_append, List.map_singleton, HPF.out, ← hgs])
      have HOK : Hid (fine = true ↔ sok = true ∧ ∀ k ∈ pr ++ [l], (parseF k).2.2 = true) := Lib.hid (by
        obtain ⟨h5, h6⟩ := HR.out.2.2.2.1 (by first | rfl | trivial)
        constructor
        · intro hf
          exact ⟨h5, fun k hk => by
            rcases List.mem_append.1 hk with hk | hk
            · exact h6 k hk
            · rw [List.mem_singleton] at hk; subst hk; rw [HN.out.2.2]; exact hf⟩
        · rintro ⟨_, h⟩
          have := h l (by simp)
          rw [HN.out.2.2] at this; exact this)
      have HLEN : Hid ((pr ++ [l]).length + (if m = true then r'.length + 1 else 0) ≤ 100001) := Lib.hid (by
        have h1 : pr.length + (r.length + 1) ≤ 100001 := by simpa using HR.out.2.2.1
        have h3 := HN.out.2.1
        rw [List.length_append, List.length_singleton]
        split
        · rename_i hmm
          have := h3 hmm
          omega
        · omega)
      rw [← hgs] at H6
      have hone : ∀ x ∈ (#[S n, S u] : Array Value).toList, x.oneCell' = true := by
        intro x hx
        simp only [List.mem_cons, List.not_mem_nil, or_false] at hx
        rcases hx with rfl | rfl <;> rfl
      have hsz := H6.out.2.size
      have h57 : ((W5.setCell ⟨b4, 0, none⟩ (S n)).setCell ⟨b4, 1, none⟩ (S u)).heap.size = W5.heap.size := by simp [World.setCell]
      have HSZ := Lib.hid (And.intro hsz h57)
      clear hr5 hr6 hB hB6 hgs HR hsz h57
      go_wp2_with (at_builtin; refine wpList_addK rfl 22 35 (.tmp 37) (.tmp 39) rfl Tryz.underlying22 eleF (by omega) w.heap.size ((W5.setCell ⟨b4, 0, none⟩ (S n)).setCell ⟨b4, 1, none⟩ (S u)) u3 rfl gs.length (fcells gs) H6.out.1 #[S n, S u] rfl hone rfl W5.heap.size HSZ.out.2 rfl hgl HSZ.out.1 ?_; intro gg cap W9 o2 g2; have H9 : Hid (OthAt w (.slice (some ⟨gg, 0, none⟩) (gs.length + 1) cap) ((pr ++ [l]).map pfF) W9) := Lib.hid (by rw [HGS.out]; exact ⟨by rw [fcells_snoc, List.length_append]; exact o2, H6.out.2.grown g2 HSZ.out.1 (fun k e => (H6.out.1.lt k e).1)⟩); clear o2 g2)
      exact ⟨⟨pr ++ [l], _, m, r', fine, rfl, rfl, rfl, rfl, Lib.hid ⟨HN.out.1, H9.out, HLEN.out, HOK.out⟩⟩, by
        have := HN.out.2.1
        unfold goOn
        rw [lenV_S, lenV_S]
        cases m with
        | false => simp [toB]
        | true => have := this rfl; simp [toB]; omega⟩
end Go.Proofs.YtfdbmbgpcioogaaGreatDoor
/- The landed Read walked. (mkpx7.py writes it.) -/
namespace Go.Proofs.YtfdbmbgpcioogaaGreatDoor
open Go.RowKit Go.Shelf
attribute [local go_sem] store_one S_match S_store eguard_BN nguard_BN

theorem lns_short : ∀ (n : Nat) (s : List UInt8), s.length ≤ n → (lnsF [] s).length ≤ s.length + 1 ∧ ∀ l ∈ lnsF [] s, l.length ≤ s.length
  | n, s, hn => by
    have hge := Lib.index_ge s [13, 10]
    obtain ⟨i1, i2⟩ := lns_index s []
    by_cases hm : Lib.index s [13, 10] = -1
    · rw [i1 hm]; simp
    · obtain ⟨j, hj⟩ : ∃ j : Nat, Lib.index s [13, 10] = j := ⟨(Lib.index s [13, 10]).toNat, by omega⟩
      have hne : s ≠ [] := by rintro rfl; exact hm rfl
      have hpos : 0 < s.length := List.length_pos_iff.2 hne
      rw [i2 j hj]
      obtain ⟨m, rfl⟩ : ∃ m, n = m + 1 := ⟨n - 1, by omega⟩
      obtain ⟨h1, h2⟩ := lns_short m (s.drop (j + 2)) (by rw [List.length_drop]; omega)
      rw [List.length_drop] at h1 h2
      refine ⟨by rw [List.length_cons]; omega, fun l hl => ?_⟩
      rcases List.mem_cons.1 hl with rfl | hl
      · simp; omega
      · have := h2 l hl; omega
theorem head_few (text : List UInt8) (ht : text.length ≤ 99999) : (headOfL (lnsF [] text)).2.1.length ≤ 100000 ∧ ∀ f ∈ (headOfL (lnsF [] text)).2.1, f.1.length ≤ 100000 ∧ f.2.length ≤ 100000 := by
  obtain ⟨h1, h2⟩ := lns_short text.length text (Nat.le_refl _)
  unfold headOfL
  cases hl : lnsF [] text with
  | nil => exact ⟨by simp, fun f hf => (by cases hf)⟩
  | cons l0 ls =>
    rw [hl] at h1 h2
    dsimp only
    split
    · refine ⟨by rw [List.length_map]; rw [List.length_cons] at h1; omega, fun f hf => ?_⟩
      obtain ⟨l, hm, rfl⟩ := List.mem_map.1 hf
      have := h2 l (List.mem_cons_of_mem _ hm)
      exact parse_short (by omega)
    · exact ⟨by simp, fun f hf => (by cases hf)⟩
/-- Four results, the first one in a variable of its own. -/
theorem rp_end {fn : Func} {p u v x : Tmp} (h : fn.results = #[.cell p 24, .tmp u, .tmp v, .tmp x]) (tmps : Array Value) (w : World) (g : Nat) (cs : Array Value)
    (hp : tmps.getD p undef = .pointer (some ⟨g, 0, none⟩)) (hg : Row w g cs 24) (h3 : cs.size = 3) :
    (results fn tmps).run Tryz.prog w = .ok (.tuple #[.agg cs, tmps.getD u undef, tmps.getD v undef, tmps.getD x undef]) w := by
  have hp' : tmps[p]?.getD undef = .pointer (some ⟨g, 0, none⟩) := by simpa using hp
  have hi : (Tryz.prog.info? 24).map (·.size) = some cs.size := by rw [h3]; kernel_rfl
  simp [results, h, hp', asAddr, run_loadVar_row w g 24 24 cs (0, 0) _ hg Tryz.underlying24 rfl hi]
def put3 (W : World) (b : Nat) (v0 v1 v2 : Value) : World := ((W.setCell ⟨b, 0, none⟩ v0).setCell ⟨b, 1, none⟩ v1).setCell ⟨b, 2, none⟩ v2
theorem put3_row {W : World} {b : Nat} {t : TypeId} {a0 a1 a2 : Value} (h : Row W b #[a0, a1, a2] t) (v0 v1 v2 : Value) : Row (put3 W b v0 v1 v2) b #[v0, v1, v2] t := ((h.set 0 v0).set 1 v1).set 2 v2
theorem put3_below {n : Nat} {w W : World} {b : Nat} (h : Below n w W) (hb : n ≤ b) (v0 v1 v2 : Value) : Below n w (put3 W b v0 v1 v2) :=
  ((h.setCell (p := ⟨b, 0, none⟩) hb v0).setCell (p := ⟨b, 1, none⟩) hb v1).setCell (p := ⟨b, 2, none⟩) hb v2
theorem own_put3 {W : World} {base b : Nat} {e : TypeId} {k n : Nat} {v : Value} {xs : List Value} (h : W.ownsRow base e k v n xs) (hb : b < base) (v0 v1 v2 : Value) : (put3 W b v0 v1 v2).ownsRow base e k v n xs :=
  row_own_set (row_own_set (row_own_set h hb) hb) hb
set_option maxRecDepth 100000 in
set_option maxHeartbeats 2000000 in
theorem read10l_any (s : List UInt8) (head : Bool) (hs : s.length ≤ 100000) (w : World) (hm : MaxAt w) :
    Calls Tryz.prog 15 #[S s, .bool head] w fun e w' => ReadV (readF s head) e w w' := by
  rw [← read_same]
  obtain ⟨b4, hb4⟩ : ∃ b, b = w.heap.size := ⟨_, rfl⟩
  obtain ⟨W0, hW0⟩ : ∃ W, W = w.alloc (.cells #[.int .i64 0, .slice none 0 0, .string ⟨#[]⟩] 24) := ⟨_, rfl⟩
  have hB0 : Below w.heap.size w W0 := by rw [hW0]; exact (Below.refl _ w).alloc (Nat.le_refl _) _
  have hr0 : Row W0 b4 #[.int .i64 0, .slice none 0 0, .string ⟨#[]⟩] 24 := by rw [hW0, hb4]; exact row_new _ _ _
  have H0 := Lib.hid (And.intro hB0 hr0)
  have HB4 := Lib.hid hb4
  have hc := fun W h => cut_any s [13, 10, 13, 10] hs W h
  rw [cut_end] at hc
  have HM0 := Lib.hid (hm.below hB0)
  obtain ⟨RD, hRD⟩ : ∃ RD, RD = readL s head := ⟨_, rfl⟩
  rw [← hRD]
  have hR := hRD
  unfold readL at hR
  -- nothing is read
  have HZ : Hid (∀ (W : World) (tmps : Array Value) (k : Int), Row W b4 #[.int .i64 0, .slice none 0 0, .string ⟨#[]⟩] 24 → Below w.heap.size w W → tmps.getD 4 undef = .pointer (some ⟨b4, 0, none⟩) → tmps.getD 5 undef = .bool false → tmps.getD 6 undef = .int .i64 0 → tmps.getD 7 undef = .int .i64 k →
      (k = 7 ∧ RD = .short ∨ k = 8 ∧ RD = .form) →
      bodyPost Tryz.prog Tryz.f15 (fun e w' => ReadV RD e w w') .ret { tmps := tmps, defers := [] } (put3 W b4 (.int .i64 0) (.slice none 0 0) (.string ⟨#[]⟩))) := Lib.hid fun W tmps k hr hB h4 h5 h6 h7 hk => by
    refine bodyPost_ret (rp_end rfl _ _ b4 _ h4 (put3_row hr _ _ _) rfl) rfl ?_
    rw [h5, h6, h7]
    unfold ReadV
    refine ⟨put3_below hB (Nat.le_of_eq hb4.symm) _ _ _, ?_⟩
    rcases hk with ⟨rfl, h⟩ | ⟨rfl, h⟩ <;> (rw [h]; rfl)
  cases hE : endF s with
  | none =>
    rw [hE] at hc hR
    dsimp only at hc hR
    unfold cutV at hc
    have HC := Lib.hid hc
    have HU := Lib.hid fun W => unended_any s (by omega) W
    have HK : Hid ((if s.length < 65536 then (7 : Int) else 8) = 7 ∧ RD = .short ∨ (if s.length < 65536 then (7 : Int) else 8) = 8 ∧ RD = .form) := Lib.hid (by
      rw [hR]
      split
      · exact .inl ⟨rfl, rfl⟩
      · exact .inr ⟨rfl, rfl⟩)
    obtain ⟨k, hk⟩ : ∃ k : Int, k = if s.length < 65536 then (7 : Int) else 8 := ⟨_, rfl⟩
    rw [← hk] at HU HK
    clear hk hR hRD hE hc hB0 hr0 hm hs
    go_enter Tryz.func15, Tryz.ntmps15
    go_wp2_with fail
    all_goals try rw [← hW0, ← hb4]
    clear hW0 hb4
    refine (HC.out _ HM0.out).mono ?_
    rintro e W1 ⟨rfl, hB⟩
    have H1 := Lib.hid (And.intro (H0.out.1.trans (hB.mono H0.out.1.size)) (H0.out.2.below hB H0.out.2.lt))
    clear hB H0
    go_wp2_with fail
    refine (HU.out _).mono ?_
    rintro e W2 ⟨rfl, rfl⟩
    have hr := H1.out.2
    have d0 : W2.cell? ⟨b4, 0, none⟩ = some (.int .i64 0) := cell_of_row W2 _ 0 _ 24 (0, 0) hr
    have df0 : W2.frozen? ⟨b4, 0, none⟩ = false := Row.frozen hr 0
    have d1 : W2.cell? ⟨b4, 1, none⟩ = some (.slice none 0 0) := cell_of_row W2 _ 1 _ 24 (0, 0) hr
    have df1 : W2.frozen? ⟨b4, 1, none⟩ = false := Row.frozen hr 1
    have d2 : W2.cell? ⟨b4, 2, none⟩ = some (.string ⟨#[]⟩) := cell_of_row W2 _ 2 _ 24 (0, 0) hr
    have df2 : W2.frozen? ⟨b4, 2, none⟩ = false := Row.frozen hr 2
    have hr2 := Lib.hid hr
    clear hr
    go_wp2
    exact HZ.out W2 _ k hr2.out H1.out.1 rfl rfl rfl rfl HK.out
  | some e =>
    rw [hE] at hc hR
    dsimp only at hc hR
    have hle := endF_le _ _ hE
    obtain ⟨text, htx⟩ : ∃ t, t = s.take (e - 4) := ⟨_, rfl⟩
    obtain ⟨rest, hrs⟩ : ∃ t, t = s.drop e := ⟨_, rfl⟩
    have htl : text.length + 4 = e := by rw [htx, List.length_take]; omega
    have hrl : rest.length ≤ 100000 := by rw [hrs, List.length_drop]; omega
    rw [← htx, ← hrs] at hc hR
    unfold cutV at hc
    dsimp only at hc
    have HC := Lib.hid hc
    have hho := fun W h => headof_any text (by omega) W h
    have hfew := head_few text (by omega)
    obtain ⟨⟨c, fs, ok⟩, hhd⟩ : ∃ x, x = headOfL (lnsF [] text) := ⟨_, rfl⟩
    rw [← hhd] at hho hfew hR
    unfold HdPost at hho
    dsimp only at hho hfew hR
    have HHO := Lib.hid hho
    have HFEW := Lib.hid hfew
    obtain ⟨⟨n0, sz⟩, hsz⟩ : ∃ x, x = sizeOfL c fs := ⟨_, rfl⟩
    obtain ⟨⟨cl, ico⟩, hcl⟩ : ∃ x, x = closesL c fs := ⟨_, rfl⟩
    have HSO := Lib.hid fun V b W (h : FldsAt W V fs b) => sizeof_any c V fs b (by have := HFEW.out.1; omega) (fun f hf => (HFEW.out.2 f hf).1) (fun f hf => (HFEW.out.2 f hf).2) W h
    have HCL := Lib.hid fun V b W (h : FldsAt W V fs b) => closes10_any c V fs b (by have := HFEW.out.1; omega) (fun f hf => (HFEW.out.2 f hf).1) W h
    have HOT := Lib.hid fun V b W (h : FldsAt W V fs b) => others_any c V fs b HFEW.out.1 (fun f hf => (HFEW.out.2 f hf).1) W h
    rw [← hsz] at HSO hR
    rw [← hcl] at HCL hR
    dsimp only at hR
    obtain ⟨n, hn⟩ : ∃ n, n = (if head = true then 0 else n0) := ⟨_, rfl⟩
    rw [← hn] at hR
    have HR := Lib.hid hR
    have HN := Lib.hid hn
    have hlt := run_len_S (P := Tryz.prog) Tryz.underlying9 3 text
    have hlr := run_len_S (P := Tryz.prog) Tryz.underlying9 3 rest
    obtain ⟨T, hT⟩ : ∃ T, T = text.length := ⟨_, rfl⟩
    obtain ⟨L, hL⟩ : ∃ L, L = rest.length := ⟨_, rfl⟩
    rw [← hT] at hlt htl
    rw [← hL] at hlr hrl
    have HT := Lib.hid (And.intro htl hle)
    have HL := Lib.hid hL
    have HSL := Lib.hid fun (m : Nat) (h : m ≤ rest.length) W => slice_take (P := Tryz.prog) Tryz.underlying9 rest m h W
    have hT5 : T ≤ 100000 := by omega
    clear hR hRD hE hc hB0 hr0 hm hs hho hfew hhd hsz hcl hn hT hL htx hrs htl hle
    go_enter Tryz.func15, Tryz.ntmps15
    go_wp2_with fail
    all_goals try rw [← hW0, ← hb4]
    clear hW0 hb4
    refine (HC.out _ HM0.out).mono ?_
    rintro e W1 ⟨rfl, hB⟩
    have H1 := Lib.hid (And.intro (H0.out.1.trans (hB.mono H0.out.1.size)) (And.intro (H0.out.2.below hB H0.out.2.lt) (HM0.out.below hB)))
    clear hB H0
    go_wp2_with fail
    refine (HHO.out _ H1.out.2.2).mono ?_
    rintro e W2 ⟨V, rfl, hO⟩
    obtain ⟨gf, hF, -⟩ := flds_at hO.1
    have H2 := Lib.hid (And.intro (H1.out.1.trans (hO.2.mono H1.out.1.size)) (And.intro (H1.out.2.1.below hO.2 H1.out.2.1.lt) hF))
    clear hO hF H1
    go_wp2_with fail
    refine (HSO.out _ _ _ H2.out.2.2).mono ?_
    rintro e W3 ⟨rfl, hB⟩
    have H3 := Lib.hid (And.intro (H2.out.1.trans (hB.mono H2.out.1.size)) (And.intro (H2.out.2.1.below hB H2.out.2.1.lt) (H2.out.2.2.below hB)))
    clear hB H2
    go_wp2_with fail
    refine (HCL.out _ _ _ H3.out.2.2).mono ?_
    rintro e W4 ⟨rfl, hB⟩
    have H4 := Lib.hid (And.intro (H3.out.1.trans (hB.mono H3.out.1.size)) (And.intro (H3.out.2.1.below hB H3.out.2.1.lt) (H3.out.2.2.below hB)))
    clear hB H3
    cases ok with
    | false =>
      have HP : Hid (RD = .form) := Lib.hid (by rw [HR.out]; rw [if_neg]; simp)
      have hr := H4.out.2.1
      have d0 : W4.cell? ⟨b4, 0, none⟩ = some (.int .i64 0) := cell_of_row W4 _ 0 _ 24 (0, 0) hr
      have df0 : W4.frozen? ⟨b4, 0, none⟩ = false := Row.frozen hr 0
      have d1 : W4.cell? ⟨b4, 1, none⟩ = some (.slice none 0 0) := cell_of_row W4 _ 1 _ 24 (0, 0) hr
      have df1 : W4.frozen? ⟨b4, 1, none⟩ = false := Row.frozen hr 1
      have d2 : W4.cell? ⟨b4, 2, none⟩ = some (.string ⟨#[]⟩) := cell_of_row W4 _ 2 _ 24 (0, 0) hr
      have df2 : W4.frozen? ⟨b4, 2, none⟩ = false := Row.frozen hr 2
      have hr2 := Lib.hid hr
      clear hr
      go_wp2
      exact HZ.out W4 _ 8 hr2.out H4.out.1 rfl rfl rfl rfl (.inr ⟨rfl, HP.out⟩)
    | true =>
    cases sz with
    | false =>
      have HP : Hid (RD = .form) := Lib.hid (by rw [HR.out]; rw [if_neg]; simp)
      have hr := H4.out.2.1
      have d0 : W4.cell? ⟨b4, 0, none⟩ = some (.int .i64 0) := cell_of_row W4 _ 0 _ 24 (0, 0) hr
      have df0 : W4.frozen? ⟨b4, 0, none⟩ = false := Row.frozen hr 0
      have d1 : W4.cell? ⟨b4, 1, none⟩ = some (.slice none 0 0) := cell_of_row W4 _ 1 _ 24 (0, 0) hr
      have df1 : W4.frozen? ⟨b4, 1, none⟩ = false := Row.frozen hr 1
      have d2 : W4.cell? ⟨b4, 2, none⟩ = some (.string ⟨#[]⟩) := cell_of_row W4 _ 2 _ 24 (0, 0) hr
      have df2 : W4.frozen? ⟨b4, 2, none⟩ = false := Row.frozen hr 2
      have hr2 := Lib.hid hr
      clear hr
      go_wp2
      exact HZ.out W4 _ 8 hr2.out H4.out.1 rfl rfl rfl rfl (.inr ⟨rfl, HP.out⟩)
    | true =>
    cases ico with
    | false =>
      have HP : Hid (RD = .form) := Lib.hid (by rw [HR.out]; rw [if_neg]; simp)
      have hr := H4.out.2.1
      have d0 : W4.cell? ⟨b4, 0, none⟩ = some (.int .i64 0) := cell_of_row W4 _ 0 _ 24 (0, 0) hr
      have df0 : W4.frozen? ⟨b4, 0, none⟩ = false := Row.frozen hr 0
      have d1 : W4.cell? ⟨b4, 1, none⟩ = some (.slice none 0 0) := cell_of_row W4 _ 1 _ 24 (0, 0) hr
      have df1 : W4.frozen? ⟨b4, 1, none⟩ = false := Row.frozen hr 1
      have d2 : W4.cell? ⟨b4, 2, none⟩ = some (.string ⟨#[]⟩) := cell_of_row W4 _ 2 _ 24 (0, 0) hr
      have df2 : W4.frozen? ⟨b4, 2, none⟩ = false := Row.frozen hr 2
      have hr2 := Lib.hid hr
      clear hr
      go_wp2
      exact HZ.out W4 _ 8 hr2.out H4.out.1 rfl rfl rfl rfl (.inr ⟨rfl, HP.out⟩)
    | true =>
    have HR2 : Hid (RD = endL rest (T + 4) c fs n cl) := Lib.hid (by rw [HR.out, HT.out.1]; rw [if_pos]; rfl)
    clear HR
    cases head with
    | true =>
      obtain rfl : n = 0 := by rw [HN.out]; rfl
      have hw1 : IntKind.i64.wrap ((T : Int) + 4) = (T : Int) + 4 := by rw [IntKind.wrap_i64]; omega
      have hlt2 : ¬ L < 0 := Nat.not_lt_zero _
      have g1 : decide ((L : Int) < ((0 : Nat) : Int)) = false := decide_eq_false (by omega)
      have g1' : decide (L < 0) = false := decide_eq_false hlt2
      have HP : Hid (RD = .ok c (othersL c fs) ([]) cl (T + 4 + 0)) := Lib.hid (by rw [HR2.out]; unfold endL; rw [← HL.out, if_neg hlt2]; first | done | rfl)
      have hw2 : IntKind.i64.wrap ((T : Int) + 4 + ((0 : Nat) : Int)) = ((T + 4 + 0 : Nat) : Int) := by rw [IntKind.wrap_i64]; omega
      have hsl : ∀ W, (Instr.slice 9 (S rest) none (some (.int .i64 0)) none).run Tryz.prog W = .ok (S []) W := fun W => HSL.out 0 (Nat.zero_le _) W
      clear hlt2
      go_wp2
      obtain ⟨Wq, hWq⟩ : ∃ Wq, Wq = W4.drew := ⟨_, rfl⟩
      have hBq : Below W4.heap.size W4 Wq := by rw [hWq]; exact ⟨rfl, rfl, rfl, Nat.le_refl _, fun _ _ => rfl⟩
      have HQ := Lib.hid (And.intro (H4.out.1.trans (hBq.mono H4.out.1.size)) (And.intro (H4.out.2.1.below hBq H4.out.2.1.lt) (H4.out.2.2.below hBq)))
      clear hBq H4
      refine wp_region_noPanic ?_
      refine wp_region_held_drew (S := fun _ => True) (by kernel_rfl) trivial (fun _ => ?_)
      rw [← hWq]
      clear hWq
      refine take_at (i := 0) (d := some 63) (v := .int .i64 (c : Int)) rfl (by kernel_rfl) (by kernel_rfl) (by kernel_rfl) (fun _ _ _ h => h) (fun oi ho => ?_) trivial ?_
      · obtain rfl := Option.some.inj ho
        exact Or.inl ⟨by rfl, fun wx hSw => by go_simp⟩
      simp only [Act.put, List.setIfInBounds_toArray, List.set_cons_zero, List.set_cons_succ]
      refine take_at (i := 1) (d := some 64) (v := .int .i64 (c : Int)) rfl (by kernel_rfl) (by kernel_rfl) (by kernel_rfl) (fun _ _ _ h => h) (fun oi ho => ?_) trivial ?_
      · obtain rfl := Option.some.inj ho
        exact Or.inl ⟨by rfl, fun wx hSw => by go_simp⟩
      simp only [Act.put, List.setIfInBounds_toArray, List.set_cons_zero, List.set_cons_succ]
      refine take_at (i := 2) (d := some 65) (v := V) rfl (by kernel_rfl) (by kernel_rfl) (by kernel_rfl) (fun _ _ _ h => h) (fun oi ho => ?_) trivial ?_
      · obtain rfl := Option.some.inj ho
        exact Or.inl ⟨by rfl, fun wx hSw => by go_simp⟩
      simp only [Act.put, List.setIfInBounds_toArray, List.set_cons_zero, List.set_cons_succ]
      refine take_at (i := 4) (d := some 67) (v := S rest) rfl (by kernel_rfl) (by kernel_rfl) (by kernel_rfl) (fun _ _ _ h => h) (fun oi ho => ?_) trivial ?_
      · obtain rfl := Option.some.inj ho
        exact Or.inl ⟨by rfl, fun wx hSw => by go_simp⟩
      simp only [Act.put, List.setIfInBounds_toArray, List.set_cons_zero, List.set_cons_succ]
      refine take_at (i := 5) (d := some 68) (v := .int .i64 ((0 : Nat) : Int)) rfl (by kernel_rfl) (by kernel_rfl) (by kernel_rfl) (fun _ _ _ h => h) (fun oi ho => ?_) trivial ?_
      · obtain rfl := Option.some.inj ho
        exact Or.inl ⟨by rfl, fun wx hSw => by go_simp⟩
      simp only [Act.put, List.setIfInBounds_toArray, List.set_cons_zero, List.set_cons_succ]
      refine take_at (i := 6) (d := some 69) (v := S []) rfl (by kernel_rfl) (by kernel_rfl) (by kernel_rfl) (fun _ _ _ h => h) (fun oi ho => ?_) trivial ?_
      · obtain rfl := Option.some.inj ho
        exact Or.inl ⟨by rfl, fun wx hSw => by go_simp⟩
      simp only [Act.put, List.setIfInBounds_toArray, List.set_cons_zero, List.set_cons_succ]
      refine ready_call (i := 3) (d := some 66) (f := 34) (args := #[.int .i64 (c : Int), V]) rfl (by kernel_rfl) (fun oi ho => ?_) ?_
      · obtain rfl := Option.some.inj ho
        exact ⟨by rfl, by go_simp⟩
      refine (HOT.out _ _ _ HQ.out.2.2).mono ?_
      rintro e W6 ⟨V6, rfl, hO⟩
      have H6 : Hid (Row W6 b4 #[.int .i64 0, .slice none 0 0, .string ⟨#[]⟩] 24 ∧ Below w.heap.size w W6 ∧ W6.ownsRow Wq.heap.size 35 2 V6 (othersL c fs).length (fcells (othersL c fs))) := Lib.hid ⟨HQ.out.2.1.below hO.2 HQ.out.2.1.lt, HQ.out.1.trans (hO.2.mono HQ.out.1.size), hO.1⟩
      clear hO
      refine ⟨_, rfl, trivial, ?_⟩
      simp only [Act.put, List.setIfInBounds_toArray, List.set_cons_zero, List.set_cons_succ]
      obtain ⟨g6, hF6, -⟩ := flds_at H6.out.2.2
      obtain ⟨a6, q6, hv6⟩ := hF6.form
      subst hv6
      clear hF6
      refine take_at (i := 7) (d := some 70) (v := .agg #[.int .i64 (c : Int), .slice a6 (othersL c fs).length q6, S []]) rfl (by kernel_rfl) (by kernel_rfl) (by kernel_rfl) (fun _ _ _ h => h) (fun oi ho => ?_) trivial ?_
      · obtain rfl := Option.some.inj ho
        exact Or.inl ⟨by rfl, fun wx hSw => by go_simp⟩
      simp only [Act.put, List.setIfInBounds_toArray, List.set_cons_zero, List.set_cons_succ]
      have hr := H6.out.1
      have d0 : W6.cell? ⟨b4, 0, none⟩ = some (.int .i64 0) := cell_of_row W6 _ 0 _ 24 (0, 0) hr
      have df0 : W6.frozen? ⟨b4, 0, none⟩ = false := Row.frozen hr 0
      have d1 : W6.cell? ⟨b4, 1, none⟩ = some (.slice none 0 0) := cell_of_row W6 _ 1 _ 24 (0, 0) hr
      have df1 : W6.frozen? ⟨b4, 1, none⟩ = false := Row.frozen hr 1
      have d2 : W6.cell? ⟨b4, 2, none⟩ = some (.string ⟨#[]⟩) := cell_of_row W6 _ 2 _ 24 (0, 0) hr
      have df2 : W6.frozen? ⟨b4, 2, none⟩ = false := Row.frozen hr 2
      have hr2 := Lib.hid hr
      refine ready_skip (i := 8) (d := none) (w' := put3 W6 b4 (.int .i64 (c : Int)) (.slice a6 (othersL c fs).length q6) (S [])) rfl (by kernel_rfl) (fun oi ho => ?_) trivial ?_
      · obtain rfl := Option.some.inj ho
        exact ⟨by rfl, by unfold put3; go_simp⟩
      refine wpAnyH_done (by kernel_rfl) ?_ _
      refine NoPanic.normal ?_
      clear d0 d1 d2 df0 df1 df2 hr hsl
      obtain ⟨W7, hW7⟩ : ∃ W, W = put3 W6 b4 (.int .i64 (c : Int)) (.slice a6 (othersL c fs).length q6) (S []) := ⟨_, rfl⟩
      have hr7 : Row W7 b4 #[.int .i64 (c : Int), .slice a6 (othersL c fs).length q6, S []] 24 := by rw [hW7]; exact put3_row hr2.out _ _ _
      have hB7 : Below w.heap.size w W7 := by rw [hW7]; exact put3_below H6.out.2.1 (Nat.le_of_eq HB4.out.symm) _ _ _
      have ho7 : W7.ownsRow Wq.heap.size 35 2 (.slice a6 (othersL c fs).length q6) (othersL c fs).length (fcells (othersL c fs)) := by rw [hW7]; exact own_put3 H6.out.2.2 HQ.out.2.1.lt _ _ _
      have e0 : W7.cell? ⟨b4, 0, none⟩ = some (.int .i64 (c : Int)) := cell_of_row W7 _ 0 _ 24 (0, 0) hr7
      have ef0 : W7.frozen? ⟨b4, 0, none⟩ = false := Row.frozen hr7 0
      have e1 : W7.cell? ⟨b4, 1, none⟩ = some (.slice a6 (othersL c fs).length q6) := cell_of_row W7 _ 1 _ 24 (0, 0) hr7
      have ef1 : W7.frozen? ⟨b4, 1, none⟩ = false := Row.frozen hr7 1
      have e2 : W7.cell? ⟨b4, 2, none⟩ = some (S []) := cell_of_row W7 _ 2 _ 24 (0, 0) hr7
      have ef2 : W7.frozen? ⟨b4, 2, none⟩ = false := Row.frozen hr7 2
      have H7 := Lib.hid (And.intro hr7 (And.intro hB7 ho7))
      rw [← hW7]
      clear hW7 hr7 hB7 ho7
      go_wp2
      refine bodyPost_ret (rp_end rfl _ (put3 W7 b4 (.int .i64 (c : Int)) (.slice a6 (othersL c fs).length q6) (S [])) b4 _ rfl (put3_row H7.out.1 _ _ _) rfl) rfl ?_
      rw [HP.out]
      unfold ReadV
      obtain ⟨g8, hF8, -⟩ := flds_at (own_put3 (b := b4) H7.out.2.2 HQ.out.2.1.lt (.int .i64 (c : Int)) (.slice a6 (othersL c fs).length q6) (S []))
      exact ⟨put3_below H7.out.2.1 (Nat.le_of_eq HB4.out.symm) _ _ _, _, g8, rfl, hF8⟩
    | false =>
      obtain rfl : n = n0 := by rw [HN.out]; rfl
      have hw1 : IntKind.i64.wrap ((T : Int) + 4) = (T : Int) + 4 := by rw [IntKind.wrap_i64]; omega
      by_cases hlt2 : L < n
      case pos =>
        have g1 : decide ((L : Int) < (n : Int)) = true := decide_eq_true (by omega)
        have g1' : decide (L < n) = true := decide_eq_true hlt2
        have HP : Hid (RD = .short) := Lib.hid (by rw [HR2.out]; unfold endL; rw [← HL.out, if_pos hlt2])
        clear hlt2
        have hr := H4.out.2.1
        have d0 : W4.cell? ⟨b4, 0, none⟩ = some (.int .i64 0) := cell_of_row W4 _ 0 _ 24 (0, 0) hr
        have df0 : W4.frozen? ⟨b4, 0, none⟩ = false := Row.frozen hr 0
        have d1 : W4.cell? ⟨b4, 1, none⟩ = some (.slice none 0 0) := cell_of_row W4 _ 1 _ 24 (0, 0) hr
        have df1 : W4.frozen? ⟨b4, 1, none⟩ = false := Row.frozen hr 1
        have d2 : W4.cell? ⟨b4, 2, none⟩ = some (.string ⟨#[]⟩) := cell_of_row W4 _ 2 _ 24 (0, 0) hr
        have df2 : W4.frozen? ⟨b4, 2, none⟩ = false := Row.frozen hr 2
        have hr2 := Lib.hid hr
        clear hr
        go_wp2
        exact HZ.out W4 _ 7 hr2.out H4.out.1 rfl rfl rfl rfl (.inl ⟨rfl, HP.out⟩)
      have g1 : decide ((L : Int) < (n : Int)) = false := decide_eq_false (by omega)
      have g1' : decide (L < n) = false := decide_eq_false hlt2
      have HP : Hid (RD = .ok c (othersL c fs) ((rest.take n)) cl (T + 4 + n)) := Lib.hid (by rw [HR2.out]; unfold endL; rw [← HL.out, if_neg hlt2]; first | done | rfl)
      have hw2 : IntKind.i64.wrap ((T : Int) + 4 + (n : Int)) = ((T + 4 + n : Nat) : Int) := by rw [IntKind.wrap_i64]; omega
      have hsl := HSL.out n (by rw [← HL.out]; omega)
      clear hlt2
      go_wp2
      obtain ⟨Wq, hWq⟩ : ∃ Wq, Wq = W4.drew := ⟨_, rfl⟩
      have hBq : Below W4.heap.size W4 Wq := by rw [hWq]; exact ⟨rfl, rfl, rfl, Nat.le_refl _, fun _ _ => rfl⟩
      have HQ := Lib.hid (And.intro (H4.out.1.trans (hBq.mono H4.out.1.size)) (And.intro (H4.out.2.1.below hBq H4.out.2.1.lt) (H4.out.2.2.below hBq)))
      clear hBq H4
      refine wp_region_noPanic ?_
      refine wp_region_held_drew (S := fun _ => True) (by kernel_rfl) trivial (fun _ => ?_)
      rw [← hWq]
      clear hWq
      refine take_at (i := 0) (d := some 63) (v := .int .i64 (c : Int)) rfl (by kernel_rfl) (by kernel_rfl) (by kernel_rfl) (fun _ _ _ h => h) (fun oi ho => ?_) trivial ?_
      · obtain rfl := Option.some.inj ho
        exact Or.inl ⟨by rfl, fun wx hSw => by go_simp⟩
      simp only [Act.put, List.setIfInBounds_toArray, List.set_cons_zero, List.set_cons_succ]
      refine take_at (i := 1) (d := some 64) (v := .int .i64 (c : Int)) rfl (by kernel_rfl) (by kernel_rfl) (by kernel_rfl) (fun _ _ _ h => h) (fun oi ho => ?_) trivial ?_
      · obtain rfl := Option.some.inj ho
        exact Or.inl ⟨by rfl, fun wx hSw => by go_simp⟩
      simp only [Act.put, List.setIfInBounds_toArray, List.set_cons_zero, List.set_cons_succ]
      refine take_at (i := 2) (d := some 65) (v := V) rfl (by kernel_rfl) (by kernel_rfl) (by kernel_rfl) (fun _ _ _ h => h) (fun oi ho => ?_) trivial ?_
      · obtain rfl := Option.some.inj ho
        exact Or.inl ⟨by rfl, fun wx hSw => by go_simp⟩
      simp only [Act.put, List.setIfInBounds_toArray, List.set_cons_zero, List.set_cons_succ]
      refine take_at (i := 4) (d := some 67) (v := S rest) rfl (by kernel_rfl) (by kernel_rfl) (by kernel_rfl) (fun _ _ _ h => h) (fun oi ho => ?_) trivial ?_
      · obtain rfl := Option.some.inj ho
        exact Or.inl ⟨by rfl, fun wx hSw => by go_simp⟩
      simp only [Act.put, List.setIfInBounds_toArray, List.set_cons_zero, List.set_cons_succ]
      refine take_at (i := 5) (d := some 68) (v := .int .i64 (n : Int)) rfl (by kernel_rfl) (by kernel_rfl) (by kernel_rfl) (fun _ _ _ h => h) (fun oi ho => ?_) trivial ?_
      · obtain rfl := Option.some.inj ho
        exact Or.inl ⟨by rfl, fun wx hSw => by go_simp⟩
      simp only [Act.put, List.setIfInBounds_toArray, List.set_cons_zero, List.set_cons_succ]
      refine take_at (i := 6) (d := some 69) (v := S (rest.take n)) rfl (by kernel_rfl) (by kernel_rfl) (by kernel_rfl) (fun _ _ _ h => h) (fun oi ho => ?_) trivial ?_
      · obtain rfl := Option.some.inj ho
        exact Or.inl ⟨by rfl, fun wx hSw => by go_simp⟩
      simp only [Act.put, List.setIfInBounds_toArray, List.set_cons_zero, List.set_cons_succ]
      refine ready_call (i := 3) (d := some 66) (f := 34) (args := #[.int .i64 (c : Int), V]) rfl (by kernel_rfl) (fun oi ho => ?_) ?_
      · obtain rfl := Option.some.inj ho
        exact ⟨by rfl, by go_simp⟩
      refine (HOT.out _ _ _ HQ.out.2.2).mono ?_
      rintro e W6 ⟨V6, rfl, hO⟩
      have H6 : Hid (Row W6 b4 #[.int .i64 0, .slice none 0 0, .string ⟨#[]⟩] 24 ∧ Below w.heap.size w W6 ∧ W6.ownsRow Wq.heap.size 35 2 V6 (othersL c fs).length (fcells (othersL c fs))) := Lib.hid ⟨HQ.out.2.1.below hO.2 HQ.out.2.1.lt, HQ.out.1.trans (hO.2.mono HQ.out.1.size), hO.1⟩
      clear hO
      refine ⟨_, rfl, trivial, ?_⟩
      simp only [Act.put, List.setIfInBounds_toArray, List.set_cons_zero, List.set_cons_succ]
      obtain ⟨g6, hF6, -⟩ := flds_at H6.out.2.2
      obtain ⟨a6, q6, hv6⟩ := hF6.form
      subst hv6
      clear hF6
      refine take_at (i := 7) (d := some 70) (v := .agg #[.int .i64 (c : Int), .slice a6 (othersL c fs).length q6, S (rest.take n)]) rfl (by kernel_rfl) (by kernel_rfl) (by kernel_rfl) (fun _ _ _ h => h) (fun oi ho => ?_) trivial ?_
      · obtain rfl := Option.some.inj ho
        exact Or.inl ⟨by rfl, fun wx hSw => by go_simp⟩
      simp only [Act.put, List.setIfInBounds_toArray, List.set_cons_zero, List.set_cons_succ]
      have hr := H6.out.1
      have d0 : W6.cell? ⟨b4, 0, none⟩ = some (.int .i64 0) := cell_of_row W6 _ 0 _ 24 (0, 0) hr
      have df0 : W6.frozen? ⟨b4, 0, none⟩ = false := Row.frozen hr 0
      have d1 : W6.cell? ⟨b4, 1, none⟩ = some (.slice none 0 0) := cell_of_row W6 _ 1 _ 24 (0, 0) hr
      have df1 : W6.frozen? ⟨b4, 1, none⟩ = false := Row.frozen hr 1
      have d2 : W6.cell? ⟨b4, 2, none⟩ = some (.string ⟨#[]⟩) := cell_of_row W6 _ 2 _ 24 (0, 0) hr
      have df2 : W6.frozen? ⟨b4, 2, none⟩ = false := Row.frozen hr 2
      have hr2 := Lib.hid hr
      refine ready_skip (i := 8) (d := none) (w' := put3 W6 b4 (.int .i64 (c : Int)) (.slice a6 (othersL c fs).length q6) (S (rest.take n))) rfl (by kernel_rfl) (fun oi ho => ?_) trivial ?_
      · obtain rfl := Option.some.inj ho
        exact ⟨by rfl, by unfold put3; go_simp⟩
      refine wpAnyH_done (by kernel_rfl) ?_ _
      refine NoPanic.normal ?_
      clear d0 d1 d2 df0 df1 df2 hr hsl
      obtain ⟨W7, hW7⟩ : ∃ W, W = put3 W6 b4 (.int .i64 (c : Int)) (.slice a6 (othersL c fs).length q6) (S (rest.take n)) := ⟨_, rfl⟩
      have hr7 : Row W7 b4 #[.int .i64 (c : Int), .slice a6 (othersL c fs).length q6, S (rest.take n)] 24 := by rw [hW7]; exact put3_row hr2.out _ _ _
      have hB7 : Below w.heap.size w W7 := by rw [hW7]; exact put3_below H6.out.2.1 (Nat.le_of_eq HB4.out.symm) _ _ _
      have ho7 : W7.ownsRow Wq.heap.size 35 2 (.slice a6 (othersL c fs).length q6) (othersL c fs).length (fcells (othersL c fs)) := by rw [hW7]; exact own_put3 H6.out.2.2 HQ.out.2.1.lt _ _ _
      have e0 : W7.cell? ⟨b4, 0, none⟩ = some (.int .i64 (c : Int)) := cell_of_row W7 _ 0 _ 24 (0, 0) hr7
      have ef0 : W7.frozen? ⟨b4, 0, none⟩ = false := Row.frozen hr7 0
      have e1 : W7.cell? ⟨b4, 1, none⟩ = some (.slice a6 (othersL c fs).length q6) := cell_of_row W7 _ 1 _ 24 (0, 0) hr7
      have ef1 : W7.frozen? ⟨b4, 1, none⟩ = false := Row.frozen hr7 1
      have e2 : W7.cell? ⟨b4, 2, none⟩ = some (S (rest.take n)) := cell_of_row W7 _ 2 _ 24 (0, 0) hr7
      have ef2 : W7.frozen? ⟨b4, 2, none⟩ = false := Row.frozen hr7 2
      have H7 := Lib.hid (And.intro hr7 (And.intro hB7 ho7))
      rw [← hW7]
      clear hW7 hr7 hB7 ho7
      go_wp2
      refine bodyPost_ret (rp_end rfl _ (put3 W7 b4 (.int .i64 (c : Int)) (.slice a6 (othersL c fs).length q6) (S (rest.take n))) b4 _ rfl (put3_row H7.out.1 _ _ _) rfl) rfl ?_
      rw [HP.out]
      unfold ReadV
      obtain ⟨g8, hF8, -⟩ := flds_at (own_put3 (b := b4) H7.out.2.2 HQ.out.2.1.lt (.int .i64 (c : Int)) (.slice a6 (othersL c fs).length q6) (S (rest.take n)))
      exact ⟨put3_below H7.out.2.1 (Nat.le_of_eq HB4.out.symm) _ _ _, _, g8, rfl, hF8⟩
end Go.Proofs.YtfdbmbgpcioogaaGreatDoor
