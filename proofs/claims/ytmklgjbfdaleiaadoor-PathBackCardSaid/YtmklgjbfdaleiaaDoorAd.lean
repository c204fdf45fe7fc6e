/- The document's Join (stage 11) walked. (mkad.py writes it.) -/
import Derived.Test.YtmklgjbfdaleiaaDoorAc
namespace Go.Proofs.YtmklgjbfdaleiaaDoor
open Go.RowKit
attribute [local go_sem] store_one B_match B_store S_match S_store eguard_BN nguard_BN

theorem slice_u8 (r : List UInt8) (m n : Nat) (hmn : m ≤ n) (hn : n ≤ r.length) (w : World) : (Instr.slice 9 (S r) (some (.int .u8 m)) (some (.int .u8 n)) none).run Tryd.prog w = .ok (S ((r.drop m).take (n - m))) w := by
  have e : (⟨r.toArray⟩ : ByteArray).extract m n = ⟨((r.drop m).take (n - m)).toArray⟩ := by
    apply ByteArray.ext
    rw [ByteArray.data_extract]; simp
  simp [Instr.slice, S, run_underlying Tryd.underlying9, Instr.sliceBounds, Instr.sliceBound, asIntOf, S_size, Result.andThen, hn, hmn, e, go_sem]
theorem quo_u8 (c : UInt8) : binOp .quo 5 (B c) (.int .u8 16) = pure (.int .u8 ((c.toNat / 16 : Nat) : Int)) := by
  have h := c.toNat_lt
  have e : IntKind.u8.wrap ((c.toNat : Int) / 16) = ((c.toNat / 16 : Nat) : Int) := by rw [IntKind.wrap_u8]; omega
  unfold B binOp
  simp [go_sem, e]
theorem rem_u8 (c : UInt8) : binOp .rem 5 (B c) (.int .u8 16) = pure (.int .u8 ((c.toNat % 16 : Nat) : Int)) := by
  unfold B binOp
  simp [go_sem]
  rw [Int.tmod_eq_emod_of_nonneg (by omega)]
theorem hexd_slice (q : Nat) (hq : q < 16) (w : World) : (Instr.slice 9 (.string ⟨#[48, 49, 50, 51, 52, 53, 54, 55, 56, 57, 65, 66, 67, 68, 69, 70]⟩) (some (.int .u8 (q : Int))) (some (.int .u8 ((q : Int) + 1))) none).run Tryd.prog w = .ok (S [hexD q]) w := by
  have h := slice_u8 [48, 49, 50, 51, 52, 53, 54, 55, 56, 57, 65, 66, 67, 68, 69, 70] q (q + 1) (by omega) (by show q + 1 ≤ 16; omega) w
  rw [show ((q + 1 : Nat) : Int) = (q : Int) + 1 by omega, show q + 1 - q = 1 by omega] at h
  have hd : ∀ q : Fin 16, ([48, 49, 50, 51, 52, 53, 54, 55, 56, 57, 65, 66, 67, 68, 69, 70].drop q.1).take 1 = [hexD q.1] := by decide
  rw [hd ⟨q, hq⟩] at h
  exact h
theorem own_index (i : Nat) (x : UInt8) (hx : ownAll[i]? = some x) (w : World) : (Instr.index 9 (.string ⟨([97, 98, 99, 100, 101, 102, 103, 104, 105, 106, 107, 108, 109, 110, 111, 112, 113, 114, 115, 116, 117, 118, 119, 120, 121, 122, 65, 66, 67, 68, 69, 70, 71].append [72, 73, 74, 75, 76, 77, 78, 79, 80, 81, 82, 83, 84, 85, 86, 87, 88, 89, 90, 48, 49, 50, 51, 52, 53, 54, 55, 56, 57, 45, 46, 95, 126]).toArray⟩) (.int .i64 (i : Int))).run Tryd.prog w = .ok (B x) w :=
  index_text Tryd.underlying9 _ ownAll rfl i x hx w
theorem lit_V (s : ByteArray) (i : Nat) (h : i < s.size) (x : UInt8) (hl : s.data.toList[i]? = some x) : Value.int .u8 (((s[i]'h).toNat : Nat) : Int) = B x := by
  have e : s[i]'h = x := by
    rw [get_text s i h] at hl
    exact Option.some.inj hl
  rw [e, B]
theorem join_next {l : List (List UInt8)} {i : Nat} {seg : List UInt8} (h : l[i]? = some seg) : joinS (l.take (i + 1)) = joinS (l.take i) ++ 47 :: encS seg := by
  rw [List.take_add_one, h]
  unfold joinS
  rw [List.flatMap_append]
  simp
theorem enc_next {s : List UInt8} {k : Nat} {c : UInt8} (h : s[k]? = some c) : encS (s.take (k + 1)) = encS (s.take k) ++ encC c := by
  rw [List.take_add_one, h]
  unfold encS
  rw [List.flatMap_append]
  simp
theorem joinS_app (a b : List (List UInt8)) : joinS (a ++ b) = joinS a ++ joinS b := by unfold joinS; rw [List.flatMap_append]
theorem encS_app (a b : List UInt8) : encS (a ++ b) = encS a ++ encS b := by unfold encS; rw [List.flatMap_append]
/-- What is written so far is a beginning. -/
theorem join_pre {l : List (List UInt8)} {i : Nat} {seg : List UInt8} (h : l[i]? = some seg) (k : Nat) : (joinS (l.take i) ++ 47 :: encS (seg.take k)).length ≤ (joinS l).length := by
  have e1 : joinS l = joinS (l.take (i + 1)) ++ joinS (l.drop (i + 1)) := by rw [← joinS_app, List.take_append_drop]
  have e2 : encS seg = encS (seg.take k) ++ encS (seg.drop k) := by rw [← encS_app, List.take_append_drop]
  rw [e1, join_next h, e2]
  simp only [List.length_append, List.length_cons]
  omega
theorem join_long {l : List (List UInt8)} (h : 512 < (joinS l).length) : joinF l = none := by
  unfold joinF
  rw [if_neg]
  rintro ⟨_, _, h3⟩
  omega
theorem join_bad {l : List (List UInt8)} {i : Nat} {seg : List UInt8} (h : l[i]? = some seg) (hm : mayS seg = false) : joinF l = none := by
  unfold joinF
  rw [if_neg]
  rintro ⟨_, h2, _⟩
  rw [h2 seg (List.mem_of_getElem? h)] at hm; cases hm
theorem sum_mem {l : List (List UInt8)} {s : List UInt8} (h : s ∈ l) : s.length ≤ sumL l := by
  unfold sumL
  induction l with
  | nil => cases h
  | cons x r ih =>
    rw [List.map_cons, List.sum_cons]
    rcases List.mem_cons.1 h with rfl | h
    · omega
    · have := ih h; omega
set_option maxRecDepth 100000 in
set_option maxHeartbeats 2000000 in
theorem djoin11_any (l : List (List UInt8)) (V : Value) (b o : Nat) (hfew : l.length ≤ 10000) (hsum : sumL l ≤ 100000) (w : World) (hV : TA w V l b o) :
    Calls Tryd.prog 14 #[V] w fun e w' => e = .returned (joinV (joinF l)) ∧ Below w.heap.size w w' := by
  have hlV := hV.len 3
  obtain ⟨PO, hPO⟩ : ∃ PO : Ending → World → Prop, PO = fun e w' => e = .returned (joinV (joinF l)) ∧ Below w.heap.size w w' := ⟨_, rfl⟩
  rw [← hPO]
  have HNO : Hid (joinF l = none → ∀ W, Below w.heap.size w W → PO (.returned (.tuple #[.string ⟨#[]⟩, .bool false])) W) := Lib.hid fun h W hW => by
    rw [hPO, h]
    exact ⟨rfl, hW⟩
  have HYES : Hid (joinF l = some (joinS l) → ∀ W, Below w.heap.size w W → PO (.returned (.tuple #[S (joinS l), .bool true])) W) := Lib.hid fun h W hW => by
    rw [hPO, h]
    exact ⟨rfl, hW⟩
  clear hPO
  obtain ⟨N, hN⟩ : ∃ N, N = l.length := ⟨_, rfl⟩
  rw [← hN] at hlV hfew
  have HV := Lib.hid (And.intro hV (And.intro hN hsum))
  clear hV hN hsum
  by_cases h0 : N = 0
  · have g0 : ((N : Int) == 0) = true := by rw [beq_iff_eq]; omega
    have g0' : (N == 0) = true := beq_iff_eq.2 h0
    have HP : Hid (joinF l = none) := Lib.hid (by
      unfold joinF
      rw [if_neg]
      rintro ⟨h1, _⟩
      exact h1 (List.length_eq_zero_iff.1 (by rw [← HV.out.2.1, h0])))
    clear h0
    go_enter Tryd.func14, Tryd.ntmps14
    go_wp2
    first | (go_ret2; exact HNO.out HP.out _ (Below.refl _ _)) | exact HNO.out HP.out _ (Below.refl _ _)
  have g0 : ((N : Int) == 0) = false := by rw [beq_eq_false_iff_ne]; omega
  have g0' : (N == 0) = false := beq_eq_false_iff_ne.2 h0
  have g0'' : decide (N = 0) = false := decide_eq_false h0
  have HNE : Hid (l ≠ []) := Lib.hid fun e => h0 (by rw [HV.out.2.1, e]; rfl)
  clear h0
  go_enter Tryd.func14, Tryd.ntmps14
  go_wp2
  clear g0 g0' g0''
  go_loopw [4, 5] (fun sv iv wr => ∃ (i : Nat), i ≤ N ∧ sv = S (joinS (l.take i)) ∧ iv = .int .i64 (i : Int) ∧ Hid (Below w.heap.size w wr ∧ (∀ x ∈ l.take i, mayS x = true) ∧ (joinS (l.take i)).length ≤ 512)) (fun _ iv _ => N - (intOf iv).toNat)
  case atStart => exact ⟨0, Nat.zero_le _, by rw [List.take_zero]; rfl, rfl, Lib.hid ⟨Below.refl _ _, by simp, by simp [joinS]⟩⟩
  case round =>
    obtain ⟨i, hi, rfl, rfl, HR⟩ := hrel
    have hwi : IntKind.i64.wrap ((i : Int) + 1) = (i : Int) + 1 := by rw [IntKind.wrap_i64]; omega
    by_cases hlt : i < N
    case neg =>
      obtain rfl : i = N := by omega
      have g1 : decide ((i : Int) < (i : Int)) = false := decide_eq_false (by omega)
      have e0 : joinS (l.take i) = joinS l := by rw [HV.out.2.1, List.take_length]
      have HP : Hid (joinF l = some (joinS l)) := Lib.hid (by
        obtain ⟨_, h1, h2⟩ := HR.out
        rw [HV.out.2.1, List.take_length] at h1 h2
        unfold joinF
        rw [if_pos ⟨HNE.out, h1, h2⟩])
      have HX := Lib.hid HR.out.1
      rw [e0]
      clear e0
      go_wp2
      first | (go_ret2; exact HYES.out HP.out _ HX.out) | exact HYES.out HP.out _ HX.out
    have g1 : decide ((i : Int) < (N : Int)) = true := decide_eq_true (by omega)
    obtain ⟨seg, hseg⟩ : ∃ x, l[i]? = some x := ⟨l[i]'(by have := HV.out.2.1; omega), List.getElem?_eq_getElem _⟩
    have hix := HV.out.1.index i (by have := HV.out.2.1; omega)
    obtain ⟨kk, hkk⟩ : ∃ k, k = o + i := ⟨_, rfl⟩
    rw [← hkk] at hix
    have HC : Hid (∀ W, Below w.heap.size w W → W.cell? ⟨b, kk, none⟩ = some (S seg)) := Lib.hid fun W hW => by rw [hkk]; exact (HV.out.1.below hW).cell i seg hseg
    have hsl := sum_mem (List.mem_of_getElem? hseg)
    have hsl2 : seg.length ≤ 100000 := Nat.le_trans hsl HV.out.2.2
    have HM := Lib.hid fun W => dmay11_any seg (by omega) W
    have HBAD : Hid (mayS seg = false → joinF l = none) := Lib.hid (join_bad hseg)
    have HLONG : Hid (∀ k, 512 < (joinS (l.take i) ++ 47 :: encS (seg.take k)).length → joinF l = none) := Lib.hid fun k hk => join_long (by have := join_pre hseg k; omega)
    have HNX : Hid (joinS (l.take (i + 1)) = joinS (l.take i) ++ 47 :: encS seg ∧ (mayS seg = true → ∀ x ∈ l.take (i + 1), mayS x = true)) := Lib.hid ⟨join_next hseg, fun hm x hx => by
      rw [List.take_add_one, hseg] at hx
      rcases List.mem_append.1 hx with hx | hx
      · exact HR.out.2.1 x hx
      · have e : x = seg := by simpa using hx
        rw [e]; exact hm⟩
    obtain ⟨m, hm⟩ : ∃ m, m = mayS seg := ⟨_, rfl⟩
    rw [← hm] at HM HBAD HNX
    obtain ⟨X0, hX0⟩ : ∃ X, X = joinS (l.take i) := ⟨_, rfl⟩
    rw [← hX0] at HLONG HNX ⊢
    have hX5 : X0.length ≤ 512 := by rw [hX0]; exact HR.out.2.2
    have HB := Lib.hid HR.out.1
    have k0 := HC.out wr HB.out
    clear hseg hkk hsl hm hX0 HR
    cases m with
    | false =>
      have HP : Hid (joinF l = none) := Lib.hid (HBAD.out rfl)
      go_wp2_with fail
      clear k0
      refine (HM.out _).mono ?_
      rintro e W' ⟨rfl, h5⟩
      subst h5
      go_wp2
      first | (go_ret2; exact HNO.out HP.out _ HB.out) | exact HNO.out HP.out _ HB.out
    | true =>
    have z0 : binOp .add 9 (S X0) (.string ⟨#[47]⟩) = pure (S (X0 ++ [47])) := S_add 9 X0 [47] (by show _ + 1 ≤ _; omega)
    have e0 : X0 ++ [47] = X0 ++ 47 :: encS (seg.take 0) := by rw [List.take_zero]; rfl
    rw [e0] at z0
    clear e0
    have hlS := run_len_S (P := Tryd.prog) Tryd.underlying9 3 seg
    obtain ⟨K, hK⟩ : ∃ K, K = seg.length := ⟨_, rfl⟩
    rw [← hK] at hlS hsl2
    have HK := Lib.hid hK
    clear hK
    go_wp2_with fail
    clear k0
    refine (HM.out _).mono ?_
    rintro e W' ⟨rfl, h5⟩
    subst h5
    go_wp2_with fail
    clear z0
    go_loopw [4, 6] (fun sv kv wq => ∃ (k : Nat), k ≤ K ∧ sv = S (X0 ++ 47 :: encS (seg.take k)) ∧ kv = .int .i64 (k : Int) ∧ Hid (Below w.heap.size w wq ∧ (X0 ++ 47 :: encS (seg.take k)).length ≤ 513)) (fun _ kv _ => K - (intOf kv).toNat)
    case atStart => exact ⟨0, Nat.zero_le _, rfl, rfl, Lib.hid ⟨HB.out, by rw [List.take_zero, List.length_append]; show _ + 1 ≤ _; omega⟩⟩
    case round =>
      obtain ⟨k, hk, rfl, rfl, HQ⟩ := hrel
      have k0 := HC.out wr HQ.out.1
      have hwk : IntKind.i64.wrap ((k : Int) + 1) = (k : Int) + 1 := by rw [IntKind.wrap_i64]; omega
      by_cases hkl : k < K
      case neg =>
        obtain rfl : k = K := by omega
        have g2 : decide ((k : Int) < (k : Int)) = false := decide_eq_false (by omega)
        have e0 : X0 ++ 47 :: encS (seg.take k) = joinS (l.take (i + 1)) := by rw [HNX.out.1, HK.out, List.take_length]
        have HLG : Hid (512 < (joinS (l.take (i + 1))).length → joinF l = none) := Lib.hid fun h => HLONG.out k (by rw [e0]; exact h)
        rw [e0]
        clear e0
        obtain ⟨X1, hX1⟩ : ∃ X, X = joinS (l.take (i + 1)) := ⟨_, rfl⟩
        rw [← hX1] at HLG ⊢
        have HX1 := Lib.hid hX1
        have hln := run_len_S (P := Tryd.prog) Tryd.underlying9 3 X1
        obtain ⟨LX, hLX⟩ : ∃ L, L = X1.length := ⟨_, rfl⟩
        rw [← hLX] at hln HLG
        have HLX := Lib.hid hLX
        have HBQ := Lib.hid HQ.out.1
        clear hX1 hLX HQ
        by_cases h5 : 512 < LX
        · have g3 : decide ((512 : Int) < (LX : Int)) = true := decide_eq_true (by omega)
          have g3' : decide (512 < LX) = true := decide_eq_true h5
          have HP := Lib.hid (HLG.out h5)
          clear h5
          go_wp2
          first | (go_ret2; exact HNO.out HP.out _ HBQ.out) | exact HNO.out HP.out _ HBQ.out
        · have g3 : decide ((512 : Int) < (LX : Int)) = false := decide_eq_false (by omega)
          have g3' : decide (512 < LX) = false := decide_eq_false h5
          have HN2 : Hid (Below w.heap.size w wr ∧ (∀ x ∈ l.take (i + 1), mayS x = true) ∧ (joinS (l.take (i + 1))).length ≤ 512) := Lib.hid ⟨HBQ.out, HNX.out.2 (by first | rfl | trivial), by rw [← HX1.out, ← HLX.out]; omega⟩
          clear h5
          go_wp2
          exact ⟨⟨i + 1, by omega, by rw [HX1.out], by go_num, HN2⟩, by simp [intOf]; omega⟩
      have g2 : decide ((k : Int) < (K : Int)) = true := decide_eq_true (by omega)
      obtain ⟨c, hc⟩ : ∃ c, seg[k]? = some c := ⟨seg[k]'(by have := HK.out; omega), List.getElem?_eq_getElem _⟩
      have hidx : ∀ w, (Instr.index 9 (S seg) (.int .i64 (k : Int))).run Tryd.prog w = .ok (B c) w := fun w => index_S (P := Tryd.prog) Tryd.underlying9 seg k c hc w
      have HE : Hid (X0 ++ 47 :: encS (seg.take (k + 1)) = (X0 ++ 47 :: encS (seg.take k)) ++ encC c) := Lib.hid (by rw [enc_next hc]; simp)
      have HLG : Hid (512 < (X0 ++ 47 :: encS (seg.take (k + 1))).length → joinF l = none) := Lib.hid fun h => HLONG.out (k + 1) h
      obtain ⟨X, hX⟩ : ∃ X, X = X0 ++ 47 :: encS (seg.take k) := ⟨_, rfl⟩
      have hXl : X.length ≤ 513 := by rw [hX]; exact HQ.out.2
      rw [← hX] at HE ⊢
      have HBQ := Lib.hid HQ.out.1
      clear hc hX HQ
      go_wp2_with fail
      clear k0
      go_loopw [8, 9] (fun bv mv wz => ∃ (m : Nat), m ≤ 66 ∧ bv = .bool ((ownAll.take m).contains c) ∧ mv = .int .i64 (m : Int) ∧ wz = wr) (fun _ mv _ => 66 - (intOf mv).toNat)
      case atStart => exact ⟨0, Nat.zero_le _, by rfl, rfl, rfl⟩
      case round =>
        obtain ⟨m, hm, rfl, rfl, hwz⟩ := hrel
        subst hwz
        have hwm : IntKind.i64.wrap ((m : Int) + 1) = (m : Int) + 1 := by rw [IntKind.wrap_i64]; omega
        by_cases hml : m < 66
        case pos =>
          have g3 : decide ((m : Int) < 66) = true := decide_eq_true (by omega)
          obtain ⟨x, hx⟩ : ∃ x, ownAll[m]? = some x := ⟨ownAll[m]'hml, List.getElem?_eq_getElem _⟩
          have hst : (ownAll.take (m + 1)).contains c = ((ownAll.take m).contains c || x == c) := by
            rw [List.take_add_one, hx, Bool.eq_iff_iff, Bool.or_eq_true, List.contains_iff_mem, List.contains_iff_mem, beq_iff_eq]
            show c ∈ ownAll.take m ++ [x] ↔ _
            rw [List.mem_append, List.mem_singleton]
            exact or_congr_right ⟨fun e => e.symm, fun e => e.symm⟩
          have HST := Lib.hid hst
          have hx2 := beqB x c
          clear hst
          obtain ⟨is, his⟩ : ∃ b, b = (ownAll.take m).contains c := ⟨_, rfl⟩
          obtain ⟨eq, hequ⟩ : ∃ b, b = (x == c) := ⟨_, rfl⟩
          rw [← his, ← hequ] at HST
          rw [← his]
          rw [← hequ] at hx2
          clear his hequ
          cases is with
          | true =>
            clear hx2 hx
            go_wp2
            exact ⟨⟨m + 1, by omega, by rw [HST.out]; rfl, by go_num, by trivial⟩, by simp [intOf]; omega⟩
          | false =>
            cases eq with
            | true =>
              go_wp2
              rw [lit_V _ m _ x hx]
              go_simp
              rename_i hK
              apply hK
              clear hK
              go_wp2
              exact ⟨⟨m + 1, by omega, by rw [HST.out]; rfl, by go_num, by trivial⟩, by simp [intOf]; omega⟩
            | false =>
              go_wp2
              rw [lit_V _ m _ x hx]
              go_simp
              rename_i hK
              apply hK
              clear hK
              go_wp2
              exact ⟨⟨m + 1, by omega, by rw [HST.out]; rfl, by go_num, by trivial⟩, by simp [intOf]; omega⟩
        case neg =>
          obtain rfl : m = 66 := by omega
          have hpl : (ownAll.take 66).contains c = plainB c := rfl
          rw [hpl]
          clear hpl
          obtain ⟨pl, hpl⟩ : ∃ b, b = plainB c := ⟨_, rfl⟩
          have HPL := Lib.hid hpl
          rw [← hpl]
          clear hpl
          have HEN : Hid (encC c = if pl = true then [c] else [37, hexD (c.toNat / 16), hexD (c.toNat % 16)]) := Lib.hid (by unfold encC; rw [HPL.out])
          cases pl with
          | true =>
            have z1 : binOp .add 9 (S X) (S [c]) = pure (S (X ++ [c])) := S_add 9 X [c] (by show _ + 1 ≤ _; omega)
            have HXE : Hid (X0 ++ 47 :: encS (seg.take (k + 1)) = X ++ [c]) := Lib.hid (by rw [HE.out, HEN.out, if_pos rfl])
            have hcv : ∀ q, (convert 31 9 (.slice (some ⟨wr.heap.size, 0, none⟩) 1 q)).run Tryd.prog (wr.alloc (.cells #[B c] 5)) = .ok (S [c]) (wr.alloc (.cells #[B c] 5)) := fun q => conv_byteA (row_new wr #[B c] 5)
            have HBN : Hid (Below w.heap.size w (wr.alloc (.cells #[B c] 5))) := Lib.hid (HBQ.out.alloc HBQ.out.size _)
            have hln := run_len_S (P := Tryd.prog) Tryd.underlying9 3 (X ++ [c])
            obtain ⟨LX, hLX⟩ : ∃ L, L = (X ++ [c]).length := ⟨_, rfl⟩
            rw [← hLX] at hln
            have HLX := Lib.hid hLX
            clear hLX
            by_cases h5 : 512 < LX
            · have g4 : decide ((512 : Int) < (LX : Int)) = true := decide_eq_true (by omega)
              have g4' : decide (512 < LX) = true := decide_eq_true h5
              have HP := Lib.hid (HLG.out (by rw [HXE.out, ← HLX.out]; exact h5))
              clear h5
              go_wp2
              first | (go_ret2; exact HNO.out HP.out _ HBN.out) | exact HNO.out HP.out _ HBN.out
            · have g4 : decide ((512 : Int) < (LX : Int)) = false := decide_eq_false (by omega)
              have g4' : decide (512 < LX) = false := decide_eq_false h5
              have HLE : Hid ((X0 ++ 47 :: encS (seg.take (k + 1))).length ≤ 513) := Lib.hid (by rw [HXE.out, ← HLX.out]; omega)
              clear h5
              go_wp2
              exact ⟨⟨k + 1, by omega, by rw [HXE.out], by go_num, Lib.hid ⟨HBN.out, HLE.out⟩⟩, by simp [intOf]; omega⟩
          | false =>
            obtain ⟨q, hq⟩ : ∃ q, q = c.toNat / 16 := ⟨_, rfl⟩
            obtain ⟨r, hr⟩ : ∃ r, r = c.toNat % 16 := ⟨_, rfl⟩
            have hb := c.toNat_lt
            have hq16 : q < 16 := by omega
            have hr16 : r < 16 := by omega
            have hqo := quo_u8 c
            have hre := rem_u8 c
            rw [← hq] at hqo HEN
            rw [← hr] at hre HEN
            have hwq : IntKind.u8.wrap ((q : Int) + 1) = (q : Int) + 1 := by rw [IntKind.wrap_u8]; omega
            have hwr : IntKind.u8.wrap ((r : Int) + 1) = (r : Int) + 1 := by rw [IntKind.wrap_u8]; omega
            have hsq := hexd_slice q hq16
            have hsr := hexd_slice r hr16
            obtain ⟨y1, hy1⟩ : ∃ y, y = hexD q := ⟨_, rfl⟩
            obtain ⟨y2, hy2⟩ : ∃ y, y = hexD r := ⟨_, rfl⟩
            rw [← hy1] at hsq HEN
            rw [← hy2] at hsr HEN
            have z1 : binOp .add 9 (S X) (.string ⟨#[37]⟩) = pure (S (X ++ [37])) := S_add 9 X [37] (by show _ + 1 ≤ _; omega)
            obtain ⟨Z1, hZ1⟩ : ∃ Z, Z = X ++ [37] := ⟨_, rfl⟩
            rw [← hZ1] at z1
            have l1 : Z1.length = X.length + 1 := by rw [hZ1, List.length_append]; rfl
            have z2 : binOp .add 9 (S Z1) (S [y1]) = pure (S (Z1 ++ [y1])) := S_add 9 Z1 [y1] (by show _ + 1 ≤ _; omega)
            obtain ⟨Z2, hZ2⟩ : ∃ Z, Z = Z1 ++ [y1] := ⟨_, rfl⟩
            rw [← hZ2] at z2
            have l2 : Z2.length = Z1.length + 1 := by rw [hZ2, List.length_append]; rfl
            have z3 : binOp .add 9 (S Z2) (S [y2]) = pure (S (Z2 ++ [y2])) := S_add 9 Z2 [y2] (by show _ + 1 ≤ _; omega)
            obtain ⟨Z3, hZ3⟩ : ∃ Z, Z = Z2 ++ [y2] := ⟨_, rfl⟩
            rw [← hZ3] at z3
            have HXE : Hid (X0 ++ 47 :: encS (seg.take (k + 1)) = Z3) := Lib.hid (by rw [HE.out, HEN.out, if_neg Bool.false_ne_true, hZ3, hZ2, hZ1]; simp)
            obtain ⟨Wq, hWq⟩ : ∃ Wq, Wq = wr.drew := ⟨_, rfl⟩
            have HBN : Hid (Below w.heap.size w Wq) := Lib.hid (HBQ.out.trans ((show Below wr.heap.size wr Wq by rw [hWq]; exact ⟨rfl, rfl, rfl, Nat.le_refl _, fun _ _ => rfl⟩).mono HBQ.out.size))
            clear hZ1 hZ2 hZ3 l1 l2 hy1 hy2 hq hr hb hq16 hr16
            go_wp2
            refine wp_region_noPanic ?_
            refine wp_region_held_drew (S := fun _ => True) (by kernel_rfl) trivial (fun _ => ?_)
            rw [← hWq]
            clear hWq
            refine take_at (i := 0) (d := some 59) (v := S X) rfl (by kernel_rfl) (by kernel_rfl) (by kernel_rfl) (fun _ _ _ h => h) (fun oi ho => ?_) trivial ?_
            · obtain rfl := Option.some.inj ho
              exact Or.inl ⟨by rfl, fun wx hSw => by go_simp⟩
            simp only [Act.put, List.setIfInBounds_toArray, List.set_cons_zero, List.set_cons_succ]
            refine take_at (i := 1) (d := some 60) (v := S Z1) rfl (by kernel_rfl) (by kernel_rfl) (by kernel_rfl) (fun _ _ _ h => h) (fun oi ho => ?_) trivial ?_
            · obtain rfl := Option.some.inj ho
              exact Or.inl ⟨by rfl, fun wx hSw => by go_simp⟩
            simp only [Act.put, List.setIfInBounds_toArray, List.set_cons_zero, List.set_cons_succ]
            refine take_at (i := 2) (d := some 61) (v := B c) rfl (by kernel_rfl) (by kernel_rfl) (by kernel_rfl) (fun _ _ _ h => h) (fun oi ho => ?_) trivial ?_
            · obtain rfl := Option.some.inj ho
              exact Or.inl ⟨by rfl, fun wx hSw => by go_simp⟩
            simp only [Act.put, List.setIfInBounds_toArray, List.set_cons_zero, List.set_cons_succ]
            refine take_at (i := 3) (d := some 62) (v := .int .u8 (q : Int)) rfl (by kernel_rfl) (by kernel_rfl) (by kernel_rfl) (fun _ _ _ h => h) (fun oi ho => ?_) trivial ?_
            · obtain rfl := Option.some.inj ho
              exact Or.inl ⟨by rfl, fun wx hSw => by go_simp⟩
            simp only [Act.put, List.setIfInBounds_toArray, List.set_cons_zero, List.set_cons_succ]
            refine take_at (i := 4) (d := some 63) (v := B c) rfl (by kernel_rfl) (by kernel_rfl) (by kernel_rfl) (fun _ _ _ h => h) (fun oi ho => ?_) trivial ?_
            · obtain rfl := Option.some.inj ho
              exact Or.inl ⟨by rfl, fun wx hSw => by go_simp⟩
            simp only [Act.put, List.setIfInBounds_toArray, List.set_cons_zero, List.set_cons_succ]
            refine take_at (i := 5) (d := some 64) (v := .int .u8 (q : Int)) rfl (by kernel_rfl) (by kernel_rfl) (by kernel_rfl) (fun _ _ _ h => h) (fun oi ho => ?_) trivial ?_
            · obtain rfl := Option.some.inj ho
              exact Or.inl ⟨by rfl, fun wx hSw => by go_simp⟩
            simp only [Act.put, List.setIfInBounds_toArray, List.set_cons_zero, List.set_cons_succ]
            refine take_at (i := 6) (d := some 65) (v := .int .u8 ((q : Int) + 1)) rfl (by kernel_rfl) (by kernel_rfl) (by kernel_rfl) (fun _ _ _ h => h) (fun oi ho => ?_) trivial ?_
            · obtain rfl := Option.some.inj ho
              exact Or.inl ⟨by rfl, fun wx hSw => by go_simp⟩
            simp only [Act.put, List.setIfInBounds_toArray, List.set_cons_zero, List.set_cons_succ]
            refine take_at (i := 7) (d := some 66) (v := S [y1]) rfl (by kernel_rfl) (by kernel_rfl) (by kernel_rfl) (fun _ _ _ h => h) (fun oi ho => ?_) trivial ?_
            · obtain rfl := Option.some.inj ho
              exact Or.inl ⟨by rfl, fun wx hSw => by go_simp⟩
            simp only [Act.put, List.setIfInBounds_toArray, List.set_cons_zero, List.set_cons_succ]
            refine take_at (i := 8) (d := some 67) (v := S Z2) rfl (by kernel_rfl) (by kernel_rfl) (by kernel_rfl) (fun _ _ _ h => h) (fun oi ho => ?_) trivial ?_
            · obtain rfl := Option.some.inj ho
              exact Or.inl ⟨by rfl, fun wx hSw => by go_simp⟩
            simp only [Act.put, List.setIfInBounds_toArray, List.set_cons_zero, List.set_cons_succ]
            refine take_at (i := 9) (d := some 68) (v := B c) rfl (by kernel_rfl) (by kernel_rfl) (by kernel_rfl) (fun _ _ _ h => h) (fun oi ho => ?_) trivial ?_
            · obtain rfl := Option.some.inj ho
              exact Or.inl ⟨by rfl, fun wx hSw => by go_simp⟩
            simp only [Act.put, List.setIfInBounds_toArray, List.set_cons_zero, List.set_cons_succ]
            refine take_at (i := 10) (d := some 69) (v := .int .u8 (r : Int)) rfl (by kernel_rfl) (by kernel_rfl) (by kernel_rfl) (fun _ _ _ h => h) (fun oi ho => ?_) trivial ?_
            · obtain rfl := Option.some.inj ho
              exact Or.inl ⟨by rfl, fun wx hSw => by go_simp⟩
            simp only [Act.put, List.setIfInBounds_toArray, List.set_cons_zero, List.set_cons_succ]
            refine take_at (i := 11) (d := some 70) (v := B c) rfl (by kernel_rfl) (by kernel_rfl) (by kernel_rfl) (fun _ _ _ h => h) (fun oi ho => ?_) trivial ?_
            · obtain rfl := Option.some.inj ho
              exact Or.inl ⟨by rfl, fun wx hSw => by go_simp⟩
            simp only [Act.put, List.setIfInBounds_toArray, List.set_cons_zero, List.set_cons_succ]
            refine take_at (i := 12) (d := some 71) (v := .int .u8 (r : Int)) rfl (by kernel_rfl) (by kernel_rfl) (by kernel_rfl) (fun _ _ _ h => h) (fun oi ho => ?_) trivial ?_
            · obtain rfl := Option.some.inj ho
              exact Or.inl ⟨by rfl, fun wx hSw => by go_simp⟩
            simp only [Act.put, List.setIfInBounds_toArray, List.set_cons_zero, List.set_cons_succ]
            refine take_at (i := 13) (d := some 72) (v := .int .u8 ((r : Int) + 1)) rfl (by kernel_rfl) (by kernel_rfl) (by kernel_rfl) (fun _ _ _ h => h) (fun oi ho => ?_) trivial ?_
            · obtain rfl := Option.some.inj ho
              exact Or.inl ⟨by rfl, fun wx hSw => by go_simp⟩
            simp only [Act.put, List.setIfInBounds_toArray, List.set_cons_zero, List.set_cons_succ]
            refine take_at (i := 14) (d := some 73) (v := S [y2]) rfl (by kernel_rfl) (by kernel_rfl) (by kernel_rfl) (fun _ _ _ h => h) (fun oi ho => ?_) trivial ?_
            · obtain rfl := Option.some.inj ho
              exact Or.inl ⟨by rfl, fun wx hSw => by go_simp⟩
            simp only [Act.put, List.setIfInBounds_toArray, List.set_cons_zero, List.set_cons_succ]
            refine take_at (i := 15) (d := some 74) (v := S Z3) rfl (by kernel_rfl) (by kernel_rfl) (by kernel_rfl) (fun _ _ _ h => h) (fun oi ho => ?_) trivial ?_
            · obtain rfl := Option.some.inj ho
              exact Or.inl ⟨by rfl, fun wx hSw => by go_simp⟩
            simp only [Act.put, List.setIfInBounds_toArray, List.set_cons_zero, List.set_cons_succ]
            refine take_at (i := 16) (d := some 4) (v := S Z3) rfl (by kernel_rfl) (by kernel_rfl) (by kernel_rfl) (fun _ _ _ h => h) (fun oi ho => ?_) trivial ?_
            · obtain rfl := Option.some.inj ho
              exact Or.inl ⟨by rfl, fun wx hSw => by go_simp⟩
            simp only [Act.put, List.setIfInBounds_toArray, List.set_cons_zero, List.set_cons_succ]
            refine wpAnyH_done (by kernel_rfl) ?_ _
            refine NoPanic.normal ?_
            have hln := run_len_S (P := Tryd.prog) Tryd.underlying9 3 (Z3)
            obtain ⟨LX, hLX⟩ : ∃ L, L = (Z3).length := ⟨_, rfl⟩
            rw [← hLX] at hln
            have HLX := Lib.hid hLX
            clear hLX
            by_cases h5 : 512 < LX
            · have g4 : decide ((512 : Int) < (LX : Int)) = true := decide_eq_true (by omega)
              have g4' : decide (512 < LX) = true := decide_eq_true h5
              have HP := Lib.hid (HLG.out (by rw [HXE.out, ← HLX.out]; exact h5))
              clear h5
              go_wp2
              first | (go_ret2; exact HNO.out HP.out _ HBN.out) | exact HNO.out HP.out _ HBN.out
            · have g4 : decide ((512 : Int) < (LX : Int)) = false := decide_eq_false (by omega)
              have g4' : decide (512 < LX) = false := decide_eq_false h5
              have HLE : Hid ((X0 ++ 47 :: encS (seg.take (k + 1))).length ≤ 513) := Lib.hid (by rw [HXE.out, ← HLX.out]; omega)
              clear h5
              go_wp2
              exact ⟨⟨k + 1, by omega, by rw [HXE.out], by go_num, Lib.hid ⟨HBN.out, HLE.out⟩⟩, by simp [intOf]; omega⟩
end Go.Proofs.YtmklgjbfdaleiaaDoor
