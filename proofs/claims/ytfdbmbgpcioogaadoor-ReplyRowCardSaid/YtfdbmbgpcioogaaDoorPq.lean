/- The law's ReplyBack (stage 10) walked. -/
import Derived.Test.YtfdbmbgpcioogaaDoorJe
namespace Go.Proofs.YtfdbmbgpcioogaaDoor
open Go.RowKit
attribute [local go_sem] store_one S_match S_store eguard_BN nguard_BN

theorem conv_u32 (n : Nat) (h : n ≤ 4294967295) (w : World) : (convert 39 3 (.int .u32 (n : Int))).run Tryd.prog w = .ok (.int .i64 (n : Int)) w := by
  have e : IntKind.i64.wrap (n : Int) = (n : Int) := by rw [IntKind.wrap_i64]; omega
  simp [convert, run_underlying Tryd.underlying39, run_underlying Tryd.underlying3, e, go_sem]
/-- Another box beside. -/
structure Box (W0 : World) (g : Nat) (c : Int) (V : Value) (body : List UInt8) (W : World) : Prop where
  row : Row W g #[.int .i64 c, V, S body] 29
  bel : Below W0.heap.size W0 W
  new : W0.heap.size ≤ g
theorem Box.below {W0 W W' : World} {g : Nat} {c : Int} {V : Value} {body : List UInt8} (h : Box W0 g c V body W) (hb : Below W.heap.size W W') : Box W0 g c V body W' :=
  ⟨h.row.below hb h.row.lt, h.bel.trans (hb.mono h.bel.size), h.new⟩
theorem bytes_ne (c : Int) (fs : List Fld) (body : List UInt8) (head close : Bool) : bytesB c fs body head close ≠ [] := by
  unfold bytesB headB
  intro h
  have := congrArg List.length h
  simp at this
theorem bytes_len {c : Int} {fs : List Fld} {body : List UInt8} {head close : Bool} (h : RightP c fs body) : (bytesB c fs body head close).length ≤ rpLen fs body + 300 := by
  have h1 := lines_len c fs body.length close h.lo h.hi h.len
  unfold bytesB headB rpLen
  rw [List.length_append, List.length_append]
  have : (if head = true then ([] : List UInt8) else body).length ≤ body.length := by split <;> simp
  simp only [List.length_cons, List.length_nil]
  omega
set_option maxRecDepth 100000 in
set_option maxHeartbeats 4000000 in
theorem back10_any {w : World} (C : ReplyI w) (c : Int) (fs : List Fld) (body : List UInt8) (head close : Bool) (behind : List UInt8) (cut : Nat) (hcut : cut ≤ 4294967295) (V : Value) (b o : Nat) (hA : FA w V fs b o) (hb : body.length ≤ 281474976710656) :
    Calls Tryd.prog 5 #[.agg (rpC c V body), .bool head, .bool close, S behind, .int .u32 (cut : Int)] w fun e w' => e = .returned (.bool true) ∧ Below w.heap.size w w' := by
  have HC := Lib.hid C
  obtain ⟨fa, fc, rfl⟩ := hA.form
  obtain ⟨b1, hb1⟩ : ∃ b, b = w.heap.size := ⟨_, rfl⟩
  obtain ⟨W1, hW1⟩ : ∃ W, W = w.alloc (.cells (rpC c (.slice fa fs.length fc) body) 29) := ⟨_, rfl⟩
  have hB1 : Below w.heap.size w W1 := by rw [hW1]; exact (Below.refl _ w).alloc (Nat.le_refl _) _
  have hM1 : RtAt w b1 c (.slice fa fs.length fc) body fs b o W1 := ⟨by rw [hW1, hb1]; exact row_new _ _ _, hA.below hB1, hB1⟩
  have HM := Lib.hid hM1
  have HAW := Lib.hid (awake10_any (C.up hB1))
  have HBD := Lib.hid hb
  have HCUT := Lib.hid hcut
  have hlH := run_len_S (P := Tryd.prog) Tryd.underlying9 3 behind
  obtain ⟨LH, hLH⟩ : ∃ L, L = behind.length := ⟨_, rfl⟩
  rw [← hLH] at hlH
  have HLH := Lib.hid hLH
  obtain ⟨NF, hNF⟩ : ∃ N, N = fs.length := ⟨_, rfl⟩
  have HNF := Lib.hid hNF
  clear C hA hB1 hM1 hb hcut hLH
  unfold rpC
  rw [show rpC c (.slice fa fs.length fc) body = #[.int .i64 c, .slice fa fs.length fc, S body] from rfl] at hW1
  rw [← hNF] at hW1 HM ⊢
  clear hNF
  have hcells : Hid (∀ W, RtAt w b1 c (.slice fa NF fc) body fs b o W → W.cell? ⟨b1, 0, none⟩ = some (.int .i64 c) ∧ W.cell? ⟨b1, 1, none⟩ = some (.slice fa NF fc) ∧ W.cell? ⟨b1, 2, none⟩ = some (S body)) := Lib.hid fun W hW =>
    ⟨cell_of_row W _ 0 _ _ (0, 0) hW.row, cell_of_row W _ 1 _ _ (0, 0) hW.row, cell_of_row W _ 2 _ _ (0, 0) hW.row⟩
  go_enter Tryd.func5, Tryd.ntmps5
  go_wp2_with fail
  all_goals try rw [← hW1, ← hb1]
  clear hW1 hb1
  refine HAW.out.mono ?_
  rintro e W2 ⟨rfl, hB⟩
  have H2 := Lib.hid (HM.out.below hB)
  obtain ⟨c0, c1, c2⟩ := hcells.out W2 H2.out
  clear hB HAW
  go_wp2_with fail
  clear c0 c1 c2
  refine (great_any c fs body _ b o W2 H2.out.fa HBD.out).mono ?_
  rintro e W3 ⟨z, rfl, hz, hB⟩
  have H3 := Lib.hid (H2.out.below hB)
  have HZ := Lib.hid hz
  clear hB hz H2
  cases z with
  | true =>
    go_wp2
    go_ret
    exact ⟨rfl, H3.out.bel⟩
  | false =>
  have HL : Hid (rpLen fs body ≤ 70500) := Lib.hid (HZ.out rfl)
  by_cases h3 : 300 < LH
  · have g3 : decide ((300 : Int) < (LH : Int)) = true := decide_eq_true (by omega)
    go_wp2
    go_ret
    exact ⟨rfl, H3.out.bel⟩
  have g3 : decide ((300 : Int) < (LH : Int)) = false := decide_eq_false (by omega)
  have HH3 := Lib.hid h3
  obtain ⟨c0, c1, c2⟩ := hcells.out W3 H3.out
  clear h3
  go_wp2_with fail
  clear c0 c1 c2
  refine (HC.out.bytes c fs body head close _ b o W3 H3.out.bel H3.out.fa (by have := HL.out; omega)).mono ?_
  rintro e W4 ⟨rfl, hB⟩
  have H4 := Lib.hid (H3.out.below hB)
  obtain ⟨c0, c1, c2⟩ := hcells.out W4 H4.out
  clear hB H3
  by_cases hmay : mayB c fs body close = true
  case neg =>
    have HN : Hid (bytesO c fs body head close = none) := Lib.hid (by unfold bytesO; rw [if_neg hmay])
    rw [HN.out]
    unfold bytesV S
    dsimp only
    obtain ⟨rb, hrb⟩ : ∃ rb, rb = rightB c fs body := ⟨_, rfl⟩
    have HRB := Lib.hid hrb
    have hm2 : rb = true → close = true ∧ c = 101 := fun h => by
      unfold mayB at hmay
      rw [← hrb, h] at hmay
      cases close <;> simp at hmay
      exact ⟨rfl, hmay⟩
    have HM2 := Lib.hid hm2
    clear hrb hmay hm2
    have e0 : ([] : List UInt8).toArray = #[] := rfl
    go_wp2_with fail
    clear c0 c1 c2
    refine (HC.out.right c fs body _ b o W4 H4.out.bel H4.out.fa (by have := HL.out; omega)).mono ?_
    rintro e W5 ⟨rfl, hB⟩
    rw [← HRB.out]
    have H5 := Lib.hid (H4.out.below hB)
    obtain ⟨c0, c1, c2⟩ := hcells.out W5 H5.out
    clear hB H4
    cases rb with
    | false =>
      go_wp2
      go_ret
      exact ⟨rfl, H5.out.bel⟩
    | true =>
      obtain ⟨rfl, rfl⟩ := HM2.out rfl
      go_wp2
      go_ret
      exact ⟨rfl, H5.out.bel⟩
  obtain ⟨hRP, hcc⟩ := may_iff.1 hmay
  obtain ⟨X, hX⟩ : ∃ X, X = bytesB c fs body head close := ⟨_, rfl⟩
  have HX : Hid (bytesO c fs body head close = some X) := Lib.hid (by unfold bytesO; rw [if_pos hmay, hX])
  rw [HX.out]
  unfold bytesV
  dsimp only
  have hXl : X.length ≤ 71000 := by have := bytes_len (head := head) (close := close) hRP; have := HL.out; rw [hX]; omega
  have hXne : X ≠ [] := by rw [hX]; exact bytes_ne c fs body head close
  have eX : binOp .eql 9 (S X) (.string ⟨#[]⟩) = pure (.bool false) := by
    have := eql_S 9 X []
    rw [show (X == []) = false from beq_eq_false_iff_ne.2 hXne] at this
    exact this
  have gX : ∀ x y, eqGuard .eql 9 x y (S X) (.string ⟨#[]⟩) = pure () := fun x y => guard_S 9 x y X []
  have yX : binOp .add 9 (S X) (S behind) = pure (S (X ++ behind)) := S_add 9 X behind (by have := HLH.out; have := HH3.out; omega)
  have hlX := run_len_S (P := Tryd.prog) Tryd.underlying9 3 X
  obtain ⟨LX, hLX⟩ : ∃ L, L = X.length := ⟨_, rfl⟩
  rw [← hLX] at hlX
  obtain ⟨Y, hY⟩ : ∃ Y, Y = X ++ behind := ⟨_, rfl⟩
  rw [← hY] at yX
  obtain ⟨u, hu⟩ : ∃ u : Nat, u = c.toNat := ⟨_, rfl⟩
  have huc : (u : Int) = c := by have := hRP.lo; omega
  obtain ⟨bd, hbd⟩ : ∃ bd, bd = if head = true then [] else body := ⟨_, rfl⟩
  have HRD : Hid (readF Y head = .ok u fs bd close LX ∧ Y.length ≤ 100000) := Lib.hid ⟨by rw [hY, hX, hLX, hu, hbd, hX]; exact read_bytes hRP hcc behind, by rw [hY, List.length_append]; have := HLH.out; have := HH3.out; omega⟩
  have HSH : Hid (∀ k, k < LX → readF (X.take k) head = .short ∨ (65536 ≤ k ∧ readF (X.take k) head = .form)) := Lib.hid fun k hk => by
    rw [hX]; exact read_short hRP hcc (by rw [← hX, ← hLX]; exact hk)
  have HLX := Lib.hid (show LX = X.length ∧ 0 < LX ∧ LX ≤ 71000 from ⟨hLX, by rw [hLX]; exact List.length_pos_iff.2 hXne, by omega⟩)
  have HUC := Lib.hid (And.intro huc hbd)
  clear hRP hcc hX hXl hXne hLX hY hu huc hbd hmay
  -- the copy
  obtain ⟨b13, hb13⟩ : ∃ b, b = W4.heap.size := ⟨_, rfl⟩
  obtain ⟨W5, hW5⟩ : ∃ W, W = W4.alloc (.cells #[.int .i64 c, .slice fa NF fc, S bd] 29) := ⟨_, rfl⟩
  have hB5 : Below W4.heap.size W4 W5 := by rw [hW5]; exact (Below.refl _ W4).alloc (Nat.le_refl _) _
  have H5 := Lib.hid (And.intro (H4.out.below hB5) (show Box W4 b13 c (.slice fa NF fc) bd W5 from ⟨by rw [hW5, hb13]; exact row_new _ _ _, hB5, by rw [hb13]; exact Nat.le_refl _⟩))
  clear hB5
  have HCELL : Hid (∀ W, Box W4 b13 c (.slice fa NF fc) bd W → W.cell? ⟨b13, 0, none⟩ = some (.int .i64 c) ∧ W.cell? ⟨b13, 1, none⟩ = some (.slice fa NF fc) ∧ W.cell? ⟨b13, 2, none⟩ = some (S bd)) := Lib.hid fun W hW =>
    ⟨cell_of_row W _ 0 _ _ (0, 0) hW.row, cell_of_row W _ 1 _ _ (0, 0) hW.row, cell_of_row W _ 2 _ _ (0, 0) hW.row⟩
  have hgo : Hid (Calls Tryd.prog 9 #[S Y, .bool head] W5 fun e w' => ReadV (.ok u fs bd close LX) e W5 w') := Lib.hid (by
    have := HC.out.read Y head W5 H5.out.1.bel HRD.out.2
    rw [HRD.out.1] at this; exact this)
  have hW5a : head = true → W5 = W4.alloc (.cells #[.int .i64 c, .slice fa NF fc, .string ⟨#[]⟩] 29) := fun h => by rw [hW5, HUC.out.2, if_pos h]; rfl
  have hW5b : head = false → W5 = W4.alloc (.cells #[.int .i64 c, .slice fa NF fc, S body] 29) := fun h => by rw [hW5, HUC.out.2, h]; rfl
  clear hW5
  cases head with
  | true =>
    have hW := hW5a rfl
    clear hW5a hW5b
    go_wp2_with fail
    rw [← hW, ← hb13]
    clear hW hb13 c0 c1 c2
    refine hgo.out.mono ?_
    rintro e W6 ⟨hB6, V6, g6, rfl, hF6⟩
    obtain ⟨a6, fc6, rfl⟩ := hF6.form
    unfold rpC
    rw [HUC.out.1, ← HNF.out] at *
    obtain ⟨b14, hb14⟩ : ∃ b, b = W6.heap.size := ⟨_, rfl⟩
    obtain ⟨W7, hW7⟩ : ∃ W, W = W6.alloc (.cells #[.int .i64 c, .slice a6 NF fc6, S bd] 29) := ⟨_, rfl⟩
    have hB7 : Below W6.heap.size W6 W7 := by rw [hW7]; exact (Below.refl _ W6).alloc (Nat.le_refl _) _
    have hB57 : Below W5.heap.size W5 W7 := hB6.trans (hB7.mono hB6.size)
    have hr14 : Row W7 b14 #[.int .i64 c, .slice a6 NF fc6, S bd] 29 := by rw [hW7, hb14]; exact row_new _ _ _
    have H7 := Lib.hid (And.intro (H5.out.1.below hB57) (H5.out.2.below hB57))
    have hsame := dsame10_true c bd fs (.slice a6 NF fc6) (.slice fa NF fc) g6 0 b o (by have h1 := fsLen_count fs; have h2 := HL.out; unfold rpLen at h2; omega) W7 (hF6.below hB7).fa H7.out.1.fa
    unfold rpC at hsame
    have HS := Lib.hid hsame
    have k0 : W7.cell? ⟨b14, 0, none⟩ = some (.int .i64 c) := cell_of_row W7 _ 0 _ _ (0, 0) hr14
    have k1 : W7.cell? ⟨b14, 1, none⟩ = some (.slice a6 NF fc6) := cell_of_row W7 _ 1 _ _ (0, 0) hr14
    have k2 : W7.cell? ⟨b14, 2, none⟩ = some (S bd) := cell_of_row W7 _ 2 _ _ (0, 0) hr14
    obtain ⟨m0, m1, m2⟩ := HCELL.out W7 H7.out.2
    rw [hW7] at k0 k1 k2 m0 m1 m2
    rw [hb14] at k0 k1 k2
    clear hB6 hF6 hB7 hB57 hr14 hsame H5 hgo
    go_wp2_with fail
    rw [← hW7]
    clear k0 k1 k2 m0 m1 m2 hW7 hb14
    refine HS.out.mono ?_
    rintro e W8 ⟨rfl, hB8⟩
    have H8 := Lib.hid (H7.out.1.below hB8)
    have b0 : ∀ w, (binOp .neq 4 (.bool close) (.bool close)).run Tryd.prog w = .ok (.bool false) w := fun w => by cases close <;> rfl
    have e1 : ((LX : Int) != (LX : Int)) = false := by simp
    clear hB8 H7 HS
    have hcv := fun W => conv_u32 cut HCUT.out W
    have hL0 : ¬ LX = 0 := by have := HLX.out.2.1; omega
    have hL1 : ¬ (LX : Int) = 0 := by omega
    obtain ⟨k, hk⟩ : ∃ k, k = cut % LX := ⟨_, rfl⟩
    have hkl : k < LX := by rw [hk]; exact Nat.mod_lt _ (HLX.out.2.1)
    have hmod : (cut : Int).tmod (LX : Int) = (k : Int) := by rw [Int.tmod_eq_emod_of_nonneg (by omega), hk]; exact (Int.natCast_emod _ _).symm
    have hk5 : k ≤ 71000 := by have := HLX.out.2.2; omega
    have HK := Lib.hid hkl
    have hst := slice_take (P := Tryd.prog) Tryd.underlying9 X k (by have := HLX.out.1; omega)
    have HRK := Lib.hid fun W (hW : Below w.heap.size w W) => HC.out.read (X.take k) true W hW (by rw [List.length_take]; omega)
    have HSK := Lib.hid (HSH.out k hkl)
    obtain ⟨XK, hXK⟩ : ∃ Y, Y = X.take k := ⟨_, rfl⟩
    rw [← hXK] at hst HRK HSK
    clear hk hkl hXK
    go_wp2_with fail
    clear hst hcv
    refine (HRK.out W8 H8.out.bel).mono ?_
    rintro e W9 hv
    have HB9 := Lib.hid (H8.out.bel.trans (hv.1.mono H8.out.bel.size))
    rcases HSK.out with hs | ⟨hk6, hs⟩
    · rw [hs] at hv
      obtain ⟨_, rfl⟩ := hv
      have HBE : Hid (Below w.heap.size w (W9.alloc (.cells zeroRp 29))) := Lib.hid (HB9.out.alloc HB9.out.size _)
      unfold zeroRp at HBE ⊢
      clear hs
      go_wp2
      go_ret
      exact ⟨rfl, HBE.out⟩
    · rw [hs] at hv
      obtain ⟨_, rfl⟩ := hv
      have HBE : Hid (Below w.heap.size w (W9.alloc (.cells zeroRp 29))) := Lib.hid (HB9.out.alloc HB9.out.size _)
      unfold zeroRp at HBE ⊢
      have g9 : decide ((65536 : Int) ≤ (k : Int)) = true := decide_eq_true (by omega)
      clear hs
      go_wp2
      go_ret
      exact ⟨rfl, HBE.out⟩
  | false =>
    have hW := hW5b rfl
    clear hW5a hW5b
    go_wp2_with fail
    rw [← hW, ← hb13]
    clear hW hb13 c0 c1 c2
    refine hgo.out.mono ?_
    rintro e W6 ⟨hB6, V6, g6, rfl, hF6⟩
    obtain ⟨a6, fc6, rfl⟩ := hF6.form
    unfold rpC
    rw [HUC.out.1, ← HNF.out] at *
    obtain ⟨b14, hb14⟩ : ∃ b, b = W6.heap.size := ⟨_, rfl⟩
    obtain ⟨W7, hW7⟩ : ∃ W, W = W6.alloc (.cells #[.int .i64 c, .slice a6 NF fc6, S bd] 29) := ⟨_, rfl⟩
    have hB7 : Below W6.heap.size W6 W7 := by rw [hW7]; exact (Below.refl _ W6).alloc (Nat.le_refl _) _
    have hB57 : Below W5.heap.size W5 W7 := hB6.trans (hB7.mono hB6.size)
    have hr14 : Row W7 b14 #[.int .i64 c, .slice a6 NF fc6, S bd] 29 := by rw [hW7, hb14]; exact row_new _ _ _
    have H7 := Lib.hid (And.intro (H5.out.1.below hB57) (H5.out.2.below hB57))
    have hsame := dsame10_true c bd fs (.slice a6 NF fc6) (.slice fa NF fc) g6 0 b o (by have h1 := fsLen_count fs; have h2 := HL.out; unfold rpLen at h2; omega) W7 (hF6.below hB7).fa H7.out.1.fa
    unfold rpC at hsame
    have HS := Lib.hid hsame
    have k0 : W7.cell? ⟨b14, 0, none⟩ = some (.int .i64 c) := cell_of_row W7 _ 0 _ _ (0, 0) hr14
    have k1 : W7.cell? ⟨b14, 1, none⟩ = some (.slice a6 NF fc6) := cell_of_row W7 _ 1 _ _ (0, 0) hr14
    have k2 : W7.cell? ⟨b14, 2, none⟩ = some (S bd) := cell_of_row W7 _ 2 _ _ (0, 0) hr14
    obtain ⟨m0, m1, m2⟩ := HCELL.out W7 H7.out.2
    rw [hW7] at k0 k1 k2 m0 m1 m2
    rw [hb14] at k0 k1 k2
    clear hB6 hF6 hB7 hB57 hr14 hsame H5 hgo
    go_wp2_with fail
    rw [← hW7]
    clear k0 k1 k2 m0 m1 m2 hW7 hb14
    refine HS.out.mono ?_
    rintro e W8 ⟨rfl, hB8⟩
    have H8 := Lib.hid (H7.out.1.below hB8)
    have b0 : ∀ w, (binOp .neq 4 (.bool close) (.bool close)).run Tryd.prog w = .ok (.bool false) w := fun w => by cases close <;> rfl
    have e1 : ((LX : Int) != (LX : Int)) = false := by simp
    clear hB8 H7 HS
    have hcv := fun W => conv_u32 cut HCUT.out W
    have hL0 : ¬ LX = 0 := by have := HLX.out.2.1; omega
    have hL1 : ¬ (LX : Int) = 0 := by omega
    obtain ⟨k, hk⟩ : ∃ k, k = cut % LX := ⟨_, rfl⟩
    have hkl : k < LX := by rw [hk]; exact Nat.mod_lt _ (HLX.out.2.1)
    have hmod : (cut : Int).tmod (LX : Int) = (k : Int) := by rw [Int.tmod_eq_emod_of_nonneg (by omega), hk]; exact (Int.natCast_emod _ _).symm
    have hk5 : k ≤ 71000 := by have := HLX.out.2.2; omega
    have HK := Lib.hid hkl
    have hst := slice_take (P := Tryd.prog) Tryd.underlying9 X k (by have := HLX.out.1; omega)
    have HRK := Lib.hid fun W (hW : Below w.heap.size w W) => HC.out.read (X.take k) false W hW (by rw [List.length_take]; omega)
    have HSK := Lib.hid (HSH.out k hkl)
    obtain ⟨XK, hXK⟩ : ∃ Y, Y = X.take k := ⟨_, rfl⟩
    rw [← hXK] at hst HRK HSK
    clear hk hkl hXK
    go_wp2_with fail
    clear hst hcv
    refine (HRK.out W8 H8.out.bel).mono ?_
    rintro e W9 hv
    have HB9 := Lib.hid (H8.out.bel.trans (hv.1.mono H8.out.bel.size))
    rcases HSK.out with hs | ⟨hk6, hs⟩
    · rw [hs] at hv
      obtain ⟨_, rfl⟩ := hv
      have HBE : Hid (Below w.heap.size w (W9.alloc (.cells zeroRp 29))) := Lib.hid (HB9.out.alloc HB9.out.size _)
      unfold zeroRp at HBE ⊢
      clear hs
      go_wp2
      go_ret
      exact ⟨rfl, HBE.out⟩
    · rw [hs] at hv
      obtain ⟨_, rfl⟩ := hv
      have HBE : Hid (Below w.heap.size w (W9.alloc (.cells zeroRp 29))) := Lib.hid (HB9.out.alloc HB9.out.size _)
      unfold zeroRp at HBE ⊢
      have g9 : decide ((65536 : Int) ≤ (k : Int)) = true := decide_eq_true (by omega)
      clear hs
      go_wp2
      go_ret
      exact ⟨rfl, HBE.out⟩
end Go.Proofs.YtfdbmbgpcioogaaDoor
