/- The landed Join and Split walked: the landed package of paths does what is asked of it. -/
import Derived.Test.YtmklgjbfdaleiaaDoorAv4
import Derived.Test.YtmklgjbfdaleiaaDoorLz
namespace Go.Proofs.YtmklgjbfdaleiaaDoor
open Go.RowKit
attribute [local go_sem] store_one S_match S_store eguard_BN nguard_BN

theorem mayAll_take {l : List (List UInt8)} {i : Nat} {s : List UInt8} (h : l[i]? = some s) (ha : ∀ x ∈ l.take i, mayS x = true) (hs : mayS s = true) : ∀ x ∈ l.take (i + 1), mayS x = true := by
  intro x hx
  rw [List.take_add_one, h, Option.toList_some, List.mem_append, List.mem_singleton] at hx
  rcases hx with hx | rfl
  · exact ha x hx
  · exact hs
theorem joinS_take_le (l : List (List UInt8)) (i : Nat) : (joinS (l.take i)).length ≤ (joinS l).length := by
  have : joinS l = joinS (l.take i) ++ joinS (l.drop i) := by
    unfold joinS
    rw [← List.flatMap_append, List.take_append_drop]
  rw [this, List.length_append]; omega
theorem encS_ge : ∀ s : List UInt8, s.length ≤ (encS s).length
  | [] => by simp [encS]
  | c :: r => by
    have := encS_ge r
    have h1 : 1 ≤ (encC c).length := by unfold encC; split <;> simp
    rw [encS_cons, List.length_append, List.length_cons]; omega
set_option maxRecDepth 100000 in
set_option maxHeartbeats 2000000 in
theorem join_any (l : List (List UInt8)) (V : Value) (b o : Nat) (w : World) (hT : TA w V l b o) (hn : l.length ≤ 10000) (hsum : sumL l ≤ 100000) :
    Calls Tryd.prog 10 #[V] w fun e w' => e = .returned (joinV (joinF l)) ∧ Below w.heap.size w w' := by
  have hlen := fun w' => hT.len 3 w'
  obtain ⟨N, hN⟩ : ∃ N, N = l.length := ⟨_, rfl⟩
  rw [← hN] at hlen hn
  have HT := Lib.hid hT
  have HN := Lib.hid hN
  have HS := Lib.hid hsum
  obtain ⟨PO, hPO⟩ : ∃ PO : Ending → World → Prop, PO = fun e w' => e = .returned (joinV (joinF l)) ∧ Below w.heap.size w w' := ⟨_, rfl⟩
  rw [← hPO]
  have HNO : Hid (joinF l = none → ∀ W, Below w.heap.size w W → PO (.returned (.tuple #[S [], .bool false])) W) := Lib.hid fun h W hW => by
    rw [hPO, h]; exact ⟨rfl, hW⟩
  have HYES : Hid (∀ W, l ≠ [] → (∀ s ∈ l, mayS s = true) → (joinS l).length ≤ 512 → Below w.heap.size w W → PO (.returned (.tuple #[S (joinS l), .bool true])) W) := Lib.hid fun W h1 h2 h3 hW => by
    rw [hPO]
    unfold joinF
    rw [if_pos ⟨h1, h2, h3⟩]; exact ⟨rfl, hW⟩
  have HEMP : Hid (∀ W, l = [] → Below w.heap.size w W → PO (.returned (.tuple #[S [], .bool false])) W) := Lib.hid fun W h1 hW => HNO.out (by unfold joinF; rw [if_neg (fun h => h.1 h1)]) W hW
  have HI : Hid (RB w.heap.size w (.slice (some ⟨w.heap.size, 0, none⟩) 0 0) (joinS (l.take 0)) (w.alloc (.cells #[] 5))) := Lib.hid (by
    rw [List.take_zero]
    refine ⟨⟨rfl, .inr ⟨w.heap.size, 0, #[], rfl, Nat.le_refl _, row_new w #[] 5, Nat.le_refl _, Nat.zero_le _, rfl, rfl⟩⟩, (Below.refl _ _).alloc (Nat.le_refl _) _, by rw [alloc_size]; omega⟩)
  have lit0 : Value.string ⟨#[]⟩ = S [] := rfl
  clear hT hN hsum hPO
  go_enter Tryd.func10, Tryd.ntmps10
  go_wp2
  obtain ⟨W0, hW0⟩ : ∃ W0, W0 = w.alloc (.cells #[] 5) := ⟨_, rfl⟩
  rw [← hW0] at HI ⊢
  clear hW0
  go_loopw [4, 10] (fun vv iv wr => ∃ (i : Nat), iv = .int .i64 (i : Int) ∧ i ≤ N ∧ Hid (RB w.heap.size w vv (joinS (l.take i)) wr ∧ (∀ s ∈ l.take i, mayS s = true) ∧ (joinS (l.take i)).length ≤ 512)) (fun _ iv _ => N - (intOf iv).toNat)
  case atStart => exact ⟨0, rfl, by omega, Lib.hid ⟨HI.out, by simp, by simp [joinS]⟩⟩
  case round =>
    obtain ⟨i, rfl, hi, HR⟩ := hrel
    have hw1 : IntKind.i64.wrap ((i : Int) + 1) = (i : Int) + 1 := by rw [IntKind.wrap_i64]; omega
    have HB := Lib.hid HR.out.1.2.1
    by_cases hlt : i < N
    case neg =>
      have hz : decide ((i : Int) < (N : Int)) = false := decide_eq_false (by omega)
      have HE : Hid (RB w.heap.size w u4 (joinS l) wr ∧ (∀ s ∈ l, mayS s = true) ∧ (joinS l).length ≤ 512) := Lib.hid (by
        have := HR.out
        rw [show i = l.length by have := HN.out; omega, List.take_length] at this
        exact this)
      have htx := own_text Tryd.underlying9 Tryd.underlying31 Tryd.underlying5 (own_of_row5 HE.out.1.1)
      by_cases h0 : N = 0
      · have h0' : decide (0 < N) = false := decide_eq_false (by omega)
        have hnil : l = [] := List.length_eq_zero_iff.1 (by rw [← HN.out]; exact h0)
        have HP := Lib.hid (HEMP.out wr hnil HB.out)
        have HJ : Hid (joinS l = []) := Lib.hid (by rw [hnil]; rfl)
        rw [HJ.out] at htx
        clear hw1 hnil h0
        go_wp2
        first | (go_ret2; exact HP.out) | exact HP.out
      · have h0' : decide (0 < N) = true := decide_eq_true (by omega)
        have HP := Lib.hid (HYES.out wr (by rintro rfl; exact h0 HN.out) HE.out.2.1 HE.out.2.2 HB.out)
        generalize joinS l = J at *
        clear hw1 h0
        go_wp2
        first | (go_ret2; exact HP.out) | exact HP.out
    case pos =>
      have hz : decide ((i : Int) < (N : Int)) = true := decide_eq_true (by omega)
      obtain ⟨s, hs⟩ : ∃ s, l[i]? = some s := ⟨l[i]'(by have := HN.out; omega), List.getElem?_eq_getElem _⟩
      have hix := fun w' => HT.out.index i (by have := HN.out; omega) w'
      have hcell : wr.cell? ⟨b, o + i, none⟩ = some (S s) := (HT.out.below HB.out).cell i s hs
      have hmem : s ∈ l := List.mem_of_getElem? hs
      have hsl : s.length ≤ 100000 := Nat.le_trans (sum_mem hmem) HS.out
      have HJ := Lib.hid (join_next hs)
      have hlS := run_len_S (P := Tryd.prog) Tryd.underlying9 3 s
      obtain ⟨LS, hLS⟩ : ∃ LS, LS = s.length := ⟨_, rfl⟩
      rw [← hLS] at hlS hsl
      have HLS := Lib.hid hLS
      have HSL := Lib.hid hsl
      have HRT := Lib.hid (fun W => right_any s (by rw [← HLS.out]; exact HSL.out) W)
      have HGE := Lib.hid (joinS_take_le l (i + 1))
      have HEG := Lib.hid (encS_ge s)
      have HMA : Hid (mayS s = true → ∀ x ∈ l.take (i + 1), mayS x = true) := Lib.hid (fun h => mayAll_take hs HR.out.2.1 h)
      obtain ⟨q, hq⟩ : ∃ q, q = o + i := ⟨_, rfl⟩
      rw [← hq] at hix hcell
      have HM := Lib.hid hmem
      clear hs hmem hLS hq hsl
      by_cases h5 : 512 < LS
      · have hz5 : decide ((512 : Int) < (LS : Int)) = true := decide_eq_true (by omega)
        have HP := Lib.hid (HNO.out (by
          unfold joinF
          rw [if_neg]
          intro ⟨_, _, h3⟩
          have h1 := HGE.out
          rw [HJ.out, List.length_append, List.length_cons] at h1
          have h2 := HEG.out
          have h4 := HLS.out
          omega) wr HB.out)
        clear hw1 h5
        go_wp2
        first | (go_ret2; exact HP.out) | exact HP.out
      · have hz5 : decide ((512 : Int) < (LS : Int)) = false := decide_eq_false (by omega)
        cases hm : mayS s with
        | false =>
          rw [hm] at HRT
          have HP : Hid (∀ W, Below w.heap.size w W → PO (.returned (.tuple #[S [], .bool false])) W) := Lib.hid (HNO.out (by
            unfold joinF
            rw [if_neg]
            intro ⟨_, h2, _⟩
            have := h2 s HM.out
            rw [hm] at this; cases this))
          have hsz := HB.out.size
          clear hw1 hm h5
          go_wp2_with (first
            | (go_at_call 19; refine (HRT.out _).mono ?_; rintro e W5 ⟨rfl, h5⟩; have HB5 := Lib.hid (HB.out.trans (h5.mono HB.out.size)); clear h5)
            | fail)
          first | (go_ret2; exact HP.out _ HB5.out) | exact HP.out _ HB5.out
        | true =>
          rw [hm] at HRT
          have HMA2 := Lib.hid (HMA.out hm)
          have hs1 : s.length ≤ 1000 := by have := HLS.out; omega
          have HS1 := Lib.hid hs1
          clear hm hs1
          have HX : Hid (joinS (l.take (i + 1)) = (joinS (l.take i) ++ [47]) ++ encS s) := Lib.hid (by rw [HJ.out, List.append_assoc]; rfl)
          obtain ⟨X, hX⟩ : ∃ X, X = joinS (l.take i) := ⟨_, rfl⟩
          have HRB : Hid (RB w.heap.size w u4 X wr ∧ X.length ≤ 512) := Lib.hid (by rw [hX]; exact ⟨HR.out.1, HR.out.2.2⟩)
          rw [← hX] at HX
          clear hX
          have HWR := Lib.hid (fun v W h hl => pwritten_any w.heap.size w v (X ++ [47]) s W h hl HS1.out)
          obtain ⟨Y, hY⟩ : ∃ Y, Y = (X ++ [47]) ++ encS s := ⟨_, rfl⟩
          rw [← hY] at HX HWR
          have hYl : Y.length ≤ 10000 := by
            rw [hY, List.length_append, List.length_append, List.length_singleton]
            have h1 := encS_len s
            have h2 := HRB.out.2
            have h3 := HLS.out
            omega
          obtain ⟨LY, hLY⟩ : ∃ LY, LY = Y.length := ⟨_, rfl⟩
          have HLY := Lib.hid hLY
          rw [← hLY] at hYl
          clear hY hLY
          have hlY := fun (v : Value) (W : World) (h : RB w.heap.size w v Y W) (W' : World) => own_len (P := Tryd.prog) (own_of_row5 h.1) 31 5 3 Tryd.underlying31 W'
          simp only [List.length_map, ← HLY.out] at hlY
          have HLV := Lib.hid hlY
          clear hlY
          by_cases hY5 : 512 < LY
          · have hz6 : decide ((512 : Int) < (LY : Int)) = true := decide_eq_true (by omega)
            have HP : Hid (∀ W, Below w.heap.size w W → PO (.returned (.tuple #[S [], .bool false])) W) := Lib.hid (HNO.out (by
              unfold joinF
              rw [if_neg]
              intro ⟨_, _, h3⟩
              have h1 := HGE.out
              rw [HX.out, ← HLY.out] at h1
              omega))
            clear hw1 h5 hY5
            go_wp2_with (first
              | (go_at_call 19; refine (HRT.out _).mono ?_; rintro e W5 ⟨rfl, h5⟩; have HB5 : Hid (RB w.heap.size w u4 X W5) := Lib.hid (HRB.out.1.kept h5); clear h5)
              | (at_builtin; refine wpList_addT rfl (.tmp 22) (.const (.string ⟨#[47]⟩)) rfl HB5.out rfl 47 rfl (by have := HRB.out.2; omega) ?_; intro v6 W6 h6; have H6 := Lib.hid h6; clear h6)
              | (go_at_call 20; refine (HWR.out v6 W6 H6.out (by rw [List.length_append, List.length_singleton]; have := HRB.out.2; omega)).mono ?_; rintro e W7 ⟨v7, rfl, h7⟩; have H7 := Lib.hid h7; have hl7 := HLV.out v7 W7 h7; clear h7)
              | fail)
            first | (go_ret2; exact HP.out _ H7.out.2.1) | exact HP.out _ H7.out.2.1
          · have hz6 : decide ((512 : Int) < (LY : Int)) = false := decide_eq_false (by omega)
            have HY5 : Hid (Y.length ≤ 512) := Lib.hid (by have := HLY.out; omega)
            clear h5 hY5
            go_wp2_with (first
              | (go_at_call 19; refine (HRT.out _).mono ?_; rintro e W5 ⟨rfl, h5⟩; have HB5 : Hid (RB w.heap.size w u4 X W5) := Lib.hid (HRB.out.1.kept h5); clear h5)
              | (at_builtin; refine wpList_addT rfl (.tmp 22) (.const (.string ⟨#[47]⟩)) rfl HB5.out rfl 47 rfl (by have := HRB.out.2; omega) ?_; intro v6 W6 h6; have H6 := Lib.hid h6; clear h6)
              | (go_at_call 20; refine (HWR.out v6 W6 H6.out (by rw [List.length_append, List.length_singleton]; have := HRB.out.2; omega)).mono ?_; rintro e W7 ⟨v7, rfl, h7⟩; have H7 := Lib.hid h7; have hl7 := HLV.out v7 W7 h7; clear h7)
              | fail)
            exact ⟨⟨i + 1, by go_num, by omega, Lib.hid ⟨by rw [HX.out]; exact H7.out, HMA2.out, by rw [HX.out]; exact HY5.out⟩⟩, by simp [intOf]; omega⟩

/-! Split. -/
def MaxAt (w : World) : Prop := ∃ m, w.cell? ⟨Tryd.lays146_ren.g 1, 0, none⟩ = some (.int .i64 m)
theorem MaxAt.below {w w' : World} (h : MaxAt w) (hb : Below w.heap.size w w') : MaxAt w' := by
  obtain ⟨m, hm⟩ := h
  exact ⟨m, by rw [hb.cell (World.block_lt_of_cell? w _ hm)]; exact hm⟩
theorem max_of {W : World} (h : W.ShapedOpen Tryd.prog) : MaxAt W := Tryd.laysM146.s1_3 W h
theorem split_any (s : List UInt8) (hs : s.length ≤ 100000) (w : World) (hm : MaxAt w) : Calls Tryd.prog 16 #[S s, .string ⟨#[47]⟩] w fun e w' =>
    e = .returned (.slice (some ⟨w.heap.size, 0, none⟩) (pcsF [] s).length (pcsF [] s).length) ∧ w' = w.alloc (.cells ((pcsF [] s).map S).toArray 9) := by
  obtain ⟨m, hm⟩ := hm
  have h := Tryd.strings_Split ⟨s.toArray⟩ ⟨#[47]⟩ m w (by have := S_size s; omega) hm (by decide)
  have e1 := Lib.splitB_data ⟨#[47]⟩ 0 (Lib.countB ⟨s.toArray⟩ ⟨#[47]⟩) ⟨s.toArray⟩
  have e2 : Lib.splitK [47] 0 (Lib.countB ⟨s.toArray⟩ ⟨#[47]⟩) s = pcsF [] s := split_pcs s.length s (Nat.le_refl _)
  have e3 := Lib.splitB_all ⟨#[47]⟩ (by decide) 0 _ ⟨s.toArray⟩ rfl
  have e4 : (Lib.splitB ⟨#[47]⟩ 0 (Lib.countB ⟨s.toArray⟩ ⟨#[47]⟩) ⟨s.toArray⟩).map (·.data.toList) = pcsF [] s := e1.trans e2
  have e5 : (Lib.splitB ⟨#[47]⟩ 0 (Lib.countB ⟨s.toArray⟩ ⟨#[47]⟩) ⟨s.toArray⟩).map Value.string = (pcsF [] s).map S := by
    rw [← e4, List.map_map]
    exact List.map_congr_left fun b _ => rfl
  have e6 : (pcsF [] s).length = Lib.countB ⟨s.toArray⟩ ⟨#[47]⟩ + 1 := by rw [← e3, ← e4, List.length_map]
  rw [e6, ← e5]
  exact h
theorem trim_any (s : List UInt8) (h0 : s[0]? = some 47) (w : World) : Calls Tryd.prog 17 #[S s, .string ⟨#[47]⟩] w fun e w' => e = .returned (S (s.drop 1)) ∧ w' = w := by
  refine (Tryd.strings_TrimPrefix ⟨s.toArray⟩ ⟨#[47]⟩ w).mono ?_
  rintro e w' ⟨rfl, rfl⟩
  refine ⟨?_, rfl⟩
  have : Lib.trimPrefix s [47] = s.drop 1 := by
    cases s with
    | nil => cases h0
    | cons c r =>
      obtain rfl : c = 47 := by simpa using h0
      simp [Lib.trimPrefix, Lib.hasPrefix]
  rw [← this]
  rfl
/-- The row of pieces, the first i of them read. -/
def pcsAt (ps : List (List UInt8)) (i : Nat) : List (List UInt8) := (ps.take i).map rdF ++ ps.drop i
theorem pcsAt_len (ps : List (List UInt8)) (i : Nat) (h : i ≤ ps.length) : (pcsAt ps i).length = ps.length := by
  unfold pcsAt; rw [List.length_append, List.length_map, List.length_take, List.length_drop]; omega
theorem pcsAt_get {ps : List (List UInt8)} {i : Nat} {p : List UInt8} (h : ps[i]? = some p) : (pcsAt ps i)[i]? = some p := by
  obtain ⟨hl, rfl⟩ := List.getElem?_eq_some_iff.1 h
  unfold pcsAt
  rw [List.getElem?_append_right (by rw [List.length_map, List.length_take]; omega), List.length_map, List.length_take, List.getElem?_drop]
  rw [show i + (i - min i ps.length) = i by omega, List.getElem?_eq_getElem hl]
theorem pcsAt_set {ps : List (List UInt8)} {i : Nat} {p : List UInt8} (h : ps[i]? = some p) : (pcsAt ps i).set i (rdF p) = pcsAt ps (i + 1) := by
  obtain ⟨hl, rfl⟩ := List.getElem?_eq_some_iff.1 h
  unfold pcsAt
  rw [List.set_append_right _ _ (by rw [List.length_map, List.length_take]; omega), List.length_map, List.length_take, show i - min i ps.length = 0 by omega, List.drop_eq_getElem_cons hl, List.set_cons_zero, List.take_add_one, List.getElem?_eq_getElem hl, Option.toList_some, List.map_append, List.append_assoc]
  rfl
theorem row_next {W : World} {g : Nat} {ps : List (List UInt8)} {i : Nat} {y : List UInt8} (h : Row W g ((pcsAt ps i).map S).toArray 9) (hs : (pcsAt ps i).set i y = pcsAt ps (i + 1)) : Row (W.setCell ⟨g, i, none⟩ (S y)) g ((pcsAt ps (i + 1)).map S).toArray 9 := by
  have h7 := h.set i (S y)
  have e7 : (((pcsAt ps i).map S).toArray.setIfInBounds i (S y)) = ((pcsAt ps (i + 1)).map S).toArray := by
    rw [List.setIfInBounds_toArray, ← hs, List.map_set]
  rw [e7] at h7
  exact h7
theorem allMay_no {ps : List (List UInt8)} {i : Nat} {p : List UInt8} (h : ps[i]? = some p) (hm : mayS (rdF p) = false) : allMay ps = false := by
  unfold allMay
  rw [List.all_eq_false]
  exact ⟨p, List.mem_of_getElem? h, by rw [hm]; exact Bool.false_ne_true⟩
theorem rd_len : ∀ (s : List UInt8) (pd : Option (Option UInt8)), (rdM pd s).length ≤ s.length
  | [], none => Nat.le_refl _
  | [], some _ => Nat.le_refl _
  | c :: r, none => by
    rw [rdM]
    split
    · have := rd_len r (some none); simp only [List.length_cons]; omega
    · have := rd_len r none; simp only [List.length_cons]; omega
  | x :: r, some none => by
    rw [rdM]
    have := rd_len r (some (some x)); simp only [List.length_cons]; omega
  | y :: r, some (some x) => by
    rw [rdM]
    have := rd_len r none; simp only [List.length_cons]; omega
set_option maxRecDepth 100000 in
set_option maxHeartbeats 2000000 in
theorem psplit_any (s : List UInt8) (hs : s.length ≤ 100000) (w : World) (hm : MaxAt w) : Calls Tryd.prog 9 #[S s] w (SplitV (splitF s) w) := by
  have HTG := Lib.hid fun W => ltarget_any s W hs
  obtain ⟨⟨p, q, ok⟩, htf⟩ : ∃ x, x = targetF s := ⟨_, rfl⟩
  rw [← htf] at HTG
  unfold targetV at HTG
  obtain ⟨PO, hPO⟩ : ∃ PO, PO = SplitV (splitF s) w := ⟨_, rfl⟩
  rw [← hPO]
  have HNO : Hid (splitF s = none → ∀ W, Below w.heap.size w W → PO (.returned (.tuple #[.slice none 0 0, .bool false])) W) := Lib.hid fun h W hW => by
    rw [hPO, h]
    exact ⟨_, rfl, .inl ⟨rfl, rfl⟩, hW⟩
  have HYES : Hid (∀ l, splitF s = some l → ∀ V W, Own w.heap.size V (l.map S) W → Below w.heap.size w W → PO (.returned (.tuple #[V, .bool true])) W) := Lib.hid fun l h V W h1 h2 => by
    rw [hPO, h]
    exact ⟨V, rfl, h1, h2⟩
  have HMX := Lib.hid hm
  clear hPO hm
  by_cases hok : pathOk s
  case neg =>
    have HP : Hid (splitF s = none) := Lib.hid (by unfold splitF; rw [if_neg hok])
    have hno : ¬ (ok = true ∧ p = s) := fun ⟨h1, h2⟩ => hok (target_is.1 (by
      subst h1 h2
      have hq := target_true htf.symm
      have hl : q = [] := by
        have := hq.2.2.2.2.2.2.1
        cases q with
        | nil => rfl
        | cons c r => simp at this; omega
      rw [hl] at htf
      exact htf.symm))
    have HN := Lib.hid hno
    clear hok hno htf
    have q1 : binOp .neq 9 (S p) (S s) = pure (.bool (p != s)) := neql_S 9 p s
    have n1 : ∀ x y, eqGuard .neq 9 x y (S p) (S s) = pure () := fun x y => nguard_S 9 x y p s
    go_enter Tryd.func9, Tryd.ntmps9
    go_wp2_with fail
    refine (HTG.out _).mono ?_
    rintro e W1 ⟨rfl, hB⟩
    have H1 := Lib.hid hB
    clear hB HTG
    cases ok with
    | false =>
      clear q1
      go_wp2
      first | (go_ret2; exact HNO.out HP.out _ H1.out) | exact HNO.out HP.out _ H1.out
    | true =>
      have hp : p ≠ s := fun e => HN.out ⟨rfl, e⟩
      rw [show (p != s) = true from bne_iff_ne.2 hp] at q1
      clear hp
      go_wp2
      first | (go_ret2; exact HNO.out HP.out _ H1.out) | exact HNO.out HP.out _ H1.out
  have ht := path_target hok
  rw [← htf] at ht
  injection ht with e1 e2
  injection e2 with e2 e3
  subst e1 e2 e3
  clear htf
  have q1 : binOp .neq 9 (S p) (S p) = pure (.bool false) := by rw [neql_S]; simp
  have n1 : ∀ x y, eqGuard .neq 9 x y (S p) (S p) = pure () := fun x y => nguard_S 9 x y p p
  have HTR := Lib.hid (fun W => trim_any p hok.1 W)
  have hok2 : okT (p.drop 1) = true := by
    obtain ⟨h0, _, h2, _⟩ := hok
    cases p with
    | nil => rfl
    | cons c r =>
      have hc : c = 47 := by simpa using h0
      subst hc
      rw [okT_one (by decide), Bool.and_eq_true] at h2
      exact h2.2
  have HOK := Lib.hid (pcs_ok _ _ (Nat.le_refl _) hok2)
  have HF := Lib.hid (splitF_pcs hok)
  have hdl : (p.drop 1).length ≤ 512 := by have := hok.2.1; rw [List.length_drop]; omega
  have HDL := Lib.hid hdl
  have HPL := Lib.hid (pcs_len (p.drop 1) [])
  have HSP := Lib.hid (fun W h => split_any (p.drop 1) (by omega) W h)
  clear hok hok2 hdl
  generalize p.drop 1 = t at *
  obtain ⟨ps, hps⟩ : ∃ ps, ps = pcsF [] t := ⟨_, rfl⟩
  rw [← hps] at HOK HF HPL HSP
  have hpl : ps.length ≤ 513 := by have := HPL.out; have := HDL.out; omega
  obtain ⟨N, hN⟩ : ∃ N, N = ps.length := ⟨_, rfl⟩
  rw [← hN] at HSP hpl
  have HN := Lib.hid hN
  clear hps hN
  go_enter Tryd.func9, Tryd.ntmps9
  go_wp2_with fail
  refine (HTG.out _).mono ?_
  rintro e W1 ⟨rfl, hB⟩
  have H1 := Lib.hid hB
  clear hB HTG
  go_wp2_with (first
    | (go_at_call 17; refine (HTR.out _).mono ?_; rintro e w' ⟨rfl, hw⟩; rw [hw]; clear hw)
    | (go_at_call 16; refine (HSP.out _ (HMX.out.below H1.out)).mono ?_; rintro e w' ⟨rfl, hw⟩; rw [hw]; clear hw)
    | fail)
  clear q1 n1
  obtain ⟨g, hg⟩ : ∃ g, g = W1.heap.size := ⟨_, rfl⟩
  have HI : Hid (Row (W1.alloc (.cells (ps.map S).toArray 9)) g ((pcsAt ps 0).map S).toArray 9 ∧ Below w.heap.size w (W1.alloc (.cells (ps.map S).toArray 9)) ∧ w.heap.size ≤ g) := Lib.hid (by
    rw [hg]
    exact ⟨row_new W1 _ 9, H1.out.alloc H1.out.size _, H1.out.size⟩)
  rw [← hg]
  clear hg
  obtain ⟨W2, hW2⟩ : ∃ W2, W2 = W1.alloc (.cells (ps.map S).toArray 9) := ⟨_, rfl⟩
  rw [← hW2] at HI ⊢
  clear hW2
  go_loopw [28] (fun iv wr => ∃ (i : Nat), iv = .int .i64 (i : Int) ∧ i ≤ N ∧ Hid (Row wr g ((pcsAt ps i).map S).toArray 9 ∧ Below w.heap.size w wr ∧ w.heap.size ≤ g ∧ (∀ x ∈ ps.take i, mayS (rdF x) = true))) (fun iv _ => N - (intOf iv).toNat)
  case atStart => exact ⟨0, rfl, by omega, Lib.hid ⟨HI.out.1, HI.out.2.1, HI.out.2.2, by simp⟩⟩
  case round =>
    obtain ⟨i, rfl, hi, HR⟩ := hrel
    have hw1 : IntKind.i64.wrap ((i : Int) + 1) = (i : Int) + 1 := by rw [IntKind.wrap_i64]; omega
    by_cases hlt : i < N
    case neg =>
      have hz : decide ((i : Int) < (N : Int)) = false := decide_eq_false (by omega)
      have HE : Hid (splitF p = some (pcsAt ps N)) := Lib.hid (by
        rw [HF.out]
        have hiN : i = N := by omega
        rw [if_pos]
        · unfold pcsAt
          rw [HN.out, List.take_length, List.drop_length, List.append_nil]
        · unfold allMay
          rw [List.all_eq_true]
          intro x hx
          exact HR.out.2.2.2 x (by rw [hiN, HN.out, List.take_length]; exact hx))
      have HO : Hid (Own w.heap.size (.slice (some ⟨g, 0, none⟩) N N) ((pcsAt ps N).map S) wr) := Lib.hid (by
        have hiN : i = N := by omega
        have hr := HR.out.1
        rw [hiN] at hr
        have hl : (pcsAt ps N).length = N := by rw [pcsAt_len _ _ (Nat.le_of_eq HN.out), HN.out]
        refine .inr ⟨g, N, by rw [List.length_map, hl], HR.out.2.2.1, hr.lt, by rw [List.length_map, hl]; exact Nat.le_refl _, by simp only [maxLen]; omega, fun j u hu => ?_, fun j hj => ?_⟩
        · rw [Nat.zero_add, cell_of_row wr g j _ 9 (0, 0) hr]; simpa using hu
        · rw [Nat.zero_add]
          refine ⟨?_, hr.frozen j⟩
          rw [cell_of_row wr g j _ 9 (0, 0) hr, Array.getElem?_eq_getElem (by simp; omega)]; rfl)
      have HB := Lib.hid HR.out.2.1
      clear hw1
      go_wp2
      first | (go_ret2; exact HYES.out _ HE.out _ _ HO.out HB.out) | exact HYES.out _ HE.out _ _ HO.out HB.out
    case pos =>
      have hz : decide ((i : Int) < (N : Int)) = true := decide_eq_true (by omega)
      obtain ⟨x, hx⟩ : ∃ x, ps[i]? = some x := ⟨ps[i]'(by have := HN.out; omega), List.getElem?_eq_getElem _⟩
      have hix := fun w' => indexT g 0 N N i hlt w'
      simp only [Nat.zero_add] at hix
      have hcell : wr.cell? ⟨g, i, none⟩ = some (S x) := by
        rw [cell_of_row wr g i _ 9 (0, 0) HR.out.1, List.getElem?_toArray, List.getElem?_map, pcsAt_get hx]; rfl
      have hxo := HOK.out x (List.mem_of_getElem? hx)
      have hxl : x.length ≤ 1000 := by have := hxo.2; have := HDL.out; omega
      have HRD := Lib.hid (fun W => read_any x hxo.1 hxl W)
      have hyl : (rdF x).length ≤ 100000 := by have := rd_len x none; unfold rdF; omega
      have HRT := Lib.hid (fun W => right_any (rdF x) hyl W)
      have HST := Lib.hid (pcsAt_set hx)
      have HNM : Hid (mayS (rdF x) = false → splitF p = none) := Lib.hid (fun h => by rw [HF.out, allMay_no hx h]; rfl)
      have HYM : Hid (mayS (rdF x) = true → ∀ y ∈ ps.take (i + 1), mayS (rdF y) = true) := Lib.hid (fun h y hy => by
        rw [List.take_add_one, hx, Option.toList_some, List.mem_append, List.mem_singleton] at hy
        rcases hy with hy | rfl
        · exact HR.out.2.2.2 y hy
        · exact h)
      clear hx hxo hxl hyl
      obtain ⟨y, hy⟩ : ∃ y, y = rdF x := ⟨_, rfl⟩
      rw [← hy] at HRD HRT HST HNM HYM
      clear hy
      obtain ⟨m, hmm⟩ : ∃ m, m = mayS y := ⟨_, rfl⟩
      rw [← hmm] at HRT HNM HYM
      clear hmm
      have HC := Lib.hid hcell
      have HRW := Lib.hid HR.out.1
      have HBW := Lib.hid (And.intro HR.out.2.1 HR.out.2.2.1)
      cases m with
      | false =>
        have HP := Lib.hid (HNM.out rfl)
        clear hw1
        go_wp2_with fail
        refine (HRD.out _).mono ?_
        rintro e W5 ⟨rfl, h5⟩
        have hr5 : Row W5 g ((pcsAt ps i).map S).toArray 9 := HRW.out.below h5 HRW.out.lt
        have hc5 : W5.cell? ⟨g, i, none⟩ = some (S x) := by rw [h5.cell (World.block_lt_of_cell? wr _ HC.out)]; exact HC.out
        have hf5 := hr5.frozen i
        have HB5 := Lib.hid (HBW.out.1.trans (h5.mono HBW.out.1.size))
        have HR5 := Lib.hid hr5
        clear h5 hr5
        go_wp2_with (first
          | (go_at_call 19; refine (HRT.out _).mono ?_; rintro e W6 ⟨rfl, h6⟩; have HB6 : Hid (Below w.heap.size w W6) := Lib.hid ((HB5.out.setCell (p := ⟨g, i, none⟩) HBW.out.2 (S y)).trans (h6.mono (by first | exact HB5.out.size | (have := HB5.out.size; simpa using this)))); clear h6)
          | fail)
        first | (go_ret2; exact HNO.out HP.out _ HB6.out) | exact HNO.out HP.out _ HB6.out
      | true =>
        have HP := Lib.hid (HYM.out rfl)
        go_wp2_with fail
        refine (HRD.out _).mono ?_
        rintro e W5 ⟨rfl, h5⟩
        have hr5 : Row W5 g ((pcsAt ps i).map S).toArray 9 := HRW.out.below h5 HRW.out.lt
        have hc5 : W5.cell? ⟨g, i, none⟩ = some (S x) := by rw [h5.cell (World.block_lt_of_cell? wr _ HC.out)]; exact HC.out
        have hf5 := hr5.frozen i
        have HB5 := Lib.hid (HBW.out.1.trans (h5.mono HBW.out.1.size))
        have HR5 := Lib.hid hr5
        clear h5 hr5
        go_wp2_with (first
          | (go_at_call 19; refine (HRT.out _).mono ?_; rintro e W6 ⟨rfl, h6⟩; have HB6 : Hid (Below w.heap.size w W6 ∧ Row W6 g ((pcsAt ps (i + 1)).map S).toArray 9) := Lib.hid ⟨(HB5.out.setCell (p := ⟨g, i, none⟩) HBW.out.2 (S y)).trans (h6.mono (by first | exact HB5.out.size | (have := HB5.out.size; simpa using this))), (row_next HR5.out HST.out).below h6 (row_next HR5.out HST.out).lt⟩; clear h6)
          | fail)
        exact ⟨⟨i + 1, by go_num, by omega, Lib.hid ⟨HB6.out.2, HB6.out.1, HBW.out.2, HP.out⟩⟩, by simp [intOf]; omega⟩
/-- The landed package of paths does what is asked of it. -/
theorem pathI {w : World} (h : w.ShapedOpen Tryd.prog) : PathI w where
  split := fun s w' hb hs => psplit_any s hs w' ((max_of h).below hb)
  join := fun l V b o w' _ hT hn hsum => join_any l V b o w' hT hn hsum
theorem targetI : TargetI := fun s w hs => ltarget_any s w hs
end Go.Proofs.YtmklgjbfdaleiaaDoor
