/- Texts of this proof that several statements share, one behind the other. -/
import Derived.Test.YtendejpkdjkmnaaGreatDoorJf
import Derived.Test.YtendejpkdjkmnaaGreatDoorJc
import Derived.Test.YtendejpkdjkmnaaGreatDoorJe
import Derived.Test.YtendejpkdjkmnaaGreatDoorJd
import Derived.Test.YtendejpkdjkmnaaGreatDoorJb
import Derived.Test.YtendejpkdjkmnaaGreatDoorShelf
import Derived.Shelf.Strings.Builder1
import Derived.Shelf.RegionOpen
import GoSem.Op.String
import Derived.Deep.Upon
import Derived.Maps.AppendAt
/- The landed Join and Split walked: the landed package of paths does what is asked of it. -/
namespace Go.Proofs.YtendejpkdjkmnaaGreatDoor
open Go.RowKit
attribute [local go_sem] store_one S_match S_store eguard_BN nguard_BN

theorem mayAll_take {l : List (List UInt8)} {i : Nat} {s : List UInt8} (h : l[i]? = some s) (ha : ∀ x ∈ l.take i, mayS x = true) (hs : mayS s = true) : ∀ x ∈ l.take (i + 1), mayS x = true := by
  intro x hx
  rw [List.take_add_one, h, Option.toList_some, List.mem_append, List.mem_singleton] at hx
  rcases hx with hx | rfl
  · exact ha x hx
  · exact hs
theorem joinS_take_le (l : List (List UInt8)) (i : Nat) : (joinS (l.take i)).length ≤ (joinS l).length := by
  have : joinS l = joinS (l.take i) ++ joinS (l.drop i) := by
    unfold joinS
    rw [← List.flatMap_append, List.take_append_drop]
  rw [this, List.length_append]; omega
theorem encS_ge : ∀ s : List UInt8, s.length ≤ (encS s).length
  | [] => by simp [encS]
  | c :: r => by
    have := encS_ge r
    have h1 : 1 ≤ (encC c).length := by unfold encC; split <;> simp
    rw [encS_cons, List.length_append, List.length_cons]; omega
/-! Split. -/
theorem psplit0_any (s : List UInt8) (hs : s.length ≤ 100000) (w : World) (hm : MaxAt w) : Calls Tryz.prog 47 #[S s, .string ⟨#[47]⟩] w fun e w' =>
    e = .returned (.slice (some ⟨w.heap.size, 0, none⟩) (pcsF [] s).length (pcsF [] s).length) ∧ w' = w.alloc (.cells ((pcsF [] s).map S).toArray 9) := by
  obtain ⟨m, hm⟩ := hm
  have h := Tryz.strings_Split ⟨s.toArray⟩ ⟨#[47]⟩ m w (by have := S_size s; omega) hm (by decide)
  have e1 := Lib.splitB_data ⟨#[47]⟩ 0 (Lib.countB ⟨s.toArray⟩ ⟨#[47]⟩) ⟨s.toArray⟩
  have e2 : Lib.splitK [47] 0 (Lib.countB ⟨s.toArray⟩ ⟨#[47]⟩) s = pcsF [] s := split_pcs s.length s (Nat.le_refl _)
  have e3 := Lib.splitB_all ⟨#[47]⟩ (by decide) 0 _ ⟨s.toArray⟩ rfl
  have e4 : (Lib.splitB ⟨#[47]⟩ 0 (Lib.countB ⟨s.toArray⟩ ⟨#[47]⟩) ⟨s.toArray⟩).map (·.data.toList) = pcsF [] s := e1.trans e2
  have e5 : (Lib.splitB ⟨#[47]⟩ 0 (Lib.countB ⟨s.toArray⟩ ⟨#[47]⟩) ⟨s.toArray⟩).map Value.string = (pcsF [] s).map S := by
    rw [← e4, List.map_map]
    exact List.map_congr_left fun b _ => rfl
  have e6 : (pcsF [] s).length = Lib.countB ⟨s.toArray⟩ ⟨#[47]⟩ + 1 := by rw [← e3, ← e4, List.length_map]
  rw [e6, ← e5]
  exact h
theorem ptrim_any (s : List UInt8) (h0 : s[0]? = some 47) (w : World) : Calls Tryz.prog 48 #[S s, .string ⟨#[47]⟩] w fun e w' => e = .returned (S (s.drop 1)) ∧ w' = w := by
  refine (Tryz.strings_TrimPrefix ⟨s.toArray⟩ ⟨#[47]⟩ w).mono ?_
  rintro e w' ⟨rfl, rfl⟩
  refine ⟨?_, rfl⟩
  have : Lib.trimPrefix s [47] = s.drop 1 := by
    cases s with
    | nil => cases h0
    | cons c r =>
      obtain rfl : c = 47 := by simpa using h0
      simp [Lib.trimPrefix, Lib.hasPrefix]
  rw [← this]
  rfl
/-- The row of pieces, the first i of them read. -/
def pcsAt (ps : List (List UInt8)) (i : Nat) : List (List UInt8) := (ps.take i).map rdF ++ ps.drop i
theorem pcsAt_len (ps : List (List UInt8)) (i : Nat) (h : i ≤ ps.length) : (pcsAt ps i).length = ps.length := by
  unfold pcsAt; rw [List.length_append, List.length_map, List.length_take, List.length_drop]; omega
theorem pcsAt_get {ps : List (List UInt8)} {i : Nat} {p : List UInt8} (h : ps[i]? = some p) : (pcsAt ps i)[i]? = some p := by
  obtain ⟨hl, rfl⟩ := List.getElem?_eq_some_iff.1 h
  unfold pcsAt
  rw [List.getElem?_append_right (by rw [List.length_map, List.length_take]; omega), List.length_map, List.length_take, List.getElem?_drop]
  rw [show i + (i - min i ps.length) = i by omega, List.getElem?_eq_getElem hl]
theorem pcsAt_set {ps : List (List UInt8)} {i : Nat} {p : List UInt8} (h : ps[i]? = some p) : (pcsAt ps i).set i (rdF p) = pcsAt ps (i + 1) := by
  obtain ⟨hl, rfl⟩ := List.getElem?_eq_some_iff.1 h
  unfold pcsAt
  rw [List.set_append_right _ _ (by rw [List.length_map, List.length_take]; omega), List.length_map, List.length_take, show i - min i ps.length = 0 by omega, List.drop_eq_getElem_cons hl, List.set_cons_zero, List.take_add_one, List.getElem?_eq_getElem hl, Option.toList_some, List.map_append, List.append_assoc]
  rfl
theorem row_next {W : World} {g : Nat} {ps : List (List UInt8)} {i : Nat} {y : List UInt8} (h : Row W g ((pcsAt ps i).map S).toArray 9) (hs : (pcsAt ps i).set i y = pcsAt ps (i + 1)) : Row (W.setCell ⟨g, i, none⟩ (S y)) g ((pcsAt ps (i + 1)).map S).toArray 9 := by
  have h7 := h.set i (S y)
  have e7 : (((pcsAt ps i).map S).toArray.setIfInBounds i (S y)) = ((pcsAt ps (i + 1)).map S).toArray := by
    rw [List.setIfInBounds_toArray, ← hs, List.map_set]
  rw [e7] at h7
  exact h7
theorem allMay_no {ps : List (List UInt8)} {i : Nat} {p : List UInt8} (h : ps[i]? = some p) (hm : mayS (rdF p) = false) : allMay ps = false := by
  unfold allMay
  rw [List.all_eq_false]
  exact ⟨p, List.mem_of_getElem? h, by rw [hm]; exact Bool.false_ne_true⟩
theorem rd_len : ∀ (s : List UInt8) (pd : Option (Option UInt8)), (rdM pd s).length ≤ s.length
  | [], none => Nat.le_refl _
  | [], some _ => Nat.le_refl _
  | c :: r, none => by
    rw [rdM]
    split
    · have := rd_len r (some none); simp only [List.length_cons]; omega
    · have := rd_len r none; simp only [List.length_cons]; omega
  | x :: r, some none => by
    rw [rdM]
    have := rd_len r (some (some x)); simp only [List.length_cons]; omega
  | y :: r, some (some x) => by
    rw [rdM]
    have := rd_len r none; simp only [List.length_cons]; omega
set_option maxRecDepth 100000 in
set_option maxHeartbeats 2000000 in
theorem psplit_any (s : List UInt8) (hs : s.length ≤ 100000) (w : World) (hm : MaxAt w) : Calls Tryz.prog 29 #[S s] w (SplitV (splitF s) w) := by
  have HTG := Lib.hid fun W => ltarget_any s W hs
  obtain ⟨⟨p, q, ok⟩, htf⟩ : ∃ x, x = targetF s := ⟨_, rfl⟩
  rw [← htf] at HTG
  unfold targetV at HTG
  obtain ⟨PO, hPO⟩ : ∃ PO, PO = SplitV (splitF s) w := ⟨_, rfl⟩
  rw [← hPO]
  have HNO : Hid (splitF s = none → ∀ W, Below w.heap.size w W → PO (.returned (.tuple #[.slice none 0 0, .bool false])) W) := Lib.hid fun h W hW => by
    rw [hPO, h]
    exact ⟨_, rfl, .inl ⟨rfl, rfl⟩, hW⟩
  have HYES : Hid (∀ l, splitF s = some l → ∀ V W, Own w.heap.size V (l.map S) W → Below w.heap.size w W → PO (.returned (.tuple #[V, .bool true])) W) := Lib.hid fun l h V W h1 h2 => by
    rw [hPO, h]
    exact ⟨V, rfl, h1, h2⟩
  have HMX := Lib.hid hm
  clear hPO hm
  by_cases hok : pathOk s
  case neg =>
    have HP : Hid (splitF s = none) := Lib.hid (by unfold splitF; rw [if_neg hok])
    have hno : ¬ (ok = true ∧ p = s) := fun ⟨h1, h2⟩ => hok (target_is.1 (by
      subst h1 h2
      have hq := target_true htf.symm
      have hl : q = [] := by
        have := hq.2.2.2.2.2.2.1
        cases q with
        | nil => rfl
        | cons c r => simp at this; omega
      rw [hl] at htf
      exact htf.symm))
    have HN := Lib.hid hno
    clear hok hno htf
    have q1 : binOp .neq 9 (S p) (S s) = pure (.bool (p != s)) := neql_S 9 p s
    have n1 : ∀ x y, eqGuard .neq 9 x y (S p) (S s) = pure () := fun x y => nguard_S 9 x y p s
    go_enter Tryz.func29, Tryz.ntmps29
    go_wp2_with fail
    refine (HTG.out _).mono ?_
    rintro e W1 ⟨rfl, hB⟩
    have H1 := Lib.hid hB
    clear hB HTG
    cases ok with
    | false =>
      clear q1
      go_wp2
      first | (go_ret2; exact HNO.out HP.out _ H1.out) | exact HNO.out HP.out _ H1.out
    | true =>
      have hp : p ≠ s := fun e => HN.out ⟨rfl, e⟩
      rw [show (p != s) = true from bne_iff_ne.2 hp] at q1
      clear hp
      go_wp2
      first | (go_ret2; exact HNO.out HP.out _ H1.out) | exact HNO.out HP.out _ H1.out
  have ht := path_target hok
  rw [← htf] at ht
  injection ht with e1 e2
  injection e2 with e2 e3
  subst e1 e2 e3
  clear htf
  have q1 : binOp .neq 9 (S p) (S p) = pure (.bool false) := by rw [neql_S]; simp
  have n1 : ∀ x y, eqGuard .neq 9 x y (S p) (S p) = pure () := fun x y => nguard_S 9 x y p p
  have HTR := Lib.hid (fun W => ptrim_any p hok.1 W)
  have hok2 : okT (p.drop 1) = true := by
    obtain ⟨h0, _, h2, _⟩ := hok
    cases p with
    | nil => rfl
    | cons c r =>
      have hc : c = 47 := by simpa using h0
      subst hc
      rw [okT_one (by decide), Bool.and_eq_true] at h2
      exact h2.2
  have HOK := Lib.hid (pcs_ok _ _ (Nat.le_refl _) hok2)
  have HF := Lib.hid (splitF_pcs hok)
  have hdl : (p.drop 1).length ≤ 512 := by have := hok.2.1; rw [List.length_drop]; omega
  have HDL := Lib.hid hdl
  have HPL := Lib.hid (pcs_len (p.drop 1) [])
  have HSP := Lib.hid (fun W h => psplit0_any (p.drop 1) (by omega) W h)
  clear hok hok2 hdl
  generalize p.drop 1 = t at *
  obtain ⟨ps, hps⟩ : ∃ ps, ps = pcsF [] t := ⟨_, rfl⟩
  rw [← hps] at HOK HF HPL HSP
  have hpl : ps.length ≤ 513 := by have := HPL.out; have := HDL.out; omega
  obtain ⟨N, hN⟩ : ∃ N, N = ps.length := ⟨_, rfl⟩
  rw [← hN] at HSP hpl
  have HN := Lib.hid hN
  clear hps hN
  go_enter Tryz.func29, Tryz.ntmps29
  go_wp2_with fail
  refine (HTG.out _).mono ?_
  rintro e W1 ⟨rfl, hB⟩
  have H1 := Lib.hid hB
  clear hB HTG
  go_wp2_with (first
    | (go_at_call 48; refine (HTR.out _).mono ?_; rintro e w' ⟨rfl, hw⟩; rw [hw]; clear hw)
    | (go_at_call 47; refine (HSP.out _ (HMX.out.below H1.out)).mono ?_; rintro e w' ⟨rfl, hw⟩; rw [hw]; clear hw)
    | fail)
  clear q1 n1
  obtain ⟨g, hg⟩ : ∃ g, g = W1.heap.size := ⟨_, rfl⟩
  have HI : Hid (Row (W1.alloc (.cells (ps.map S).toArray 9)) g ((pcsAt ps 0).map S).toArray 9 ∧ Below w.heap.size w (W1.alloc (.cells (ps.map S).toArray 9)) ∧ w.heap.size ≤ g) := Lib.hid (by
    rw [hg]
    exact ⟨row_new W1 _ 9, H1.out.alloc H1.out.size _, H1.out.size⟩)
  rw [← hg]
  clear hg
  obtain ⟨W2, hW2⟩ : ∃ W2, W2 = W1.alloc (.cells (ps.map S).toArray 9) := ⟨_, rfl⟩
  rw [← hW2] at HI ⊢
  clear hW2
  go_loopw [28] (fun iv wr => ∃ (i : Nat), iv = .int .i64 (i : Int) ∧ i ≤ N ∧ Hid (Row wr g ((pcsAt ps i).map S).toArray 9 ∧ Below w.heap.size w wr ∧ w.heap.size ≤ g ∧ (∀ x ∈ ps.take i, mayS (rdF x) = true))) (fun iv _ => N - (intOf iv).toNat)
  case atStart => exact ⟨0, rfl, by omega, Lib.hid ⟨HI.out.1, HI.out.2.1, HI.out.2.2, by simp⟩⟩
  case round =>
    obtain ⟨i, rfl, hi, HR⟩ := hrel
    have hw1 : IntKind.i64.wrap ((i : Int) + 1) = (i : Int) + 1 := by rw [IntKind.wrap_i64]; omega
    by_cases hlt : i < N
    case neg =>
      have hz : decide ((i : Int) < (N : Int)) = false := decide_eq_false (by omega)
      have HE : Hid (splitF p = some (pcsAt ps N)) := Lib.hid (by
        rw [HF.out]
        have hiN : i = N := by omega
        rw [if_pos]
        · unfold pcsAt
          rw [HN.out, List.take_length, List.drop_length, List.append_nil]
        · unfold allMay
          rw [List.all_eq_true]
          intro x hx
          exact HR.out.2.2.2 x (by rw [hiN, HN.out, List.take_length]; exact hx))
      have HO : Hid (Own w.heap.size (.slice (some ⟨g, 0, none⟩) N N) ((pcsAt ps N).map S) wr) := Lib.hid (by
        have hiN : i = N := by omega
        have hr := HR.out.1
        rw [hiN] at hr
        have hl : (pcsAt ps N).length = N := by rw [pcsAt_len _ _ (Nat.le_of_eq HN.out), HN.out]
        refine .inr ⟨g, N, by rw [List.length_map, hl], HR.out.2.2.1, hr.lt, by rw [List.length_map, hl]; exact Nat.le_refl _, by simp only [maxLen]; omega, fun j u hu => ?_, fun j hj => ?_⟩
        · rw [Nat.zero_add, cell_of_row wr g j _ 9 (0, 0) hr]; simpa using hu
        · rw [Nat.zero_add]
          refine ⟨?_, hr.frozen j⟩
          rw [cell_of_row wr g j _ 9 (0, 0) hr, Array.getElem?_eq_getElem (by simp; omega)]; rfl)
      have HB := Lib.hid HR.out.2.1
      clear hw1
      go_wp2
      first | (go_ret2; exact HYES.out _ HE.out _ _ HO.out HB.out) | exact HYES.out _ HE.out _ _ HO.out HB.out
    case pos =>
      have hz : decide ((i : Int) < (N : Int)) = true := decide_eq_true (by omega)
      obtain ⟨x, hx⟩ : ∃ x, ps[i]? = some x := ⟨ps[i]'(by have := HN.out; omega), List.getElem?_eq_getElem _⟩
      have hix := fun w' => indexT g 0 N N i hlt w'
      simp only [Nat.zero_add] at hix
      have hcell : wr.cell? ⟨g, i, none⟩ = some (S x) := by
        rw [cell_of_row wr g i _ 9 (0, 0) HR.out.1, List.getElem?_toArray, List.getElem?_map, pcsAt_get hx]; rfl
      have hxo := HOK.out x (List.mem_of_getElem? hx)
      have hxl : x.length ≤ 1000 := by have := hxo.2; have := HDL.out; omega
      have HRD := Lib.hid (fun W => read_any x hxo.1 hxl W)
      have hyl : (rdF x).length ≤ 100000 := by have := rd_len x none; unfold rdF; omega
      have HRT := Lib.hid (fun W => pright_any (rdF x) hyl W)
      have HST := Lib.hid (pcsAt_set hx)
      have HNM : Hid (mayS (rdF x) = false → splitF p = none) := Lib.hid (fun h => by rw [HF.out, allMay_no hx h]; rfl)
      have HYM : Hid (mayS (rdF x) = true → ∀ y ∈ ps.take (i + 1), mayS (rdF y) = true) := Lib.hid (fun h y hy => by
        rw [List.take_add_one, hx, Option.toList_some, List.mem_append, List.mem_singleton] at hy
        rcases hy with hy | rfl
        · exact HR.out.2.2.2 y hy
        · exact h)
      clear hx hxo hxl hyl
      obtain ⟨y, hy⟩ : ∃ y, y = rdF x := ⟨_, rfl⟩
      rw [← hy] at HRD HRT HST HNM HYM
      clear hy
      obtain ⟨m, hmm⟩ : ∃ m, m = mayS y := ⟨_, rfl⟩
      rw [← hmm] at HRT HNM HYM
      clear hmm
      have HC := Lib.hid hcell
      have HRW := Lib.hid HR.out.1
      have HBW := Lib.hid (And.intro HR.out.2.1 HR.out.2.2.1)
      cases m with
      | false =>
        have HP := Lib.hid (HNM.out rfl)
        clear hw1
        go_wp2_with fail
        refine (HRD.out _).mono ?_
        rintro e W5 ⟨rfl, h5⟩
        have hr5 : Row W5 g ((pcsAt ps i).map S).toArray 9 := HRW.out.below h5 HRW.out.lt
        have hc5 : W5.cell? ⟨g, i, none⟩ = some (S x) := by rw [h5.cell (World.block_lt_of_cell? wr _ HC.out)]; exact HC.out
        have hf5 := hr5.frozen i
        have HB5 := Lib.hid (HBW.out.1.trans (h5.mono HBW.out.1.size))
        have HR5 := Lib.hid hr5
        clear h5 hr5
        go_wp2_with (first
          | (go_at_call 50; refine (HRT.out _).mono ?_; rintro e W6 ⟨rfl, h6⟩; have HB6 : Hid (Below w.heap.size w W6) := Lib.hid ((HB5.out.setCell (p := ⟨g, i, none⟩) HBW.out.2 (S y)).trans (h6.mono (by first | exact HB5.out.size | (have := HB5.out.size; simpa using this)))); clear h6)
          | fail)
        first | (go_ret2; exact HNO.out HP.out _ HB6.out) | exact HNO.out HP.out _ HB6.out
      | true =>
        have HP := Lib.hid (HYM.out rfl)
        go_wp2_with fail
        refine (HRD.out _).mono ?_
        rintro e W5 ⟨rfl, h5⟩
        have hr5 : Row W5 g ((pcsAt ps i).map S).toArray 9 := HRW.out.below h5 HRW.out.lt
        have hc5 : W5.cell? ⟨g, i, none⟩ = some (S x) := by rw [h5.cell (World.block_lt_of_cell? wr _ HC.out)]; exact HC.out
        have hf5 := hr5.frozen i
        have HB5 := Lib.hid (HBW.out.1.trans (h5.mono HBW.out.1.size))
        have HR5 := Lib.hid hr5
        clear h5 hr5
        go_wp2_with (first
          | (go_at_call 50; refine (HRT.out _).mono ?_; rintro e W6 ⟨rfl, h6⟩; have HB6 : Hid (Below w.heap.size w W6 ∧ Row W6 g ((pcsAt ps (i + 1)).map S).toArray 9) := Lib.hid ⟨(HB5.out.setCell (p := ⟨g, i, none⟩) HBW.out.2 (S y)).trans (h6.mono (by first | exact HB5.out.size | (have := HB5.out.size; simpa using this))), (row_next HR5.out HST.out).below h6 (row_next HR5.out HST.out).lt⟩; clear h6)
          | fail)
        exact ⟨⟨i + 1, by go_num, by omega, Lib.hid ⟨HB6.out.2, HB6.out.1, HBW.out.2, HP.out⟩⟩, by simp [intOf]; omega⟩
theorem targetI : TargetI := fun s w hs => ltarget_any s w hs
end Go.Proofs.YtendejpkdjkmnaaGreatDoor
/- The landed suits, Right, notFound and split walked. -/
namespace Go.Proofs.YtendejpkdjkmnaaGreatDoor
open Go.RowKit
attribute [local go_sem] store_one S_match S_store

/-- Whether a route's kind goes with its text and its method. -/
def suitsR (r : Rt) : Bool := if r.kind = 1 then decide (r.text.length ≤ 4096) else if r.kind = 2 then r.text == [] else if r.kind = 3 then r.text == [] else if r.kind = 4 then (r.text == [] && r.m == getT) else false
theorem right_suits (r : Rt) : rightR r = (tokF r.m && ((segsF r.p).isSome && suitsR r)) := by
  unfold rightR suitsR
  by_cases h1 : r.kind = 1
  · rw [if_pos h1, if_pos h1, h1]
    simp
  · rw [if_neg h1, if_neg h1]
    by_cases h2 : r.kind = 2
    · rw [if_pos h2, h2]; simp
    · rw [if_neg h2]
      by_cases h3 : r.kind = 3
      · rw [if_pos h3, h3]; simp
      · rw [if_neg h3]
        by_cases h4 : r.kind = 4
        · rw [if_pos h4, h4]; simp
        · rw [if_neg h4]
          have : (decide (1 ≤ r.kind) && decide (r.kind ≤ 4)) = false := by
            cases hx : (decide (1 ≤ r.kind) && decide (r.kind ≤ 4)) with
            | false => rfl
            | true =>
              rw [Bool.and_eq_true, decide_eq_true_iff, decide_eq_true_iff] at hx
              omega
          rw [this]; simp
set_option maxRecDepth 100000 in
set_option maxHeartbeats 1000000 in
theorem suits_any (r : Rt) (w : World) (ht : r.text.length ≤ 1000000) : Calls Tryz.prog 28 #[rtV r] w fun e w' => e = .returned (.bool (suitsR r)) ∧ Below w.heap.size w w' := by
  obtain ⟨m, p, k, t⟩ := r
  have HB : Hid (∀ cs, Below w.heap.size w (w.alloc (.cells cs 40))) := Lib.hid fun cs => (Below.refl _ w).alloc (Nat.le_refl _) _
  have n1 : ∀ y z, eqGuard .eql 9 y z (S t) (.string ⟨#[]⟩) = pure () := fun y z => guard_S 9 y z t []
  have q1 : binOp .eql 9 (S t) (.string ⟨#[]⟩) = pure (.bool (t == [])) := eql_S 9 t []
  have n2 : ∀ y z, eqGuard .eql 9 y z (S m) (.string ⟨#[71, 69, 84]⟩) = pure () := fun y z => guard_S 9 y z m getT
  have q2 : binOp .eql 9 (S m) (.string ⟨#[71, 69, 84]⟩) = pure (.bool (m == getT)) := eql_S 9 m getT
  have hlen : ∀ T w', (Builtin.len_ #[9] T #[S t]).run Tryz.prog w' = .ok (.int .i64 (t.length : Int)) w' := fun T w' => run_len_S Tryz.underlying9 T t w'
  unfold suitsR rtV rtC
  dsimp only at ht ⊢
  obtain ⟨B1, hB1⟩ : ∃ B : Bool, B = (t == []) := ⟨_, rfl⟩
  obtain ⟨B2, hB2⟩ : ∃ B : Bool, B = (m == getT) := ⟨_, rfl⟩
  obtain ⟨L, hL⟩ : ∃ L, L = t.length := ⟨_, rfl⟩
  rw [← hB1] at q1 ⊢
  rw [← hB2] at q2 ⊢
  rw [← hL] at hlen ht ⊢
  generalize S t = T at *
  generalize S m = M at *
  clear hB1 hB2 hL
  by_cases h1 : k = 1
  · subst h1
    rw [if_pos rfl]
    by_cases hl : L ≤ 4096
    · have g1 : decide ((L : Int) ≤ 4096) = true := decide_eq_true (by omega)
      rw [decide_eq_true hl]
      clear hl
      go_enter Tryz.func28, Tryz.ntmps28
      go_wp2
      go_ret
      exact ⟨rfl, HB.out _⟩
    · have g1 : decide ((L : Int) ≤ 4096) = false := decide_eq_false (by omega)
      rw [decide_eq_false hl]
      clear hl
      go_enter Tryz.func28, Tryz.ntmps28
      go_wp2
      go_ret
      exact ⟨rfl, HB.out _⟩
  · rw [if_neg h1]
    have g1 : (k == 1) = false := beq_eq_false_iff_ne.2 h1
    by_cases h2 : k = 2
    · subst h2
      rw [if_pos rfl]
      clear g1 h1
      go_enter Tryz.func28, Tryz.ntmps28
      go_wp2
      go_ret
      exact ⟨rfl, HB.out _⟩
    · rw [if_neg h2]
      have g2 : (k == 2) = false := beq_eq_false_iff_ne.2 h2
      by_cases h3 : k = 3
      · subst h3
        rw [if_pos rfl]
        clear g1 h1 g2 h2
        go_enter Tryz.func28, Tryz.ntmps28
        go_wp2
        go_ret
        exact ⟨rfl, HB.out _⟩
      · rw [if_neg h3]
        have g3 : (k == 3) = false := beq_eq_false_iff_ne.2 h3
        by_cases h4 : k = 4
        · subst h4
          rw [if_pos rfl]
          clear g1 h1 g2 h2 g3 h3
          cases B1 with
          | false =>
            go_enter Tryz.func28, Tryz.ntmps28
            go_wp2
            go_ret
            exact ⟨rfl, HB.out _⟩
          | true =>
            go_enter Tryz.func28, Tryz.ntmps28
            go_wp2
            go_ret
            exact ⟨rfl, HB.out _⟩
        · rw [if_neg h4]
          have g4 : (k == 4) = false := beq_eq_false_iff_ne.2 h4
          clear h1 h2 h3 h4
          go_enter Tryz.func28, Tryz.ntmps28
          go_wp2
          go_ret
          exact ⟨rfl, HB.out _⟩
set_option maxRecDepth 100000 in
set_option maxHeartbeats 1000000 in
theorem rright_any (r : Rt) (w : World) (hm : r.m.length ≤ 100000) (hp : r.p.length ≤ 200) (ht : r.text.length ≤ 1000000) (hM : MaxAt w) : Calls Tryz.prog 16 #[rtV r] w fun e w' => e = .returned (.bool (rightR r)) ∧ Below w.heap.size w w' := by
  rw [right_suits]
  have hB0 : Below w.heap.size w (w.alloc (.cells (rtC r) 40)) := (Below.refl _ w).alloc (Nat.le_refl _) _
  have HB0 := Lib.hid hB0
  have HT := Lib.hid (token15_any r.m hm (w.alloc (.cells (rtC r) 40)))
  have HP := Lib.hid (right_any r.p hp _ (hM.below hB0))
  have HR : Hid (∀ W, Below (w.alloc (.cells (rtC r) 40)).heap.size (w.alloc (.cells (rtC r) 40)) W → Row W w.heap.size (rtC r) 40) := Lib.hid fun W hB => (row_new w _ _).below hB (by simp)
  have HS : Hid (∀ W, Calls Tryz.prog 28 #[rtV r] W fun e w' => e = .returned (.bool (suitsR r)) ∧ Below W.heap.size W w') := Lib.hid fun W => suits_any r W ht
  clear hB0 hM
  obtain ⟨B1, hB1⟩ : ∃ B : Bool, B = tokF r.m := ⟨_, rfl⟩
  obtain ⟨B2, hB2⟩ : ∃ B : Bool, B = (segsF r.p).isSome := ⟨_, rfl⟩
  obtain ⟨B3, hB3⟩ : ∃ B : Bool, B = suitsR r := ⟨_, rfl⟩
  rw [← hB1] at HT ⊢
  rw [← hB2] at HP ⊢
  rw [← hB3] at HS ⊢
  clear hB1 hB2 hB3 hm hp ht
  obtain ⟨m, p, k, t⟩ := r
  unfold rtV rtC at *
  dsimp only at *
  generalize S t = T at *
  generalize S m = M at *
  generalize S p = P at *
  cases B1 with
  | false =>
    go_enter Tryz.func16, Tryz.ntmps16
    go_wp2_with fail
    refine HT.out.mono ?_
    rintro e W ⟨rfl, hW⟩
    rw [hW]
    clear hW W
    go_wp2
    go_ret
    exact ⟨rfl, HB0.out⟩
  | true =>
    cases B2 with
    | false =>
      go_enter Tryz.func16, Tryz.ntmps16
      go_wp2_with fail
      refine HT.out.mono ?_
      rintro e W ⟨rfl, hW⟩
      rw [hW]
      clear hW W
      go_wp2_with fail
      refine HP.out.mono ?_
      rintro e W ⟨rfl, hB⟩
      have HB := Lib.hid (HB0.out.trans (hB.mono HB0.out.size))
      clear hB
      go_wp2
      go_ret
      exact ⟨rfl, HB.out⟩
    | true =>
      go_enter Tryz.func16, Tryz.ntmps16
      go_wp2_with fail
      refine HT.out.mono ?_
      rintro e W ⟨rfl, hW⟩
      rw [hW]
      clear hW W
      go_wp2_with fail
      refine HP.out.mono ?_
      rintro e W ⟨rfl, hB⟩
      have HB := Lib.hid (HB0.out.trans (hB.mono HB0.out.size))
      have hr := HR.out W hB
      have c0 := cell_of_row W w.heap.size 0 _ _ (0, 0) hr
      have c1 := cell_of_row W w.heap.size 1 _ _ (0, 0) hr
      have c2 := cell_of_row W w.heap.size 2 _ _ (0, 0) hr
      have c3 := cell_of_row W w.heap.size 3 _ _ (0, 0) hr
      clear hB hr
      go_wp2_with fail
      refine (HS.out W).mono ?_
      rintro e W2 ⟨rfl, hB⟩
      have HB2 := Lib.hid (HB.out.trans (hB.mono HB.out.size))
      clear hB
      go_wp2
      go_ret
      exact ⟨by cases B3 <;> rfl, HB2.out⟩
theorem infoRpW : (Tryz.prog.info? 29).map (·.size) = some 3 := by kernel_rfl
theorem results_rpU {fn : Func} {p : Tmp} (h : fn.results = #[.cell p 29]) (tmps : Array Value) (w : World) (g : Nat) (cs : Array Value) (hp : tmps.getD p undef = .pointer (some ⟨g, 0, none⟩)) (hg : w.heap[g]? = some (.cells cs 29 (0, 0))) (h3 : cs.size = 3) :
    (results fn tmps).run Tryz.prog w = .ok (.agg cs) w := by
  have hp' : tmps[p]?.getD undef = .pointer (some ⟨g, 0, none⟩) := by simpa using hp
  simp [results, h, hp', asAddr, run_loadVar_row w g 29 29 cs (0, 0) _ hg Tryz.underlying29 rfl (by rw [infoRpW, h3])]
set_option maxRecDepth 100000 in
theorem notfound_any (w : World) : Calls Tryz.prog 17 #[] w fun e w' => e = .returned (rpuV 404 (.slice none 0 0) notFoundT) ∧ Below w.heap.size w w' := by
  have HR : Hid ((w.alloc (.cells (rpuC 404 (.slice none 0 0) notFoundT) 29)).heap[w.heap.size]? = some (.cells (rpuC 404 (.slice none 0 0) notFoundT) 29 (0, 0))) := Lib.hid (heap_alloc_new w _)
  go_enter Tryz.func17, Tryz.ntmps17
  go_wp2
  refine bodyPost_ret (results_rpU rfl _ _ w.heap.size _ rfl HR.out rfl) rfl ?_
  exact ⟨rfl, (Below.refl _ w).alloc (Nat.le_refl _) _⟩
/-- A path's segments, as patterns are held against them. -/
theorem segs_any (s : Txt) (hs : s.length ≤ 100000) (w : World) (hm : MaxAt w) : Calls Tryz.prog 18 #[S s] w fun e w' => ∃ V b, e = .returned (.tuple #[V, .bool (segsOf s).isSome]) ∧ TA w' V ((segsOf s).getD []) b 0 ∧ Below w.heap.size w w' := by
  have HP := Lib.hid (psplit_any s hs w hm)
  have n1 : ∀ y z, eqGuard .eql 9 y z (S s) (.string ⟨#[47]⟩) = pure () := fun y z => guard_S 9 y z s [47]
  have q1 : binOp .eql 9 (S s) (.string ⟨#[47]⟩) = pure (.bool (s == [47])) := eql_S 9 s [47]
  unfold segsOf
  by_cases h : s = [47]
  · rw [if_pos h]
    rw [beq_iff_eq.2 h] at q1
    clear h hs hm
    go_enter Tryz.func18, Tryz.ntmps18
    go_wp2
    go_ret2
    exact ⟨.slice none 0 0, 0, rfl, ta_nil w none 0, Below.refl _ w⟩
  · rw [if_neg h]
    rw [beq_eq_false_iff_ne.2 h] at q1
    clear h hs hm
    go_enter Tryz.func18, Tryz.ntmps18
    go_wp2_with fail
    refine HP.out.mono ?_
    rintro e W ⟨V, rfl, ho, hB⟩
    obtain ⟨b, hT⟩ := ta_own ho
    have HT := Lib.hid hT
    have HB := Lib.hid hB
    clear ho hT hB
    go_wp2
    go_ret2
    exact ⟨V, b, rfl, HT.out, HB.out⟩
end Go.Proofs.YtendejpkdjkmnaaGreatDoor
/- A text that is built: the library's builder, in a block. -/
namespace Go.Proofs.YtendejpkdjkmnaaGreatDoor
open Go.RowKit Go.Shelf

/-- Writing to a builder, laid by hand: one of its types is named in no body, so no list tells its number. -/
def lays166_ren : Go.Shelf.Ren := ⟨fun | 166 => 57 | 240 => 85 | 276 => 104 | n => n, fun | 0 => 0 | 3 => 3 | 4 => 4 | 9 => 9 | 20 => 20 | 37 => 49 | 70 => 114 | 72 => 116 | 75 => 119 | 164 => 152 | 5 => 5 | 80 => 65 | n => n, fun n => n⟩
theorem lays166 : Go.Proofs.Lays.n166 Tryz.prog lays166_ren := {
  mixed := by kernel_rfl
  f166 := Tryz.func57.trans (congrArg some (by kernel_rfl))
  f240 := Tryz.func85.trans (congrArg some (by kernel_rfl))
  f276 := Tryz.func104.trans (congrArg some (by kernel_rfl))
  t0 := Tryz.underlying0
  a0 := Tryz.isAgg0
  z0 := Tryz.sizeOf0
  v0 := Tryz.zeroValue0
  t3 := Tryz.underlying3
  a3 := Tryz.isAgg3
  z3 := Tryz.sizeOf3
  v3 := Tryz.zeroValue3
  t4 := Tryz.underlying4
  a4 := Tryz.isAgg4
  z4 := Tryz.sizeOf4
  v4 := Tryz.zeroValue4
  t9 := Tryz.underlying9
  a9 := Tryz.isAgg9
  z9 := Tryz.sizeOf9
  v9 := Tryz.zeroValue9
  t20 := Tryz.underlying20
  a20 := Tryz.isAgg20
  z20 := Tryz.sizeOf20
  v20 := Tryz.zeroValue20
  t37 := Tryz.underlying49
  a37 := Tryz.isAgg49
  z37 := Tryz.sizeOf49
  v37 := Tryz.zeroValue49
  t70 := Tryz.underlying114
  a70 := Tryz.isAgg114
  z70 := Tryz.sizeOf114
  v70 := Tryz.zeroValue114
  t72 := Tryz.underlying116
  a72 := Tryz.isAgg116
  z72 := Tryz.sizeOf116
  v72 := Tryz.zeroValue116
  t75 := Tryz.underlying119
  a75 := Tryz.isAgg119
  z75 := Tryz.sizeOf119
  v75 := Tryz.zeroValue119
  t164 := Tryz.underlying152
  a164 := Tryz.isAgg152
  z164 := Tryz.sizeOf152
  v164 := Tryz.zeroValue152 }
theorem extra166 : Builder.Extra Tryz.prog lays166_ren := {
  sizeBuilder := by kernel_rfl
  liesBuilder := by kernel_rfl
  t5 := Tryz.underlying5
  a5 := Tryz.isAgg5
  z5 := Tryz.sizeOf5
  v5 := Tryz.zeroValue5
  infoByte := by kernel_rfl
  cellsByte := by kernel_rfl
  sizeByte := by kernel_rfl
  neB5 := by decide }
/-- A text that is built: in block g there is a builder with x in it. -/
def Bld (g : Nat) (x : List UInt8) (w : World) : Prop := Lib.IsBuilder 116 5 g g (Lib.byteCells x) w
theorem bld_new (w : World) : Bld w.heap.size [] (w.alloc (.cells #[.pointer none, .slice none 0 0] 116)) := Lib.fresh_isBuilder _ _ w
theorem Bld.lt {g : Nat} {x : List UInt8} {w : World} (h : Bld g x w) : g < w.heap.size := by
  rcases h with h | h
  · exact h.lt
  · exact h.lt
theorem Bld.below {g : Nat} {x : List UInt8} {w w' : World} (h : Bld g x w) (hb : Below w.heap.size w w') : Bld g x w' := by
  have one : ∀ p, Lib.BuilderAt 116 5 g g p (Lib.byteCells x) w → Lib.BuilderAt 116 5 g g p (Lib.byteCells x) w' := by
    rintro p ⟨h1, v, h2, h3, h4⟩
    exact ⟨h1, v, by rw [hb.block g (Array.getElem?_eq_some_iff.1 h2).1]; exact h2, own_below h3 hb, h4⟩
  rcases h with h | h
  · exact .inl (one _ h)
  · exact .inr (one _ h)
theorem wstr_any (g : Nat) (x s : List UInt8) (hl : x.length + s.length ≤ 1000000) (w : World) (h : Bld g x w) : Calls Tryz.prog 57 #[.pointer (some ⟨g, 0, none⟩), S s] w fun e w' => e = .returned (.tuple #[.int .i64 (s.length : Int), .nilIface]) ∧ Bld g (x ++ s) w' ∧ Below g w w' := by
  have hz := S_size s
  refine (Any.Builder_WriteString lays166 extra166 g g (Lib.byteCells x) ⟨s.toArray⟩ w h (by rw [Lib.byteCells_length]; omega) (Nat.le_of_lt h.lt)).mono ?_
  rintro e w' ⟨rfl, h1, h2⟩
  refine ⟨by rw [hz], .inr ?_, h2⟩
  rw [Lib.byteCells_append]
  exact h1
theorem bstr_any (g : Nat) (x : List UInt8) (w : World) (h : Bld g x w) : Calls Tryz.prog 58 #[.pointer (some ⟨g, 0, none⟩)] w fun e w' => e = .returned (S x) ∧ Below g w w' :=
  Tryz.Builder_String_any g g x w h (Nat.le_of_lt h.lt)
end Go.Proofs.YtendejpkdjkmnaaGreatDoor
/- The landed lines and answer walked. -/
namespace Go.Proofs.YtendejpkdjkmnaaGreatDoor
open Go.RowKit
attribute [local go_sem] store_one S_match S_store

theorem linesR_snoc (fs : List (Txt × Txt)) (f : Txt × Txt) : linesR (fs ++ [f]) = linesR fs ++ (f.1 ++ (61 :: f.2 ++ [10])) := by
  unfold linesR; rw [List.flatMap_append]; simp
theorem linesR_take (fs : List (Txt × Txt)) (i : Nat) {f : Txt × Txt} (h : fs[i]? = some f) : linesR (fs.take (i + 1)) = linesR (fs.take i) ++ (f.1 ++ (61 :: f.2 ++ [10])) := by
  rw [List.take_add_one, h]
  exact linesR_snoc _ _
theorem linesR_le (fs : List (Txt × Txt)) (i : Nat) : (linesR (fs.take i)).length ≤ (linesR fs).length := by
  have : linesR fs = linesR (fs.take i) ++ linesR (fs.drop i) := by
    unfold linesR
    rw [← List.flatMap_append, List.take_append_drop]
  rw [this, List.length_append]
  exact Nat.le_add_right _ _
/-- A text so far. -/
structure LnAt (w : World) (fs : List (Txt × Txt)) (i : Nat) (wr : World) : Prop where
  bld : Bld w.heap.size (linesR (fs.take i)) wr
  bel : Below w.heap.size w wr
set_option maxRecDepth 100000 in
set_option maxHeartbeats 1000000 in
theorem lines_any {w : World} {V : Value} {fs : List (Txt × Txt)} {b o : Nat} (hA : FA w V fs b o) (hl : (linesR fs).length ≤ 900000) (hn : fs.length ≤ 100000) :
    Calls Tryz.prog 37 #[V] w fun e w' => e = .returned (S (linesR fs)) ∧ Below w.heap.size w w' := by
  have hlp := fun w' => hA.len 3 w'
  obtain ⟨L, hL⟩ : ∃ L, L = fs.length := ⟨_, rfl⟩
  rw [← hL] at hlp hn
  have HL := Lib.hid hL
  have HA := Lib.hid hA
  have HLL := Lib.hid hl
  have HN := Lib.hid hn
  have H0 : Hid (LnAt w fs 0 (w.alloc (.cells #[.pointer none, .slice none 0 0] 116))) := Lib.hid ⟨by rw [List.take_zero]; exact bld_new w, (Below.refl _ w).alloc (Nat.le_refl _) _⟩
  clear hA hl hL hn
  go_enter Tryz.func37, Tryz.ntmps37
  go_wp2
  go_loopw [8] (fun iv wr => ∃ (i : Nat), i ≤ L ∧ iv = .int .i64 (i : Int) ∧ Hid (LnAt w fs i wr)) (fun iv _ => L - (intOf iv).toNat)
  case atStart => exact ⟨0, Nat.zero_le _, rfl, H0⟩
  case round =>
    obtain ⟨i, hi, rfl, HR⟩ := hrel
    by_cases hlt : i < L
    case neg =>
      obtain rfl : i = L := by omega
      have g1 : decide ((i : Int) < (i : Int)) = false := decide_eq_false (by omega)
      have HS := Lib.hid (bstr_any w.heap.size _ wr HR.out.bld)
      have HE : Hid (linesR (fs.take i) = linesR fs) := Lib.hid (by rw [HL.out, List.take_length])
      go_wp2_with fail
      refine HS.out.mono ?_
      rintro e W ⟨rfl, hB⟩
      have HB := Lib.hid (HR.out.bel.trans hB)
      clear hB
      go_wp2
      go_ret
      exact ⟨by rw [HE.out]; rfl, HB.out⟩
    case pos =>
      have g1 : decide ((i : Int) < (L : Int)) = true := decide_eq_true (by omega)
      have hi9 := HN.out
      have hw1 : IntKind.i64.wrap ((i : Int) + 1) = (i : Int) + 1 := by rw [IntKind.wrap_i64]; omega
      clear hi9
      obtain ⟨f, hf⟩ : ∃ f, fs[i]? = some f := ⟨fs[i]'(by have := HL.out; omega), List.getElem?_eq_getElem _⟩
      have hx := HA.out.index i (by have := HL.out; omega)
      obtain ⟨c0, c1⟩ := (HA.out.below HR.out.bel).cell i f hf
      have hle := linesR_le fs (i + 1)
      rw [linesR_take fs i hf] at hle
      obtain ⟨f1, f2⟩ := f
      dsimp only at c0 c1 hle
      have hle2 : (linesR (fs.take i)).length + (f1.length + (f2.length + 2)) ≤ 900000 := by
        have := HLL.out
        simp only [List.length_append, List.length_cons, List.length_nil, List.cons_append] at hle
        omega
      have z1 : binOp .add 9 (S f1) (.string ⟨#[61]⟩) = pure (S (f1 ++ [61])) := S_add 9 f1 [61] (by simp only [List.length_cons, List.length_nil]; omega)
      have z2 : binOp .add 9 (S (f1 ++ [61])) (S f2) = pure (S (f1 ++ [61] ++ f2)) := S_add 9 (f1 ++ [61]) f2 (by rw [List.length_append]; simp only [List.length_cons, List.length_nil]; omega)
      have z3 : binOp .add 9 (S (f1 ++ [61] ++ f2)) (.string ⟨#[10]⟩) = pure (S (f1 ++ [61] ++ f2 ++ [10])) := S_add 9 (f1 ++ [61] ++ f2) [10] (by rw [List.length_append, List.length_append]; simp only [List.length_cons, List.length_nil]; omega)
      have HBX : Hid (Below w.heap.size w (wr.alloc (.cells #[S f1, S f2] 43))) := Lib.hid (HR.out.bel.alloc HR.out.bel.size _)
      have HBL : Hid (Bld w.heap.size (linesR (fs.take i)) (wr.alloc (.cells #[S f1, S f2] 43))) := Lib.hid (HR.out.bld.below ((Below.refl _ wr).alloc (Nat.le_refl _) _))
      have HWS := Lib.hid (wstr_any w.heap.size (linesR (fs.take i)) (f1 ++ [61] ++ f2 ++ [10]) (by simp only [List.length_append, List.length_cons, List.length_nil]; omega) _ HBL.out)
      have HNX : Hid (linesR (fs.take (i + 1)) = linesR (fs.take i) ++ (f1 ++ [61] ++ f2 ++ [10])) := Lib.hid (by rw [linesR_take fs i hf]; simp)
      obtain ⟨q, hq⟩ : ∃ q, q = o + i * 2 := ⟨_, rfl⟩
      rw [← hq] at hx c0 c1
      clear hf hle hle2 hq
      generalize S (f1 ++ [61] ++ f2 ++ [10]) = Z3 at *
      generalize S (f1 ++ [61] ++ f2) = Z2 at *
      generalize S (f1 ++ [61]) = Z1 at *
      go_wp2_with fail
      refine HWS.out.mono ?_
      rintro e W ⟨rfl, hb, hB⟩
      have H5 : Hid (LnAt w fs (i + 1) W) := Lib.hid ⟨by rw [HNX.out]; exact hb, HBX.out.trans hB⟩
      clear hb hB
      go_wp2
      exact ⟨⟨i + 1, by omega, by go_num, H5⟩, by simp [intOf]; omega⟩
set_option maxRecDepth 100000 in
set_option maxHeartbeats 1000000 in
theorem answer_any {w : World} {V : Value} {fs : List (Txt × Txt)} {b o : Nat} (hA : FA w V fs b o) (hl : (linesR fs).length ≤ 900000) (hn : fs.length ≤ 100000) (r : Rt) (hk : 1 ≤ r.kind ∧ r.kind ≤ 4) (body : Txt) :
    Calls Tryz.prog 22 #[rtV r, S body, V] w fun e w' => e = .returned (rpuV (answerR r fs body).code (.slice none 0 0) (answerR r fs body).body) ∧ Below w.heap.size w w' := by
  have hres : ∀ cs o, ((w.alloc o).alloc (.cells cs 29)).heap[w.heap.size + 1]? = some (.cells cs 29 (0, 0)) := fun cs o => by
    have := heap_alloc_new (w.alloc o) (.cells cs 29)
    rwa [alloc_size] at this
  have HRES := Lib.hid hres
  have HB : Hid (∀ a c, Below w.heap.size w ((w.alloc a).alloc c)) := Lib.hid fun a c => ((Below.refl _ w).alloc (Nat.le_refl _) _).alloc (by simp) _
  have HLN : Hid (∀ W, Below w.heap.size w W → Calls Tryz.prog 37 #[V] W fun e w' => e = .returned (S (linesR fs)) ∧ Below W.heap.size W w') := Lib.hid fun W hB => lines_any (hA.below hB) hl hn
  clear hres hA hl hn
  obtain ⟨m, p, k, t⟩ := r
  unfold answerR rtV rtC
  dsimp only at hk ⊢
  generalize linesR fs = LN at *
  by_cases h1 : k = 1
  · subst h1
    rw [if_pos rfl]
    clear hk
    go_enter Tryz.func22, Tryz.ntmps22
    go_wp2
    refine bodyPost_ret (results_rpU rfl _ _ (w.heap.size + 1) _ rfl (HRES.out _ _) rfl) rfl ?_
    exact ⟨rfl, HB.out _ _⟩
  · rw [if_neg h1]
    by_cases h2 : k = 2
    · subst h2
      rw [if_pos rfl]
      clear hk h1
      go_enter Tryz.func22, Tryz.ntmps22
      go_wp2
      refine bodyPost_ret (results_rpU rfl _ _ (w.heap.size + 1) _ rfl (HRES.out _ _) rfl) rfl ?_
      exact ⟨rfl, HB.out _ _⟩
    · rw [if_neg h2]
      by_cases h3 : k = 3
      · subst h3
        rw [if_pos rfl]
        clear hk h1 h2
        have HC := Lib.hid (HLN.out _ (HB.out (.cells #[S m, S p, .int .i64 3, S t] 40) (.cells #[.int .i64 0, .slice none 0 0, .string ⟨#[]⟩] 29)))
        have HROW : Hid (∀ W, Below ((w.alloc (.cells #[S m, S p, .int .i64 3, S t] 40)).alloc (.cells #[.int .i64 0, .slice none 0 0, .string ⟨#[]⟩] 29)).heap.size ((w.alloc (.cells #[S m, S p, .int .i64 3, S t] 40)).alloc (.cells #[.int .i64 0, .slice none 0 0, .string ⟨#[]⟩] 29)) W → Row W (w.heap.size + 1) #[.int .i64 0, .slice none 0 0, .string ⟨#[]⟩] 29) := Lib.hid fun W hB => by
          have := (row_new (w.alloc (.cells #[S m, S p, .int .i64 3, S t] 40)) #[.int .i64 0, .slice none 0 0, .string ⟨#[]⟩] 29).below hB (by simp)
          rwa [alloc_size] at this
        go_enter Tryz.func22, Tryz.ntmps22
        go_wp2_with fail
        refine HC.out.mono ?_
        rintro e W ⟨rfl, hB⟩
        have hr := HROW.out W hB
        have c0 := cell_of_row W (w.heap.size + 1) 0 _ _ (0, 0) hr
        have c1 := cell_of_row W (w.heap.size + 1) 1 _ _ (0, 0) hr
        have c2 := cell_of_row W (w.heap.size + 1) 2 _ _ (0, 0) hr
        have f0 := hr.frozen 0
        have f1 := hr.frozen 1
        have f2 := hr.frozen 2
        have HBW := Lib.hid ((HB.out (.cells #[S m, S p, .int .i64 3, S t] 40) (.cells #[.int .i64 0, .slice none 0 0, .string ⟨#[]⟩] 29)).trans (hB.mono (HB.out _ _).size))
        have HRW := Lib.hid hr
        clear hB hr
        go_wp2
        refine bodyPost_ret (results_rpU rfl _ _ (w.heap.size + 1) _ rfl (((HRW.out.set 0 (.int .i64 200)).set 1 (.slice none 0 0)).set 2 (S LN)) rfl) rfl ?_
        exact ⟨rfl, ((HBW.out.setCell (p := ⟨w.heap.size + 1, 0, none⟩) (Nat.le_succ _) _).setCell (p := ⟨w.heap.size + 1, 1, none⟩) (Nat.le_succ _) _).setCell (p := ⟨w.heap.size + 1, 2, none⟩) (Nat.le_succ _) _⟩
      · rw [if_neg h3]
        obtain rfl : k = 4 := by omega
        clear hk h1 h2 h3
        go_enter Tryz.func22, Tryz.ntmps22
        go_wp2
        refine bodyPost_ret (results_rpU rfl _ _ (w.heap.size + 1) _ rfl (HRES.out _ _) rfl) rfl ?_
        exact ⟨rfl, HB.out _ _⟩
end Go.Proofs.YtendejpkdjkmnaaGreatDoor
/- The landed add walked: one more route. (mkuw9.py writes it.) -/
namespace Go.Proofs.YtendejpkdjkmnaaGreatDoor
open Go.RowKit Go.Shelf
attribute [local go_sem] store_one S_match S_store

theorem exec_makeM {P : Program} {o : Oper} {e : Operand → Value} (t : TypeId) (ho : o.op = Op.makeMap t none) {w : World} : (execOp e o).run P w = .ok (.value (.map (some w.heap.size))) (w.alloc (.map #[] 0)) := by
  simp [execOp, ho, run_makeMap, Result.andThen]
/-- What add leaves behind. -/
def AddIs (w : World) (T : Nat → Prop) (gt : Nat) (ents : Ents (Option Nat)) (l : List Rt) (r : Rt) (e : Ending) (w' : World) : Prop :=
  e = .returned (.int .i64 (addGo l r : Int)) ∧ ∃ T' ents', RgAt w' T' gt ents' (if addGo l r = 0 then l ++ [r] else l) ∧ Moves (footR T ents) (footR T' ents') w w'
theorem AddIs.no {w w' : World} {T : Nat → Prop} {gt : Nat} {ents : Ents (Option Nat)} {l : List Rt} {r : Rt} {n : Nat} (hn : addGo l r = n) (h0 : n ≠ 0) (h : RgAt w T gt ents l) (hB : Below w.heap.size w w') : AddIs w T gt ents l r (.returned (.int .i64 (n : Int))) w' := by
  refine ⟨by rw [hn], T, ents, ?_, Moves.of_below hB⟩
  rw [if_neg (by rw [hn]; exact h0)]
  exact h.below hB
/-- What is read of a router's block and of the route in its box. -/
structure AddS (g gt bx : Nat) (m p t : Txt) (k : Int) (w : World) : Prop where
  gt : w.cell? ⟨g, 1, none⟩ = some (.pointer (some ⟨gt, 0, none⟩))
  m : w.cell? ⟨bx, 0, none⟩ = some (S m)
  p : w.cell? ⟨bx, 1, none⟩ = some (S p)
  k : w.cell? ⟨bx, 2, none⟩ = some (.int .i64 k)
  t : w.cell? ⟨bx, 3, none⟩ = some (S t)
theorem AddS.below {g gt bx : Nat} {m p t : Txt} {k : Int} {w w' : World} (h : AddS g gt bx m p t k w) (hB : Below w.heap.size w w') : AddS g gt bx m p t k w' :=
  have one : ∀ {a : Addr} {v : Value}, w.cell? a = some v → w'.cell? a = some v := fun hc => by rw [hB.cell (World.block_lt_of_cell? w _ hc)]; exact hc
  ⟨one h.gt, one h.m, one h.p, one h.k, one h.t⟩
theorem AddS.same {g gt bx : Nat} {m p t : Txt} {k : Int} {w w' : World} (h : AddS g gt bx m p t k w) (hg : w'.heap[g]? = w.heap[g]?) (hb : w'.heap[bx]? = w.heap[bx]?) : AddS g gt bx m p t k w' :=
  ⟨by rw [World.cell?_of_block (w := w) hg]; exact h.gt, by rw [World.cell?_of_block (w := w) hb]; exact h.m, by rw [World.cell?_of_block (w := w) hb]; exact h.p, by rw [World.cell?_of_block (w := w) hb]; exact h.k, by rw [World.cell?_of_block (w := w) hb]; exact h.t⟩
set_option maxRecDepth 100000 in
set_option maxHeartbeats 2000000 in
theorem add_any {w : World} {T : Nat → Prop} {g gt : Nat} {ents : Ents (Option Nat)} {l : List Rt} {cs : Array Value} {ty : TypeId} (h : RgAt w T gt ents l) (hr : Row w g cs ty) (hc : cs[1]? = some (.pointer (some ⟨gt, 0, none⟩))) (hgF : ¬ T g) (hl : l.length < 32) (r : Rt)
    (h1 : r.m.length ≤ 100000) (h2 : r.p.length ≤ 200) (h3 : r.text.length ≤ 1000000) (hM : MaxAt w) :
    Calls Tryz.prog 25 #[.pointer (some ⟨g, 0, none⟩), rtV r] w (AddIs w T gt ents l r) := by
  obtain ⟨PO, hPO⟩ : ∃ PO : Ending → World → Prop, PO = AddIs w T gt ents l r := ⟨_, rfl⟩
  rw [← hPO]
  have HPO := Lib.hid hPO
  obtain ⟨w1, hw1⟩ : ∃ w1, w1 = w.alloc (.cells (rtC r) 40) := ⟨_, rfl⟩
  have hB1 : Below w.heap.size w w1 := by rw [hw1]; exact (Below.refl _ w).alloc (Nat.le_refl _) _
  have hS1 : AddS g gt w.heap.size r.m r.p r.text r.kind w1 := by
    have ha := hr.below hB1 hr.lt
    have hb : Row w1 w.heap.size (rtC r) 40 := by rw [hw1]; exact row_new w _ _
    exact ⟨by rw [cell_of_row _ g 1 _ _ (0, 0) ha]; exact hc, by rw [cell_of_row _ _ 0 _ _ (0, 0) hb]; rfl, by rw [cell_of_row _ _ 1 _ _ (0, 0) hb]; rfl, by rw [cell_of_row _ _ 2 _ _ (0, 0) hb]; rfl, by rw [cell_of_row _ _ 3 _ _ (0, 0) hb]; rfl⟩
  have HM : Hid (∀ W, Below w.heap.size w W → MaxAt W) := Lib.hid fun W hB => hM.below hB
  have HRT := Lib.hid (rright_any r w1 h1 h2 h3 (HM.out _ hB1))
  have HS1 := Lib.hid hS1
  have HB1 := Lib.hid hB1
  have H := Lib.hid h
  have H2 := Lib.hid h2
  have HL := Lib.hid hl
  have HGF : Hid (¬ T g ∧ ¬ T w.heap.size) := Lib.hid ⟨hgF, fun e => by have := h.trie.lt.2 _ e; omega⟩
  have HM1 := Lib.hid h1
  obtain ⟨RB, hRB⟩ : ∃ RB : Bool, RB = rightR r := ⟨_, rfl⟩
  rw [← hRB] at HRT
  have HRB := Lib.hid hRB
  have HW1 := Lib.hid hw1
  have HRX := Lib.hid (show r = ⟨r.m, r.p, r.kind, r.text⟩ from rfl)
  clear h hr hc hl hgF h1 h2 h3 hM hPO hB1 hRB hS1
  cases RB with
  | false =>
    have HP : Hid (∀ W, Below w.heap.size w W → PO (.returned (.int .i64 1)) W) := Lib.hid fun W hB => by
      rw [HPO.out]
      exact AddIs.no (n := 1) (by unfold addGo; rw [← HRB.out, if_pos rfl]) (by decide) H.out hB
    rw [hw1] at HRT
    clear hw1
    obtain ⟨m, p, k, t⟩ := r
    unfold rtV rtC at *
    dsimp only at *
    go_enter Tryz.func25, Tryz.ntmps25
    go_wp2_with fail
    refine HRT.out.mono ?_
    rintro e W ⟨rfl, hB⟩
    have HB := Lib.hid ((show Below w.heap.size w (w.alloc (.cells #[S m, S p, .int .i64 k, S t] 40)) from (Below.refl _ w).alloc (Nat.le_refl _) _).trans (hB.mono (by simp)))
    clear hB
    go_wp2
    first | (go_ret; exact HP.out _ HB.out) | exact HP.out _ HB.out
  | true =>
    obtain ⟨s, hs⟩ := right_segs HRB.out.symm
    obtain ⟨RR, N, M, E, here, bs, C, av, hT⟩ := H.out.trie
    have HG : Hid (∀ W, Below w.heap.size w W → Calls Tryz.prog 38 #[.pointer (some ⟨gt, 0, none⟩), S r.p] W fun e w' => e = .returned (.tuple #[Value.map ((getE ents r.p).getD none), .bool (getE ents r.p).isSome]) ∧ Below W.heap.size W w') := Lib.hid fun W hB =>
      getm_any (hT.below hB) r.p H2.out (HM.out W hB)
    clear hT
    have HSEG := Lib.hid hs
    clear hs
    have hre := HRX.out
    rw [hw1] at HRT HS1 HB1
    clear hw1
    cases hg : getE ents r.p with
    | none =>
      rw [hg] at HG
      have hno : ∀ e ∈ ents, e.1 ≠ r.p := fun e he hp => by
        unfold getE at hg
        rw [Option.map_eq_none_iff] at hg
        exact absurd (beq_iff_eq.2 hp) (List.find?_eq_none.1 hg e he)
      have HADD : Hid (∀ W mb, Below w.heap.size w W → w.heap.size ≤ mb → RMap Tryz.prog 9 W mb 1 (updR (fun _ => none) r.m r) → Calls Tryz.prog 39 #[.pointer (some ⟨gt, 0, none⟩), S r.p, .map (some mb)] W fun e w' => ∃ n : Nat, e = .returned (.int .i64 (n : Int)) ∧ PO (.returned (.int .i64 (n : Int))) w' ∧ ∀ k, k < W.heap.size → ¬ T k → w'.heap[k]? = W.heap[k]?) := Lib.hid fun W mb hB hmb hrm => by
        obtain ⟨_, _, _, _, _, _, _, _, hT2⟩ := (H.out.below hB).trie
        refine (addm_any hT2 r.p (some mb) H2.out (HM.out W hB)).mono ?_
        rintro e w' ⟨rfl, F', h1, h2⟩
        refine ⟨_, rfl, ?_, h2.rest⟩
        rw [HPO.out]
        have hcl := clash_new H.out.pats hno
        have hsd : segD r.p = s := by unfold segD; rw [HSEG.out]; rfl
        rw [hsd] at hcl
        cases htw : (ents.any fun e => twinF s (segD e.1)) with
        | true =>
          have hadd : addE 32 ents r.p (some mb) = (5, ents) := by
            unfold addE
            rw [HSEG.out]
            dsimp only
            rw [if_pos htw]
          rw [htw] at hcl
          rw [hadd] at h1 ⊢
          have hgo : addGo l r = 5 := by unfold addGo; rw [← HRB.out, hcl]; rfl
          obtain ⟨k1, k2⟩ := (H.out.below hB).kept h2 h1
          exact ⟨by rw [hgo], F', ents, by rw [if_neg (by rw [hgo]; decide)]; exact k1, (Moves.of_below hB).trans k2⟩
        | false =>
          have hfew : ¬ (32 : Int) ≤ (ents.length : Int) := by have := H.out.pats.few; have := HL.out; omega
          have hadd : addE 32 ents r.p (some mb) = (0, ents ++ [(r.p, some mb)]) := by
            unfold addE
            rw [HSEG.out]
            dsimp only
            rw [if_neg (by rw [htw]; exact Bool.false_ne_true), if_neg hfew]
          rw [htw] at hcl
          rw [hadd] at h1 ⊢
          have hgo : addGo l r = 0 := by unfold addGo; rw [← HRB.out, hcl]; rfl
          obtain ⟨k1, k2⟩ := H.out.push r hno mb hB hmb hrm h2 h1
          exact ⟨by rw [hgo], F', ents ++ [(r.p, some mb)], by rw [if_pos hgo]; exact k1, k2⟩
      clear hg hno
      obtain ⟨m, p, k, t⟩ := r
      unfold rtV rtC at *
      dsimp only at *
      go_enter Tryz.func25, Tryz.ntmps25
      go_wp2_with fail
      refine HRT.out.mono ?_
      rintro e W ⟨rfl, hB⟩
      have HSW := Lib.hid (HS1.out.below hB)
      have HBW := Lib.hid (HB1.out.trans (hB.mono HB1.out.size))
      have s0 := HSW.out
      obtain ⟨c1, c2, c3, c4, c5⟩ := s0
      obtain ⟨Wq, hWq⟩ : ∃ Wq, Wq = W.drew := ⟨_, rfl⟩
      have HBQ : Hid (Below w.heap.size w Wq) := Lib.hid (by rw [hWq]; exact HBW.out.trans ((below_drew W).mono HBW.out.size))
      have HSQ : Hid (AddS g gt w.heap.size m p t k Wq) := Lib.hid (by rw [hWq]; exact HSW.out.below (below_drew W))
      have HWQ := Lib.hid hWq
      clear hB hWq
      go_wp2
      refine wp_region_noPanic ?_
      refine wp_region_held_drew (S := fun wx => wx.cell? ⟨g, 1, none⟩ = some (.pointer (some ⟨gt, 0, none⟩)) ∧ wx.cell? ⟨w.heap.size, 1, none⟩ = some (S p)) (by kernel_rfl) ⟨c1, c3⟩ (fun _ => ?_)
      rw [← HWQ.out]
      clear c1 c2 c3 c4 c5
      refine take_at (i := 0) (d := some 13) (v := .pointer (some ⟨g, 0, none⟩)) rfl (by kernel_rfl) (by kernel_rfl) (by kernel_rfl) (fun _ _ _ h => h) (fun oi ho => ?_) ⟨HSQ.out.gt, HSQ.out.p⟩ ?_
      · obtain rfl := Option.some.inj ho
        exact Or.inl ⟨by rfl, fun wx hSw => by obtain ⟨hu1, hu2⟩ := hSw; go_simp⟩
      simp only [Act.put, List.setIfInBounds_toArray, List.set_cons_zero, List.set_cons_succ]
      refine take_at (i := 1) (d := some 14) (v := .pointer (some ⟨g, 0, none⟩)) rfl (by kernel_rfl) (by kernel_rfl) (by kernel_rfl) (fun _ _ _ h => h) (fun oi ho => ?_) ⟨HSQ.out.gt, HSQ.out.p⟩ ?_
      · obtain rfl := Option.some.inj ho
        exact Or.inl ⟨by rfl, fun wx hSw => by obtain ⟨hu1, hu2⟩ := hSw; go_simp⟩
      simp only [Act.put, List.setIfInBounds_toArray, List.set_cons_zero, List.set_cons_succ]
      refine take_at (i := 2) (d := some 15) (v := .pointer (some ⟨g, 1, none⟩)) rfl (by kernel_rfl) (by kernel_rfl) (by kernel_rfl) (fun _ _ _ h => h) (fun oi ho => ?_) ⟨HSQ.out.gt, HSQ.out.p⟩ ?_
      · obtain rfl := Option.some.inj ho
        exact Or.inl ⟨by rfl, fun wx hSw => by obtain ⟨hu1, hu2⟩ := hSw; go_simp⟩
      simp only [Act.put, List.setIfInBounds_toArray, List.set_cons_zero, List.set_cons_succ]
      refine take_at (i := 3) (d := some 16) (v := .pointer (some ⟨gt, 0, none⟩)) rfl (by kernel_rfl) (by kernel_rfl) (by kernel_rfl) (fun _ _ _ h => h) (fun oi ho => ?_) ⟨HSQ.out.gt, HSQ.out.p⟩ ?_
      · obtain rfl := Option.some.inj ho
        exact Or.inl ⟨by rfl, fun wx hSw => by obtain ⟨hu1, hu2⟩ := hSw; go_simp⟩
      simp only [Act.put, List.setIfInBounds_toArray, List.set_cons_zero, List.set_cons_succ]
      refine take_at (i := 4) (d := some 17) (v := .pointer (some ⟨w.heap.size, 1, none⟩)) rfl (by kernel_rfl) (by kernel_rfl) (by kernel_rfl) (fun _ _ _ h => h) (fun oi ho => ?_) ⟨HSQ.out.gt, HSQ.out.p⟩ ?_
      · obtain rfl := Option.some.inj ho
        exact Or.inl ⟨by rfl, fun wx hSw => by obtain ⟨hu1, hu2⟩ := hSw; go_simp⟩
      simp only [Act.put, List.setIfInBounds_toArray, List.set_cons_zero, List.set_cons_succ]
      refine take_at (i := 5) (d := some 18) (v := S p) rfl (by kernel_rfl) (by kernel_rfl) (by kernel_rfl) (fun _ _ _ h => h) (fun oi ho => ?_) ⟨HSQ.out.gt, HSQ.out.p⟩ ?_
      · obtain rfl := Option.some.inj ho
        exact Or.inl ⟨by rfl, fun wx hSw => by obtain ⟨hu1, hu2⟩ := hSw; go_simp⟩
      simp only [Act.put, List.setIfInBounds_toArray, List.set_cons_zero, List.set_cons_succ]
      refine ready_call (i := 6) (d := some 19) (f := 38) (args := #[.pointer (some ⟨gt, 0, none⟩), S p]) rfl (by kernel_rfl) (fun oi ho => ?_) ?_
      · obtain rfl := Option.some.inj ho
        exact ⟨by rfl, by go_simp⟩
      refine (HG.out Wq HBQ.out).mono ?_
      rintro e W5 ⟨rfl, hB5⟩
      have HB5 := Lib.hid (HBQ.out.trans (hB5.mono HBQ.out.size))
      have HS5 := Lib.hid (HSQ.out.below hB5)
      clear hB5
      refine ⟨_, rfl, ⟨HS5.out.gt, HS5.out.p⟩, ?_⟩
      simp only [Act.put, List.setIfInBounds_toArray, List.set_cons_zero, List.set_cons_succ]
      refine take_at (i := 7) (d := some 12) (v := .tuple #[.map none, .bool false]) rfl (by kernel_rfl) (by kernel_rfl) (by kernel_rfl) (fun _ _ _ h => h) (fun oi ho => ?_) ⟨HS5.out.gt, HS5.out.p⟩ ?_
      · obtain rfl := Option.some.inj ho
        exact Or.inl ⟨by rfl, fun wx hSw => by go_simp⟩
      simp only [Act.put, List.setIfInBounds_toArray, List.set_cons_zero, List.set_cons_succ]
      refine take_at (i := 8) (d := some 20) (v := .map none) rfl (by kernel_rfl) (by kernel_rfl) (by kernel_rfl) (fun _ _ _ h => h) (fun oi ho => ?_) ⟨HS5.out.gt, HS5.out.p⟩ ?_
      · obtain rfl := Option.some.inj ho
        exact Or.inl ⟨by rfl, fun wx hSw => by go_simp⟩
      simp only [Act.put, List.setIfInBounds_toArray, List.set_cons_zero, List.set_cons_succ]
      refine take_at (i := 9) (d := some 21) (v := .bool false) rfl (by kernel_rfl) (by kernel_rfl) (by kernel_rfl) (fun _ _ _ h => h) (fun oi ho => ?_) ⟨HS5.out.gt, HS5.out.p⟩ ?_
      · obtain rfl := Option.some.inj ho
        exact Or.inl ⟨by rfl, fun wx hSw => by go_simp⟩
      simp only [Act.put, List.setIfInBounds_toArray, List.set_cons_zero, List.set_cons_succ]
      refine take_at (i := 10) (d := some 5) (v := .map none) rfl (by kernel_rfl) (by kernel_rfl) (by kernel_rfl) (fun _ _ _ h => h) (fun oi ho => ?_) ⟨HS5.out.gt, HS5.out.p⟩ ?_
      · obtain rfl := Option.some.inj ho
        exact Or.inl ⟨by rfl, fun wx hSw => by go_simp⟩
      simp only [Act.put, List.setIfInBounds_toArray, List.set_cons_zero, List.set_cons_succ]
      refine take_at (i := 11) (d := some 6) (v := .bool false) rfl (by kernel_rfl) (by kernel_rfl) (by kernel_rfl) (fun _ _ _ h => h) (fun oi ho => ?_) ⟨HS5.out.gt, HS5.out.p⟩ ?_
      · obtain rfl := Option.some.inj ho
        exact Or.inl ⟨by rfl, fun wx hSw => by go_simp⟩
      simp only [Act.put, List.setIfInBounds_toArray, List.set_cons_zero, List.set_cons_succ]
      refine wpAnyH_done (by kernel_rfl) ?_ _
      refine NoPanic.normal ?_
      have s5 := HS5.out
      obtain ⟨c1, c2, c3, c4, c5⟩ := s5
      obtain ⟨Wr, hWr⟩ : ∃ Wr, Wr = W5.drew := ⟨_, rfl⟩
      have hBR : Below w.heap.size w Wr := by rw [hWr]; exact HB5.out.trans ((below_drew W5).mono HB5.out.size)
      have HSR : Hid (AddS g gt w.heap.size m p t k Wr) := Lib.hid (by rw [hWr]; exact HS5.out.below (below_drew W5))
      have HWR := Lib.hid hWr
      have hrm0 := rmap_made (P := Tryz.prog) (k := 9) Wr
      obtain ⟨W7, hrun7, hrm7, hg7⟩ := hrm0.update Tryz.underlying9 Tryz.underlying57 (by decide) (s := m) (by have := HM1.out; omega) ⟨m, p, k, t⟩
      have hB6 : Below w.heap.size w (Wr.alloc (.map #[] 0)) := hBR.alloc hBR.size _
      have hB7 : Below w.heap.size w W7 := below_grown hB6 hg7 (fun b hb => by have := Option.some.inj hb; have := hBR.size; omega) hB6.size
      have HB7 := Lib.hid hB7
      have HS6 : Hid (AddS g gt w.heap.size m p t k (Wr.alloc (.map #[] 0))) := Lib.hid (HSR.out.below ((Below.refl _ Wr).alloc (Nat.le_refl _) _))
      have HS7 : Hid (AddS g gt w.heap.size m p t k W7) := Lib.hid (HSR.out.below (below_grown ((Below.refl _ Wr).alloc (Nat.le_refl _) _) hg7 (fun b hb => by have := Option.some.inj hb; omega) (by simp)))
      have HR7 := Lib.hid hrun7
      have HC7 := Lib.hid (HADD.out W7 Wr.heap.size hB7 hBR.size hrm7)
      obtain ⟨mb, hmb⟩ : ∃ mb, mb = Wr.heap.size := ⟨_, rfl⟩
      rw [← hmb] at HR7 HC7
      have HMB := Lib.hid hmb
      clear hWr hBR hrm0 hrun7 hrm7 hg7 hB6 hB7 hmb
      go_wp2
      refine wp_region_noPanic ?_
      refine wp_region_held_drew (S := AddS g gt w.heap.size m p t k) (by kernel_rfl) (by rw [← HWR.out]; exact HSR.out) (fun _ => ?_)
      rw [← HWR.out]
      clear c1 c2 c3 c4 c5
      refine take_at (i := 0) (d := some 24) (v := .pointer (some ⟨g, 0, none⟩)) rfl (by kernel_rfl) (by kernel_rfl) (by kernel_rfl) (fun _ _ _ h => h) (fun oi ho => ?_) HSR.out ?_
      · obtain rfl := Option.some.inj ho
        exact Or.inl ⟨by rfl, fun wx hSw => by obtain ⟨hu1, hu2, hu3, hu4, hu5⟩ := hSw; go_simp⟩
      simp only [Act.put, List.setIfInBounds_toArray, List.set_cons_zero, List.set_cons_succ]
      refine take_at (i := 1) (d := some 25) (v := .pointer (some ⟨g, 0, none⟩)) rfl (by kernel_rfl) (by kernel_rfl) (by kernel_rfl) (fun _ _ _ h => h) (fun oi ho => ?_) HSR.out ?_
      · obtain rfl := Option.some.inj ho
        exact Or.inl ⟨by rfl, fun wx hSw => by obtain ⟨hu1, hu2, hu3, hu4, hu5⟩ := hSw; go_simp⟩
      simp only [Act.put, List.setIfInBounds_toArray, List.set_cons_zero, List.set_cons_succ]
      refine take_at (i := 2) (d := some 26) (v := .pointer (some ⟨g, 1, none⟩)) rfl (by kernel_rfl) (by kernel_rfl) (by kernel_rfl) (fun _ _ _ h => h) (fun oi ho => ?_) HSR.out ?_
      · obtain rfl := Option.some.inj ho
        exact Or.inl ⟨by rfl, fun wx hSw => by obtain ⟨hu1, hu2, hu3, hu4, hu5⟩ := hSw; go_simp⟩
      simp only [Act.put, List.setIfInBounds_toArray, List.set_cons_zero, List.set_cons_succ]
      refine take_at (i := 3) (d := some 27) (v := .pointer (some ⟨gt, 0, none⟩)) rfl (by kernel_rfl) (by kernel_rfl) (by kernel_rfl) (fun _ _ _ h => h) (fun oi ho => ?_) HSR.out ?_
      · obtain rfl := Option.some.inj ho
        exact Or.inl ⟨by rfl, fun wx hSw => by obtain ⟨hu1, hu2, hu3, hu4, hu5⟩ := hSw; go_simp⟩
      simp only [Act.put, List.setIfInBounds_toArray, List.set_cons_zero, List.set_cons_succ]
      refine take_at (i := 4) (d := some 28) (v := .pointer (some ⟨w.heap.size, 1, none⟩)) rfl (by kernel_rfl) (by kernel_rfl) (by kernel_rfl) (fun _ _ _ h => h) (fun oi ho => ?_) HSR.out ?_
      · obtain rfl := Option.some.inj ho
        exact Or.inl ⟨by rfl, fun wx hSw => by obtain ⟨hu1, hu2, hu3, hu4, hu5⟩ := hSw; go_simp⟩
      simp only [Act.put, List.setIfInBounds_toArray, List.set_cons_zero, List.set_cons_succ]
      refine take_at (i := 5) (d := some 29) (v := S p) rfl (by kernel_rfl) (by kernel_rfl) (by kernel_rfl) (fun _ _ _ h => h) (fun oi ho => ?_) HSR.out ?_
      · obtain rfl := Option.some.inj ho
        exact Or.inl ⟨by rfl, fun wx hSw => by obtain ⟨hu1, hu2, hu3, hu4, hu5⟩ := hSw; go_simp⟩
      simp only [Act.put, List.setIfInBounds_toArray, List.set_cons_zero, List.set_cons_succ]
      refine take_at (i := 7) (d := some 31) (v := .pointer (some ⟨w.heap.size, 0, none⟩)) rfl (by kernel_rfl) (by kernel_rfl) (by kernel_rfl) (fun _ _ _ h => h) (fun oi ho => ?_) HSR.out ?_
      · obtain rfl := Option.some.inj ho
        exact Or.inl ⟨by rfl, fun wx hSw => by obtain ⟨hu1, hu2, hu3, hu4, hu5⟩ := hSw; go_simp⟩
      simp only [Act.put, List.setIfInBounds_toArray, List.set_cons_zero, List.set_cons_succ]
      refine take_at (i := 8) (d := some 32) (v := S m) rfl (by kernel_rfl) (by kernel_rfl) (by kernel_rfl) (fun _ _ _ h => h) (fun oi ho => ?_) HSR.out ?_
      · obtain rfl := Option.some.inj ho
        exact Or.inl ⟨by rfl, fun wx hSw => by obtain ⟨hu1, hu2, hu3, hu4, hu5⟩ := hSw; go_simp⟩
      simp only [Act.put, List.setIfInBounds_toArray, List.set_cons_zero, List.set_cons_succ]
      refine take_at (i := 9) (d := some 33) (v := .agg #[S m, S p, .int .i64 k, S t]) rfl (by kernel_rfl) (by kernel_rfl) (by kernel_rfl) (fun _ _ _ h => h) (fun oi ho => ?_) HSR.out ?_
      · obtain rfl := Option.some.inj ho
        exact Or.inl ⟨by rfl, fun wx hSw => by obtain ⟨hu1, hu2, hu3, hu4, hu5⟩ := hSw; go_simp⟩
      simp only [Act.put, List.setIfInBounds_toArray, List.set_cons_zero, List.set_cons_succ]
      refine ready_value (i := 6) (d := some 30) (v := .map (some mb)) (w' := Wr.alloc (.map #[] 0)) rfl (by kernel_rfl) (fun oi ho => ?_) HS6.out ?_
      · obtain rfl := Option.some.inj ho
        exact ⟨by rfl, by rw [HMB.out]; exact exec_makeM 57 rfl⟩
      simp only [Act.put, List.setIfInBounds_toArray, List.set_cons_zero, List.set_cons_succ]
      refine ready_skip (i := 10) (d := none) (w' := W7) rfl (by kernel_rfl) (fun oi ho => ?_) HS7.out ?_
      · obtain rfl := Option.some.inj ho
        exact ⟨by rfl, exec_insertR 57 (.tmp 30) (.tmp 32) (.tmp 33) rfl HR7.out⟩
      refine take_at (i := 11) (d := some 34) (v := .map (some mb)) rfl (by kernel_rfl) (by kernel_rfl) (by kernel_rfl) (fun _ _ _ h => h) (fun oi ho => ?_) HS7.out ?_
      · obtain rfl := Option.some.inj ho
        exact Or.inl ⟨by rfl, fun wx hSw => by go_simp⟩
      simp only [Act.put, List.setIfInBounds_toArray, List.set_cons_zero, List.set_cons_succ]
      refine ready_call (i := 12) (d := some 35) (f := 39) (args := #[.pointer (some ⟨gt, 0, none⟩), S p, .map (some mb)]) rfl (by kernel_rfl) (fun oi ho => ?_) ?_
      · obtain rfl := Option.some.inj ho
        exact ⟨by rfl, by go_simp⟩
      refine (HC7.out).mono ?_
      rintro e W8 ⟨n, rfl, hpo, hk8⟩
      have HP8 := Lib.hid hpo
      have HS8 : Hid (AddS g gt w.heap.size m p t k W8) := Lib.hid (HS7.out.same (hk8 g (World.block_lt_of_cell? W7 _ HS7.out.gt) HGF.out.1) (hk8 w.heap.size (World.block_lt_of_cell? W7 _ HS7.out.m) HGF.out.2))
      clear hpo hk8
      refine ⟨_, rfl, HS8.out, ?_⟩
      simp only [Act.put, List.setIfInBounds_toArray, List.set_cons_zero, List.set_cons_succ]
      refine take_at (i := 13) (d := some 4) (v := .int .i64 (n : Int)) rfl (by kernel_rfl) (by kernel_rfl) (by kernel_rfl) (fun _ _ _ h => h) (fun oi ho => ?_) HS8.out ?_
      · obtain rfl := Option.some.inj ho
        exact Or.inl ⟨by rfl, fun wx hSw => by go_simp⟩
      simp only [Act.put, List.setIfInBounds_toArray, List.set_cons_zero, List.set_cons_succ]
      refine wpAnyH_done (by kernel_rfl) ?_ _
      refine NoPanic.normal ?_
      go_wp2
      first | (go_ret; exact HP8.out) | exact HP8.out
    | some x =>
      rw [hg] at HG
      have hx : (r.p, x) ∈ ents := by
        unfold getE at hg
        rw [Option.map_eq_some_iff] at hg
        obtain ⟨e, he, rfl⟩ := hg
        have h1 := List.mem_of_find?_eq_some he
        have h2 : e.1 = r.p := by simpa using List.find?_some he
        rw [← h2]; exact h1
      obtain ⟨mb, hmb, -, -⟩ := H.out.maps _ hx
      dsimp only at hmb
      subst hmb
      have hcl := clash_there H.out.wf H.out.pats ⟨_, hx, rfl⟩
      have HRM : Hid (∀ W, Below w.heap.size w W → RMap Tryz.prog 9 W mb l.length (fun s => pickR l r.p s)) := Lib.hid fun W hB => by
        obtain ⟨m', e2, -, hr⟩ := (H.out.below hB).maps _ hx
        rw [Option.some.inj e2]; exact hr
      have HLK : Hid (∀ W, Below w.heap.size w W → (Instr.lookup 57 (.map (some mb)) (S r.m) true).run Tryz.prog W = .ok (.tuple #[rtV ((pickR l r.p r.m).getD rt0), .bool (pickR l r.p r.m).isSome]) W) := Lib.hid fun W hB => look_any (HRM.out W hB) r.m (by have := HM1.out; omega)
      obtain ⟨q, hq⟩ : ∃ q, q = (pickR l r.p r.m).getD rt0 := ⟨_, rfl⟩
      obtain ⟨tw, htw⟩ : ∃ tw, tw = (pickR l r.p r.m).isSome := ⟨_, rfl⟩
      rw [← hq, ← htw] at HLK
      rw [← htw] at hcl
      have HTW := Lib.hid htw
      have HX := Lib.hid hx
      obtain ⟨q1, q2, q3, q4⟩ := q
      have HYES : Hid (tw = true → ∀ W, Below w.heap.size w W → PO (.returned (.int .i64 5)) W) := Lib.hid fun ht W hB => by
        rw [HPO.out]
        exact AddIs.no (n := 5) (by unfold addGo; rw [← HRB.out, hcl, ht]; rfl) (by decide) H.out hB
      have HNO : Hid (tw = false → ∀ W W', Below w.heap.size w W → W.grownBy W' (some mb) → RMap Tryz.prog 9 W' mb (l.length + 1) (updR (fun s => pickR l r.p s) r.m r) → PO (.returned (.int .i64 0)) W') := Lib.hid fun ht W W' hB hg hr => by
        have hn : pickR l r.p r.m = none := by
          cases hp : pickR l r.p r.m with
          | none => rfl
          | some _ => have := HTW.out; rw [ht, hp] at this; cases this
        have hgo : addGo l r = 0 := by unfold addGo; rw [← HRB.out, hcl, ht]; rfl
        obtain ⟨k1, k2⟩ := (H.out.below hB).put r HX.out hn hg hr
        rw [HPO.out]
        exact ⟨by rw [hgo]; rfl, T, ents, by rw [if_pos hgo]; exact k1, (Moves.of_below hB).trans k2⟩
      clear hg hx hcl hq htw hre
      obtain ⟨m, p, k, t⟩ := r
      unfold rtV rtC at *
      dsimp only at *
      go_enter Tryz.func25, Tryz.ntmps25
      go_wp2_with fail
      refine HRT.out.mono ?_
      rintro e W ⟨rfl, hB⟩
      have HSW := Lib.hid (HS1.out.below hB)
      have HBW := Lib.hid (HB1.out.trans (hB.mono HB1.out.size))
      have s0 := HSW.out
      obtain ⟨c1, c2, c3, c4, c5⟩ := s0
      obtain ⟨Wq, hWq⟩ : ∃ Wq, Wq = W.drew := ⟨_, rfl⟩
      have HBQ : Hid (Below w.heap.size w Wq) := Lib.hid (by rw [hWq]; exact HBW.out.trans ((below_drew W).mono HBW.out.size))
      have HSQ : Hid (AddS g gt w.heap.size m p t k Wq) := Lib.hid (by rw [hWq]; exact HSW.out.below (below_drew W))
      have HWQ := Lib.hid hWq
      clear hB hWq
      go_wp2
      refine wp_region_noPanic ?_
      refine wp_region_held_drew (S := fun wx => wx.cell? ⟨g, 1, none⟩ = some (.pointer (some ⟨gt, 0, none⟩)) ∧ wx.cell? ⟨w.heap.size, 1, none⟩ = some (S p)) (by kernel_rfl) ⟨c1, c3⟩ (fun _ => ?_)
      rw [← HWQ.out]
      clear c1 c2 c3 c4 c5
      refine take_at (i := 0) (d := some 13) (v := .pointer (some ⟨g, 0, none⟩)) rfl (by kernel_rfl) (by kernel_rfl) (by kernel_rfl) (fun _ _ _ h => h) (fun oi ho => ?_) ⟨HSQ.out.gt, HSQ.out.p⟩ ?_
      · obtain rfl := Option.some.inj ho
        exact Or.inl ⟨by rfl, fun wx hSw => by obtain ⟨hu1, hu2⟩ := hSw; go_simp⟩
      simp only [Act.put, List.setIfInBounds_toArray, List.set_cons_zero, List.set_cons_succ]
      refine take_at (i := 1) (d := some 14) (v := .pointer (some ⟨g, 0, none⟩)) rfl (by kernel_rfl) (by kernel_rfl) (by kernel_rfl) (fun _ _ _ h => h) (fun oi ho => ?_) ⟨HSQ.out.gt, HSQ.out.p⟩ ?_
      · obtain rfl := Option.some.inj ho
        exact Or.inl ⟨by rfl, fun wx hSw => by obtain ⟨hu1, hu2⟩ := hSw; go_simp⟩
      simp only [Act.put, List.setIfInBounds_toArray, List.set_cons_zero, List.set_cons_succ]
      refine take_at (i := 2) (d := some 15) (v := .pointer (some ⟨g, 1, none⟩)) rfl (by kernel_rfl) (by kernel_rfl) (by kernel_rfl) (fun _ _ _ h => h) (fun oi ho => ?_) ⟨HSQ.out.gt, HSQ.out.p⟩ ?_
      · obtain rfl := Option.some.inj ho
        exact Or.inl ⟨by rfl, fun wx hSw => by obtain ⟨hu1, hu2⟩ := hSw; go_simp⟩
      simp only [Act.put, List.setIfInBounds_toArray, List.set_cons_zero, List.set_cons_succ]
      refine take_at (i := 3) (d := some 16) (v := .pointer (some ⟨gt, 0, none⟩)) rfl (by kernel_rfl) (by kernel_rfl) (by kernel_rfl) (fun _ _ _ h => h) (fun oi ho => ?_) ⟨HSQ.out.gt, HSQ.out.p⟩ ?_
      · obtain rfl := Option.some.inj ho
        exact Or.inl ⟨by rfl, fun wx hSw => by obtain ⟨hu1, hu2⟩ := hSw; go_simp⟩
      simp only [Act.put, List.setIfInBounds_toArray, List.set_cons_zero, List.set_cons_succ]
      refine take_at (i := 4) (d := some 17) (v := .pointer (some ⟨w.heap.size, 1, none⟩)) rfl (by kernel_rfl) (by kernel_rfl) (by kernel_rfl) (fun _ _ _ h => h) (fun oi ho => ?_) ⟨HSQ.out.gt, HSQ.out.p⟩ ?_
      · obtain rfl := Option.some.inj ho
        exact Or.inl ⟨by rfl, fun wx hSw => by obtain ⟨hu1, hu2⟩ := hSw; go_simp⟩
      simp only [Act.put, List.setIfInBounds_toArray, List.set_cons_zero, List.set_cons_succ]
      refine take_at (i := 5) (d := some 18) (v := S p) rfl (by kernel_rfl) (by kernel_rfl) (by kernel_rfl) (fun _ _ _ h => h) (fun oi ho => ?_) ⟨HSQ.out.gt, HSQ.out.p⟩ ?_
      · obtain rfl := Option.some.inj ho
        exact Or.inl ⟨by rfl, fun wx hSw => by obtain ⟨hu1, hu2⟩ := hSw; go_simp⟩
      simp only [Act.put, List.setIfInBounds_toArray, List.set_cons_zero, List.set_cons_succ]
      refine ready_call (i := 6) (d := some 19) (f := 38) (args := #[.pointer (some ⟨gt, 0, none⟩), S p]) rfl (by kernel_rfl) (fun oi ho => ?_) ?_
      · obtain rfl := Option.some.inj ho
        exact ⟨by rfl, by go_simp⟩
      refine (HG.out Wq HBQ.out).mono ?_
      rintro e W5 ⟨rfl, hB5⟩
      have HB5 := Lib.hid (HBQ.out.trans (hB5.mono HBQ.out.size))
      have HS5 := Lib.hid (HSQ.out.below hB5)
      clear hB5
      refine ⟨_, rfl, ⟨HS5.out.gt, HS5.out.p⟩, ?_⟩
      simp only [Act.put, List.setIfInBounds_toArray, List.set_cons_zero, List.set_cons_succ]
      refine take_at (i := 7) (d := some 12) (v := .tuple #[.map (some mb), .bool true]) rfl (by kernel_rfl) (by kernel_rfl) (by kernel_rfl) (fun _ _ _ h => h) (fun oi ho => ?_) ⟨HS5.out.gt, HS5.out.p⟩ ?_
      · obtain rfl := Option.some.inj ho
        exact Or.inl ⟨by rfl, fun wx hSw => by go_simp⟩
      simp only [Act.put, List.setIfInBounds_toArray, List.set_cons_zero, List.set_cons_succ]
      refine take_at (i := 8) (d := some 20) (v := .map (some mb)) rfl (by kernel_rfl) (by kernel_rfl) (by kernel_rfl) (fun _ _ _ h => h) (fun oi ho => ?_) ⟨HS5.out.gt, HS5.out.p⟩ ?_
      · obtain rfl := Option.some.inj ho
        exact Or.inl ⟨by rfl, fun wx hSw => by go_simp⟩
      simp only [Act.put, List.setIfInBounds_toArray, List.set_cons_zero, List.set_cons_succ]
      refine take_at (i := 9) (d := some 21) (v := .bool true) rfl (by kernel_rfl) (by kernel_rfl) (by kernel_rfl) (fun _ _ _ h => h) (fun oi ho => ?_) ⟨HS5.out.gt, HS5.out.p⟩ ?_
      · obtain rfl := Option.some.inj ho
        exact Or.inl ⟨by rfl, fun wx hSw => by go_simp⟩
      simp only [Act.put, List.setIfInBounds_toArray, List.set_cons_zero, List.set_cons_succ]
      refine take_at (i := 10) (d := some 5) (v := .map (some mb)) rfl (by kernel_rfl) (by kernel_rfl) (by kernel_rfl) (fun _ _ _ h => h) (fun oi ho => ?_) ⟨HS5.out.gt, HS5.out.p⟩ ?_
      · obtain rfl := Option.some.inj ho
        exact Or.inl ⟨by rfl, fun wx hSw => by go_simp⟩
      simp only [Act.put, List.setIfInBounds_toArray, List.set_cons_zero, List.set_cons_succ]
      refine take_at (i := 11) (d := some 6) (v := .bool true) rfl (by kernel_rfl) (by kernel_rfl) (by kernel_rfl) (fun _ _ _ h => h) (fun oi ho => ?_) ⟨HS5.out.gt, HS5.out.p⟩ ?_
      · obtain rfl := Option.some.inj ho
        exact Or.inl ⟨by rfl, fun wx hSw => by go_simp⟩
      simp only [Act.put, List.setIfInBounds_toArray, List.set_cons_zero, List.set_cons_succ]
      refine wpAnyH_done (by kernel_rfl) ?_ _
      refine NoPanic.normal ?_
      have s5 := HS5.out
      obtain ⟨c1, c2, c3, c4, c5⟩ := s5
      have l5 := HLK.out W5 HB5.out
      have HB6 : Hid (Below w.heap.size w (W5.alloc (.cells #[S q1, S q2, .int .i64 q3, S q4] 40))) := Lib.hid (HB5.out.alloc HB5.out.size _)
      cases tw with
      | true =>
        go_wp2
        first | (go_ret; exact HYES.out (by simp) _ HB6.out) | exact HYES.out (by simp) _ HB6.out
      | false =>
        have HRM6 := Lib.hid (HRM.out _ HB6.out)
        have s6 := HS5.out.below ((Below.refl _ W5).alloc (Nat.le_refl _) (.cells #[S q1, S q2, .int .i64 q3, S q4] 40))
        obtain ⟨d1, d2, d3, d4, d5⟩ := s6
        go_wp2_with (first
          | (at_mapUpdate; refine wpList_putR Tryz.underlying9 Tryz.underlying57 rfl _ _ _ rfl rfl HRM6.out (by have := HL.out; omega) m rfl (by have := HM1.out; omega) ⟨m, p, k, t⟩ rfl ?_; intro w5 h5 h6; have H5 := Lib.hid (HNO.out (by simp) _ w5 HB6.out h6 h5); clear h5 h6)
          | fail)
        first | (go_ret; exact H5.out) | exact H5.out

end Go.Proofs.YtendejpkdjkmnaaGreatDoor
/- Rows of routes of one's own that grow, two side by side; routes turned round (stage 14). -/
namespace Go.Proofs.YtendejpkdjkmnaaGreatDoor
open Go.RowKit
attribute [local go_sem] store_one S_match S_store

def GR (base : Nat) (V : Value) (l : List Rt) (w : World) : Prop := w.ownsRow base 40 4 V l.length (rtCells l)
theorem rtCells_len (l : List Rt) : (rtCells l).length = l.length * 4 := by
  unfold rtCells
  induction l with
  | nil => rfl
  | cons s r ih => rw [List.flatMap_cons, List.length_append, ih, List.length_cons]; simp [rtC]; omega
theorem rtCells_snoc (l : List Rt) (s : Rt) : rtCells (l ++ [s]) = rtCells l ++ (rtC s).toList := by
  unfold rtCells; rw [List.flatMap_append]; simp
theorem eleRt : EleK Tryz.prog 40 4 := eleK_of (z := .agg #[.string ⟨#[]⟩, .string ⟨#[]⟩, .int .i64 0, .string ⟨#[]⟩]) (n := 56) (by kernel_rfl) (by decide) rfl
theorem gr_nil (base : Nat) (w : World) : GR base (.slice none 0 0) [] w := ⟨rfl, .inl ⟨rfl, rfl⟩⟩
theorem GR.roa {base : Nat} {V : Value} {l : List Rt} {w : World} (h : GR base V l w) : ∃ g, RoA w V l g 0 := by
  unfold GR at h
  rcases h.2 with ⟨rfl, h0⟩ | ⟨g, cap, cur, rfl, hb, hg, hn, hm, hs, ht⟩
  · have : l = [] := List.length_eq_zero_iff.1 h0
    subst this
    exact ⟨0, roa_nil w⟩
  · refine ⟨g, ⟨fun T w' => lenRt _ _ _ T w', fun i hi w' => indexRt g 0 _ cap i hi w', fun i s hs' j v hv => ?_, ⟨_, _, rfl, hn, fun _ => rfl⟩⟩⟩
    have h1 := rtCells_get l i s hs' j v hv
    rw [← ht, List.getElem?_take] at h1
    rw [Nat.zero_add, cell_of_row w g _ cur 40 (0, 0) hg]
    split at h1
    · simpa using h1
    · cases h1
theorem GR.own_lo {base : Nat} {V : Value} {l : List Rt} {w : World} (h : GR base V l w) {k : Nat} (hk : V.ownBlock = some k) : base ≤ k ∧ k < w.heap.size := by
  unfold GR at h
  rcases h.2 with ⟨h0, _⟩ | ⟨g, cap, cur, h1, h2, h3, h4⟩
  · rw [h0] at hk; cases hk
  · rw [h1] at hk; injection hk with hk; subst hk; exact ⟨h2, (Array.getElem?_eq_some_iff.1 h3).1⟩
/-- Two rows of one's own, in blocks apart. -/
structure TwoR (w0 : World) (Va : Value) (la : List Rt) (Vb : Value) (lb : List Rt) (w : World) : Prop where
  a : GR w0.heap.size Va la w
  b : GR w0.heap.size Vb lb w
  apart : ∀ j, Va.ownBlock = some j → Vb.ownBlock ≠ some j
  bel : Below w0.heap.size w0 w
theorem TwoR.swap {w0 : World} {Va : Value} {la : List Rt} {Vb : Value} {lb : List Rt} {w : World} (h : TwoR w0 Va la Vb lb w) : TwoR w0 Vb lb Va la w :=
  ⟨h.b, h.a, fun j hj e => h.apart j e hj, h.bel⟩
theorem twoR_nil (w : World) : TwoR w (.slice none 0 0) [] (.slice none 0 0) [] w := ⟨gr_nil _ _, gr_nil _ _, fun j hj => (by cases hj), Below.refl _ _⟩
theorem TwoR.grow {w0 : World} {Va : Value} {la : List Rt} {Vb : Value} {lb : List Rt} {w w' : World} (h : TwoR w0 Va la Vb lb w) (s : Rt) {g c n : Nat}
    (ho : w'.ownsRow w0.heap.size 40 4 (.slice (some ⟨g, 0, none⟩) (n + 1) c) (n + 1) (rtCells la ++ (rtC s).toList)) (hn : n = la.length) (hg : w.grownBy w' Va.ownBlock) (hw : Va.ownBlock = some g ∨ w.heap.size ≤ g) :
    TwoR w0 (.slice (some ⟨g, 0, none⟩) (n + 1) c) (la ++ [s]) Vb lb w' := by
  refine ⟨?_, ?_, fun j hj e => ?_, below_grown h.bel hg (fun k hk => (h.a.own_lo hk).1) h.bel.size⟩
  · unfold GR
    rw [rtCells_snoc, List.length_append, ← hn]; exact ho
  · exact own_same h.b fun j hj => hg.block j (h.b.own_lo hj).2 fun e => h.apart j e.symm hj
  · have hj' : some g = some j := hj
    injection hj' with hj'
    subst hj'
    rcases hw with hw | hw
    · exact h.apart _ hw e
    · have := (h.b.own_lo e).2; omega
/-! Routes turned round. -/
def rotU (k : Nat) (l : List Rt) : List Rt := l.drop k ++ l.take k
theorem rotU_perm (k : Nat) (l : List Rt) : l.Perm (rotU k l) := by
  unfold rotU
  refine List.Perm.trans ?_ List.perm_append_comm
  rw [List.take_append_drop]
theorem rotU_len (k : Nat) (l : List Rt) : (rotU k l).length = l.length := (rotU_perm k l).length_eq.symm
theorem rotU_get {k i : Nat} {l : List Rt} (hk : k < l.length) (hi : i < l.length) : (rotU k l)[i]? = l[(i + k) % l.length]? := by
  unfold rotU
  by_cases h : i < l.length - k
  · rw [List.getElem?_append_left (by rw [List.length_drop]; exact h), List.getElem?_drop, Nat.mod_eq_of_lt (by omega), Nat.add_comm]
  · rw [List.getElem?_append_right (by rw [List.length_drop]; omega), List.length_drop, List.getElem?_take, if_pos (by omega)]
    congr 1
    rw [show i + k = (i - (l.length - k)) + l.length by omega, Nat.add_mod_right, Nat.mod_eq_of_lt (by omega)]
theorem tmod_rangeU (t : Int) {n : Nat} (hn : 0 < n) : -(n : Int) < t.tmod n ∧ t.tmod n < n := by
  have h1 := Int.tmod_lt_of_pos t (show (0 : Int) < n by omega)
  have h2 := Int.lt_tmod_of_pos t (show (0 : Int) < n by omega)
  exact ⟨h2, h1⟩
theorem SmallRo.perm {l l' : List Rt} (h : SmallRo l) (hp : l.Perm l') : SmallRo l' := ⟨by rw [← hp.length_eq]; exact h.1, fun s hs => h.2 s (hp.mem_iff.2 hs)⟩
theorem new_perm {l l' : List Rt} (h : newF l = 0) (hp : l.Perm l') : newF l' = 0 := (new_good l').2 (((new_good l).1 h).perm hp)
theorem serve_few {l : List Rt} {rm path body : Txt} {x : Rp} (h : ServeIs l rm path body x) : x.fs.length ≤ 1 := by
  unfold ServeIs at h
  cases hs : segsOf path with
  | none => rw [hs] at h; rw [h]; simp
  | some segs =>
    rw [hs] at h
    obtain ⟨o, _, h⟩ := h
    cases o with
    | none =>
      have h : x = ⟨404, [], notFoundT, 0⟩ := h
      rw [h]; simp
    | some p =>
      rw [serveAt_some] at h
      cases hr : routeR l p rm with
      | some r =>
        rw [hr] at h
        dsimp only at h
        rw [h]
        unfold answerR
        split
        · simp
        · split
          · simp
          · split <;> simp
      | none =>
        rw [hr] at h
        obtain ⟨s, _, h⟩ := h
        rw [h]; simp
end Go.Proofs.YtendejpkdjkmnaaGreatDoor
/- Texts with a comma and a blank behind each; what RouterAllows asks of answers (stage 14). -/
namespace Go.Proofs.YtendejpkdjkmnaaGreatDoor
open Go.RowKit

theorem less_lt : ∀ a b : Txt, Op.bytesLess a b = ltT a b
  | [], [] => rfl
  | [], _ :: _ => rfl
  | _ :: _, [] => rfl
  | a :: x, b :: y => by
    rw [Op.bytesLess, ltT, less_lt x y]
    by_cases h : a < b
    · rw [if_pos h, decide_eq_true h, Bool.true_or]
    · rw [if_neg h, decide_eq_false h, Bool.false_or]
      by_cases h2 : b < a
      · rw [if_pos h2]
        have : a ≠ b := fun e => by rw [e] at h2; exact absurd h2 (by simp)
        rw [beq_eq_false_iff_ne.2 this, Bool.false_and]
      · rw [if_neg h2]
        have : a = b := by
          have h : ¬ a.toNat < b.toNat := h
          have h2 : ¬ b.toNat < a.toNat := h2
          exact UInt8.toNat_inj.1 (by omega)
        rw [this, beq_self_eq_true, Bool.true_and]
def sepA (ms : List Txt) : Txt := ms.flatMap fun m => m ++ [44, 32]
theorem sep_rest (l : List Txt) : (l.flatMap fun y => 44 :: 32 :: y) ++ [44, 32] = [44, 32] ++ sepA l := by
  induction l with
  | nil => rfl
  | cons m l ih =>
    unfold sepA at ih ⊢
    rw [List.flatMap_cons, List.flatMap_cons, List.append_assoc, ih]
    simp
theorem joinA_sep {ms : List Txt} (h : ms ≠ []) : joinA ms ++ [44, 32] = sepA ms := by
  cases ms with
  | nil => exact absurd rfl h
  | cons m l =>
    unfold joinA
    rw [List.append_assoc, sep_rest]
    unfold sepA
    rw [List.flatMap_cons, List.append_assoc]
def offA (ms : List Txt) (i : Nat) : Nat := (sepA (ms.take i)).length
theorem sepA_append (a b : List Txt) : sepA (a ++ b) = sepA a ++ sepA b := by unfold sepA; rw [List.flatMap_append]
theorem off_next {ms : List Txt} {i : Nat} {m : Txt} (h : ms[i]? = some m) : offA ms (i + 1) = offA ms i + m.length + 2 := by
  unfold offA
  rw [List.take_add_one, h, sepA_append, List.length_append]
  have : sepA (some m).toList = m ++ [44, 32] := by simp [sepA]
  rw [this, List.length_append]
  simp only [List.length_cons, List.length_nil]
  omega
theorem off_all (ms : List Txt) : offA ms ms.length = (sepA ms).length := by unfold offA; rw [List.take_length]
theorem sep_drop {ms : List Txt} {i : Nat} {m : Txt} (h : ms[i]? = some m) : (sepA ms).drop (offA ms i) = m ++ 44 :: 32 :: sepA (ms.drop (i + 1)) := by
  have e : sepA ms = sepA (ms.take i) ++ (m ++ [44, 32] ++ sepA (ms.drop (i + 1))) := by
    obtain ⟨hi, rfl⟩ := List.getElem?_eq_some_iff.1 h
    have h1 : ms = ms.take i ++ (ms[i] :: ms.drop (i + 1)) := by rw [List.getElem_cons_drop]; exact (List.take_append_drop i ms).symm
    have h2 : sepA (ms[i] :: ms.drop (i + 1)) = ms[i] ++ [44, 32] ++ sepA (ms.drop (i + 1)) := by unfold sepA; rw [List.flatMap_cons]
    rw [← h2, ← sepA_append, ← h1]
  rw [e]
  unfold offA
  rw [List.drop_left]
  simp
theorem sep_get {ms : List Txt} {i : Nat} {m : Txt} (h : ms[i]? = some m) (j : Nat) : (sepA ms)[offA ms i + j]? = (m ++ 44 :: 32 :: sepA (ms.drop (i + 1)))[j]? := by
  rw [← sep_drop h, List.getElem?_drop]
theorem off_lt {ms : List Txt} {i : Nat} (h : i < ms.length) : offA ms i + 2 ≤ (sepA ms).length := by
  have h1 := sep_drop (List.getElem?_eq_getElem h)
  have h2 := congrArg List.length h1
  rw [List.length_drop, List.length_append, List.length_cons, List.length_cons] at h2
  omega
theorem off_end {ms : List Txt} {i : Nat} {m : Txt} (h : ms[i]? = some m) : offA ms i + m.length + 2 ≤ (sepA ms).length := by
  have h2 := congrArg List.length (sep_drop h)
  rw [List.length_drop, List.length_append, List.length_cons, List.length_cons] at h2
  omega
theorem tok_plain {m : Txt} (h : tokF m = true) : m ≠ [] ∧ ∀ c ∈ m, c ≠ 44 := by
  unfold tokF at h
  rw [Bool.and_eq_true, List.all_eq_true, decide_eq_true_eq] at h
  refine ⟨fun e => by rw [e] at h; simp at h, fun c hc e => ?_⟩
  have h1 := h.1 c hc
  rw [e] at h1
  exact absurd h1 (by decide +kernel)
/-- A method that is told is a token, not long. -/
theorem told_tok {l : List Rt} {p m : Txt} (hg : GoodR l) (hm : toldR l p m) : tokF m = true := by
  rcases hm with ⟨r, hr, _, rfl⟩ | ⟨rfl, _⟩
  · have := hg.right r hr
    unfold rightR at this
    rw [Bool.and_eq_true] at this
    exact this.1
  · decide +kernel
/-- A method that is told is served. -/
theorem told_served {l : List Rt} {p m : Txt} {path body : Txt} {segs : List Txt} {x : Rp} (hg : GoodR l) (hs : segsOf path = some segs) (hb : BestP l segs (some p)) (hm : toldR l p m) (h : ServeIs l m path body x) : x.kind ≠ 0 ∧ (x.code = 200 ∨ x.code = 101) ∧ x.fs = [] := by
  unfold ServeIs at h
  rw [hs] at h
  obtain ⟨o, hb', h⟩ := h
  obtain rfl := bestP_one hb hb'
  rw [serveAt_some] at h
  have hr : ∃ r, routeR l p m = some r ∧ r ∈ l := by
    rcases hm with ⟨r, hr, e1, e2⟩ | ⟨rfl, r, hr, e1, e2⟩
    · refine ⟨r, ?_, hr⟩
      unfold routeR
      rw [pickR_of hg.apart hr (isRt_iff.2 ⟨e1, e2⟩)]; rfl
    · cases hp : pickR l p headT with
      | some q =>
        refine ⟨q, ?_, (pickR_some hp).1⟩
        unfold routeR; rw [hp]; rfl
      | none =>
        refine ⟨r, ?_, hr⟩
        unfold routeR
        rw [hp, if_pos rfl, pickR_of hg.apart hr (isRt_iff.2 ⟨e1, e2⟩)]; rfl
  obtain ⟨r, hr, hmem⟩ := hr
  rw [hr] at h
  dsimp only at h
  rw [h]
  unfold answerR
  split
  · exact ⟨by simp, .inl rfl, rfl⟩
  · split
    · exact ⟨by simp, .inl rfl, rfl⟩
    · split
      · exact ⟨by simp, .inl rfl, rfl⟩
      · exact ⟨by simp, .inr rfl, rfl⟩
/-- HEAD answers what GET answers, where it has no route of its own. -/
theorem head_get {l : List Rt} {path body : Txt} {x : Rp} (hn : ∀ r ∈ l, r.m ≠ headT) (h : ServeIs l getT path body x) : ServeIs l headT path body x := by
  unfold ServeIs at h ⊢
  cases hs : segsOf path with
  | none => rw [hs] at h; exact h
  | some segs =>
    rw [hs] at h
    obtain ⟨o, hb, h⟩ := h
    refine ⟨o, hb, ?_⟩
    cases o with
    | none => exact h
    | some p =>
      rw [serveAt_some] at h ⊢
      have e : routeR l p headT = routeR l p getT := by
        unfold routeR
        have : pickR l p headT = none := by
          cases hp : pickR l p headT with
          | none => rfl
          | some q =>
            obtain ⟨h1, _, h3⟩ := pickR_some hp
            exact absurd h3 (hn q h1)
        rw [this, if_pos rfl, if_neg (by decide)]
        cases pickR l p getT <;> rfl
      rw [e]; exact h
/-- What is answered to a method that no route has. -/
theorem serve_noSuch {l : List Rt} {m path body : Txt} {x : Rp} (hn : ∀ r ∈ l, r.m ≠ m) (hh : m ≠ headT) (h : ServeIs l m path body x) :
    ((x.code = 400 ∨ x.code = 404) ∧ x.fs = [] ∧ x.kind = 0) ∨ ∃ segs p ms, segsOf path = some segs ∧ BestP l segs (some p) ∧ Rising ms ∧ (∀ k, k ∈ ms ↔ toldR l p k) ∧ ms ≠ [] ∧ x = ⟨405, [(allowT, joinA ms)], noSuchT, 0⟩ := by
  unfold ServeIs at h
  cases hs : segsOf path with
  | none => rw [hs] at h; rw [h]; exact .inl ⟨.inl rfl, rfl, rfl⟩
  | some segs =>
    rw [hs] at h
    obtain ⟨o, hb, h⟩ := h
    cases o with
    | none =>
      have h : x = ⟨404, [], notFoundT, 0⟩ := h
      rw [h]; exact .inl ⟨.inr rfl, rfl, rfl⟩
    | some p =>
      rw [serveAt_some] at h
      have e : routeR l p m = none := by
        unfold routeR
        rw [if_neg hh]
        cases hp : pickR l p m with
        | none => rfl
        | some q =>
          obtain ⟨h1, _, h3⟩ := pickR_some hp
          exact absurd h3 (hn q h1)
      rw [e] at h
      obtain ⟨s, ⟨ms, h1, h2, rfl⟩, h⟩ := h
      refine .inr ⟨segs, p, ms, rfl, hb, h1, h2, fun e => ?_, h⟩
      obtain ⟨⟨r, hr, hp⟩, _⟩ := hb
      have := (h2 r.m).2 (.inl ⟨r, hr, hp, rfl⟩)
      rw [e] at this; cases this
end Go.Proofs.YtendejpkdjkmnaaGreatDoor
/- RouterKnown's rows, reckoned out (stage 14). -/
namespace Go.Proofs.YtendejpkdjkmnaaGreatDoor
open Go.RowKit

structure KnR where
  m : Txt
  p : Txt
  b : Txt
  segs : Option (List Txt)
  ms : List Txt
  o : Option Txt
  x : Rp
def eqRp (a b : Rp) : Bool := a.code == b.code && (a.fs == b.fs && (a.body == b.body && a.kind == b.kind))
theorem eqRp_eq {a b : Rp} (h : eqRp a b = true) : a = b := by
  unfold eqRp at h
  rw [Bool.and_eq_true, Bool.and_eq_true, Bool.and_eq_true, beq_iff_eq, beq_iff_eq, beq_iff_eq, beq_iff_eq] at h
  obtain ⟨a1, a2, a3, a4⟩ := a
  obtain ⟨b1, b2, b3, b4⟩ := b
  obtain ⟨h1, h2, h3, h4⟩ := h
  dsimp only at h1 h2 h3 h4
  subst h1 h2 h3 h4
  rfl
def knB (k : KnR) : Bool := segsOf k.p == k.segs && (match k.segs with
  | none => eqRp ⟨400, [], badPathT, 0⟩ k.x
  | some s => okC wkL s k.ms k.o && eqRp (ansC wkL k.m k.b s k.ms k.o) k.x)
theorem knB_serve {k : KnR} (h : knB k = true) (y : Rp) (hy : ServeIs wkL k.m k.p k.b y) : y = k.x := by
  unfold knB at h
  rw [Bool.and_eq_true, beq_iff_eq] at h
  obtain ⟨h1, h2⟩ := h
  cases hs : k.segs with
  | none =>
    rw [hs] at h1 h2
    rw [serve_one hy (serve_bad h1)]
    exact eqRp_eq h2
  | some s =>
    rw [hs] at h1 h2
    dsimp only at h2
    rw [Bool.and_eq_true] at h2
    rw [serve_one hy (serve_c h1 h2.1)]
    exact eqRp_eq h2.2
def postT : Txt := [80, 79, 83, 84]
def putT : Txt := [80, 85, 84]
def homeT : Txt := [104, 111, 109, 101]
def xzT : Txt := [120, 61, 122, 10]
def axT : Txt := [47, 97, 47, 58, 120]
def ghT : Txt := [71, 69, 84, 44, 32, 72, 69, 65, 68]
def ghpT : Txt := [71, 69, 84, 44, 32, 72, 69, 65, 68, 44, 32, 80, 79, 83, 84]
def knRows : List KnR := [⟨getT, [47], [], some [], [getT, headT], some [47], ⟨200, [], homeT, 1⟩⟩, ⟨headT, [47], [], some [], [getT, headT], some [47], ⟨200, [], homeT, 1⟩⟩,
  ⟨getT, [47, 97, 47, 98], [], some [[97], [98]], [getT, headT], some [47, 97, 47, 98], ⟨200, [], [98], 1⟩⟩, ⟨getT, [47, 97, 47, 122], [], some [[97], [122]], [getT, headT, postT], some axT, ⟨200, [], xzT, 3⟩⟩,
  ⟨getT, [47, 97, 47, 37, 55, 97], [], some [[97], [122]], [getT, headT, postT], some axT, ⟨200, [], xzT, 3⟩⟩, ⟨postT, [47, 97, 47, 122], [104, 105], some [[97], [122]], [getT, headT, postT], some axT, ⟨200, [], [104, 105], 2⟩⟩,
  ⟨postT, [47, 97, 47, 98], [], some [[97], [98]], [getT, headT], some [47, 97, 47, 98], ⟨405, [(allowT, ghT)], noSuchT, 0⟩⟩, ⟨getT, [47, 113], [], some [[113]], [], none, ⟨404, [], notFoundT, 0⟩⟩,
  ⟨putT, [47, 97, 47, 122], [], some [[97], [122]], [getT, headT, postT], some axT, ⟨405, [(allowT, ghpT)], noSuchT, 0⟩⟩, ⟨getT, [47, 119, 115], [], some [[119, 115]], [getT, headT], some [47, 119, 115], ⟨101, [], [], 4⟩⟩,
  ⟨getT, [47, 37, 122, 122], [], none, [], none, ⟨400, [], badPathT, 0⟩⟩]
theorem kn_all : knRows.all knB = true := by decide +kernel
theorem kn_serve {i : Nat} {k : KnR} (h : knRows[i]? = some k) (y : Rp) (hy : ServeIs wkL k.m k.p k.b y) : y = k.x :=
  knB_serve (List.all_eq_true.1 kn_all k (List.mem_of_getElem? h)) y hy
/-! Routes that make a router, and that make none. -/
theorem newGo_app : ∀ (a pre b : List Rt), newGo pre a = 0 → newGo pre (a ++ b) = newGo (pre ++ a) b
  | [], pre, b, _ => by simp
  | r :: a, pre, b, h => by
    rw [newGo] at h
    rw [List.cons_append, newGo]
    by_cases h1 : rightR r = false
    · rw [if_pos h1] at h; cases h
    · rw [if_neg h1] at h ⊢
      by_cases h2 : (pre.any fun q => clashR q r) = true
      · rw [if_pos h2] at h; cases h
      · rw [if_neg h2] at h ⊢
        rw [newGo_app a (pre ++ [r]) b h, List.append_assoc, List.singleton_append]
theorem new_more (r : Rt) : newF (wkL ++ [r]) = if rightR r = false then 1 else if (wkL.any fun q => clashR q r) = true then 5 else 0 := by
  unfold newF
  rw [if_neg (by simp [wkL]), newGo_app wkL [] [r] (by decide +kernel), List.nil_append, newGo, newGo]
def moRows : List (Rt × Nat) := [(⟨getT, [47], 2, []⟩, 5), (⟨putT, [47, 97, 47, 58, 121], 2, []⟩, 5), (⟨putT, [47], 2, []⟩, 0), (⟨postT, [47, 120], 4, []⟩, 1), (⟨[71, 32, 84], [47, 120], 2, []⟩, 1), (⟨getT, [120], 2, []⟩, 1),
  (⟨getT, [47, 120], 5, []⟩, 1), (⟨getT, [47, 120], 0, []⟩, 1), (⟨getT, [47, 120], 2, [116]⟩, 1)]
theorem mo_all : (moRows.all fun x => newF (wkL ++ [x.1]) == x.2) = true := by decide +kernel
theorem mo_new {i : Nat} {x : Rt × Nat} (h : moRows[i]? = some x) : newF (wkL ++ [x.1]) = x.2 :=
  beq_iff_eq.1 (List.all_eq_true.1 mo_all x (List.mem_of_getElem? h))
theorem new_text (t : Txt) : newF (wkL ++ [⟨getT, [47, 120], 1, t⟩]) = if t.length ≤ 4096 then 0 else 1 := by
  have h1 : rightR ⟨getT, [47, 120], 1, t⟩ = decide (t.length ≤ 4096) := by
    unfold rightR
    rw [show tokF getT = true by decide +kernel, show (segsF [47, 120]).isSome = true by decide +kernel]
    simp
  have h2 : (wkL.any fun q => clashR q ⟨getT, [47, 120], 1, t⟩) = (wkL.any fun q => clashR q ⟨getT, [47, 120], 1, []⟩) := rfl
  have h3 : (wkL.any fun q => clashR q ⟨getT, [47, 120], 1, []⟩) = false := by decide +kernel
  rw [new_more, h1, h2, h3]
  by_cases h : t.length ≤ 4096
  · rw [decide_eq_true h, if_neg (by simp), if_neg (by simp), if_pos h]
  · rw [decide_eq_false h, if_pos rfl, if_neg h]
theorem new_full : newF (List.replicate 33 ⟨[], [], 0, []⟩) = 6 := by decide +kernel
end Go.Proofs.YtendejpkdjkmnaaGreatDoor
/- RouterKnown (stage 14) walked, over any package of routers: its first half. (mkuk.py writes it.) -/
namespace Go.Proofs.YtendejpkdjkmnaaGreatDoor
open Go.RowKit
attribute [local go_sem] store_one S_match S_store

theorem results_row_oneU {P : Program} {fn : Func} {p : Tmp} {ty : TypeId} (h : fn.results = #[.cell p ty]) (tmps : Array Value) (w : World) (g : Nat) (t : TypeId) (cs : Array Value) (fr : Nat × Nat) (d : TypeDesc)
    (hp : tmps.getD p undef = .pointer (some ⟨g, 0, none⟩)) (hg : w.heap[g]? = some (.cells cs t fr))
    (hu : P.underlying ty = some d) (hd : (match d with | .struct _ | .array _ _ => true | _ => false) = true) (hi : (P.info? ty).map (·.size) = some cs.size) :
    (results fn tmps).run P w = .ok (.agg cs) w := by
  have hp' : tmps[p]?.getD undef = .pointer (some ⟨g, 0, none⟩) := by simpa using hp
  simp [results, h, hp', asAddr, run_loadVar_row w g t ty cs fr d hg hu hd hi]
theorem infoRpU : (Tryz.prog.info? 29).map (·.size) = some 3 := by kernel_rfl
set_option maxRecDepth 100000 in
set_option maxHeartbeats 1000000 in
theorem good14_any (c : Int) (body : Txt) (w : World) : Calls Tryz.prog 14 #[.int .i64 c, S body] w fun e w' => e = .returned (.agg #[.int .i64 c, .slice none 0 0, S body]) ∧ Below w.heap.size w w' := by
  go_enter Tryz.func14, Tryz.ntmps14
  go_wp2
  refine bodyPost_ret (results_row_oneU rfl _ _ w.heap.size 29 #[.int .i64 c, .slice none 0 0, S body] (0, 0) _ rfl (row_new w _ _) Tryz.underlying29 rfl infoRpU) rfl ?_
  exact ⟨rfl, (Below.refl _ w).alloc (Nat.le_refl _) _⟩
set_option maxRecDepth 100000 in
set_option maxHeartbeats 1000000 in
theorem no14_any (a : Txt) (w : World) : Calls Tryz.prog 15 #[S a] w fun e w' => ∃ b, e = .returned (.agg #[.int .i64 405, .slice (some ⟨b, 0, none⟩) 1 1, S noSuchT]) ∧ Row w' b #[S allowT, S a] 43 ∧ Below w.heap.size w w' := by
  go_enter Tryz.func15, Tryz.ntmps15
  go_wp2
  have h0 := row_new w #[.int .i64 405, .slice (some ⟨w.heap.size + 1, 0, none⟩) 1 1, S noSuchT] 29
  have h1 := row_new (w.alloc (.cells #[.int .i64 405, .slice (some ⟨w.heap.size + 1, 0, none⟩) 1 1, S noSuchT] 29)) #[S allowT, S a] 43
  rw [alloc_size] at h1
  refine bodyPost_ret (results_row_oneU rfl _ _ w.heap.size 29 #[.int .i64 405, .slice (some ⟨w.heap.size + 1, 0, none⟩) 1 1, S noSuchT] (0, 0) _ rfl (h0.alloc _) Tryz.underlying29 rfl infoRpU) rfl ?_
  exact ⟨w.heap.size + 1, rfl, h1, ((Below.refl _ w).alloc (Nat.le_refl _) _).alloc (by rw [alloc_size]; omega) _⟩
/-- A row of the first table, as it lies. -/
structure KnAt (Z : World) (B i : Nat) (k : KnR) (V : Value) (bw : Nat) : Prop where
  c0 : Z.cell? ⟨B, i * 7, none⟩ = some (S k.m)
  c1 : Z.cell? ⟨B, i * 7 + 1, none⟩ = some (S k.p)
  c2 : Z.cell? ⟨B, i * 7 + 2, none⟩ = some (S k.b)
  c3 : Z.cell? ⟨B, i * 7 + 3, none⟩ = some (.int .i64 k.x.code)
  c4 : Z.cell? ⟨B, i * 7 + 3 + 1, none⟩ = some (V)
  c5 : Z.cell? ⟨B, i * 7 + 3 + 2, none⟩ = some (S k.x.body)
  c6 : Z.cell? ⟨B, i * 7 + 6, none⟩ = some (.int .i64 k.x.kind)
  fa : FA Z V k.x.fs bw 0
  few : k.m.length ≤ 200 ∧ k.p.length ≤ 300 ∧ k.b.length ≤ 3000
theorem KnAt.below {Z Y : World} {B i : Nat} {k : KnR} {V : Value} {bw : Nat} (h : KnAt Z B i k V bw) (hb : Below Z.heap.size Z Y) : KnAt Y B i k V bw := by
  have up : ∀ {q : Addr} {v : Value}, Z.cell? q = some v → Y.cell? q = some v := fun hc => by rw [hb.cell (World.block_lt_of_cell? Z _ hc)]; exact hc
  exact ⟨up h.c0, up h.c1, up h.c2, up h.c3, up h.c4, up h.c5, up h.c6, h.fa.below hb, h.few⟩
def knZ (X : World) (f6 f8 : Nat) : World := X.alloc (.cells #[.string ⟨#[71, 69, 84]⟩, .string ⟨#[47]⟩, .string ⟨#[]⟩, .int .i64 200, .slice none 0 0, S [104, 111, 109, 101], .int .i64 1, .string ⟨#[72, 69, 65, 68]⟩, .string ⟨#[47]⟩, .string ⟨#[]⟩, .int .i64 200, .slice none 0 0, S [104, 111, 109, 101], .int .i64 1, .string ⟨#[71, 69, 84]⟩, .string ⟨#[47, 97, 47, 98]⟩, .string ⟨#[]⟩, .int .i64 200, .slice none 0 0, S [98], .int .i64 1, .string ⟨#[71, 69, 84]⟩, .string ⟨#[47, 97, 47, 122]⟩, .string ⟨#[]⟩, .int .i64 200, .slice none 0 0, S [120, 61, 122, 10], .int .i64 3, .string ⟨#[71, 69, 84]⟩, .string ⟨#[47, 97, 47, 37, 55, 97]⟩, .string ⟨#[]⟩, .int .i64 200, .slice none 0 0, S [120, 61, 122, 10], .int .i64 3, .string ⟨#[80, 79, 83, 84]⟩, .string ⟨#[47, 97, 47, 122]⟩, .string ⟨#[104, 105]⟩, .int .i64 200, .slice none 0 0, S [104, 105], .int .i64 2, .string ⟨#[80, 79, 83, 84]⟩, .string ⟨#[47, 97, 47, 98]⟩, .string ⟨#[]⟩, .int .i64 405, .slice (some ⟨f6, 0, none⟩) 1 1, S noSuchT, .int .i64 0, .string ⟨#[71, 69, 84]⟩, .string ⟨#[47, 113]⟩, .string ⟨#[]⟩, .int .i64 404, .slice none 0 0, S [110, 111, 116, 32, 102, 111, 117, 110, 100], .int .i64 0, .string ⟨#[80, 85, 84]⟩, .string ⟨#[47, 97, 47, 122]⟩, .string ⟨#[]⟩, .int .i64 405, .slice (some ⟨f8, 0, none⟩) 1 1, S noSuchT, .int .i64 0, .string ⟨#[71, 69, 84]⟩, .string ⟨#[47, 119, 115]⟩, .string ⟨#[]⟩, .int .i64 101, .slice none 0 0, S [], .int .i64 4, .string ⟨#[71, 69, 84]⟩, .string ⟨#[47, 37, 122, 122]⟩, .string ⟨#[]⟩, .int .i64 400, .slice none 0 0, S [98, 97, 100, 32, 112, 97, 116, 104], .int .i64 0] 46)
set_option maxRecDepth 100000 in
theorem kn_tab (X : World) (f6 f8 : Nat) (h6 : Row X f6 #[S allowT, S ghT] 43) (h8 : Row X f8 #[S allowT, S ghpT] 43) (Z : World) (hZ : Z = knZ X f6 f8) : ∀ i : Nat, i < 11 → ∃ k V bw, knRows[i]? = some k ∧ KnAt Z X.heap.size i k V bw := by
  unfold knZ at hZ
  have hr : Row Z X.heap.size #[.string ⟨#[71, 69, 84]⟩, .string ⟨#[47]⟩, .string ⟨#[]⟩, .int .i64 200, .slice none 0 0, S [104, 111, 109, 101], .int .i64 1, .string ⟨#[72, 69, 65, 68]⟩, .string ⟨#[47]⟩, .string ⟨#[]⟩, .int .i64 200, .slice none 0 0, S [104, 111, 109, 101], .int .i64 1, .string ⟨#[71, 69, 84]⟩, .string ⟨#[47, 97, 47, 98]⟩, .string ⟨#[]⟩, .int .i64 200, .slice none 0 0, S [98], .int .i64 1, .string ⟨#[71, 69, 84]⟩, .string ⟨#[47, 97, 47, 122]⟩, .string ⟨#[]⟩, .int .i64 200, .slice none 0 0, S [120, 61, 122, 10], .int .i64 3, .string ⟨#[71, 69, 84]⟩, .string ⟨#[47, 97, 47, 37, 55, 97]⟩, .string ⟨#[]⟩, .int .i64 200, .slice none 0 0, S [120, 61, 122, 10], .int .i64 3, .string ⟨#[80, 79, 83, 84]⟩, .string ⟨#[47, 97, 47, 122]⟩, .string ⟨#[104, 105]⟩, .int .i64 200, .slice none 0 0, S [104, 105], .int .i64 2, .string ⟨#[80, 79, 83, 84]⟩, .string ⟨#[47, 97, 47, 98]⟩, .string ⟨#[]⟩, .int .i64 405, .slice (some ⟨f6, 0, none⟩) 1 1, S noSuchT, .int .i64 0, .string ⟨#[71, 69, 84]⟩, .string ⟨#[47, 113]⟩, .string ⟨#[]⟩, .int .i64 404, .slice none 0 0, S [110, 111, 116, 32, 102, 111, 117, 110, 100], .int .i64 0, .string ⟨#[80, 85, 84]⟩, .string ⟨#[47, 97, 47, 122]⟩, .string ⟨#[]⟩, .int .i64 405, .slice (some ⟨f8, 0, none⟩) 1 1, S noSuchT, .int .i64 0, .string ⟨#[71, 69, 84]⟩, .string ⟨#[47, 119, 115]⟩, .string ⟨#[]⟩, .int .i64 101, .slice none 0 0, S [], .int .i64 4, .string ⟨#[71, 69, 84]⟩, .string ⟨#[47, 37, 122, 122]⟩, .string ⟨#[]⟩, .int .i64 400, .slice none 0 0, S [98, 97, 100, 32, 112, 97, 116, 104], .int .i64 0] 46 := by rw [hZ]; exact row_new _ _ _
  have hb : Below X.heap.size X Z := by rw [hZ]; exact (Below.refl _ _).alloc (Nat.le_refl _) _
  have r6 := h6.below hb h6.lt
  have r8 := h8.below hb h8.lt
  clear hZ
  intro i hi
  have hc : i = 0 ∨ i = 1 ∨ i = 2 ∨ i = 3 ∨ i = 4 ∨ i = 5 ∨ i = 6 ∨ i = 7 ∨ i = 8 ∨ i = 9 ∨ i = 10 := by omega
  rcases hc with rfl | rfl | rfl | rfl | rfl | rfl | rfl | rfl | rfl | rfl | rfl
  · exact ⟨_, .slice none 0 0, 0, rfl, cell_of_row Z _ 0 _ _ (0, 0) hr, cell_of_row Z _ 1 _ _ (0, 0) hr, cell_of_row Z _ 2 _ _ (0, 0) hr, cell_of_row Z _ 3 _ _ (0, 0) hr, cell_of_row Z _ 4 _ _ (0, 0) hr, cell_of_row Z _ 5 _ _ (0, 0) hr, cell_of_row Z _ 6 _ _ (0, 0) hr, fau_nil _ _ _, ⟨by decide, by decide, by decide⟩⟩
  · exact ⟨_, .slice none 0 0, 0, rfl, cell_of_row Z _ 7 _ _ (0, 0) hr, cell_of_row Z _ 8 _ _ (0, 0) hr, cell_of_row Z _ 9 _ _ (0, 0) hr, cell_of_row Z _ 10 _ _ (0, 0) hr, cell_of_row Z _ 11 _ _ (0, 0) hr, cell_of_row Z _ 12 _ _ (0, 0) hr, cell_of_row Z _ 13 _ _ (0, 0) hr, fau_nil _ _ _, ⟨by decide, by decide, by decide⟩⟩
  · exact ⟨_, .slice none 0 0, 0, rfl, cell_of_row Z _ 14 _ _ (0, 0) hr, cell_of_row Z _ 15 _ _ (0, 0) hr, cell_of_row Z _ 16 _ _ (0, 0) hr, cell_of_row Z _ 17 _ _ (0, 0) hr, cell_of_row Z _ 18 _ _ (0, 0) hr, cell_of_row Z _ 19 _ _ (0, 0) hr, cell_of_row Z _ 20 _ _ (0, 0) hr, fau_nil _ _ _, ⟨by decide, by decide, by decide⟩⟩
  · exact ⟨_, .slice none 0 0, 0, rfl, cell_of_row Z _ 21 _ _ (0, 0) hr, cell_of_row Z _ 22 _ _ (0, 0) hr, cell_of_row Z _ 23 _ _ (0, 0) hr, cell_of_row Z _ 24 _ _ (0, 0) hr, cell_of_row Z _ 25 _ _ (0, 0) hr, cell_of_row Z _ 26 _ _ (0, 0) hr, cell_of_row Z _ 27 _ _ (0, 0) hr, fau_nil _ _ _, ⟨by decide, by decide, by decide⟩⟩
  · exact ⟨_, .slice none 0 0, 0, rfl, cell_of_row Z _ 28 _ _ (0, 0) hr, cell_of_row Z _ 29 _ _ (0, 0) hr, cell_of_row Z _ 30 _ _ (0, 0) hr, cell_of_row Z _ 31 _ _ (0, 0) hr, cell_of_row Z _ 32 _ _ (0, 0) hr, cell_of_row Z _ 33 _ _ (0, 0) hr, cell_of_row Z _ 34 _ _ (0, 0) hr, fau_nil _ _ _, ⟨by decide, by decide, by decide⟩⟩
  · exact ⟨_, .slice none 0 0, 0, rfl, cell_of_row Z _ 35 _ _ (0, 0) hr, cell_of_row Z _ 36 _ _ (0, 0) hr, cell_of_row Z _ 37 _ _ (0, 0) hr, cell_of_row Z _ 38 _ _ (0, 0) hr, cell_of_row Z _ 39 _ _ (0, 0) hr, cell_of_row Z _ 40 _ _ (0, 0) hr, cell_of_row Z _ 41 _ _ (0, 0) hr, fau_nil _ _ _, ⟨by decide, by decide, by decide⟩⟩
  · exact ⟨_, .slice (some ⟨f6, 0, none⟩) 1 1, f6, rfl, cell_of_row Z _ 42 _ _ (0, 0) hr, cell_of_row Z _ 43 _ _ (0, 0) hr, cell_of_row Z _ 44 _ _ (0, 0) hr, cell_of_row Z _ 45 _ _ (0, 0) hr, cell_of_row Z _ 46 _ _ (0, 0) hr, cell_of_row Z _ 47 _ _ (0, 0) hr, cell_of_row Z _ 48 _ _ (0, 0) hr, fau_row (fs := [(allowT, ghT)]) (n := 1) (c := 1) r6 rfl rfl, ⟨by decide, by decide, by decide⟩⟩
  · exact ⟨_, .slice none 0 0, 0, rfl, cell_of_row Z _ 49 _ _ (0, 0) hr, cell_of_row Z _ 50 _ _ (0, 0) hr, cell_of_row Z _ 51 _ _ (0, 0) hr, cell_of_row Z _ 52 _ _ (0, 0) hr, cell_of_row Z _ 53 _ _ (0, 0) hr, cell_of_row Z _ 54 _ _ (0, 0) hr, cell_of_row Z _ 55 _ _ (0, 0) hr, fau_nil _ _ _, ⟨by decide, by decide, by decide⟩⟩
  · exact ⟨_, .slice (some ⟨f8, 0, none⟩) 1 1, f8, rfl, cell_of_row Z _ 56 _ _ (0, 0) hr, cell_of_row Z _ 57 _ _ (0, 0) hr, cell_of_row Z _ 58 _ _ (0, 0) hr, cell_of_row Z _ 59 _ _ (0, 0) hr, cell_of_row Z _ 60 _ _ (0, 0) hr, cell_of_row Z _ 61 _ _ (0, 0) hr, cell_of_row Z _ 62 _ _ (0, 0) hr, fau_row (fs := [(allowT, ghpT)]) (n := 1) (c := 1) r8 rfl rfl, ⟨by decide, by decide, by decide⟩⟩
  · exact ⟨_, .slice none 0 0, 0, rfl, cell_of_row Z _ 63 _ _ (0, 0) hr, cell_of_row Z _ 64 _ _ (0, 0) hr, cell_of_row Z _ 65 _ _ (0, 0) hr, cell_of_row Z _ 66 _ _ (0, 0) hr, cell_of_row Z _ 67 _ _ (0, 0) hr, cell_of_row Z _ 68 _ _ (0, 0) hr, cell_of_row Z _ 69 _ _ (0, 0) hr, fau_nil _ _ _, ⟨by decide, by decide, by decide⟩⟩
  · exact ⟨_, .slice none 0 0, 0, rfl, cell_of_row Z _ 70 _ _ (0, 0) hr, cell_of_row Z _ 71 _ _ (0, 0) hr, cell_of_row Z _ 72 _ _ (0, 0) hr, cell_of_row Z _ 73 _ _ (0, 0) hr, cell_of_row Z _ 74 _ _ (0, 0) hr, cell_of_row Z _ 75 _ _ (0, 0) hr, cell_of_row Z _ 76 _ _ (0, 0) hr, fau_nil _ _ _, ⟨by decide, by decide, by decide⟩⟩
theorem idxK (b n c i : Nat) (hi : i < n) (w' : World) : (Instr.indexAt 47 (.slice (some ⟨b, 0, none⟩) n c) (.int .i64 (i : Int))).run Tryz.prog w' = .ok (.pointer (some ⟨b, i * 7, none⟩)) w' := by
  have := run_index_at (P := Tryz.prog) Tryz.underlying47 (fun w => Tryz.sizeOf46 w) b 0 n c i hi w'
  rwa [Nat.zero_add] at this
end Go.Proofs.YtendejpkdjkmnaaGreatDoor
/- A call, and what is made, that may come up next (as in XRx2). -/
namespace Go.Proofs.YtendejpkdjkmnaaGreatDoor
open Go.RowKit
/-- A call, and what changes the world, that may come up next: each may be the first. -/
theorem ready_call_or_madeU {P : Program} {md : Region.Mode} {ops : Array Oper} {Q : Exit → Act → World → Prop} {S : World → Prop} {fuel : Nat} {listed : Array Bool} {a : Act} {w w1 : World} {i j : Nat} {di dj : Option Tmp} {vj : Value} {f : FuncId} {args : Array Value} (hdi : (ops[i]?).map (·.dst) = some di) (hdj : (ops[j]?).map (·.dst) = some dj) (hr : Region.ready md ops listed = [i, j])
    (hxi : ∀ oi, ops[i]? = some oi → Region.wanted oi (yielded ops a.tmps) = true ∧ (execOp a.eval oi).run P w = .ok (.enter f args) w)
    (hxj : ∀ oj, ops[j]? = some oj → Region.wanted oj (yielded ops a.tmps) = true ∧ (execOp a.eval oj).run P w = .ok (.value vj) w1) (hS : S w1)
    (hc : Calls P f args w fun e w' => ∃ v, e = .returned v ∧ S w' ∧ wpAnyH P md ops Q S fuel (listed.setIfInBounds i true) (a.put di v) w')
    (hv : wpAnyH P md ops Q S fuel (listed.setIfInBounds j true) (a.put dj vj) w1) : wpAnyH P md ops Q S (fuel + 1) listed a w := by
  cases hi : ops[i]? with
  | none => simp [hi] at hdi
  | some oi =>
    cases hj : ops[j]? with
    | none => simp [hj] at hdj
    | some oj =>
      have e1 : oi.dst = di := by simpa [hi] using hdi
      have e2 : oj.dst = dj := by simpa [hj] using hdj
      subst e1 e2
      refine wpAnyH_ready hr (by simp) (AllReadyH.cons hi (fun K hK => ?_) (AllReadyH.cons hj (fun K hK => ?_) AllReadyH.nil))
      · obtain ⟨hw, hx⟩ := hxi oi hi
        rw [if_pos hw]
        unfold Oper.wp
        rw [hx]
        refine hc.mono ?_
        rintro e w' ⟨v, rfl, hS', h⟩
        exact hK.out _ _ hS' (fun _ => h)
      · obtain ⟨hw, hx⟩ := hxj oj hj
        rw [if_pos hw]
        unfold Oper.wp
        rw [hx]
        exact hK.out _ _ hS (fun _ => hv)
theorem store_rep {W : World} {b6 : Nat} {x y z : Value} (h : Row W b6 #[x, y, z] 29) (c : Int) (a : Option Addr) (n k : Nat) (body : Txt) : ∃ WS, (storeVar 29 ⟨b6, 0, none⟩ (.agg #[.int .i64 c, .slice a n k, S body])).run Tryz.prog W = .ok () WS ∧ Row WS b6 #[.int .i64 c, .slice a n k, S body] 29 ∧ Keeps b6 W WS := by
  have hr := run_storeVar_at (P := Tryz.prog) W b6 0 29 29 #[.int .i64 c, .slice a n k, S body] #[x, y, z] h infoRpU (by simp) (by intro v hv; simp at hv; rcases hv with rfl | rfl | rfl <;> rfl)
  refine ⟨_, hr, ?_, Keeps.setRow _ _⟩
  exact setRow_heap W b6 _ _ 29 _ h
theorem fa_apart {W : World} {b6 : Nat} {x y z : Value} {t : TypeId} (h : Row W b6 #[x, y, z] t) (hx : ∀ s, x ≠ S s) (hy : ∀ s, y ≠ S s) {V : Value} {fs : List (Txt × Txt)} {b o : Nat} (hF : FA W V fs b o) : fs = [] ∨ b ≠ b6 := by
  cases fs with
  | nil => exact .inl rfl
  | cons f fs =>
    refine .inr fun e => ?_
    subst e
    obtain ⟨h1, h2⟩ := hF.cell 0 f rfl
    rw [Nat.zero_mul, Nat.add_zero] at h1 h2
    rw [cell_of_row W b _ _ _ (0, 0) h] at h1 h2
    match o with
    | 0 => exact hx _ (Option.some.inj h1)
    | 1 => exact hy _ (Option.some.inj h1)
    | 2 => simp at h2
    | o + 3 => simp at h1
theorem fa_keeps {W W' : World} {V : Value} {fs : List (Txt × Txt)} {b o g : Nat} (h : FA W V fs b o) (hb : fs = [] ∨ b ≠ g) (hk : Keeps g W W') : FA W' V fs b o :=
  ⟨h.len, h.index, fun i f hf => by
    rcases hb with hb | hb
    · rw [hb] at hf; simp at hf
    · obtain ⟨h1, h2⟩ := h.cell i f hf
      have e : W'.heap[b]? = W.heap[b]? := hk.block b (World.block_lt_of_cell? W _ h1) hb
      exact ⟨by rw [World.cell?_of_block (w := W) e]; exact h1, by rw [World.cell?_of_block (w := W) e]; exact h2⟩, h.form⟩
end Go.Proofs.YtendejpkdjkmnaaGreatDoor
/- Two that may come up next, each in a world of its own; bytes that are all zero. -/
namespace Go.Proofs.YtendejpkdjkmnaaGreatDoor
open Go.RowKit
attribute [local go_sem] store_one S_match S_store
theorem ready_orU {P : Program} {md : Region.Mode} {ops : Array Oper} {Q : Exit → Act → World → Prop} {S : World → Prop} {fuel : Nat} {listed : Array Bool} {a : Act} {w wi wj : World} {i j : Nat} {di dj : Option Tmp} {vi vj : Value} (hdi : (ops[i]?).map (·.dst) = some di) (hdj : (ops[j]?).map (·.dst) = some dj) (hr : Region.ready md ops listed = [i, j])
    (hxi : ∀ oi, ops[i]? = some oi → Region.wanted oi (yielded ops a.tmps) = true ∧ (execOp a.eval oi).run P w = .ok (.value vi) wi)
    (hxj : ∀ oj, ops[j]? = some oj → Region.wanted oj (yielded ops a.tmps) = true ∧ (execOp a.eval oj).run P w = .ok (.value vj) wj) (hSi : S wi) (hSj : S wj)
    (h1 : wpAnyH P md ops Q S fuel (listed.setIfInBounds i true) (a.put di vi) wi) (h2 : wpAnyH P md ops Q S fuel (listed.setIfInBounds j true) (a.put dj vj) wj) : wpAnyH P md ops Q S (fuel + 1) listed a w := by
  cases hi : ops[i]? with
  | none => simp [hi] at hdi
  | some oi =>
    cases hj : ops[j]? with
    | none => simp [hj] at hdj
    | some oj =>
      have e1 : oi.dst = di := by simpa [hi] using hdi
      have e2 : oj.dst = dj := by simpa [hj] using hdj
      subst e1 e2
      refine wpAnyH_ready hr (by simp) (AllReadyH.cons hi (fun K hK => ?_) (AllReadyH.cons hj (fun K hK => ?_) AllReadyH.nil))
      · obtain ⟨hw, hx⟩ := hxi oi hi
        rw [if_pos hw]
        unfold Oper.wp
        rw [hx]
        exact hK.out _ _ hSi (fun _ => h1)
      · obtain ⟨hw, hx⟩ := hxj oj hj
        rw [if_pos hw]
        unfold Oper.wp
        rw [hx]
        exact hK.out _ _ hSj (fun _ => h2)
def zeroC (n : Nat) : Array Value := madeCells #[.int .u8 0] n
theorem zero_make (n : Nat) (hn : n ≤ 100000) (w : World) : (Instr.makeSlice 49 (.int .i64 (n : Int)) (.int .i64 (n : Int))).run Tryz.prog w = .ok (.slice (some ⟨w.heap.size, 0, none⟩) n n) (w.alloc (.cells (zeroC n) 5)) := by
  obtain ⟨t, ht⟩ : ∃ t, (Tryz.prog.info? 5) = some t := Option.isSome_iff_exists.1 (by kernel_rfl)
  have h1 : (Tryz.prog.info? 5).map (fun t => (t.size, t.bytes)) = some (1, 1) := by kernel_rfl
  have h2 : (Tryz.prog.info? 5).map (fun t => t.zero) = some (some (.int .u8 0)) := by kernel_rfl
  rw [ht] at h1 h2
  simp only [Option.map_some, Option.some.injEq, Prod.mk.injEq] at h1 h2
  have hr := run_make (P := Tryz.prog) w 49 5 t (.int .u8 0) Tryz.underlying49 ht h2 .i64 .i64 n n (by omega) (by omega) (by rw [h1.2]; omega) (by omega)
  rw [h1.1, Nat.mul_one, Int.toNat_natCast] at hr
  exact hr
theorem zero_cell (n j : Nat) (h : j < n) : (zeroC n)[j]? = some (.int .u8 0) := by
  unfold zeroC madeCells
  rw [Array.getElem?_map, Array.getElem?_range, if_pos h]
  simp [Nat.mod_one]
set_option maxRecDepth 100000 in
theorem zero_text (n : Nat) {W : World} {b : Nat} (h : Row W b (zeroC n) 5) : (convert 49 9 (.slice (some ⟨b, 0, none⟩) n n)).run Tryz.prog W = .ok (S (List.replicate n 0)) W := by
  obtain ⟨l, hl⟩ : ∃ l, l = List.replicate n (0 : UInt8) := ⟨_, rfl⟩
  have hln : l.length = n := by rw [hl, List.length_replicate]
  have hr := run_convert_bytes_back W 49 9 5 ⟨b, 0, none⟩ n l Tryz.underlying49 Tryz.underlying5 Tryz.underlying9 (fun j hj => by
    have hz : l[j] = 0 := by
      have h1 : l[j]? = some l[j] := List.getElem?_eq_getElem hj
      have h2 : l[j]? = some 0 := by rw [hl, List.getElem?_replicate, if_pos (by omega)]
      rw [h1] at h2
      exact Option.some.inj h2
    rw [hz, Addr.add_mid, Nat.zero_add, cell_of_row W b j _ 5 (0, 0) h, zero_cell n j (by omega)]
    rfl)
  rw [hln] at hr
  rw [← hl]
  exact hr
set_option maxRecDepth 100000 in
theorem infoRtK : ∃ i, Tryz.prog.info? 40 = some i ∧ i.zero = some (.agg #[.string ⟨#[]⟩, .string ⟨#[]⟩, .int .i64 0, .string ⟨#[]⟩]) ∧ i.size = 4 ∧ i.bytes = 56 := by
  obtain ⟨t, ht⟩ : ∃ t, (Tryz.prog.info? 40) = some t := Option.isSome_iff_exists.1 (by kernel_rfl)
  have h1 : (Tryz.prog.info? 40).map (fun t => (t.size, t.bytes)) = some (4, 56) := by kernel_rfl
  have h2 : (Tryz.prog.info? 40).map (fun t => t.zero) = some (some (.agg #[.string ⟨#[]⟩, .string ⟨#[]⟩, .int .i64 0, .string ⟨#[]⟩])) := by kernel_rfl
  rw [ht] at h1 h2
  simp only [Option.map_some, Option.some.injEq, Prod.mk.injEq] at h1 h2
  exact ⟨t, ht, h2, h1.1, h1.2⟩
/-- One route more. -/
theorem run_addR {W : World} {base : Nat} {V : Value} {l : List Rt} (h : GR base V l W) (hl : l.length ≤ 1000) (hb : base ≤ W.heap.size) (s : Rt) {bs : Nat} (hr : Row W bs #[S s.m, S s.p, .int .i64 s.kind, S s.text] 40) (ty : TypeId) :
    ∃ a c W', (Builtin.append_ #[33, 33] ty #[V, .slice (some ⟨bs, 0, none⟩) 1 1]).run Tryz.prog W = .ok (.slice a (l.length + 1) c) W' ∧ GR base (.slice a (l.length + 1) c) (l ++ [s]) W' ∧ Below base W W' := by
  obtain ⟨i, hi, hz, hsz, hby⟩ := infoRtK
  have h0 := h
  unfold GR at h
  obtain ⟨V', W', hrun, hown, hgr, _, _⟩ := run_append_own_at (P := Tryz.prog) (w := W) base 33 ty 40 i _ 4 56 Tryz.underlying33 hi hz hsz hby rfl (by decide)
    V l.length (rtCells l) h ⟨bs, 0, none⟩ 1 1 [S s.m, S s.p, .int .i64 s.kind, S s.text] rfl (fun j u hu => by
      rw [Addr.add_lit]
      rw [cell_of_row _ _ _ _ _ _ hr]
      simpa using hu) (fun u hu => by
      simp only [List.mem_cons, List.not_mem_nil, or_false] at hu
      rcases hu with rfl | rfl | rfl | rfl <;> rfl)
    (by simp only [maxLen]; omega) (by omega) (by omega)
  have hF : GR base V' (l ++ [s]) W' := by
    unfold GR
    rw [List.length_append, List.length_singleton, rtCells_snoc]; exact hown
  obtain ⟨g, hA⟩ := hF.roa
  obtain ⟨a, c, hv, -⟩ := hA.form
  rw [List.length_append, List.length_singleton] at hv
  subst hv
  refine ⟨a, c, W', hrun, hF, ?_⟩
  exact below_grown (Below.refl _ _ |>.mono hb) hgr (fun k hk => (h0.own_lo hk).1) hb
set_option maxRecDepth 100000 in
set_option maxHeartbeats 400000 in
/-- The law's routes, in a row of one's own. -/
theorem routes14_own (w : World) : Calls Tryz.prog 13 #[] w fun e w' => ∃ b, e = .returned (.slice (some ⟨b, 0, none⟩) 5 5) ∧ GR w.heap.size (.slice (some ⟨b, 0, none⟩) 5 5) wkL w' ∧ Below w.heap.size w w' := by
  go_enter Tryz.func13, Tryz.ntmps13
  go_wp2
  go_ret
  exact ⟨w.heap.size, rfl, World.ownsRow_lit w _ 5 (Nat.le_refl _) (by decide) rfl, (Below.refl _ _).alloc (Nat.le_refl _) _⟩
set_option maxRecDepth 100000 in
theorem make33 (w : World) : (Instr.makeSlice 33 (.int .i64 33) (.int .i64 33)).run Tryz.prog w = .ok (.slice (some ⟨w.heap.size, 0, none⟩) 33 33) (w.alloc (.cells (rtCells (List.replicate 33 ⟨[], [], 0, []⟩)).toArray 40)) := by
  obtain ⟨i, hi, hz, hsz, hby⟩ := infoRtK
  have hr := run_make (P := Tryz.prog) w 33 40 i _ Tryz.underlying33 hi hz .i64 .i64 33 33 (by omega) (by omega) (by rw [hby]; omega) (by omega)
  have hm : madeCells (Value.agg #[.string ⟨#[]⟩, .string ⟨#[]⟩, .int .i64 0, .string ⟨#[]⟩]).cells (33 * 4) = (rtCells (List.replicate 33 ⟨[], [], 0, []⟩)).toArray := by kernel_rfl
  rw [hsz, show Int.toNat 33 = 33 from rfl, hm] at hr
  exact hr
theorem idxM (b n c i : Nat) (hi : i < n) (w' : World) : (Instr.indexAt 50 (.slice (some ⟨b, 0, none⟩) n c) (.int .i64 (i : Int))).run Tryz.prog w' = .ok (.pointer (some ⟨b, i * 5, none⟩)) w' := by
  have := run_index_at (P := Tryz.prog) Tryz.underlying50 (fun w => Tryz.sizeOf48 w) b 0 n c i hi w'
  rwa [Nat.zero_add] at this
/-- A row of the second table, as it lies. -/
structure MoAt (W : World) (bm i : Nat) (s : Rt) (e : Nat) : Prop where
  says : newF (wkL ++ [s]) = e
  few : s.m.length ≤ 200 ∧ s.p.length ≤ 200 ∧ s.text.length ≤ 5000
  c0 : W.cell? ⟨bm, i * 5, none⟩ = some (S s.m)
  c1 : W.cell? ⟨bm, i * 5 + 1, none⟩ = some (S s.p)
  c2 : W.cell? ⟨bm, i * 5 + 2, none⟩ = some (.int .i64 s.kind)
  c3 : W.cell? ⟨bm, i * 5 + 3, none⟩ = some (S s.text)
  c4 : W.cell? ⟨bm, i * 5 + 4, none⟩ = some (.int .i64 (e : Int))
set_option maxRecDepth 100000 in
theorem mo_tab {W : World} {bm : Nat} {t1 t2 : Txt} (h1 : t1.length = 4096) (h2 : t2.length = 4097) (hr : Row W bm #[.string ⟨#[71, 69, 84]⟩, .string ⟨#[47]⟩, .int .i64 2, .string ⟨#[]⟩, .int .i64 5, .string ⟨#[80, 85, 84]⟩, .string ⟨#[47, 97, 47, 58, 121]⟩, .int .i64 2, .string ⟨#[]⟩, .int .i64 5, .string ⟨#[80, 85, 84]⟩, .string ⟨#[47]⟩, .int .i64 2, .string ⟨#[]⟩, .int .i64 0, .string ⟨#[80, 79, 83, 84]⟩, .string ⟨#[47, 120]⟩, .int .i64 4, .string ⟨#[]⟩, .int .i64 1, .string ⟨#[71, 32, 84]⟩, .string ⟨#[47, 120]⟩, .int .i64 2, .string ⟨#[]⟩, .int .i64 1, .string ⟨#[71, 69, 84]⟩, .string ⟨#[120]⟩, .int .i64 2, .string ⟨#[]⟩, .int .i64 1, .string ⟨#[71, 69, 84]⟩, .string ⟨#[47, 120]⟩, .int .i64 5, .string ⟨#[]⟩, .int .i64 1, .string ⟨#[71, 69, 84]⟩, .string ⟨#[47, 120]⟩, .int .i64 0, .string ⟨#[]⟩, .int .i64 1, .string ⟨#[71, 69, 84]⟩, .string ⟨#[47, 120]⟩, .int .i64 2, .string ⟨#[116]⟩, .int .i64 1, .string ⟨#[71, 69, 84]⟩, .string ⟨#[47, 120]⟩, .int .i64 1, S t1, .int .i64 0, .string ⟨#[71, 69, 84]⟩, .string ⟨#[47, 120]⟩, .int .i64 1, S t2, .int .i64 1] 48) : ∀ i : Nat, i < 11 → ∃ s e, MoAt W bm i s e := by
  intro i hi
  have hc : i = 0 ∨ i = 1 ∨ i = 2 ∨ i = 3 ∨ i = 4 ∨ i = 5 ∨ i = 6 ∨ i = 7 ∨ i = 8 ∨ i = 9 ∨ i = 10 := by omega
  rcases hc with rfl | rfl | rfl | rfl | rfl | rfl | rfl | rfl | rfl | rfl | rfl
  · exact ⟨⟨[71, 69, 84], [47], 2, []⟩, 5, mo_new (i := 0) rfl, ⟨by simp, by simp, by decide⟩, cell_of_row W _ 0 _ _ (0, 0) hr, cell_of_row W _ 1 _ _ (0, 0) hr, cell_of_row W _ 2 _ _ (0, 0) hr, cell_of_row W _ 3 _ _ (0, 0) hr, cell_of_row W _ 4 _ _ (0, 0) hr⟩
  · exact ⟨⟨[80, 85, 84], [47, 97, 47, 58, 121], 2, []⟩, 5, mo_new (i := 1) rfl, ⟨by simp, by simp, by decide⟩, cell_of_row W _ 5 _ _ (0, 0) hr, cell_of_row W _ 6 _ _ (0, 0) hr, cell_of_row W _ 7 _ _ (0, 0) hr, cell_of_row W _ 8 _ _ (0, 0) hr, cell_of_row W _ 9 _ _ (0, 0) hr⟩
  · exact ⟨⟨[80, 85, 84], [47], 2, []⟩, 0, mo_new (i := 2) rfl, ⟨by simp, by simp, by decide⟩, cell_of_row W _ 10 _ _ (0, 0) hr, cell_of_row W _ 11 _ _ (0, 0) hr, cell_of_row W _ 12 _ _ (0, 0) hr, cell_of_row W _ 13 _ _ (0, 0) hr, cell_of_row W _ 14 _ _ (0, 0) hr⟩
  · exact ⟨⟨[80, 79, 83, 84], [47, 120], 4, []⟩, 1, mo_new (i := 3) rfl, ⟨by simp, by simp, by decide⟩, cell_of_row W _ 15 _ _ (0, 0) hr, cell_of_row W _ 16 _ _ (0, 0) hr, cell_of_row W _ 17 _ _ (0, 0) hr, cell_of_row W _ 18 _ _ (0, 0) hr, cell_of_row W _ 19 _ _ (0, 0) hr⟩
  · exact ⟨⟨[71, 32, 84], [47, 120], 2, []⟩, 1, mo_new (i := 4) rfl, ⟨by simp, by simp, by decide⟩, cell_of_row W _ 20 _ _ (0, 0) hr, cell_of_row W _ 21 _ _ (0, 0) hr, cell_of_row W _ 22 _ _ (0, 0) hr, cell_of_row W _ 23 _ _ (0, 0) hr, cell_of_row W _ 24 _ _ (0, 0) hr⟩
  · exact ⟨⟨[71, 69, 84], [120], 2, []⟩, 1, mo_new (i := 5) rfl, ⟨by simp, by simp, by decide⟩, cell_of_row W _ 25 _ _ (0, 0) hr, cell_of_row W _ 26 _ _ (0, 0) hr, cell_of_row W _ 27 _ _ (0, 0) hr, cell_of_row W _ 28 _ _ (0, 0) hr, cell_of_row W _ 29 _ _ (0, 0) hr⟩
  · exact ⟨⟨[71, 69, 84], [47, 120], 5, []⟩, 1, mo_new (i := 6) rfl, ⟨by simp, by simp, by decide⟩, cell_of_row W _ 30 _ _ (0, 0) hr, cell_of_row W _ 31 _ _ (0, 0) hr, cell_of_row W _ 32 _ _ (0, 0) hr, cell_of_row W _ 33 _ _ (0, 0) hr, cell_of_row W _ 34 _ _ (0, 0) hr⟩
  · exact ⟨⟨[71, 69, 84], [47, 120], 0, []⟩, 1, mo_new (i := 7) rfl, ⟨by simp, by simp, by decide⟩, cell_of_row W _ 35 _ _ (0, 0) hr, cell_of_row W _ 36 _ _ (0, 0) hr, cell_of_row W _ 37 _ _ (0, 0) hr, cell_of_row W _ 38 _ _ (0, 0) hr, cell_of_row W _ 39 _ _ (0, 0) hr⟩
  · exact ⟨⟨[71, 69, 84], [47, 120], 2, [116]⟩, 1, mo_new (i := 8) rfl, ⟨by simp, by simp, by decide⟩, cell_of_row W _ 40 _ _ (0, 0) hr, cell_of_row W _ 41 _ _ (0, 0) hr, cell_of_row W _ 42 _ _ (0, 0) hr, cell_of_row W _ 43 _ _ (0, 0) hr, cell_of_row W _ 44 _ _ (0, 0) hr⟩
  · exact ⟨⟨[71, 69, 84], [47, 120], 1, t1⟩, 0, by rw [show (⟨[71, 69, 84], [47, 120], 1, t1⟩ : Rt) = ⟨getT, [47, 120], 1, t1⟩ from rfl, new_text, if_pos (by omega)], ⟨by simp, by simp, by show t1.length ≤ 5000; omega⟩, cell_of_row W _ 45 _ _ (0, 0) hr, cell_of_row W _ 46 _ _ (0, 0) hr, cell_of_row W _ 47 _ _ (0, 0) hr, cell_of_row W _ 48 _ _ (0, 0) hr, cell_of_row W _ 49 _ _ (0, 0) hr⟩
  · exact ⟨⟨[71, 69, 84], [47, 120], 1, t2⟩, 1, by rw [show (⟨[71, 69, 84], [47, 120], 1, t2⟩ : Rt) = ⟨getT, [47, 120], 1, t2⟩ from rfl, new_text, if_neg (by omega)], ⟨by simp, by simp, by show t2.length ≤ 5000; omega⟩, cell_of_row W _ 50 _ _ (0, 0) hr, cell_of_row W _ 51 _ _ (0, 0) hr, cell_of_row W _ 52 _ _ (0, 0) hr, cell_of_row W _ 53 _ _ (0, 0) hr, cell_of_row W _ 54 _ _ (0, 0) hr⟩

end Go.Proofs.YtendejpkdjkmnaaGreatDoor
/- The landed copy of routes walked. -/
namespace Go.Proofs.YtendejpkdjkmnaaGreatDoor
open Go.RowKit
attribute [local go_sem] store_one S_match S_store

theorem rtCells_at {w : World} {V : Value} {l : List Rt} {b o : Nat} (h : RoA w V l b o) (j : Nat) (u : Value) (hu : (rtCells l)[j]? = some u) : w.cell? ⟨b, o + j, none⟩ = some u := by
  have hj : j < l.length * 4 := by
    have := (List.getElem?_eq_some_iff.1 hu).1
    rwa [rtCells_len] at this
  have hi : j / 4 < l.length := by omega
  have hs : l[j / 4]? = some l[j / 4] := List.getElem?_eq_getElem hi
  obtain ⟨v, hv⟩ : ∃ v, (rtC l[j / 4])[j % 4]? = some v := ⟨(rtC l[j / 4])[j % 4]'(by show j % 4 < 4; omega), Array.getElem?_eq_getElem _⟩
  have h1 := rtCells_get l (j / 4) _ hs (j % 4) v hv
  rw [show j / 4 * 4 + j % 4 = j by omega, hu] at h1
  have h2 := h.cell (j / 4) _ hs (j % 4) v hv
  rw [show o + j / 4 * 4 + j % 4 = o + j by omega] at h2
  rw [h2, h1]
theorem rtCells_one (l : List Rt) : ∀ u ∈ rtCells l, u.oneCell' = true := by
  intro u hu
  obtain ⟨s, _, hs⟩ := List.mem_flatMap.1 hu
  simp [rtC] at hs
  rcases hs with rfl | rfl | rfl | rfl <;> rfl
/-- append([]Route{}, l...): a copy. -/
theorem run_copyR {W : World} {V : Value} {l : List Rt} {b o : Nat} (h : RoA W V l b o) (hl : l.length ≤ 1000) (ty : TypeId) :
    ∃ V' W', (Builtin.append_ #[33, 33] ty #[.slice (some ⟨W.heap.size, 0, none⟩) 0 0, V]).run Tryz.prog (W.alloc (.cells #[] 40)) = .ok V' W' ∧ GR W.heap.size V' l W' ∧ Below W.heap.size W W' := by
  obtain ⟨i, hi, hz, hsz, hby⟩ := infoRtK
  have hB : Below W.heap.size W (W.alloc (.cells #[] 40)) := (Below.refl _ _).alloc (Nat.le_refl _) _
  have h0 : World.ownsRow (W.alloc (.cells #[] 40)) W.heap.size 40 4 (.slice (some ⟨W.heap.size, 0, none⟩) 0 0) 0 [] := ⟨rfl, .inr ⟨W.heap.size, 0, #[], rfl, Nat.le_refl _, heap_alloc_new W _, Nat.le_refl _, by simp [maxLen], rfl, rfl⟩⟩
  obtain ⟨a, c, rfl, hlc, ha⟩ := h.form
  cases l with
  | nil =>
    refine ⟨_, _, run_append_nothing (P := Tryz.prog) _ 33 33 ty 40 i Tryz.underlying33 hi _ 0 0 (Nat.le_refl _) _ ?_, h0, hB⟩
    cases a with
    | none => exact .ofNil _ (e' := 40) Tryz.underlying33 c
    | some a => exact .ofSlice _ (e' := 40) Tryz.underlying33 a 0 c [] (by simp) (fun j u hu => by rw [List.getElem?_nil] at hu; cases hu) (fun u hu => by cases hu)
  | cons f r =>
    have hb := h.below hB
    obtain rfl := ha (by simp)
    obtain ⟨V', W', hr, hown, hgr, _, _⟩ := run_append_own_at (P := Tryz.prog) (w := W.alloc (.cells #[] 40)) W.heap.size 33 ty 40 i _ 4 56 Tryz.underlying33 hi hz hsz hby rfl (by decide)
      (.slice (some ⟨W.heap.size, 0, none⟩) 0 0) 0 [] h0 ⟨b, o, none⟩ (f :: r).length c (rtCells (f :: r)) (rtCells_len _) (fun j u hu => by rw [Addr.add_lit]; exact rtCells_at hb j u hu) (rtCells_one _)
      (by simp only [maxLen]; omega) (by omega) (by rw [alloc_size]; omega)
    rw [Nat.zero_add, List.nil_append] at hown
    exact ⟨V', W', hr, hown, below_grown hB hgr (fun k hk => by simp [Value.ownBlock] at hk; omega) (by rw [alloc_size]; omega)⟩
theorem roa_none {w : World} {l : List Rt} {n b o c : Nat} (h : RoA w (.slice none n c) l b o) : l = [] := by
  obtain ⟨a, c', hv, -, ha⟩ := h.form
  cases l with
  | nil => rfl
  | cons f r =>
    have := ha (by simp)
    injection hv with e1
    rw [this] at e1; cases e1
theorem wpList_append_atU {P : Program} {w : World} {ops : Array Oper} {rest : List Oper} {o : Oper} {a : Act} {Q : Exit → Act → World → Prop} (hgd : o.guard = none) (s x : Operand) (t : TypeId)
    (ho : o.op = .call { callee := .builtin .append, args := #[s, x], argTypes := #[t, t] }) (v u : Value) (hs : a.eval s = v) (hx : a.eval x = u) (v' : Value) (w' : World)
    (hrun : (Builtin.append_ #[t, t] o.type #[v, u]).run P w = .ok v' w') (h : wpList P ops Q rest (a.put o.dst v') w') : wpList P ops Q (o :: rest) a w := by
  refine wpList_plain hgd fun K hK' => ?_
  unfold Oper.wp
  simp [execOp, ho, resolve, invoke, builtin, hs, hx, hrun, Result.andThen]
  exact hK' _ _ h
set_option maxRecDepth 100000 in
set_option maxHeartbeats 1000000 in
theorem clone14_any (V : Value) (l : List Rt) (b o : Nat) (w : World) (h : RoA w V l b o) (hl : l.length ≤ 1000) :
    Calls Tryz.prog 23 #[V] w fun e w' => ∃ V', e = .returned V' ∧ GR w.heap.size V' l w' ∧ Below w.heap.size w w' := by
  have q23 : ∀ (w : World) (a : Option Addr) (n c n' c' : Nat), (binOp .eql 33 (.slice a n c) (.slice none n' c')).run Tryz.prog w = .ok (.bool a.isNone) w := fun w a n c n' c' => Lib.run_eql_slice_nil w _ _ a n c n' c' Tryz.underlying33
  obtain ⟨a, c, rfl, -, -⟩ := h.form
  obtain ⟨V', W', hr, hF, hB⟩ := run_copyR h hl 33
  have HR := Lib.hid hr
  have HE := Lib.hid (And.intro hF hB)
  have HN := Lib.hid h
  obtain ⟨N, hN⟩ : ∃ N, N = l.length := ⟨_, rfl⟩
  rw [← hN] at HR HN ⊢
  clear hr hF hB h hl hN
  cases a with
  | none =>
    go_enter Tryz.func23, Tryz.ntmps23
    go_wp2
    go_ret
    have e := roa_none HN.out
    exact ⟨_, rfl, by rw [e]; exact gr_nil _ _, Below.refl _ _⟩
  | some a =>
    go_enter Tryz.func23, Tryz.ntmps23
    go_wp2_with (at_builtin; refine wpList_append_atU rfl (.tmp 5) (.tmp 6) 33 rfl _ _ rfl rfl V' W' HR.out ?_)
    go_ret
    exact ⟨_, rfl, HE.out⟩
end Go.Proofs.YtendejpkdjkmnaaGreatDoor
/- The landed New of routers walked. -/
namespace Go.Proofs.YtendejpkdjkmnaaGreatDoor
open Go.RowKit
attribute [local go_sem] store_one S_match S_store

theorem RoA.same {w w' : World} {V : Value} {l : List Rt} {b o : Nat} (h : RoA w V l b o) (hb : l ≠ [] → w'.heap[b]? = w.heap[b]?) : RoA w' V l b o :=
  ⟨h.len, h.index, fun i s hs j v hv => by
    have hne : l ≠ [] := fun e => by rw [e] at hs; simp at hs
    rw [World.cell?_of_block (w := w) (hb hne)]
    exact h.cell i s hs j v hv, h.form⟩
theorem RoA.ltW {w : World} {V : Value} {l : List Rt} {b o : Nat} (h : RoA w V l b o) (hl : l ≠ []) : b < w.heap.size := by
  cases l with
  | nil => exact absurd rfl hl
  | cons s r => exact World.block_lt_of_cell? w _ (h.cell 0 s rfl 0 _ rfl)
/-- A router, whose trie has the routes d so far, within the blocks F. -/
structure RouAt (w : World) (g gt : Nat) (T : Nat → Prop) (ents : Ents (Option Nat)) (Vr : Value) (gr : Nat) (l d : List Rt) : Prop where
  row : Row w g #[Vr, .pointer (some ⟨gt, 0, none⟩)] 61
  copy : RoA w Vr l gr 0
  rg : RgAt w T gt ents d
  gT : ¬ footR T ents g
  rT : l ≠ [] → gr ≠ g ∧ ¬ footR T ents gr
def footU (g : Nat) (T : Nat → Prop) (ents : Ents (Option Nat)) (gr : Nat) (l : List Rt) (k : Nat) : Prop := k = g ∨ (l ≠ [] ∧ k = gr) ∨ footR T ents k
section
variable {w w' : World} {g gt : Nat} {T : Nat → Prop} {ents : Ents (Option Nat)} {Vr : Value} {gr : Nat} {l d : List Rt}
theorem RouAt.lt (h : RouAt w g gt T ents Vr gr l d) : ∀ k, footU g T ents gr l k → k < w.heap.size := fun k hk => by
  rcases hk with rfl | ⟨hl, rfl⟩ | hk
  · exact h.row.lt
  · exact h.copy.ltW hl
  · exact h.rg.lt k hk
theorem RouAt.same (h : RouAt w g gt T ents Vr gr l d) (hs : w.heap.size ≤ w'.heap.size) (hb : ∀ k, footU g T ents gr l k → w'.heap[k]? = w.heap[k]?) : RouAt w' g gt T ents Vr gr l d :=
  ⟨by unfold Row; rw [hb g (.inl rfl)]; exact h.row, h.copy.same fun hl => hb gr (.inr (.inl ⟨hl, rfl⟩)), h.rg.same hs fun k hk => hb k (.inr (.inr hk)), h.gT, h.rT⟩
theorem RouAt.below (h : RouAt w g gt T ents Vr gr l d) (hb : Below w.heap.size w w') : RouAt w' g gt T ents Vr gr l d := h.same hb.size fun k hk => hb.block k (h.lt k hk)
theorem RouAt.moved {T' : Nat → Prop} {ents' : Ents (Option Nat)} {d' : List Rt} (h : RouAt w g gt T ents Vr gr l d) (hr : RgAt w' T' gt ents' d') (hm : Moves (footR T ents) (footR T' ents') w w') : RouAt w' g gt T' ents' Vr gr l d' := by
  have no : ∀ k, k < w.heap.size → ¬ footR T ents k → ¬ footR T' ents' k := fun k hk hn hf => by
    rcases hm.foot k hf with h1 | h1
    · exact hn h1
    · omega
  exact ⟨h.row.moves hm h.gT, h.copy.same fun hl => hm.rest gr (h.copy.ltW hl) (h.rT hl).2, hr, no g h.row.lt h.gT, fun hl => ⟨(h.rT hl).1, no gr (h.copy.ltW hl) (h.rT hl).2⟩⟩
end
/-- How far New has come. -/
structure NwAt (w : World) (g gt : Nat) (Vr : Value) (gr : Nat) (l : List Rt) (i : Nat) (wr : World) : Prop where
  ex : ∃ T ents, RouAt wr g gt T ents Vr gr l (l.take i) ∧ ∀ k, footU g T ents gr l k → w.heap.size ≤ k
  bel : Below w.heap.size w wr
  go : newGo [] l = newGo (l.take i) (l.drop i)
/-- One route more. -/
theorem NwAt.step {w : World} {g gt : Nat} {Vr : Value} {gr : Nat} {l : List Rt} {i : Nat} {wr : World} (h : NwAt w g gt Vr gr l i wr) {r : Rt} (hr : l[i]? = some r) (hl : l.length ≤ 32) (h1 : r.m.length ≤ 100000) (h2 : r.p.length ≤ 200) (h3 : r.text.length ≤ 1000000) (hM : MaxAt w) (cs : Array Value) :
    Calls Tryz.prog 25 #[.pointer (some ⟨g, 0, none⟩), rtV r] (wr.alloc (.cells cs 40)) fun e w' => ∃ n : Nat, e = .returned (.int .i64 (n : Int)) ∧ (n = 0 → NwAt w g gt Vr gr l (i + 1) w') ∧ (n ≠ 0 → newGo [] l = n) ∧ Below w.heap.size w w' := by
  obtain ⟨T, ents, hu, hlo⟩ := h.ex
  have hB := (Below.refl _ wr).alloc (Nat.le_refl _) (.cells cs 40)
  have hu1 := hu.below hB
  have hBw := h.bel.trans (hB.mono h.bel.size)
  have hi : i < l.length := (List.getElem?_eq_some_iff.1 hr).1
  refine (add_any hu1.rg hu1.row rfl (fun e => hu1.gT (.inl e)) (by rw [List.length_take]; omega) r h1 h2 h3 (hM.below hBw)).mono ?_
  rintro e w' ⟨rfl, T', ents', hg, hm⟩
  have hdr : l.drop i = r :: l.drop (i + 1) := by
    rw [List.drop_eq_getElem_cons hi]
    congr 1
    exact (List.getElem?_eq_some_iff.1 hr).2
  have htk : l.take i ++ [r] = l.take (i + 1) := by rw [List.take_add_one, hr]; rfl
  have hgo := h.go
  rw [hdr, newGo_add, htk] at hgo
  have hB2 : Below w.heap.size w w' := hBw.trans (hm.below (fun k hk => hlo k (.inr (.inr hk))) hBw.size)
  refine ⟨_, rfl, fun h0 => ?_, fun h0 => ?_, hB2⟩
  · rw [if_pos h0, htk] at hg
    rw [if_pos h0] at hgo
    refine ⟨⟨T', ents', hu1.moved hg hm, fun k hk => ?_⟩, hB2, hgo⟩
    rcases hk with rfl | ⟨hl, rfl⟩ | hk
    · exact hlo _ (.inl rfl)
    · exact hlo _ (.inr (.inl ⟨hl, rfl⟩))
    · rcases hm.foot k hk with h4 | h4
      · exact hlo k (.inr (.inr h4))
      · have := hBw.size; omega
  · rw [if_neg h0] at hgo
    exact hgo
/-- The landed routers, by footprints. -/
def rfU (w : World) (F : Nat → Prop) (g : Nat) (l : List Rt) : Prop := ∃ gt T ents Vr gr, RouAt w g gt T ents Vr gr l l ∧ ∀ k, F k ↔ footU g T ents gr l k
/-- What New comes to. -/
def NewIs (l : List Rt) (b : Nat) (w : World) (e : Ending) (w' : World) : Prop :=
  Below w.heap.size w w' ∧ ((newF l ≠ 0 ∧ e = .returned (.tuple #[.pointer none, .int .i64 (newF l : Int)])) ∨ (newF l = 0 ∧ ∃ g F, e = .returned (.tuple #[.pointer (some ⟨g, 0, none⟩), .int .i64 0]) ∧ rfU w' F g l ∧ ∀ k, F k → (w.heap.size ≤ k ∧ k < w'.heap.size) ∨ (l ≠ [] ∧ k = b)))
set_option maxRecDepth 100000 in
set_option maxHeartbeats 2000000 in
theorem new_any {w : World} {V : Value} {l : List Rt} {b o : Nat} (hA : RoA w V l b o) (hs : SmallRo l) (hM : MaxAt w) : Calls Tryz.prog 12 #[V] w (NewIs l b w) := by
  obtain ⟨PO, hPO⟩ : ∃ PO : Ending → World → Prop, PO = NewIs l b w := ⟨_, rfl⟩
  rw [← hPO]
  have hlp := fun w' => hA.len 3 w'
  obtain ⟨L, hL⟩ : ∃ L, L = l.length := ⟨_, rfl⟩
  rw [← hL] at hlp
  have HL := Lib.hid hL
  have HA := Lib.hid hA
  have HS := Lib.hid hs
  have HM := Lib.hid hM
  have HPO := Lib.hid hPO
  have HBAD : Hid (∀ n : Nat, newF l = n → n ≠ 0 → ∀ W, Below w.heap.size w W → PO (.returned (.tuple #[.pointer none, .int .i64 (n : Int)])) W) := Lib.hid fun n hn h0 W hB => by
    rw [HPO.out]
    exact ⟨hB, .inl ⟨by rw [hn]; exact h0, by rw [hn]⟩⟩
  have HOK : Hid (∀ g gt Vr gr wr, NwAt w g gt Vr gr l l.length wr → l.length ≤ 32 → PO (.returned (.tuple #[.pointer (some ⟨g, 0, none⟩), .int .i64 0])) wr) := Lib.hid fun g gt Vr gr wr h hl => by
    rw [HPO.out]
    obtain ⟨T, ents, hu, hlo⟩ := h.ex
    have hgo := h.go
    rw [List.drop_length, List.take_length] at hgo
    rw [List.take_length] at hu
    refine ⟨h.bel, .inr ⟨?_, g, footU g T ents gr l, rfl, ⟨gt, T, ents, Vr, gr, hu, fun k => Iff.rfl⟩, fun k hk => .inl ⟨hlo k hk, hu.lt k hk⟩⟩⟩
    unfold newF
    rw [if_neg (by omega), hgo]; rfl
  have HCL := Lib.hid (clone14_any V l b o w hA (by have := hs.1; omega))
  clear hL hs hM hPO hA
  by_cases h32 : 32 < L
  · have g1 : decide ((32 : Int) < (L : Int)) = true := decide_eq_true (by omega)
    have HE := Lib.hid (HBAD.out 6 (by unfold newF; rw [if_pos (by rw [← HL.out]; exact h32)]) (by decide) w (Below.refl _ w))
    clear h32
    go_enter Tryz.func12, Tryz.ntmps12
    go_wp2
    first | (go_ret2; exact HE.out) | exact HE.out
  · have g1 : decide ((32 : Int) < (L : Int)) = false := decide_eq_false (by omega)
    have H32 : Hid (l.length ≤ 32) := Lib.hid (by rw [← HL.out]; omega)
    have HNF : Hid (newF l = newGo [] l) := Lib.hid (by unfold newF; rw [if_neg (by have := H32.out; omega)])
    clear h32
    go_enter Tryz.func12, Tryz.ntmps12
    go_wp2_with fail
    refine HCL.out.mono ?_
    rintro e W1 ⟨Vr, rfl, hgr, hB⟩
    obtain ⟨va, vn, vc, rfl⟩ : ∃ va vn vc, Vr = .slice va vn vc := by
      obtain ⟨_, hro⟩ := hgr.roa
      obtain ⟨a, c, hv, -⟩ := hro.form
      exact ⟨a, _, c, hv⟩
    have HGR := Lib.hid hgr
    have HB1 := Lib.hid hB
    have HNT : Hid (Calls Tryz.prog 24 #[.int .i64 32] W1 fun e w' => ∃ g F, e = .returned (.pointer (some ⟨g, 0, none⟩)) ∧ RTrie vlm w' F g 32 [] ∧ (∀ k, F k → W1.heap.size ≤ k) ∧ Below W1.heap.size W1 w') := Lib.hid (newm_any 32 (by decide) W1)
    clear hgr hB
    go_wp2_with fail
    refine HNT.out.mono ?_
    rintro e W2 ⟨gt, T, rfl, hT, hTl, hB⟩
    have hB2 : Below w.heap.size w W2 := HB1.out.trans (hB.mono HB1.out.size)
    have hgr2 : GR w.heap.size (.slice va vn vc) l W2 := own_below HGR.out hB
    have H0 : Hid (∃ gr, NwAt w W2.heap.size gt (.slice va vn vc) gr l 0 (W2.alloc (.cells #[.slice va vn vc, .pointer (some ⟨gt, 0, none⟩)] 61))) := Lib.hid (by
      obtain ⟨gr, hroa⟩ := hgr2.roa
      have hBa : Below W2.heap.size W2 (W2.alloc (.cells #[.slice va vn vc, .pointer (some ⟨gt, 0, none⟩)] 61)) := (Below.refl _ W2).alloc (Nat.le_refl _) _
      have hlo : l ≠ [] → w.heap.size ≤ gr ∧ gr < W1.heap.size := fun hl => by
        obtain ⟨a, c, hv, -, ha⟩ := hroa.form
        rw [ha hl] at hv
        exact ⟨(hgr2.own_lo (by rw [hv]; rfl)).1, (HGR.out.own_lo (by rw [hv]; rfl)).2⟩
      have hTlt := hT.lt.2
      have h1s := HB1.out.size
      have h2s := hB.size
      have hft : ∀ k, footR T [] k → T k := fun k hk => hk.elim id fun ⟨e, he, _⟩ => (by cases he)
      refine ⟨gr, ⟨T, [], ⟨row_new W2 _ _, hroa.below hBa, ⟨hT.same hBa.size fun k hk => hBa.block k (hTlt k hk), wf_nil, PatsOf.nil, fun e he => (by cases he), List.Pairwise.nil⟩, fun hk => ?_, fun hl => ⟨?_, fun hk => ?_⟩⟩, fun k hk => ?_⟩, hB2.alloc hB2.size _, rfl⟩
      · have := hTlt _ (hft _ hk); omega
      · have := hlo hl; omega
      · have := hTl _ (hft _ hk); have := hlo hl; omega
      · rcases hk with rfl | ⟨hl, rfl⟩ | hk
        · omega
        · exact (hlo hl).1
        · have := hTl _ (hft _ hk); omega)
    obtain ⟨g, hg⟩ : ∃ g, g = W2.heap.size := ⟨_, rfl⟩
    rw [← hg] at H0
    have HG := Lib.hid hg
    clear hT hTl hB hB2 hgr2
    obtain ⟨gr, h0⟩ := H0.out
    have H0 := Lib.hid h0
    clear h0
    go_wp2
    rw [← HG.out]
    clear hg
    go_loopw [18] (fun iv wr => ∃ (i : Nat), i ≤ L ∧ iv = .int .i64 (i : Int) ∧ Hid (NwAt w g gt (.slice va vn vc) gr l i wr)) (fun iv _ => L - (intOf iv).toNat)
    case atStart => exact ⟨0, Nat.zero_le _, rfl, H0⟩
    case round =>
      obtain ⟨i, hi, rfl, HR⟩ := hrel
      by_cases hlt : i < L
      case neg =>
        obtain rfl : i = L := by omega
        have g2 : decide ((i : Int) < (i : Int)) = false := decide_eq_false (by omega)
        have HE := Lib.hid (HOK.out g gt (.slice va vn vc) gr wr (by have := HR.out; rwa [HL.out] at this) H32.out)
        go_wp2
        first | (go_ret2; exact HE.out) | exact HE.out
      case pos =>
        have g2 : decide ((i : Int) < (L : Int)) = true := decide_eq_true (by omega)
        have hL32 : L ≤ 32 := by rw [HL.out]; exact H32.out
        have hw1 : IntKind.i64.wrap ((i : Int) + 1) = (i : Int) + 1 := by rw [IntKind.wrap_i64]; omega
        clear hL32
        obtain ⟨r, hr⟩ : ∃ r, l[i]? = some r := ⟨l[i]'(by have := HL.out; omega), List.getElem?_eq_getElem _⟩
        have hx := HA.out.index i (by have := HL.out; omega)
        have hcell := fun j v hv => (HA.out.below HR.out.bel).cell i r hr j v hv
        have hsm := HS.out.2 r (List.mem_of_getElem? hr)
        have HSTEP := Lib.hid (HR.out.step hr H32.out (by omega) hsm.2.1 (by omega) HM.out)
        obtain ⟨m, p, k, t⟩ := r
        have c0 := hcell 0 (S m) rfl
        have c1 := hcell 1 (S p) rfl
        have c2 := hcell 2 (.int .i64 k) rfl
        have c3 := hcell 3 (S t) rfl
        obtain ⟨q, hq⟩ : ∃ q, q = o + i * 4 := ⟨_, rfl⟩
        rw [← hq] at hx c0 c1 c2 c3
        rw [Nat.add_zero] at c0
        clear hcell hr hsm hq
        unfold rtV rtC at HSTEP
        dsimp only at HSTEP c0 c1 c2 c3
        go_wp2_with fail
        refine (HSTEP.out _).mono ?_
        rintro e W ⟨n, rfl, hn0, hn1, hB⟩
        have HB := Lib.hid hB
        clear hB
        by_cases hz : n = 0
        · subst hz
          have H5 := Lib.hid (hn0 rfl)
          clear hn0 hn1
          go_wp2
          exact ⟨⟨i + 1, by omega, by go_num, H5⟩, by simp [intOf]; omega⟩
        · have HE := Lib.hid (HBAD.out n (by rw [HNF.out, hn1 hz]) hz W HB.out)
          have z1 : ((n : Int) != 0) = true := bne_iff_ne.2 (by omega)
          have z2 : ((n : Int) == 0) = false := beq_eq_false_iff_ne.2 (by omega)
          clear hn0 hn1 hz
          go_wp2
          first | (go_ret2; exact HE.out) | exact HE.out
end Go.Proofs.YtendejpkdjkmnaaGreatDoor
