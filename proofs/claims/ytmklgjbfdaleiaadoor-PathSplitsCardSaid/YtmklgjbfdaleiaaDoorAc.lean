/- The document's Split (stage 11) walked. (mkac.py writes it.) -/
import Derived.Test.YtmklgjbfdaleiaaDoorAb
namespace Go.Proofs.YtmklgjbfdaleiaaDoor
open Go.RowKit
attribute [local go_sem] store_one B_match B_store S_match S_store eguard_BN nguard_BN

theorem conv_byteA {W : World} {b : Nat} {c : UInt8} {q : Nat} (h : Row W b #[B c] 5) : (convert 31 9 (.slice (some ⟨b, 0, none⟩) 1 q)).run Tryd.prog W = .ok (S [c]) W := by
  refine run_convert_bytes_back (P := Tryd.prog) _ 31 9 5 ⟨b, 0, none⟩ q [c] Tryd.underlying31 Tryd.underlying5 Tryd.underlying9 (fun j hj => ?_)
  obtain rfl : j = 0 := by simpa using hj
  rw [Addr.add_mid]
  exact cell_of_row _ _ 0 _ 5 (0, 0) h
theorem elemT : Elem Tryd.prog 9 := elem_of (z := .string ⟨#[]⟩) (n := 16) (by kernel_rfl) (by omega) rfl
theorem drawn_belowA {w w' : World} (h : Drawn w w') : Below w.heap.size w w' := by obtain ⟨m, rfl⟩ := h; exact ⟨rfl, rfl, rfl, Nat.le_refl _, fun _ _ => rfl⟩
theorem hexN_le {c : UInt8} (h : hexB c = true) : hexN c ≤ 15 := by
  have := all_bytes (p := fun c => !hexB c || decide (hexN c ≤ 15)) (by decide +kernel) c
  simp only [h, Bool.not_true, Bool.false_or, decide_eq_true_eq] at this
  exact this
/-- How far a path is read. -/
structure SpAt (s : List UInt8) (L i : Nat) (seg : List UInt8) (done : List (List UInt8)) : Prop where
  st : (i ≤ L ∧ okT (s.drop i) = true ∧ splitF s = (splG seg (s.drop i)).map (done ++ ·)) ∨ (i = L + 1 ∧ splitF s = some done)
  few : done.length ≤ i
  short : seg.length ≤ i
/-- Segments so far, in a slice of one's own. -/
def TxAt (w : World) (v : Value) (l : List (List UInt8)) (W : World) : Prop := Own w.heap.size v (l.map S) W ∧ Below w.heap.size w W
theorem TxAt.below {w : World} {v : Value} {l : List (List UInt8)} {W W' : World} (h : TxAt w v l W) (hb : Below W.heap.size W W') : TxAt w v l W' :=
  ⟨h.1.below hb (fun k e => (h.1.lt k e).2), h.2.trans (hb.mono h.2.size)⟩
theorem sp_end {s seg : List UInt8} {L i : Nat} {done : List (List UInt8)} (h : SpAt s L i seg done) (hi : i = L) (hL : L = s.length) : (mayS seg = false → splitF s = none) ∧ (mayS seg = true → SpAt s L (i + 1) [] (done ++ [seg])) := by
  rcases h.st with ⟨_, _, h3⟩ | ⟨h1, _⟩
  · rw [hi, hL, List.drop_length, spl_end] at h3
    refine ⟨fun hm => by rw [h3, hm]; rfl, fun hm => ⟨.inr ⟨by omega, by rw [h3, hm]; rfl⟩, by rw [List.length_append, List.length_singleton]; have := h.few; omega, by simp⟩⟩
  · omega
theorem sp_sep {s seg : List UInt8} {L i : Nat} {done : List (List UInt8)} (h : SpAt s L i seg done) (hi : i < L) {c : UInt8} (hd : s.drop i = c :: s.drop (i + 1)) (hc : c = 47) : (mayS seg = false → splitF s = none) ∧ (mayS seg = true → SpAt s L (i + 1) [] (done ++ [seg])) := by
  subst hc
  rcases h.st with ⟨_, h2, h3⟩ | ⟨h1, _⟩
  · rw [hd, okT_one (by decide)] at h2
    rw [hd, spl_sep] at h3
    refine ⟨fun hm => by rw [h3, hm]; rfl, fun hm => ⟨.inl ⟨by omega, by simp at h2; exact h2.2, ?_⟩, by rw [List.length_append, List.length_singleton]; have := h.few; omega, by simp⟩⟩
    rw [h3, if_pos hm, Option.map_map]
    congr 1
    funext k
    simp
  · omega
theorem sp_on {s seg : List UInt8} {L i : Nat} {done : List (List UInt8)} (h : SpAt s L i seg done) (hi : i < L) {c : UInt8} (hd : s.drop i = c :: s.drop (i + 1)) (hc : c ≠ 47) (hp : c ≠ 37) : SpAt s L (i + 1) (seg ++ [c]) done := by
  rcases h.st with ⟨_, h2, h3⟩ | ⟨h1, _⟩
  · rw [hd, okT_one hp] at h2
    rw [hd, spl_on hc hp] at h3
    exact ⟨.inl ⟨by omega, by simp at h2; exact h2.2, h3⟩, by have := h.few; omega, by rw [List.length_append, List.length_singleton]; have := h.short; omega⟩
  · omega
theorem sp_pct {s seg : List UInt8} {L i : Nat} {done : List (List UInt8)} (h : SpAt s L i seg done) (hi : i < L) (hL : L = s.length) {c : UInt8} (hd : s.drop i = c :: s.drop (i + 1)) (hp : c = 37) :
    ∃ x y, s[i + 1]? = some x ∧ s[i + 2]? = some y ∧ hexB x = true ∧ hexB y = true ∧ i + 3 ≤ L ∧ SpAt s L (i + 3) (seg ++ [byteH x y]) done := by
  subst hp
  rcases h.st with ⟨_, h2, h3⟩ | ⟨h1, _⟩
  · rcases okT_cases h2 with e | ⟨d, r, e, hd1, _⟩ | ⟨x, y, r, e, hx, hy, hr⟩
    · rw [hd] at e; cases e
    · rw [hd] at e; injection e with e1 _; exact absurd e1.symm hd1
    · have e1 : s.drop (i + 1) = x :: y :: r := by rw [hd] at e; injection e
      have k1 : s[i + 1]? = some x := by
        have := congrArg (fun l => l[0]?) e1
        simpa [List.getElem?_drop] using this
      have k2 : s[i + 2]? = some y := by
        have := congrArg (fun l => l[1]?) e1
        simpa [List.getElem?_drop, Nat.add_assoc] using this
      have e3 : s.drop (i + 3) = r := by
        have := congrArg (List.drop 2) e1
        rw [List.drop_drop] at this
        simpa [Nat.add_assoc] using this
      have hl := congrArg List.length e1
      rw [List.length_drop, List.length_cons, List.length_cons] at hl
      refine ⟨x, y, k1, k2, hx, hy, by omega, ⟨.inl ⟨by omega, by rw [e3]; exact hr, ?_⟩, by have := h.few; omega, by rw [List.length_append, List.length_singleton]; have := h.short; omega⟩⟩
      rw [e, spl_pct] at h3
      rw [e3]; exact h3
  · omega
set_option maxRecDepth 100000 in
set_option maxHeartbeats 2000000 in
theorem dsplit11_any (s : List UInt8) (hs : s.length ≤ 100000) (w : World) : Calls Tryd.prog 13 #[S s] w (SplitV (splitF s) w) := by
  have HT := Lib.hid fun W => (dtarget_any s hs W).mono fun e w' h => (⟨h.1, drawn_belowA h.2⟩ : e = .returned (targetV (targetF s)) ∧ Below W.heap.size W w')
  obtain ⟨⟨p, q, ok⟩, htf⟩ : ∃ x, x = targetF s := ⟨_, rfl⟩
  rw [← htf] at HT
  unfold targetV at HT
  obtain ⟨PO, hPO⟩ : ∃ PO, PO = SplitV (splitF s) w := ⟨_, rfl⟩
  rw [← hPO]
  have HNO : Hid (splitF s = none → ∀ W, Below w.heap.size w W → PO (.returned (.tuple #[.slice none 0 0, .bool false])) W) := Lib.hid fun h W hW => by
    rw [hPO, h]
    exact ⟨_, rfl, .inl ⟨rfl, rfl⟩, hW⟩
  have HYES : Hid (∀ l, splitF s = some l → ∀ V W, TxAt w V l W → PO (.returned (.tuple #[V, .bool true])) W) := Lib.hid fun l h V W hW => by
    rw [hPO, h]
    exact ⟨V, rfl, hW.1, hW.2⟩
  clear hPO
  by_cases hok : pathOk s
  case neg =>
    have HP : Hid (splitF s = none) := Lib.hid (by unfold splitF; rw [if_neg hok])
    have hno : ¬ (ok = true ∧ p = s ∧ q = []) := fun ⟨h1, h2, h3⟩ => hok (target_is.1 (by rw [← htf, h1, h2, h3]))
    have HN := Lib.hid hno
    clear hok hno htf
    go_enter Tryd.func13, Tryd.ntmps13
    go_wp2_with fail
    refine (HT.out _).mono ?_
    rintro e W1 ⟨rfl, hB⟩
    have H1 := Lib.hid hB
    clear hB
    have q1 : binOp .neq 9 (S p) (S s) = pure (.bool (p != s)) := neql_S 9 p s
    have n1 : ∀ x y, eqGuard .neq 9 x y (S p) (S s) = pure () := fun x y => nguard_S 9 x y p s
    have q2 : binOp .neq 9 (S q) (.string ⟨#[]⟩) = pure (.bool (q != [])) := neql_S 9 q []
    have n2 : ∀ x y, eqGuard .neq 9 x y (S q) (.string ⟨#[]⟩) = pure () := fun x y => nguard_S 9 x y q []
    cases ok with
    | false =>
      clear q1 q2
      go_wp2
      first | (go_ret2; exact HNO.out HP.out _ H1.out) | exact HNO.out HP.out _ H1.out
    | true =>
    by_cases hp : p = s
    case neg =>
      rw [show (p != s) = true from bne_iff_ne.2 hp] at q1
      clear hp q2
      go_wp2
      first | (go_ret2; exact HNO.out HP.out _ H1.out) | exact HNO.out HP.out _ H1.out
    rw [show (p != s) = false by rw [hp]; simp] at q1
    have hq : q ≠ [] := fun e => HN.out ⟨rfl, hp, e⟩
    rw [show (q != []) = true from bne_iff_ne.2 hq] at q2
    clear hp hq
    go_wp2
    first | (go_ret2; exact HNO.out HP.out _ H1.out) | exact HNO.out HP.out _ H1.out
  have ht := path_target hok
  rw [← htf] at ht
  injection ht with e1 e2
  injection e2 with e2 e3
  subst e1 e2 e3
  clear htf
  have q1 : binOp .neq 9 (S p) (S p) = pure (.bool false) := by rw [neql_S]; simp
  have n1 : ∀ x y, eqGuard .neq 9 x y (S p) (S p) = pure () := fun x y => nguard_S 9 x y p p
  have q2 : binOp .neq 9 (S []) (.string ⟨#[]⟩) = pure (.bool false) := neql_S 9 [] []
  have n2 : ∀ x y, eqGuard .neq 9 x y (S []) (.string ⟨#[]⟩) = pure () := fun x y => nguard_S 9 x y [] []
  have hlen := run_len_S (P := Tryd.prog) Tryd.underlying9 3 p
  obtain ⟨L, hL⟩ : ∃ L, L = p.length := ⟨_, rfl⟩
  rw [← hL] at hlen
  have hL5 : L ≤ 512 := by rw [hL]; exact hok.2.1
  have hSP : SpAt p L 1 [] [] := by
    have hp1 : 1 ≤ p.length := by
      rcases Nat.eq_zero_or_pos p.length with e | e
      · have h0 := hok.1
        rw [List.length_eq_zero_iff.1 e] at h0; cases h0
      · exact e
    refine ⟨.inl ⟨by omega, ?_, ?_⟩, by simp, by simp⟩
    · cases p with
      | nil => exact absurd hok.1 (by simp)
      | cons c r =>
        have h1 : c = 47 := by simpa using hok.1
        subst h1
        have := hok.2.2.1
        rw [okT_one (by decide)] at this
        simp at this
        exact this.2
    · unfold splitF
      rw [if_pos hok]
      simp
  have HSP := Lib.hid hSP
  have HL := Lib.hid hL
  clear hok hL hSP hs
  go_enter Tryd.func13, Tryd.ntmps13
  go_wp2_with fail
  refine (HT.out _).mono ?_
  rintro e W1 ⟨rfl, hB⟩
  have H1 := Lib.hid hB
  clear hB
  go_wp2_with fail
  clear q1 n1 q2 n2
  go_loopw [7, 8, 9] (fun lv sv iv wr => ∃ (V : Value) (done : List (List UInt8)) (seg : List UInt8) (i : Nat), lv = V ∧ sv = S seg ∧ iv = .int .i64 (i : Int) ∧ i ≤ L + 1 ∧ Hid (SpAt p L i seg done ∧ TxAt w V done wr)) (fun _ _ iv _ => L + 1 - (intOf iv).toNat)
  case atStart => exact ⟨_, [], [], 1, rfl, rfl, rfl, by omega, Lib.hid ⟨HSP.out, .inl ⟨rfl, rfl⟩, H1.out⟩⟩
  case round =>
    obtain ⟨_, done, seg, i, rfl, rfl, rfl, hi, HR⟩ := hrel
    have hsg : seg.length ≤ 513 := by have := HR.out.1.short; omega
    have hdn : done.length ≤ 513 := by have := HR.out.1.few; omega
    have hsz := HR.out.2.2.size
    have hw1 : IntKind.i64.wrap ((i : Int) + 1) = (i : Int) + 1 := by rw [IntKind.wrap_i64]; omega
    have HM := Lib.hid fun W => dmay11_any seg (by omega) W
    by_cases hle : i ≤ L
    case neg =>
      obtain rfl : i = L + 1 := by omega
      have g0 : decide ((((L + 1 : Nat) : Int)) ≤ (L : Int)) = false := decide_eq_false (by omega)
      have g0' : decide ((L : Int) + 1 ≤ (L : Int)) = false := decide_eq_false (by omega)
      have HP : Hid (splitF p = some done) := Lib.hid (by
        rcases HR.out.1.st with ⟨h1, _⟩ | ⟨_, h⟩
        · omega
        · exact h)
      have HX := Lib.hid HR.out.2
      clear hsz hw1 hdn hsg
      go_wp2
      first | (go_ret2; exact HYES.out _ HP.out _ _ HX.out) | exact HYES.out _ HP.out _ _ HX.out
    have g0 : decide ((i : Int) ≤ (L : Int)) = true := decide_eq_true (by omega)
    by_cases hiL : i = L
    case pos =>
      have g1 : ((i : Int) == (L : Int)) = true := by rw [beq_iff_eq]; omega
      have g1' : (i == L) = true := beq_iff_eq.2 hiL
      have HE := Lib.hid (sp_end HR.out.1 hiL HL.out)
      obtain ⟨m, hm⟩ : ∃ m, m = mayS seg := ⟨_, rfl⟩
      rw [← hm] at HM HE
      clear hm
      cases m with
      | false =>
        have HP : Hid (splitF p = none) := Lib.hid (HE.out.1 rfl)
        have HX := Lib.hid HR.out.2.2
        clear hsz hdn hsg
        go_wp2_with fail
        refine (HM.out _).mono ?_
        rintro e W' ⟨rfl, h5⟩
        subst h5
        go_wp2
        first | (go_ret2; exact HNO.out HP.out _ HX.out) | exact HNO.out HP.out _ HX.out
      | true =>
        have HS2 := Lib.hid (HE.out.2 rfl)
        have HTX := Lib.hid HR.out.2
        clear hsg
        go_wp2_with fail
        refine (HM.out _).mono ?_
        rintro e W' ⟨rfl, h5⟩
        subst h5
        go_wp2_with (first
          | (at_builtin; refine wpList_add rfl 22 9 (.tmp 46) (.tmp 48) rfl Tryd.underlying22 elemT w.heap.size W' _ rfl _ HTX.out.1 (S seg) rfl _ rfl rfl rfl (by simp; omega) HTX.out.2.size ?_; intro v7 W7 o2 g2 _; have H7 : Hid (TxAt w v7 (done ++ [seg]) W7) := Lib.hid ⟨by rw [List.map_append, List.map_singleton]; exact o2, HTX.out.2.grown g2 HTX.out.2.size (fun k e => (HTX.out.1.lt k e).1)⟩; clear o2 g2)
          | fail)
        exact ⟨⟨_, done ++ [seg], [], i + 1, rfl, rfl, by go_num, by omega, Lib.hid ⟨HS2.out, H7.out⟩⟩, by simp [intOf]; omega⟩
    have g1 : ((i : Int) == (L : Int)) = false := by rw [beq_eq_false_iff_ne]; omega
    have g1' : (i == L) = false := beq_eq_false_iff_ne.2 hiL
    have g1'' : decide (i = L) = false := decide_eq_false hiL
    have hlt : i < L := by omega
    obtain ⟨c, hc⟩ : ∃ c, p[i]? = some c := ⟨p[i]'(by have := HL.out; omega), List.getElem?_eq_getElem _⟩
    have hidx : ∀ w, (Instr.index 9 (S p) (.int .i64 (i : Int))).run Tryd.prog w = .ok (B c) w := fun w => index_S (P := Tryd.prog) Tryd.underlying9 p i c hc w
    have hdr : p.drop i = c :: p.drop (i + 1) := by
      rw [List.drop_eq_getElem_cons (by rw [← HL.out]; exact hlt), (List.getElem?_eq_some_iff.1 hc).2]
    have p1 := B_eqlN 5 c 47
    by_cases h47 : c = 47
    case pos =>
      rw [show ((c.toNat : Int) == 47) = true by rw [h47]; rfl] at p1
      have HE := Lib.hid (sp_sep HR.out.1 hlt hdr h47)
      clear hc hdr h47 hiL hlt
      obtain ⟨m, hm⟩ : ∃ m, m = mayS seg := ⟨_, rfl⟩
      rw [← hm] at HM HE
      clear hm
      cases m with
      | false =>
        have HP : Hid (splitF p = none) := Lib.hid (HE.out.1 rfl)
        have HX := Lib.hid HR.out.2.2
        clear hsz hdn hsg
        go_wp2_with fail
        refine (HM.out _).mono ?_
        rintro e W' ⟨rfl, h5⟩
        subst h5
        go_wp2
        first | (go_ret2; exact HNO.out HP.out _ HX.out) | exact HNO.out HP.out _ HX.out
      | true =>
        have HS2 := Lib.hid (HE.out.2 rfl)
        have HTX := Lib.hid HR.out.2
        clear hsg
        go_wp2_with fail
        refine (HM.out _).mono ?_
        rintro e W' ⟨rfl, h5⟩
        subst h5
        go_wp2_with (first
          | (at_builtin; refine wpList_add rfl 22 9 (.tmp 46) (.tmp 48) rfl Tryd.underlying22 elemT w.heap.size W' _ rfl _ HTX.out.1 (S seg) rfl _ rfl rfl rfl (by simp; omega) HTX.out.2.size ?_; intro v7 W7 o2 g2 _; have H7 : Hid (TxAt w v7 (done ++ [seg]) W7) := Lib.hid ⟨by rw [List.map_append, List.map_singleton]; exact o2, HTX.out.2.grown g2 HTX.out.2.size (fun k e => (HTX.out.1.lt k e).1)⟩; clear o2 g2)
          | fail)
        exact ⟨⟨_, done ++ [seg], [], i + 1, rfl, rfl, by go_num, by omega, Lib.hid ⟨HS2.out, H7.out⟩⟩, by simp [intOf]; omega⟩
    rw [show ((c.toNat : Int) == 47) = false from B_eqk c 47 (by decide) h47] at p1
    have p2 := B_eqlN 5 c 37
    by_cases h37 : c = 37
    case pos =>
      rw [show ((c.toNat : Int) == 37) = true by rw [h37]; rfl] at p2
      obtain ⟨x, y, hx, hy, hhx, hhy, hi3, hSP⟩ := sp_pct HR.out.1 hlt HL.out hdr h37
      have hidx1 : ∀ w, (Instr.index 9 (S p) (.int .i64 ((i : Int) + 1))).run Tryd.prog w = .ok (B x) w := fun w => by
        have := index_S (P := Tryd.prog) Tryd.underlying9 p (i + 1) x hx w
        rwa [show ((i + 1 : Nat) : Int) = (i : Int) + 1 by omega] at this
      have hidx2 : ∀ w, (Instr.index 9 (S p) (.int .i64 ((i : Int) + 2))).run Tryd.prog w = .ok (B y) w := fun w => by
        have := index_S (P := Tryd.prog) Tryd.underlying9 p (i + 2) y hy w
        rwa [show ((i + 2 : Nat) : Int) = (i : Int) + 2 by omega] at this
      have hw2 : IntKind.i64.wrap ((i : Int) + 2) = (i : Int) + 2 := by rw [IntKind.wrap_i64]; omega
      have hw3 : IntKind.i64.wrap ((i : Int) + 2 + 1) = (i : Int) + 2 + 1 := by rw [IntKind.wrap_i64]; omega
      have hw4 : IntKind.i64.wrap ((i : Int) + 3) = (i : Int) + 3 := by rw [IntKind.wrap_i64]; omega
      have hnx := hexN_le hhx
      have hny := hexN_le hhy
      have HHX := Lib.hid fun W => dhex11_any x hhx W
      have HHY := Lib.hid fun W => dhex11_any y hhy W
      obtain ⟨bt, hbt⟩ : ∃ b, b = byteH x y := ⟨_, rfl⟩
      rw [← hbt] at hSP
      unfold byteH at hbt
      obtain ⟨nx, hnx'⟩ : ∃ n, n = hexN x := ⟨_, rfl⟩
      obtain ⟨ny, hny'⟩ : ∃ n, n = hexN y := ⟨_, rfl⟩
      rw [← hnx'] at hnx HHX hbt
      rw [← hny'] at hny HHY hbt
      have hw5 : IntKind.i64.wrap (16 * (nx : Int)) = 16 * (nx : Int) := by rw [IntKind.wrap_i64]; omega
      have hw6 : IntKind.i64.wrap (16 * (nx : Int) + (ny : Int)) = ((16 * nx + ny : Nat) : Int) := by rw [IntKind.wrap_i64]; omega
      have hcv : ∀ w, (convert 3 5 (.int .i64 ((16 * nx + ny : Nat) : Int))).run Tryd.prog w = .ok (B bt) w := fun w => by
        rw [hbt]; exact conv_num (P := Tryd.prog) Tryd.underlying5 Tryd.underlying3 (16 * nx + ny) w
      have hcb : Value.int IntKind.u8 (IntKind.u8.wrap (16 * (nx : Int) + (ny : Int))) = B bt := by
        rw [hbt]; unfold B; congr 1
      have hadd : binOp .add 9 (S seg) (S [bt]) = pure (S (seg ++ [bt])) := S_add 9 seg [bt] (by show _ + 1 ≤ _; omega)
      have HSP2 := Lib.hid hSP
      have HTX := Lib.hid HR.out.2
      obtain ⟨Wq, hWq⟩ : ∃ Wq, Wq = wr.drew := ⟨_, rfl⟩
      have HQ : Hid (TxAt w u7 done Wq) := Lib.hid (HTX.out.below (by rw [hWq]; exact ⟨rfl, rfl, rfl, Nat.le_refl _, fun _ _ => rfl⟩))
      clear hc hdr h37 hx hy hhx hhy hnx' hny' hSP hbt hiL hdn h47 HR
      go_wp2
      refine wp_region_noPanic ?_
      refine wp_region_held_drew (S := fun _ => True) (by kernel_rfl) trivial (fun _ => ?_)
      rw [← hWq]
      clear hWq
      refine take_at (i := 0) (d := some 54) (v := S seg) rfl (by kernel_rfl) (by kernel_rfl) (by kernel_rfl) (fun _ _ _ h => h) (fun oi ho => ?_) trivial ?_
      · obtain rfl := Option.some.inj ho
        exact Or.inl ⟨by rfl, fun wx hSw => by go_simp⟩
      simp only [Act.put, List.setIfInBounds_toArray, List.set_cons_zero, List.set_cons_succ]
      refine take_at (i := 1) (d := some 55) (v := S p) rfl (by kernel_rfl) (by kernel_rfl) (by kernel_rfl) (fun _ _ _ h => h) (fun oi ho => ?_) trivial ?_
      · obtain rfl := Option.some.inj ho
        exact Or.inl ⟨by rfl, fun wx hSw => by go_simp⟩
      simp only [Act.put, List.setIfInBounds_toArray, List.set_cons_zero, List.set_cons_succ]
      refine take_at (i := 2) (d := some 56) (v := .int .i64 (i : Int)) rfl (by kernel_rfl) (by kernel_rfl) (by kernel_rfl) (fun _ _ _ h => h) (fun oi ho => ?_) trivial ?_
      · obtain rfl := Option.some.inj ho
        exact Or.inl ⟨by rfl, fun wx hSw => by go_simp⟩
      simp only [Act.put, List.setIfInBounds_toArray, List.set_cons_zero, List.set_cons_succ]
      refine take_at (i := 3) (d := some 57) (v := .int .i64 ((i : Int) + 1)) rfl (by kernel_rfl) (by kernel_rfl) (by kernel_rfl) (fun _ _ _ h => h) (fun oi ho => ?_) trivial ?_
      · obtain rfl := Option.some.inj ho
        exact Or.inl ⟨by rfl, fun wx hSw => by go_simp⟩
      simp only [Act.put, List.setIfInBounds_toArray, List.set_cons_zero, List.set_cons_succ]
      refine take_at (i := 4) (d := some 58) (v := B x) rfl (by kernel_rfl) (by kernel_rfl) (by kernel_rfl) (fun _ _ _ h => h) (fun oi ho => ?_) trivial ?_
      · obtain rfl := Option.some.inj ho
        exact Or.inl ⟨by rfl, fun wx hSw => by go_simp⟩
      simp only [Act.put, List.setIfInBounds_toArray, List.set_cons_zero, List.set_cons_succ]
      refine take_at (i := 7) (d := some 61) (v := S p) rfl (by kernel_rfl) (by kernel_rfl) (by kernel_rfl) (fun _ _ _ h => h) (fun oi ho => ?_) trivial ?_
      · obtain rfl := Option.some.inj ho
        exact Or.inl ⟨by rfl, fun wx hSw => by go_simp⟩
      simp only [Act.put, List.setIfInBounds_toArray, List.set_cons_zero, List.set_cons_succ]
      refine take_at (i := 8) (d := some 62) (v := .int .i64 (i : Int)) rfl (by kernel_rfl) (by kernel_rfl) (by kernel_rfl) (fun _ _ _ h => h) (fun oi ho => ?_) trivial ?_
      · obtain rfl := Option.some.inj ho
        exact Or.inl ⟨by rfl, fun wx hSw => by go_simp⟩
      simp only [Act.put, List.setIfInBounds_toArray, List.set_cons_zero, List.set_cons_succ]
      refine take_at (i := 9) (d := some 63) (v := .int .i64 ((i : Int) + 2)) rfl (by kernel_rfl) (by kernel_rfl) (by kernel_rfl) (fun _ _ _ h => h) (fun oi ho => ?_) trivial ?_
      · obtain rfl := Option.some.inj ho
        exact Or.inl ⟨by rfl, fun wx hSw => by go_simp⟩
      simp only [Act.put, List.setIfInBounds_toArray, List.set_cons_zero, List.set_cons_succ]
      refine take_at (i := 10) (d := some 64) (v := B y) rfl (by kernel_rfl) (by kernel_rfl) (by kernel_rfl) (fun _ _ _ h => h) (fun oi ho => ?_) trivial ?_
      · obtain rfl := Option.some.inj ho
        exact Or.inl ⟨by rfl, fun wx hSw => by go_simp⟩
      simp only [Act.put, List.setIfInBounds_toArray, List.set_cons_zero, List.set_cons_succ]
      refine ready_call (i := 5) (d := some 59) (f := 23) (args := #[B x]) rfl (by kernel_rfl) (fun oi ho => ?_) ?_
      · obtain rfl := Option.some.inj ho
        exact ⟨by rfl, by go_simp⟩
      refine (HHX.out Wq).mono ?_
      rintro e W5 ⟨rfl, h5⟩
      subst h5
      refine ⟨_, rfl, trivial, ?_⟩
      simp only [Act.put, List.setIfInBounds_toArray, List.set_cons_zero, List.set_cons_succ]
      refine take_at (i := 6) (d := some 60) (v := .int .i64 (16 * (nx : Int))) rfl (by kernel_rfl) (by kernel_rfl) (by kernel_rfl) (fun _ _ _ h => h) (fun oi ho => ?_) trivial ?_
      · obtain rfl := Option.some.inj ho
        exact Or.inl ⟨by rfl, fun wx hSw => by go_simp⟩
      simp only [Act.put, List.setIfInBounds_toArray, List.set_cons_zero, List.set_cons_succ]
      refine ready_call (i := 11) (d := some 65) (f := 23) (args := #[B y]) rfl (by kernel_rfl) (fun oi ho => ?_) ?_
      · obtain rfl := Option.some.inj ho
        exact ⟨by rfl, by go_simp⟩
      refine (HHY.out W5).mono ?_
      rintro e W6 ⟨rfl, h5⟩
      subst h5
      refine ⟨_, rfl, trivial, ?_⟩
      simp only [Act.put, List.setIfInBounds_toArray, List.set_cons_zero, List.set_cons_succ]
      refine take_at (i := 12) (d := some 66) (v := .int .i64 ((16 * nx + ny : Nat) : Int)) rfl (by kernel_rfl) (by kernel_rfl) (by kernel_rfl) (fun _ _ _ h => h) (fun oi ho => ?_) trivial ?_
      · obtain rfl := Option.some.inj ho
        exact Or.inl ⟨by rfl, fun wx hSw => by go_simp⟩
      simp only [Act.put, List.setIfInBounds_toArray, List.set_cons_zero, List.set_cons_succ]
      refine take_at (i := 13) (d := some 67) (v := B bt) rfl (by kernel_rfl) (by kernel_rfl) (by kernel_rfl) (fun _ _ _ h => h) (fun oi ho => ?_) trivial ?_
      · obtain rfl := Option.some.inj ho
        exact Or.inl ⟨by rfl, fun wx hSw => by go_simp⟩
      simp only [Act.put, List.setIfInBounds_toArray, List.set_cons_zero, List.set_cons_succ]
      have hc7 : ∀ q, (convert 31 9 (.slice (some ⟨W6.heap.size, 0, none⟩) 1 q)).run Tryd.prog (W6.alloc (.cells #[B bt] 5)) = .ok (S [bt]) (W6.alloc (.cells #[B bt] 5)) := fun q => conv_byteA (row_new W6 #[B bt] 5)
      have H7 : Hid (TxAt w u7 done (W6.alloc (.cells #[B bt] 5))) := Lib.hid (HQ.out.below ((Below.refl _ W6).alloc (Nat.le_refl _) _))
      refine ready_value (i := 14) (d := some 68) (v := .slice (some ⟨W6.heap.size, 0, none⟩) 1 1) (w' := (W6.alloc (.cells #[B bt] 5))) rfl (by kernel_rfl) (fun oi ho => ?_) trivial ?_
      · obtain rfl := Option.some.inj ho
        exact ⟨by rfl, by go_simp⟩
      simp only [Act.put, List.setIfInBounds_toArray, List.set_cons_zero, List.set_cons_succ]
      refine ready_value (i := 15) (d := some 69) (v := S [bt]) (w' := (W6.alloc (.cells #[B bt] 5))) rfl (by kernel_rfl) (fun oi ho => ?_) trivial ?_
      · obtain rfl := Option.some.inj ho
        exact ⟨by rfl, by go_simp⟩
      simp only [Act.put, List.setIfInBounds_toArray, List.set_cons_zero, List.set_cons_succ]
      refine take_at (i := 16) (d := some 70) (v := S (seg ++ [bt])) rfl (by kernel_rfl) (by kernel_rfl) (by kernel_rfl) (fun _ _ _ h => h) (fun oi ho => ?_) trivial ?_
      · obtain rfl := Option.some.inj ho
        exact Or.inl ⟨by rfl, fun wx hSw => by go_simp⟩
      simp only [Act.put, List.setIfInBounds_toArray, List.set_cons_zero, List.set_cons_succ]
      refine take_at (i := 17) (d := some 8) (v := S (seg ++ [bt])) rfl (by kernel_rfl) (by kernel_rfl) (by kernel_rfl) (fun _ _ _ h => h) (fun oi ho => ?_) trivial ?_
      · obtain rfl := Option.some.inj ho
        exact Or.inl ⟨by rfl, fun wx hSw => by go_simp⟩
      simp only [Act.put, List.setIfInBounds_toArray, List.set_cons_zero, List.set_cons_succ]
      refine wpAnyH_done (by kernel_rfl) ?_ _
      refine NoPanic.normal ?_
      clear hc7
      go_wp2
      exact ⟨⟨_, done, seg ++ [bt], i + 3, rfl, rfl, by go_num, by omega, Lib.hid ⟨HSP2.out, H7.out⟩⟩, by simp [intOf]; omega⟩
    rw [show ((c.toNat : Int) == 37) = false from B_eqk c 37 (by decide) h37] at p2
    have hsl : ∀ w, (Instr.slice 9 (S p) (some (.int .i64 (i : Int))) (some (.int .i64 ((i : Int) + 1))) none).run Tryd.prog w = .ok (S [c]) w := fun w => by
      have := slice_mid (P := Tryd.prog) Tryd.underlying9 p i (i + 1) (by omega) (by rw [← HL.out]; omega) w
      rw [hdr, show ((i + 1 : Nat) : Int) = (i : Int) + 1 by omega, show i + 1 - i = 1 by omega] at this
      exact this
    have hadd : binOp .add 9 (S seg) (S [c]) = pure (S (seg ++ [c])) := S_add 9 seg [c] (by show _ + 1 ≤ _; omega)
    have HSP2 := Lib.hid (sp_on HR.out.1 hlt hdr h47 h37)
    have HTX := Lib.hid HR.out.2
    clear hc hdr h47 h37 hiL
    go_wp2
    exact ⟨⟨_, done, seg ++ [c], i + 1, rfl, rfl, by go_num, by omega, Lib.hid ⟨HSP2.out, HTX.out⟩⟩, by simp [intOf]; omega⟩
end Go.Proofs.YtmklgjbfdaleiaaDoor
