/- The law's ReplyOnce (stage 10) walked. -/
import Derived.Test.YtfdbmbgpcioogaaDoorPq
namespace Go.Proofs.YtfdbmbgpcioogaaDoor
open Go.RowKit
attribute [local go_sem] store_one S_match S_store eguard_BN nguard_BN

theorem lns_sum : ∀ (n : Nat) (s cur : List UInt8), s.length ≤ n → ((lnsF cur s).map fun l => l.length + 2).sum = cur.length + s.length + 2
  | _, [], cur, _ => by rw [lnP_end]; simp
  | _, [c], cur, _ => by rw [lnP_last]; simp
  | 0, c :: d :: r, cur, h => by simp at h
  | n + 1, c :: d :: r, cur, h => by
    simp only [List.length_cons] at h
    by_cases hc : c = 13 ∧ d = 10
    · obtain ⟨rfl, rfl⟩ := hc
      rw [lnP_cut, List.map_cons, List.sum_cons, lns_sum n r [] (by omega)]
      simp; omega
    · rw [lnP_on hc, lns_sum n (d :: r) (cur ++ [c]) (by simp; omega)]
      simp; omega
theorem fsLen_snoc (fs : List Fld) (f : Fld) : fsLen (fs ++ [f]) = fsLen fs + (f.1.length + f.2.length + 4) := by
  unfold fsLen
  rw [List.map_append, List.sum_append]; simp
theorem parse_le (l : List UInt8) : (parseF l).1.length ≤ l.length ∧ (parseF l).2.1.length ≤ l.length := by
  obtain ⟨⟨n, v, ok⟩, hx⟩ : ∃ x, parseF l = x := ⟨_, rfl⟩
  rw [hx]
  cases ok with
  | true => obtain ⟨_, _, _, h4, h5, _⟩ := parse_true hx; exact ⟨h4, h5⟩
  | false => obtain ⟨h4, h5⟩ := parse_no hx; subst h4 h5; simp
theorem goP_len (code : Nat) : ∀ (ls : List (List UInt8)) (p q : Ps), goP code p ls = some q → fsLen q.fs ≤ fsLen p.fs + 2 * (ls.map fun l => l.length + 2).sum
  | [], p, q, h => by cases h; simp
  | l :: r, p, q, h => by
    rw [goP] at h
    cases hs : stepP code p l with
    | none => rw [hs] at h; cases h
    | some p1 =>
      rw [hs] at h
      have := goP_len code r p1 q h
      have hp := parse_le l
      have h1 : fsLen p1.fs ≤ fsLen p.fs + 2 * (l.length + 2) := by
        unfold stepP at hs
        split at hs
        · cases hs
        · split at hs
          · cases hz : szF (parseF l).2.1 with
            | none => rw [hz] at hs; cases hs
            | some k => rw [hz] at hs; cases hs; simp
          · split at hs
            · split at hs
              · cases hs; simp
              · cases hs
            · cases hs
              dsimp only
              rw [fsLen_snoc]
              dsimp only
              omega
      rw [List.map_cons, List.sum_cons]; omega
theorem read_small {s : List UInt8} {head : Bool} {c : Nat} {fs : List Fld} {body : List UInt8} {close : Bool} {n : Nat} (h : readF s head = .ok c fs body close n) : fsLen fs ≤ 2 * (s.length + 2) ∧ body.length ≤ s.length := by
  unfold readF at h
  cases he : endF s with
  | none => rw [he] at h; dsimp only at h; split at h <;> cases h
  | some e =>
    rw [he] at h
    dsimp only at h
    have hle := endF_le _ _ he
    cases hh : headP (lnsF [] (s.take (e - 4))) with
    | none => rw [hh] at h; cases h
    | some q =>
      obtain ⟨c', p⟩ := q
      rw [hh] at h
      dsimp only at h
      have hsum := lns_sum _ (s.take (e - 4)) [] (Nat.le_refl _)
      rw [List.length_take] at hsum
      have hp : fsLen p.fs ≤ 2 * (s.length + 2) := by
        unfold headP at hh
        cases hx : lnsF [] (s.take (e - 4)) with
        | nil => rw [hx] at hh; cases hh
        | cons l0 r =>
          rw [hx] at hh hsum
          dsimp only at hh
          split at hh
          · cases hh
          · cases hg : goP (statusF l0).1 ⟨[], 0, 0, 0⟩ r with
            | none => rw [hg] at hh; cases hh
            | some q =>
              rw [hg] at hh
              dsimp only at hh
              split at hh
              · cases hh
              · cases hh
                have := goP_len _ r _ _ hg
                have e0 : fsLen ([] : List Fld) = 0 := rfl
                dsimp only at this
                rw [e0] at this
                rw [List.map_cons, List.sum_cons] at hsum
                simp only [List.length_nil] at hsum
                omega
      unfold restP at h
      obtain ⟨k0, hk0⟩ : ∃ k0, k0 = (if head = true then 0 else p.n) := ⟨_, rfl⟩
      rw [← hk0] at h
      split at h
      · cases h
      · injection h with h2 h3 h4 h5 h6
        subst h3
        exact ⟨hp, by rw [← h4, List.length_take, List.length_drop]; omega⟩
set_option maxRecDepth 100000 in
set_option maxHeartbeats 4000000 in
theorem once10_any {w : World} (C : ReplyI w) (s : List UInt8) (head : Bool) : Calls Tryd.prog 7 #[S s, .bool head] w fun e w' => e = .returned (.bool true) ∧ Below w.heap.size w w' := by
  have HC := Lib.hid C
  have HAW := Lib.hid (awake10_any C)
  have hlS := run_len_S (P := Tryd.prog) Tryd.underlying9 3 s
  obtain ⟨L, hL⟩ : ∃ L, L = s.length := ⟨_, rfl⟩
  rw [← hL] at hlS
  have HL := Lib.hid hL
  clear C hL
  go_enter Tryd.func7, Tryd.ntmps7
  go_wp2_with fail
  refine HAW.out.mono ?_
  rintro e W1 ⟨rfl, hB⟩
  have H1 := Lib.hid hB
  clear hB HAW
  by_cases h7 : 20000 < L
  · have g1 : decide ((20000 : Int) < (L : Int)) = true := decide_eq_true (by omega)
    clear h7
    go_wp2
    go_ret
    exact ⟨rfl, H1.out⟩
  have g1 : decide ((20000 : Int) < (L : Int)) = false := decide_eq_false (by omega)
  have HL7 := Lib.hid (show s.length ≤ 20000 by have := HL.out; omega)
  clear h7
  have HD2 := Lib.hid (HC.out.read s head W1 H1.out (by have := HL7.out; omega))
  go_wp2_with fail
  refine HD2.out.mono ?_
  rintro e W2 hv
  have HB2 : Hid (Below w.heap.size w W2) := Lib.hid (H1.out.trans (hv.1.mono H1.out.size))
  clear HD2 H1
  have hzz : Hid (∀ k : Int, k = 7 ∨ k = 8 → Calls Tryd.prog 14 #[.agg #[.int .i64 0, .slice none 0 0, .string ⟨#[]⟩], .agg #[.int .i64 0, .slice none 0 0, .string ⟨#[]⟩]] (W2.alloc (.cells #[.int .i64 0, .slice none 0 0, .string ⟨#[]⟩] 29)) fun e w' => e = .returned (.bool true) ∧ Below w.heap.size w w') := Lib.hid fun k _ => by
    have hb : Below w.heap.size w (W2.alloc (.cells #[.int .i64 0, .slice none 0 0, .string ⟨#[]⟩] 29)) := HB2.out.alloc HB2.out.size _
    exact (dsame10_true 0 [] [] (.slice none 0 0) (.slice none 0 0) 0 0 0 0 (by simp) (W2.alloc (.cells #[.int .i64 0, .slice none 0 0, .string ⟨#[]⟩] 29)) (fa_nil _) (fa_nil _)).mono (by rintro e w' ⟨he, h2⟩; exact ⟨he, hb.trans (h2.mono hb.size)⟩)
  cases hR : readF s head with
  | short =>
    rw [hR] at hv
    obtain ⟨_, rfl⟩ := hv
    unfold zeroRp
    clear hR
    go_wp2_with fail
    refine (hzz.out 7 (.inl rfl)).mono ?_
    rintro e W3 ⟨rfl, hB⟩
    have H3 := Lib.hid hB
    clear hB
    go_wp2
    go_ret
    exact ⟨rfl, H3.out⟩
  | form =>
    rw [hR] at hv
    obtain ⟨_, rfl⟩ := hv
    unfold zeroRp
    clear hR
    go_wp2_with fail
    refine (hzz.out 8 (.inr rfl)).mono ?_
    rintro e W3 ⟨rfl, hB⟩
    have H3 := Lib.hid hB
    clear hB
    go_wp2
    go_ret
    exact ⟨rfl, H3.out⟩
  | ok c fs body close n =>
  clear hzz
  rw [hR] at hv
  obtain ⟨_, V, g2, rfl, hF2⟩ := hv
  obtain ⟨fa, fc, rfl⟩ := hF2.form
  obtain ⟨hns, hRP, hcc⟩ := read_ok (by have := HL7.out; omega) hR
  obtain ⟨hfl, hbl⟩ := read_small hR
  have HRL : Hid (rpLen fs body ≤ 80000 ∧ fs.length ≤ 100000) := Lib.hid (by
    have := HL7.out
    have := fsLen_count fs
    exact ⟨by unfold rpLen; omega, by omega⟩)
  obtain ⟨X, hX⟩ : ∃ X, X = bytesB (c : Int) fs body false close := ⟨_, rfl⟩
  have HBO : Hid (bytesO (c : Int) fs body false close = some X ∧ rightB (c : Int) fs body = true) := Lib.hid ⟨by unfold bytesO; rw [if_pos (may_iff.2 ⟨hRP, hcc⟩), hX], right_iff.2 hRP⟩
  have HRX : Hid (readF X false = .ok c fs body close X.length ∧ X.length ≤ 100000) := Lib.hid (by
    have := read_bytes (head := false) hRP hcc []
    rw [List.append_nil, ← hX, Int.toNat_natCast] at this
    have h2 := bytes_len (head := false) (close := close) hRP
    rw [← hX] at h2
    exact ⟨this, by have := HRL.out.1; omega⟩)
  have hn1 : decide ((n : Int) < 0) = false := decide_eq_false (by omega)
  have hn2 : decide ((L : Int) < (n : Int)) = false := decide_eq_false (by have := HL.out; omega)
  have hn3 : decide (L < n) = false := decide_eq_false (by have := HL.out; omega)
  have hn4 : n ≤ L := by have := HL.out; omega
  obtain ⟨NF, hNF⟩ : ∃ N, N = fs.length := ⟨_, rfl⟩
  have HNF := Lib.hid hNF
  obtain ⟨ci, hci⟩ : ∃ ci : Int, ci = (c : Int) := ⟨_, rfl⟩
  rw [← hci] at HBO
  have HCI := Lib.hid hci
  unfold rpC
  rw [← hNF] at hF2 ⊢
  rw [← hci]
  obtain ⟨b5, hb5⟩ : ∃ b, b = W2.heap.size := ⟨_, rfl⟩
  obtain ⟨W3, hW3⟩ : ∃ W, W = W2.alloc (.cells #[.int .i64 ci, .slice fa NF fc, S body] 29) := ⟨_, rfl⟩
  have hB3 : Below W2.heap.size W2 W3 := by rw [hW3]; exact (Below.refl _ W2).alloc (Nat.le_refl _) _
  have H3 := Lib.hid (And.intro (HB2.out.trans (hB3.mono HB2.out.size)) (And.intro (hF2.below hB3).fa (show Row W3 b5 #[.int .i64 ci, .slice fa NF fc, S body] 29 by rw [hW3, hb5]; exact row_new _ _ _)))
  have HW := Lib.hid (And.intro hW3 hb5)
  have hright := HC.out.right ci fs body (.slice fa NF fc) g2 0 W3 H3.out.1 H3.out.2.1 HRL.out.1
  rw [HBO.out.2] at hright
  unfold rpC at hright
  have HRI := Lib.hid hright
  have hbytes := fun W (h1 : Below w.heap.size w W) (h2 : FA W (.slice fa NF fc) fs g2 0) => HC.out.bytes ci fs body false close (.slice fa NF fc) g2 0 W h1 h2 HRL.out.1
  rw [HBO.out.1] at hbytes
  unfold rpC bytesV at hbytes
  dsimp only at hbytes
  have HBY := Lib.hid hbytes
  have hread := fun W (h1 : Below w.heap.size w W) => HC.out.read X false W h1 HRX.out.2
  rw [HRX.out.1] at hread
  have HRE := Lib.hid hread
  have hlX := run_len_S (P := Tryd.prog) Tryd.underlying9 3 X
  obtain ⟨LX, hLX⟩ : ∃ L, L = X.length := ⟨_, rfl⟩
  rw [← hLX] at hlX HRE
  clear hF2 hns hRP hcc hfl hbl hX hNF hci hB3 hW3 hb5 hright hbytes hread hLX hR
  go_wp2_with fail
  rw [← HW.out.1]
  refine HRI.out.mono ?_
  rintro e W4 ⟨rfl, hB⟩
  have H4 := Lib.hid (And.intro (H3.out.1.trans (hB.mono H3.out.1.size)) (And.intro (H3.out.2.1.below hB) (H3.out.2.2.below hB H3.out.2.2.lt)))
  rw [← HW.out.2]
  have c0 : W4.cell? ⟨b5, 0, none⟩ = some (.int .i64 ci) := cell_of_row W4 _ 0 _ _ (0, 0) H4.out.2.2
  have c1 : W4.cell? ⟨b5, 1, none⟩ = some (.slice fa NF fc) := cell_of_row W4 _ 1 _ _ (0, 0) H4.out.2.2
  have c2 : W4.cell? ⟨b5, 2, none⟩ = some (S body) := cell_of_row W4 _ 2 _ _ (0, 0) H4.out.2.2
  clear hB H3 HRI HW
  go_wp2_with fail
  clear c0 c1 c2
  refine (HBY.out W4 H4.out.1 H4.out.2.1).mono ?_
  rintro e W5 ⟨rfl, hB⟩
  have H5 := Lib.hid (And.intro (H4.out.1.trans (hB.mono H4.out.1.size)) (And.intro (H4.out.2.1.below hB) (H4.out.2.2.below hB H4.out.2.2.lt)))
  clear hB H4
  go_wp2_with fail
  refine (HRE.out W5 H5.out.1).mono ?_
  rintro e W6 ⟨hB6, V6, g6, rfl, hF6⟩
  obtain ⟨a6, fc6, rfl⟩ := hF6.form
  unfold rpC
  rw [← HCI.out, ← HNF.out]
  rw [← HNF.out] at hF6
  obtain ⟨b11, hb11⟩ : ∃ b, b = W6.heap.size := ⟨_, rfl⟩
  obtain ⟨W7, hW7⟩ : ∃ W, W = W6.alloc (.cells #[.int .i64 ci, .slice a6 NF fc6, S body] 29) := ⟨_, rfl⟩
  have hB7 : Below W6.heap.size W6 W7 := by rw [hW7]; exact (Below.refl _ W6).alloc (Nat.le_refl _) _
  have hB57 : Below W5.heap.size W5 W7 := hB6.trans (hB7.mono hB6.size)
  have hr11 : Row W7 b11 #[.int .i64 ci, .slice a6 NF fc6, S body] 29 := by rw [hW7, hb11]; exact row_new _ _ _
  have hr5 := H5.out.2.2.below hB57 H5.out.2.2.lt
  have hsame := dsame10_true ci body fs (.slice a6 NF fc6) (.slice fa NF fc) g6 0 g2 0 (by have := HRL.out.2; omega) W7 (hF6.below hB7).fa (H5.out.2.1.below hB57)
  unfold rpC at hsame
  have HS := Lib.hid hsame
  have H7 := Lib.hid (H5.out.1.trans (hB57.mono H5.out.1.size))
  have k0 : W7.cell? ⟨b11, 0, none⟩ = some (.int .i64 ci) := cell_of_row W7 _ 0 _ _ (0, 0) hr11
  have k1 : W7.cell? ⟨b11, 1, none⟩ = some (.slice a6 NF fc6) := cell_of_row W7 _ 1 _ _ (0, 0) hr11
  have k2 : W7.cell? ⟨b11, 2, none⟩ = some (S body) := cell_of_row W7 _ 2 _ _ (0, 0) hr11
  have m0 : W7.cell? ⟨b5, 0, none⟩ = some (.int .i64 ci) := cell_of_row W7 _ 0 _ _ (0, 0) hr5
  have m1 : W7.cell? ⟨b5, 1, none⟩ = some (.slice fa NF fc) := cell_of_row W7 _ 1 _ _ (0, 0) hr5
  have m2 : W7.cell? ⟨b5, 2, none⟩ = some (S body) := cell_of_row W7 _ 2 _ _ (0, 0) hr5
  rw [hW7] at k0 k1 k2 m0 m1 m2
  rw [hb11] at k0 k1 k2
  have b0 : ∀ w, (binOp .eql 4 (.bool close) (.bool close)).run Tryd.prog w = .ok (.bool true) w := fun w => by cases close <;> rfl
  have e1 : ((LX : Int) == (LX : Int)) = true := by simp
  clear hB6 hF6 hB7 hB57 hr11 hr5 hsame H5
  go_wp2_with fail
  rw [← hW7]
  clear k0 k1 k2 m0 m1 m2 hW7 hb11
  refine HS.out.mono ?_
  rintro e W8 ⟨rfl, hB8⟩
  have H8 := Lib.hid (H7.out.trans (hB8.mono H7.out.size))
  clear hB8
  go_wp2
  go_ret
  exact ⟨rfl, H8.out⟩
end Go.Proofs.YtfdbmbgpcioogaaDoor
