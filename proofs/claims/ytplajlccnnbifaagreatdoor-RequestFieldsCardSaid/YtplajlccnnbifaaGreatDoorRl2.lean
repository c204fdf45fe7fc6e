/- What a parser has, one by one: gets walked. -/
import Derived.Test.YtplajlccnnbifaaGreatDoorRl
namespace Go.Proofs.YtplajlccnnbifaaGreatDoor
open Go.RowKit
attribute [local go_sem] store_one S_match S_store

set_option maxRecDepth 100000 in
set_option maxHeartbeats 2000000 in
theorem gets_any {RA : World → (Nat → Prop) → Nat → PSt → Prop} {w W : World} (C : RequestI w RA) {g : Nat} {st st' : PSt} {K K0 : Nat → Prop} {L : List Rq} {V : Value} {xs : List (Rq × Value × Nat)} {base : Nat} (h : OneK RA w g st K W) (hb : st.buf.length ≤ 100000)
    (hd : Drains st L st') (hR : Reqs W base K0 V xs) (hK : ∀ k, K0 k → K k) (hx : xs.map (·.1) = L) (hfs : ∀ r ∈ L, r.fs.length ≤ 1000000) :
    Calls Tryz.prog 18 #[.pointer (some ⟨g, 0, none⟩), V] W fun e W' => e = .returned (.bool true) ∧ OneK RA w g st' K W' ∧ Same K W W' := by
  have HC := Lib.hid C
  have hlen := hR.len 3
  obtain ⟨N, hN⟩ : ∃ N, N = xs.length := ⟨_, rfl⟩
  rw [← hN] at hlen
  have HH := Lib.hid (And.intro hN (And.intro hR (And.intro hK (And.intro hx hfs))))
  have H0 := Lib.hid (And.intro h (And.intro hd hb))
  clear C hN hR hK hx h hd hb hfs
  go_enter Tryz.func18, Tryz.ntmps18
  go_wp2
  go_loopw [5] (fun iv wr => ∃ (i : Nat) (t : PSt), i ≤ N ∧ iv = .int .i64 (i : Int) ∧ Hid (OneK RA w g t K wr ∧ Same K W wr ∧ Drains t (L.drop i) st' ∧ t.buf.length ≤ 100000)) (fun iv _ => N - (intOf iv).toNat)
  case atStart => exact ⟨0, st, Nat.zero_le _, rfl, Lib.hid ⟨H0.out.1, fun _ _ => rfl, H0.out.2.1, H0.out.2.2⟩⟩
  case round =>
    obtain ⟨i, t, hi, rfl, HR⟩ := hrel
    by_cases hlt : i < N
    · have g1 : decide ((i : Int) < (N : Int)) = true := decide_eq_true (by omega)
      obtain ⟨x, hx⟩ : ∃ x, xs[i]? = some x := ⟨xs[i]'(by have := HH.out.1; omega), List.getElem?_eq_getElem _⟩
      have hLi : L.drop i = x.1 :: L.drop (i + 1) := by
        have e : L[i]? = some x.1 := by rw [← HH.out.2.2.2.1, List.getElem?_map, hx]; rfl
        obtain ⟨hl, e2⟩ := List.getElem?_eq_some_iff.1 e
        rw [List.drop_eq_getElem_cons hl, e2]
      have hd := HR.out.2.2.1
      rw [hLi] at hd
      obtain ⟨t1, hn, hd1⟩ : ∃ t1, t.next = (some x.1, t1) ∧ Drains t1 (L.drop (i + 1)) st' := by cases hd with | more hn hd1 => exact ⟨_, hn, hd1⟩
      have hRw : Reqs wr base K0 V xs := HH.out.2.1.kept (fun k hk => HR.out.2.1 k (HH.out.2.2.1 k hk)) (fun k hk => HR.out.1.lt k (HH.out.2.2.1 k hk))
      have hw1 : IntKind.i64.wrap ((i : Int) + 1) = (i : Int) + 1 := by
        have h1 := HH.out.1
        have h2 := HH.out.2.1.short
        rw [IntKind.wrap_i64]; omega
      have hfl : x.1.fs.length ≤ 1000000 := HH.out.2.2.2.2 x.1 (by rw [← HH.out.2.2.2.1]; exact List.mem_map_of_mem (List.mem_of_getElem? hx))
      obtain ⟨⟨m, p, q, v, fs, bd, cl⟩, V0, gf0⟩ := x
      dsimp only at hn hfl
      have HN := Lib.hid (And.intro hn (And.intro hd1 hfl))
      have HX := Lib.hid hx
      have HRW := Lib.hid hRw
      clear hd hn hd1 hLi hx hRw hfl
      go_wp2_with fail
      refine (HR.out.1.nextSome HC.out HR.out.2.2.2 HN.out.1).mono ?_
      rintro e W1 ⟨a, c, gf, rfl, hf, h1, hs1, _⟩
      have hlen1 := (next_len HN.out.1).2.2.1
      have hb1 : t1.buf.length ≤ 100000 := by have := HR.out.2.2.2; omega
      have HB1 := Lib.hid hb1
      clear hlen1 hb1
      unfold rqCells
      dsimp only
      obtain ⟨W2, hW2⟩ : ∃ W2, W2 = W1.alloc (.cells (rqCells m p q v (.slice a fs.length c) bd cl) 27) := ⟨_, rfl⟩
      have hB2 : Below W1.heap.size W1 W2 := by rw [hW2]; exact (Below.refl _ W1).alloc (Nat.le_refl _) _
      have hr2 : Row W2 W1.heap.size (rqCells m p q v (.slice a fs.length c) bd cl) 27 := by rw [hW2]; exact row_new _ _ _
      obtain ⟨b6, hb6⟩ : ∃ b, b = W1.heap.size := ⟨_, rfl⟩
      rw [← hb6] at hr2
      have hK1 : OneK RA w g t1 K W2 := (h1.below HC.out hB2).mono (fun k hk => .inl hk)
      have hS2 : Same K W W2 := fun k hk => ((h1.same hB2) k (.inl hk)).trans ((hs1 k hk).trans (HR.out.2.1 k hk))
      have hR2 : Reqs W2 base K0 V xs := HRW.out.kept (fun k hk => ((h1.same hB2) k (.inl (HH.out.2.2.1 k hk))).trans (hs1 k (HH.out.2.2.1 k hk))) (fun k hk => hK1.lt k (HH.out.2.2.1 k hk))
      obtain ⟨gl, ea, ec, gf2, hix, hse, hfe⟩ := hR2.get HX.out
      dsimp only at hse hfe
      have H2 := Lib.hid (And.intro hK1 (And.intro hS2 (And.intro (hf.below hB2) hfe)))
      have HSV := Lib.hid (And.intro (seven_row hr2) hse)
      have hw2 : (W1.alloc (.cells #[S m, S p, S q, .int .i64 (v : Int), .slice a fs.length c, S bd, .bool cl] 27)) = W2 := hW2.symm
      clear hf h1 hs1 hB2 hr2 hK1 hS2 hR2 hse hfe HR HX HRW
      go_wp2
      all_goals try rw [hw2]
      all_goals try rw [← hW2]
      all_goals try rw [← hb6]
      clear hw2 hW2 hb6
      obtain ⟨Wq, hWq⟩ : ∃ Wq, Wq = W2.drew := ⟨_, rfl⟩
      have hSq : SevenAt Wq b6 0 (S m) (S p) (S q) (.int .i64 (v : Int)) (.slice a fs.length c) (S bd) (.bool cl) ∧ SevenAt Wq gl (i * 7) (S m) (S p) (S q) (.int .i64 (v : Int)) (.slice ea fs.length ec) (S bd) (.bool cl) := by rw [hWq]; exact HSV.out
      have HSQ := Lib.hid hSq
      have hBq : Below W2.heap.size W2 Wq := by rw [hWq]; exact ⟨rfl, rfl, rfl, Nat.le_refl _, fun _ _ => rfl⟩
      have HQ := Lib.hid (And.intro (H2.out.1.below HC.out hBq) (And.intro (fun k (hk : K k) => (H2.out.1.same hBq k hk).trans (H2.out.2.1 k hk)) (And.intro (H2.out.2.2.1.below hBq) (H2.out.2.2.2.below hBq))))
      clear hBq
      refine wp_region_noPanic ?_
      refine wp_region_held_drew (S := fun wx => SevenAt wx b6 0 (S m) (S p) (S q) (.int .i64 (v : Int)) (.slice a fs.length c) (S bd) (.bool cl) ∧ SevenAt wx gl (i * 7) (S m) (S p) (S q) (.int .i64 (v : Int)) (.slice ea fs.length ec) (S bd) (.bool cl)) (by kernel_rfl) (by rw [hWq] at hSq; exact hSq) (fun _ => ?_)
      rw [← hWq]
      clear hWq hSq
      refine take_at (i := 0) (d := some 21) (v := .bool true) rfl (by kernel_rfl) (by kernel_rfl) (by kernel_rfl) (fun _ _ _ h => h) (fun oi ho => ?_) HSQ.out ?_
      · obtain rfl := Option.some.inj ho
        exact Or.inl ⟨by rfl, fun wx hSw => by go_simp⟩
      simp only [Act.put, List.setIfInBounds_toArray, List.set_cons_zero, List.set_cons_succ]
      refine take_at (i := 1) (d := some 22) (v := .bool false) rfl (by kernel_rfl) (by kernel_rfl) (by kernel_rfl) (fun _ _ _ h => h) (fun oi ho => ?_) HSQ.out ?_
      · obtain rfl := Option.some.inj ho
        exact Or.inl ⟨by rfl, fun wx hSw => by go_simp⟩
      simp only [Act.put, List.setIfInBounds_toArray, List.set_cons_zero, List.set_cons_succ]
      refine take_at (i := 2) (d := some 23) (v := .bool false) rfl (by kernel_rfl) (by kernel_rfl) (by kernel_rfl) (fun _ _ _ h => h) (fun oi ho => ?_) HSQ.out ?_
      · obtain rfl := Option.some.inj ho
        exact Or.inl ⟨by rfl, fun wx hSw => by go_simp⟩
      simp only [Act.put, List.setIfInBounds_toArray, List.set_cons_zero, List.set_cons_succ]
      refine take_at (i := 3) (d := some 24) (v := .agg #[S m, S p, S q, .int .i64 (v : Int), .slice a fs.length c, S bd, .bool cl]) rfl (by kernel_rfl) (by kernel_rfl) (by kernel_rfl) (fun _ _ _ h => h) (fun oi ho => ?_) HSQ.out ?_
      · obtain rfl := Option.some.inj ho
        exact Or.inl ⟨by rfl, fun wx hSw => by obtain ⟨⟨x0, x1, x2, x3, x4, x5, x6⟩, ⟨y0, y1, y2, y3, y4, y5, y6⟩⟩ := hSw; go_simp⟩
      simp only [Act.put, List.setIfInBounds_toArray, List.set_cons_zero, List.set_cons_succ]
      refine take_at (i := 4) (d := some 25) (v := V) rfl (by kernel_rfl) (by kernel_rfl) (by kernel_rfl) (fun _ _ _ h => h) (fun oi ho => ?_) HSQ.out ?_
      · obtain rfl := Option.some.inj ho
        exact Or.inl ⟨by rfl, fun wx hSw => by go_simp⟩
      simp only [Act.put, List.setIfInBounds_toArray, List.set_cons_zero, List.set_cons_succ]
      refine take_at (i := 5) (d := some 26) (v := .int .i64 (i : Int)) rfl (by kernel_rfl) (by kernel_rfl) (by kernel_rfl) (fun _ _ _ h => h) (fun oi ho => ?_) HSQ.out ?_
      · obtain rfl := Option.some.inj ho
        exact Or.inl ⟨by rfl, fun wx hSw => by go_simp⟩
      simp only [Act.put, List.setIfInBounds_toArray, List.set_cons_zero, List.set_cons_succ]
      refine take_at (i := 6) (d := some 27) (v := .pointer (some ⟨gl, i * 7, none⟩)) rfl (by kernel_rfl) (by kernel_rfl) (by kernel_rfl) (fun _ _ _ h => h) (fun oi ho => ?_) HSQ.out ?_
      · obtain rfl := Option.some.inj ho
        exact Or.inl ⟨by rfl, fun wx hSw => by go_simp⟩
      simp only [Act.put, List.setIfInBounds_toArray, List.set_cons_zero, List.set_cons_succ]
      refine take_at (i := 7) (d := some 28) (v := .agg #[S m, S p, S q, .int .i64 (v : Int), .slice ea fs.length ec, S bd, .bool cl]) rfl (by kernel_rfl) (by kernel_rfl) (by kernel_rfl) (fun _ _ _ h => h) (fun oi ho => ?_) HSQ.out ?_
      · obtain rfl := Option.some.inj ho
        exact Or.inl ⟨by rfl, fun wx hSw => by obtain ⟨⟨x0, x1, x2, x3, x4, x5, x6⟩, ⟨y0, y1, y2, y3, y4, y5, y6⟩⟩ := hSw; go_simp⟩
      simp only [Act.put, List.setIfInBounds_toArray, List.set_cons_zero, List.set_cons_succ]
      refine ready_call (i := 8) (d := some 29) (f := 22) (args := #[.agg #[S m, S p, S q, .int .i64 (v : Int), .slice a fs.length c, S bd, .bool cl], .agg #[S m, S p, S q, .int .i64 (v : Int), .slice ea fs.length ec, S bd, .bool cl]]) rfl (by kernel_rfl) (fun oi ho => ?_) ?_
      · obtain rfl := Option.some.inj ho
        exact ⟨by rfl, by go_simp⟩
      refine (dsame_true m p q bd v cl fs (.slice a fs.length c) (.slice ea fs.length ec) gf gf2 HN.out.2.2 Wq HQ.out.2.2.1 HQ.out.2.2.2).mono ?_
      rintro e W3 ⟨rfl, hB⟩
      have hS3 := And.intro (HSQ.out.1.below hB) (HSQ.out.2.below hB)
      have H3 := Lib.hid (And.intro (HQ.out.1.below HC.out hB) (fun k (hk : K k) => (HQ.out.1.same hB k hk).trans (HQ.out.2.1 k hk)))
      clear HSQ hB
      have HSQ := Lib.hid hS3
      clear hS3
      refine ⟨_, rfl, HSQ.out, ?_⟩
      simp only [Act.put, List.setIfInBounds_toArray, List.set_cons_zero, List.set_cons_succ]
      refine take_at (i := 9) (d := some 30) (v := .bool false) rfl (by kernel_rfl) (by kernel_rfl) (by kernel_rfl) (fun _ _ _ h => h) (fun oi ho => ?_) HSQ.out ?_
      · obtain rfl := Option.some.inj ho
        exact Or.inl ⟨by rfl, fun wx hSw => by go_simp⟩
      simp only [Act.put, List.setIfInBounds_toArray, List.set_cons_zero, List.set_cons_succ]
      refine take_at (i := 10) (d := some 31) (v := .bool false) rfl (by kernel_rfl) (by kernel_rfl) (by kernel_rfl) (fun _ _ _ h => h) (fun oi ho => ?_) HSQ.out ?_
      · obtain rfl := Option.some.inj ho
        exact Or.inl ⟨by rfl, fun wx hSw => by go_simp⟩
      simp only [Act.put, List.setIfInBounds_toArray, List.set_cons_zero, List.set_cons_succ]
      refine wpAnyH_done (by kernel_rfl) ?_ _
      refine NoPanic.normal ?_
      go_wp2
      exact ⟨⟨i + 1, t1, by omega, by go_num, Lib.hid ⟨H3.out.1, H3.out.2, HN.out.2.1, HB1.out⟩⟩, by simp [intOf]; omega⟩
    · obtain rfl : i = N := by omega
      have g1 : decide ((i : Int) < (i : Int)) = false := decide_eq_false (by omega)
      have hd := HR.out.2.2.1
      rw [List.drop_of_length_le (by rw [← HH.out.2.2.2.1, List.length_map]; have := HH.out.1; omega)] at hd
      have hn : t.next = (none, st') := by cases hd with | stop hn => exact hn
      have HN := Lib.hid hn
      clear hd hn
      go_wp2_with fail
      refine (HR.out.1.nextNone HC.out HR.out.2.2.2 HN.out).mono ?_
      rintro e W1 ⟨rfl, h1, hs1⟩
      unfold zeroR
      have hB2 : Below W1.heap.size W1 (W1.alloc (.cells zeroR 27)) := (Below.refl _ W1).alloc (Nat.le_refl _) _
      have H2 := Lib.hid (And.intro (h1.below HC.out hB2) (fun k (hk : K k) => ((h1.same hB2) k hk).trans ((hs1 k hk).trans (HR.out.2.1 k hk))))
      clear h1 hs1 hB2
      have hsm := dsame_true [] [] [] [] 0 false [] (.slice none 0 0) (.slice none 0 0) 0 0 (by decide) (W1.alloc (.cells zeroR 27)) (flds_nil _ 0) (flds_nil _ 0)
      have HS := Lib.hid hsm
      clear hsm
      go_wp2_with fail
      refine HS.out.mono ?_
      rintro e W3 ⟨rfl, hB⟩
      have H3 := Lib.hid (And.intro (H2.out.1.below HC.out hB) (fun k (hk : K k) => (H2.out.1.same hB k hk).trans (H2.out.2 k hk)))
      clear hB
      go_wp2
      go_ret
      exact ⟨rfl, H3.out.1, H3.out.2⟩
end Go.Proofs.YtplajlccnnbifaaGreatDoor
