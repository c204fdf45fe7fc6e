/- The landed package of chunks does what is asked of it. -/
import Derived.Test.YtocekbfnefajhaaDoorCv9
import Derived.Test.YtocekbfnefajhaaDoorCi
import Derived.Test.YtocekbfnefajhaaDoorCz
namespace Go.Proofs.YtocekbfnefajhaaDoor
open Go.RowKit
attribute [local go_sem] store_one B_match B_store S_match S_store eguard_BN nguard_BN

/-- The reader of block g stands as st. -/
def RA0 (w : World) (F : Nat → Prop) (g : Nat) (st : Cst) : Prop := ∃ x, RawAt w F g x ∧ ShpR st x ∧ st.fine
theorem shp_stop {st : Cst} {x : Raw} (h : ShpR st x) : x.nx = 4 ↔ st.stop = true := by
  obtain ⟨hp, _, _⟩ := h
  obtain ⟨ph, d⟩ := st
  cases ph with
  | done => exact ⟨fun _ => rfl, fun _ => hp.1⟩
  | bad e => exact ⟨fun _ => rfl, fun _ => hp.1⟩
  | head cur => exact ⟨fun h => by have := hp.1; omega, fun h => by cases h⟩
  | body n => exact ⟨fun h => by have := hp.1; omega, fun h => by cases h⟩
  | cr => exact ⟨fun h => by have := hp.1; omega, fun h => by cases h⟩
  | lf => exact ⟨fun h => by have := hp.1; omega, fun h => by cases h⟩
  | tail cur k f => exact ⟨fun h => by have := hp.1; omega, fun h => by cases h⟩
theorem shp_bad {st : Cst} {x : Raw} (h : ShpR st x) : x.bad = st.badN := by
  obtain ⟨hp, _, _⟩ := h
  obtain ⟨ph, d⟩ := st
  cases ph with
  | done => exact hp.2
  | bad e => exact hp.2
  | head cur => exact hp.2.2.2.2.1
  | body n => exact hp.2.2.2.2.2.1
  | cr => exact hp.2.2.2.2
  | lf => exact hp.2.2.2.2
  | tail cur k f => exact hp.2.2.2.2.1
theorem zero_raw (w : World) : RawAt (w.alloc (.cells zeroC 38)) (fun k => k = w.heap.size) w.heap.size ⟨0, [], [], 0, 0, 0, 0⟩ :=
  ⟨.slice none 0 0, .slice none 0 0, row_new w _ _, .inl ⟨rfl, rfl⟩, .inl ⟨rfl, rfl⟩, fun k hk => (by cases hk), fun k hk => (by cases hk), rfl, fun k hk => (by rw [hk, alloc_size]; omega)⟩
theorem zero_shp : ShpR Cst.new ⟨0, [], [], 0, 0, 0, 0⟩ := ⟨⟨rfl, rfl, rfl, rfl, rfl, by simp⟩, rfl, new_room⟩
theorem zeroI : ∀ w : World, RA0 (w.alloc (.cells zeroC 38)) (fun k => k = w.heap.size) w.heap.size Cst.new := fun w => ⟨_, zero_raw w, zero_shp, new_fine⟩
set_option maxRecDepth 100000 in
set_option maxHeartbeats 400000 in
theorem new11_any (w : World) : Calls Tryd.prog 11 #[] w fun e w' => ∃ g F, e = .returned (.pointer (some ⟨g, 0, none⟩)) ∧ RA0 w' F g Cst.new ∧ (∀ k, F k → w.heap.size ≤ k) ∧ Below w.heap.size w w' := by
  go_enter Tryd.func11, Tryd.ntmps11
  go_wp2
  go_ret
  exact ⟨_, _, rfl, zeroI w, fun k hk => by omega, (Below.refl _ w).alloc (Nat.le_refl _) _⟩
set_option maxRecDepth 100000 in
set_option maxHeartbeats 400000 in
theorem data16_any {w : World} {F : Nat → Prop} {g : Nat} {st : Cst} (h : RA0 w F g st) : Calls Tryd.prog 16 #[.pointer (some ⟨g, 0, none⟩)] w fun e w' => e = .returned (S st.data) ∧ Below w.heap.size w w' := by
  obtain ⟨x, ⟨vl, vb, hi⟩, hsh, _⟩ := h
  rw [← hsh.body]
  obtain ⟨⟨_, _, c2, _⟩, _⟩ := hi.cells
  have hcv : (convert 35 9 vb).run Tryd.prog w = .ok (S x.body) w := own_text Tryd.underlying9 Tryd.underlying35 Tryd.underlying5 hi.body
  clear hi hsh
  go_enter Tryd.func16, Tryd.ntmps16
  go_wp2
  go_ret
  exact ⟨rfl, Below.refl _ w⟩
set_option maxRecDepth 100000 in
set_option maxHeartbeats 400000 in
theorem done15_any {w : World} {F : Nat → Prop} {g : Nat} {st : Cst} (h : RA0 w F g st) : Calls Tryd.prog 15 #[.pointer (some ⟨g, 0, none⟩)] w fun e w' => e = .returned (.bool st.isDone) ∧ Below w.heap.size w w' := by
  obtain ⟨x, ⟨vl, vb, hi⟩, hsh, hfn⟩ := h
  have hst := shp_stop hsh
  have hbd := shp_bad hsh
  have hiff := stop_iff hfn
  have hdb := done_bad st
  obtain ⟨⟨c0, _, _, _⟩, ⟨_, _, c6⟩, _⟩ := hi.cells
  clear hi hsh hfn
  by_cases n4 : x.nx = 4
  · have q4 : ((x.nx : Int) == 4) = true := by rw [beq_iff_eq]; omega
    by_cases n0 : x.bad = 0
    · have q0 : ((x.bad : Int) == 0) = true := by rw [beq_iff_eq]; omega
      have HD : Hid (st.isDone = true) := Lib.hid (by
        rcases hiff.1 (hst.1 n4) with h | h
        · exact h
        · exact absurd (hbd.symm.trans n0) h)
      clear n4 n0 hst hbd hiff hdb
      go_enter Tryd.func15, Tryd.ntmps15
      go_wp2
      go_ret
      exact ⟨by rw [HD.out]; rfl, Below.refl _ w⟩
    · have q0 : ((x.bad : Int) == 0) = false := by rw [beq_eq_false_iff_ne]; omega
      have HD : Hid (st.isDone = false) := Lib.hid (by
        rw [Bool.eq_false_iff]
        exact fun h => n0 (hbd.trans (hdb h)))
      clear n4 n0 hst hbd hiff hdb
      go_enter Tryd.func15, Tryd.ntmps15
      go_wp2
      go_ret
      exact ⟨by rw [HD.out]; rfl, Below.refl _ w⟩
  · have q4 : ((x.nx : Int) == 4) = false := by rw [beq_eq_false_iff_ne]; omega
    have HD : Hid (st.isDone = false) := Lib.hid (by
      rw [Bool.eq_false_iff]
      exact fun h => n4 (hst.2 (hiff.2 (.inl h))))
    clear n4 hst hbd hiff hdb
    go_enter Tryd.func15, Tryd.ntmps15
    go_wp2
    go_ret
    exact ⟨by rw [HD.out]; rfl, Below.refl _ w⟩
set_option maxRecDepth 100000 in
set_option maxHeartbeats 400000 in
theorem bad18_any {w : World} {F : Nat → Prop} {g : Nat} {st : Cst} (h : RA0 w F g st) : Calls Tryd.prog 18 #[.pointer (some ⟨g, 0, none⟩)] w fun e w' => e = .returned (.int .i64 (st.badN : Int)) ∧ Below w.heap.size w w' := by
  obtain ⟨x, ⟨vl, vb, hi⟩, hsh, hfn⟩ := h
  rw [← shp_bad hsh]
  obtain ⟨_, ⟨_, _, c6⟩, _⟩ := hi.cells
  clear hi hsh hfn
  go_enter Tryd.func18, Tryd.ntmps18
  go_wp2
  go_ret
  exact ⟨rfl, Below.refl _ w⟩
set_option maxRecDepth 100000 in
set_option maxHeartbeats 1000000 in
theorem feed12_any {w : World} {F : Nat → Prop} {g : Nat} {st : Cst} (s : List UInt8) (h : RA0 w F g st) (hs : s.length ≤ 100000) :
    Calls Tryd.prog 12 #[.pointer (some ⟨g, 0, none⟩), S s] w fun e w' => e = .returned (.int .i64 ((st.run s).1 : Int)) ∧ ∃ F', RA0 w' F' g (st.run s).2 ∧ Moves F F' w w' := by
  have hlen := run_len_S (P := Tryd.prog) Tryd.underlying9 3 s
  obtain ⟨L, hL⟩ : ∃ L, L = s.length := ⟨_, rfl⟩
  rw [← hL] at hlen
  have HL := Lib.hid (And.intro hL hs)
  have H := Lib.hid h
  clear hL hs h
  go_enter Tryd.func12, Tryd.ntmps12
  go_wp2
  go_loopw [10] (fun iv wr => ∃ (i : Nat) (F' : Nat → Prop) (t : Cst), i ≤ L ∧ iv = .int .i64 (i : Int) ∧ Hid (st.run (s.take i) = (i, t) ∧ RA0 wr F' g t ∧ Moves F F' w wr)) (fun iv _ => L - (intOf iv).toNat)
  case atStart => exact ⟨0, F, st, Nat.zero_le _, rfl, Lib.hid ⟨rfl, H.out, Moves.refl F w⟩⟩
  case round =>
    obtain ⟨i, F', t, hi, rfl, HR⟩ := hrel
    have hL100 : L ≤ 100000 := by have := HL.out; omega
    by_cases hlt : i < L
    · obtain ⟨c, hc⟩ : ∃ c, s[i]? = some c := ⟨s[i]'(by have := HL.out.1; omega), List.getElem?_eq_getElem _⟩
      have hidx : ∀ w, (Instr.index 9 (S s) (.int .i64 (i : Int))).run Tryd.prog w = .ok (B c) w := fun w => index_S (P := Tryd.prog) Tryd.underlying9 s i c hc w
      obtain ⟨x, hx, hsh, hfn⟩ := HR.out.2.1
      have hst := shp_stop hsh
      obtain ⟨vl, vb, hin⟩ := hx
      obtain ⟨⟨c0, _, _, _⟩, _⟩ := hin.cells
      by_cases n4 : x.nx = 4
      · have q4 : ((x.nx : Int) == 4) = true := by rw [beq_iff_eq]; omega
        have HE : Hid (st.run s = (i, t)) := Lib.hid (by
          have e := run_append (s.take i) st (s.drop i)
          rw [List.take_append_drop, HR.out.1, run_stop (hst.1 n4)] at e
          rw [e, Nat.add_zero])
        clear hst hin hsh hfn n4 hc hidx
        go_wp2
        go_ret
        rw [HE.out]
        exact ⟨rfl, F', HR.out.2.1, HR.out.2.2⟩
      · have q4 : ((x.nx : Int) == 4) = false := by rw [beq_eq_false_iff_ne]; omega
        have hns : t.stop = false := by
          rw [Bool.eq_false_iff]; exact fun h => n4 (hst.2 h)
        have HE : Hid (st.run (s.take (i + 1)) = (i + 1, t.step c)) := Lib.hid (by
          rw [List.take_add_one, hc]
          have e := run_append (s.take i) st [c]
          rw [HR.out.1] at e
          dsimp only at e
          rw [run_cons hns] at e
          exact e)
        have H1 := Lib.hid (And.intro (⟨vl, vb, hin⟩ : RawAt _ F' g x) (And.intro (hsh.small hns) (And.intro (read_shape hsh hns c) (step_fine t c hfn))))
        have hw9 : IntKind.i64.wrap ((i : Int) + 1) = (i : Int) + 1 := by rw [IntKind.wrap_i64]; omega
        clear hst hin hsh hfn n4 hc hns
        go_wp2_with fail
        refine (read_any c H1.out.1 H1.out.2.1).mono ?_
        rintro e W2 ⟨rfl, F2, hR2, hM2⟩
        have H2 := Lib.hid (And.intro hR2 hM2)
        clear hR2 hM2
        go_wp2
        exact ⟨⟨i + 1, F2, t.step c, by omega, by go_num, Lib.hid ⟨HE.out, ⟨_, H2.out.1, H1.out.2.2.1, H1.out.2.2.2⟩, HR.out.2.2.trans H2.out.2⟩⟩, by simp [intOf]; omega⟩
    · obtain rfl : i = L := by omega
      have HE : Hid (st.run s = (i, t)) := Lib.hid (by
        have e := HR.out.1
        rw [HL.out.1, List.take_length] at e
        rw [HL.out.1]; exact e)
      go_wp2
      go_ret
      rw [HE.out]
      exact ⟨rfl, F', HR.out.2.1, HR.out.2.2⟩
set_option maxRecDepth 100000 in
set_option maxHeartbeats 400000 in
theorem feed0_any (s : List UInt8) (w : World) : Calls Tryd.prog 12 #[.pointer none, S s] w fun e w' => e = .returned (.int .i64 0) ∧ Below w.heap.size w w' := by
  go_enter Tryd.func12, Tryd.ntmps12
  go_wp2
  go_ret
  exact ⟨rfl, Below.refl _ w⟩
set_option maxRecDepth 100000 in
set_option maxHeartbeats 400000 in
theorem data0_any (w : World) : Calls Tryd.prog 16 #[.pointer none] w fun e w' => e = .returned (S []) ∧ Below w.heap.size w w' := by
  go_enter Tryd.func16, Tryd.ntmps16
  go_wp2
  go_ret
  exact ⟨rfl, Below.refl _ w⟩
set_option maxRecDepth 100000 in
set_option maxHeartbeats 400000 in
theorem done0_any (w : World) : Calls Tryd.prog 15 #[.pointer none] w fun e w' => e = .returned (.bool false) ∧ Below w.heap.size w w' := by
  go_enter Tryd.func15, Tryd.ntmps15
  go_wp2
  go_ret
  exact ⟨rfl, Below.refl _ w⟩
set_option maxRecDepth 100000 in
set_option maxHeartbeats 400000 in
theorem bad0_any (w : World) : Calls Tryd.prog 18 #[.pointer none] w fun e w' => e = .returned (.int .i64 400) ∧ Below w.heap.size w w' := by
  go_enter Tryd.func18, Tryd.ntmps18
  go_wp2
  go_ret
  exact ⟨rfl, Below.refl _ w⟩
theorem chunkI : ChunkI RA0 where
  lt := fun h => by obtain ⟨x, hx, _⟩ := h; exact hx.lt
  same := fun h hs hb => by obtain ⟨x, hx, h2⟩ := h; exact ⟨x, hx.same hs hb, h2⟩
  new := new11_any
  feed := fun s h hs => feed12_any s h hs
  data := data16_any
  done := done15_any
  bad := bad18_any
  feed0 := fun s w _ => feed0_any s w
  data0 := data0_any
  done0 := done0_any
  bad0 := bad0_any
end Go.Proofs.YtocekbfnefajhaaDoor
