/- The document's Accept, many, has (stage 17) walked. (mkdb.py writes it.) -/
import Derived.Test.YtnaekjmlikhglaaDoorDa
import Derived.Test.YtnaekjmlikhglaaDoorQv
import Derived.Test.YtnaekjmlikhglaaDoorNsR3
import Derived.Test.YtnaekjmlikhglaaDoorNbW11
namespace Go.Proofs.YtnaekjmlikhglaaDoor
open Go.RowKit
attribute [local go_sem] store_one B_match B_store S_match S_store

theorem twenty (l : List UInt8) (h : l.length = 20) : ∃ x0 x1 x2 x3 x4 x5 x6 x7 x8 x9 x10 x11 x12 x13 x14 x15 x16 x17 x18 x19 : UInt8, l = [x0, x1, x2, x3, x4, x5, x6, x7, x8, x9, x10, x11, x12, x13, x14, x15, x16, x17, x18, x19] := by
  match l, h with
  | [x0, x1, x2, x3, x4, x5, x6, x7, x8, x9, x10, x11, x12, x13, x14, x15, x16, x17, x18, x19], _ => exact ⟨_, _, _, _, _, _, _, _, _, _, _, _, _, _, _, _, _, _, _, _, rfl⟩
theorem row_text20 {W : World} {g : Nat} {l : List UInt8} {t : TypeId} (h : Row W g (bcells l) t) (hl : l.length = 20) : (convert 42 9 (.slice (some ⟨g, 0, none⟩) 20 20)).run Tryd.prog W = .ok (S l) W := by
  have := run_convert_bytes_back (P := Tryd.prog) W 42 9 5 ⟨g, 0, none⟩ 20 l Tryd.underlying42 Tryd.underlying5 Tryd.underlying9 fun j hj => by
    rw [Addr.add_mid, Nat.zero_add, h.byte l rfl j hj, List.getElem?_eq_getElem hj]; rfl
  rw [hl] at this
  exact this
theorem store_whole {W : World} {g : Nat} {Z C : Array Value} {t : TypeId} (h : Row W g Z t) (hz : Z.size = C.size) (h1 : C.all (·.oneCell') = true) : (storeCells ⟨g, 0, none⟩ C.toList).run Tryd.prog W = .ok () (W.setRow g C) := by
  have hst := run_storeCells_at Tryd.prog g 0 t C.toList 0 Z W h (by rw [Array.length_toList]; omega) (fun v hv => by
    rw [Array.all_eq_true'] at h1
    exact h1 v (by simpa using hv))
  have e : (Z.toList.take 0 ++ C.toList ++ Z.toList.drop (0 + C.toList.length)).toArray = C := by
    rw [List.take_zero, List.nil_append, List.drop_of_length_le (by rw [Array.length_toList, Array.length_toList]; omega), List.append_nil]
  simp only [Nat.add_zero, e] at hst
  exact hst
theorem bb_S (l : List UInt8) : bb.S l = S l := rfl
theorem sa_S (l : List UInt8) : sa.S l = S l := rfl
theorem sa_bcells (l : List UInt8) : sa.bcells l = bcells l := rfl
theorem sa_ref (t : List UInt8) (ht : t.length ≤ 20000) (w : World) : Calls Tryd.prog 42 #[S t] w fun e w' => e = .returned (.agg (bcells (sa.shaL t))) ∧ Below w.heap.size w w' := by
  have h := sa.ref_any t ht w
  rw [sa_S, sa_bcells] at h
  exact h
theorem bb_encode (t : List UInt8) (ht : t.length ≤ 10000) (w : World) : Calls Tryd.prog 43 #[S t] w fun e w' => e = .returned (S (bb.enc t)) ∧ Below w.heap.size w w' := by
  have h := bb.ref_encode t ht w
  rw [bb_S, bb_S] at h
  exact h
theorem bcells20 (x0 x1 x2 x3 x4 x5 x6 x7 x8 x9 x10 x11 x12 x13 x14 x15 x16 x17 x18 x19 : UInt8) : bcells [x0, x1, x2, x3, x4, x5, x6, x7, x8, x9, x10, x11, x12, x13, x14, x15, x16, x17, x18, x19] = #[B x0, B x1, B x2, B x3, B x4, B x5, B x6, B x7, B x8, B x9, B x10, B x11, B x12, B x13, B x14, B x15, B x16, B x17, B x18, B x19] := rfl
theorem sha_len (t : DTx) : (sa.shaL t).length = 20 := by unfold sa.shaL; exact sa.wbs_length _ _
set_option maxRecDepth 100000 in
set_option maxHeartbeats 1000000 in
theorem raccept_any (k : DTx) (hk : k.length ≤ 5000) (w : World) : Calls Tryd.prog 17 #[S k] w fun e w' => e = .returned (S (accF k)) ∧ Below w.heap.size w w' := by
  have ha : binOp .add 9 (S k) (.string ⟨#[50, 53, 56, 69, 65, 70, 65, 53, 45, 69, 57, 49, 52, 45, 52, 55, 68, 65, 45, 57, 53, 67, 65, 45, 67, 53, 65, 66, 48, 68, 67, 56, 53, 66, 49, 49]⟩) = pure (S (k ++ guidD)) := S_add 9 k guidD (by simp only [guidD, List.length_cons, List.length_nil]; omega)
  obtain ⟨kg, hkg⟩ : ∃ x, x = k ++ guidD := ⟨_, rfl⟩
  have hkl : kg.length ≤ 5036 := by rw [hkg, List.length_append]; simp only [guidD, List.length_cons, List.length_nil]; omega
  have hS := sa_ref kg (by omega) w
  have hlen := sha_len kg
  obtain ⟨sm, hsm⟩ : ∃ x, x = sa.shaL kg := ⟨_, rfl⟩
  have HV : Hid (accF k = bb.enc sm) := Lib.hid (by unfold accF; rw [← hkg, ← hsm])
  rw [← hsm] at hS hlen
  have HE : Hid (∀ W, Calls Tryd.prog 43 #[S sm] W fun e w' => e = .returned (S (bb.enc sm)) ∧ Below W.heap.size W w') := Lib.hid fun W => bb_encode sm (by omega) W
  rw [← hkg] at ha
  clear hkg hkl hsm
  obtain ⟨Z, hZ⟩ : ∃ z, z = sa.Z20 := ⟨_, rfl⟩
  have hz : ∀ w', (zeroValue 55).run Tryd.prog w' = .ok (.agg Z) w' := by rw [hZ]; exact sa.z22
  obtain ⟨C, hC⟩ : ∃ c, c = bcells sm := ⟨_, rfl⟩
  have hCs : C.size = 20 := by rw [hC, bcells_size, hlen]
  have HZC : Hid (Z.size = C.size) := Lib.hid (by rw [hCs, hZ]; rfl)
  have HIC : Hid ((Tryd.prog.info? 55).map (·.size) = some C.size) := Lib.hid (by rw [hCs]; exact sa.i22)
  have HC1 : Hid (C.all (·.oneCell') = true) := Lib.hid (by rw [hC]; exact bcells_one sm)
  obtain ⟨en, hen⟩ : ∃ x, x = S sm := ⟨_, rfl⟩
  have HT : Hid (∀ W : World, (convert 42 9 (.slice (some ⟨W.heap.size, 0, none⟩) 20 20)).run Tryd.prog ((W.alloc (.cells Z 55)).setRow W.heap.size C) = .ok en ((W.alloc (.cells Z 55)).setRow W.heap.size C)) := Lib.hid fun W => by
    rw [hen, hC]
    exact row_text20 (setRow_heap _ _ _ _ _ _ (row_new W _ _)) hlen
  rw [← hC] at hS
  rw [← hen] at HE
  obtain ⟨ec, hec⟩ : ∃ x, x = S (bb.enc sm) := ⟨_, rfl⟩
  rw [← hec] at HE
  rw [← HV.out] at hec
  have HEC := Lib.hid hec
  have HS := Lib.hid hS
  clear hS hlen hen hec HV hZ hC
  go_enter Tryd.func17, Tryd.ntmps17
  go_wp2_with fail
  refine HS.out.mono ?_
  rintro e W2 ⟨rfl, hB⟩
  have hcv := HT.out W2
  have HB := Lib.hid ((hB.alloc hB.size (.cells Z 55)).setRow hB.size C)
  have HRW := Lib.hid (row_new W2 Z 55)
  clear hB HS HT
  have hst : (storeCells ⟨W2.heap.size, 0, none⟩ C.toList).run Tryd.prog (W2.alloc (.cells Z 55)) = .ok () ((W2.alloc (.cells Z 55)).setRow W2.heap.size C) := store_whole HRW.out HZC.out HC1.out
  go_wp2_with fail
  clear hst hCs
  refine (HE.out _).mono ?_
  rintro e W3 ⟨rfl, hB⟩
  have HB3 := Lib.hid (HB.out.trans (hB.mono HB.out.size))
  clear hB HE hcv
  go_wp2
  go_ret
  exact ⟨by rw [← HEC.out]; rfl, HB3.out⟩
set_option maxRecDepth 100000 in
set_option maxHeartbeats 1000000 in
theorem rmany_any (V : Value) (fs : DFds) (b o : Nat) (t : DTx) (ht : t.length ≤ 100000) (hfew : fs.length ≤ 1000000) (hlong : ∀ f ∈ fs, f.1.length ≤ 100000) (w : World) (hV : FA w V fs b o) :
    Calls Tryd.prog 38 #[V, S t] w fun e w' => ∃ v, e = .returned v ∧ Own w.heap.size v ((manyF fs t).map S) w' ∧ Below w.heap.size w w' := by
  have hlen := hV.len 3
  obtain ⟨n, hn⟩ : ∃ n, n = fs.length := ⟨_, rfl⟩
  rw [← hn] at hlen hfew
  have HV := Lib.hid (And.intro hV (And.intro ht (And.intro hlong hn)))
  clear hV ht hlong hn
  go_enter Tryd.func38, Tryd.ntmps38
  go_wp2
  go_loopw [5, 6] (fun vv iv wr => ∃ k : Nat, k ≤ n ∧ iv = .int .i64 (k : Int) ∧ Hid (Own w.heap.size vv ((manyF (fs.take k) t).map S) wr ∧ Below w.heap.size w wr)) (fun _ iv _ => n - (intOf iv).toNat)
  case atStart => exact ⟨0, Nat.zero_le _, rfl, Lib.hid ⟨.inl ⟨rfl, rfl⟩, Below.refl _ _⟩⟩
  case round =>
    obtain ⟨k, hk, rfl, HI⟩ := hrel
    by_cases hlt : k < n
    · have hlt2 : decide ((k : Int) < (n : Int)) = true := decide_eq_true (by omega)
      have hVr := HV.out.1.below HI.out.2
      have hkl : k < fs.length := by rw [← HV.out.2.2.2]; exact hlt
      obtain ⟨⟨nk, vk⟩, hf⟩ : ∃ f, fs[k]? = some f := ⟨fs[k], List.getElem?_eq_getElem hkl⟩
      have hix := hVr.index k hkl
      obtain ⟨c0, c1⟩ := hVr.cell k _ hf
      dsimp only at c0 c1
      have HA := Lib.hid fun W => alike_any nk t (HV.out.2.2.1 _ (List.mem_of_getElem? hf)) HV.out.2.1 W
      have HG : Hid (manyF (fs.take (k + 1)) t = manyF (fs.take k) t ++ (if alikeF nk t = true then [vk] else [])) := Lib.hid (by
        rw [List.take_add_one, hf, Option.toList_some, many_app, many_cons, many_nil, List.append_nil])
      have hw2 : IntKind.i64.wrap ((k : Int) + 1) = (k : Int) + 1 := by rw [IntKind.wrap_i64]; omega
      have hml := many_len (fs.take k) t
      rw [List.length_take] at hml
      obtain ⟨l, hl⟩ : ∃ l, l = manyF (fs.take k) t := ⟨_, rfl⟩
      rw [← hl] at HI HG hml
      generalize o + k * 2 = q at *
      have HC : Hid (∀ W, Drawn wr W → W.cell? ⟨b, q, none⟩ = some (S nk) ∧ W.cell? ⟨b, q + 1, none⟩ = some (S vk)) := Lib.hid fun W hD => by rw [hD.cell, hD.cell]; exact ⟨c0, c1⟩
      have hll : (l.map S).length < 1000000000000 := by rw [List.length_map]; omega
      clear hVr hkl hf c1 hl
      cases hal : alikeF nk t with
      | false =>
        rw [hal] at HA HG
        go_wp2_with fail
        refine (HA.out wr).mono ?_
        rintro e W2 ⟨rfl, hD⟩
        have HE : Hid (Own w.heap.size u5 ((manyF (fs.take (k + 1)) t).map S) W2 ∧ Below w.heap.size w W2) := Lib.hid (by
          rw [HG.out]
          simp only [Bool.false_eq_true, if_false, List.append_nil]
          exact ⟨HI.out.1.of_block hD.below.size (fun j hj => by rw [hD.heap]), HI.out.2.trans (hD.below.mono HI.out.2.size)⟩)
        clear hD HA HG HI HC c0 hix hlen hll hml
        go_wp2
        exact ⟨⟨k + 1, by omega, by go_num, HE⟩, by simp [intOf]; omega⟩
      | true =>
        rw [hal] at HA HG
        go_wp2_with fail
        refine (HA.out wr).mono ?_
        rintro e W2 ⟨rfl, hD⟩
        obtain ⟨d0, d1⟩ := HC.out W2 hD
        have hO2 : Own w.heap.size u5 (l.map S) W2 := HI.out.1.of_block hD.below.size (fun j hj => by rw [hD.heap])
        have hB2 : Below w.heap.size w W2 := HI.out.2.trans (hD.below.mono HI.out.2.size)
        have HO := Lib.hid (And.intro hO2 hB2)
        have hsz := hB2.size
        clear hD HA HI HC c0 hB2
        go_wp2_with (at_builtin; refine wpList_add rfl 50 9 (.tmp 20) (.tmp 26) rfl Tryd.underlying50 elem9 w.heap.size W2 _ rfl (l.map S) hO2 (S vk) rfl _ rfl rfl rfl hll hsz ?_; intro v' W3 o3 g3 _)
        exact ⟨⟨k + 1, by omega, by go_num, Lib.hid ⟨by rw [HG.out, List.map_append]; exact o3, HO.out.2.grown g3 hsz (fun j e => (HO.out.1.lt j e).1)⟩⟩, by simp [intOf]; omega⟩
    · obtain rfl : k = n := by omega
      have hlt2 : decide ((k : Int) < (k : Int)) = false := decide_eq_false (by omega)
      have HE : Hid (Own w.heap.size u5 ((manyF fs t).map S) wr ∧ Below w.heap.size w wr) := Lib.hid (by
        have := HI.out
        rw [HV.out.2.2.2, List.take_length] at this
        exact this)
      clear HI
      go_wp2
      go_ret
      exact ⟨_, rfl, HE.out⟩
set_option maxRecDepth 100000 in
set_option maxHeartbeats 1000000 in
theorem rhas_any (v : Value) (l : List DTx) (base : Nat) (t : DTx) (ht : t.length ≤ 100000) (hfew : l.length ≤ 1000000) (hlong : ∀ x ∈ l, x.length ≤ 100000) (w : World) (hv : Own base v (l.map S) w) :
    Calls Tryd.prog 39 #[v, S t] w fun e w' => e = .returned (.bool (hasAny l t)) ∧ Below w.heap.size w w' := by
  have hlen := own_len hv 50 9 3 Tryd.underlying50
  rw [List.length_map] at hlen
  obtain ⟨ad, hix, hcl⟩ := own_cells (P := Tryd.prog) hv Tryd.underlying50 (fun w => by go_simp)
  rw [List.length_map] at hix hcl
  obtain ⟨n, hn⟩ : ∃ n, n = l.length := ⟨_, rfl⟩
  rw [← hn] at hlen hfew hix hcl
  have HV := Lib.hid (And.intro hix (And.intro hcl (And.intro hlong (And.intro hn ht))))
  clear hv hlong hn hix hcl ht
  go_enter Tryd.func39, Tryd.ntmps39
  go_wp2
  go_loopw [5] (fun iv wr => ∃ k : Nat, k ≤ n ∧ iv = .int .i64 (k : Int) ∧ Hid (hasAny (l.take k) t = false ∧ Below w.heap.size w wr)) (fun iv _ => n - (intOf iv).toNat)
  case atStart => exact ⟨0, Nat.zero_le _, rfl, Lib.hid ⟨rfl, Below.refl _ _⟩⟩
  case round =>
    obtain ⟨k, hk, rfl, HI⟩ := hrel
    by_cases hlt : k < n
    · have hlt2 : decide ((k : Int) < (n : Int)) = true := decide_eq_true (by omega)
      obtain ⟨h1, h2, h3, h4, h5⟩ := HV.out
      obtain ⟨x, hx⟩ : ∃ x, l[k]? = some x := ⟨l[k]'(by omega), List.getElem?_eq_getElem (by omega)⟩
      have hix := h1 k hlt
      obtain ⟨c1, _, c3, _⟩ := h2 k hlt
      rw [List.getElem?_map, hx, Option.map_some] at c3
      have c0 : wr.cell? (ad k) = some (S x) := by rw [HI.out.2.cell c1]; exact c3
      have HA := Lib.hid (has_any x t (h3 _ (List.mem_of_getElem? hx)) h5 wr)
      have HN : Hid (hasAny (l.take (k + 1)) t = hasF x t) := Lib.hid (any_take_next hx HI.out.1)
      have HY : Hid (hasF x t = true → hasAny l t = true) := Lib.hid fun e => List.any_eq_true.2 ⟨x, List.mem_of_getElem? hx, e⟩
      have hw2 : IntKind.i64.wrap ((k : Int) + 1) = (k : Int) + 1 := by rw [IntKind.wrap_i64]; omega
      generalize ad k = ak at *
      clear h1 h2 h3 h4 h5 c1 c3 hx
      cases hh : hasF x t with
      | false =>
        rw [hh] at HA HN
        go_wp2_with fail
        refine HA.out.mono ?_
        rintro e W2 ⟨rfl, hB⟩
        have HE : Hid (hasAny (l.take (k + 1)) t = false ∧ Below w.heap.size w W2) := Lib.hid ⟨HN.out, HI.out.2.trans (hB.mono HI.out.2.size)⟩
        clear hB HA HI HN HY c0 hix hlen
        go_wp2
        exact ⟨⟨k + 1, by omega, by go_num, HE⟩, by simp [intOf]; omega⟩
      | true =>
        have HYY := Lib.hid (HY.out hh)
        rw [hh] at HA
        clear hh
        go_wp2_with fail
        refine HA.out.mono ?_
        rintro e W2 ⟨rfl, hB⟩
        have HE := Lib.hid (HI.out.2.trans (hB.mono HI.out.2.size))
        clear hB HA HI HN HY c0 hix hlen
        go_wp2
        go_ret
        exact ⟨by rw [HYY.out]; rfl, HE.out⟩
    · obtain rfl : k = n := by omega
      have hlt2 : decide ((k : Int) < (k : Int)) = false := decide_eq_false (by omega)
      have HE : Hid (hasAny l t = false ∧ Below w.heap.size w wr) := Lib.hid (by
        have := HI.out
        rw [HV.out.2.2.2.1, List.take_length] at this
        exact this)
      clear HI
      go_wp2
      go_ret
      exact ⟨by rw [HE.out.1]; rfl, HE.out.2⟩
end Go.Proofs.YtnaekjmlikhglaaDoor
