/- Contracts: small, plays (for every law that plays a script). Own work. -/
import Derived.Test.YtfkjobiapjhacaaGreatDoorNewsG
namespace Go.Proofs.YtfkjobiapjhacaaGreatDoor
open Go.RowKit
attribute [local go_sem ↓] Go.wp_at_zero Go.wp_at_succ

theorem drewN_below (w : World) (n : Nat) (B : Nat) : Below B w (w.drewN n) := bdrewN (Below.refl _ _) n

/-- What a script weighs when k of its steps are counted. -/
def szTo (ops : List OpD) (k : Nat) : Int := ops.length + ((ops.take k).map (fun o => (o.s.size : Int) + o.t.size)).sum
theorem szTo_zero (ops : List OpD) : szTo ops 0 = ops.length := by simp [szTo]
theorem szTo_succ (ops : List OpD) (k : Nat) (h : k < ops.length) : szTo ops (k + 1) = szTo ops k + ops[k].s.size + ops[k].t.size := by
  unfold szTo
  rw [List.take_succ_eq_append_getElem h]
  rw [List.map_append, List.sum_append]
  simp only [List.map_cons, List.map_nil, List.sum_cons, List.sum_nil]
  omega

set_option maxRecDepth 100000 in
set_option maxHeartbeats 1000000 in
theorem small_any (v : Value) (ops : List OpD) (w : World) (hv : OpsAt w v ops) (hlm : ops.length ≤ 9223372036854775807) (hss : ∀ o ∈ ops, o.s.size ≤ 140737488355328 ∧ o.t.size ≤ 140737488355328) :
    Calls Tryz.prog 9 #[v] w fun e w' => ∃ r : Bool, e = .returned (.bool r) ∧ (r = true → ops.length ≤ 16384 ∧ szTo ops ops.length ≤ 16384) ∧ ∃ n, w' = w.drewN n := by
  obtain ⟨ao, cap, rfl, hc⟩ := hv
  have HC : Hid (ops ≠ [] → ∃ g off, ao = some ⟨g, off, none⟩ ∧ g < w.heap.size ∧ ∀ (i : Nat) (h : i < ops.length), OpAt w g (off + i * 6) ops[i]) := hc
  have HO : Hid (∀ o ∈ ops, o.s.size ≤ 140737488355328 ∧ o.t.size ≤ 140737488355328) := hss
  clear hc hss
  generalize hlen : ops.length = len at hlm ⊢
  have HL : Hid (ops.length = len) := hlen
  clear hlen
  by_cases hl : len ≤ 16384
  · go_enter Tryz.func9, Tryz.ntmps9
    go_wp2
    go_loopw [3, 4] (fun t i wr => ∃ (k : Nat) (m : Int), k ≤ len ∧ i = .int .i64 k ∧ t = .int .i64 m ∧ 0 ≤ m ∧ m ≤ 16384 ∧ ∃ n, m = szTo ops k ∧ wr = w.drewN n) (fun _ i _ => len - (intOf i).toNat)
    case atStart => exact ⟨0, len, Nat.zero_le _, rfl, rfl, by omega, by omega, 0, by rw [szTo_zero, HL.out], rfl⟩
    case round =>
      obtain ⟨k, m, hk, rfl, rfl, hm0, hm1, n, hm2, rfl⟩ := hrel
      have HM : Hid (m = szTo ops k) := hm2
      clear hm2
      by_cases hlt : k < len
      · have hlo : k < ops.length := by have := HL.out; omega
        obtain ⟨g, off, rfl, hg, hat⟩ := HC.out (by intro e; rw [e] at hlo; simp at hlo)
        have hop := hat k hlo
        obtain ⟨hO1, hO2⟩ := HO.out ops[k] (List.getElem_mem hlo)
        clear hat
        have hszT := szTo_succ ops k hlo
        generalize ops[k] = o at hop hO1 hO2 hszT
        have HT : Hid (szTo ops (k + 1) = szTo ops k + o.s.size + o.t.size) := hszT
        clear hszT
        obtain ⟨q0, q1, q2, q3, q4, q5⟩ := hop
        have hkI : (0 : Int) ≤ (k : Int) := by omega
        have hkL : (k : Int) < (len : Int) := by omega
        go_wp2
        go_quiet (fail)
        go_wp2
        · go_ret
          exact ⟨false, rfl, (fun h => by cases h), _, rfl⟩
        · go_roundw
          case rel => exact ⟨k + 1, m + o.s.size + o.t.size, by omega, by go_num, rfl, by omega, by assumption, _, (by rw [HT.out, HM.out]), rfl⟩
          case measure => simp [intOf]; omega
      · go_wp2
        go_ret
        have e : k = len := by omega
        exact ⟨true, rfl, (fun _ => ⟨hl, by rw [← e, ← HM.out]; exact hm1⟩), n, rfl⟩
  · go_enter Tryz.func9, Tryz.ntmps9
    go_wp2
    go_ret
    exact ⟨false, rfl, (fun h => by cases h), 0, rfl⟩

/-- Is a kind played, by the first m of the kinds? -/
def keepTo (ks : List Int) (k : Int) (m : Nat) : Bool := k == 1 || k == 8 || (ks.take m).any (fun x => k == x)
theorem keepTo_succ (ks : List Int) (k : Int) (m : Nat) (h : m < ks.length) : keepTo ks k (m + 1) = (keepTo ks k m || k == ks[m]) := by
  unfold keepTo
  rw [List.take_succ_eq_append_getElem h, List.any_append]
  simp [Bool.or_assoc]
def keeps (ks : List Int) (o : OpD) : Bool := keepTo ks o.k ks.length
def cellsOf (ops : List OpD) : List Value := ops.flatMap fun o => [.int .i64 o.k, .int .i64 o.a, .int .i64 o.b, .int .i64 o.c, .string o.s, .string o.t]

theorem cellsOf_length (ops : List OpD) : (cellsOf ops).length = ops.length * 6 := by
  induction ops with
  | nil => rfl
  | cons o r ih => rw [cellsOf, List.flatMap_cons, List.length_append, ← cellsOf, ih]; simp; omega
theorem cellsOf_at (ops : List OpD) (i j : Nat) (h : i < ops.length) (hj : j < 6) : (cellsOf ops)[i * 6 + j]? = ([.int .i64 ops[i].k, .int .i64 ops[i].a, .int .i64 ops[i].b, .int .i64 ops[i].c, .string ops[i].s, .string ops[i].t] : List Value)[j]? := by
  induction ops generalizing i with
  | nil => simp at h
  | cons o r ih =>
    rw [cellsOf, List.flatMap_cons, ← cellsOf]
    cases i with
    | zero =>
      rw [List.getElem?_append_left (by simp; omega)]
      simp
    | succ i =>
      rw [List.getElem?_append_right (by simp; omega)]
      have e : (i + 1) * 6 + j - ([.int .i64 o.k, .int .i64 o.a, .int .i64 o.b, .int .i64 o.c, .string o.s, .string o.t] : List Value).length = i * 6 + j := by simp; omega
      rw [e, ih i (by simpa using h)]
      simp
theorem cellsOf_snoc (ops : List OpD) (o : OpD) : cellsOf (ops ++ [o]) = cellsOf ops ++ [.int .i64 o.k, .int .i64 o.a, .int .i64 o.b, .int .i64 o.c, .string o.s, .string o.t] := by
  simp [cellsOf, List.flatMap_append]
theorem ops_of_owns {w : World} {base : Nat} {v : Value} {ops : List OpD} (h : w.ownsRow base 27 6 v ops.length (cellsOf ops)) : OpsAt w v ops := by
  obtain ⟨h1, h2⟩ := h
  rcases h2 with ⟨rfl, h0⟩ | ⟨g, cap, cur, rfl, _, hh, _, _, hs, ht⟩
  · have : ops = [] := List.eq_nil_of_length_eq_zero h0
    subst this
    exact ⟨none, 0, rfl, fun h => absurd rfl h⟩
  · refine ⟨some ⟨g, 0, none⟩, cap, rfl, fun _ => ⟨g, 0, rfl, lt_of_block hh, ?_⟩⟩
    intro i hi
    have key : ∀ j, j < 6 → w.cell? ⟨g, 0 + i * 6 + j, none⟩ = ([.int .i64 ops[i].k, .int .i64 ops[i].a, .int .i64 ops[i].b, .int .i64 ops[i].c, .string ops[i].s, .string ops[i].t] : List Value)[j]? := by
      intro j hj
      rw [← cellsOf_at ops i j hi hj, ← ht]
      simp only [World.cell?, hh]
      rw [List.getElem?_take_of_lt (by omega)]
      simp
    exact ⟨key 0 (by decide), key 1 (by decide), key 2 (by decide), key 3 (by decide), key 4 (by decide), key 5 (by decide)⟩
theorem op_one (o : OpD) : ∀ u ∈ ([.int .i64 o.k, .int .i64 o.a, .int .i64 o.b, .int .i64 o.c, .string o.s, .string o.t] : List Value), u.oneCell' = true := by
  intro u hu
  simp at hu
  rcases hu with rfl | rfl | rfl | rfl | rfl | rfl <;> rfl
theorem filter_snoc (ks : List Int) (ops : List OpD) (k : Nat) (h : k < ops.length) : (ops.take (k + 1)).filter (keeps ks) = (ops.take k).filter (keeps ks) ++ (if keeps ks ops[k] then [ops[k]] else []) := by
  rw [List.take_succ_eq_append_getElem h, List.filter_append]
  congr 1
  by_cases hk : keeps ks ops[k] = true
  · simp [hk]
  · simp [hk]

theorem info_op : (Tryz.prog.info? 27).map (fun i => (i.zero, i.size, i.bytes)) = some (some (.agg #[.int .i64 0, .int .i64 0, .int .i64 0, .int .i64 0, .string ⟨#[]⟩, .string ⟨#[]⟩]), 6, 64) := by kernel_rfl

set_option maxRecDepth 100000 in
set_option maxHeartbeats 1000000 in
theorem plays_any (v : Value) (ops : List OpD) (only : Int) (kg : Nat) (kc : Nat) (ks : List Int) (w : World) (hv : OpsAt w v ops) (hlm : ops.length ≤ 9223372036854775807) (hss : ∀ o ∈ ops, o.s.size ≤ 140737488355328 ∧ o.t.size ≤ 140737488355328)
    (hk : ∀ (i : Nat) (h : i < ks.length), w.cell? ⟨kg, i, none⟩ = some (.int .i64 ks[i])) (hkg : kg < w.heap.size) (hkl : ks.length ≤ 100)
    (hup : ∀ u W, OpsAt W u (ops.filter (keeps ks)) → (ops.filter (keeps ks)).length ≤ 16384 → szTo ops ops.length ≤ 16384 → Calls Tryz.prog 10 #[u, .int .i64 only] W fun e w' => e = .returned (.int .i64 (-1)) ∧ Below W.heap.size W w') :
    Calls Tryz.prog 8 #[v, .int .i64 only, .slice (some ⟨kg, 0, none⟩) ks.length kc] w fun e w' => e = .returned (.bool true) ∧ Below w.heap.size w w' := by
  have HV : Hid (OpsAt w v ops) := hv
  obtain ⟨ao, cap, rfl, hc⟩ := hv
  have HC : Hid (ops ≠ [] → ∃ g off, ao = some ⟨g, off, none⟩ ∧ g < w.heap.size ∧ ∀ (i : Nat) (h : i < ops.length), OpAt w g (off + i * 6) ops[i]) := hc
  have HS := small_any _ ops w HV.out hlm hss
  have HSM : Hid (Calls Tryz.prog 9 #[.slice ao ops.length cap] w fun e w' => ∃ r : Bool, e = .returned (.bool r) ∧ (r = true → ops.length ≤ 16384 ∧ szTo ops ops.length ≤ 16384) ∧ ∃ n, w' = w.drewN n) := HS
  have HU : Hid (∀ u W, OpsAt W u (ops.filter (keeps ks)) → (ops.filter (keeps ks)).length ≤ 16384 → szTo ops ops.length ≤ 16384 → Calls Tryz.prog 10 #[u, .int .i64 only] W fun e w' => e = .returned (.int .i64 (-1)) ∧ Below W.heap.size W w') := hup
  have HK : Hid (∀ (i : Nat) (h : i < ks.length), w.cell? ⟨kg, i, none⟩ = some (.int .i64 ks[i])) := hk
  clear hup hss HS HV hc hk
  obtain ⟨i0, hi0, hz0, hz1, hz2⟩ := info_parts info_op
  go_enter Tryz.func8, Tryz.ntmps8
  go_wp2_with (go_at_call 9; refine HSM.out.mono ?_; rintro e w1 ⟨r, rfl, hr, nd, rfl⟩; have HR : Hid (r = true → ops.length ≤ 16384 ∧ szTo ops ops.length ≤ 16384) := hr; clear hr; cases r)
  · go_ret
    exact ⟨rfl, drewN_below _ _ _⟩
  · obtain ⟨hl, hsz⟩ := HR.out (by trivial)
    have HZ : Hid (szTo ops ops.length ≤ 16384) := hsz
    clear hsz
    go_loopw [8, 9] (fun l i wr => ∃ (k : Nat) (lv : Value), k ≤ ops.length ∧ i = .int .i64 k ∧ lv = l ∧ wr.ownsRow w.heap.size 27 6 lv ((ops.take k).filter (keeps ks)).length (cellsOf ((ops.take k).filter (keeps ks))) ∧ Below w.heap.size w wr) (fun _ i _ => ops.length - (intOf i).toNat)
    case atStart => exact ⟨0, _, Nat.zero_le _, rfl, rfl, World.ownsRow_nil _ _ _ _, drewN_below _ _ _⟩
    case round =>
      obtain ⟨k, lv, hk, rfl, rfl, hown, hb⟩ := hrel
      by_cases hlt : k < ops.length
      · obtain ⟨g, off, rfl, hg, hat⟩ := HC.out (by intro e; rw [e] at hlt; simp at hlt)
        have hop := (hat k hlt).keep hb hg
        have hfs := filter_snoc ks ops k hlt
        have hfl : ((ops.take k).filter (keeps ks)).length ≤ k := Nat.le_trans (List.length_filter_le _ _) (by simp; omega)
        clear hat
        generalize ops[k] = o at hop hfs
        obtain ⟨q0, q1, q2, q3, q4, q5⟩ := hop
        generalize (ops.take k).filter (keeps ks) = F at hown hfs hfl
        have HF : Hid ((ops.take (k + 1)).filter (keeps ks) = F ++ (if keeps ks o then [o] else [])) := hfs
        have hsz := hb.size
        have hkI : (0 : Int) ≤ (k : Int) := by omega
        have hkL : (k : Int) < (ops.length : Int) := by omega
        have HB : Hid (Below w.heap.size w wr) := hb
        have HOW : Hid (wr.ownsRow w.heap.size 27 6 lv F.length (cellsOf F)) := hown
        have HKC : Hid (∀ (i : Nat) (h : i < ks.length), wr.cell? ⟨kg, i, none⟩ = some (.int .i64 ks[i])) := fun i h => (hb.cell (p := ⟨kg, i, none⟩) hkg).trans (HK.out i h)
        clear hb hown hfs
        have hst : keepTo ks o.k 0 = (o.k == 1 || o.k == 8) := by simp [keepTo]
        have HST : Hid (keepTo ks o.k 0 = (o.k == 1 || o.k == 8)) := hst
        clear hst
        cases hk1 : (o.k == 1)
        all_goals
          go_wp2
          go_loop [11, 12] (fun b j => ∃ m : Nat, m ≤ ks.length ∧ j = .int .i64 m ∧ b = .bool (keepTo ks o.k m)) (fun _ j => ks.length - (intOf j).toNat)
          case atStart => exact ⟨0, Nat.zero_le _, rfl, congrArg Value.bool (by rw [HST.out, hk1]; rfl)⟩
          case round =>
            obtain ⟨m, hm, rfl, rfl⟩ := hrel
            by_cases hmk : m < ks.length
            · have hcell := HKC.out m hmk
              have HS1 : Hid (keepTo ks o.k (m + 1) = (keepTo ks o.k m || o.k == ks[m])) := keepTo_succ ks o.k m hmk
              have hmI : (0 : Int) ≤ (m : Int) := by omega
              have hmL : (m : Int) < (ks.length : Int) := by omega
              generalize ks[m] = km at hcell HS1
              cases hkt : keepTo ks o.k m
              all_goals
                go_wp2
                go_round
                case rel => exact ⟨m + 1, by omega, by go_num, congrArg Value.bool (by rw [HS1.out, hkt]; simp)⟩
                case measure => simp [intOf]; omega
            · have e : m = ks.length := by omega
              subst e
              have HKE : Hid (keeps ks o = keepTo ks o.k ks.length) := rfl
              cases hkt : keepTo ks o.k ks.length
              · have HFE : Hid ((ops.take (k + 1)).filter (keeps ks) = F) := by
                  show _ = _
                  rw [HF.out, HKE.out, hkt]; simp
                go_wp2
                go_roundw
                case rel => exact ⟨k + 1, lv, by omega, by go_num, rfl, by rw [HFE.out]; exact HOW.out, HB.out⟩
                case measure => simp [intOf]; omega
              · have HFE : Hid ((ops.take (k + 1)).filter (keeps ks) = F ++ [o]) := by
                  show _ = _
                  rw [HF.out, HKE.out, hkt]; simp
                go_wp2_with (at_builtin; refine wpList_append_own _ rfl (.tmp 50) (.tmp 55) 22 rfl w.heap.size 27 i0 _ 6 64 Tryz.underlying22 hi0 hz0 hz1 hz2 rfl (by decide) lv F.length (cellsOf F) rfl (HOW.out.alloc _) ⟨wr.heap.size, 0, none⟩ 1 1 [.int .i64 o.k, .int .i64 o.a, .int .i64 o.b, .int .i64 o.c, .string o.s, .string o.t] rfl rfl (by exact World.news_of_block (heap_alloc_new wr _)) (op_one o) (by unfold maxLen; omega) (by omega) (by simp; omega) ?_; intro v' w1 hown' hgrow hnil)
                have HB1 : Hid (Below w.heap.size w w1) := (HB.out.alloc hsz _).grown hgrow (by simp; omega) (fun q e => ((HOW.out.lt) q e).1)
                have HO1 : Hid (w1.ownsRow w.heap.size 27 6 v' ((ops.take (k + 1)).filter (keeps ks)).length (cellsOf ((ops.take (k + 1)).filter (keeps ks)))) := by
                  show World.ownsRow _ _ _ _ _ _ _
                  rw [HFE.out, List.length_append, cellsOf_snoc]; exact hown'
                clear hown' hgrow hnil
                go_wp2
                go_roundw
                case rel => exact ⟨k + 1, v', by omega, by go_num, rfl, HO1.out, HB1.out⟩
                case measure => simp [intOf]; omega
      · have e : k = ops.length := by omega
        subst e
        rw [List.take_length] at hown
        have hfl : (ops.filter (keeps ks)).length ≤ 16384 := Nat.le_trans (List.length_filter_le _ _) hl
        have HB : Hid (Below w.heap.size w wr) := hb
        have hsz := hb.size
        have HOA : Hid (OpsAt wr lv (ops.filter (keeps ks))) := ops_of_owns hown
        clear hb hown
        go_wp2_with (go_at_call 10; refine (HU.out _ _ HOA.out hfl HZ.out).mono ?_; rintro e w2 ⟨rfl, hb2⟩)
        go_ret
        exact ⟨rfl, HB.out.trans (hb2.mono hsz)⟩
end Go.Proofs.YtfkjobiapjhacaaGreatDoor
