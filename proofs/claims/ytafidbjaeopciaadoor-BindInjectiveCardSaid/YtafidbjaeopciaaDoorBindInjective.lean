/-
  Whatever the calls, BindInjective answers true and its argument reads as it did: no two bindings have one inner, or one outer endpoint. No condition.
-/
import Derived.Test.YtafidbjaeopciaaDoorRows
import Derived.WalkKit
import Derived.ProofKit
import Derived.OpenShut
import Derived.ChangeOld
import Derived.Below
import Derived.Test.YtafidbjaeopciaaDoorBb3
import Derived.Test.YtafidbjaeopciaaDoorBb11
import Derived.Test.YtafidbjaeopciaaDoorCards
import Derived.LaidMore
import Derived.SevenTiedAt
import Derived.Stop.Joined
namespace Go.Proofs.YtafidbjaeopciaaDoor.bindInjective
open Go.ChangeShapes Go.WideShapes Go.ChangeAt Go.RowKit
set_option linter.unusedVariables false
attribute [local go_sem] Oper.semAt_some

theorem own : ownKnob Tryd.prog.godebug = none := by kernel_rfl
theorem laidOut : laidOutB Tryd.prog = true := by kernel_rfl

/-! ### The walk -/
set_option maxRecDepth 100000 in
set_option maxHeartbeats 4000000 in
theorem walk (A0 : Option Addr) (c0 : Nat) (l0 : List Dob) (w : World) (h0 : RdS clDob 10 w w.heap.size A0 l0) (e0 : ∀ y ∈ l0, dobFit y) (n0 : l0.length ≤ c0) (m0 : c0 ≤ maxLen) (hT : Tabs w) :
    Calls Tryd.prog 4 #[.slice A0 l0.length c0] w fun e w' => e = .returned (.bool true) ∧ Below w.heap.size w w' := by
  obtain ⟨n, hn⟩ : ∃ n, n = l0.length := ⟨_, rfl⟩
  have HN := Lib.hid hn
  have HE0 := Lib.hid e0
  have HR0 := Lib.hid h0
  have hcap : n ≤ c0 := by rw [hn]; exact n0
  rw [← hn]
  clear hn e0 h0 n0
  have hb0 : Below w.heap.size w (w.alloc (.cells #[.bool false] 4)) := (Below.refl _ w).alloc (Nat.le_refl _) _
  have hr0 : Boxed (w.alloc (.cells #[.bool false] 4)) w.heap.size 4 (.bool false) := Boxed.new w 4 (.bool false)
  have hT0 := hT.step hb0
  obtain ⟨V0, hV0⟩ : ∃ V0, V0 = w.alloc (.cells #[.bool false] 4) := ⟨_, rfl⟩
  have HV0 := Lib.hid (show w.alloc (.cells #[.bool false] 4) = V0 from hV0.symm)
  rw [← hV0] at hb0 hr0 hT0
  clear hV0
  refine (callsIn_wide (n := 4)).1 ?_
  refine callsIn_of_wp_marks Tryd.func4 rfl trivial ?_ rfl
  simp only [Tryd.ntmps4, List.size_toArray, List.length_cons, List.length_nil, Nat.reduceAdd, Nat.reduceSub, Array.replicate_succ, Array.replicate_zero, List.push_toArray, List.append_toArray, List.nil_append, List.cons_append]
  gi_upto_region 1 with fail
  rw [HV0.out]
  gi_upto_region 3 with (refine ⟨trivial, ?_⟩; gi_at_call 6; refine (callsIn_wide.2 (awake22 _ hT0)).mono ?_; rintro e w1 ⟨rfl, x1⟩)
  gi_upto_region 4 with (refine ⟨trivial, ?_⟩; gi_at_call 7; refine (callsIn_wide.2 (bnew_ok 50 w1 (by decide) (by decide) w1.heap.size (Nat.le_refl _))).mono ?_; rintro e w2 ⟨d, t1, t2, rfl, hd2, x2, _, _⟩)
  have hb2 := hb0.trans ((x1.trans (x2.mono x1.size)).mono hb0.size)
  have hT2 := TB0.of (hT0.step x1) (Nat.le_refl _) x2
  have hz1 : w.heap.size ≤ w1.heap.size := Nat.le_trans hb0.size x1.size
  have b3 := (Below.refl w2.heap.size w2).alloc (Nat.le_refl _) (.cells #[.pointer (some ⟨d, 0, none⟩)] 24)
  have hI : BIw w.heap.size w2.heap.size w1.heap.size d t1 t2 [] w (w2.alloc (.cells #[.pointer (some ⟨d, 0, none⟩)] 24)) :=
    ⟨Boxed.below (Boxed.below hr0 (x1.trans (x2.mono x1.size)) (Boxed.lt hr0)) b3 (by have := Boxed.lt hr0; have := x1.size; have := x2.size; omega), Boxed.new w2 _ _, hd2.below b3, hb2.trans (b3.mono hb2.size)⟩
  have hT3 := hT2.step (b3.mono x2.size)
  generalize hB0 : w1.heap.size = B0 at *
  generalize hg : w2.heap.size = g at *
  generalize w2.alloc (.cells #[.pointer (some ⟨d, 0, none⟩)] 24) = W0 at *
  have kg := hI.box.cell
  have HT3 := Lib.hid hT3
  have HI := Lib.hid hI
  clear hb0 hr0 hT0 HV0 x1 x2 hd2 hb2 hT2 b3 hB0 hg hI hT3
  gi_wp2
  refine wpIn_wide.2 ?_
  go_loopw [29] (fun i wr => ∃ (k : Nat) (S : List (Option Bd)), k ≤ n ∧ i = .int .i64 (k : Int) ∧ Hid (BIw w.heap.size g B0 d t1 t2 S w wr) ∧ Hid (TB0 B0 wr))
    (fun i _ => n - (intOf i).toNat)
  case atStart => exact ⟨0, [], Nat.zero_le _, rfl, HI, HT3⟩
  case round =>
    obtain ⟨k, S, hk, rfl, HIk, HTk⟩ := hrel
    clear HI HT3 kg
    by_cases hlt : k < n
    · obtain ⟨x, hx⟩ : ∃ x, l0[k]? = some x := ⟨_, List.getElem?_eq_getElem (by rw [← HN.out]; exact hlt)⟩
      have HXF := Lib.hid (HE0.out x (List.mem_of_getElem? hx))
      obtain ⟨b9, o9, rfl, hb9, hrow9⟩ := row_ofDob HR0.out hx
      have hrow := range_below hrow9 hb9 HIk.out.bel
      obtain ⟨V, hV⟩ : ∃ V, V = wr.alloc (.cells (clDob x).toArray 38) := ⟨_, rfl⟩
      have HV := Lib.hid hV
      have bV : Below wr.heap.size wr V := by rw [hV]; exact (Below.refl _ wr).alloc (Nat.le_refl _) _
      have hbV : V.heap[wr.heap.size]? = some (.cells (clDob x).toArray 38 (0, 0)) := by rw [hV]; exact World.alloc_heap_new wr _
      have HIV := Lib.hid (HIk.out.below bV)
      have HTV := Lib.hid (HTk.out.step (bV.mono HIk.out.db.z))
      have kx0 : V.cell? ⟨wr.heap.size, 0, none⟩ = some (.int .i64 x.op) := cells_at (i := 0) hbV rfl
      have kx1 : V.cell? ⟨wr.heap.size, 1, none⟩ = some (.int .i64 x.id) := cells_at (i := 1) hbV rfl
      have hrx : V.rangeAt wr.heap.size 2 (clBd x.x) := fun j v hj => cells_at hbV (by
        have h9 : (clDob x).toArray[2 + j]? = (clBd x.x)[j]? := by rw [List.getElem?_toArray, show 2 + j = j + 1 + 1 from by omega]; rfl
        rw [h9]; exact hj)
      have kgV := HIV.out.box.cell
      clear hx hrow9 hV hbV
      by_cases h60 : k ≥ 60
      · have d60 : decide ((k : Int) ≥ 60) = true := decide_eq_true (by omega)
        have d61 : decide (60 ≤ (k : Int)) = true := d60
        go_wp2_with (first
          | ((with_reducible show wpList _ _ _ (Oper.mk _ (Op.load 38 _) _ _ _ _ :: _) _ _); refine wpList_val rfl (run_load_dob rfl rfl hrow) ?_)
          | ((with_reducible show wpList _ _ _ (Oper.mk _ (Op.store 38 _ _) _ _ _ _ :: _) _ _); refine dob_store_new (cs := (clDob x).toArray) rfl rfl rfl rfl (clDob_one x) ?_; rw [← HV.out]))
        have HIR := HIV
        clear HIV HTV HIk HTk hrow kx0 kx1 hrx kgV bV
        generalize V = R at *
        have hmm := @run_makeMap Tryd.prog
        refine wpIn_wide.2 ?_
        go_upto_region 15 with fail
        have hzR := HIR.out.bel.size
        have n1 : BJw w.heap.size g B0 d t1 t2 (R.heap.size + 1 + 1) (R.heap.size + 1 + 1 + 1) R.heap.size (R.heap.size + 1) S w [] ((((R.alloc (.map #[] 0)).alloc (.map #[] 0)).alloc (.cells #[.map (some R.heap.size)] 49)).alloc (.cells #[.map (some (R.heap.size + 1))] 50)) := by
          have q1 : SnK 32 (wfLN 4) (R.alloc (.map #[] 0)) R.heap.size 0 [] := SnK.made R
          have q2 : SnK 34 (wfLN 3) ((R.alloc (.map #[] 0)).alloc (.map #[] 0)) (R.heap.size + 1) 0 [] := by have := SnK.made (k := 34) (V := wfLN 3) (R.alloc (.map #[] 0)); rwa [World.size_alloc] at this
          have e1 := (Below.refl R.heap.size R).alloc (Nat.le_refl _) (.map #[] 0)
          have e2 := e1.alloc e1.size (.map #[] 0)
          have e3 := e2.alloc e2.size (.cells #[.map (some R.heap.size)] 49)
          have e4 := e3.alloc e3.size (.cells #[.map (some (R.heap.size + 1))] 50)
          have x7 := Boxed.new ((R.alloc (.map #[] 0)).alloc (.map #[] 0)) 49 (.map (some R.heap.size))
          have x8 := Boxed.new (((R.alloc (.map #[] 0)).alloc (.map #[] 0)).alloc (.cells #[.map (some R.heap.size)] 49)) 50 (.map (some (R.heap.size + 1)))
          have s2 : ((R.alloc (.map #[] 0)).alloc (.map #[] 0)).heap.size = R.heap.size + 1 + 1 := by simp
          have s3 : (((R.alloc (.map #[] 0)).alloc (.map #[] 0)).alloc (.cells #[.map (some R.heap.size)] 49)).heap.size = R.heap.size + 1 + 1 + 1 := by simp
          rw [s2] at x7
          rw [s3] at x8
          refine ⟨HIR.out.below e4, x7.alloc _, x8, ?_, ?_⟩
          · exact q1.of_block ((Below.heap_alloc _ _ _ (by simp; omega)).trans ((Below.heap_alloc _ _ _ (by simp; omega)).trans (Below.heap_alloc _ _ _ (by simp))))
          · exact q2.of_block ((Below.heap_alloc _ _ _ (by simp)).trans (Below.heap_alloc _ _ _ (by simp)))
        have hmm1 : w.heap.size ≤ R.heap.size ∧ R.heap.size ≠ R.heap.size + 1 := ⟨hzR, by omega⟩
        clear hmm
        generalize ((((R.alloc (.map #[] 0)).alloc (.map #[] 0)).alloc (.cells #[.map (some R.heap.size)] 49)).alloc (.cells #[.map (some (R.heap.size + 1))] 50)) = R2 at *
        generalize hg8 : R.heap.size + 1 + 1 + 1 = g8 at *
        generalize hg7 : R.heap.size + 1 + 1 = g7 at *
        generalize hm2 : R.heap.size + 1 = m2 at *
        generalize hm1 : R.heap.size = m1 at *
        have hmz : w.heap.size ≤ m1 ∧ w.heap.size ≤ m2 ∧ m1 ≠ m2 := by omega
        have HJ := Lib.hid n1
        have kg2 := n1.bi.box.cell
        have HALL : Hid (Calls Tryd.prog 20 #[.pointer (some ⟨d, 0, none⟩)] R2 fun e w' => AllB R2 S e w') := Lib.hid (by obtain ⟨b1, b2, A, c, f, hdb⟩ := n1.bi.db; exact ball hdb)
        have HPW : Hid ((docB 0 S).Pairwise (fun a b => a.2.inn ≠ b.2.inn) ∧ (docB 0 S).Pairwise (fun a b => a.2.out ≠ b.2.out) ∧ (∀ e ∈ docB 0 S, e.2.fits) ∧ S.length ≤ 4096) := Lib.hid (by obtain ⟨b1, b2, A, c, f, hdb⟩ := n1.bi.db; exact ⟨hdb.ni, hdb.no, hdb.fit, by have := hdb.n; have := hdb.mst; omega⟩)
        clear n1 HIR hg8 hg7 hm2 hm1 hzR
        refine (wpIn_wide (n := 4)).1 ?_
        gi_wp2_with (refine ⟨trivial, ?_⟩; gi_at_call 20; refine (callsIn_wide.2 HALL.out).mono ?_; rintro e w3 ⟨rfl, A3, c3, hb3, hr3, hg3, x3⟩)
        have HJ3 := Lib.hid (HJ.out.below x3)
        have hseq := ball1_seq _ c3 _ A3 S w3 hb3.cell hr3 (Nat.le_refl _) (by have := HPW.out.2.2.2; omega) (4 - 1) (by decide)
        have hA3 : ∀ ga, A3 = some ga → ga.block ≠ m1 ∧ ga.block ≠ m2 := fun ga hga => by have h9 := (hg3 ga hga).1; have h1 := HJ.out.s1.lt; have h2 := HJ.out.s2.lt; omega
        have HA3 := Lib.hid hA3
        have hm3 : m1 < w3.heap.size ∧ m2 < w3.heap.size := ⟨HJ3.out.s1.lt, HJ3.out.s2.lt⟩
        have hz3 : w.heap.size ≤ w3.heap.size := HJ3.out.bi.bel.size
        have HAL : Hid (∀ ga, A3 = some ga → ga.block < w3.heap.size) := Lib.hid (fun ga hga => (hg3 ga hga).2)
        clear hb3 hr3 hg3 x3 hA3 HALL kg2
        refine (wpIn_wide (n := 4)).1 ?_
        gi_wp2
        refine wpIn_actB (fun a0 ha0 => ?_)
        refine range_toldW (by omega) (gf := 31) (lb := #[.pointer (some ⟨R2.heap.size, 0, none⟩)]) (by subst ha0; rfl) (enters_of Tryd.func31 (by kernel_rfl) rfl)
          hseq KeepN.trans (fun V l r r' hl hr => KeepN.loop hr) (Below.refl _ _) (fun _ => rfl)
          (fun pre x V l r r' h _ hl => h)
          (fun pre X => BJw w.heap.size g B0 d t1 t2 g7 g8 m1 m2 S w pre X ∧ w3.heap.size ≤ X.heap.size)
          (fun _ _ _ => False)
          (fun pre X Y r hs hg hr => ⟨hs.1.kept hg hr hz3 hm3.1 hm3.2, Nat.le_trans hs.2 hg.size⟩)
          (fun cd pre X Y r hs hg hr => hs)
          ⟨HJ3.out, Nat.le_refl _⟩
          (fun x W => { tmps := (((a0.tmps.setIfInBounds 52 (.int .i64 (x.1 : Int))).setIfInBounds 53 (bdV x.2)).setIfInBounds 9 (.int .i64 (x.1 : Int))).setIfInBounds 10 (.pointer (some ⟨W.heap.size, 0, none⟩)), defers := [] })
          (fun x W => W.alloc (.cells (clBd x.2).toArray 36))
          (fun x W => World.grownBy_alloc W _ none) (fun pre x W h => h)
          (fun x W hz => KeepN.of_heap (fun ga hga => Below.heap_alloc _ _ _ (by have := HAL.out ga hga; omega))) ?assign ?body ?done ?stop
        case assign =>
          intro l x W K hK
          subst ha0
          dsimp only [encB]
          simp only [List.setIfInBounds_toArray, List.set_cons_succ, List.set_cons_zero] at hK
          gi_wp2_with ((with_reducible show wpListIn _ _ _ _ _ (Oper.mk _ (Op.store 36 _ _) _ _ _ _ :: _) _ _); refine listR_skip rfl (fun c h => by cases h) (run_store_bdN (cs := (clBd x.2).toArray) rfl rfl rfl (World.alloc_heap_new W _) rfl rfl (clBd_one _)) ?_; rw [World.setRow_alloc_new])
          exact hK
        case body =>
          rintro l pre x V W ⟨hJW, hzW⟩ ⟨more, hmore⟩ ⟨r, hr⟩ hl
          subst ha0
          simp only [List.setIfInBounds_toArray, List.set_cons_succ, List.set_cons_zero]
          have hbx : W.heap[V.heap.size]? = some (.cells (clBd x.2).toArray 36 (0, 0)) := by
            rw [hr, World.putObj_heap_other (by omega)]
            exact World.alloc_heap_new V _
          obtain ⟨vb, hvb⟩ : ∃ vb, vb = V.heap.size := ⟨_, rfl⟩
          rw [← hvb] at hbx ⊢
          have hmem : x ∈ docB 0 S := by rw [hmore]; simp
          have HXF := Lib.hid (HPW.out.2.2.1 x hmem)
          have HMEM := Lib.hid hmem
          have HTW := Lib.hid (hT.below hJW.bi.bel (Nat.le_refl _))
          obtain ⟨b1, b2, A, c, f, hdb⟩ := hJW.bi.db
          have HDB := Lib.hid hdb
          have hp1 := HPW.out.1
          have hp2 := HPW.out.2.1
          rw [hmore] at hp1 hp2
          have hn1 : (pre.map (fun e => e.2.inn)).contains x.2.inn = false := by
            rw [Bool.eq_false_iff]; intro hc
            simp only [List.contains_iff_mem, List.mem_map] at hc
            obtain ⟨e, he, hee⟩ := hc
            exact (List.pairwise_append.1 hp1).2.2 e he x (List.mem_cons_self ..) hee
          have hn2 : (pre.map (fun e => e.2.out)).contains x.2.out = false := by
            rw [Bool.eq_false_iff]; intro hc
            simp only [List.contains_iff_mem, List.mem_map] at hc
            obtain ⟨e, he, hee⟩ := hc
            exact (List.pairwise_append.1 hp2).2.2 e he x (List.mem_cons_self ..) hee
          have HN1 := Lib.hid hn1
          have HN2 := Lib.hid hn2
          have HJW := Lib.hid hJW
          have HBX := Lib.hid hbx
          have hri := box_inn hbx
          have kgW := hJW.bi.box.cell
          obtain ⟨pl, hpl⟩ : ∃ pl, pl = pre.length := ⟨_, rfl⟩
          have hpl5 : pre.length < maxLen := by
            have h1 := docB_len 0 S
            have h2 : pre.length ≤ (docB 0 S).length := by rw [hmore]; simp
            have h3 := HPW.out.2.2.2
            unfold maxLen; omega
          have HPL := Lib.hid hpl5
          clear hmore hr hl hmem hdb hp1 hp2 hn1 hn2 hJW hbx hvb hpl hpl5 hseq
          gi_upto_region 19 with (first
            | ((with_reducible show wpListIn _ _ _ _ _ (Oper.mk _ (Op.load 32 _) _ _ _ _ :: _) _ _); refine listR_val rfl (fun c h => by cases h) (run_load_inn rfl rfl hri) ?_)
            | (refine ⟨trivial, ?_⟩; gi_at_call 15; refine (callsIn_wide.2 (bfind_yes HDB.out HTW.out x.2 HXF.out HMEM.out rfl)).mono ?_; rintro e W4 ⟨rfl, x4⟩))
          have HJ4 := Lib.hid (HJW.out.below x4)
          have HD4 := Lib.hid (HDB.out.below x4)
          have HT4 := Lib.hid (HTW.out.step x4)
          have hbx4 := (x4.block vb (heap_lt HBX.out)).trans HBX.out
          have hro := box_out hbx4
          have kg4 := HJ4.out.bi.box.cell
          have X4 := Lib.hid x4
          have HBX4 := Lib.hid hbx4
          clear x4 hri kgW hbx4
          gi_upto_region 20 with (first
            | ((with_reducible show wpListIn _ _ _ _ _ (Oper.mk _ (Op.load 34 _) _ _ _ _ :: _) _ _); refine listR_val rfl (fun c h => by cases h) (run_load_out rfl rfl hro) ?_)
            | (refine ⟨trivial, ?_⟩; gi_at_call 17; refine (callsIn_wide.2 (bback_yes HD4.out HT4.out x.2 HXF.out HMEM.out rfl)).mono ?_; rintro e W5 ⟨rfl, x5⟩))
          have HJ5 := Lib.hid (HJ4.out.below x5)
          have hbx5 := (x5.block vb (heap_lt HBX4.out)).trans HBX4.out
          have X5 := Lib.hid (X4.out.trans (x5.mono X4.out.size))
          have hri := box_inn hbx5
          have hro5 := box_out hbx5
          have k7 := HJ5.out.x7.cell
          have k8 := HJ5.out.x8.cell
          have hl1 := HJ5.out.s1.look famInnerN Tryd.underlying49 (wfL_inn HXF.out)
          have hl2 := HJ5.out.s2.look famOuterN Tryd.underlying50 (wfL_out HXF.out)
          rw [HN1.out] at hl1
          rw [HN2.out] at hl2
          have HL1 := Lib.hid hl1
          have HL2 := Lib.hid hl2
          have HBX5 := Lib.hid hbx5
          clear x5 hro kg4 hbx5 hl1 hl2
          gi_upto_region 22 with (first
            | ((with_reducible show wpListIn _ _ _ _ _ (Oper.mk _ (Op.load 32 _) _ _ _ _ :: _) _ _); refine listR_val rfl (fun c h => by cases h) (run_load_inn rfl rfl hri) ?_)
            | ((with_reducible show wpListIn _ _ _ _ _ (Oper.mk _ (Op.load 34 _) _ _ _ _ :: _) _ _); refine listR_want (by rfl) (fun c h => by cases h) (run_load_out rfl rfl hro5) ?_)
            | ((with_reducible show wpListIn _ _ _ _ _ (Oper.mk _ (Op.lookup 49 _ _ _) _ _ _ _ :: _) _ _); refine listR_val rfl (fun c h => by cases h) (run_lookB (key := gkB x.2.inn) rfl rfl rfl HL1.out) ?_)
            | ((with_reducible show wpListIn _ _ _ _ _ (Oper.mk _ (Op.lookup 50 _ _ _) _ _ _ _ :: _) _ _); refine listR_want (by rfl) (fun c h => by cases h) (run_lookB (key := gkB x.2.out) rfl rfl rfl HL2.out) ?_))
          have bd5 := (Below.refl W5.heap.size W5).drew
          have HJD := Lib.hid (HJ5.out.below bd5)
          obtain ⟨Y1, hu1, q1, g1⟩ := HJD.out.s1.put famInnerN Tryd.underlying49 HPL.out (wfL_inn HXF.out) HN1.out
          have k1 := Kept.of_grownN g1
          have hs2 := HJD.out.s2.of_block (k1.block m2 HJD.out.s2.lt (fun e => hmz.2.2 e.symm))
          obtain ⟨Y2, hu2, q2, g2⟩ := hs2.put famOuterN Tryd.underlying50 HPL.out (wfL_out HXF.out) HN2.out
          have k2 := Kept.of_grownN g2
          have HU1 := Lib.hid hu1
          have HU2 := Lib.hid hu2
          have HSTEP := Lib.hid (HJD.out.step (x := x) hmz.2.2 hmz.1 hmz.2.1 q1 k1 q2 k2)
          have hbxD := (bd5.block vb (heap_lt HBX5.out)).trans HBX5.out
          have HB7 : Hid (∀ U, CK W5.drew U → U.cell? ⟨g7, 0, none⟩ = some (.map (some m1)) ∧ U.cell? ⟨g8, 0, none⟩ = some (.map (some m2)) ∧ U.rangeAt vb 0 (clI x.2.inn) ∧ U.rangeAt vb 4 (clI x.2.out)) := Lib.hid (fun U hU => ⟨(hU.boxed HJD.out.x7).cell, (hU.boxed HJD.out.x8).cell, box_inn (hU.k _ _ _ _ hbxD), box_out (hU.k _ _ _ _ hbxD)⟩)
          have c1 : CK W5.drew Y1 := CK.of_map k1 (fun cs ty fr => HJD.out.s1.isMap)
          have c2 : CK Y1 Y2 := CK.of_map k2 (fun cs ty fr => hs2.isMap)
          have C1 := Lib.hid c1
          have C2 := Lib.hid (c1.trans c2)
          have HKF : Hid (KeepsFrom w3.heap.size W Y2 ∧ KeepN A3 W Y2) := Lib.hid (by
            have xx := X5.out.trans (bd5.mono X5.out.size)
            refine ⟨⟨Nat.le_trans xx.size (C2.out.size), fun i o hB hi ho => ?_⟩, KeepN.of_heap (fun ga hga => ?_)⟩
            · have h5 := (xx.block i (heap_ltO hi)).trans hi
              exact (k2.block i (Nat.lt_of_lt_of_le (heap_ltO h5) k1.size) (fun e => by have e : i = m2 := e; omega)).trans ((k1.block i (heap_ltO h5) (fun e => by have e : i = m1 := e; omega)).trans h5)
            · have hgz := HAL.out ga hga
              obtain ⟨n1, n2⟩ := HA3.out ga hga
              have hgW : ga.block < W.heap.size := Nat.lt_of_lt_of_le hgz hzW
              exact (k2.block _ (Nat.lt_of_lt_of_le (Nat.lt_of_lt_of_le hgW xx.size) k1.size) n2).trans ((k1.block _ (Nat.lt_of_lt_of_le hgW xx.size) n1).trans (xx.block _ hgW)))
          clear hu1 hu2 q1 q2 g1 g2 k1 k2 hs2 hbxD c1 c2 hri hro5 k7 k8 bd5
          refine region_roundH (S := fun U => CK W5.drew U) (by kernel_rfl) (by kernel_rfl) (fun h => by obtain ⟨_, _, h⟩ := h; exact h) (CK.of_below (Below.refl _ _)) (fun hS => ?_)
          refine held_pure (i := 0) (oi := ⟨some 96, _, _, _, _, _⟩) rfl (by kernel_rfl) (by kernel_rfl) (by kernel_rfl) (fun _ _ _ h => h) (by rfl) (fun w hSw => run_load_mi rfl rfl (HB7.out _ hSw).1) hS (fun hS => ?_)
          try go_frame
          refine held_pure (i := 1) (oi := ⟨some 97, _, _, _, _, _⟩) rfl (by kernel_rfl) (by kernel_rfl) (by kernel_rfl) (fun _ _ _ h => h) (by rfl) (v := ?_) (fun w hSw => ?_) hS (fun hS => ?_)
          rotate_left
          · go_simp; try with_reducible rfl
          try go_frame
          refine held_pure (i := 2) (oi := ⟨some 98, _, _, _, _, _⟩) rfl (by kernel_rfl) (by kernel_rfl) (by kernel_rfl) (fun _ _ _ h => h) (by rfl) (fun w hSw => run_load_inn rfl rfl (HB7.out _ hSw).2.2.1) hS (fun hS => ?_)
          try go_frame
          refine held_pure (i := 3) (oi := ⟨some 99, _, _, _, _, _⟩) rfl (by kernel_rfl) (by kernel_rfl) (by kernel_rfl) (fun _ _ _ h => h) (by rfl) (fun w hSw => run_load_mo rfl rfl (HB7.out _ hSw).2.1) hS (fun hS => ?_)
          try go_frame
          refine held_pure (i := 4) (oi := ⟨some 100, _, _, _, _, _⟩) rfl (by kernel_rfl) (by kernel_rfl) (by kernel_rfl) (fun _ _ _ h => h) (by rfl) (v := ?_) (fun w hSw => ?_) hS (fun hS => ?_)
          rotate_left
          · go_simp; try with_reducible rfl
          try go_frame
          refine held_pure (i := 5) (oi := ⟨some 101, _, _, _, _, _⟩) rfl (by kernel_rfl) (by kernel_rfl) (by kernel_rfl) (fun _ _ _ h => h) (by rfl) (fun w hSw => run_load_out rfl rfl (HB7.out _ hSw).2.2.2) hS (fun hS => ?_)
          try go_frame
          refine wpAnyH_ready (rs := [6]) (by kernel_rfl) (by simp) (AllReadyH.cons (o := ⟨none, _, _, _, _, _⟩) rfl (fun K hK => ?_) AllReadyH.nil)
          rw [if_pos (by rfl)]
          refine upd_wp (key := gkB x.2.inn) (c := .bool true) rfl rfl rfl rfl HU1.out ?_
          refine hK.out _ _ C1.out (fun hS => ?_)
          clear hK K
          try go_frame
          refine wpAnyH_ready (rs := [7]) (by kernel_rfl) (by simp) (AllReadyH.cons (o := ⟨none, _, _, _, _, _⟩) rfl (fun K hK => ?_) AllReadyH.nil)
          rw [if_pos (by rfl)]
          refine upd_wp (key := gkB x.2.out) (c := .bool true) rfl rfl rfl rfl HU2.out ?_
          refine hK.out _ _ C2.out (fun hS => ?_)
          clear hK K
          try go_frame
          refine wpAnyH_done (by kernel_rfl) ?_ _
          gi_wp2
          exact ⟨HKF.out.1, HKF.out.2, HSTEP.out, Nat.le_trans hzW HKF.out.1.size⟩
        case stop =>
          rintro D cd pre X hD _ hf hK
          exact hf.elim
        case done =>
          rintro D xs X hD hxs ⟨hJX, hzX⟩ hK
          subst ha0
          subst hxs
          have hm1 : Marks w3.heap.size X.heap.size [{ target := .collected D, args := #[] }] X := (Marks.push (hi := D) (ds := []) trivial (Nat.le_refl _) hD hK).more (heap_lt hK)
          have HJX := Lib.hid hJX
          have HTX := Lib.hid (hT.below hJX.bi.bel (Nat.le_refl _))
          obtain ⟨b1, b2, A, c, f, hdb⟩ := hJX.bi.db
          have HDX := Lib.hid hdb
          have k7 := hJX.x7.cell
          have kgX := hJX.bi.box.cell
          obtain ⟨N9, hN9⟩ : ∃ N9, N9 = (docB 0 S).length := ⟨_, rfl⟩
          have hln := fun ty => hJX.s1.len Tryd.underlying49 ty
          rw [List.length_map, ← hN9] at hln
          have HN9 := Lib.hid hN9
          clear hseq hJX hdb hN9
          first
            | gi_upto_region 23 with fail
            | go_upto_region 23 with fail
          first
            | refine wpIn_wide.2 ?_
            | skip
          go_wp2_with (first
            | (go_at_call 21; refine (blen HDX.out).mono ?_; rintro e y3 ⟨rfl, rfl⟩; rw [← HN9.out])
            | (go_at_call 6; refine (awake22 _ HTX.out).mono ?_; rintro e y4 ⟨rfl, x4⟩; have X4 := Lib.hid x4; have hx4 := (HJX.out.bi.below x4).res; have k4 := Boxed.cell hx4; have f4 := Boxed.frozen hx4; clear x4))
          have b4 := HJX.out.bi.bel.trans (X4.out.mono HJX.out.bi.bel.size)
          have hmr : Marks w3.heap.size X.heap.size [{ target := .collected D, args := #[] }] (y4.setCell ⟨w.heap.size, 0, none⟩ (.bool true)) :=
            hm1.keep (fun k h1 h2 => (Below.heap_setCell _ _ _ _ (by have := Boxed.lt HJ3.out.bi.res; simp; omega)).trans (X4.out.block k h2))
          gi_wp2
          refine leaves_marks w3.heap.size (fun Y => Boxed Y w.heap.size 4 (.bool true) ∧ Below w.heap.size w Y)
            (fun Y D hY h1 h2 => ⟨box_keep (n := w3.heap.size) hY.1 (grownBy_putObj' Y D _) (fun k e => by cases e; exact ⟨h1, _, h2, rfl⟩), hY.2.trans (belowK_b (w := w) (Nat.le_refl _) Y D _ _ (by omega) h2 rfl rfl)⟩)
            (fun Y hY => ⟨_, cell1b rfl rfl hY.1, rfl, hY.2⟩) _ _ _ hmr ⟨Boxed.set _ hx4, b4.setCell (p := ⟨w.heap.size, 0, none⟩) (by simp) _⟩
      · have d60 : decide ((k : Int) ≥ 60) = false := decide_eq_false (by omega)
        have d61 : decide (60 ≤ (k : Int)) = false := d60
        by_cases h3 : x.op < 3
        · have d3 : decide (x.op < 3) = true := decide_eq_true h3
          go_wp2_with (first
            | ((with_reducible show wpList _ _ _ (Oper.mk _ (Op.load 38 _) _ _ _ _ :: _) _ _); refine wpList_val rfl (run_load_dob rfl rfl hrow) ?_)
            | ((with_reducible show wpList _ _ _ (Oper.mk _ (Op.store 38 _ _) _ _ _ _ :: _) _ _); refine dob_store_new (cs := (clDob x).toArray) rfl rfl rfl rfl (clDob_one x) ?_; rw [← HV.out])
            | ((with_reducible show wpList _ _ _ (Oper.mk _ (Op.load 36 _) _ _ _ _ :: _) _ _); refine wpList_val rfl (run_load_bd rfl rfl hrx) ?_)
            | (go_at_call 9; refine (badd_any HIV.out.db HTV.out x.x HXF.out.2.2).mono ?_; rintro e U ⟨r, S', rfl, hd', hf'⟩))
          go_roundw
          case rel => exact ⟨k + 1, S', by omega, by simp, Lib.hid (HIV.out.fb hz1 hf' hd'), Lib.hid (HTV.out.step hf'.b)⟩
          case measure => simp [intOf]; omega
        · have d3 : decide (x.op < 3) = false := decide_eq_false h3
          go_wp2_with (first
            | ((with_reducible show wpList _ _ _ (Oper.mk _ (Op.load 38 _) _ _ _ _ :: _) _ _); refine wpList_val rfl (run_load_dob rfl rfl hrow) ?_)
            | ((with_reducible show wpList _ _ _ (Oper.mk _ (Op.store 38 _ _) _ _ _ _ :: _) _ _); refine dob_store_new (cs := (clDob x).toArray) rfl rfl rfl rfl (clDob_one x) ?_; rw [← HV.out])
            | (go_at_call 11; refine (brem_any HIV.out.db HTV.out x.id).mono ?_; rintro e U ⟨r, S', rfl, hd', hf'⟩))
          go_roundw
          case rel => exact ⟨k + 1, S', by omega, by simp, Lib.hid (HIV.out.fb hz1 hf' hd'), Lib.hid (HTV.out.step hf'.b)⟩
          case measure => simp [intOf]; omega
    · obtain rfl : n = k := by omega
      go_wp2_with fail
      have HIR := HIk
      clear HIk HTk
      generalize wr = R at *
      have hmm := @run_makeMap Tryd.prog
      refine wpIn_wide.2 ?_
      go_upto_region 15 with fail
      have hzR := HIR.out.bel.size
      have n1 : BJw w.heap.size g B0 d t1 t2 (R.heap.size + 1 + 1) (R.heap.size + 1 + 1 + 1) R.heap.size (R.heap.size + 1) S w [] ((((R.alloc (.map #[] 0)).alloc (.map #[] 0)).alloc (.cells #[.map (some R.heap.size)] 49)).alloc (.cells #[.map (some (R.heap.size + 1))] 50)) := by
        have q1 : SnK 32 (wfLN 4) (R.alloc (.map #[] 0)) R.heap.size 0 [] := SnK.made R
        have q2 : SnK 34 (wfLN 3) ((R.alloc (.map #[] 0)).alloc (.map #[] 0)) (R.heap.size + 1) 0 [] := by have := SnK.made (k := 34) (V := wfLN 3) (R.alloc (.map #[] 0)); rwa [World.size_alloc] at this
        have e1 := (Below.refl R.heap.size R).alloc (Nat.le_refl _) (.map #[] 0)
        have e2 := e1.alloc e1.size (.map #[] 0)
        have e3 := e2.alloc e2.size (.cells #[.map (some R.heap.size)] 49)
        have e4 := e3.alloc e3.size (.cells #[.map (some (R.heap.size + 1))] 50)
        have x7 := Boxed.new ((R.alloc (.map #[] 0)).alloc (.map #[] 0)) 49 (.map (some R.heap.size))
        have x8 := Boxed.new (((R.alloc (.map #[] 0)).alloc (.map #[] 0)).alloc (.cells #[.map (some R.heap.size)] 49)) 50 (.map (some (R.heap.size + 1)))
        have s2 : ((R.alloc (.map #[] 0)).alloc (.map #[] 0)).heap.size = R.heap.size + 1 + 1 := by simp
        have s3 : (((R.alloc (.map #[] 0)).alloc (.map #[] 0)).alloc (.cells #[.map (some R.heap.size)] 49)).heap.size = R.heap.size + 1 + 1 + 1 := by simp
        rw [s2] at x7
        rw [s3] at x8
        refine ⟨HIR.out.below e4, x7.alloc _, x8, ?_, ?_⟩
        · exact q1.of_block ((Below.heap_alloc _ _ _ (by simp; omega)).trans ((Below.heap_alloc _ _ _ (by simp; omega)).trans (Below.heap_alloc _ _ _ (by simp))))
        · exact q2.of_block ((Below.heap_alloc _ _ _ (by simp)).trans (Below.heap_alloc _ _ _ (by simp)))
      have hmm1 : w.heap.size ≤ R.heap.size ∧ R.heap.size ≠ R.heap.size + 1 := ⟨hzR, by omega⟩
      clear hmm
      generalize ((((R.alloc (.map #[] 0)).alloc (.map #[] 0)).alloc (.cells #[.map (some R.heap.size)] 49)).alloc (.cells #[.map (some (R.heap.size + 1))] 50)) = R2 at *
      generalize hg8 : R.heap.size + 1 + 1 + 1 = g8 at *
      generalize hg7 : R.heap.size + 1 + 1 = g7 at *
      generalize hm2 : R.heap.size + 1 = m2 at *
      generalize hm1 : R.heap.size = m1 at *
      have hmz : w.heap.size ≤ m1 ∧ w.heap.size ≤ m2 ∧ m1 ≠ m2 := by omega
      have HJ := Lib.hid n1
      have kg2 := n1.bi.box.cell
      have HALL : Hid (Calls Tryd.prog 20 #[.pointer (some ⟨d, 0, none⟩)] R2 fun e w' => AllB R2 S e w') := Lib.hid (by obtain ⟨b1, b2, A, c, f, hdb⟩ := n1.bi.db; exact ball hdb)
      have HPW : Hid ((docB 0 S).Pairwise (fun a b => a.2.inn ≠ b.2.inn) ∧ (docB 0 S).Pairwise (fun a b => a.2.out ≠ b.2.out) ∧ (∀ e ∈ docB 0 S, e.2.fits) ∧ S.length ≤ 4096) := Lib.hid (by obtain ⟨b1, b2, A, c, f, hdb⟩ := n1.bi.db; exact ⟨hdb.ni, hdb.no, hdb.fit, by have := hdb.n; have := hdb.mst; omega⟩)
      clear n1 HIR hg8 hg7 hm2 hm1 hzR
      refine (wpIn_wide (n := 4)).1 ?_
      gi_wp2_with (refine ⟨trivial, ?_⟩; gi_at_call 20; refine (callsIn_wide.2 HALL.out).mono ?_; rintro e w3 ⟨rfl, A3, c3, hb3, hr3, hg3, x3⟩)
      have HJ3 := Lib.hid (HJ.out.below x3)
      have hseq := ball1_seq _ c3 _ A3 S w3 hb3.cell hr3 (Nat.le_refl _) (by have := HPW.out.2.2.2; omega) (4 - 1) (by decide)
      have hA3 : ∀ ga, A3 = some ga → ga.block ≠ m1 ∧ ga.block ≠ m2 := fun ga hga => by have h9 := (hg3 ga hga).1; have h1 := HJ.out.s1.lt; have h2 := HJ.out.s2.lt; omega
      have HA3 := Lib.hid hA3
      have hm3 : m1 < w3.heap.size ∧ m2 < w3.heap.size := ⟨HJ3.out.s1.lt, HJ3.out.s2.lt⟩
      have hz3 : w.heap.size ≤ w3.heap.size := HJ3.out.bi.bel.size
      have HAL : Hid (∀ ga, A3 = some ga → ga.block < w3.heap.size) := Lib.hid (fun ga hga => (hg3 ga hga).2)
      clear hb3 hr3 hg3 x3 hA3 HALL kg2
      refine (wpIn_wide (n := 4)).1 ?_
      gi_wp2
      refine wpIn_actB (fun a0 ha0 => ?_)
      refine range_toldW (by omega) (gf := 31) (lb := #[.pointer (some ⟨R2.heap.size, 0, none⟩)]) (by subst ha0; rfl) (enters_of Tryd.func31 (by kernel_rfl) rfl)
        hseq KeepN.trans (fun V l r r' hl hr => KeepN.loop hr) (Below.refl _ _) (fun _ => rfl)
        (fun pre x V l r r' h _ hl => h)
        (fun pre X => BJw w.heap.size g B0 d t1 t2 g7 g8 m1 m2 S w pre X ∧ w3.heap.size ≤ X.heap.size)
        (fun _ _ _ => False)
        (fun pre X Y r hs hg hr => ⟨hs.1.kept hg hr hz3 hm3.1 hm3.2, Nat.le_trans hs.2 hg.size⟩)
        (fun cd pre X Y r hs hg hr => hs)
        ⟨HJ3.out, Nat.le_refl _⟩
        (fun x W => { tmps := (((a0.tmps.setIfInBounds 52 (.int .i64 (x.1 : Int))).setIfInBounds 53 (bdV x.2)).setIfInBounds 9 (.int .i64 (x.1 : Int))).setIfInBounds 10 (.pointer (some ⟨W.heap.size, 0, none⟩)), defers := [] })
        (fun x W => W.alloc (.cells (clBd x.2).toArray 36))
        (fun x W => World.grownBy_alloc W _ none) (fun pre x W h => h)
        (fun x W hz => KeepN.of_heap (fun ga hga => Below.heap_alloc _ _ _ (by have := HAL.out ga hga; omega))) ?assign ?body ?done ?stop
      case assign =>
        intro l x W K hK
        subst ha0
        dsimp only [encB]
        simp only [List.setIfInBounds_toArray, List.set_cons_succ, List.set_cons_zero] at hK
        gi_wp2_with ((with_reducible show wpListIn _ _ _ _ _ (Oper.mk _ (Op.store 36 _ _) _ _ _ _ :: _) _ _); refine listR_skip rfl (fun c h => by cases h) (run_store_bdN (cs := (clBd x.2).toArray) rfl rfl rfl (World.alloc_heap_new W _) rfl rfl (clBd_one _)) ?_; rw [World.setRow_alloc_new])
        exact hK
      case body =>
        rintro l pre x V W ⟨hJW, hzW⟩ ⟨more, hmore⟩ ⟨r, hr⟩ hl
        subst ha0
        simp only [List.setIfInBounds_toArray, List.set_cons_succ, List.set_cons_zero]
        have hbx : W.heap[V.heap.size]? = some (.cells (clBd x.2).toArray 36 (0, 0)) := by
          rw [hr, World.putObj_heap_other (by omega)]
          exact World.alloc_heap_new V _
        obtain ⟨vb, hvb⟩ : ∃ vb, vb = V.heap.size := ⟨_, rfl⟩
        rw [← hvb] at hbx ⊢
        have hmem : x ∈ docB 0 S := by rw [hmore]; simp
        have HXF := Lib.hid (HPW.out.2.2.1 x hmem)
        have HMEM := Lib.hid hmem
        have HTW := Lib.hid (hT.below hJW.bi.bel (Nat.le_refl _))
        obtain ⟨b1, b2, A, c, f, hdb⟩ := hJW.bi.db
        have HDB := Lib.hid hdb
        have hp1 := HPW.out.1
        have hp2 := HPW.out.2.1
        rw [hmore] at hp1 hp2
        have hn1 : (pre.map (fun e => e.2.inn)).contains x.2.inn = false := by
          rw [Bool.eq_false_iff]; intro hc
          simp only [List.contains_iff_mem, List.mem_map] at hc
          obtain ⟨e, he, hee⟩ := hc
          exact (List.pairwise_append.1 hp1).2.2 e he x (List.mem_cons_self ..) hee
        have hn2 : (pre.map (fun e => e.2.out)).contains x.2.out = false := by
          rw [Bool.eq_false_iff]; intro hc
          simp only [List.contains_iff_mem, List.mem_map] at hc
          obtain ⟨e, he, hee⟩ := hc
          exact (List.pairwise_append.1 hp2).2.2 e he x (List.mem_cons_self ..) hee
        have HN1 := Lib.hid hn1
        have HN2 := Lib.hid hn2
        have HJW := Lib.hid hJW
        have HBX := Lib.hid hbx
        have hri := box_inn hbx
        have kgW := hJW.bi.box.cell
        obtain ⟨pl, hpl⟩ : ∃ pl, pl = pre.length := ⟨_, rfl⟩
        have hpl5 : pre.length < maxLen := by
          have h1 := docB_len 0 S
          have h2 : pre.length ≤ (docB 0 S).length := by rw [hmore]; simp
          have h3 := HPW.out.2.2.2
          unfold maxLen; omega
        have HPL := Lib.hid hpl5
        clear hmore hr hl hmem hdb hp1 hp2 hn1 hn2 hJW hbx hvb hpl hpl5 hseq
        gi_upto_region 19 with (first
          | ((with_reducible show wpListIn _ _ _ _ _ (Oper.mk _ (Op.load 32 _) _ _ _ _ :: _) _ _); refine listR_val rfl (fun c h => by cases h) (run_load_inn rfl rfl hri) ?_)
          | (refine ⟨trivial, ?_⟩; gi_at_call 15; refine (callsIn_wide.2 (bfind_yes HDB.out HTW.out x.2 HXF.out HMEM.out rfl)).mono ?_; rintro e W4 ⟨rfl, x4⟩))
        have HJ4 := Lib.hid (HJW.out.below x4)
        have HD4 := Lib.hid (HDB.out.below x4)
        have HT4 := Lib.hid (HTW.out.step x4)
        have hbx4 := (x4.block vb (heap_lt HBX.out)).trans HBX.out
        have hro := box_out hbx4
        have kg4 := HJ4.out.bi.box.cell
        have X4 := Lib.hid x4
        have HBX4 := Lib.hid hbx4
        clear x4 hri kgW hbx4
        gi_upto_region 20 with (first
          | ((with_reducible show wpListIn _ _ _ _ _ (Oper.mk _ (Op.load 34 _) _ _ _ _ :: _) _ _); refine listR_val rfl (fun c h => by cases h) (run_load_out rfl rfl hro) ?_)
          | (refine ⟨trivial, ?_⟩; gi_at_call 17; refine (callsIn_wide.2 (bback_yes HD4.out HT4.out x.2 HXF.out HMEM.out rfl)).mono ?_; rintro e W5 ⟨rfl, x5⟩))
        have HJ5 := Lib.hid (HJ4.out.below x5)
        have hbx5 := (x5.block vb (heap_lt HBX4.out)).trans HBX4.out
        have X5 := Lib.hid (X4.out.trans (x5.mono X4.out.size))
        have hri := box_inn hbx5
        have hro5 := box_out hbx5
        have k7 := HJ5.out.x7.cell
        have k8 := HJ5.out.x8.cell
        have hl1 := HJ5.out.s1.look famInnerN Tryd.underlying49 (wfL_inn HXF.out)
        have hl2 := HJ5.out.s2.look famOuterN Tryd.underlying50 (wfL_out HXF.out)
        rw [HN1.out] at hl1
        rw [HN2.out] at hl2
        have HL1 := Lib.hid hl1
        have HL2 := Lib.hid hl2
        have HBX5 := Lib.hid hbx5
        clear x5 hro kg4 hbx5 hl1 hl2
        gi_upto_region 22 with (first
          | ((with_reducible show wpListIn _ _ _ _ _ (Oper.mk _ (Op.load 32 _) _ _ _ _ :: _) _ _); refine listR_val rfl (fun c h => by cases h) (run_load_inn rfl rfl hri) ?_)
          | ((with_reducible show wpListIn _ _ _ _ _ (Oper.mk _ (Op.load 34 _) _ _ _ _ :: _) _ _); refine listR_want (by rfl) (fun c h => by cases h) (run_load_out rfl rfl hro5) ?_)
          | ((with_reducible show wpListIn _ _ _ _ _ (Oper.mk _ (Op.lookup 49 _ _ _) _ _ _ _ :: _) _ _); refine listR_val rfl (fun c h => by cases h) (run_lookB (key := gkB x.2.inn) rfl rfl rfl HL1.out) ?_)
          | ((with_reducible show wpListIn _ _ _ _ _ (Oper.mk _ (Op.lookup 50 _ _ _) _ _ _ _ :: _) _ _); refine listR_want (by rfl) (fun c h => by cases h) (run_lookB (key := gkB x.2.out) rfl rfl rfl HL2.out) ?_))
        have bd5 := (Below.refl W5.heap.size W5).drew
        have HJD := Lib.hid (HJ5.out.below bd5)
        obtain ⟨Y1, hu1, q1, g1⟩ := HJD.out.s1.put famInnerN Tryd.underlying49 HPL.out (wfL_inn HXF.out) HN1.out
        have k1 := Kept.of_grownN g1
        have hs2 := HJD.out.s2.of_block (k1.block m2 HJD.out.s2.lt (fun e => hmz.2.2 e.symm))
        obtain ⟨Y2, hu2, q2, g2⟩ := hs2.put famOuterN Tryd.underlying50 HPL.out (wfL_out HXF.out) HN2.out
        have k2 := Kept.of_grownN g2
        have HU1 := Lib.hid hu1
        have HU2 := Lib.hid hu2
        have HSTEP := Lib.hid (HJD.out.step (x := x) hmz.2.2 hmz.1 hmz.2.1 q1 k1 q2 k2)
        have hbxD := (bd5.block vb (heap_lt HBX5.out)).trans HBX5.out
        have HB7 : Hid (∀ U, CK W5.drew U → U.cell? ⟨g7, 0, none⟩ = some (.map (some m1)) ∧ U.cell? ⟨g8, 0, none⟩ = some (.map (some m2)) ∧ U.rangeAt vb 0 (clI x.2.inn) ∧ U.rangeAt vb 4 (clI x.2.out)) := Lib.hid (fun U hU => ⟨(hU.boxed HJD.out.x7).cell, (hU.boxed HJD.out.x8).cell, box_inn (hU.k _ _ _ _ hbxD), box_out (hU.k _ _ _ _ hbxD)⟩)
        have c1 : CK W5.drew Y1 := CK.of_map k1 (fun cs ty fr => HJD.out.s1.isMap)
        have c2 : CK Y1 Y2 := CK.of_map k2 (fun cs ty fr => hs2.isMap)
        have C1 := Lib.hid c1
        have C2 := Lib.hid (c1.trans c2)
        have HKF : Hid (KeepsFrom w3.heap.size W Y2 ∧ KeepN A3 W Y2) := Lib.hid (by
          have xx := X5.out.trans (bd5.mono X5.out.size)
          refine ⟨⟨Nat.le_trans xx.size (C2.out.size), fun i o hB hi ho => ?_⟩, KeepN.of_heap (fun ga hga => ?_)⟩
          · have h5 := (xx.block i (heap_ltO hi)).trans hi
            exact (k2.block i (Nat.lt_of_lt_of_le (heap_ltO h5) k1.size) (fun e => by have e : i = m2 := e; omega)).trans ((k1.block i (heap_ltO h5) (fun e => by have e : i = m1 := e; omega)).trans h5)
          · have hgz := HAL.out ga hga
            obtain ⟨n1, n2⟩ := HA3.out ga hga
            have hgW : ga.block < W.heap.size := Nat.lt_of_lt_of_le hgz hzW
            exact (k2.block _ (Nat.lt_of_lt_of_le (Nat.lt_of_lt_of_le hgW xx.size) k1.size) n2).trans ((k1.block _ (Nat.lt_of_lt_of_le hgW xx.size) n1).trans (xx.block _ hgW)))
        clear hu1 hu2 q1 q2 g1 g2 k1 k2 hs2 hbxD c1 c2 hri hro5 k7 k8 bd5
        refine region_roundH (S := fun U => CK W5.drew U) (by kernel_rfl) (by kernel_rfl) (fun h => by obtain ⟨_, _, h⟩ := h; exact h) (CK.of_below (Below.refl _ _)) (fun hS => ?_)
        refine held_pure (i := 0) (oi := ⟨some 96, _, _, _, _, _⟩) rfl (by kernel_rfl) (by kernel_rfl) (by kernel_rfl) (fun _ _ _ h => h) (by rfl) (fun w hSw => run_load_mi rfl rfl (HB7.out _ hSw).1) hS (fun hS => ?_)
        try go_frame
        refine held_pure (i := 1) (oi := ⟨some 97, _, _, _, _, _⟩) rfl (by kernel_rfl) (by kernel_rfl) (by kernel_rfl) (fun _ _ _ h => h) (by rfl) (v := ?_) (fun w hSw => ?_) hS (fun hS => ?_)
        rotate_left
        · go_simp; try with_reducible rfl
        try go_frame
        refine held_pure (i := 2) (oi := ⟨some 98, _, _, _, _, _⟩) rfl (by kernel_rfl) (by kernel_rfl) (by kernel_rfl) (fun _ _ _ h => h) (by rfl) (fun w hSw => run_load_inn rfl rfl (HB7.out _ hSw).2.2.1) hS (fun hS => ?_)
        try go_frame
        refine held_pure (i := 3) (oi := ⟨some 99, _, _, _, _, _⟩) rfl (by kernel_rfl) (by kernel_rfl) (by kernel_rfl) (fun _ _ _ h => h) (by rfl) (fun w hSw => run_load_mo rfl rfl (HB7.out _ hSw).2.1) hS (fun hS => ?_)
        try go_frame
        refine held_pure (i := 4) (oi := ⟨some 100, _, _, _, _, _⟩) rfl (by kernel_rfl) (by kernel_rfl) (by kernel_rfl) (fun _ _ _ h => h) (by rfl) (v := ?_) (fun w hSw => ?_) hS (fun hS => ?_)
        rotate_left
        · go_simp; try with_reducible rfl
        try go_frame
        refine held_pure (i := 5) (oi := ⟨some 101, _, _, _, _, _⟩) rfl (by kernel_rfl) (by kernel_rfl) (by kernel_rfl) (fun _ _ _ h => h) (by rfl) (fun w hSw => run_load_out rfl rfl (HB7.out _ hSw).2.2.2) hS (fun hS => ?_)
        try go_frame
        refine wpAnyH_ready (rs := [6]) (by kernel_rfl) (by simp) (AllReadyH.cons (o := ⟨none, _, _, _, _, _⟩) rfl (fun K hK => ?_) AllReadyH.nil)
        rw [if_pos (by rfl)]
        refine upd_wp (key := gkB x.2.inn) (c := .bool true) rfl rfl rfl rfl HU1.out ?_
        refine hK.out _ _ C1.out (fun hS => ?_)
        clear hK K
        try go_frame
        refine wpAnyH_ready (rs := [7]) (by kernel_rfl) (by simp) (AllReadyH.cons (o := ⟨none, _, _, _, _, _⟩) rfl (fun K hK => ?_) AllReadyH.nil)
        rw [if_pos (by rfl)]
        refine upd_wp (key := gkB x.2.out) (c := .bool true) rfl rfl rfl rfl HU2.out ?_
        refine hK.out _ _ C2.out (fun hS => ?_)
        clear hK K
        try go_frame
        refine wpAnyH_done (by kernel_rfl) ?_ _
        gi_wp2
        exact ⟨HKF.out.1, HKF.out.2, HSTEP.out, Nat.le_trans hzW HKF.out.1.size⟩
      case stop =>
        rintro D cd pre X hD _ hf hK
        exact hf.elim
      case done =>
        rintro D xs X hD hxs ⟨hJX, hzX⟩ hK
        subst ha0
        subst hxs
        have hm1 : Marks w3.heap.size X.heap.size [{ target := .collected D, args := #[] }] X := (Marks.push (hi := D) (ds := []) trivial (Nat.le_refl _) hD hK).more (heap_lt hK)
        have HJX := Lib.hid hJX
        have HTX := Lib.hid (hT.below hJX.bi.bel (Nat.le_refl _))
        obtain ⟨b1, b2, A, c, f, hdb⟩ := hJX.bi.db
        have HDX := Lib.hid hdb
        have k7 := hJX.x7.cell
        have kgX := hJX.bi.box.cell
        obtain ⟨N9, hN9⟩ : ∃ N9, N9 = (docB 0 S).length := ⟨_, rfl⟩
        have hln := fun ty => hJX.s1.len Tryd.underlying49 ty
        rw [List.length_map, ← hN9] at hln
        have HN9 := Lib.hid hN9
        clear hseq hJX hdb hN9
        first
          | gi_upto_region 23 with fail
          | go_upto_region 23 with fail
        first
          | refine wpIn_wide.2 ?_
          | skip
        go_wp2_with (first
          | (go_at_call 21; refine (blen HDX.out).mono ?_; rintro e y3 ⟨rfl, rfl⟩; rw [← HN9.out])
          | (go_at_call 6; refine (awake22 _ HTX.out).mono ?_; rintro e y4 ⟨rfl, x4⟩; have X4 := Lib.hid x4; have hx4 := (HJX.out.bi.below x4).res; have k4 := Boxed.cell hx4; have f4 := Boxed.frozen hx4; clear x4))
        have b4 := HJX.out.bi.bel.trans (X4.out.mono HJX.out.bi.bel.size)
        have hmr : Marks w3.heap.size X.heap.size [{ target := .collected D, args := #[] }] (y4.setCell ⟨w.heap.size, 0, none⟩ (.bool true)) :=
          hm1.keep (fun k h1 h2 => (Below.heap_setCell _ _ _ _ (by have := Boxed.lt HJ3.out.bi.res; simp; omega)).trans (X4.out.block k h2))
        gi_wp2
        refine leaves_marks w3.heap.size (fun Y => Boxed Y w.heap.size 4 (.bool true) ∧ Below w.heap.size w Y)
          (fun Y D hY h1 h2 => ⟨box_keep (n := w3.heap.size) hY.1 (grownBy_putObj' Y D _) (fun k e => by cases e; exact ⟨h1, _, h2, rfl⟩), hY.2.trans (belowK_b (w := w) (Nat.le_refl _) Y D _ _ (by omega) h2 rfl rfl)⟩)
          (fun Y hY => ⟨_, cell1b rfl rfl hY.1, rfl, hY.2⟩) _ _ _ hmr ⟨Boxed.set _ hx4, b4.setCell (p := ⟨w.heap.size, 0, none⟩) (by simp) _⟩

/-! ### The row's step -/
set_option maxRecDepth 100000 in
theorem lifted (os : Os) (started : os.Started) (H : Type) (enc : TypeId × Value → H) :
    ReturnsInHanded {} Tryd.checked os 4 .any (fun w args => (Rows.bindInjectiveSpec.pre enc Tryd.prog Tryd.f4 [] false w args ∧ laidMetH Tryd.prog laidAll w) ∧ sizedMet enc Tryd.prog Tryd.f4 (OpenSpec.ofChange Rows.bindInjectiveSpec) false w args) (Rows.bindInjectiveSpec.post enc Tryd.prog Tryd.f4 false true false false) := by
  refine returnsInHanded_of_change_and (C := Tryd.checked) (X := fun w _ => laidMetH Tryd.prog laidAll w) (fun _ _ _ hh h => h.of_heap hh) own started (by kernel_rfl) Tryd.func4
    (ChangeSpec.witness_shaped (enc := enc) (C := Tryd.checked) (os := os) (X := fun w _ => laidMetH Tryd.prog laidAll w) false (World.doorLaid Tryd.prog 24 os) #[.slice none 0 0] 8 rfl (door_shaped os _) (by kernel_rfl) (by kernel_rfl) (by kernel_rfl) (door_met os _)) ?_
  intro W base args ds gs before hval0 hW _ _ hL _
  have hval : ∀ (j : Nat) t v, Tryd.f4.params[j]? = some t → args[j]? = some v → Value.okWide Tryd.prog W .any base t v := hval0
  have hW' := hW
  obtain ⟨p, q, hA0, hV, rfl, hfz, hnd⟩ := hW
  have hA : DataW.TrodAll enc Tryd.prog W 0 (fun _ => true) true Tryd.f4.params.toList args.toList ds p := hA0
  rw [Tryd.params4] at hA hval
  obtain ⟨v0, vs0, d0, ds0, p0, q0, hargs, rfl, rfl, t0, r0⟩ := trodAll_cons hA
  obtain ⟨rfl, rfl, rfl⟩ := trodAll_nil r0
  obtain rfl : args = #[v0] := by cases args; simp_all
  obtain ⟨rfl, rfl⟩ := trodVars_none hV
  have k0 := t0
  have lt0 := Trod_lt t0
  obtain ⟨A0, c0, l0, rfl, h0, e0, n0, m0⟩ := get_dobs (hval 0 22 v0 rfl rfl) t0
  clear hA0 hval0
  refine (walk A0 c0 l0 W h0 e0 n0 m0 (tabs_of_laid hL)).mono fun e W' ⟨he, bel⟩ => ?_
  subst he
  exact ⟨_, rfl, _, _, _, [], _, [], hW', trodAll_mk1 (shut_bool Tryd.underlying4 _), (trodAll_cons_mk (Below.trod laidOut (by kernel_rfl) (of_decide_eq_true (by kernel_rfl)) k0 bel lt0) trodAll_mk0), rfl, bel.frame _, fun h => by cases h⟩

theorem over : Rows.bindInjectiveRow.holds Tryd.pinned (OpenSpec.ofChange Rows.bindInjectiveSpec) :=
  OpenClaim.holds_of_wide 4 Tryd.f4 rfl rfl rfl rfl rfl rfl rfl ⟨rfl, rfl, rfl, rfl, rfl⟩ rfl rfl rfl rfl rfl (by kernel_rfl) Tryd.func4 (by kernel_rfl)
    (of_decide_eq_true (by kernel_rfl)) (by unfold Func.isWrapper; first | (rw [if_pos (by decide +kernel)]; kernel_rfl) | (rw [if_neg (by decide +kernel)]; exact ⟨rfl, rfl⟩))
    (fun os started H enc _ => lifted os started H enc)

theorem proved : Rows.BindInjectiveCardSaid :=
  Claim7.holds_tied_plain_at .later [] Rows.bindInjectiveCard.laidKinds true Rows.bindInjectiveCard.stood.harness false
    over (fun _ h => by cases h) (by kernel_rfl) (fun _ h => by cases h) bindInjective_row_tie rfl ⟨rfl, rfl⟩ (by kernel_rfl) rfl
    (fun f fn hf hfn => by
      obtain rfl : f = 4 := Option.some.inj ((show Tryd.prog.funcNamed "goosepond/goosepondlaw22.BindInjective" = some 4 by kernel_rfl).symm.trans hf) |>.symm
      obtain rfl : fn = Tryd.f4 := (Option.some.inj (Tryd.func4.symm.trans hfn)).symm
      exact ⟨by kernel_rfl, fun j t ht => by
        have hall : (Tryd.f4.params.toList.all fun u => !Tryd.prog.wantsStandIn u) = true := by kernel_rfl
        have hm : t ∈ Tryd.f4.params.toList := by simpa using Array.mem_of_getElem? ht
        exact (show Tryd.prog.wantsStandIn t = false by simpa using List.all_eq_true.1 hall t hm)⟩)
    (by kernel_rfl)
end Go.Proofs.YtafidbjaeopciaaDoor.bindInjective
