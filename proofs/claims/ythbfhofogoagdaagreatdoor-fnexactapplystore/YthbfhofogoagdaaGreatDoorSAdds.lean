/-
 Texts that are laid as one: SAdd, SAddG.
-/
import Derived.Test.YthbfhofogoagdaaGreatDoorAddM
import Derived.Test.YthbfhofogoagdaaGreatDoorGetAll
import Derived.Laws.AppendOwnNone
namespace Go.Proofs.YthbfhofogoagdaaGreatDoor
open Go.RowKit
set_option linter.unusedVariables false
theorem addOk_no1 (ps qs:List PairL) (h:storeOkL ps=false):addOk ps qs=false:=by rw[addOk,h];rfl
theorem addOk_no2 (ps qs:List PairL) (h:storeOkL qs=false):addOk ps qs=false:=by rw[addOk,h];simp
theorem addOk_no3 (ps qs:List PairL) (h:clashB ps qs=true):addOk ps qs=false:=by rw[addOk,h];simp
theorem addOk_no4 (ps qs:List PairL) (h:400<(sortedL (ps ++ qs)).length):addOk ps qs=false:=by rw[addOk,decide_eq_false (by omega:¬ (sortedL (ps ++ qs)).length≤400)];simp
theorem addOk_yes (ps qs:List PairL) (h1:storeOkL ps=true) (h2:storeOkL qs=true) (h3:clashB ps qs=false) (h4:(sortedL (ps ++ qs)).length≤400):addOk ps qs=true:=by rw[addOk,h1,h2,h3,decide_eq_true h4];rfl
theorem addR_no (ps qs:List PairL) (h:addOk ps qs=false):addR ps qs=[]:=by rw[addR,h];rfl
theorem addR_yes (ps qs:List PairL) (h:addOk ps qs=true):addR ps qs=sortedL (ps ++ qs):=if_pos h
theorem store_le (ps:List PairL) (h:storeOkL ps=true):ps.length≤400:=by
 simp only[storeOkL,Bool.and_eq_true,decide_eq_true_eq] at h
 exact h.1
theorem st_flat {w:World} {b off:Nat} {qs:List PairL} (h:IsPairs w (some ⟨b,off,none⟩) qs):∀ j u,(pcells qs)[j]? = some u→w.cell? ((⟨b,off,none⟩:Addr).add j)=some u:=by
 intro j u hu
 have hj:j<qs.length*2:=by
  have:=(List.getElem?_eq_some_iff.1 hu).1
  rwa [pcells_length] at this
 rcases h with rfl | ⟨b',off',he,hc⟩
 · simp at hj
 · cases he
   have ht:=hc (j / 2) (by omega)
   have hp:=pcells_at qs (j / 2) (by omega)
   rcases Nat.mod_two_eq_zero_or_one j with h0 | h0
   · have e:j=j / 2*2:=by omega
     rw[e] at hu ⊢
     rw[hp.1] at hu
     cases hu
     have ea:(⟨b,off,none⟩:Addr).add (j / 2*2)=⟨b,off+j / 2*2,none⟩:=by
      simp only[Addr.add]
      split
      · rename_i h9;rw[h9];rfl
      · rfl
     rw[ea];exact ht.1
   · have e:j=j / 2*2+1:=by omega
     rw[e] at hu ⊢
     rw[hp.2] at hu
     cases hu
     have ea:(⟨b,off,none⟩:Addr).add (j / 2*2+1)=⟨b,off+j / 2*2+1,none⟩:=by simp[Addr.add,Nat.add_assoc]
     rw[ea];exact ht.2
def AddPost (w:World) (ps qs:List PairL) (e:Ending) (w':World):Prop :=
 ∃ (a:Option Addr) (m c:Nat),e=.returned (.tuple #[.slice a m c,.bool (addOk ps qs)])∧w'.ownsRow w.heap.size 50 2 (.slice a m c) (addR ps qs).length (pcells (addR ps qs))∧Below w.heap.size w w'
theorem addPost_no {w w':World} {ps qs:List PairL} (h:addOk ps qs=false) (hb:Below w.heap.size w w'):AddPost w ps qs (.returned (.tuple #[.slice none 0 0,.bool false])) w' :=
 ⟨none,0,0,by rw[h],by rw[addR_no _ _ h];exact World.ownsRow_nil _ _ _ _,hb⟩
set_option maxRecDepth 100000 in
set_option maxHeartbeats 2000000 in
theorem spec_storeAdd (b off cap : Nat) (ps : List PairL) (b2 off2 cap2 : Nat) (qs : List PairL) (w : World) (hl : ps.length ≤ 1048576) (hm : ∀ p ∈ ps, p.1.length ≤ 1048576 ∧ p.2.length ≤ 1048576) (hs : IsPairs w (some ⟨b, off, none⟩) ps) (hl2 : qs.length ≤ 1048576) (hm2 : ∀ p ∈ qs, p.1.length ≤ 1048576 ∧ p.2.length ≤ 1048576) (hs2 : IsPairs w (some ⟨b2, off2, none⟩) qs) :
 Calls Tryz.prog 37 #[.slice (some ⟨b,off,none⟩) ps.length cap,.slice (some ⟨b2,off2,none⟩) qs.length cap2] w fun e w'=>AddPost w ps qs e w':=by
 obtain⟨i0,hi0,hz0,hz1,hz2⟩:=info_parts infoStored
 have K1:=spec_storeOk (some ⟨b,off,none⟩) cap ps w hl hm hs
 have HK2:Hid (∀ W,Below w.heap.size w W→_):=fun W hW=>spec_storeOk (some ⟨b2,off2,none⟩) cap2 qs W hl2 hm2 (hs2.later hW)
 have HKF:Hid (∀ h W,Below w.heap.size w W→_):=fun h W hW=>spec_l6Find (some ⟨b,off,none⟩) cap ps h W hl (hs.later hW)
 have HS:Hid (∀ W,Below w.heap.size w W→IsPairs W (some ⟨b,off,none⟩) ps∧IsPairs W (some ⟨b2,off2,none⟩) qs):=fun W hW=>⟨hs.later hW,hs2.later hW⟩
 have HNO1:Hid (storeOkL ps=false→addOk ps qs=false):=addOk_no1 ps qs
 have HNO2:Hid (storeOkL qs=false→addOk ps qs=false):=addOk_no2 ps qs
 have HL1:Hid (storeOkL ps=true→ps.length≤400):=store_le ps
 have HL2:Hid (storeOkL qs=true→qs.length≤400):=store_le qs
 obtain⟨s1,hs1⟩:∃ s1,s1=storeOkL ps:=⟨_,rfl⟩
 obtain⟨s2,hs2'⟩:∃ s2,s2=storeOkL qs:=⟨_,rfl⟩
 have HST:Hid (s1=storeOkL ps∧s2=storeOkL qs):=⟨hs1,hs2'⟩
 rw[←hs1] at K1 HNO1 HL1
 rw[←hs2'] at HK2 HNO2 HL2
 clear hs hs2 hm hm2 hs1 hs2'
 cases s1 with
 | false =>
   have HZ:=HNO1.out rfl
   have HZZ:Hid (addOk ps qs=false):=HZ
   clear HZ
   go_enter Tryz.func37,Tryz.ntmps37
   go_wp2_with fail
   refine K1.mono ?_
   rintro e w1 ⟨rfl,b1⟩
   go_wp2
   go_ret2
   exact addPost_no HZZ.out b1
 | true =>
   cases s2 with
   | false =>
     have HZZ:Hid (addOk ps qs=false):=HNO2.out rfl
     go_enter Tryz.func37,Tryz.ntmps37
     go_wp2_with fail
     refine K1.mono ?_
     rintro e w1 ⟨rfl,b1⟩
     go_wp2_with fail
     refine (HK2.out w1 b1).mono ?_
     rintro e w2 ⟨rfl,b2⟩
     have B2:=b1.trans (b2.mono b1.size)
     go_wp2
     go_ret2
     exact addPost_no HZZ.out B2
   | true =>
     have hp4:=HL1.out rfl
     have hq4:=HL2.out rfl
     go_enter Tryz.func37,Tryz.ntmps37
     go_wp2_with fail
     refine K1.mono ?_
     rintro e w1 ⟨rfl,b1⟩
     go_wp2_with fail
     refine (HK2.out w1 b1).mono ?_
     rintro e w2 ⟨rfl,bb2⟩
     have B2:=b1.trans (bb2.mono b1.size)
     have HC2:Hid (∀ W,Below w.heap.size w W→∀ j,j<qs.length→W.cell? ⟨b2,off2+j*2,none⟩=some (.string ⟨(keyAt qs j).toArray⟩)∧W.cell? ⟨b2,off2+j*2+1,none⟩=some (.string ⟨(valAt qs j).toArray⟩)):=fun W hW j hj=>by
      rcases (HS.out W hW).2 with h | ⟨b',off',he,hc⟩
      · rw[h] at hj;simp at hj
      · cases he
        rw[keyAt_lt qs j hj,valAt_lt qs j hj];exact hc j hj
     have HNC:Hid ((∀ j,j<qs.length→∀ t',findL ps (keyAt qs j)=some t'→t'=valAt qs j)→clashB ps qs=false):=fun h=>clash_all ps qs (fun j hj t' ht=>by
      have:=h j hj t' (by rw[keyAt_lt qs j hj];exact ht)
      rwa [valAt_lt qs j hj] at this)
     have HYC:Hid (∀ j,j<qs.length→∀ t',findL ps (keyAt qs j)=some t'→t'≠valAt qs j→addOk ps qs=false):=fun j hj t' ht hne=>addOk_no3 ps qs (clash_at ps qs j hj t' (by rw[←keyAt_lt qs j hj];exact ht) (by rw[←valAt_lt qs j hj];exact hne))
     have HEND:Hid (clashB ps qs=false→(400<(sortedL (ps ++ qs)).length→addOk ps qs=false)∧((sortedL (ps ++ qs)).length≤400→addOk ps qs=true)):=fun h=>⟨addOk_no4 ps qs,addOk_yes ps qs HST.out.1.symm HST.out.2.symm h⟩
     clear b1 bb2 K1 HK2 HNO1 HNO2 HL1 HL2 HST
     go_wp2
     go_loopw [6] (fun i wr=>∃ j:Nat,j≤qs.length∧i=.int .i64 (j:Int)∧Hid (∀ q,q<j→∀ t',findL ps (keyAt qs q)=some t'→t'=valAt qs q)∧Below w.heap.size w wr) (fun i _=>qs.length - (intOf i).toNat)
     case atStart=>exact⟨0,Nat.zero_le _,rfl,fun k hk=>by omega,B2⟩
     case round =>
      obtain⟨j,hj,rfl,HA,hbel⟩:=hrel
      by_cases hlt:j<qs.length
      · obtain⟨c1,c2⟩:=HC2.out wr hbel j hlt
        have hj0:(0:Int)≤(j:Int):=by omega
        have hj1:(j:Int)<(qs.length:Int):=by omega
        have KF:=HKF.out (keyAt qs j) wr hbel
        have HN:Hid ((∀ t',findL ps (keyAt qs j)=some t'→t'=valAt qs j)→∀ k,k<j+1→∀ t',findL ps (keyAt qs k)=some t'→t'=valAt qs k):=fun e k hk=>by
         by_cases ek:k=j
         · rw[ek];exact e
         · exact HA.out k (by omega)
        have HY:Hid (∀ t',findL ps (keyAt qs j)=some t'→t'≠valAt qs j→addOk ps qs=false):=HYC.out j hlt
        have HC3:Hid (∀ W,Below w.heap.size w W→W.cell? ⟨b2,off2+j*2+1,none⟩=some (.string ⟨(valAt qs j).toArray⟩)):=fun W hW=>(HC2.out W hW j hlt).2
        obtain⟨x,hx⟩:∃ x,x=keyAt qs j:=⟨_,rfl⟩
        obtain⟨y,hy⟩:∃ y,y=valAt qs j:=⟨_,rfl⟩
        obtain⟨f,hf⟩:∃ f,f=findL ps (keyAt qs j):=⟨_,rfl⟩
        rw[←hf] at HN HY
        rw[←hx] at c1 KF hf
        rw[←hf] at KF
        rw[←hy] at c2 HN HY HC3
        clear HA HYC HNC HEND hx hy hf
        go_wp2_with fail
        refine KF.mono ?_
        rintro e w4 ⟨rfl,b4⟩
        have B4:=hbel.trans (b4.mono hbel.size)
        have c4:=HC3.out w4 B4
        clear b4 KF c1 c2
        cases f with
        | none =>
          have HN':=HN.out (fun t' h=>by cases h)
          have HNN:Hid (∀ k,k<j+1→∀ t',findL ps (keyAt qs k)=some t'→t'=valAt qs k):=HN'
          clear HN' HN HY
          simp only[Option.getD_none,Option.isSome_none]
          go_wp2
          go_roundw
          case rel=>exact⟨j+1,by omega,by go_num,HNN,by first | exact B4 | exact below_dr B4⟩
          case measure=>simp[intOf];omega
        | some u =>
          simp only[Option.getD_some,Option.isSome_some]
          by_cases he:u=y
          · subst he
            have HNN:Hid (∀ k,k<j+1→∀ t',findL ps (keyAt qs k)=some t'→t'=valAt qs k):=HN.out (fun t' h=>by cases h;rfl)
            clear HN HY
            go_wp2
            go_roundw
            case rel=>exact⟨j+1,by omega,by go_num,HNN,by first | exact B4 | exact below_dr B4⟩
            case measure=>simp[intOf];omega
          · have heb:(u == y)=false:=by rw[beq_eq_false_iff_ne];exact he
            have HZZ:Hid (addOk ps qs=false):=HY.out u rfl he
            clear HN HY
            go_wp2
            go_ret2
            exact addPost_no HZZ.out (by first | exact B4 | exact below_dr B4)
      · have hjl:j=qs.length:=by omega
        subst hjl
        have HE:Hid ((400<(sortedL (ps ++ qs)).length→addOk ps qs=false)∧((sortedL (ps ++ qs)).length≤400→addOk ps qs=true)):=HEND.out (HNC.out HA.out)
        have HRY:Hid (addOk ps qs=true→addR ps qs=sortedL (ps ++ qs)):=addR_yes ps qs
        have hSB:=HS.out wr hbel
        have HSL:Hid (∀ (g c:Nat) W,IsPairs W (some ⟨g,0,none⟩) (ps ++ qs)→_):=fun g c W h=>spec_l5Sorted (some ⟨g,0,none⟩) c (ps ++ qs) W (by simp;omega) h
        have L1:Hid (Below wr.heap.size wr (wr.alloc (.cells #[] 50))):=(Below.refl _ _).alloc (Nat.le_refl _) _
        have HF1:Hid (∀ i u,(pcells ps)[i]? = some u→(wr.alloc (.cells #[] 50)).cell? ((⟨b,off,none⟩:Addr).add i)=some u):=st_flat (HS.out _ (hbel.trans (L1.out.mono hbel.size))).1
        have HF2:Hid (∀ W,Below wr.heap.size wr W→∀ i u,(pcells qs)[i]? = some u→W.cell? ((⟨b2,off2,none⟩:Addr).add i)=some u):=fun W hW=>st_flat (HS.out _ (hbel.trans (hW.mono hbel.size))).2
        have HO0:=hidOwn (World.ownsRow_lit (e:=50) (size:=2) wr #[] 0 (base:=wr.heap.size) (Nat.le_refl _) (Nat.zero_le _) rfl)
        have HRUN:Hid (∀ (a:Option Addr) (m c:Nat) W,W.ownsRow wr.heap.size 50 2 (.slice a m c) (0+ps.length+qs.length) ([] ++ pcells ps ++ pcells qs)→Calls Tryz.prog 55 #[.slice a m c] W fun e w'=>∃ g c:Nat,e=.returned (.slice (some ⟨g,0,none⟩) (sortedL (ps ++ qs)).length c)∧w'.ownsRow W.heap.size 50 2 (.slice (some ⟨g,0,none⟩) (sortedL (ps ++ qs)).length c) (sortedL (ps ++ qs)).length (pcells (sortedL (ps ++ qs)))∧Below W.heap.size W w'):=fun a m c W ho=>by
         have ho':W.ownsRow wr.heap.size 50 2 (.slice a m c) (ps ++ qs).length (pcells (ps ++ qs)):=by
          rw[pcells_app,List.length_append];simpa using ho
         obtain⟨e1,_,h3⟩:=isPairs_own ho'
         subst e1
         exact spec_l5Sorted a c (ps ++ qs) W (by simp;omega) h3
        clear HA HYC HNC HEND HC2 hSB HSL
        go_wp2_with (first | (at_builtin;refine wpList_append_own _ rfl _ _ 28 rfl wr.heap.size 50 i0 (.agg #[.string ⟨#[]⟩,.string ⟨#[]⟩]) 2 32 Tryz.underlying28 hi0 hz0 hz1 hz2 rfl (by decide) (.slice a3 m3 c3) (0+ps.length) _ rfl OV3.out ⟨b2,off2,none⟩ qs.length cap2 (pcells qs) rfl (pcells_length qs) F3 (poneS qs) (by unfold maxLen;omega) (by omega) (by first | omega | (simp <;> omega)) ?_;intro v4 w4 hown4 hgrow4 hnil4;obtain⟨a4,m4,c4,rfl⟩:=own_slice2 hown4) | (at_builtin;refine wpList_append_own _ rfl _ _ 28 rfl wr.heap.size 50 i0 (.agg #[.string ⟨#[]⟩,.string ⟨#[]⟩]) 2 32 Tryz.underlying28 hi0 hz0 hz1 hz2 rfl (by decide) (.slice (some ⟨wr.heap.size,0,none⟩) 0 0) 0 _ rfl HO0.out ⟨b,off,none⟩ ps.length cap (pcells ps) rfl (pcells_length ps) HF1.out (poneS ps) (by unfold maxLen;omega) (by omega) (by simp <;> omega) ?_;intro v3 w3 hown3 hgrow3 hnil3;obtain⟨a3,m3,c3,rfl⟩:=own_slice2 hown3;have B3:Below wr.heap.size wr w3:=L1.out.grown hgrow3 (by simp) (fun q hq=>by simp[Value.ownBlock] at hq;omega);have F3:=HF2.out w3 B3;have s3:=B3.size;have OV3:=hidOwn hown3;clear hown3 hgrow3 hnil3))
        have B4:Below w.heap.size w w4:=hbel.trans ((B3.grown hgrow4 s3 (fun k hk=>(OV3.out.lt k hk).1)).mono hbel.size)
        have K5:=HRUN.out a4 m4 c4 w4 hown4
        have HAO:Hid ((sortedL (ps ++ qs)).length≤400∨400<(sortedL (ps ++ qs)).length):=by rw[Hid];omega
        have HLS:Hid ((sortedL (ps ++ qs)).length≤800):=by
         have:=sorted_len (ps ++ qs) _ (Nat.le_refl _)
         rw[List.take_length,List.length_append] at this
         rw[Hid];omega
        obtain⟨R,hR⟩:∃ R,R=sortedL (ps ++ qs):=⟨_,rfl⟩
        rw[←hR] at K5 HE HRY HAO HLS
        clear hown4 hgrow4 hnil4 hR HRUN HF1 HF2 HO0 L1 F3 OV3 B3
        refine K5.mono ?_
        rintro e w5 ⟨g5,c5,rfl,o5,b5⟩
        have B5:=B4.trans (b5.mono B4.size)
        have O5:=hidOwn (o5.mono (base':=w.heap.size) B4.size)
        have hls:=HLS.out
        clear o5 b5 K5
        rcases HAO.out with h | h
        · have hh:¬ 400<(R.length:Int):=by omega
          have hok:=HE.out.2 h
          have HOK:Hid (addOk ps qs=true∧addR ps qs=R):=⟨hok,HRY.out hok⟩
          clear HE HRY HAO hok
          go_wp2
          go_ret2
          exact⟨_,_,_,by rw[HOK.out.1];rfl,by rw[HOK.out.2];exact O5.out,by first | exact B5 | exact below_dr B5⟩
        · have hh:400<(R.length:Int):=by omega
          have HZZ:Hid (addOk ps qs=false):=HE.out.1 h
          clear HE HRY HAO
          go_wp2
          go_ret2
          exact addPost_no HZZ.out (by first | exact B5 | exact below_dr B5)
end Go.Proofs.YthbfhofogoagdaaGreatDoor
