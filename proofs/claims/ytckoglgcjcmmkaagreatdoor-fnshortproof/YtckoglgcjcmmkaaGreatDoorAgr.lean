/-
 Contracts: how many texts of a proof a store holds (Agrees), of the program and of the model (written by mkagr.py).
-/
import Derived.Test.YtckoglgcjcmmkaaGreatDoorGetAll
import Derived.Test.YtckoglgcjcmmkaaGreatDoorIListAll
namespace Go.Proofs.YtckoglgcjcmmkaaGreatDoor
open Go.RowKit
set_option linter.unusedVariables false
def agOk (ps:List PairL) (t:List UInt8):Bool:=match findL ps (sumL t) with
 | none=>true
 | some x=>decide (x=t)
def agOne (ps:List PairL) (t:List UInt8):Nat:=if (findL ps (sumL t)).isSome=true then 1 else 0
def agCnt (ps:List PairL) (ts:List (List UInt8)):Nat:=(ts.map (agOne ps)).sum
def agB (ps:List PairL) (ts:List (List UInt8)):Bool:=storeOkL ps && (decide (ts.length≤30) && ts.all (agOk ps))
def agN (ps:List PairL) (ts:List (List UInt8)):Nat:=if agB ps ts=true then agCnt ps ts else 0
theorem agB_store (ps:List PairL) (ts:List (List UInt8)) (h:storeOkL ps=false):agB ps ts=false:=by rw[agB,h];rfl
theorem agB_long (ps:List PairL) (ts:List (List UInt8)) (h:30<ts.length):agB ps ts=false:=by rw[agB,decide_eq_false (by omega)];simp
theorem agB_at (ps:List PairL) (ts:List (List UInt8)) (j:Nat) (hj:j<ts.length) (h:agOk ps ts[j]=false):agB ps ts=false:=by
 have:ts.all (agOk ps)=false:=by
  rw[List.all_eq_false]
  exact⟨ts[j],List.getElem_mem _,by simp[h]⟩
 rw[agB,this];simp
theorem agB_yes (ps:List PairL) (ts:List (List UInt8)) (h1:storeOkL ps=true) (h2:ts.length≤30) (h3:∀ t∈ts,agOk ps t=true):agB ps ts=true:=by
 rw[agB,h1,decide_eq_true h2,List.all_eq_true.2 h3];rfl
theorem agN_no (ps:List PairL) (ts:List (List UInt8)) (h:agB ps ts=false):agN ps ts=0:=by rw[agN,h];rfl
theorem agN_yes (ps:List PairL) (ts:List (List UInt8)) (h:agB ps ts=true):agN ps ts=agCnt ps ts:=if_pos h
theorem agCnt_take (ps:List PairL) (ts:List (List UInt8)) (j:Nat) (hj:j<ts.length):agCnt ps (ts.take (j+1))=agCnt ps (ts.take j)+agOne ps ts[j]:=by
 rw[List.take_succ_eq_append_getElem hj,agCnt,agCnt,List.map_append,List.sum_append];simp
theorem agCnt_le (ps:List PairL):∀ ts:List (List UInt8),agCnt ps ts≤ts.length
 | []=>by simp[agCnt]
 | t :: r => by
   have:=agCnt_le ps r
   have h1:agOne ps t≤1:=by unfold agOne;split <;> omega
   simp only[agCnt,List.map_cons,List.sum_cons,List.length_cons] at this ⊢
   omega
theorem agOk_none (ps:List PairL) (t:List UInt8) (h:findL ps (sumL t)=none):agOk ps t=true∧agOne ps t=0:=by simp[agOk,agOne,h]
theorem agOk_same (ps:List PairL) (t:List UInt8) (h:findL ps (sumL t)=some t):agOk ps t=true∧agOne ps t=1:=by simp[agOk,agOne,h]
theorem agOk_un (ps:List PairL) (t x:List UInt8) (h:findL ps (sumL t)=some x) (hne:x≠t):agOk ps t=false:=by simp[agOk,h,hne]
set_option maxRecDepth 100000 in
set_option maxHeartbeats 1000000 in
theorem impl_agrees (a : Option Addr) (cap : Nat) (ps : List PairL) (b : Option Addr) (cb : Nat) (ts : List (List UInt8)) (w : World) (hT : Tab w) (hl : ps.length ≤ 1048576) (hm : ∀ p ∈ ps, p.1.length ≤ 1048576 ∧ p.2.length ≤ 1048576) (hs : IsPairs w a ps) (htl : ts.length ≤ 1048576) (htm : ∀ l ∈ ts, l.length ≤ 1048576) (hts : IsStrs w b ts) :
 Calls Tryz.prog 19 #[.slice a ps.length cap,.slice b ts.length cb] w fun e w'=>e=.returned (.tuple #[.int .i64 (agN ps ts:Int),.bool (agB ps ts)])∧Below w.heap.size w w':=by
 have K:=impl_heldNodes a cap ps w hT hl hm hs
 have HT:Hid (Tab w):=hT
 obtain⟨rn,hrn⟩:∃ rn,rn=agN ps ts:=⟨_,rfl⟩
 obtain⟨rb,hrb⟩:∃ rb,rb=agB ps ts:=⟨_,rfl⟩
 have HNO:Hid (agB ps ts=false→rn=0∧rb=false):=fun h=>⟨by rw[hrn,agN_no _ _ h],by rw[hrb,h]⟩
 have HYES:Hid (agB ps ts=true→rn=agCnt ps ts∧rb=true):=fun h=>⟨by rw[hrn,agN_yes _ _ h],by rw[hrb,h]⟩
 rw[←hrn,←hrb]
 clear hrn hrb
 by_cases hst:storeOkL ps=true
 · rw [hst] at K
   have KA:Hid (∀ mb h W,h.length≤1048576→W.ownsMap Tryz.prog 90 hnR mb ps.length (datL ps)→Calls Tryz.prog 29 #[.map (some mb),.string ⟨h.toArray⟩] W fun e w'=>∃ (k:Int) (p:ByteArray) (a:Option Addr) (m c:Nat) (y:ByteArray),e=.returned (.tuple #[.agg #[.string ⟨((findL ps h).getD []).toArray⟩,.int .i64 k,.string p,.slice a m c,.string y],.bool (findL ps h).isSome])∧Below W.heap.size W w'):=fun mb h W hhl ho=>impl_at mb _ ps h W hst hhl ho
   have HTS:Hid (∀ W,Below w.heap.size w W→IsStrs W b ts):=fun W hW=>strs_later hts hW
   have HTM:Hid (∀ l∈ts,l.length≤1048576):=htm
   have HST:Hid (storeOkL ps=true):=hst
   clear hm hs hT hts htm hst
   by_cases h30:ts.length≤30
   · have h30' : (ts.length : Int) ≤ 30 := by omega
     go_enter Tryz.func19,Tryz.ntmps19
     go_wp2_with fail
     refine K.mono ?_
     rintro e w1 ⟨mb,rfl,hown,hmb,b1⟩
     have HO:Hid (∀ W,Below w1.heap.size w1 W→W.ownsMap Tryz.prog 90 hnR mb ps.length (datL ps)):=fun W hW=>hown.kept (grown_of_below hW none) (by simp)
     clear hown K
     go_wp2
     go_loopw [8,27] (fun v i wr=>∃ j:Nat,j≤ts.length∧i=.int .i64 (j:Int)∧v=.int .i64 ((agCnt ps (ts.take j):Nat):Int)∧Hid (∀ t∈ts.take j,agOk ps t=true)∧Below w1.heap.size w1 wr) (fun _ i _=>ts.length - (intOf i).toNat)
     case atStart=>exact⟨0,Nat.zero_le _,rfl,by simp[agCnt],by rw[Hid];simp,Below.refl _ _⟩
     case round =>
      obtain⟨j,hj,rfl,rfl,HA,hbel⟩:=hrel
      have hsz:=hbel.size
      have BW:=b1.trans (hbel.mono b1.size)
      by_cases hlt:j<ts.length
      · obtain⟨bb,off,rfl,hc⟩:∃ bb off,b=some ⟨bb,off,none⟩∧∀ j (h:j<ts.length),wr.cell? ⟨bb,off+j,none⟩=some (.string ⟨ts[j].toArray⟩):=by
         rcases HTS.out wr BW with h | h
         · rw[h] at hlt;simp at hlt
         · exact h
        have c1:=hc j hlt
        have hxl:=HTM.out _ (List.getElem_mem hlt)
        have hj0:(0:Int)≤(j:Int):=by omega
        have hj1:(j:Int)<(ts.length:Int):=by omega
        have HC:Hid (agCnt ps (ts.take (j+1))=agCnt ps (ts.take j)+agOne ps ts[j]):=agCnt_take ps ts j hlt
        have hcl:agCnt ps (ts.take j)≤30:=by have:=agCnt_le ps (ts.take j);rw[List.length_take] at this;omega
        have HBAD:Hid (agOk ps ts[j]=false→rn=0∧rb=false):=fun h=>HNO.out (agB_at ps ts j hlt h)
        have HGO:Hid (agOk ps ts[j]=true→∀ t∈ts.take (j+1),agOk ps t=true):=fun h t ht=>by
         rw[List.take_succ_eq_append_getElem hlt,List.mem_append] at ht
         rcases ht with ht | ht
         · exact HA.out t ht
         · simp at ht;rw[ht];exact h
        obtain⟨x,hx⟩:∃ x,x=ts[j]:=⟨_,rfl⟩
        rw[←hx] at c1 hxl HC HBAD HGO
        obtain⟨cn,hcn⟩:∃ cn,cn=agCnt ps (ts.take j):=⟨_,rfl⟩
        rw[←hcn] at HC hcl ⊢
        have K1:=impl_sum x wr hxl (HT.out.later BW)
        have hsl:=sumL_len x
        have KA2:=fun mb W=>KA.out mb (sumL x) W (by omega)
        have HF0:Hid (findL ps (sumL x)=none→agOk ps x=true∧agOne ps x=0):=agOk_none ps x
        have HF1:Hid (findL ps (sumL x)=some x→agOk ps x=true∧agOne ps x=1):=agOk_same ps x
        have HF2:Hid (∀ y,findL ps (sumL x)=some y→y≠x→agOk ps x=false):=agOk_un ps x
        obtain⟨sx,hsx⟩:∃ sx,sx=sumL x:=⟨_,rfl⟩
        rw[←hsx] at K1 KA2 HF0 HF1 HF2 hsl
        obtain⟨f,hf⟩:∃ f,f=findL ps sx:=⟨_,rfl⟩
        rw[←hf] at KA2 HF0 HF1 HF2
        clear hc hx hcn hsx hf HA
        go_wp2_with fail
        refine K1.mono ?_
        rintro e w2 ⟨rfl,b2⟩
        have D2:=hbel.trans (b2.mono hsz)
        have K2:=KA2 mb w2 (HO.out w2 D2)
        clear K1 b2 hbel KA2
        go_wp2_with fail
        refine K2.mono ?_
        rintro e w3 ⟨xk,xp,xa,xm,xc,xv,rfl,b3⟩
        have D3:=D2.trans (b3.mono D2.size)
        have D4:∀ o,Below w1.heap.size w1 (w3.alloc o):=fun o=>D3.alloc D3.size o
        clear K2 b3
        cases f with
        | none =>
          obtain⟨h1,h2⟩:=HF0.out rfl
          have HR:Hid ((agCnt ps (ts.take (j+1)):Int)=(cn:Int)):=by rw[Hid,HC.out,h2];rfl
          have HG:=HGO.out h1
          simp only[Option.isSome_none,Option.getD_none]
          clear h1 h2 HF0 HF1 HF2 HBAD
          go_wp2
          go_roundw
          case rel=>exact⟨j+1,by omega,by go_num,by rw[HR.out],HG,D4 _⟩
          case measure=>simp[intOf];omega
        | some y =>
          simp only[Option.isSome_some,Option.getD_some]
          by_cases he:y=x
          · subst he
            obtain⟨h1,h2⟩:=HF1.out rfl
            have HR:Hid ((agCnt ps (ts.take (j+1)):Int)=(cn:Int)+1):=by rw[Hid,HC.out,h2];rfl
            have HG:=HGO.out h1
            clear h1 h2 HF0 HF1 HF2 HBAD
            go_wp2
            go_roundw
            case rel=>exact⟨j+1,by omega,by go_num,by rw[HR.out],HG,D4 _⟩
            case measure=>simp[intOf];omega
          · have heb:(y == x)=false:=by rw[beq_eq_false_iff_ne];exact he
            have hebn:(y != x)=true:=by rw[bne_iff_ne];exact he
            obtain⟨rfl,rfl⟩:=HBAD.out (HF2.out y rfl he)
            clear HF0 HF1 HF2 HGO
            go_wp2
            go_ret2
            exact⟨rfl,b1.trans ((D4 _).mono b1.size)⟩
      · have hjl:j=ts.length:=by omega
        subst hjl
        have HAA:=HA.out
        rw[List.take_length] at HAA ⊢
        obtain⟨rfl,rfl⟩:=HYES.out (agB_yes ps ts HST.out h30 HAA)
        clear HAA
        go_wp2
        go_ret2
        exact⟨rfl,BW⟩
   · have HN:=HNO.out (agB_long ps ts (by omega))
     obtain⟨rfl,rfl⟩:=HN
     have h30':¬ (ts.length:Int)≤30:=by omega
     go_enter Tryz.func19,Tryz.ntmps19
     go_wp2_with fail
     refine K.mono ?_
     rintro e w1 ⟨mb,rfl,hown,hmb,b1⟩
     clear hown K
     go_wp2
     go_ret2
     exact⟨rfl,b1⟩
 · have hst':storeOkL ps=false:=by simpa using hst
   rw[hst'] at K
   have HN:=HNO.out (agB_store ps ts hst')
   obtain⟨rfl,rfl⟩:=HN
   clear hst hst' hm hs hT hts htm HYES HNO
   go_enter Tryz.func19,Tryz.ntmps19
   go_wp2_with fail
   refine K.mono ?_
   rintro e w1 ⟨rfl,b1⟩
   go_wp2
   go_ret2
   exact⟨rfl,b1⟩
set_option maxRecDepth 100000 in
set_option maxHeartbeats 1000000 in
theorem spec_agrees (a : Option Addr) (cap : Nat) (ps : List PairL) (b : Option Addr) (cb : Nat) (ts : List (List UInt8)) (w : World) (hl : ps.length ≤ 1048576) (hm : ∀ p ∈ ps, p.1.length ≤ 1048576 ∧ p.2.length ≤ 1048576) (hs : IsPairs w a ps) (htl : ts.length ≤ 1048576) (htm : ∀ l ∈ ts, l.length ≤ 1048576) (hts : IsStrs w b ts) :
 Calls Tryz.prog 20 #[.slice a ps.length cap,.slice b ts.length cb] w fun e w'=>e=.returned (.tuple #[.int .i64 (agN ps ts:Int),.bool (agB ps ts)])∧Below w.heap.size w w':=by
 have K:=spec_storeOk a cap ps w hl hm hs
 obtain⟨rn,hrn⟩:∃ rn,rn=agN ps ts:=⟨_,rfl⟩
 obtain⟨rb,hrb⟩:∃ rb,rb=agB ps ts:=⟨_,rfl⟩
 have HNO:Hid (agB ps ts=false→rn=0∧rb=false):=fun h=>⟨by rw[hrn,agN_no _ _ h],by rw[hrb,h]⟩
 have HYES:Hid (agB ps ts=true→rn=agCnt ps ts∧rb=true):=fun h=>⟨by rw[hrn,agN_yes _ _ h],by rw[hrb,h]⟩
 rw[←hrn,←hrb]
 clear hrn hrb
 by_cases hst:storeOkL ps=true
 · rw [hst] at K
   have KF:Hid (∀ h W,Below w.heap.size w W→Calls Tryz.prog 46 #[.slice a ps.length cap,.string ⟨h.toArray⟩] W fun e w'=>e=.returned (.tuple #[.string ⟨((findL ps h).getD []).toArray⟩,.bool (findL ps h).isSome])∧Below W.heap.size W w'):=fun h W hW=>spec_l6Find a cap ps h W hl (hs.later hW)
   have HTS:Hid (∀ W,Below w.heap.size w W→IsStrs W b ts):=fun W hW=>strs_later hts hW
   have HTM:Hid (∀ l∈ts,l.length≤1048576):=htm
   have HST:Hid (storeOkL ps=true):=hst
   clear hm hs hts htm hst
   by_cases h30:ts.length≤30
   · have h30' : (ts.length : Int) ≤ 30 := by omega
     go_enter Tryz.func20,Tryz.ntmps20
     go_wp2_with fail
     refine K.mono ?_
     rintro e w1 ⟨rfl,b1⟩
     clear K
     go_wp2
     go_loopw [6,7] (fun v i wr=>∃ j:Nat,j≤ts.length∧i=.int .i64 (j:Int)∧v=.int .i64 ((agCnt ps (ts.take j):Nat):Int)∧Hid (∀ t∈ts.take j,agOk ps t=true)∧Below w1.heap.size w1 wr) (fun _ i _=>ts.length - (intOf i).toNat)
     case atStart=>exact⟨0,Nat.zero_le _,rfl,by simp[agCnt],by rw[Hid];simp,Below.refl _ _⟩
     case round =>
      obtain⟨j,hj,rfl,rfl,HA,hbel⟩:=hrel
      have hsz:=hbel.size
      have BW:=b1.trans (hbel.mono b1.size)
      by_cases hlt:j<ts.length
      · obtain⟨bb,off,rfl,hc⟩:∃ bb off,b=some ⟨bb,off,none⟩∧∀ j (h:j<ts.length),wr.cell? ⟨bb,off+j,none⟩=some (.string ⟨ts[j].toArray⟩):=by
         rcases HTS.out wr BW with h | h
         · rw[h] at hlt;simp at hlt
         · exact h
        have c1:=hc j hlt
        have hxl:=HTM.out _ (List.getElem_mem hlt)
        have hj0:(0:Int)≤(j:Int):=by omega
        have hj1:(j:Int)<(ts.length:Int):=by omega
        have HC:Hid (agCnt ps (ts.take (j+1))=agCnt ps (ts.take j)+agOne ps ts[j]):=agCnt_take ps ts j hlt
        have hcl:agCnt ps (ts.take j)≤30:=by have:=agCnt_le ps (ts.take j);rw[List.length_take] at this;omega
        have HBAD:Hid (agOk ps ts[j]=false→rn=0∧rb=false):=fun h=>HNO.out (agB_at ps ts j hlt h)
        have HGO:Hid (agOk ps ts[j]=true→∀ t∈ts.take (j+1),agOk ps t=true):=fun h t ht=>by
         rw[List.take_succ_eq_append_getElem hlt,List.mem_append] at ht
         rcases ht with ht | ht
         · exact HA.out t ht
         · simp at ht;rw[ht];exact h
        obtain⟨x,hx⟩:∃ x,x=ts[j]:=⟨_,rfl⟩
        rw[←hx] at c1 hxl HC HBAD HGO
        obtain⟨cn,hcn⟩:∃ cn,cn=agCnt ps (ts.take j):=⟨_,rfl⟩
        rw[←hcn] at HC hcl ⊢
        have K1:=spec_sum x wr hxl
        have hsl:=sumL_len x
        have KA2:=fun W hW=>KF.out (sumL x) W hW
        have HF0:Hid (findL ps (sumL x)=none→agOk ps x=true∧agOne ps x=0):=agOk_none ps x
        have HF1:Hid (findL ps (sumL x)=some x→agOk ps x=true∧agOne ps x=1):=agOk_same ps x
        have HF2:Hid (∀ y,findL ps (sumL x)=some y→y≠x→agOk ps x=false):=agOk_un ps x
        obtain⟨sx,hsx⟩:∃ sx,sx=sumL x:=⟨_,rfl⟩
        rw[←hsx] at K1 KA2 HF0 HF1 HF2 hsl
        obtain⟨f,hf⟩:∃ f,f=findL ps sx:=⟨_,rfl⟩
        rw[←hf] at KA2 HF0 HF1 HF2
        clear hc hx hcn hsx hf HA
        go_wp2_with fail
        refine K1.mono ?_
        rintro e w2 ⟨rfl,b2⟩
        have D2:=hbel.trans (b2.mono hsz)
        have K2:=KA2 w2 (b1.trans (D2.mono b1.size))
        clear K1 hbel KA2
        go_wp2_with fail
        refine K2.mono ?_
        rintro e w3 ⟨rfl,b3⟩
        have D3:=D2.trans (b3.mono D2.size)
        have D23:Below wr.heap.size wr w3:=b2.trans (b3.mono b2.size)
        have B3:=b1.trans (D3.mono b1.size)
        have c2:w3.cell? ⟨bb,off+j,none⟩=some (.string ⟨x.toArray⟩):=(D23.cell (p:=⟨bb,off+j,none⟩) (World.block_lt_of_cell? wr _ c1)).trans c1
        clear K2 b3 b2 D23
        cases f with
        | none =>
          obtain⟨h1,h2⟩:=HF0.out rfl
          have HR:Hid ((agCnt ps (ts.take (j+1)):Int)=(cn:Int)):=by rw[Hid,HC.out,h2];rfl
          have HG:=HGO.out h1
          simp only[Option.isSome_none,Option.getD_none]
          clear h1 h2 HF0 HF1 HF2 HBAD
          go_wp2
          go_roundw
          case rel=>exact⟨j+1,by omega,by go_num,by rw[HR.out],HG,D3⟩
          case measure=>simp[intOf];omega
        | some y =>
          simp only[Option.isSome_some,Option.getD_some]
          by_cases he:y=x
          · subst he
            obtain⟨h1,h2⟩:=HF1.out rfl
            have HR:Hid ((agCnt ps (ts.take (j+1)):Int)=(cn:Int)+1):=by rw[Hid,HC.out,h2];rfl
            have HG:=HGO.out h1
            clear h1 h2 HF0 HF1 HF2 HBAD
            go_wp2
            go_roundw
            case rel=>exact⟨j+1,by omega,by go_num,by rw[HR.out],HG,D3⟩
            case measure=>simp[intOf];omega
          · have heb:(y == x)=false:=by rw[beq_eq_false_iff_ne];exact he
            have hebn:(y != x)=true:=by rw[bne_iff_ne];exact he
            obtain⟨rfl,rfl⟩:=HBAD.out (HF2.out y rfl he)
            clear HF0 HF1 HF2 HGO
            go_wp2
            go_ret2
            exact⟨rfl,B3⟩
      · have hjl:j=ts.length:=by omega
        subst hjl
        have HAA:=HA.out
        rw[List.take_length] at HAA ⊢
        obtain⟨rfl,rfl⟩:=HYES.out (agB_yes ps ts HST.out h30 HAA)
        clear HAA
        go_wp2
        go_ret2
        exact⟨rfl,BW⟩
   · have HN:=HNO.out (agB_long ps ts (by omega))
     obtain⟨rfl,rfl⟩:=HN
     have h30':¬ (ts.length:Int)≤30:=by omega
     go_enter Tryz.func20,Tryz.ntmps20
     go_wp2_with fail
     refine K.mono ?_
     rintro e w1 ⟨rfl,b1⟩
     clear K
     go_wp2
     go_ret2
     exact⟨rfl,b1⟩
 · have hst':storeOkL ps=false:=by simpa using hst
   rw[hst'] at K
   have HN:=HNO.out (agB_store ps ts hst')
   obtain⟨rfl,rfl⟩:=HN
   clear hst hst' hm hs hts htm HYES HNO
   go_enter Tryz.func20,Tryz.ntmps20
   go_wp2_with fail
   refine K.mono ?_
   rintro e w1 ⟨rfl,b1⟩
   go_wp2
   go_ret2
   exact⟨rfl,b1⟩
end Go.Proofs.YtckoglgcjcmmkaaGreatDoor
