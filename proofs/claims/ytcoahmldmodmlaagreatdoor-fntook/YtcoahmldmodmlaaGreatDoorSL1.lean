/-
 Contract: the model's list of texts.
-/
import Derived.Test.YtcoahmldmodmlaaGreatDoorMath2
import Derived.Test.YtcoahmldmodmlaaGreatDoorMathAll
import Derived.Test.YtcoahmldmodmlaaGreatDoorWrapTxt
namespace Go.Proofs.YtcoahmldmodmlaaGreatDoor
open Go.RowKit
set_option linter.unusedVariables false
theorem info9t:(Tryz.prog.info? 9).map (fun i=>(i.zero,i.size,i.bytes))=some (some (.string ⟨#[]⟩),1,16):=by kernel_rfl
theorem l1text_at (l:List UInt8) (w:World) (hl:l.length≤60000) :
 Calls Tryz.prog 58 #[.string ⟨l.toArray⟩] w fun e w'=>e=.returned (.string ⟨(textB l).toArray⟩)∧Below w.heap.size w w':=by
 have h:=spec_l1Text ⟨l.toArray⟩ w (by simp[ByteArray.size];omega)
 have e1:(ByteArray.mk l.toArray).data.toList=l:=by simp
 rw[e1] at h
 exact h
theorem l1wrap_at (l:List UInt8) (w:World) (hl:l.length≤60000) :
 Calls Tryz.prog 75 #[.string ⟨l.toArray⟩,.int .i64 192] w fun e w'=>e=.returned (.string ⟨(wrapB l 192).toArray⟩)∧Below w.heap.size w w':=by
 have h:=spec_l1Wrap ⟨l.toArray⟩ 192 w (by simp[ByteArray.size];omega) (by omega)
 have e1:(ByteArray.mk l.toArray).data.toList=l:=by simp
 rw[e1] at h
 exact h
theorem ba_join (a b:List UInt8):ByteArray.mk a.toArray ++ ByteArray.mk b.toArray=⟨(a ++ b).toArray⟩:=by
 apply ByteArray.ext
 simp
set_option maxRecDepth 100000 in
set_option maxHeartbeats 400000 in
theorem spec_l1List (g cap:Nat) (ls:List (List UInt8)) (b0:Nat) (w:World) (hf:ls.flatten.length≤30000) (hl:ls.length≤1001) (hv:w.ownsRow b0 9 1 (.slice (some ⟨g,0,none⟩) ls.length cap) ls.length (scells ls)) :
 Calls Tryz.prog 76 #[.slice (some ⟨g,0,none⟩) ls.length cap] w fun e w'=>e=.returned (.string ⟨(listB ls).toArray⟩)∧Below w.heap.size w w':=by
 have hgl:=own_lt hv
 have hc:∀ j (h:j<ls.length),w.cell? ⟨g,j,none⟩=some (.string ⟨ls[j].toArray⟩):=fun j h=>by rw[hv.cellAt j (by omega),scells_at ls j h]
 have HO:Hid (listB ls=wrapB (textsB ls) 192):=rfl
 have hlen:=(listB_len ls hf hl).1
 obtain⟨out,hout⟩:∃ out,out=listB ls:=⟨_,rfl⟩
 rw[←hout] at HO ⊢
 clear hv hout
 go_enter Tryz.func76,Tryz.ntmps76
 go_wp2
 go_loopw [3,4] (fun v i wr=>∃ j:Nat,∃ t:List UInt8,j≤ls.length∧i=.int .i64 (j:Int)∧v=.string ⟨t.toArray⟩∧Hid (t=textsB (ls.take j))∧t.length≤33003∧Below w.heap.size w wr) (fun _ i _=>ls.length - (intOf i).toNat)
 case atStart=>exact⟨0,[],Nat.zero_le _,rfl,rfl,rfl,by simp,Below.refl _ _⟩
 case round =>
  obtain⟨j,t,hj,rfl,rfl,HT,ht6,hbel⟩:=hrel
  have hsz:=hbel.size
  by_cases hlt:j<ls.length
  · have c1:=(hbel.cell (p:=⟨g,j,none⟩) hgl).trans (hc j hlt)
    have hxl:=each_le ls j hlt
    have HF:Hid (textsB (ls.take (j+1))=t ++ textB ls[j]):=by rw[Hid,textsB_take ls j hlt,←HT.out]
    have HTL:Hid ((textsB (ls.take (j+1))).length≤33003):=by rw[Hid];have:=textsB_part ls (j+1) (by omega);omega
    have hj0:(0:Int)≤(j:Int):=by omega
    have hj1:(j:Int)<(ls.length:Int):=by omega
    obtain⟨x,hx⟩:∃ x,x=ls[j]:=⟨_,rfl⟩
    rw[←hx] at c1 hxl HF
    have H1:=fun W=>l1text_at x W (by omega)
    obtain⟨y,hy⟩:∃ y,y=textB x:=⟨_,rfl⟩
    rw[←hy] at H1 HF
    have happ:=ba_join t y
    have hyl:y.length≤33003:=by have h1:=HTL.out;rw[HF.out,List.length_append] at h1;omega
    have HTY:Hid ((t ++ y).length≤33003):=by rw[Hid,←HF.out];exact HTL.out
    clear hc hx hy hxl HTL HT
    go_wp2_with fail
    refine (H1 _).mono ?_
    rintro e w1 ⟨rfl,hb1⟩
    have hbel2:=hbel.trans (hb1.mono hsz)
    clear H1 hb1 hbel c1
    go_wp2
    go_roundw
    case rel=>exact⟨j+1,t ++ y,by omega,by go_num,by simp,HF.out.symm,HTY.out,hbel2⟩
    case measure=>simp[intOf];omega
  · have hjl:j=ls.length:=by omega
    subst hjl
    have HR:Hid (out=wrapB t 192):=by
     have e1:=HT.out
     rw[List.take_length] at e1
     rw[Hid,HO.out,e1]
    have H1:=fun W=>l1wrap_at t W (by omega)
    rw[←HR.out] at H1
    clear hc HT HR HO
    go_wp2_with fail
    refine (H1 _).mono ?_
    rintro e w1 ⟨rfl,hb1⟩
    go_wp2
    go_ret
    exact⟨rfl,hbel.trans (hb1.mono hsz)⟩
end Go.Proofs.YtcoahmldmodmlaaGreatDoor
