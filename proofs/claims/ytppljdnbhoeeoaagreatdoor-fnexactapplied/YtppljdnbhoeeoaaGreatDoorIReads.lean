/-
 Texts that are laid as one: MathRead, Read, IRead, ReadX.
-/
import Derived.Test.YtppljdnbhoeeoaaGreatDoorHexAll
import Derived.BigQuiet
namespace Go.Proofs.YtppljdnbhoeeoaaGreatDoor
open Go.RowKit
set_option linter.unusedVariables false
set_option maxHeartbeats 1000000
set_option maxRecDepth 100000
def zch:List UInt8→Option (List UInt8 × Bool)
 | []=>none
 | b :: r =>
   if 64≤b.toNat then none
   else if b.toNat / 16 % 2=1 then some (b % 16 :: nibs r,decide (2≤b.toNat / 16))
   else if b.toNat % 16≠0 then none
   else some (nibs r,decide (2≤b.toNat / 16))
def rdV:Option (List UInt8 × Bool)→Value
 | none=>.tuple #[.string ⟨#[]⟩,.bool false,.bool false]
 | some (x,leaf)=>.tuple #[.string ⟨x.toArray⟩,.bool leaf,.bool true]
theorem zei (b:UInt8) (r:List UInt8):nibs (b :: r)=b / 16 :: b % 16 :: nibs r:=rfl
theorem zww (l:List UInt8) (h:l.length % 2=0):(pack l).length=l.length / 2:=by
 have:=zp3 (l.length / 2) l (by omega)
 rw[List.take_of_length_le (by omega)] at this
 exact this
theorem zbs (b:UInt8) (r:List UInt8) (x:Int) (h:(b.toNat:Int)=x) (W:World) :
 (Instr.index 9 (.string ⟨(b :: r).toArray⟩) (.int .i64 0)).run Tryz.prog W=.ok (.int .u8 x) W:=by
 rw[zcq (P:=Tryz.prog) Tryz.underlying9 (b :: r) 0 0 rfl (by simp) W]
 simp[h]
theorem zod (l:List UInt8) (w:World) (hl:l.length≤1048576) :
 Calls Tryz.prog 128 #[.string ⟨l.toArray⟩] w fun e w'=>e=.returned (.string ⟨(nibs l).toArray⟩)∧Below w.heap.size w w':=by
 have:=znn ⟨l.toArray⟩ w (by simpa [ByteArray.size] using hl)
 simpa using this
theorem zoe (l:List UInt8) (w:World) (hl:l.length≤1048576) :
 Calls Tryz.prog 110 #[.string ⟨l.toArray⟩] w fun e w'=>e=.returned (.string ⟨(nibs l).toArray⟩)∧Below w.heap.size w w':=by
 have:=zno ⟨l.toArray⟩ w (by simpa [ByteArray.size] using hl)
 simpa using this
theorem zhh (b:UInt8) (h:¬ 64≤b.toNat):∃ g:Nat,g≤15∧(b % 16).toNat=g ∧
 ((b.toNat=g∧(b / 16).toNat=0)∨(b.toNat=16+g∧(b / 16).toNat=1)∨(b.toNat=32+g∧(b / 16).toNat=2)∨(b.toNat=48+g∧(b / 16).toNat=3)):=by
 have:=b.toNat_lt
 exact⟨b.toNat % 16,by omega,by simp,by simp;omega⟩
theorem zwx (w:World) :
 Calls Tryz.prog 122 #[.string ⟨#[]⟩] w fun e w'=>e=.returned (rdV none)∧Below w.heap.size w w':=by
 go_enter Tryz.func122,Tryz.ntmps122
 go_wp2
 go_ret3
 exact⟨rfl,Below.refl _ _⟩
theorem zwy (b : UInt8) (r : List UInt8) (w : World) (hl : r.length < 30000) :
 Calls Tryz.prog 167 #[.string ⟨(b :: r).toArray⟩] w fun e w'=>e=.returned (rdV (zch (b :: r)))∧Below w.heap.size w w':=by
 have hn:=fun W=>zoe (b :: r) W (by simp;omega)
 obtain⟨s,hs⟩:∃ s,s=ByteArray.mk (b :: r).toArray:=⟨_,rfl⟩
 have hsz:s.size≤30000:=by rw[hs];simp[ByteArray.size];omega
 have hne:s.toList.isEmpty=false:=by rw[hs,ByteArray.toList_mk];rfl
 rw[←hs] at hn ⊢
 obtain⟨out,hout⟩:∃ out,out=zch (b :: r):=⟨_,rfl⟩
 rw[←hout]
 clear hs
 obtain⟨f8,hf8⟩:∃ f8,f8=b / 16:=⟨_,rfl⟩
 obtain⟨g8,hg8⟩:∃ g8,g8=b % 16:=⟨_,rfl⟩
 obtain⟨nr,hnr⟩:∃ nr,nr=nibs r:=⟨_,rfl⟩
 rw[zei,←hf8,←hg8,←hnr] at hn
 have hnl:nr.length<60000:=by rw[hnr,zds];omega
 have hs1:=zbg (f8 :: g8 :: nr) 1 (by simp)
 have hs2:=zbg (g8 :: nr) 1 (by simp)
 simp only[List.length_cons,List.drop_succ_cons,List.drop_zero] at hs1 hs2
 obtain⟨t1,ht1⟩:∃ t1,t1=ByteArray.mk (g8 :: nr).toArray:=⟨_,rfl⟩
 have hk:=fun x hx=>zbs g8 nr x hx
 have ht1s:t1.size≤60000:=by rw[ht1];simp[ByteArray.size];omega
 have ht1e : t1.extract 1 t1.size = ⟨nr.toArray⟩ := by rw [ht1]; have : (ByteArray.mk (g8 :: nr).toArray).size = nr.length + 1 := by simp [ByteArray.size]
                                                       rw[this];exact hs2
 have ht1n:0<t1.size:=by rw[ht1];simp[ByteArray.size]
 rw[←ht1] at hs1 hk
 clear hs2
 have hbt:=b.toNat_lt
 by_cases h64:64≤b.toNat
 · have HR:Hid (out=none):=by rw[Hid,hout];simp only[zch];rw[if_pos h64]
   have hj:=zbs f8 (g8 :: nr) (b.toNat / 16:Int) (by rw[hf8];simp)
   have h64':(4:Int)≤(b.toNat:Int) / 16:=by omega
   have h64'':(b.toNat:Int) / 16≤15:=by omega
   clear hout hf8 hg8 hnr ht1
   go_enter Tryz.func167,Tryz.ntmps167
   go_wp2_with fail
   refine (hn _).mono ?_
   rintro e w1 ⟨rfl,hb1⟩
   go_wp2
   go_quiet (fail)
   go_wp2
   go_ret3
   exact⟨by rw[HR.out];rfl,below_drewN hb1 _⟩
 · obtain⟨g,hg,hbg,hcs⟩:=zhh b h64
   rw[←hf8] at hcs
   have HE:∀ (lf:Bool),decide (2≤b.toNat / 16)=lf→(b.toNat / 16 % 2=1→out=some (g8 :: nr,lf))∧(b.toNat / 16 % 2≠1→b.toNat % 16≠0→out=none)∧(b.toNat / 16 % 2≠1→b.toNat % 16=0→out=some (nr,lf)):=by
    intro lf hlf
    rw[hout]
    simp only[zch]
    rw[if_neg h64,hlf,←hg8,←hnr]
    refine⟨fun h=>by rw[if_pos h],fun h h'=>by rw[if_neg h,if_pos h'],fun h h'=>by rw[if_neg h,if_neg (by omega)]⟩
   have a01:bits BinOp.and IntKind.u8 0 1=0:=by decide
   have a02:bits BinOp.and IntKind.u8 0 2=0:=by decide
   have a11:bits BinOp.and IntKind.u8 1 1=1:=by decide
   have a12:bits BinOp.and IntKind.u8 1 2=0:=by decide
   have a21:bits BinOp.and IntKind.u8 2 1=0:=by decide
   have a22:bits BinOp.and IntKind.u8 2 2=2:=by decide
   have a31:bits BinOp.and IntKind.u8 3 1=1:=by decide
   have a32:bits BinOp.and IntKind.u8 3 2=2:=by decide
   have hg8n:g8.toNat=g:=by rw[hg8];exact hbg
   have hT:Value.string t1=.string ⟨(g8 :: nr).toArray⟩:=by rw[ht1]
   have HT:Hid _:=hT
   clear hout hf8 hnr hT ht1
   rcases hcs with ⟨hb,hf⟩ | ⟨hb,hf⟩ | ⟨hb,hf⟩ | ⟨hb,hf⟩
   · have hj:=zbs f8 (g8 :: nr) 0 (by omega)
     have HF:=HE false (by simp;omega)
     by_cases h0:g=0
     · have HZ:Hid _:=HF.2.2 (by omega) (by omega)
       have hi:=hk 0 (by omega)
       clear HF HE hb hbg hf hg8 h0 hg hk h64 hg8n
       go_enter Tryz.func167,Tryz.ntmps167
       go_wp2_with fail
       refine (hn _).mono ?_
       rintro e w1 ⟨rfl,hb1⟩
       go_wp2
       go_quiet (fail)
       go_wp2
       go_ret3
       exact⟨by rw[HZ.out];rfl,below_drewN hb1 _⟩
     · have HZ:Hid _:=HF.2.1 (by omega) (by omega)
       have hi:=hk (g:Int) (by omega)
       have h0':1≤(g:Int):=by omega
       have hg':(g:Int)≤15:=by omega
       clear HF HE hb hbg hf hg8 hk h64 hg8n
       go_enter Tryz.func167,Tryz.ntmps167
       go_wp2_with fail
       refine (hn _).mono ?_
       rintro e w1 ⟨rfl,hb1⟩
       go_wp2
       go_quiet (fail)
       go_wp2
       go_ret3
       exact⟨by rw[HZ.out];rfl,below_drewN hb1 _⟩
   · have hj:=zbs f8 (g8 :: nr) 1 (by omega)
     have HF:=HE false (by simp;omega)
     have HZ:Hid _:=HF.1 (by omega)
     clear HF HE hb hbg hf hg8 hk h64 hg8n
     go_enter Tryz.func167,Tryz.ntmps167
     go_wp2_with fail
     refine (hn _).mono ?_
     rintro e w1 ⟨rfl,hb1⟩
     go_wp2
     go_quiet (fail)
     go_wp2
     go_ret3
     exact⟨by rw[HZ.out,rdV,←HT.out];rfl,below_drewN hb1 _⟩
   · have hj:=zbs f8 (g8 :: nr) 2 (by omega)
     have HF:=HE true (by simp;omega)
     by_cases h0:g=0
     · have HZ:Hid _:=HF.2.2 (by omega) (by omega)
       have hi:=hk 0 (by omega)
       clear HF HE hb hbg hf hg8 h0 hg hk h64 hg8n
       go_enter Tryz.func167,Tryz.ntmps167
       go_wp2_with fail
       refine (hn _).mono ?_
       rintro e w1 ⟨rfl,hb1⟩
       go_wp2
       go_quiet (fail)
       go_wp2
       go_ret3
       exact⟨by rw[HZ.out];rfl,below_drewN hb1 _⟩
     · have HZ:Hid _:=HF.2.1 (by omega) (by omega)
       have hi:=hk (g:Int) (by omega)
       have h0':1≤(g:Int):=by omega
       have hg':(g:Int)≤15:=by omega
       clear HF HE hb hbg hf hg8 hk h64 hg8n
       go_enter Tryz.func167,Tryz.ntmps167
       go_wp2_with fail
       refine (hn _).mono ?_
       rintro e w1 ⟨rfl,hb1⟩
       go_wp2
       go_quiet (fail)
       go_wp2
       go_ret3
       exact⟨by rw[HZ.out];rfl,below_drewN hb1 _⟩
   · have hj:=zbs f8 (g8 :: nr) 3 (by omega)
     have HF:=HE true (by simp;omega)
     have HZ:Hid _:=HF.1 (by omega)
     clear HF HE hb hbg hf hg8 hk h64 hg8n
     go_enter Tryz.func167,Tryz.ntmps167
     go_wp2_with fail
     refine (hn _).mono ?_
     rintro e w1 ⟨rfl,hb1⟩
     go_wp2
     go_quiet (fail)
     go_wp2
     go_ret3
     exact⟨by rw[HZ.out,rdV,←HT.out];rfl,below_drewN hb1 _⟩
theorem zwz (w:World) :
 Calls Tryz.prog 167 #[.string ⟨#[]⟩] w fun e w'=>e=.returned (rdV none)∧Below w.heap.size w w':=by
 go_enter Tryz.func167,Tryz.ntmps167
 go_wp2
 go_ret3
 exact⟨rfl,Below.refl _ _⟩
theorem zx0 (l:List UInt8) (w:World) (hl:l.length≤30000) :
 Calls Tryz.prog 167 #[.string ⟨l.toArray⟩] w fun e w'=>e=.returned (rdV (zch l))∧Below w.heap.size w w':=by
 match l,hl with
 | [],_=>exact zwz w
 | b :: r,hl=>exact zwy b r w (by simp at hl;omega)
def ze3:List UInt8→Option (List UInt8 × Bool)
 | []=>none
 | b :: r =>
   if 64≤b.toNat then none
   else if b.toNat / 16 % 2=1 then none
   else if b.toNat % 16≠0 then none
   else some (nibs r,decide (2≤b.toNat / 16))
theorem zx1 (b:UInt8) (r:List UInt8) (w:World) (hl:r.length≤30000) :
 Calls Tryz.prog 122 #[.string ⟨(b :: r).toArray⟩] w fun e w'=>e=.returned (rdV (zch (b :: r)))∧Below w.heap.size w w':=by
 have hn:=fun W=>zod (b :: r) W (by simp;omega)
 have hix:=fun x hx=>zbs b r x hx
 obtain⟨s,hs⟩:∃ s,s=ByteArray.mk (b :: r).toArray:=⟨_,rfl⟩
 have hsz:s.size≤30001:=by rw[hs];simp[ByteArray.size];omega
 have hne:s.toList.isEmpty=false:=by rw[hs,ByteArray.toList_mk];rfl
 rw[←hs] at hn hix ⊢
 obtain⟨out,hout⟩:∃ out,out=zch (b :: r):=⟨_,rfl⟩
 rw[←hout]
 clear hs
 by_cases h64:64≤b.toNat
 · have HR:Hid (out=none):=by rw[Hid,hout];simp only[zch];rw[if_pos h64]
   have hi:=hix (b.toNat:Int) rfl
   have h64':(64:Int)≤(b.toNat:Int):=by omega
   clear hout hix
   go_enter Tryz.func122,Tryz.ntmps122
   go_wp2
   go_ret3
   exact⟨by rw[HR.out];rfl,Below.refl _ _⟩
 · obtain⟨g,hg,hbg,hcs⟩:=zhh b h64
   obtain⟨f8,hf8⟩:∃ f8,f8=b / 16:=⟨_,rfl⟩
   obtain⟨g8,hg8⟩:∃ g8,g8=b % 16:=⟨_,rfl⟩
   obtain⟨nr,hnr⟩:∃ nr,nr=nibs r:=⟨_,rfl⟩
   rw[zei,←hf8,←hg8,←hnr] at hn
   have hnl:nr.length≤60000:=by rw[hnr,zds];omega
   rw[←hf8] at hcs
   have hs1:=zbg (f8 :: g8 :: nr) 1 (by simp)
   have hs2:=zbg (f8 :: g8 :: nr) 2 (by simp)
   simp only[List.length_cons,List.drop_succ_cons,List.drop_zero] at hs1 hs2
   have HE:∀ (lf:Bool),decide (2≤b.toNat / 16)=lf→(b.toNat / 16 % 2=1→out=some (g8 :: nr,lf))∧(b.toNat / 16 % 2≠1→b.toNat % 16≠0→out=none)∧(b.toNat / 16 % 2≠1→b.toNat % 16=0→out=some (nr,lf)):=by
    intro lf hlf
    rw[hout]
    simp only[zch]
    rw[if_neg h64,hlf,←hg8,←hnr]
    refine⟨fun h=>by rw[if_pos h],fun h h'=>by rw[if_neg h,if_pos h'],fun h h'=>by rw[if_neg h,if_neg (by omega)]⟩
   clear hout hf8 hnr
   rcases hcs with ⟨hb,hf⟩ | ⟨hb,hf⟩ | ⟨hb,hf⟩ | ⟨hb,hf⟩
   · have hj:=zbs f8 (g8 :: nr) 0 (by omega)
     have HF:=HE false (by simp;omega)
     by_cases h0:g=0
     · have HZ:Hid _:=HF.2.2 (by omega) (by omega)
       have hi:=hix 0 (by omega)
       clear HF HE hb hbg hf hg8 h0 hg hix h64
       go_enter Tryz.func122,Tryz.ntmps122
       go_wp2_with fail
       refine (hn _).mono ?_
       rintro e w1 ⟨rfl,hb1⟩
       go_wp2
       go_quiet (fail)
       go_wp2
       go_ret3
       exact⟨by rw[HZ.out];rfl,below_drewN hb1 _⟩
     · have HZ:Hid _:=HF.2.1 (by omega) (by omega)
       have hi:=hix (0+(g:Int)) (by omega)
       have h0':1≤(g:Int):=by omega
       have hg':(g:Int)≤15:=by omega
       clear HF HE hb hbg hf hg8 hix h64
       go_enter Tryz.func122,Tryz.ntmps122
       go_wp2
       go_ret3
       exact⟨by rw[HZ.out];rfl,Below.refl _ _⟩
   · have hj:=zbs f8 (g8 :: nr) 1 (by omega)
     have HF:=HE false (by simp;omega)
     have HZ:Hid _:=HF.1 (by omega)
     have hi:=hix (16+(g:Int)) (by omega)
     have hg':(g:Int)≤15:=by omega
     clear HF HE hb hbg hf hg8 hix h64
     go_enter Tryz.func122,Tryz.ntmps122
     go_wp2_with fail
     refine (hn _).mono ?_
     rintro e w1 ⟨rfl,hb1⟩
     go_wp2
     go_quiet (fail)
     go_wp2
     go_ret3
     exact⟨by rw[HZ.out];rfl,below_drewN hb1 _⟩
   · have hj:=zbs f8 (g8 :: nr) 2 (by omega)
     have HF:=HE true (by simp;omega)
     by_cases h0:g=0
     · have HZ:Hid _:=HF.2.2 (by omega) (by omega)
       have hi:=hix 32 (by omega)
       clear HF HE hb hbg hf hg8 h0 hg hix h64
       go_enter Tryz.func122,Tryz.ntmps122
       go_wp2_with fail
       refine (hn _).mono ?_
       rintro e w1 ⟨rfl,hb1⟩
       go_wp2
       go_quiet (fail)
       go_wp2
       go_ret3
       exact⟨by rw[HZ.out];rfl,below_drewN hb1 _⟩
     · have HZ:Hid _:=HF.2.1 (by omega) (by omega)
       have hi:=hix (32+(g:Int)) (by omega)
       have h0':1≤(g:Int):=by omega
       have hg':(g:Int)≤15:=by omega
       clear HF HE hb hbg hf hg8 hix h64
       go_enter Tryz.func122,Tryz.ntmps122
       go_wp2
       go_ret3
       exact⟨by rw[HZ.out];rfl,Below.refl _ _⟩
   · have hj:=zbs f8 (g8 :: nr) 3 (by omega)
     have HF:=HE true (by simp;omega)
     have HZ:Hid _:=HF.1 (by omega)
     have hi:=hix (48+(g:Int)) (by omega)
     have hg':(g:Int)≤15:=by omega
     clear HF HE hb hbg hf hg8 hix h64
     go_enter Tryz.func122,Tryz.ntmps122
     go_wp2_with fail
     refine (hn _).mono ?_
     rintro e w1 ⟨rfl,hb1⟩
     go_wp2
     go_quiet (fail)
     go_wp2
     go_ret3
     exact⟨by rw[HZ.out];rfl,below_drewN hb1 _⟩
theorem zx2 (b:UInt8) (r:List UInt8) (w:World) (hl:30000<r.length) (hl2:r.length≤60000) :
 Calls Tryz.prog 122 #[.string ⟨(b :: r).toArray⟩] w fun e w'=>e=.returned (rdV none)∧Below w.heap.size w w':=by
 have hn:=fun W=>zod (b :: r) W (by simp;omega)
 have hix:=fun x hx=>zbs b r x hx
 obtain⟨s,hs⟩:∃ s,s=ByteArray.mk (b :: r).toArray:=⟨_,rfl⟩
 have hsz:30001<s.size:=by rw[hs];simp[ByteArray.size];omega
 have hsz2:s.size≤60001:=by rw[hs];simp[ByteArray.size];omega
 have hne:s.toList.isEmpty=false:=by rw[hs,ByteArray.toList_mk];rfl
 rw[←hs] at hn hix ⊢
 clear hs
 by_cases h64:64≤b.toNat
 · have hi:=hix (b.toNat:Int) rfl
   have h64':(64:Int)≤(b.toNat:Int):=by omega
   clear hix hn
   go_enter Tryz.func122,Tryz.ntmps122
   go_wp2
   go_ret3
   exact⟨rfl,Below.refl _ _⟩
 · obtain⟨g,hg,hbg,hcs⟩:=zhh b h64
   rcases hcs with ⟨hb,hf⟩ | ⟨hb,hf⟩ | ⟨hb,hf⟩ | ⟨hb,hf⟩
   · by_cases h0:g=0
     · have hi:=hix 0 (by omega)
       clear hb hbg hf hg hix h64 hn h0
       go_enter Tryz.func122,Tryz.ntmps122
       go_wp2
       go_ret3
       exact⟨rfl,Below.refl _ _⟩
     · have hi:=hix (0+(g:Int)) (by omega)
       have h0':1≤(g:Int):=by omega
       have hg':(g:Int)≤15:=by omega
       clear hb hbg hf hix h64 hn
       go_enter Tryz.func122,Tryz.ntmps122
       go_wp2
       go_ret3
       exact⟨rfl,Below.refl _ _⟩
   · have hi:=hix (16+(g:Int)) (by omega)
     have hg':(g:Int)≤15:=by omega
     clear hb hbg hf hix h64 hn
     go_enter Tryz.func122,Tryz.ntmps122
     go_wp2
     go_ret3
     exact⟨rfl,Below.refl _ _⟩
   · by_cases h0:g=0
     · have hi:=hix 32 (by omega)
       clear hb hbg hf hg hix h64 hn h0
       go_enter Tryz.func122,Tryz.ntmps122
       go_wp2
       go_ret3
       exact⟨rfl,Below.refl _ _⟩
     · have hi:=hix (32+(g:Int)) (by omega)
       have h0':1≤(g:Int):=by omega
       have hg':(g:Int)≤15:=by omega
       clear hb hbg hf hix h64 hn
       go_enter Tryz.func122,Tryz.ntmps122
       go_wp2
       go_ret3
       exact⟨rfl,Below.refl _ _⟩
   · have hi:=hix (48+(g:Int)) (by omega)
     have hg':(g:Int)≤15:=by omega
     clear hb hbg hf hix h64 hn
     go_enter Tryz.func122,Tryz.ntmps122
     go_wp2
     go_ret3
     exact⟨rfl,Below.refl _ _⟩
theorem zx3 (b : UInt8) (r : List UInt8) (w : World) (hl : r.length = 30000) :
 Calls Tryz.prog 167 #[.string ⟨(b :: r).toArray⟩] w fun e w'=>e=.returned (rdV (ze3 (b :: r)))∧Below w.heap.size w w':=by
 have hn:=fun W=>zoe (b :: r) W (by simp;omega)
 obtain⟨s,hs⟩:∃ s,s=ByteArray.mk (b :: r).toArray:=⟨_,rfl⟩
 have hsz:s.size≤30001:=by rw[hs];simp[ByteArray.size];omega
 have hne:s.toList.isEmpty=false:=by rw[hs,ByteArray.toList_mk];rfl
 rw[←hs] at hn ⊢
 obtain⟨out,hout⟩:∃ out,out=ze3 (b :: r):=⟨_,rfl⟩
 rw[←hout]
 clear hs
 obtain⟨f8,hf8⟩:∃ f8,f8=b / 16:=⟨_,rfl⟩
 obtain⟨g8,hg8⟩:∃ g8,g8=b % 16:=⟨_,rfl⟩
 obtain⟨nr,hnr⟩:∃ nr,nr=nibs r:=⟨_,rfl⟩
 rw[zei,←hf8,←hg8,←hnr] at hn
 have hnl:nr.length=60000:=by rw[hnr,zds];omega
 have hs1:=zbg (f8 :: g8 :: nr) 1 (by simp)
 have hs2:=zbg (g8 :: nr) 1 (by simp)
 simp only[List.length_cons,List.drop_succ_cons,List.drop_zero] at hs1 hs2
 obtain⟨t1,ht1⟩:∃ t1,t1=ByteArray.mk (g8 :: nr).toArray:=⟨_,rfl⟩
 have hk:=fun x hx=>zbs g8 nr x hx
 have ht1s:t1.size=60001:=by rw[ht1];simp[ByteArray.size];omega
 have hT1:Hid _:=ht1s
 have hNL:Hid _:=hnl
 have ht1e : t1.extract 1 t1.size = ⟨nr.toArray⟩ := by rw [ht1]; have : (ByteArray.mk (g8 :: nr).toArray).size = nr.length + 1 := by simp [ByteArray.size]
                                                       rw[this];exact hs2
 have ht1n:0<t1.size:=by rw[ht1];simp[ByteArray.size]
 rw[←ht1] at hs1 hk
 clear hs2
 clear ht1s hnl
 have ht1s:t1.size≤60001:=by have:=hT1.out;omega
 have ht1b:60000<t1.size:=by have:=hT1.out;omega
 have hnl:nr.length≤60000:=by have:=hNL.out;omega
 have hbt:=b.toNat_lt
 by_cases h64:64≤b.toNat
 · have HR:Hid (out=none):=by rw[Hid,hout];simp only[ze3];rw[if_pos h64]
   have hj:=zbs f8 (g8 :: nr) (b.toNat / 16:Int) (by rw[hf8];simp)
   have h64':(4:Int)≤(b.toNat:Int) / 16:=by omega
   have h64'':(b.toNat:Int) / 16≤15:=by omega
   clear hout hf8 hg8 hnr ht1
   go_enter Tryz.func167,Tryz.ntmps167
   go_wp2_with fail
   refine (hn _).mono ?_
   rintro e w1 ⟨rfl,hb1⟩
   go_wp2
   go_quiet (fail)
   go_wp2
   go_ret3
   exact⟨by rw[HR.out];rfl,below_drewN hb1 _⟩
 · obtain⟨g,hg,hbg,hcs⟩:=zhh b h64
   rw[←hf8] at hcs
   have HE:∀ (lf:Bool),decide (2≤b.toNat / 16)=lf→(b.toNat / 16 % 2=1→out=none)∧(b.toNat / 16 % 2≠1→b.toNat % 16≠0→out=none)∧(b.toNat / 16 % 2≠1→b.toNat % 16=0→out=some (nr,lf)):=by
    intro lf hlf
    rw[hout]
    simp only[ze3]
    rw[if_neg h64,hlf,←hnr]
    refine⟨fun h=>by rw[if_pos h],fun h h'=>by rw[if_neg h,if_pos h'],fun h h'=>by rw[if_neg h,if_neg (by omega)]⟩
   have a01:bits BinOp.and IntKind.u8 0 1=0:=by decide
   have a02:bits BinOp.and IntKind.u8 0 2=0:=by decide
   have a11:bits BinOp.and IntKind.u8 1 1=1:=by decide
   have a12:bits BinOp.and IntKind.u8 1 2=0:=by decide
   have a21:bits BinOp.and IntKind.u8 2 1=0:=by decide
   have a22:bits BinOp.and IntKind.u8 2 2=2:=by decide
   have a31:bits BinOp.and IntKind.u8 3 1=1:=by decide
   have a32:bits BinOp.and IntKind.u8 3 2=2:=by decide
   have hg8n:g8.toNat=g:=by rw[hg8];exact hbg
   have hT:Value.string t1=.string ⟨(g8 :: nr).toArray⟩:=by rw[ht1]
   have HT:Hid _:=hT
   clear hout hf8 hnr hT ht1
   rcases hcs with ⟨hb,hf⟩ | ⟨hb,hf⟩ | ⟨hb,hf⟩ | ⟨hb,hf⟩
   · have hj:=zbs f8 (g8 :: nr) 0 (by omega)
     have HF:=HE false (by simp;omega)
     by_cases h0:g=0
     · have HZ:Hid _:=HF.2.2 (by omega) (by omega)
       have hi:=hk 0 (by omega)
       clear HF HE hb hbg hf hg8 h0 hg hk h64 hg8n
       go_enter Tryz.func167,Tryz.ntmps167
       go_wp2_with fail
       refine (hn _).mono ?_
       rintro e w1 ⟨rfl,hb1⟩
       go_wp2
       go_quiet (fail)
       go_wp2
       go_ret3
       exact⟨by rw[HZ.out];rfl,below_drewN hb1 _⟩
     · have HZ:Hid _:=HF.2.1 (by omega) (by omega)
       have hi:=hk (g:Int) (by omega)
       have h0':1≤(g:Int):=by omega
       have hg':(g:Int)≤15:=by omega
       clear HF HE hb hbg hf hg8 hk h64 hg8n
       go_enter Tryz.func167,Tryz.ntmps167
       go_wp2_with fail
       refine (hn _).mono ?_
       rintro e w1 ⟨rfl,hb1⟩
       go_wp2
       go_quiet (fail)
       go_wp2
       go_ret3
       exact⟨by rw[HZ.out];rfl,below_drewN hb1 _⟩
   · have hj:=zbs f8 (g8 :: nr) 1 (by omega)
     have HF:=HE false (by simp;omega)
     have HZ:Hid _:=HF.1 (by omega)
     clear HF HE hb hbg hf hg8 hk h64 hg8n
     go_enter Tryz.func167,Tryz.ntmps167
     go_wp2_with fail
     refine (hn _).mono ?_
     rintro e w1 ⟨rfl,hb1⟩
     go_wp2
     go_quiet (fail)
     go_wp2
     go_ret3
     exact⟨by rw[HZ.out];rfl,below_drewN hb1 _⟩
   · have hj:=zbs f8 (g8 :: nr) 2 (by omega)
     have HF:=HE true (by simp;omega)
     by_cases h0:g=0
     · have HZ:Hid _:=HF.2.2 (by omega) (by omega)
       have hi:=hk 0 (by omega)
       clear HF HE hb hbg hf hg8 h0 hg hk h64 hg8n
       go_enter Tryz.func167,Tryz.ntmps167
       go_wp2_with fail
       refine (hn _).mono ?_
       rintro e w1 ⟨rfl,hb1⟩
       go_wp2
       go_quiet (fail)
       go_wp2
       go_ret3
       exact⟨by rw[HZ.out];rfl,below_drewN hb1 _⟩
     · have HZ:Hid _:=HF.2.1 (by omega) (by omega)
       have hi:=hk (g:Int) (by omega)
       have h0':1≤(g:Int):=by omega
       have hg':(g:Int)≤15:=by omega
       clear HF HE hb hbg hf hg8 hk h64 hg8n
       go_enter Tryz.func167,Tryz.ntmps167
       go_wp2_with fail
       refine (hn _).mono ?_
       rintro e w1 ⟨rfl,hb1⟩
       go_wp2
       go_quiet (fail)
       go_wp2
       go_ret3
       exact⟨by rw[HZ.out];rfl,below_drewN hb1 _⟩
   · have hj:=zbs f8 (g8 :: nr) 3 (by omega)
     have HF:=HE true (by simp;omega)
     have HZ:Hid _:=HF.1 (by omega)
     clear HF HE hb hbg hf hg8 hk h64 hg8n
     go_enter Tryz.func167,Tryz.ntmps167
     go_wp2_with fail
     refine (hn _).mono ?_
     rintro e w1 ⟨rfl,hb1⟩
     go_wp2
     go_quiet (fail)
     go_wp2
     go_ret3
     exact⟨by rw[HZ.out];rfl,below_drewN hb1 _⟩
theorem zx4 (l:List UInt8) (w:World) (hl:30001<l.length) (hl2:l.length≤60001) :
 Calls Tryz.prog 167 #[.string ⟨l.toArray⟩] w fun e w'=>e=.returned (rdV none)∧Below w.heap.size w w':=by
 obtain⟨s,hs⟩:∃ s,s=ByteArray.mk l.toArray:=⟨_,rfl⟩
 have hsz:30001<s.size:=by rw[hs];simp[ByteArray.size];omega
 have hsz2:s.size≤60001:=by rw[hs];simp[ByteArray.size];omega
 have hne:s.toList.isEmpty=false:=by
  rw[hs,ByteArray.toList_mk]
  cases l with
  | nil=>simp at hl
  | cons b r=>rfl
 rw[←hs]
 clear hs
 go_enter Tryz.func167,Tryz.ntmps167
 go_wp2
 go_ret3
 exact⟨rfl,Below.refl _ _⟩
def zd4 (l:List UInt8):Option (List UInt8 × Bool):=if l.length≤30001 then zch l else none
def zdd (l:List UInt8):Option (List UInt8 × Bool):=if l.length≤30000 then zch l else if l.length=30001 then ze3 l else none
theorem zof (l:List UInt8) (w:World) (hl:l.length≤60000) :
 Calls Tryz.prog 122 #[.string ⟨l.toArray⟩] w fun e w'=>e=.returned (rdV (zd4 l))∧Below w.heap.size w w':=by
 match l,hl with
 | [],_=>exact zwx w
 | b :: r, hl =>
   rw[zd4]
   split
   · exact zx1 b r w (by simp at *;omega)
   · exact zx2 b r w (by simp at *;omega) (by simp at *;omega)
theorem zx5 (l:List UInt8) (w:World) (hl:l.length≤60000) :
 Calls Tryz.prog 167 #[.string ⟨l.toArray⟩] w fun e w'=>e=.returned (rdV (zdd l))∧Below w.heap.size w w':=by
 rw[zdd]
 split
 · exact zx0 l w (by assumption)
 · split
   · match l,hl with
     | [],_=>simp at *
     | b :: r,hl=>exact zx3 b r w (by simp at *;omega)
   · exact zx4 l w (by omega) (by omega)
theorem zx6 (l:List UInt8):zd4 l=zdd l∨(∀ x lf,zd4 l=some (x,lf)→24<x.length)∧(∀ x lf,zdd l=some (x,lf)→24<x.length):=by
 unfold zd4 zdd
 by_cases h1:l.length≤30000
 · left;rw[if_pos (by omega),if_pos h1]
 · rw [if_neg h1]
   by_cases h2:l.length=30001
   · right
     rw[if_pos (by omega),if_pos h2]
     match l,h2 with
     | b :: r, h2 =>
       simp at h2
       constructor
       · intro x lf h
         simp only[zch] at h
         split at h
         · cases h
         · split at h
           · cases h;rw[List.length_cons,zds];omega
           · split at h
             · cases h
             · cases h;rw[zds];omega
       · intro x lf h
         simp only[ze3] at h
         split at h
         · cases h
         · split at h
           · cases h
           · split at h
             · cases h
             · cases h;rw[zds];omega
   · left;rw[if_neg (by omega),if_neg h2]
end Go.Proofs.YtppljdnbhoeeoaaGreatDoor
