/-
 Texts that are laid as one: MathRead, Read, IRead, ReadX.
-/
import Derived.Test.YtiadimhoolekbaaGreatDoorHexAll
import Derived.BigQuiet
namespace Go.Proofs.YtiadimhoolekbaaGreatDoor
open Go.RowKit
set_option linter.unusedVariables false
set_option maxHeartbeats 1000000
set_option maxRecDepth 100000
def zc4:List UInt8→Option (List UInt8 × Bool)
 | []=>none
 | b :: r =>
   if 64≤b.toNat then none
   else if b.toNat / 16 % 2=1 then some (b % 16 :: nibs r,decide (2≤b.toNat / 16))
   else if b.toNat % 16≠0 then none
   else some (nibs r,decide (2≤b.toNat / 16))
def rdV:Option (List UInt8 × Bool)→Value
 | none=>.tuple #[.string ⟨#[]⟩,.bool false,.bool false]
 | some (x,leaf)=>.tuple #[.string ⟨x.toArray⟩,.bool leaf,.bool true]
theorem ze4 (b:UInt8) (r:List UInt8):nibs (b :: r)=b / 16 :: b % 16 :: nibs r:=rfl
theorem zpv:∀ l:List UInt8,pack (nibs l)=l
 | []=>rfl
 | b :: r => by
   rw[ze4,pack,zpv r]
   congr 1
   apply UInt8.toNat_inj.1
   have:=b.toNat_lt
   simp;omega
theorem zyg (a b:UInt8) (ha:a.toNat≤15) (hb:b.toNat≤15):(16*a+b) / 16=a:=by
 apply UInt8.toNat_inj.1;simp;omega
theorem zpw (a b:UInt8) (ha:a.toNat≤15) (hb:b.toNat≤15):(16*a+b) % 16=b:=by
 apply UInt8.toNat_inj.1;simp;omega
theorem zl7:∀ l:List UInt8,l.length % 2=0→zo l=true→nibs (pack l)=l
 | [],_,_=>rfl
 | [_],h,_=>by simp at h
 | a :: b :: r, h, hq => by
   simp only[zo,List.all_cons,Bool.and_eq_true,decide_eq_true_eq] at hq
   rw[pack,ze4,zyg a b hq.1 hq.2.1,zpw a b hq.1 hq.2.1,zl7 r (by simp at h;omega) (by simpa [zo] using hq.2.2)]
theorem zyh (n:List UInt8) (leaf:Bool) (hq:zo n=true):zc4 (pack (zaa n leaf))=some (n,leaf):=by
 by_cases h:n.length % 2=1
 · rw [zir n leaf h]
   match n,h,hq with
   | [],h,_=>simp at h
   | a :: r, h, hq =>
     simp only[zo,List.all_cons,Bool.and_eq_true,decide_eq_true_eq] at hq
     have hr:nibs (pack r)=r:=zl7 r (by simp at h;omega) (by simpa [zo] using hq.2)
     have ha:=hq.1
     have hm:(16*(if leaf=true then (3:UInt8) else 1)+a) % 16=a:=zpw _ _ (by cases leaf <;> decide) ha
     have hn:(16*(if leaf=true then (3:UInt8) else 1)+a).toNat=(if leaf then 48 else 16)+a.toNat:=by cases leaf <;> simp <;> omega
     rw[pack]
     simp only[zc4,hm,hr,hn]
     cases leaf
     · simp only[Bool.false_eq_true,if_false]
       rw[if_neg (by omega),if_pos (by omega)]
       simp;omega
     · simp only[if_true]
       rw[if_neg (by omega),if_pos (by omega)]
       simp;omega
 · have h0:n.length % 2=0:=by omega
   rw[zis n leaf h0,pack]
   have hr:nibs (pack n)=n:=zl7 n h0 hq
   have hn:(16*(if leaf=true then (2:UInt8) else 0)+0).toNat=(if leaf then 32 else 0):=by cases leaf <;> rfl
   simp only[zc4,hr,hn]
   cases leaf <;> simp
theorem zl8 (l:List UInt8) (h:l.length % 2=0):(pack l).length=l.length / 2:=by
 have:=zqs (l.length / 2) l (by omega)
 rw[List.take_of_length_le (by omega)] at this
 exact this
theorem zl9 (n:List UInt8) (leaf:Bool):(pack (zaa n leaf)).length=n.length / 2+1:=by
 by_cases h:n.length % 2=1
 · rw[zir n leaf h,zl8 _ (by simp;omega)];simp;omega
 · rw[zis n leaf (by omega),zl8 _ (by simp;omega)];simp;omega
theorem zc0 (b:UInt8) (r:List UInt8) (x:Int) (h:(b.toNat:Int)=x) (W:World) :
 (Instr.index 9 (.string ⟨(b :: r).toArray⟩) (.int .i64 0)).run Tryz.prog W=.ok (.int .u8 x) W:=by
 rw[zcv (P:=Tryz.prog) Tryz.underlying9 (b :: r) 0 0 rfl (by simp) W]
 simp[h]
theorem zpx (l:List UInt8) (w:World) (hl:l.length≤1048576) :
 Calls Tryz.prog 109 #[.string ⟨l.toArray⟩] w fun e w'=>e=.returned (.string ⟨(nibs l).toArray⟩)∧Below w.heap.size w w':=by
 have:=zp6 ⟨l.toArray⟩ w (by simpa [ByteArray.size] using hl)
 simpa using this
theorem zpy (l:List UInt8) (w:World) (hl:l.length≤1048576) :
 Calls Tryz.prog 95 #[.string ⟨l.toArray⟩] w fun e w'=>e=.returned (.string ⟨(nibs l).toArray⟩)∧Below w.heap.size w w':=by
 have:=zp7 ⟨l.toArray⟩ w (by simpa [ByteArray.size] using hl)
 simpa using this
theorem zif (b:UInt8) (h:¬ 64≤b.toNat):∃ g:Nat,g≤15∧(b % 16).toNat=g ∧
 ((b.toNat=g∧(b / 16).toNat=0)∨(b.toNat=16+g∧(b / 16).toNat=1)∨(b.toNat=32+g∧(b / 16).toNat=2)∨(b.toNat=48+g∧(b / 16).toNat=3)):=by
 have:=b.toNat_lt
 exact⟨b.toNat % 16,by omega,by simp,by simp;omega⟩
theorem zyi (w:World) :
 Calls Tryz.prog 107 #[.string ⟨#[]⟩] w fun e w'=>e=.returned (rdV none)∧Below w.heap.size w w':=by
 go_enter Tryz.func107,Tryz.ntmps107
 go_wp2
 go_ret3
 exact⟨rfl,Below.refl _ _⟩
theorem zyj (b : UInt8) (r : List UInt8) (w : World) (hl : r.length < 30000) :
 Calls Tryz.prog 114 #[.string ⟨(b :: r).toArray⟩] w fun e w'=>e=.returned (rdV (zc4 (b :: r)))∧Below w.heap.size w w':=by
 have hn:=fun W=>zpy (b :: r) W (by simp;omega)
 obtain⟨s,hs⟩:∃ s,s=ByteArray.mk (b :: r).toArray:=⟨_,rfl⟩
 have hsz:s.size≤30000:=by rw[hs];simp[ByteArray.size];omega
 have hne:s.toList.isEmpty=false:=by rw[hs,ByteArray.toList_mk];rfl
 rw[←hs] at hn ⊢
 obtain⟨out,hout⟩:∃ out,out=zc4 (b :: r):=⟨_,rfl⟩
 rw[←hout]
 clear hs
 obtain⟨f8,hf8⟩:∃ f8,f8=b / 16:=⟨_,rfl⟩
 obtain⟨g8,hg8⟩:∃ g8,g8=b % 16:=⟨_,rfl⟩
 obtain⟨nr,hnr⟩:∃ nr,nr=nibs r:=⟨_,rfl⟩
 rw[ze4,←hf8,←hg8,←hnr] at hn
 have hnl:nr.length<60000:=by rw[hnr,ze6];omega
 have hs1:=zbq (f8 :: g8 :: nr) 1 (by simp)
 have hs2:=zbq (g8 :: nr) 1 (by simp)
 simp only[List.length_cons,List.drop_succ_cons,List.drop_zero] at hs1 hs2
 obtain⟨t1,ht1⟩:∃ t1,t1=ByteArray.mk (g8 :: nr).toArray:=⟨_,rfl⟩
 have hk:=fun x hx=>zc0 g8 nr x hx
 have ht1s:t1.size≤60000:=by rw[ht1];simp[ByteArray.size];omega
 have ht1e : t1.extract 1 t1.size = ⟨nr.toArray⟩ := by rw [ht1]; have : (ByteArray.mk (g8 :: nr).toArray).size = nr.length + 1 := by simp [ByteArray.size]
                                                       rw[this];exact hs2
 have ht1n:0<t1.size:=by rw[ht1];simp[ByteArray.size]
 rw[←ht1] at hs1 hk
 clear hs2
 have hbt:=b.toNat_lt
 by_cases h64:64≤b.toNat
 · have HR:Hid (out=none):=by rw[Hid,hout];simp only[zc4];rw[if_pos h64]
   have hj:=zc0 f8 (g8 :: nr) (b.toNat / 16:Int) (by rw[hf8];simp)
   have h64':(4:Int)≤(b.toNat:Int) / 16:=by omega
   have h64'':(b.toNat:Int) / 16≤15:=by omega
   clear hout hf8 hg8 hnr ht1
   go_enter Tryz.func114,Tryz.ntmps114
   go_wp2_with fail
   refine (hn _).mono ?_
   rintro e w1 ⟨rfl,hb1⟩
   go_wp2
   go_quiet (fail)
   go_wp2
   go_ret3
   exact⟨by rw[HR.out];rfl,below_drewN hb1 _⟩
 · obtain⟨g,hg,hbg,hcs⟩:=zif b h64
   rw[←hf8] at hcs
   have HE:∀ (lf:Bool),decide (2≤b.toNat / 16)=lf→(b.toNat / 16 % 2=1→out=some (g8 :: nr,lf))∧(b.toNat / 16 % 2≠1→b.toNat % 16≠0→out=none)∧(b.toNat / 16 % 2≠1→b.toNat % 16=0→out=some (nr,lf)):=by
    intro lf hlf
    rw[hout]
    simp only[zc4]
    rw[if_neg h64,hlf,←hg8,←hnr]
    refine⟨fun h=>by rw[if_pos h],fun h h'=>by rw[if_neg h,if_pos h'],fun h h'=>by rw[if_neg h,if_neg (by omega)]⟩
   have a01:bits BinOp.and IntKind.u8 0 1=0:=by decide
   have a02:bits BinOp.and IntKind.u8 0 2=0:=by decide
   have a11:bits BinOp.and IntKind.u8 1 1=1:=by decide
   have a12:bits BinOp.and IntKind.u8 1 2=0:=by decide
   have a21:bits BinOp.and IntKind.u8 2 1=0:=by decide
   have a22:bits BinOp.and IntKind.u8 2 2=2:=by decide
   have a31:bits BinOp.and IntKind.u8 3 1=1:=by decide
   have a32:bits BinOp.and IntKind.u8 3 2=2:=by decide
   have hg8n:g8.toNat=g:=by rw[hg8];exact hbg
   have hT:Value.string t1=.string ⟨(g8 :: nr).toArray⟩:=by rw[ht1]
   have HT:Hid (Value.string t1=.string ⟨(g8 :: nr).toArray⟩):=hT
   clear hout hf8 hnr hT ht1
   rcases hcs with ⟨hb,hf⟩ | ⟨hb,hf⟩ | ⟨hb,hf⟩ | ⟨hb,hf⟩
   · have hj:=zc0 f8 (g8 :: nr) 0 (by omega)
     have HF:=HE false (by simp;omega)
     by_cases h0:g=0
     · have HZ:Hid (out=some (nr,false)):=HF.2.2 (by omega) (by omega)
       have hi:=hk 0 (by omega)
       clear HF HE hb hbg hf hg8 h0 hg hk h64 hg8n
       go_enter Tryz.func114,Tryz.ntmps114
       go_wp2_with fail
       refine (hn _).mono ?_
       rintro e w1 ⟨rfl,hb1⟩
       go_wp2
       go_quiet (fail)
       go_wp2
       go_ret3
       exact⟨by rw[HZ.out];rfl,below_drewN hb1 _⟩
     · have HZ:Hid (out=none):=HF.2.1 (by omega) (by omega)
       have hi:=hk (g:Int) (by omega)
       have h0':1≤(g:Int):=by omega
       have hg':(g:Int)≤15:=by omega
       clear HF HE hb hbg hf hg8 hk h64 hg8n
       go_enter Tryz.func114,Tryz.ntmps114
       go_wp2_with fail
       refine (hn _).mono ?_
       rintro e w1 ⟨rfl,hb1⟩
       go_wp2
       go_quiet (fail)
       go_wp2
       go_ret3
       exact⟨by rw[HZ.out];rfl,below_drewN hb1 _⟩
   · have hj:=zc0 f8 (g8 :: nr) 1 (by omega)
     have HF:=HE false (by simp;omega)
     have HZ:Hid (out=some (g8 :: nr,false)):=HF.1 (by omega)
     clear HF HE hb hbg hf hg8 hk h64 hg8n
     go_enter Tryz.func114,Tryz.ntmps114
     go_wp2_with fail
     refine (hn _).mono ?_
     rintro e w1 ⟨rfl,hb1⟩
     go_wp2
     go_quiet (fail)
     go_wp2
     go_ret3
     exact⟨by rw[HZ.out,rdV,←HT.out];rfl,below_drewN hb1 _⟩
   · have hj:=zc0 f8 (g8 :: nr) 2 (by omega)
     have HF:=HE true (by simp;omega)
     by_cases h0:g=0
     · have HZ:Hid (out=some (nr,true)):=HF.2.2 (by omega) (by omega)
       have hi:=hk 0 (by omega)
       clear HF HE hb hbg hf hg8 h0 hg hk h64 hg8n
       go_enter Tryz.func114,Tryz.ntmps114
       go_wp2_with fail
       refine (hn _).mono ?_
       rintro e w1 ⟨rfl,hb1⟩
       go_wp2
       go_quiet (fail)
       go_wp2
       go_ret3
       exact⟨by rw[HZ.out];rfl,below_drewN hb1 _⟩
     · have HZ:Hid (out=none):=HF.2.1 (by omega) (by omega)
       have hi:=hk (g:Int) (by omega)
       have h0':1≤(g:Int):=by omega
       have hg':(g:Int)≤15:=by omega
       clear HF HE hb hbg hf hg8 hk h64 hg8n
       go_enter Tryz.func114,Tryz.ntmps114
       go_wp2_with fail
       refine (hn _).mono ?_
       rintro e w1 ⟨rfl,hb1⟩
       go_wp2
       go_quiet (fail)
       go_wp2
       go_ret3
       exact⟨by rw[HZ.out];rfl,below_drewN hb1 _⟩
   · have hj:=zc0 f8 (g8 :: nr) 3 (by omega)
     have HF:=HE true (by simp;omega)
     have HZ:Hid (out=some (g8 :: nr,true)):=HF.1 (by omega)
     clear HF HE hb hbg hf hg8 hk h64 hg8n
     go_enter Tryz.func114,Tryz.ntmps114
     go_wp2_with fail
     refine (hn _).mono ?_
     rintro e w1 ⟨rfl,hb1⟩
     go_wp2
     go_quiet (fail)
     go_wp2
     go_ret3
     exact⟨by rw[HZ.out,rdV,←HT.out];rfl,below_drewN hb1 _⟩
theorem zyk (w:World) :
 Calls Tryz.prog 114 #[.string ⟨#[]⟩] w fun e w'=>e=.returned (rdV none)∧Below w.heap.size w w':=by
 go_enter Tryz.func114,Tryz.ntmps114
 go_wp2
 go_ret3
 exact⟨rfl,Below.refl _ _⟩
theorem zyl (l:List UInt8) (w:World) (hl:l.length≤30000) :
 Calls Tryz.prog 114 #[.string ⟨l.toArray⟩] w fun e w'=>e=.returned (rdV (zc4 l))∧Below w.heap.size w w':=by
 match l,hl with
 | [],_=>exact zyk w
 | b :: r,hl=>exact zyj b r w (by simp at hl;omega)
def zen:List UInt8→Option (List UInt8 × Bool)
 | []=>none
 | b :: r =>
   if 64≤b.toNat then none
   else if b.toNat / 16 % 2=1 then none
   else if b.toNat % 16≠0 then none
   else some (nibs r,decide (2≤b.toNat / 16))
theorem zym (b:UInt8) (r:List UInt8) (w:World) (hl:r.length≤30000) :
 Calls Tryz.prog 107 #[.string ⟨(b :: r).toArray⟩] w fun e w'=>e=.returned (rdV (zc4 (b :: r)))∧Below w.heap.size w w':=by
 have hn:=fun W=>zpx (b :: r) W (by simp;omega)
 have hix:=fun x hx=>zc0 b r x hx
 obtain⟨s,hs⟩:∃ s,s=ByteArray.mk (b :: r).toArray:=⟨_,rfl⟩
 have hsz:s.size≤30001:=by rw[hs];simp[ByteArray.size];omega
 have hne:s.toList.isEmpty=false:=by rw[hs,ByteArray.toList_mk];rfl
 rw[←hs] at hn hix ⊢
 obtain⟨out,hout⟩:∃ out,out=zc4 (b :: r):=⟨_,rfl⟩
 rw[←hout]
 clear hs
 by_cases h64:64≤b.toNat
 · have HR:Hid (out=none):=by rw[Hid,hout];simp only[zc4];rw[if_pos h64]
   have hi:=hix (b.toNat:Int) rfl
   have h64':(64:Int)≤(b.toNat:Int):=by omega
   clear hout hix
   go_enter Tryz.func107,Tryz.ntmps107
   go_wp2
   go_ret3
   exact⟨by rw[HR.out];rfl,Below.refl _ _⟩
 · obtain⟨g,hg,hbg,hcs⟩:=zif b h64
   obtain⟨f8,hf8⟩:∃ f8,f8=b / 16:=⟨_,rfl⟩
   obtain⟨g8,hg8⟩:∃ g8,g8=b % 16:=⟨_,rfl⟩
   obtain⟨nr,hnr⟩:∃ nr,nr=nibs r:=⟨_,rfl⟩
   rw[ze4,←hf8,←hg8,←hnr] at hn
   have hnl:nr.length≤60000:=by rw[hnr,ze6];omega
   rw[←hf8] at hcs
   have hs1:=zbq (f8 :: g8 :: nr) 1 (by simp)
   have hs2:=zbq (f8 :: g8 :: nr) 2 (by simp)
   simp only[List.length_cons,List.drop_succ_cons,List.drop_zero] at hs1 hs2
   have HE:∀ (lf:Bool),decide (2≤b.toNat / 16)=lf→(b.toNat / 16 % 2=1→out=some (g8 :: nr,lf))∧(b.toNat / 16 % 2≠1→b.toNat % 16≠0→out=none)∧(b.toNat / 16 % 2≠1→b.toNat % 16=0→out=some (nr,lf)):=by
    intro lf hlf
    rw[hout]
    simp only[zc4]
    rw[if_neg h64,hlf,←hg8,←hnr]
    refine⟨fun h=>by rw[if_pos h],fun h h'=>by rw[if_neg h,if_pos h'],fun h h'=>by rw[if_neg h,if_neg (by omega)]⟩
   clear hout hf8 hnr
   rcases hcs with ⟨hb,hf⟩ | ⟨hb,hf⟩ | ⟨hb,hf⟩ | ⟨hb,hf⟩
   · have hj:=zc0 f8 (g8 :: nr) 0 (by omega)
     have HF:=HE false (by simp;omega)
     by_cases h0:g=0
     · have HZ:Hid (out=some (nr,false)):=HF.2.2 (by omega) (by omega)
       have hi:=hix 0 (by omega)
       clear HF HE hb hbg hf hg8 h0 hg hix h64
       go_enter Tryz.func107,Tryz.ntmps107
       go_wp2_with fail
       refine (hn _).mono ?_
       rintro e w1 ⟨rfl,hb1⟩
       go_wp2
       go_quiet (fail)
       go_wp2
       go_ret3
       exact⟨by rw[HZ.out];rfl,below_drewN hb1 _⟩
     · have HZ:Hid (out=none):=HF.2.1 (by omega) (by omega)
       have hi:=hix (0+(g:Int)) (by omega)
       have h0':1≤(g:Int):=by omega
       have hg':(g:Int)≤15:=by omega
       clear HF HE hb hbg hf hg8 hix h64
       go_enter Tryz.func107,Tryz.ntmps107
       go_wp2
       go_ret3
       exact⟨by rw[HZ.out];rfl,Below.refl _ _⟩
   · have hj:=zc0 f8 (g8 :: nr) 1 (by omega)
     have HF:=HE false (by simp;omega)
     have HZ:Hid (out=some (g8 :: nr,false)):=HF.1 (by omega)
     have hi:=hix (16+(g:Int)) (by omega)
     have hg':(g:Int)≤15:=by omega
     clear HF HE hb hbg hf hg8 hix h64
     go_enter Tryz.func107,Tryz.ntmps107
     go_wp2_with fail
     refine (hn _).mono ?_
     rintro e w1 ⟨rfl,hb1⟩
     go_wp2
     go_quiet (fail)
     go_wp2
     go_ret3
     exact⟨by rw[HZ.out];rfl,below_drewN hb1 _⟩
   · have hj:=zc0 f8 (g8 :: nr) 2 (by omega)
     have HF:=HE true (by simp;omega)
     by_cases h0:g=0
     · have HZ:Hid (out=some (nr,true)):=HF.2.2 (by omega) (by omega)
       have hi:=hix 32 (by omega)
       clear HF HE hb hbg hf hg8 h0 hg hix h64
       go_enter Tryz.func107,Tryz.ntmps107
       go_wp2_with fail
       refine (hn _).mono ?_
       rintro e w1 ⟨rfl,hb1⟩
       go_wp2
       go_quiet (fail)
       go_wp2
       go_ret3
       exact⟨by rw[HZ.out];rfl,below_drewN hb1 _⟩
     · have HZ:Hid (out=none):=HF.2.1 (by omega) (by omega)
       have hi:=hix (32+(g:Int)) (by omega)
       have h0':1≤(g:Int):=by omega
       have hg':(g:Int)≤15:=by omega
       clear HF HE hb hbg hf hg8 hix h64
       go_enter Tryz.func107,Tryz.ntmps107
       go_wp2
       go_ret3
       exact⟨by rw[HZ.out];rfl,Below.refl _ _⟩
   · have hj:=zc0 f8 (g8 :: nr) 3 (by omega)
     have HF:=HE true (by simp;omega)
     have HZ:Hid (out=some (g8 :: nr,true)):=HF.1 (by omega)
     have hi:=hix (48+(g:Int)) (by omega)
     have hg':(g:Int)≤15:=by omega
     clear HF HE hb hbg hf hg8 hix h64
     go_enter Tryz.func107,Tryz.ntmps107
     go_wp2_with fail
     refine (hn _).mono ?_
     rintro e w1 ⟨rfl,hb1⟩
     go_wp2
     go_quiet (fail)
     go_wp2
     go_ret3
     exact⟨by rw[HZ.out];rfl,below_drewN hb1 _⟩
theorem zyn (b:UInt8) (r:List UInt8) (w:World) (hl:30000<r.length) (hl2:r.length≤60000) :
 Calls Tryz.prog 107 #[.string ⟨(b :: r).toArray⟩] w fun e w'=>e=.returned (rdV none)∧Below w.heap.size w w':=by
 have hn:=fun W=>zpx (b :: r) W (by simp;omega)
 have hix:=fun x hx=>zc0 b r x hx
 obtain⟨s,hs⟩:∃ s,s=ByteArray.mk (b :: r).toArray:=⟨_,rfl⟩
 have hsz:30001<s.size:=by rw[hs];simp[ByteArray.size];omega
 have hsz2:s.size≤60001:=by rw[hs];simp[ByteArray.size];omega
 have hne:s.toList.isEmpty=false:=by rw[hs,ByteArray.toList_mk];rfl
 rw[←hs] at hn hix ⊢
 clear hs
 by_cases h64:64≤b.toNat
 · have hi:=hix (b.toNat:Int) rfl
   have h64':(64:Int)≤(b.toNat:Int):=by omega
   clear hix hn
   go_enter Tryz.func107,Tryz.ntmps107
   go_wp2
   go_ret3
   exact⟨rfl,Below.refl _ _⟩
 · obtain⟨g,hg,hbg,hcs⟩:=zif b h64
   rcases hcs with ⟨hb,hf⟩ | ⟨hb,hf⟩ | ⟨hb,hf⟩ | ⟨hb,hf⟩
   · by_cases h0:g=0
     · have hi:=hix 0 (by omega)
       clear hb hbg hf hg hix h64 hn h0
       go_enter Tryz.func107,Tryz.ntmps107
       go_wp2
       go_ret3
       exact⟨rfl,Below.refl _ _⟩
     · have hi:=hix (0+(g:Int)) (by omega)
       have h0':1≤(g:Int):=by omega
       have hg':(g:Int)≤15:=by omega
       clear hb hbg hf hix h64 hn
       go_enter Tryz.func107,Tryz.ntmps107
       go_wp2
       go_ret3
       exact⟨rfl,Below.refl _ _⟩
   · have hi:=hix (16+(g:Int)) (by omega)
     have hg':(g:Int)≤15:=by omega
     clear hb hbg hf hix h64 hn
     go_enter Tryz.func107,Tryz.ntmps107
     go_wp2
     go_ret3
     exact⟨rfl,Below.refl _ _⟩
   · by_cases h0:g=0
     · have hi:=hix 32 (by omega)
       clear hb hbg hf hg hix h64 hn h0
       go_enter Tryz.func107,Tryz.ntmps107
       go_wp2
       go_ret3
       exact⟨rfl,Below.refl _ _⟩
     · have hi:=hix (32+(g:Int)) (by omega)
       have h0':1≤(g:Int):=by omega
       have hg':(g:Int)≤15:=by omega
       clear hb hbg hf hix h64 hn
       go_enter Tryz.func107,Tryz.ntmps107
       go_wp2
       go_ret3
       exact⟨rfl,Below.refl _ _⟩
   · have hi:=hix (48+(g:Int)) (by omega)
     have hg':(g:Int)≤15:=by omega
     clear hb hbg hf hix h64 hn
     go_enter Tryz.func107,Tryz.ntmps107
     go_wp2
     go_ret3
     exact⟨rfl,Below.refl _ _⟩
theorem zyo (b : UInt8) (r : List UInt8) (w : World) (hl : r.length = 30000) :
 Calls Tryz.prog 114 #[.string ⟨(b :: r).toArray⟩] w fun e w'=>e=.returned (rdV (zen (b :: r)))∧Below w.heap.size w w':=by
 have hn:=fun W=>zpy (b :: r) W (by simp;omega)
 obtain⟨s,hs⟩:∃ s,s=ByteArray.mk (b :: r).toArray:=⟨_,rfl⟩
 have hsz:s.size≤30001:=by rw[hs];simp[ByteArray.size];omega
 have hne:s.toList.isEmpty=false:=by rw[hs,ByteArray.toList_mk];rfl
 rw[←hs] at hn ⊢
 obtain⟨out,hout⟩:∃ out,out=zen (b :: r):=⟨_,rfl⟩
 rw[←hout]
 clear hs
 obtain⟨f8,hf8⟩:∃ f8,f8=b / 16:=⟨_,rfl⟩
 obtain⟨g8,hg8⟩:∃ g8,g8=b % 16:=⟨_,rfl⟩
 obtain⟨nr,hnr⟩:∃ nr,nr=nibs r:=⟨_,rfl⟩
 rw[ze4,←hf8,←hg8,←hnr] at hn
 have hnl:nr.length=60000:=by rw[hnr,ze6];omega
 have hs1:=zbq (f8 :: g8 :: nr) 1 (by simp)
 have hs2:=zbq (g8 :: nr) 1 (by simp)
 simp only[List.length_cons,List.drop_succ_cons,List.drop_zero] at hs1 hs2
 obtain⟨t1,ht1⟩:∃ t1,t1=ByteArray.mk (g8 :: nr).toArray:=⟨_,rfl⟩
 have hk:=fun x hx=>zc0 g8 nr x hx
 have ht1s:t1.size=60001:=by rw[ht1];simp[ByteArray.size];omega
 have hT1:Hid (t1.size=60001):=ht1s
 have hNL:Hid (nr.length=60000):=hnl
 have ht1e : t1.extract 1 t1.size = ⟨nr.toArray⟩ := by rw [ht1]; have : (ByteArray.mk (g8 :: nr).toArray).size = nr.length + 1 := by simp [ByteArray.size]
                                                       rw[this];exact hs2
 have ht1n:0<t1.size:=by rw[ht1];simp[ByteArray.size]
 rw[←ht1] at hs1 hk
 clear hs2
 clear ht1s hnl
 have ht1s:t1.size≤60001:=by have:=hT1.out;omega
 have ht1b:60000<t1.size:=by have:=hT1.out;omega
 have hnl:nr.length≤60000:=by have:=hNL.out;omega
 have hbt:=b.toNat_lt
 by_cases h64:64≤b.toNat
 · have HR:Hid (out=none):=by rw[Hid,hout];simp only[zen];rw[if_pos h64]
   have hj:=zc0 f8 (g8 :: nr) (b.toNat / 16:Int) (by rw[hf8];simp)
   have h64':(4:Int)≤(b.toNat:Int) / 16:=by omega
   have h64'':(b.toNat:Int) / 16≤15:=by omega
   clear hout hf8 hg8 hnr ht1
   go_enter Tryz.func114,Tryz.ntmps114
   go_wp2_with fail
   refine (hn _).mono ?_
   rintro e w1 ⟨rfl,hb1⟩
   go_wp2
   go_quiet (fail)
   go_wp2
   go_ret3
   exact⟨by rw[HR.out];rfl,below_drewN hb1 _⟩
 · obtain⟨g,hg,hbg,hcs⟩:=zif b h64
   rw[←hf8] at hcs
   have HE:∀ (lf:Bool),decide (2≤b.toNat / 16)=lf→(b.toNat / 16 % 2=1→out=none)∧(b.toNat / 16 % 2≠1→b.toNat % 16≠0→out=none)∧(b.toNat / 16 % 2≠1→b.toNat % 16=0→out=some (nr,lf)):=by
    intro lf hlf
    rw[hout]
    simp only[zen]
    rw[if_neg h64,hlf,←hnr]
    refine⟨fun h=>by rw[if_pos h],fun h h'=>by rw[if_neg h,if_pos h'],fun h h'=>by rw[if_neg h,if_neg (by omega)]⟩
   have a01:bits BinOp.and IntKind.u8 0 1=0:=by decide
   have a02:bits BinOp.and IntKind.u8 0 2=0:=by decide
   have a11:bits BinOp.and IntKind.u8 1 1=1:=by decide
   have a12:bits BinOp.and IntKind.u8 1 2=0:=by decide
   have a21:bits BinOp.and IntKind.u8 2 1=0:=by decide
   have a22:bits BinOp.and IntKind.u8 2 2=2:=by decide
   have a31:bits BinOp.and IntKind.u8 3 1=1:=by decide
   have a32:bits BinOp.and IntKind.u8 3 2=2:=by decide
   have hg8n:g8.toNat=g:=by rw[hg8];exact hbg
   have hT:Value.string t1=.string ⟨(g8 :: nr).toArray⟩:=by rw[ht1]
   have HT:Hid (Value.string t1=.string ⟨(g8 :: nr).toArray⟩):=hT
   clear hout hf8 hnr hT ht1
   rcases hcs with ⟨hb,hf⟩ | ⟨hb,hf⟩ | ⟨hb,hf⟩ | ⟨hb,hf⟩
   · have hj:=zc0 f8 (g8 :: nr) 0 (by omega)
     have HF:=HE false (by simp;omega)
     by_cases h0:g=0
     · have HZ:Hid (out=some (nr,false)):=HF.2.2 (by omega) (by omega)
       have hi:=hk 0 (by omega)
       clear HF HE hb hbg hf hg8 h0 hg hk h64 hg8n
       go_enter Tryz.func114,Tryz.ntmps114
       go_wp2_with fail
       refine (hn _).mono ?_
       rintro e w1 ⟨rfl,hb1⟩
       go_wp2
       go_quiet (fail)
       go_wp2
       go_ret3
       exact⟨by rw[HZ.out];rfl,below_drewN hb1 _⟩
     · have HZ:Hid (out=none):=HF.2.1 (by omega) (by omega)
       have hi:=hk (g:Int) (by omega)
       have h0':1≤(g:Int):=by omega
       have hg':(g:Int)≤15:=by omega
       clear HF HE hb hbg hf hg8 hk h64 hg8n
       go_enter Tryz.func114,Tryz.ntmps114
       go_wp2_with fail
       refine (hn _).mono ?_
       rintro e w1 ⟨rfl,hb1⟩
       go_wp2
       go_quiet (fail)
       go_wp2
       go_ret3
       exact⟨by rw[HZ.out];rfl,below_drewN hb1 _⟩
   · have hj:=zc0 f8 (g8 :: nr) 1 (by omega)
     have HF:=HE false (by simp;omega)
     have HZ:Hid (out=none):=HF.1 (by omega)
     clear HF HE hb hbg hf hg8 hk h64 hg8n
     go_enter Tryz.func114,Tryz.ntmps114
     go_wp2_with fail
     refine (hn _).mono ?_
     rintro e w1 ⟨rfl,hb1⟩
     go_wp2
     go_quiet (fail)
     go_wp2
     go_ret3
     exact⟨by rw[HZ.out];rfl,below_drewN hb1 _⟩
   · have hj:=zc0 f8 (g8 :: nr) 2 (by omega)
     have HF:=HE true (by simp;omega)
     by_cases h0:g=0
     · have HZ:Hid (out=some (nr,true)):=HF.2.2 (by omega) (by omega)
       have hi:=hk 0 (by omega)
       clear HF HE hb hbg hf hg8 h0 hg hk h64 hg8n
       go_enter Tryz.func114,Tryz.ntmps114
       go_wp2_with fail
       refine (hn _).mono ?_
       rintro e w1 ⟨rfl,hb1⟩
       go_wp2
       go_quiet (fail)
       go_wp2
       go_ret3
       exact⟨by rw[HZ.out];rfl,below_drewN hb1 _⟩
     · have HZ:Hid (out=none):=HF.2.1 (by omega) (by omega)
       have hi:=hk (g:Int) (by omega)
       have h0':1≤(g:Int):=by omega
       have hg':(g:Int)≤15:=by omega
       clear HF HE hb hbg hf hg8 hk h64 hg8n
       go_enter Tryz.func114,Tryz.ntmps114
       go_wp2_with fail
       refine (hn _).mono ?_
       rintro e w1 ⟨rfl,hb1⟩
       go_wp2
       go_quiet (fail)
       go_wp2
       go_ret3
       exact⟨by rw[HZ.out];rfl,below_drewN hb1 _⟩
   · have hj:=zc0 f8 (g8 :: nr) 3 (by omega)
     have HF:=HE true (by simp;omega)
     have HZ:Hid (out=none):=HF.1 (by omega)
     clear HF HE hb hbg hf hg8 hk h64 hg8n
     go_enter Tryz.func114,Tryz.ntmps114
     go_wp2_with fail
     refine (hn _).mono ?_
     rintro e w1 ⟨rfl,hb1⟩
     go_wp2
     go_quiet (fail)
     go_wp2
     go_ret3
     exact⟨by rw[HZ.out];rfl,below_drewN hb1 _⟩
theorem zyp (l:List UInt8) (w:World) (hl:30001<l.length) (hl2:l.length≤60001) :
 Calls Tryz.prog 114 #[.string ⟨l.toArray⟩] w fun e w'=>e=.returned (rdV none)∧Below w.heap.size w w':=by
 obtain⟨s,hs⟩:∃ s,s=ByteArray.mk l.toArray:=⟨_,rfl⟩
 have hsz:30001<s.size:=by rw[hs];simp[ByteArray.size];omega
 have hsz2:s.size≤60001:=by rw[hs];simp[ByteArray.size];omega
 have hne:s.toList.isEmpty=false:=by
  rw[hs,ByteArray.toList_mk]
  cases l with
  | nil=>simp at hl
  | cons b r=>rfl
 rw[←hs]
 clear hs
 go_enter Tryz.func114,Tryz.ntmps114
 go_wp2
 go_ret3
 exact⟨rfl,Below.refl _ _⟩
def zdh (l:List UInt8):Option (List UInt8 × Bool):=if l.length≤30001 then zc4 l else none
def zd4 (l:List UInt8):Option (List UInt8 × Bool):=if l.length≤30000 then zc4 l else if l.length=30001 then zen l else none
theorem zpz (l:List UInt8) (w:World) (hl:l.length≤60000) :
 Calls Tryz.prog 107 #[.string ⟨l.toArray⟩] w fun e w'=>e=.returned (rdV (zdh l))∧Below w.heap.size w w':=by
 match l,hl with
 | [],_=>exact zyi w
 | b :: r, hl =>
   rw[zdh]
   split
   · exact zym b r w (by simp at *;omega)
   · exact zyn b r w (by simp at *;omega) (by simp at *;omega)
theorem zyq (l:List UInt8) (w:World) (hl:l.length≤60000) :
 Calls Tryz.prog 114 #[.string ⟨l.toArray⟩] w fun e w'=>e=.returned (rdV (zd4 l))∧Below w.heap.size w w':=by
 rw[zd4]
 split
 · exact zyl l w (by assumption)
 · split
   · match l,hl with
     | [],_=>simp at *
     | b :: r,hl=>exact zyo b r w (by simp at *;omega)
   · exact zyp l w (by omega) (by omega)
theorem zyr (l:List UInt8):zdh l=zd4 l∨(∀ x lf,zdh l=some (x,lf)→24<x.length)∧(∀ x lf,zd4 l=some (x,lf)→24<x.length):=by
 unfold zdh zd4
 by_cases h1:l.length≤30000
 · left;rw[if_pos (by omega),if_pos h1]
 · rw [if_neg h1]
   by_cases h2:l.length=30001
   · right
     rw[if_pos (by omega),if_pos h2]
     match l,h2 with
     | b :: r, h2 =>
       simp at h2
       constructor
       · intro x lf h
         simp only[zc4] at h
         split at h
         · cases h
         · split at h
           · cases h;rw[List.length_cons,ze6];omega
           · split at h
             · cases h
             · cases h;rw[ze6];omega
       · intro x lf h
         simp only[zen] at h
         split at h
         · cases h
         · split at h
           · cases h
           · split at h
             · cases h
             · cases h;rw[ze6];omega
   · left;rw[if_neg (by omega),if_neg h2]
end Go.Proofs.YtiadimhoolekbaaGreatDoor
