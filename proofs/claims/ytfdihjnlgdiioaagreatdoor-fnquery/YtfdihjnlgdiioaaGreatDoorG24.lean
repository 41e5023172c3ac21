import Derived.Test.YtfdihjnlgdiioaaGreatDoorG20
import Derived.Test.YtfdihjnlgdiioaaGreatDoorG23
namespace Go.Proofs.YtfdihjnlgdiioaaGreatDoor.dB
open Go.ChangeShapes Go.WideShapes Go.ChangeAt Go.RowKit
set_option linter.unusedVariables false
set_option linter.unusedSimpArgs false
theorem rW {w:World} {v:Value} {xs:List Seg} {bs:List Nat} (h:pV w v xs bs):∃a c,v=.slice a xs.length c:=by
 obtain⟨a,c,e,_⟩:=(bS.pO sW h (lo:=0) (fun _ _=>eH _)).form
 exact⟨a,c,e⟩
set_option maxRecDepth 100000 in
set_option maxHeartbeats 2000000 in
theorem nT (T fl fw:Nat) (av:Value) (xs:List Seg) (w:World) (m1:∀w,(Go.method 350 T av "loop.example/s01639/impl.lacks").run Tryz.prog w=.ok (fl,av) w) (m2:∀w,(Go.method 350 T av "loop.example/s01639/impl.write").run Tryz.prog w=.ok (fw,av) w)
  (hl:∀W,Calls Tryz.prog fl #[av] W fun e w'=>e=.returned .nilIface∧Below W.heap.size W w') (hw:∀W,Calls Tryz.prog fw #[av] W (fA W xs)) (hB:dW xs=true) (hsz:aT xs≤1048576) (e1:∀args w,(callFunc fl args).run Tryz.prog w=.ok (.enter fl args) w) (e2:∀args w,(callFunc fw args).run Tryz.prog w=.ok (.enter fw args) w) :
  Calls Tryz.prog 22 #[.iface T av] w (fA w xs):=by
 obtain⟨w1,hw1⟩:∃w1,w.alloc (Obj.cells #[.slice none 0 0] 28)=w1:=⟨_,rfl⟩
 have hb1:Below w.heap.size w w1:=by rw[←hw1];exact aO _ _
 have c1:w1.cell? ⟨w.heap.size,0,none⟩=some (.slice none 0 0):=by rw[←hw1];simp
 have f1:w1.frozen? ⟨w.heap.size,0,none⟩=false:=by rw[←hw1];simp
 have l1:w.heap.size<w1.heap.size:=by rw[←hw1];simp
 have HL:=hide hl
 have HW:=hide hw
 have HBB:=hide hB
 clear hl hw hB
 go_enter Tryz.func22,Tryz.ntmps22
 go_wp2_with fail
 refine(HL.out _).mono ?_
 rintro e w2 ⟨rfl,hb2⟩
 go_wp2_with fail
 refine(HW.out _).mono ?_
 rintro e w3 ⟨u,rfl,bs,hO,hN,hF,hb3⟩
 obtain⟨a,c,rfl⟩:=rW hO
 have hB3:=aj hb3 hb2
 have c3:w3.cell? ⟨w.heap.size,0,none⟩=some (.slice none 0 0):=(hB3.cell (p:=⟨w.heap.size,0,none⟩) l1).trans c1
 have f3:w3.frozen? ⟨w.heap.size,0,none⟩=false:=(hB3.frozen (p:=⟨w.heap.size,0,none⟩) l1).trans f1
 have hs3:=hB3.size
 have hs2:=hb2.size
 obtain⟨w4,hw4⟩:∃w4,w3.alloc (Obj.cells #[.slice a xs.length c] 28)=w4:=⟨_,rfl⟩
 have hb4:Below w3.heap.size w3 w4:=by rw[←hw4];exact aO _ _
 have d4:w4.cell? ⟨w3.heap.size,0,none⟩=some (.slice a xs.length c):=by rw[←hw4];simp
 have l4:w3.heap.size<w4.heap.size:=by rw[←hw4];simp
 have HO4:=hide (bS.kept iR hO hb4.size fun d hd=>hb4.block d (bS.lt MF hO d hd))
 have HF3:Hid (∀d∈bs,w2.heap.size≤d∧d<w3.heap.size):=fun d hd=>⟨hF d hd,bS.lt MF hO d hd⟩
 have c4:w4.cell? ⟨w.heap.size,0,none⟩=some (.slice none 0 0):=(hb4.cell (p:=⟨w.heap.size,0,none⟩) (by dsimp only;omega)).trans c3
 have f4:w4.frozen? ⟨w.heap.size,0,none⟩=false:=(hb4.frozen (p:=⟨w.heap.size,0,none⟩) (by dsimp only;omega)).trans f3
 have o7:=hide (aj hb4 (aj hB3 hb1))
 have GX:=hide hN
 clear hO hF hN hb3 hB3 hb4 c3 f3
 go_wp2_with fail
 refine(uX xs _ _ hsz (bS.pO sW HO4.out (lo:=0) (fun _ _=>eH _))).mono ?_
 rintro e w5 ⟨rfl,hb5⟩
 rw[HBB.out]
 have d5:w5.cell? ⟨w3.heap.size,0,none⟩=some (.slice a xs.length c):=(hb5.cell (p:=⟨w3.heap.size,0,none⟩) l4).trans d4
 have c5:w5.cell? ⟨w.heap.size,0,none⟩=some (.slice none 0 0):=(hb5.cell (p:=⟨w.heap.size,0,none⟩) (by dsimp only;omega)).trans c4
 have f5:w5.frozen? ⟨w.heap.size,0,none⟩=false:=(hb5.frozen (p:=⟨w.heap.size,0,none⟩) (by dsimp only;omega)).trans f4
 have l5:w.heap.size<w5.heap.size:=by have:=hb5.size;omega
 have HO5:=hide (bS.kept iR HO4.out hb5.size fun d hd=>hb5.block d (by have:=(HF3.out d hd).2;omega))
 have GY:Hid (∀x,pV (w5.setCell ⟨w.heap.size,0,none⟩ x) (.slice a xs.length c) xs bs):=fun x=>bS.kept iR HO5.out (by rw[Deep.nblk_setCell];exact aS _) fun d hd=>Deep.blk_setCell_other _ ⟨w.heap.size,0,none⟩ _ d (by have:=(HF3.out d hd).1;dsimp only;omega)
 have jH:Hid (∀x,Below w.heap.size w (w5.setCell ⟨w.heap.size,0,none⟩ x)):=fun x=>(aj hb5 o7.out).setCell (p:=⟨w.heap.size,0,none⟩) (aS _) x
 have sQ:Hid (∀b∈bs,w.heap.size≤b):=fun b hb=>by have:=(HF3.out b hb).1;omega
 clear hb5
 go_wp2_with fail
 exact bodyPost_ret (v:=.agg #[.slice a xs.length c]) (by simp[results,Tryz.results22,go_sem,c5,l5]) rfl ⟨_,rfl,bs,GY.out _,GX.out,sQ.out,jH.out _⟩
theorem jg (w w':World) (a:Option Addr) (c:Nat) (hb:Below w.heap.size w w'):fA w [] (.returned (.agg #[.slice a 0 c])) w':=⟨_,rfl,[],⟨by simp,.inl ⟨a,c,rfl,rfl,rfl⟩⟩,by simp,by simp,hb⟩
set_option maxRecDepth 100000 in
set_option maxHeartbeats 2000000 in
theorem o9 (T fl:Nat) (av:Value) (c:Int) (w:World) (m1:∀w,(Go.method 350 T av "loop.example/s01639/impl.lacks").run Tryz.prog w=.ok (fl,av) w)
  (hl:∀W,Calls Tryz.prog fl #[av] W fun e w'=>e=.returned (sD c)∧Below W.heap.size W w') (e1:∀args w,(callFunc fl args).run Tryz.prog w=.ok (.enter fl args) w) :
  Calls Tryz.prog 22 #[.iface T av] w (fA w []):=by
 obtain⟨w1,hw1⟩:∃w1,w.alloc (Obj.cells #[.slice none 0 0] 28)=w1:=⟨_,rfl⟩
 have hb1:Below w.heap.size w w1:=by rw[←hw1];exact aO _ _
 have c1:w1.cell? ⟨w.heap.size,0,none⟩=some (.slice none 0 0):=by rw[←hw1];simp
 have f1:w1.frozen? ⟨w.heap.size,0,none⟩=false:=by rw[←hw1];simp
 have l1:w.heap.size<w1.heap.size:=by rw[←hw1];simp
 have HL:=hide hl
 clear hl
 go_enter Tryz.func22,Tryz.ntmps22
 go_wp2_with fail
 refine(HL.out _).mono ?_
 rintro e w2 ⟨rfl,hb2⟩
 dsimp only[sD]
 have c2:w2.cell? ⟨w.heap.size,0,none⟩=some (.slice none 0 0):=(hb2.cell (p:=⟨w.heap.size,0,none⟩) l1).trans c1
 have f2:w2.frozen? ⟨w.heap.size,0,none⟩=false:=(hb2.frozen (p:=⟨w.heap.size,0,none⟩) l1).trans f1
 have l2:w.heap.size<w2.heap.size:=by have:=hb2.size;omega
 have jH:Hid (∀x,Below w.heap.size w (w2.setCell ⟨w.heap.size,0,none⟩ x)):=fun x=>(aj hb2 hb1).setCell (p:=⟨w.heap.size,0,none⟩) (aS _) x
 clear hb2
 go_wp2_with fail
 exact bodyPost_ret (v:=.agg #[.slice none 0 0]) (by simp[results,Tryz.results22,go_sem,c2,l2]) rfl (jg _ _ _ _ (jH.out _))
structure jM where
 ack:ByteArray
 control:ByteArray
 code:Int
 tag:ByteArray
 rows:List ByteArray
 pointer:ByteArray
def gU (r:jM) (v:Value):Value:=.agg #[.string r.ack,.string r.control,.int .i64 r.code,.string r.tag,v,.string r.pointer]
def sK (s:ByteArray):Bool:=s.toList == [65,65]
def M7 (s:ByteArray):Bool:=s.toList == [65,69]
def M8 (s:ByteArray):Bool:=s.toList == [65,82]
def gD (r:jM):Nat:=if sK r.ack then (if r.code=0 then 1 else 0) else if (M7 r.ack || M8 r.ack) then (if r.rows.length=0∧r.pointer.size=0 then 2 else 0) else 0
def pR (r:jM) (v:Value):Value:=match gD r with
 | 1=>.iface 120 (.agg #[.string r.control,.string r.tag,v,.string r.pointer])
 | 2=>.iface 122 (.agg #[.string r.ack,.string r.control,.int .i64 r.code,.string r.tag])
 | _=>.nilIface
theorem Zw {s:ByteArray} (h:sK s=true):M7 s=false∧M8 s=false:=by
 unfold sK at h
 have e:=eq_of_beq h
 unfold M7 M8
 rw[e]
 exact⟨rfl,rfl⟩
theorem Zx {s:ByteArray} (h:M7 s=true):M8 s=false:=by
 unfold M7 at h
 have e:=eq_of_beq h
 unfold M8
 rw[e]
 rfl
set_option maxHeartbeats 4000000 in
theorem Jq (r:jM) (a:Option Addr) (c:Nat) (w:World) (hl:r.rows.length≤9223372036854775807) :
  Calls Tryz.prog 37 #[gU r (.slice a r.rows.length c)] w fun e w'=>e=.returned (pR r (.slice a r.rows.length c))∧Below w.heap.size w w':=by
 obtain⟨ack,control,code,tag,rows,pointer⟩:=r
 unfold gU
 dsimp only at hl ⊢
 have HB:=hide ((Below.refl w.heap.size w).alloc (aS _) (Obj.cells #[.string ack,.string control,.int .i64 code,.string tag,.slice a rows.length c,.string pointer] 38))
 obtain⟨w1,hw1⟩:∃w1,w.alloc (Obj.cells #[.string ack,.string control,.int .i64 code,.string tag,.slice a rows.length c,.string pointer] 38)=w1:=⟨_,rfl⟩
 have d0:w1.cell? ⟨w.heap.size,0,none⟩=some (.string ack):=by rw[←hw1];simp
 have d1:w1.cell? ⟨w.heap.size,1,none⟩=some (.string control):=by rw[←hw1];simp
 have d2:w1.cell? ⟨w.heap.size,2,none⟩=some (.int .i64 code):=by rw[←hw1];simp
 have d3:w1.cell? ⟨w.heap.size,3,none⟩=some (.string tag):=by rw[←hw1];simp
 have d4:w1.cell? ⟨w.heap.size,4,none⟩=some (.slice a rows.length c):=by rw[←hw1];simp
 have d5:w1.cell? ⟨w.heap.size,5,none⟩=some (.string pointer):=by rw[←hw1];simp
 rw[hw1] at HB
 cases h1:sK ack
 ·have e1:(ack.toList == [65,65])=false:=h1
  cases h2:M7 ack
  ·have e2:(ack.toList == [65,69])=false:=h2
   cases h3:M8 ack
   ·have e3:(ack.toList == [65,82])=false:=h3
    have HX:Hid (pR ⟨ack,control,code,tag,rows,pointer⟩ (.slice a rows.length c)=.nilIface):=by unfold pR gD;simp only[h1,h2,h3];exact rfl
    clear h1 h2 h3
    go_enter Tryz.func37,Tryz.ntmps37
    go_wp2_with fail
    go_ret
    exact⟨by rw[HX.out];rfl,HB.out⟩
   ·have e3:(ack.toList == [65,82])=true:=h3
    by_cases hr:rows.length=0
    ·have hrb:((rows.length:Int) == 0)=true:=by simpa using hr
     by_cases hp:pointer.size=0
     ·obtain⟨p1,p2,p3⟩:=mU hp
      have HX:Hid (pR ⟨ack,control,code,tag,rows,pointer⟩ (.slice a rows.length c)=.iface 122 (.agg #[.string ack,.string control,.int .i64 code,.string tag])):=by unfold pR gD;simp only[h1,h2,h3,hr,hp];exact rfl
      clear h1 h2 h3 hp p1 hr
      go_enter Tryz.func37,Tryz.ntmps37
      go_wp2_with fail
      go_ret
      exact⟨by rw[HX.out];rfl,HB.out⟩
     ·obtain⟨p1,p2,p3⟩:=oW hp
      have HX:Hid (pR ⟨ack,control,code,tag,rows,pointer⟩ (.slice a rows.length c)=.nilIface):=by unfold pR gD;simp only[h1,h2,h3,hr,hp];exact rfl
      clear h1 h2 h3 hp p1 hr
      go_enter Tryz.func37,Tryz.ntmps37
      go_wp2_with fail
      go_ret
      exact⟨by rw[HX.out];rfl,HB.out⟩
    ·have hri:¬(rows.length:Int)=0:=by omega
     have hrb:((rows.length:Int) == 0)=false:=by simpa using hri
     have HX:Hid (pR ⟨ack,control,code,tag,rows,pointer⟩ (.slice a rows.length c)=.nilIface):=by unfold pR gD;simp only[h1,h2,h3,hr];exact rfl
     clear h1 h2 h3
     go_enter Tryz.func37,Tryz.ntmps37
     go_wp2_with fail
     go_ret
     exact⟨by rw[HX.out];rfl,HB.out⟩
  ·have e2:(ack.toList == [65,69])=true:=h2
   have h3:=Zx h2
   by_cases hr:rows.length=0
   ·have hrb:((rows.length:Int) == 0)=true:=by simpa using hr
    by_cases hp:pointer.size=0
    ·obtain⟨p1,p2,p3⟩:=mU hp
     have HX:Hid (pR ⟨ack,control,code,tag,rows,pointer⟩ (.slice a rows.length c)=.iface 122 (.agg #[.string ack,.string control,.int .i64 code,.string tag])):=by unfold pR gD;simp only[h1,h2,h3,hr,hp];exact rfl
     clear h1 h2 h3 hp p1 hr
     go_enter Tryz.func37,Tryz.ntmps37
     go_wp2_with fail
     go_ret
     exact⟨by rw[HX.out];rfl,HB.out⟩
    ·obtain⟨p1,p2,p3⟩:=oW hp
     have HX:Hid (pR ⟨ack,control,code,tag,rows,pointer⟩ (.slice a rows.length c)=.nilIface):=by unfold pR gD;simp only[h1,h2,h3,hr,hp];exact rfl
     clear h1 h2 h3 hp p1 hr
     go_enter Tryz.func37,Tryz.ntmps37
     go_wp2_with fail
     go_ret
     exact⟨by rw[HX.out];rfl,HB.out⟩
   ·have hri:¬(rows.length:Int)=0:=by omega
    have hrb:((rows.length:Int) == 0)=false:=by simpa using hri
    have HX:Hid (pR ⟨ack,control,code,tag,rows,pointer⟩ (.slice a rows.length c)=.nilIface):=by unfold pR gD;simp only[h1,h2,h3,hr];exact rfl
    clear h1 h2 h3
    go_enter Tryz.func37,Tryz.ntmps37
    go_wp2_with fail
    go_ret
    exact⟨by rw[HX.out];rfl,HB.out⟩
 ·have e1:(ack.toList == [65,65])=true:=h1
  obtain⟨h2,h3⟩:=Zw h1
  have e2:(ack.toList == [65,69])=false:=h2
  have e3:(ack.toList == [65,82])=false:=h3
  by_cases hc:code=0
  ·have HX:Hid (pR ⟨ack,control,code,tag,rows,pointer⟩ (.slice a rows.length c)=.iface 120 (.agg #[.string control,.string tag,.slice a rows.length c,.string pointer])):=by unfold pR gD;simp only[h1,hc];exact rfl
   have hcb:(code == 0)=true:=by simpa using hc
   clear h1 h2 h3 hc
   go_enter Tryz.func37,Tryz.ntmps37
   go_wp2_with fail
   go_ret
   exact⟨by rw[HX.out];rfl,HB.out⟩
  ·have HX:Hid (pR ⟨ack,control,code,tag,rows,pointer⟩ (.slice a rows.length c)=.nilIface):=by unfold pR gD;simp only[h1,hc];exact rfl
   have hcb:(code == 0)=false:=by simpa using hc
   clear h1 h2 h3
   go_enter Tryz.func37,Tryz.ntmps37
   go_wp2_with fail
   go_ret
   exact⟨by rw[HX.out];rfl,HB.out⟩
set_option maxRecDepth 100000 in
set_option maxHeartbeats 2000000 in
theorem Ar (w:World):Calls Tryz.prog 22 #[.nilIface] w (fA w []):=by
 obtain⟨w1,hw1⟩:∃w1,w.alloc (Obj.cells #[.slice none 0 0] 28)=w1:=⟨_,rfl⟩
 have hb1:Below w.heap.size w w1:=by rw[←hw1];exact aO _ _
 have c1:w1.cell? ⟨w.heap.size,0,none⟩=some (.slice none 0 0):=by rw[←hw1];simp
 have f1:w1.frozen? ⟨w.heap.size,0,none⟩=false:=by rw[←hw1];simp
 have l1:w.heap.size<w1.heap.size:=by rw[←hw1];simp
 have jH:Hid (∀x,Below w.heap.size w (w1.setCell ⟨w.heap.size,0,none⟩ x)):=fun x=>hb1.setCell (p:=⟨w.heap.size,0,none⟩) (aS _) x
 clear hb1
 go_enter Tryz.func22,Tryz.ntmps22
 go_wp2_with fail
 exact bodyPost_ret (v:=.agg #[.slice none 0 0]) (by simp[results,Tryz.results22,go_sem,c1,l1]) rfl (jg _ _ _ _ (jH.out _))
end Go.Proofs.YtfdihjnlgdiioaaGreatDoor.dB
