import Derived.Test.YtdbmmdecclalgaaGreatDoorQbs
import Derived.Test.YtdbmmdecclalgaaGreatDoorQbp
import Derived.Test.YtdbmmdecclalgaaGreatDoorQbh
namespace Go.Proofs.YtdbmmdecclalgaaGreatDoor
open Go.Value renaming int → ae, slice → af, agg → aj
open Go.IntKind renaming i64 → au
open Go.Proofs.Tryz Go.ChangeShapes Go.WideShapes Go.ChangeAt Go.RowKit Go.Lib
set_option linter.unusedVariables false
set_option maxRecDepth 100000
set_option maxHeartbeats 16000000
theorem sV(la sa oa:Option Addr)(lc sc oc:Nat)(aO aR:List Fl)(ops:List Dp)(w:World)(hsc:sa=none->sc=0)(hl:aO.length<=1048576/\aR.length<=1048576/\ops.length<=1048576)(hs:D9 aO/\D9 aR/\∀o∈ops,Bp o)(h:xn w la sa oa aO aR ops) :
  Calls prog 5 #[aj #[af la aO.length lc,af sa aR.length sc,af oa ops.length oc]] w fun e w'=>Qu aO aR ops w e w':=by
 have HC:=hide h;have HM:=hide hs;have HSC:=hide hsc;clear h hs hsc;go_enter func5,ntmps5;go_upto_region 1 with fail
 refine bg (fun W1 hW1=>?_);obtain⟨X,hX⟩:∃X,X=w.heap.size:=⟨_,rfl⟩;obtain⟨C,hC⟩:∃C,C=w.heap.size+1:=⟨_,rfl⟩;have HP1:Hid (Pool [] w [[blk X [af la aO.length lc,af sa aR.length sc,af oa ops.length oc]],[blk C [af none 0 0,af none 0 0,af none 0 0]],[],[]] W1):=hide (by
  have p1:=(Pool.start w [[],[],[],[]] rfl).aY (i:=0) rfl [af la aO.length lc,af sa aR.length sc,af oa ops.length oc] 37;have s1:(w.alloc (.cells ([af la aO.length lc,af sa aR.length sc,af oa ops.length oc]:List Value).toArray 37)).heap.size=w.heap.size+1:=by simp
  have p2:=p1.aY (i:=1) rfl [af none 0 0,af none 0 0,af none 0 0] 31;rw[s1] at p2;rw[<-hC,<-hX] at p2;rw[hW1];exact p2)
 rw[<-hC,<-hX];clear hW1 hC hX;obtain⟨⟨z0,z1,z2⟩,_⟩:=HP1.cells3 (i:=0) rfl;go_wp2_with fail;refine(yZ la sa oa lc sc oc aO aR ops _ hl.1 hl.2.1 hl.2.2 HM.1 HM.2.1 HM.2.2 HSC.out (HC.below HP1.below).r1 (HC.below HP1.below).r2 (HC.below HP1.below).r3).mono ?_;rintro e w2⟨rfl,hb2⟩;have HP2:=hide (HP1.keep hb2);clear hb2 HP1 z0 z1 z2;cases hd:iZ ⟨aO,aR,ops⟩
 ·have HA:Hid (yN aO aR ops=(cZ,0,1)):=hide (by unfold yN;rw[hd];rfl);clear hd;obtain⟨⟨z0,z1,z2⟩,y0,y1,y2⟩:=HP2.cells3 (i:=1) rfl;have p1:=HP2.qM (i:=1) rfl (af none 0 0) (af none 0 0) (af none 0 0);obtain⟨⟨x0,x1,x2⟩,_⟩:=p1.cells3 (i:=1) rfl;have HB:Hid (Pool [] w [bC dH cZ] _):=hide ((((((p1.drop (i:=0) rfl).drop (i:=1) rfl).drop (i:=2) rfl).drop (i:=3) rfl).lq (i:=0) rfl).cast (by simp));clear p1;go_wp2_with fail;refine bodyPost_ret (v:=.tuple #[aj #[af none 0 0,af none 0 0,af none 0 0],ae au 0,ae au 1]) (by simp[results,results5,go_sem,x0,x1,x2]) rfl (by
   refine⟨dH,?_,?_,?_⟩<;>rw[HA.out]
   ·rfl
   ·exact ib
   ·exact HB.out)
 ·have HDk:=hide hd;clear hd;obtain⟨⟨z0,z1,z2⟩,_⟩:=HP2.cells3 (i:=0) rfl;go_wp2_with fail;refine(G6 la sa oa lc sc oc aO aR ops _ hl.1 HM.1 (HC.below HP2.below).r1).mono ?_;rintro e w3⟨p,L,n,g,m,b,hi,rfl,hp⟩;have HI:=hide hi;have HP3:Hid (Pool [] w [[blk X [af la aO.length lc,af sa aR.length sc,af oa ops.length oc]],[blk C [af none 0 0,af none 0 0,af none 0 0]],bC p L,[]] w3):=hide (HP2.uj (i:=2) rfl hp);clear hi hp HP2 z0 z1 z2;go_upto_region 4 with fail
  refine bg (fun W4 hW4=>?_);obtain⟨A,hA⟩:∃A,A=w3.heap.size:=⟨_,rfl⟩;have HP4:Hid (Pool [] w [[blk X [af la aO.length lc,af sa aR.length sc,af oa ops.length oc]],[blk C [af none 0 0,af none 0 0,af none 0 0]],bC p L,[blk A [af p.aa L.aI.length p.ca,af p.ha L.az.length p.ch,af p.sa L.aH.length p.cs,ae au n,ae au g,ae au m]]] W4):=hide (by
   have p1:=HP3.aY (i:=3) rfl [af p.aa L.aI.length p.ca,af p.ha L.az.length p.ch,af p.sa L.aH.length p.cs,ae au n,ae au g,ae au m] 48;rw[hA,hW4];exact p1)
  rw[<-hA];clear hW4 HP3 hA;cases b
  ·have HA:Hid (yN aO aR ops=(cZ,0,2)):=hide (by unfold yN;rw[if_pos HDk.out,(HI.no rfl).1]);obtain⟨⟨z0,z1,z2⟩,y0,y1,y2⟩:=HP4.cells3 (i:=1) rfl;have p1:=HP4.qM (i:=1) rfl (af none 0 0) (af none 0 0) (af none 0 0);obtain⟨⟨x0,x1,x2⟩,_⟩:=p1.cells3 (i:=1) rfl;have HB:Hid (Pool [] w [bC dH cZ] _):=hide ((((((p1.drop (i:=0) rfl).drop (i:=1) rfl).drop (i:=2) rfl).drop (i:=3) rfl).lq (i:=0) rfl).cast (by simp));clear p1;go_wp2_with fail;refine bodyPost_ret (v:=.tuple #[aj #[af none 0 0,af none 0 0,af none 0 0],ae au 0,ae au 2]) (by simp[results,results5,go_sem,x0,x1,x2]) rfl (by
    refine⟨dH,?_,?_,?_⟩<;>rw[HA.out]
    ·rfl
    ·exact ib
    ·exact HB.out)
  ·have HA:Hid (yN aO aR ops=(L,n,0)):=hide (by unfold yN;rw[if_pos HDk.out,HI.yes rfl]);obtain⟨⟨j0,j1,j2,j3,j4,j5⟩,_⟩:=HP4.dY (i:=3) rfl;obtain⟨⟨z0,z1,z2⟩,y0,y1,y2⟩:=HP4.cells3 (i:=1) rfl;have p1:=(HP4.qM (i:=1) rfl (af p.aa L.aI.length p.ca) (af p.ha L.az.length p.ch) (af p.sa L.aH.length p.cs)).drew;obtain⟨⟨x0,x1,x2⟩,_⟩:=p1.cells3 (i:=1) rfl;have HB:Hid (Pool [] w [bC p L] _):=hide ((((p1.drop (i:=0) rfl).drop (i:=1) rfl).drop (i:=3) rfl).cast (by simp));clear p1;go_upto_region 6 with fail
   go_region;go_wp2_with fail;refine bodyPost_ret (v:=.tuple #[aj #[af p.aa L.aI.length p.ca,af p.ha L.az.length p.ch,af p.sa L.aH.length p.cs],ae au n,ae au 0]) (by simp[results,results5,go_sem,x0,x1,x2]) rfl (by
    refine⟨p,?_,?_,?_⟩<;>rw[HA.out]
    ·exact HI.pl
    ·exact HB.out)
end Go.Proofs.YtdbmmdecclalgaaGreatDoor
