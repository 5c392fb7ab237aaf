package tests

import (
	"math"
	"math/rand"
	"slices"
	"testing"

	"loop.example/g00634/impl"
)

const (
	mostRouters = 4
	mostLinks   = 4
	mostRounds  = 60
)

var (
	edgeRounds  = []int64{0, 1, 2, 59, 60}
	wrongRounds = []int64{-1, -60, 61, 62, 256, 1 << 32, 1<<32 + 1, math.MaxInt64, math.MinInt64}
	wrongLinks  = []int64{-1, -2, -4, 4, 5, 256, 1 << 32, 1<<32 + 1, math.MaxInt64, math.MinInt64}
	nobodys     = impl.Net{Addr: 0xC0000000, Len: 4}
)

// meshEnd is an Iface of a router.
type meshEnd struct {
	router int64
	iface  int64
}

// wideMesh has four routers, the first and the last one of three Ifaces, the others of two, all of unlike Costs and Up: just those of five Links, each of a Net of its own. So many of the Links are there; it is right with up to four.
func wideMesh(links int) impl.Mesh {
	return layMesh([][2]int64{{0, 1}, {2, 3}, {0, 2}, {1, 3}, {0, 3}}, mostRouters, links)
}

// layMesh has a Link for each pair of routers; the Link i is of 10.192.i.0/24. So many of the Links are told.
func layMesh(pairs [][2]int64, many int, links int) impl.Mesh {
	ifaces := make([][]impl.Iface, many)
	cost := int64(0)
	put := func(router int64, f impl.Iface) int64 {
		cost++
		f.Cost = cost
		ifaces[router] = append(ifaces[router], f)
		return int64(len(ifaces[router])) - 1
	}
	var m impl.Mesh
	for i, x := range pairs {
		base := 0x0AC00000 + int64(i)*256
		n := impl.Net{Addr: base, Len: 24}
		a := put(x[0], impl.Iface{Addr: base + 1, Net: n})
		b := put(x[1], impl.Iface{Addr: base + 2, Net: n})
		m.Links = append(m.Links, impl.Link{A: x[0], AI: a, B: x[1], BI: b})
	}
	for _, l := range ifaces {
		m.Routers = append(m.Routers, plainNew(l).Inst)
	}
	m.Links = m.Links[:links]
	return m
}

// oneNet has so many routers, each with an Iface 0, all of one Net, of unlike Addrs and Costs, and those Links, of which each has the Iface 0 on either side.
func oneNet(many int, pairs ...[2]int64) impl.Mesh {
	n := impl.Net{Addr: 0x0A000000, Len: 8}
	var m impl.Mesh
	for i := range int64(many) {
		m.Routers = append(m.Routers, plainNew([]impl.Iface{{Addr: n.Addr + 1 + i, Net: n, Cost: 1 + i%15}}).Inst)
	}
	for _, x := range pairs {
		m.Links = append(m.Links, impl.Link{A: x[0], B: x[1]})
	}
	return m
}

// copyMesh shares no list with what it is given.
func copyMesh(m impl.Mesh) impl.Mesh {
	m.Routers = slices.Clone(m.Routers)
	for i := range m.Routers {
		x := &m.Routers[i]
		x.Ifaces = slices.Clone(x.Ifaces)
		x.Rib.Routes = slices.Clone(x.Rib.Routes)
	}
	m.Links = slices.Clone(m.Links)
	return m
}

// withMesh is the same mesh, but for what is put there; what it is given stays as it is.
func withMesh(m impl.Mesh, put func(*impl.Mesh)) impl.Mesh {
	m = copyMesh(m)
	put(&m)
	return m
}

// turnedAt has those Ifaces up or down; their Routes stay as they are.
func turnedAt(m impl.Mesh, up bool, ends ...meshEnd) impl.Mesh {
	return withMesh(m, func(m *impl.Mesh) {
		for _, e := range ends {
			m.Routers[e.router].Ifaces[e.iface].Up = up
		}
	})
}

func endsA(x impl.Link) meshEnd {
	return meshEnd{x.A, x.AI}
}

func endsB(x impl.Link) meshEnd {
	return meshEnd{x.B, x.BI}
}

// meshOf is what is told of a mesh.
func meshOf(m impl.Mesh) impl.MeshOut {
	return impl.MeshOut{Mesh: m}
}

// noMesh is a code, and nothing beside it.
func noMesh(code int64) impl.MeshOut {
	return impl.MeshOut{Code: code}
}

// sameMesh takes an empty list and none as the same.
func sameMesh(a impl.Mesh, b impl.Mesh) bool {
	return slices.EqualFunc(a.Routers, b.Routers, sameInst) && slices.Equal(a.Links, b.Links)
}

func holdMesh(t *testing.T, what string, got impl.MeshOut, want impl.MeshOut) {
	t.Helper()
	if got.Code != want.Code || !sameMesh(got.Mesh, want.Mesh) {
		t.Errorf("%s:\n got %+v\nwant %+v", what, got, want)
	}
	if got.Code == impl.OK && !plainMesh(got.Mesh) {
		t.Errorf("%s: what is told is not right: %+v", what, got.Mesh)
	}
}

func plainIsAt(m impl.Mesh, e meshEnd) bool {
	return isOneOf(e.router, 0, int64(len(m.Routers))-1) && plainHas(m.Routers[e.router], e.iface)
}

func plainIfaceAt(m impl.Mesh, e meshEnd) impl.Iface {
	return m.Routers[e.router].Ifaces[e.iface]
}

// plainMesh counts how many Links each Iface is of.
func plainMesh(m impl.Mesh) bool {
	if !isOneOf(int64(len(m.Routers)), 1, 4) || len(m.Links) > 4 {
		return false
	}
	for _, r := range m.Routers {
		if !plainInst(r) {
			return false
		}
	}
	many := map[meshEnd]int{}
	for _, x := range m.Links {
		a, b := endsA(x), endsB(x)
		if !plainIsAt(m, a) || !plainIsAt(m, b) || x.A == x.B {
			return false
		}
		if netCmp(plainIfaceAt(m, a).Net, plainIfaceAt(m, b).Net) != 0 {
			return false
		}
		many[a]++
		many[b]++
	}
	for _, n := range many {
		if n > 1 {
			return false
		}
	}
	return true
}

// plainMeshNew lays router by router: each looks of which Links it is.
func plainMeshNew(many int64, ring bool, costs []int64) impl.MeshOut {
	if len(costs) > impl.MaxList {
		return noMesh(impl.ErrSize)
	}
	fits := many == 2 && !ring || many == 3 || many == 4
	if !fits || len(costs) != int(many) || slices.ContainsFunc(costs, func(c int64) bool { return !isOneOf(c, 1, 15) }) {
		return noMesh(impl.ErrForm)
	}
	m := impl.Mesh{Links: make([]impl.Link, many-1)}
	if ring {
		m.Links = make([]impl.Link, many)
	}
	for r := range many {
		base := 0x0A000000 + r*65536
		l := []impl.Iface{{Addr: base + 1, Net: impl.Net{Addr: base, Len: 16}, Cost: costs[r]}}
		for i := range int64(len(m.Links)) {
			base := 0x0A640000 + i*256
			f := impl.Iface{Addr: base + 1, Net: impl.Net{Addr: base, Len: 24}, Cost: costs[r]}
			switch r {
			case i:
				m.Links[i].A, m.Links[i].AI = r, int64(len(l))
				l = append(l, f)
			case (i + 1) % many:
				m.Links[i].B, m.Links[i].BI = r, int64(len(l))
				f.Addr = base + 2
				l = append(l, f)
			}
		}
		m.Routers = append(m.Routers, plainNew(l).Inst)
	}
	return meshOf(m)
}

// plainRound takes a right one.
func plainRound(m impl.Mesh) impl.Mesh {
	m.Routers = slices.Clone(m.Routers)
	for i, r := range m.Routers {
		if out := plainStep(r); out.Code == impl.OK {
			m.Routers[i] = out.Inst
		}
	}
	behind := slices.Clone(m.Routers)
	hear := func(from meshEnd, to meshEnd) {
		said := tell(plainOffer(behind[from.router], from.iface, true)...)
		addr := behind[from.router].Ifaces[from.iface].Addr
		if out := plainHear(m.Routers[to.router], to.iface, addr, said); out.Code == impl.OK {
			m.Routers[to.router] = out.Inst
		}
	}
	for _, x := range m.Links {
		hear(endsA(x), endsB(x))
		hear(endsB(x), endsA(x))
	}
	return m
}

func plainRounds(m impl.Mesh, rounds int64) impl.MeshOut {
	if !plainMesh(m) || !isOneOf(rounds, 0, 60) {
		return noMesh(impl.ErrForm)
	}
	for range rounds {
		m = plainRound(m)
	}
	return meshOf(m)
}

// plainTurnLink is MeshCut, if it turns down, else MeshJoin.
func plainTurnLink(m impl.Mesh, link int64, up bool) impl.MeshOut {
	if !plainMesh(m) {
		return noMesh(impl.ErrForm)
	}
	if !isOneOf(link, 0, int64(len(m.Links))-1) {
		return noMesh(impl.ErrNone)
	}
	left := 0
	m.Routers = slices.Clone(m.Routers)
	for _, e := range []meshEnd{endsA(m.Links[link]), endsB(m.Links[link])} {
		if plainIfaceAt(m, e).Up == up {
			continue
		}
		left++
		out := plainDown(m.Routers[e.router], e.iface)
		if up {
			out = plainUp(m.Routers[e.router], e.iface)
		}
		if out.Code == impl.OK {
			m.Routers[e.router] = out.Inst
		}
	}
	if left == 0 {
		return noMesh(impl.ErrState)
	}
	return meshOf(m)
}

func plainMetricTo(m impl.Mesh, router int64, n impl.Net) int64 {
	if !plainMesh(m) || !isOneOf(router, 0, int64(len(m.Routers))-1) {
		return 0
	}
	for _, r := range m.Routers[router].Rib.Routes {
		if r.Net == n {
			return r.Metric
		}
	}
	return 16
}

// plainWays walks all ways that come to no router twice, and tells the least sum, however great.
func plainWays(m impl.Mesh, router int64, n impl.Net, been []int64) int64 {
	least := int64(math.MaxInt64)
	for _, f := range m.Routers[router].Ifaces {
		if f.Up && f.Net == n {
			return 1
		}
	}
	for _, x := range m.Links {
		for _, way := range [][2]meshEnd{{endsA(x), endsB(x)}, {endsB(x), endsA(x)}} {
			near, far := plainIfaceAt(m, way[0]), plainIfaceAt(m, way[1])
			if way[0].router != router || !near.Up || !far.Up || slices.Contains(been, way[1].router) {
				continue
			}
			behind := plainWays(m, way[1].router, n, append(slices.Clone(been), router))
			if behind != math.MaxInt64 {
				least = min(least, behind+near.Cost)
			}
		}
	}
	return least
}

func plainDistance(m impl.Mesh, router int64, n impl.Net) int64 {
	if !plainMesh(m) || !isOneOf(router, 0, int64(len(m.Routers))-1) || !plainNetRight(n) {
		return 0
	}
	return min(16, plainWays(m, router, n, nil))
}

// netsOfMesh are those of its Ifaces, each once, and one that nobody has.
func netsOfMesh(m impl.Mesh) []impl.Net {
	l := []impl.Net{nobodys}
	for _, r := range m.Routers {
		for _, f := range r.Ifaces {
			if !slices.Contains(l, f.Net) {
				l = append(l, f.Net)
			}
		}
	}
	return l
}

// holdMetrics asks how far each of these routers thinks it is, and how far it is.
func holdMetrics(t *testing.T, what string, m impl.Mesh, routers []int64, nets []impl.Net) {
	t.Helper()
	for _, router := range routers {
		for _, n := range nets {
			if got, want := impl.MetricTo(m, router, n), plainMetricTo(m, router, n); got != want {
				t.Errorf("%s: MetricTo(%+v, %d, %+v): got %d, want %d", what, m, router, n, got, want)
			}
			if got, want := impl.Distance(m, router, n), plainDistance(m, router, n); got != want {
				t.Errorf("%s: Distance(%+v, %d, %+v): got %d, want %d", what, m, router, n, got, want)
			}
		}
	}
}

// holdMeshes asks each call what the plain ones tell.
func holdMeshes(t *testing.T, what string, m impl.Mesh, rounds int64, link int64) {
	t.Helper()
	if got := impl.MeshRight(m); got != plainMesh(m) {
		t.Errorf("%s: MeshRight(%+v): got %v", what, m, got)
	}
	holdMesh(t, what+": MeshRound", impl.MeshRound(m, rounds), plainRounds(m, rounds))
	holdMesh(t, what+": MeshCut", impl.MeshCut(m, link), plainTurnLink(m, link, false))
	holdMesh(t, what+": MeshJoin", impl.MeshJoin(m, link), plainTurnLink(m, link, true))
	holdMetrics(t, what, m, []int64{-1, 0, 1, 2, 3, 4}, append(netsOfMesh(m), impl.Net{Addr: 1, Len: 0}))
}

// rightMeshes are of all edges that may be.
func rightMeshes() []impl.Mesh {
	out := []impl.Mesh{
		{Routers: []impl.Inst{{}}},
		{Routers: []impl.Inst{{}}, Links: []impl.Link{}},
		{Routers: []impl.Inst{{}, {}, {}, {}}},
		oneNet(1), oneNet(2), oneNet(3), oneNet(4),
		oneNet(2, [2]int64{0, 1}), oneNet(2, [2]int64{1, 0}), oneNet(4, [2]int64{0, 3}), oneNet(4, [2]int64{0, 1}, [2]int64{2, 3}), oneNet(4, [2]int64{3, 0}, [2]int64{1, 2}),
		layMesh([][2]int64{{0, 1}, {0, 1}, {1, 0}}, 2, 3),
		layMesh([][2]int64{{0, 3}, {3, 1}, {1, 2}, {2, 0}}, 4, 4),
	}
	for links := range mostLinks + 1 {
		out = append(out, wideMesh(links))
	}
	for many := range mostRouters + 1 {
		if many > 0 {
			out = append(out, impl.Mesh{Routers: slices.Repeat([]impl.Inst{someInst(3)}, many)})
		}
	}
	for at := range mostLinks {
		m := wideMesh(4)
		x := m.Links[at]
		out = append(out,
			turnedAt(m, false, endsA(x)), turnedAt(m, false, endsB(x)), turnedAt(m, false, endsA(x), endsB(x)),
			withMesh(m, func(m *impl.Mesh) { m.Links[at] = impl.Link{A: x.B, AI: x.BI, B: x.A, BI: x.AI} }),
			withMesh(m, func(m *impl.Mesh) { m.Links = slices.Delete(m.Links, at, at+1) }),
			withMesh(m, func(m *impl.Mesh) {
				m.Routers[x.A].Ifaces[x.AI].Addr = m.Routers[x.B].Ifaces[x.BI].Addr
			}))
		for _, now := range edgeSteps {
			out = append(out, withMesh(m, func(m *impl.Mesh) { m.Routers[at].Now = now }))
		}
		for size := range mostRoutes + 1 {
			out = append(out, withMesh(m, func(m *impl.Mesh) { m.Routers[at].Rib = someRib(size) }))
		}
	}
	return out
}

// wrongMeshes have each one fault.
func wrongMeshes() []impl.Mesh {
	out := []impl.Mesh{
		{}, {Routers: []impl.Inst{}}, {Links: wideMesh(1).Links},
		oneNet(5), oneNet(6), oneNet(256), oneNet(257), oneNet(impl.MaxList), oneNet(impl.MaxList + 1),
		oneNet(5, [2]int64{0, 1}), oneNet(5, [2]int64{3, 4}),
		oneNet(1, [2]int64{0, 0}), oneNet(2, [2]int64{0, 0}), oneNet(2, [2]int64{1, 1}), oneNet(1, [2]int64{0, 1}), oneNet(1, [2]int64{1, 0}),
		wideMesh(5),
		// An Iface of two Links: on A's side, on B's, on both, and the same Link twice or turned round.
		oneNet(3, [2]int64{0, 1}, [2]int64{0, 2}), oneNet(3, [2]int64{1, 0}, [2]int64{2, 0}),
		oneNet(3, [2]int64{0, 1}, [2]int64{2, 0}), oneNet(3, [2]int64{0, 1}, [2]int64{1, 2}),
		oneNet(2, [2]int64{0, 1}, [2]int64{0, 1}), oneNet(2, [2]int64{0, 1}, [2]int64{1, 0}),
		oneNet(4, [2]int64{0, 1}, [2]int64{2, 3}, [2]int64{3, 0}), oneNet(4, [2]int64{0, 1}, [2]int64{2, 3}, [2]int64{0, 3}),
		{Routers: []impl.Inst{{}, {}}, Links: []impl.Link{{A: 0, B: 1}}},
	}
	for _, many := range []int{6, 256, 257, impl.MaxList, impl.MaxList + 1} {
		out = append(out, withMesh(wideMesh(5), func(m *impl.Mesh) { m.Links = slices.Repeat(m.Links, many/5+1)[:many] }))
	}
	for at := range mostLinks {
		x := wideMesh(4).Links[at]
		bad := func(put func(*impl.Link)) {
			out = append(out, withMesh(wideMesh(4), func(m *impl.Mesh) { put(&m.Links[at]) }))
		}
		// Each other router has another Net there, or no such Iface; each other Iface is of another Net.
		for _, n := range append([]int64{0, 1, 2, 3}, wrongLinks...) {
			if n != x.A {
				bad(func(x *impl.Link) { x.A = n })
			}
			if n != x.B {
				bad(func(x *impl.Link) { x.B = n })
			}
			if n != x.AI {
				bad(func(x *impl.Link) { x.AI = n })
			}
			if n != x.BI {
				bad(func(x *impl.Link) { x.BI = n })
			}
		}
		bad(func(x *impl.Link) { x.A, x.AI = x.B, x.BI })
		bad(func(x *impl.Link) { x.B, x.BI = x.A, x.AI })
		bad(func(x *impl.Link) { *x = impl.Link{} })
		for _, r := range wrongInsts() {
			out = append(out, withMesh(wideMesh(0), func(m *impl.Mesh) { m.Routers[at] = r }))
		}
		// Nets that are nearly alike.
		for _, n := range []impl.Net{{Addr: 0x0AC00000 + int64(at)*256, Len: 25}, {Addr: 0x0AC00000 + int64(at)*256, Len: 26}} {
			out = append(out, withMesh(wideMesh(4), func(m *impl.Mesh) { m.Routers[x.A].Ifaces[x.AI].Net = n }))
			out = append(out, withMesh(wideMesh(4), func(m *impl.Mesh) { m.Routers[x.B].Ifaces[x.BI].Net = n }))
		}
	}
	return out
}

func TestMeshRight(t *testing.T) {
	for _, m := range rightMeshes() {
		if !plainMesh(m) {
			t.Fatalf("the test asks for a right one, but it is not: %+v", m)
		}
		if !impl.MeshRight(m) {
			t.Errorf("MeshRight(%+v): got false", m)
		}
	}
	for _, m := range wrongMeshes() {
		if plainMesh(m) {
			t.Fatalf("the test asks for no right one, but it is: %+v", m)
		}
		if impl.MeshRight(m) {
			t.Errorf("MeshRight(%+v): got true", m)
		}
	}
}

// TestMeshesThatAreNotRight: no call takes one, whatever else is handed in, and whether there is such a Link or router or not.
func TestMeshesThatAreNotRight(t *testing.T) {
	nets := []impl.Net{{Addr: 0x0AC00000, Len: 24}, {Addr: 0x0A000000, Len: 8}, nobodys, {Addr: 1, Len: 0}}
	for _, m := range wrongMeshes() {
		for _, rounds := range append([]int64{0, 1, 60}, wrongRounds...) {
			holdMesh(t, "MeshRound", impl.MeshRound(m, rounds), noMesh(impl.ErrForm))
		}
		for _, link := range append([]int64{0, 1, 2, 3}, wrongLinks...) {
			holdMesh(t, "MeshCut", impl.MeshCut(m, link), noMesh(impl.ErrForm))
			holdMesh(t, "MeshJoin", impl.MeshJoin(m, link), noMesh(impl.ErrForm))
		}
		for _, router := range []int64{0, 1, 3, -1, 4, 5} {
			for _, n := range nets {
				if a, b := impl.MetricTo(m, router, n), impl.Distance(m, router, n); a != 0 || b != 0 {
					t.Errorf("MetricTo and Distance(%+v, %d, %+v): got %d and %d", m, router, n, a, b)
				}
			}
		}
	}
}

func TestMeshesThatAreRight(t *testing.T) {
	for i, m := range rightMeshes() {
		for _, link := range append([]int64{0, 1, 2, 3}, wrongLinks...) {
			holdMesh(t, "MeshCut", impl.MeshCut(m, link), plainTurnLink(m, link, false))
			holdMesh(t, "MeshJoin", impl.MeshJoin(m, link), plainTurnLink(m, link, true))
		}
		holdMeshes(t, "right", m, int64(i%4), int64(i%5))
	}
}

// atHome and atLink are Ifaces as MeshNew lays them, all Up.
func atHome(r int64, cost int64) impl.Iface {
	base := 0x0A000000 + r<<16
	return impl.Iface{Addr: base + 1, Net: impl.Net{Addr: base, Len: 16}, Cost: cost, Up: true}
}

func atLink(i int64, last int64, cost int64) impl.Iface {
	base := 0x0A640000 + i<<8
	return impl.Iface{Addr: base + last, Net: impl.Net{Addr: base, Len: 24}, Cost: cost, Up: true}
}

// newRouter has its own Nets, all Changed; they rise from Iface to Iface.
func newRouter(l ...impl.Iface) impl.Inst {
	r := impl.Inst{Ifaces: l}
	for i, f := range l {
		r.Rib.Routes = append(r.Rib.Routes, impl.Route{Net: f.Net, Metric: 1, Iface: int64(i), Changed: true})
	}
	return r
}

func TestMeshNewOneByOne(t *testing.T) {
	for _, x := range []struct {
		ring  bool
		costs []int64
		want  impl.Mesh
	}{
		{false, []int64{2, 3}, impl.Mesh{
			Routers: []impl.Inst{
				newRouter(atHome(0, 2), atLink(0, 1, 2)),
				newRouter(atHome(1, 3), atLink(0, 2, 3)),
			},
			Links: []impl.Link{{A: 0, AI: 1, B: 1, BI: 1}},
		}},
		{false, []int64{1, 15, 1}, impl.Mesh{
			Routers: []impl.Inst{
				newRouter(atHome(0, 1), atLink(0, 1, 1)),
				newRouter(atHome(1, 15), atLink(0, 2, 15), atLink(1, 1, 15)),
				newRouter(atHome(2, 1), atLink(1, 2, 1)),
			},
			Links: []impl.Link{{A: 0, AI: 1, B: 1, BI: 1}, {A: 1, AI: 2, B: 2, BI: 1}},
		}},
		{true, []int64{1, 2, 3}, impl.Mesh{
			Routers: []impl.Inst{
				newRouter(atHome(0, 1), atLink(0, 1, 1), atLink(2, 2, 1)),
				newRouter(atHome(1, 2), atLink(0, 2, 2), atLink(1, 1, 2)),
				newRouter(atHome(2, 3), atLink(1, 2, 3), atLink(2, 1, 3)),
			},
			Links: []impl.Link{{A: 0, AI: 1, B: 1, BI: 1}, {A: 1, AI: 2, B: 2, BI: 1}, {A: 2, AI: 2, B: 0, BI: 2}},
		}},
		{false, []int64{4, 3, 2, 1}, impl.Mesh{
			Routers: []impl.Inst{
				newRouter(atHome(0, 4), atLink(0, 1, 4)),
				newRouter(atHome(1, 3), atLink(0, 2, 3), atLink(1, 1, 3)),
				newRouter(atHome(2, 2), atLink(1, 2, 2), atLink(2, 1, 2)),
				newRouter(atHome(3, 1), atLink(2, 2, 1)),
			},
			Links: []impl.Link{{A: 0, AI: 1, B: 1, BI: 1}, {A: 1, AI: 2, B: 2, BI: 1}, {A: 2, AI: 2, B: 3, BI: 1}},
		}},
		{true, []int64{15, 1, 7, 8}, impl.Mesh{
			Routers: []impl.Inst{
				newRouter(atHome(0, 15), atLink(0, 1, 15), atLink(3, 2, 15)),
				newRouter(atHome(1, 1), atLink(0, 2, 1), atLink(1, 1, 1)),
				newRouter(atHome(2, 7), atLink(1, 2, 7), atLink(2, 1, 7)),
				newRouter(atHome(3, 8), atLink(2, 2, 8), atLink(3, 1, 8)),
			},
			Links: []impl.Link{{A: 0, AI: 1, B: 1, BI: 1}, {A: 1, AI: 2, B: 2, BI: 1}, {A: 2, AI: 2, B: 3, BI: 1}, {A: 3, AI: 2, B: 0, BI: 2}},
		}},
	} {
		costs := slices.Clone(x.costs)
		holdMesh(t, "new", impl.MeshNew(int64(len(costs)), x.ring, costs), meshOf(x.want))
		if !slices.Equal(costs, x.costs) {
			t.Errorf("MeshNew changes its costs: %v", costs)
		}
	}
}

func TestMeshNewFaults(t *testing.T) {
	ones := func(many int) []int64 { return slices.Repeat([]int64{1}, many) }
	for _, ring := range []bool{false, true} {
		for _, many := range []int64{-1, 0, 1, 5, 6, 256, 399, 400} {
			holdMesh(t, "so many", impl.MeshNew(many, ring, ones(max(0, int(many)))), noMesh(impl.ErrForm))
			holdMesh(t, "so many", impl.MeshNew(many, ring, ones(3)), noMesh(impl.ErrForm))
		}
		for _, many := range []int64{1 << 32, 1<<32 + 2, math.MaxInt64, math.MinInt64} {
			holdMesh(t, "far too many", impl.MeshNew(many, ring, ones(2)), noMesh(impl.ErrForm))
		}
		for _, many := range []int64{-1, 0, 1, 2, 3, 4, 5, 401, 402} {
			for _, size := range []int{impl.MaxList + 1, impl.MaxList + 2, 10000} {
				holdMesh(t, "far too many costs", impl.MeshNew(many, ring, ones(size)), noMesh(impl.ErrSize))
				holdMesh(t, "far too many costs of 0", impl.MeshNew(many, ring, make([]int64, size)), noMesh(impl.ErrSize))
			}
		}
		for _, many := range []int64{2, 3, 4} {
			for _, size := range []int64{0, 1, many - 1, many + 1, 256 + many, impl.MaxList - 1, impl.MaxList} {
				holdMesh(t, "another many of costs", impl.MeshNew(many, ring, ones(int(size))), noMesh(impl.ErrForm))
			}
			holdMesh(t, "no costs", impl.MeshNew(many, ring, nil), noMesh(impl.ErrForm))
			for at := range many {
				for _, cost := range append(wrongCosts, edgeCosts...) {
					costs := ones(int(many))
					costs[at] = cost
					holdMesh(t, "a cost", impl.MeshNew(many, ring, costs), plainMeshNew(many, ring, costs))
				}
			}
		}
	}
	holdMesh(t, "a ring of two", impl.MeshNew(2, true, []int64{1, 1}), noMesh(impl.ErrForm))
	if got := impl.MeshNew(3, true, []int64{1, 1, 1}); got.Code != impl.OK || len(got.Mesh.Links) != 3 {
		t.Errorf("a ring of three: got %+v", got)
	}
}

// TestMeshNewAll asks for all of a few costs, as many as may be and more or less.
func TestMeshNewAll(t *testing.T) {
	of := []int64{0, 1, 15, 16}
	right := 0
	for size := range 6 {
		for n := range 1 << (2 * size) {
			var costs []int64
			for at := range size {
				costs = append(costs, of[n>>(2*at)&3])
			}
			for many := range int64(6) {
				for _, ring := range []bool{false, true} {
					got := impl.MeshNew(many, ring, costs)
					holdMesh(t, "new", got, plainMeshNew(many, ring, costs))
					if got.Code == impl.OK {
						right++
					}
				}
			}
		}
	}
	if want := 4 + 8*2 + 16*2; right != want {
		t.Errorf("%d of them were right, want %d", right, want)
	}
}

func TestMeshRoundOneByOne(t *testing.T) {
	first := impl.MeshNew(2, false, []int64{2, 3}).Mesh
	for _, rounds := range edgeRounds {
		want := copyMesh(first)
		for i := range want.Routers {
			want.Routers[i].Now = rounds
		}
		if rounds > 0 {
			got := func(of int64, metric int64, next int64) impl.Route {
				return impl.Route{Net: impl.Net{Addr: 0x0A000000 + of<<16, Len: 16}, Metric: metric, Next: 0x0A640000 + next, Iface: 1, Until: rounds + 6, Changed: true}
			}
			want.Routers[0].Rib = plainWith(want.Routers[0].Rib, got(1, 3, 2))
			want.Routers[1].Rib = plainWith(want.Routers[1].Rib, got(0, 4, 1))
		}
		holdMesh(t, "two of them", impl.MeshRound(first, rounds), meshOf(want))
	}
	lone := impl.Mesh{Routers: []impl.Inst{someInst(2)}}
	holdMesh(t, "a lone one", impl.MeshRound(lone, 1), meshOf(impl.Mesh{Routers: []impl.Inst{impl.Step(someInst(2)).Inst}}))
	holdMesh(t, "none of anything", impl.MeshRound(impl.Mesh{Routers: []impl.Inst{{}}}, 60), meshOf(impl.Mesh{Routers: []impl.Inst{{Now: 60}}}))
}

func TestMeshRoundLimits(t *testing.T) {
	for _, m := range []impl.Mesh{wideMesh(4), oneNet(1), impl.MeshNew(4, true, []int64{1, 2, 3, 4}).Mesh} {
		for _, rounds := range edgeRounds {
			holdMesh(t, "so many rounds", impl.MeshRound(m, rounds), plainRounds(m, rounds))
		}
		for _, rounds := range wrongRounds {
			holdMesh(t, "no such many rounds", impl.MeshRound(m, rounds), noMesh(impl.ErrForm))
		}
	}
}

// TestMeshRoundGoesOneLink: what is told goes along one Link a round, whichever way round the Links are.
func TestMeshRoundGoesOneLink(t *testing.T) {
	row := impl.MeshNew(4, false, []int64{1, 1, 1, 1}).Mesh
	back := withMesh(row, func(m *impl.Mesh) { slices.Reverse(m.Links) })
	swapped := withMesh(back, func(m *impl.Mesh) {
		for i, x := range m.Links {
			m.Links[i] = impl.Link{A: x.B, AI: x.BI, B: x.A, BI: x.AI}
		}
	})
	for _, m := range []impl.Mesh{row, back, swapped} {
		for rounds := range int64(5) {
			got := impl.MeshRound(m, rounds).Mesh
			for a := range int64(4) {
				for b := range int64(4) {
					steps := max(a-b, b-a)
					want := steps + 1
					if steps > rounds {
						want = 16
					}
					if metric := impl.MetricTo(got, a, atHome(b, 1).Net); metric != want {
						t.Errorf("%d rounds, from %d to %d: got %d, want %d", rounds, a, b, metric, want)
					}
				}
			}
		}
	}
}

// TestMeshRoundLinkByLink: of two that tell a router the same, or for whom there is one room, the first Link's has it.
func TestMeshRoundLinkByLink(t *testing.T) {
	n := nobodys
	for _, pairs := range [][][2]int64{{{0, 1}, {0, 2}}, {{1, 0}, {2, 0}}, {{0, 1}, {2, 0}}, {{1, 0}, {0, 2}}} {
		m := withMesh(layMesh(pairs, 3, 2), func(m *impl.Mesh) {
			for r := range m.Routers {
				for i := range m.Routers[r].Ifaces {
					m.Routers[r].Ifaces[i].Cost = 4
				}
			}
			for _, r := range []int{1, 2} {
				m.Routers[r].Rib = plainWith(m.Routers[r].Rib, ownRoute(n))
			}
		})
		back := withMesh(m, func(m *impl.Mesh) { slices.Reverse(m.Links) })
		for first, m := range []impl.Mesh{m, back} {
			got := impl.MeshRound(m, 1)
			holdMesh(t, "two alike", got, plainRounds(m, 1))
			if x := impl.RibFind(got.Mesh.Routers[0].Rib, n); x.Iface != int64(first) || x.Metric != 5 {
				t.Errorf("the Link of the Iface %d is the first one: got %+v", first, x)
			}
			one := withMesh(m, func(m *impl.Mesh) {
				m.Routers[0].Rib = impl.Rib{Routes: m.Routers[0].Rib.Routes[:1]}
				for _, x := range netsOfAll()[:6] {
					m.Routers[0].Rib = plainWith(m.Routers[0].Rib, ownRoute(x))
				}
				m.Routers[1].Rib = plainWith(impl.Rib{}, ownRoute(netsOfAll()[6]))
				m.Routers[2].Rib = plainWith(impl.Rib{}, ownRoute(netsOfAll()[7]))
			})
			got = impl.MeshRound(one, 1)
			holdMesh(t, "one room", got, plainRounds(one, 1))
			for i := range 2 {
				there := impl.RibFind(got.Mesh.Routers[0].Rib, netsOfAll()[6+i]) != (impl.Route{})
				if there != (i == first) {
					t.Errorf("the Link of the Iface %d is the first one: got %+v", first, got.Mesh.Routers[0].Rib)
				}
			}
		}
	}
}

// TestMeshRoundBehindAllSteps: what is due at a step is told as out of reach in the same round, by the first router as by the last one.
func TestMeshRoundBehindAllSteps(t *testing.T) {
	n := nobodys
	for _, pairs := range [][][2]int64{{{0, 1}}, {{1, 0}}} {
		for from := range 2 {
			to := 1 - from
			m := layMesh(pairs, 2, 1)
			m.Routers[from].Rib = plainWith(m.Routers[from].Rib, impl.Route{Net: n, Metric: 2, Next: 9, Iface: 2, Until: 1})
			next := m.Routers[from].Ifaces[0].Addr
			m.Routers[to].Rib = plainWith(m.Routers[to].Rib, impl.Route{Net: n, Metric: 5, Next: next, Iface: 0, Until: 6})
			got := impl.MeshRound(m, 1)
			holdMesh(t, "due", got, plainRounds(m, 1))
			want := impl.Route{Net: n, Metric: 16, Next: next, Iface: 0, Bin: 5, Changed: true}
			if x := impl.RibFind(got.Mesh.Routers[to].Rib, n); x != want {
				t.Errorf("from %d: got %+v, want %+v", from, x, want)
			}
		}
	}
}

// TestMeshRoundEitherEnd: A's is heard by B ahead of B's by A, but as both were said ahead of that, it makes no difference which end is A.
func TestMeshRoundEitherEnd(t *testing.T) {
	r := rand.New(rand.NewSource(99))
	swapped := func(m impl.Mesh, bits int) impl.Mesh {
		return withMesh(m, func(m *impl.Mesh) {
			for i, x := range m.Links {
				if bits>>i&1 == 1 {
					m.Links[i] = impl.Link{A: x.B, AI: x.BI, B: x.A, BI: x.AI}
				}
			}
		})
	}
	for range 100 {
		m, rounds := anyMesh(r), r.Int63n(6)
		want := impl.MeshRound(m, rounds).Mesh
		for bits := range 1 << len(m.Links) {
			holdMesh(t, "turned round", impl.MeshRound(swapped(m, bits), rounds), meshOf(swapped(want, bits)))
		}
	}
}

// TestMeshRoundOneSideDown: nothing goes along such a Link, either way; what came along it ages.
func TestMeshRoundOneSideDown(t *testing.T) {
	first := impl.MeshNew(2, false, []int64{1, 1}).Mesh
	x := first.Links[0]
	for _, l := range [][]meshEnd{{endsA(x)}, {endsB(x)}, {endsA(x), endsB(x)}} {
		m := turnedAt(first, false, l...)
		got := impl.MeshRound(m, 3)
		holdMesh(t, "down", got, plainRounds(m, 3))
		want := withMesh(m, func(m *impl.Mesh) { m.Routers[0].Now, m.Routers[1].Now = 3, 3 })
		holdMesh(t, "nothing is heard", got, meshOf(want))
		m = turnedAt(impl.MeshRound(first, 4).Mesh, false, l...)
		for rounds := range int64(12) {
			got := impl.MeshRound(m, rounds)
			holdMesh(t, "aged", got, plainRounds(m, rounds))
			for r := range int64(2) {
				n, want := atHome(1-r, 1).Net, int64(2)
				if rounds >= 6 {
					want = 16
				}
				if metric := impl.MetricTo(got.Mesh, r, n); metric != want {
					t.Errorf("%d rounds behind: the router %d: got %d, want %d", rounds, r, metric, want)
				}
				if there := impl.RibFind(got.Mesh.Routers[r].Rib, n) != (impl.Route{}); there != (rounds < 10) {
					t.Errorf("%d rounds behind: the router %d: got %+v", rounds, r, got.Mesh.Routers[r].Rib)
				}
			}
		}
	}
}

// TestMeshRoundFullTable: what has no room is nothing to who hears it; what is there already is heard.
func TestMeshRoundFullTable(t *testing.T) {
	m := layMesh([][2]int64{{0, 1}}, 2, 1)
	l := netsOfAll()
	m.Routers[0].Rib = impl.Rib{}
	for _, n := range l[:8] {
		m.Routers[0].Rib = plainWith(m.Routers[0].Rib, impl.Route{Net: n, Metric: 9, Next: 7, Iface: 2, Until: 50})
	}
	m.Routers[1].Rib = impl.Rib{}
	for _, n := range []impl.Net{l[2], l[9], l[10], l[7]} {
		m.Routers[1].Rib = plainWith(m.Routers[1].Rib, ownRoute(n))
	}
	got := impl.MeshRound(m, 1)
	want := copyMesh(m)
	want.Routers[0].Now, want.Routers[1].Now = 1, 1
	for _, at := range []int{2, 7} {
		want.Routers[0].Rib.Routes[at] = impl.Route{Net: l[at], Metric: 2, Next: m.Routers[1].Ifaces[0].Addr, Until: 7, Changed: true}
	}
	// The other table has room for the first four that it has not yet.
	for _, at := range []int{0, 1, 3, 4} {
		want.Routers[1].Rib = plainWith(want.Routers[1].Rib, impl.Route{Net: l[at], Metric: 11, Next: m.Routers[0].Ifaces[0].Addr, Until: 7, Changed: true})
	}
	holdMesh(t, "full", got, meshOf(want))
	holdMesh(t, "full", got, plainRounds(m, 1))
}

// TestMeshRoundUnlikeNows: each counts by its own time.
func TestMeshRoundUnlikeNows(t *testing.T) {
	m := withMesh(impl.MeshNew(2, false, []int64{1, 1}).Mesh, func(m *impl.Mesh) { m.Routers[0].Now, m.Routers[1].Now = 5, 900 })
	for rounds := int64(1); rounds < 4; rounds++ {
		got := impl.MeshRound(m, rounds)
		holdMesh(t, "unlike", got, plainRounds(m, rounds))
		a, b := got.Mesh.Routers[0], got.Mesh.Routers[1]
		if a.Now != 5+rounds || b.Now != 900+rounds {
			t.Errorf("%d rounds: got %d and %d", rounds, a.Now, b.Now)
		}
		if impl.RibFind(a.Rib, atHome(1, 1).Net).Until != a.Now+6 || impl.RibFind(b.Rib, atHome(0, 1).Net).Until != b.Now+6 {
			t.Errorf("%d rounds: got %+v and %+v", rounds, a.Rib, b.Rib)
		}
	}
}

// TestMeshRoundLastTimes: who can step no more stays at its time, and hears and tells as ahead.
func TestMeshRoundLastTimes(t *testing.T) {
	first := impl.MeshNew(2, false, []int64{1, 1}).Mesh
	for _, a := range []int64{mostStep, mostStep - 1, mostStep - 2, 7} {
		for _, b := range []int64{mostStep, mostStep - 1, mostStep - 60} {
			m := withMesh(first, func(m *impl.Mesh) { m.Routers[0].Now, m.Routers[1].Now = a, b })
			for _, rounds := range []int64{0, 1, 2, 3, 60} {
				got := impl.MeshRound(m, rounds)
				holdMesh(t, "last times", got, plainRounds(m, rounds))
				for r, now := range []int64{a, b} {
					x := got.Mesh.Routers[r]
					if x.Now != min(now+rounds, mostStep) {
						t.Errorf("%d rounds at %d: got %d", rounds, now, x.Now)
					}
					if rounds > 0 && impl.RibFind(x.Rib, atHome(int64(1-r), 1).Net).Until != x.Now+6 {
						t.Errorf("%d rounds at %d: got %+v", rounds, now, x.Rib)
					}
				}
			}
		}
	}
	late := withMesh(first, func(m *impl.Mesh) { m.Routers[0].Now = mostStep })
	heard := impl.MeshRound(late, 1).Mesh
	cut := turnedAt(heard, false, endsB(heard.Links[0]))
	if got := impl.MetricTo(impl.MeshRound(cut, 60).Mesh, 0, atHome(1, 1).Net); got != 2 {
		t.Errorf("whose time stands still has what does not age: got %d", got)
	}
	if got := impl.MetricTo(impl.MeshRound(cut, 60).Mesh, 1, atHome(0, 1).Net); got != 16 {
		t.Errorf("of the other one it ages: got %d", got)
	}
}

func TestMeshCutAndJoinOneByOne(t *testing.T) {
	first := impl.MeshRound(impl.MeshNew(2, false, []int64{2, 3}).Mesh, 4).Mesh
	want := withMesh(first, func(m *impl.Mesh) {
		for i := range m.Routers {
			m.Routers[i].Ifaces[1].Up = false
			m.Routers[i].Rib.Routes = slices.Delete(m.Routers[i].Rib.Routes, 2, 3)
			lost := &m.Routers[i].Rib.Routes[1-i]
			*lost = impl.Route{Net: lost.Net, Metric: 16, Next: lost.Next, Iface: 1, Bin: 8, Changed: true}
		}
	})
	cut := impl.MeshCut(first, 0)
	holdMesh(t, "cut", cut, meshOf(want))
	joined := withMesh(want, func(m *impl.Mesh) {
		for i := range m.Routers {
			m.Routers[i].Ifaces[1].Up = true
			m.Routers[i].Rib = plainWith(m.Routers[i].Rib, impl.Route{Net: m.Routers[i].Ifaces[1].Net, Metric: 1, Iface: 1, Changed: true})
		}
	})
	holdMesh(t, "joined", impl.MeshJoin(cut.Mesh, 0), meshOf(joined))
	holdMesh(t, "cut twice", impl.MeshCut(cut.Mesh, 0), noMesh(impl.ErrState))
	holdMesh(t, "joined twice", impl.MeshJoin(first, 0), noMesh(impl.ErrState))
}

// TestMeshCutAndJoinSides: both Ifaces Up, either of them, and none; each Link of the mesh, and nothing else is turned.
func TestMeshCutAndJoinSides(t *testing.T) {
	for _, first := range []impl.Mesh{wideMesh(4), impl.MeshRound(impl.MeshNew(4, true, []int64{1, 2, 3, 4}).Mesh, 5).Mesh} {
		for at, x := range first.Links {
			link := int64(at)
			down := func(l ...meshEnd) impl.Mesh { return turnedAt(first, false, l...) }
			for _, m := range []impl.Mesh{first, down(endsA(x)), down(endsB(x)), down(endsA(x), endsB(x))} {
				a, b := plainIfaceAt(m, endsA(x)).Up, plainIfaceAt(m, endsB(x)).Up
				for _, up := range []bool{true, false} {
					got := impl.MeshCut(m, link)
					if up {
						got = impl.MeshJoin(m, link)
					}
					holdMesh(t, "turned", got, plainTurnLink(m, link, up))
					if state := a == up && b == up; state != (got.Code == impl.ErrState) {
						t.Errorf("sides Up %v and %v, turned %v: got %d", a, b, up, got.Code)
					}
					if got.Code != impl.OK {
						continue
					}
					ends := turnedAt(m, up, endsA(x), endsB(x))
					for r := range ends.Routers {
						if !slices.Equal(got.Mesh.Routers[r].Ifaces, ends.Routers[r].Ifaces) {
							t.Errorf("sides Up %v and %v, turned %v: got %+v", a, b, up, got.Mesh)
						}
						if int64(r) != x.A && int64(r) != x.B && !sameInst(got.Mesh.Routers[r], m.Routers[r]) {
							t.Errorf("a router that is not of the Link: got %+v", got.Mesh)
						}
					}
					if a == up && !sameInst(got.Mesh.Routers[x.A], m.Routers[x.A]) || b == up && !sameInst(got.Mesh.Routers[x.B], m.Routers[x.B]) {
						t.Errorf("a side that is so already: got %+v", got.Mesh)
					}
				}
			}
		}
	}
}

func TestMeshCutAndJoinNone(t *testing.T) {
	for links := range mostLinks + 1 {
		m := wideMesh(links)
		none := turnedAt(m, false, meshEnd{0, 0}, meshEnd{1, 0}, meshEnd{0, 1}, meshEnd{2, 1})
		for _, link := range append([]int64{int64(links), int64(links) + 1, -1}, wrongLinks...) {
			holdMesh(t, "no such Link", impl.MeshCut(m, link), noMesh(impl.ErrNone))
			holdMesh(t, "no such Link", impl.MeshJoin(m, link), noMesh(impl.ErrNone))
			holdMesh(t, "no such Link", impl.MeshCut(none, link), noMesh(impl.ErrNone))
			holdMesh(t, "no such Link", impl.MeshJoin(none, link), noMesh(impl.ErrNone))
		}
		for link := range int64(links) {
			if a, b := impl.MeshCut(m, link).Code, impl.MeshJoin(m, link).Code; a != impl.OK || b != impl.ErrState {
				t.Errorf("the Link %d of %d: got %d and %d", link, links, a, b)
			}
		}
	}
}

// TestMeshJoinFullTable: a side whose table has no room stays down, the other one comes up; it is no fault.
func TestMeshJoinFullTable(t *testing.T) {
	first := turnedAt(layMesh([][2]int64{{0, 1}}, 2, 1), false, meshEnd{0, 0}, meshEnd{1, 0})
	for full := range 4 {
		m := copyMesh(first)
		for r := range 2 {
			m.Routers[r].Rib = someRib(mostRoutes - 1)
			if full>>r&1 == 1 {
				m.Routers[r].Rib = someRib(mostRoutes)
			}
		}
		got := impl.MeshJoin(m, 0)
		holdMesh(t, "full", got, plainTurnLink(m, 0, true))
		for r := range 2 {
			isFull := full>>r&1 == 1
			x := got.Mesh.Routers[r]
			if got.Code != impl.OK || x.Ifaces[0].Up == isFull || isFull && !sameInst(x, m.Routers[r]) {
				t.Errorf("full %b: got %+v", full, got)
			}
		}
		half := turnedAt(m, true, meshEnd{0, 0})
		holdMesh(t, "one is Up already", impl.MeshJoin(half, 0), plainTurnLink(half, 0, true))
		if got := impl.MeshJoin(half, 0); full>>1&1 == 1 {
			holdMesh(t, "one is Up already, the other one refused", got, meshOf(half))
		}
	}
}

func TestMetricToOneByOne(t *testing.T) {
	m := impl.MeshNew(2, false, []int64{2, 3}).Mesh
	m.Routers[0].Rib = plainWith(m.Routers[0].Rib, goneRoute(impl.Net{Addr: 0x0B000000, Len: 8}))
	m.Routers[0].Rib = plainWith(m.Routers[0].Rib, impl.Route{Net: impl.Net{Addr: 0x0C000000, Len: 8}, Metric: 15, Next: 9, Iface: 2, Until: 9})
	far := impl.MeshRound(m, 1).Mesh
	for _, x := range []struct {
		m      impl.Mesh
		router int64
		n      impl.Net
		want   int64
	}{
		{m, 0, atHome(0, 1).Net, 1}, {m, 1, atHome(1, 1).Net, 1}, {m, 0, atLink(0, 1, 1).Net, 1}, {m, 1, atLink(0, 1, 1).Net, 1},
		{m, 0, atHome(1, 1).Net, 16}, {m, 1, atHome(0, 1).Net, 16}, {far, 0, atHome(1, 1).Net, 3}, {far, 1, atHome(0, 1).Net, 4},
		{m, 0, impl.Net{Addr: 0x0B000000, Len: 8}, 16}, {m, 0, impl.Net{Addr: 0x0C000000, Len: 8}, 15},
		{far, 1, impl.Net{Addr: 0x0B000000, Len: 8}, 16}, {far, 1, impl.Net{Addr: 0x0C000000, Len: 8}, 16},
		{m, 0, nobodys, 16}, {m, 1, nobodys, 16}, {m, 0, impl.Net{}, 16},
		{m, 0, impl.Net{Addr: 0x0A000000, Len: 15}, 16}, {m, 0, impl.Net{Addr: 0x0A000000, Len: 17}, 16},
		{m, -1, atHome(0, 1).Net, 0}, {m, 2, atHome(0, 1).Net, 0}, {m, 3, nobodys, 0}, {m, 1 << 32, atHome(0, 1).Net, 0}, {m, math.MaxInt64, nobodys, 0}, {m, math.MinInt64, nobodys, 0},
		{impl.Mesh{}, 0, nobodys, 0},
	} {
		if got := impl.MetricTo(x.m, x.router, x.n); got != x.want {
			t.Errorf("MetricTo(%d, %+v): got %d, want %d", x.router, x.n, got, x.want)
		}
	}
	for _, n := range wrongNets() {
		for router := range int64(2) {
			if got := impl.MetricTo(m, router, n); got != 16 {
				t.Errorf("MetricTo(%d, %+v): got %d, but nobody has a Net that is not right", router, n, got)
			}
			if got := impl.Distance(m, router, n); got != 0 {
				t.Errorf("Distance(%d, %+v): got %d", router, n, got)
			}
		}
		if a, b := impl.MetricTo(m, 2, n), impl.Distance(m, 2, n); a != 0 || b != 0 {
			t.Errorf("no such router, %+v: got %d and %d", n, a, b)
		}
	}
}

func TestDistanceOneByOne(t *testing.T) {
	home := func(r int64) impl.Net { return atHome(r, 1).Net }
	link := func(i int64) impl.Net { return atLink(i, 1, 1).Net }
	row := func(costs ...int64) impl.Mesh { return impl.MeshNew(int64(len(costs)), false, costs).Mesh }
	ring := func(costs ...int64) impl.Mesh { return impl.MeshNew(int64(len(costs)), true, costs).Mesh }
	cut := func(m impl.Mesh, link int64) impl.Mesh { return impl.MeshCut(m, link).Mesh }
	for _, x := range []struct {
		what   string
		m      impl.Mesh
		router int64
		n      impl.Net
		want   int64
	}{
		{"its own", row(2, 3), 0, home(0), 1}, {"its own", row(15, 15), 1, home(1), 1}, {"its own Link's", row(15, 15), 1, link(0), 1}, {"its own Link's", row(15, 15), 0, link(0), 1},
		{"unlike Costs on the two sides", row(2, 3), 0, home(1), 3}, {"unlike Costs on the two sides", row(2, 3), 1, home(0), 4},
		{"a sum of 15", row(14, 1), 0, home(1), 15}, {"a sum of 16", row(15, 1), 0, home(1), 16}, {"the other way", row(15, 1), 1, home(0), 2},
		{"a sum of 15", row(7, 7, 1), 0, home(2), 15}, {"a sum of 16", row(7, 8, 1), 0, home(2), 16}, {"a sum of 17", row(8, 8, 1), 0, home(2), 16}, {"a sum of 31", row(15, 15, 1), 0, home(2), 16}, {"a sum of 46", row(15, 15, 15, 1), 0, home(3), 16},
		{"the last Cost counts for nothing", row(1, 1, 1, 15), 0, home(3), 4}, {"but for the last one", row(1, 1, 1, 15), 3, home(0), 16}, {"a Link's Net is nearer", row(1, 1, 1, 15), 0, link(2), 3},
		{"nobody's", row(1, 1), 0, nobodys, 16}, {"nobody's", row(1, 1), 0, impl.Net{}, 16}, {"near to one", row(1, 1), 0, impl.Net{Addr: 0x0A000000, Len: 15}, 16},
		{"behind a cut", cut(row(1, 1, 1), 1), 0, home(2), 16}, {"ahead of it", cut(row(1, 1, 1), 1), 0, home(1), 2}, {"the cut one's Net", cut(row(1, 1, 1), 1), 0, link(1), 16}, {"the cut one's Net", cut(row(1, 1, 1), 1), 1, link(1), 16},
		{"the less of two ways", ring(1, 5, 1, 2), 0, home(2), 4}, {"the less of two ways", ring(1, 2, 1, 5), 0, home(2), 4}, {"as much either way", ring(1, 3, 1, 3), 0, home(2), 5}, {"the longer way is less", ring(9, 1, 1), 1, home(0), 2}, {"one and two Links", ring(3, 4, 5), 0, home(2), 4},
		{"the longer way is left", cut(ring(1, 5, 1, 2), 3), 0, home(2), 7}, {"the longer way is left", cut(ring(3, 4, 5), 2), 0, home(2), 8}, {"all the way round", cut(ring(1, 1, 1, 1), 3), 0, home(3), 4}, {"too far the longer way", cut(ring(3, 12, 5), 2), 0, home(2), 16},
		{"cut on both ways", cut(cut(ring(1, 1, 1, 1), 0), 3), 0, home(2), 16},
		{"no such router", row(1, 1), -1, home(0), 0}, {"no such router", row(1, 1), 2, home(0), 0}, {"no such router", row(1, 1), 1 << 32, home(0), 0}, {"no such router", row(1, 1), math.MaxInt64, home(0), 0}, {"no such router", row(1, 1), math.MinInt64, home(0), 0},
		{"a Net that is not right", row(1, 1), 0, impl.Net{Addr: 1, Len: 8}, 0}, {"a Net that is not right", row(1, 1), 0, impl.Net{Addr: 0, Len: 33}, 0},
		{"no mesh", impl.Mesh{}, 0, home(0), 0},
	} {
		if got := impl.Distance(x.m, x.router, x.n); got != x.want {
			t.Errorf("%s: Distance(%d, %+v): got %d, want %d", x.what, x.router, x.n, got, x.want)
		}
		if got := plainDistance(x.m, x.router, x.n); got != x.want {
			t.Errorf("%s: the plain one: got %d, want %d", x.what, got, x.want)
		}
	}
}

// TestDistanceBySides: a Link counts if both its Ifaces are Up, a Net's own Iface if it is Up itself; the Cost is that of the side that hears.
func TestDistanceBySides(t *testing.T) {
	m := withMesh(impl.MeshNew(3, true, []int64{1, 1, 1}).Mesh, func(m *impl.Mesh) {
		m.Routers[0].Ifaces[1].Cost, m.Routers[0].Ifaces[2].Cost = 6, 3
		m.Routers[1].Ifaces[1].Cost, m.Routers[1].Ifaces[2].Cost = 2, 7
		m.Routers[2].Ifaces[1].Cost, m.Routers[2].Ifaces[2].Cost = 4, 5
	})
	home := func(r int64) impl.Net { return atHome(r, 1).Net }
	hold := func(what string, m impl.Mesh, router int64, n impl.Net, want int64) {
		t.Helper()
		if got := impl.Distance(m, router, n); got != want {
			t.Errorf("%s: got %d, want %d", what, got, want)
		}
		holdMetrics(t, what, m, []int64{0, 1, 2}, netsOfMesh(m))
	}
	hold("straight on", m, 0, home(1), 7)
	hold("back", m, 1, home(0), 3)
	hold("by the third one", m, 1, home(2), 6)
	hold("straight on", m, 2, home(1), 5)
	for _, e := range []meshEnd{{0, 1}, {1, 1}} {
		down := turnedAt(m, false, e)
		hold("round, a side is down", down, 0, home(1), 3+4+1)
		hold("round, a side is down", down, 1, home(0), 7+5+1)
		other := 1 - e.router
		hold("the side that is Up has its Net", down, other, atLink(0, 1, 1).Net, 1)
	}
	down := turnedAt(m, false, meshEnd{0, 1})
	hold("its own Net the long way", down, 0, atLink(0, 1, 1).Net, 3+4+1)
	hold("nobody has it", turnedAt(m, false, meshEnd{0, 1}, meshEnd{1, 1}), 0, atLink(0, 1, 1).Net, 16)
	hold("a home that is down", turnedAt(m, false, meshEnd{1, 0}), 0, home(1), 16)
	hold("a home that is down", turnedAt(m, false, meshEnd{1, 0}), 1, home(1), 16)
	bare := withMesh(m, func(m *impl.Mesh) {
		for r := range m.Routers {
			m.Routers[r].Rib = someRib(8 - r)
		}
	})
	hold("what is in the tables counts for nothing", bare, 0, home(1), 7)
	apart := withMesh(m, func(m *impl.Mesh) { m.Links = nil })
	hold("Ifaces of one Net are no Link", apart, 0, home(1), 16)
	hold("but both have it", apart, 1, atLink(0, 1, 1).Net, 1)
	hold("the nearest of two that have it", oneNetAway(), 0, impl.Net{Addr: 0x0B000000, Len: 8}, 3)
}

// oneNetAway has a Net on the second and the third router of a row, and not on the first.
func oneNetAway() impl.Mesh {
	return withMesh(impl.MeshNew(3, false, []int64{2, 2, 2}).Mesh, func(m *impl.Mesh) {
		for _, r := range []int{1, 2} {
			m.Routers[r].Ifaces[0] = impl.Iface{Addr: 0x0B000001, Net: impl.Net{Addr: 0x0B000000, Len: 8}, Cost: 1, Up: true}
		}
	})
}

// anyLinks puts Links between routers that have room for them; most are of Nets of their own. It is not said to be right.
func anyLinks(r *rand.Rand, m *impl.Mesh) {
	nets := ifaceNets()
	order := r.Perm(len(nets))
	links := r.Intn(mostLinks + 1)
	for i := 0; i < len(nets) && len(m.Links) < links; i++ {
		a, b := r.Int63n(int64(len(m.Routers))), r.Int63n(int64(len(m.Routers)))
		n := nets[order[i]]
		if r.Intn(6) == 0 {
			n = nets[order[0]]
		}
		if a == b || len(m.Routers[a].Ifaces) == mostIfaces || len(m.Routers[b].Ifaces) == mostIfaces {
			continue
		}
		put := func(at int64) int64 {
			f := impl.Iface{Addr: anyIn(r, n), Net: n, Cost: []int64{1, 1, 2, 3, 7, 15}[r.Intn(6)], Up: r.Intn(6) > 0}
			m.Routers[at].Ifaces = append(m.Routers[at].Ifaces, f)
			return int64(len(m.Routers[at].Ifaces)) - 1
		}
		m.Links = append(m.Links, impl.Link{A: a, AI: put(a), B: b, BI: put(b)})
	}
}

// anyMesh is right; its tables have anything in them, and its routers are often of unlike Now.
func anyMesh(r *rand.Rand) impl.Mesh {
	for {
		now := anyStep(r)
		var m impl.Mesh
		for range 1 + r.Intn(mostRouters) {
			if r.Intn(3) == 0 {
				now = anyStep(r)
			}
			x := impl.Inst{Ifaces: anyIfaces(r, r.Intn(2)), Rib: anyRib(r, r.Intn(mostRoutes+1), now), Now: now}
			m.Routers = append(m.Routers, x)
		}
		anyLinks(r, &m)
		if plainMesh(m) {
			return m
		}
	}
}

// anyNew is a mesh of MeshNew.
func anyNew(r *rand.Rand) impl.Mesh {
	many := 2 + r.Int63n(3)
	var costs []int64
	for range many {
		costs = append(costs, []int64{1, 1, 2, 3, 5, 14, 15, 1 + r.Int63n(15)}[r.Intn(8)])
	}
	return impl.MeshNew(many, many > 2 && r.Intn(2) == 0, costs).Mesh
}

func TestMeshesAny(t *testing.T) {
	r := rand.New(rand.NewSource(100))
	links := map[int]int{}
	for range 3000 {
		m := anyMesh(r)
		links[len(m.Links)]++
		holdMeshes(t, "any", m, r.Int63n(4), r.Int63n(6)-1)
	}
	for many := range mostLinks + 1 {
		if links[many] < 50 {
			t.Errorf("%d Links: only %d times", many, links[many])
		}
	}
}

// anyTurn is a mesh that is cut or joined, or as it was where that tells a code.
func anyTurn(r *rand.Rand, m impl.Mesh) impl.Mesh {
	link := r.Int63n(5)
	out := impl.MeshCut(m, link)
	if r.Intn(2) == 0 {
		out = impl.MeshJoin(m, link)
	}
	if out.Code != impl.OK {
		return m
	}
	return out.Mesh
}

// TestP15StayRight: whatever is cut and joined, and in whatever order; each is as the plain one.
func TestP15StayRight(t *testing.T) {
	r := rand.New(rand.NewSource(101))
	for i := range 300 {
		m := anyMesh(r)
		if i%2 == 0 {
			m = anyNew(r)
		}
		for range 25 {
			rounds, link := r.Int63n(4), r.Int63n(5)
			holdMeshes(t, "in a row", m, rounds, link)
			m = impl.MeshRound(anyTurn(r, m), rounds).Mesh
			if !impl.MeshRight(m) || !plainMesh(m) {
				t.Fatalf("no right one any more: %+v", m)
			}
		}
	}
}

// TestP15TwoGoesAreOne: some rounds and the others behind them are as all of them, of any mesh, at any time.
func TestP15TwoGoesAreOne(t *testing.T) {
	r := rand.New(rand.NewSource(102))
	for i := range 150 {
		m := anyMesh(r)
		if i%2 == 0 {
			m = anyTurn(r, impl.MeshRound(anyTurn(r, anyNew(r)), r.Int63n(10)).Mesh)
		}
		all := r.Int63n(mostRounds + 1)
		one := impl.MeshRound(m, all)
		for _, first := range []int64{0, all, r.Int63n(all + 1)} {
			half := impl.MeshRound(m, first)
			if half.Code != impl.OK {
				t.Fatalf("MeshRound(%+v, %d): got %d", m, first, half.Code)
			}
			holdMesh(t, "two goes", impl.MeshRound(half.Mesh, all-first), one)
		}
	}
	m := impl.MeshNew(4, true, []int64{1, 2, 3, 4}).Mesh
	one, steps := impl.MeshRound(m, mostRounds), meshOf(m)
	for range mostRounds {
		steps = impl.MeshRound(steps.Mesh, 1)
	}
	holdMesh(t, "one by one", steps, one)
}

// holdKnown: each router knows just how far it is to each Net.
func holdKnown(t *testing.T, what string, m impl.Mesh) {
	t.Helper()
	for router := range int64(len(m.Routers)) {
		for _, n := range netsOfMesh(m) {
			got, want := impl.MetricTo(m, router, n), plainDistance(m, router, n)
			if got != want || impl.Distance(m, router, n) != want {
				t.Fatalf("%s: the router %d, %+v: MetricTo is %d, Distance %d, want %d, of %+v", what, router, n, got, impl.Distance(m, router, n), want, m)
			}
		}
	}
}

// holdNotNearer: nobody thinks it nearer than it is.
func holdNotNearer(t *testing.T, what string, m impl.Mesh) {
	t.Helper()
	for router := range int64(len(m.Routers)) {
		for _, n := range netsOfMesh(m) {
			got, want := impl.MetricTo(m, router, n), plainDistance(m, router, n)
			if got < want || impl.Distance(m, router, n) != want {
				t.Fatalf("%s: the router %d, %+v: MetricTo is %d, but it is %d, of %+v", what, router, n, got, want, m)
			}
		}
	}
}

// meshesOfAll are all shapes that MeshNew has, of some Costs each.
func meshesOfAll() []impl.Mesh {
	var out []impl.Mesh
	costs := [][]int64{{1, 1, 1, 1}, {1, 2, 3, 4}, {9, 3, 2, 5}, {7, 7, 1, 7}, {15, 1, 14, 1}}
	for many := int64(2); many <= mostRouters; many++ {
		for _, l := range costs {
			out = append(out, impl.MeshNew(many, false, l[:many]).Mesh)
			if many > 2 {
				out = append(out, impl.MeshNew(many, true, l[:many]).Mesh)
			}
		}
	}
	return out
}

// cutAll cuts those Links of which there is a bit.
func cutAll(m impl.Mesh, bits int) impl.Mesh {
	for link := range m.Links {
		if bits>>link&1 == 1 {
			m = impl.MeshCut(m, int64(link)).Mesh
		}
	}
	return m
}

// TestP16KnowsBehindCuts: all shapes, and all that may be cut of each, when all is known, or little is.
func TestP16KnowsBehindCuts(t *testing.T) {
	for _, first := range meshesOfAll() {
		for _, ahead := range []int64{2, 20} {
			warm := impl.MeshRound(first, ahead).Mesh
			for bits := range 1 << len(first.Links) {
				cut := cutAll(warm, bits)
				holdKnown(t, "behind a cut", impl.MeshRound(cut, mostRounds).Mesh)
			}
		}
	}
}

// TestP16KnowsBehindTheLastCut: cut and joined at any time, one behind the other; whatever Link is up at last.
func TestP16KnowsBehindTheLastCut(t *testing.T) {
	r := rand.New(rand.NewSource(103))
	far, near := 0, 0
	for range 200 {
		m := anyNew(r)
		for range 1 + r.Intn(8) {
			m = anyTurn(r, impl.MeshRound(m, r.Int63n(12)).Mesh)
		}
		m = impl.MeshRound(m, mostRounds).Mesh
		holdKnown(t, "behind the last cut", m)
		for _, x := range m.Links {
			if plainIfaceAt(m, endsA(x)).Up {
				near++
			} else {
				far++
			}
		}
	}
	if far < 50 || near < 50 {
		t.Errorf("%d Links were cut at last, %d were not", far, near)
	}
}

// TestP16NobodyThinksItNearer: ahead of any cut, after any number of rounds; and at last it is known.
func TestP16NobodyThinksItNearer(t *testing.T) {
	for _, m := range meshesOfAll() {
		holdNotNearer(t, "at first", m)
		for rounds := range int64(mostRounds) {
			m = impl.MeshRound(m, 1).Mesh
			holdNotNearer(t, "ahead of any cut", m)
			if rounds >= 4 {
				holdKnown(t, "some rounds on", m)
			}
		}
	}
	r := rand.New(rand.NewSource(104))
	for range 200 {
		m := anyNew(r)
		holdNotNearer(t, "at once", impl.MeshRound(m, r.Int63n(mostRounds+1)).Mesh)
	}
}

// anyLaid is a mesh that MeshNew does not make: any Links, also more than one between two routers, and unlike Costs of all Ifaces; all Up, and nothing told yet.
func anyLaid(r *rand.Rand) impl.Mesh {
	many := 2 + r.Int63n(mostRouters-1)
	var pairs [][2]int64
	used := map[int64]int{}
	for range r.Intn(12) {
		a, b := r.Int63n(many), r.Int63n(many)
		if a != b && len(pairs) < mostLinks && used[a] < mostIfaces && used[b] < mostIfaces {
			pairs = append(pairs, [2]int64{a, b})
			used[a]++
			used[b]++
		}
	}
	return withMesh(layMesh(pairs, int(many), len(pairs)), func(m *impl.Mesh) {
		for at := range m.Routers {
			for i := range m.Routers[at].Ifaces {
				m.Routers[at].Ifaces[i].Cost = []int64{1, 1, 2, 4, 7, 14, 15}[r.Intn(7)]
			}
		}
	})
}

// TestP16OtherMeshes: what holds of the meshes that MeshNew makes holds of others, with ways all round left behind a cut.
func TestP16OtherMeshes(t *testing.T) {
	r := rand.New(rand.NewSource(106))
	links := 0
	for range 400 {
		m := anyLaid(r)
		links += len(m.Links)
		for range 8 {
			m = impl.MeshRound(m, r.Int63n(3)).Mesh
			holdNotNearer(t, "ahead of any cut", m)
		}
		for range r.Intn(6) {
			m = anyTurn(r, impl.MeshRound(m, r.Int63n(12)).Mesh)
		}
		holdKnown(t, "behind the last cut", impl.MeshRound(m, mostRounds).Mesh)
	}
	if links < 800 {
		t.Errorf("only %d Links in all", links)
	}
}

// TestP16JoinedIsAsAhead: what was cut and joined is known as ahead of it, however long it was cut.
func TestP16JoinedIsAsAhead(t *testing.T) {
	for _, first := range meshesOfAll() {
		first = impl.MeshRound(first, 10).Mesh
		for link := range int64(len(first.Links)) {
			for _, between := range []int64{0, 1, 5, 30} {
				m := impl.MeshRound(impl.MeshCut(first, link).Mesh, between).Mesh
				m = impl.MeshRound(impl.MeshJoin(m, link).Mesh, 20).Mesh
				holdKnown(t, "joined again", m)
				for router := range int64(len(m.Routers)) {
					for _, n := range netsOfMesh(m) {
						if got, want := impl.MetricTo(m, router, n), impl.MetricTo(first, router, n); got != want {
							t.Errorf("the router %d, %+v: got %d, ahead of the cut %d", router, n, got, want)
						}
					}
				}
			}
		}
	}
}

// TestP16HomeGone: of a Net that is nowhere any more nobody thinks at last that there is a way, though there are ways all round.
func TestP16HomeGone(t *testing.T) {
	for _, first := range meshesOfAll() {
		for gone := range first.Routers {
			m := copyMesh(impl.MeshRound(first, 10).Mesh)
			m.Routers[gone] = impl.Down(m.Routers[gone], 0).Inst
			m = impl.MeshRound(m, mostRounds).Mesh
			holdKnown(t, "a home that is gone", m)
			for router := range int64(len(m.Routers)) {
				if got := impl.MetricTo(m, router, atHome(int64(gone), 1).Net); got != 16 {
					t.Errorf("the router %d: got %d", router, got)
				}
			}
		}
	}
}

// roomyMesh has room behind each of its lists, with something in it that is nobody's to write into; what is told beside looks whether it is so still.
func roomyMesh(m impl.Mesh) (impl.Mesh, func() bool) {
	m = copyMesh(m)
	routers := append(m.Routers, impl.Inst{Now: 71}, impl.Inst{Now: 72})
	links := append(m.Links, impl.Link{A: 71}, impl.Link{A: 72})
	m.Routers, m.Links = routers[:len(m.Routers)], links[:len(m.Links)]
	var ifaces [][]impl.Iface
	var routes [][]impl.Route
	for i, x := range m.Routers {
		r, f, l := spareInst(x)
		m.Routers[i] = r
		ifaces, routes = append(ifaces, f), append(routes, l)
	}
	whole := func() impl.Mesh {
		all := impl.Mesh{Routers: slices.Clone(routers), Links: slices.Clone(links)}
		for i := range ifaces {
			all.Routers = append(all.Routers, impl.Inst{Ifaces: slices.Clone(ifaces[i]), Rib: impl.Rib{Routes: slices.Clone(routes[i])}})
		}
		return copyMesh(all)
	}
	were := whole()
	return m, func() bool { return sameMesh(whole(), were) }
}

// scribbledMesh is a copy of all that was told, which is then written over.
func scribbledMesh(out impl.MeshOut) impl.MeshOut {
	kept := impl.MeshOut{Mesh: copyMesh(out.Mesh), Code: out.Code}
	for i := range out.Mesh.Routers {
		scribble(out.Mesh.Routers[i])
		out.Mesh.Routers[i] = impl.Inst{Now: 77}
	}
	for i := range out.Mesh.Links {
		out.Mesh.Links[i] = impl.Link{A: 77}
	}
	_ = append(out.Mesh.Routers, impl.Inst{Now: 78})
	_ = append(out.Mesh.Links, impl.Link{A: 78})
	return kept
}

// meshCalls are all calls that tell a mesh, of all kinds of what may come of them.
func meshCalls() []func(impl.Mesh) impl.MeshOut {
	var calls []func(impl.Mesh) impl.MeshOut
	for _, rounds := range []int64{-1, 0, 1, 2, 7} {
		calls = append(calls, func(m impl.Mesh) impl.MeshOut { return impl.MeshRound(m, rounds) })
	}
	for link := int64(-1); link < 5; link++ {
		calls = append(calls,
			func(m impl.Mesh) impl.MeshOut { return impl.MeshCut(m, link) },
			func(m impl.Mesh) impl.MeshOut { return impl.MeshJoin(m, link) })
	}
	return append(calls, func(m impl.Mesh) impl.MeshOut {
		impl.MeshRight(m)
		impl.MetricTo(m, 0, nobodys)
		impl.Distance(m, 0, nobodys)
		return noMesh(impl.ErrNone)
	})
}

// TestMeshKeepsNothing: no call writes into a mesh, and none hands a piece of it out.
func TestMeshKeepsNothing(t *testing.T) {
	r := rand.New(rand.NewSource(105))
	for i := range 60 {
		first := anyMesh(r)
		switch i % 4 {
		case 0:
			first = impl.MeshRound(anyNew(r), 4).Mesh
		case 1:
			first = cutAll(impl.MeshRound(anyNew(r), 4).Mesh, r.Intn(16))
		case 2:
			first = withMesh(anyNew(r), func(m *impl.Mesh) { m.Routers[0].Now, m.Routers[1].Now = mostStep, mostStep-1 })
		}
		for at, call := range meshCalls() {
			m, kept := roomyMesh(first)
			if !kept() || !sameMesh(m, first) {
				t.Fatal("the test's own mesh is not as it should be")
			}
			out := scribbledMesh(call(m))
			if !kept() || !sameMesh(m, first) {
				t.Errorf("call %d: what was handed in is changed: %+v, it was %+v", at, m, first)
			}
			holdMesh(t, "again", call(m), out)
		}
	}
}

// TestMeshSharesNothing: no two routers that are told share a list, even if those handed in do.
func TestMeshSharesNothing(t *testing.T) {
	for _, now := range []int64{20, mostStep} {
		one := someInst(3)
		one.Now = now
		for at, call := range meshCalls() {
			m := impl.Mesh{Routers: []impl.Inst{one, one, one, one}, Links: []impl.Link{{A: 0, B: 1}, {A: 2, B: 3}, {A: 1, AI: 1, B: 2, BI: 1}}}
			want, got := call(copyMesh(m)), call(m)
			for i, x := range got.Mesh.Routers {
				if !sameInst(x, want.Mesh.Routers[i]) {
					t.Errorf("call %d: the router %d is written into by others: %+v", at, i, x)
				}
				scribble(x)
			}
			were := someInst(3)
			were.Now = now
			if !sameInst(one, were) {
				t.Fatalf("call %d: what was handed in is changed: %+v", at, one)
			}
		}
	}
	for _, ring := range []bool{false, true} {
		want := plainMeshNew(4, ring, []int64{1, 2, 3, 4})
		got := impl.MeshNew(4, ring, []int64{1, 2, 3, 4})
		for i, x := range got.Mesh.Routers {
			if !sameInst(x, want.Mesh.Routers[i]) {
				t.Errorf("the new router %d is written into by others: %+v", i, x)
			}
			scribble(x)
		}
		holdMesh(t, "new again", impl.MeshNew(4, ring, []int64{1, 2, 3, 4}), want)
	}
}
