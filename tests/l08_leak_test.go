package tests

import (
	"math"
	"math/rand"
	"slices"
	"testing"

	"loop.example/g00634/impl"
)

const (
	mostRibs  = 3
	mostRules = 4
)

var (
	edgeParties  = []int64{0, 1, 2}
	wrongParties = []int64{-1, -2, 3, 4, 256, 1 << 32, 1<<32 + 1, math.MaxInt64, math.MinInt64}
	edgeAdds     = []int64{1, 2, 14, 15}
	wrongAdds    = []int64{0, -1, -15, 16, 17, 256 + 1, 1<<32 + 1, math.MaxInt64, math.MinInt64}
	edgeRuleTags = []int64{1000, 1001, 65534, 65535}
	wrongTags    = []int64{0, 1, 999, -1, -1000, 65536, 65537, 65536 + 1000, 1<<32 + 1000, math.MaxInt64, math.MinInt64}
)

// someLeak lets all through, from the 0 to the 1.
func someLeak() impl.Leak {
	return impl.Leak{From: 0, To: 1, Within: impl.Net{}, Add: 2, Tag: 1000}
}

// someLeaks are right, of so many, no two alike.
func someLeaks(many int) []impl.Leak {
	var l []impl.Leak
	for i := range int64(many) {
		l = append(l, impl.Leak{From: i % 3, To: (i + 1) % 3, Within: netsOfAll()[2*(i%2)], Add: 1 + i%15, Tag: 1000 + i})
	}
	return l
}

// leakEdges are a field of a rule from the 0 to the 1, its values at the edges, and those that may not be.
type leakEdges struct {
	put         func(*impl.Leak, int64)
	edge, wrong []int64
}

func leakFields() []leakEdges {
	return []leakEdges{
		{func(x *impl.Leak, n int64) { x.From = n }, []int64{0, 2}, append([]int64{1}, wrongParties...)},
		{func(x *impl.Leak, n int64) { x.To = n }, []int64{1, 2}, append([]int64{0}, wrongParties...)},
		{func(x *impl.Leak, n int64) { x.Add = n }, edgeAdds, wrongAdds},
		{func(x *impl.Leak, n int64) { x.Tag = n }, edgeRuleTags, wrongTags},
	}
}

// wrongLeaks have each one field that may not be.
func wrongLeaks() []impl.Leak {
	out := []impl.Leak{{}}
	for _, n := range wrongNets() {
		x := someLeak()
		x.Within = n
		out = append(out, x)
	}
	for _, f := range leakFields() {
		for _, bad := range f.wrong {
			x := someLeak()
			f.put(&x, bad)
			out = append(out, x)
		}
	}
	return out
}

// wrongRibs are each not right for another reason.
func wrongRibs() []impl.Rib {
	turned := someRib(2)
	slices.Reverse(turned.Routes)
	twice := someRib(2)
	twice.Routes[1] = twice.Routes[0]
	out := []impl.Rib{turned, twice, someRib(mostRoutes + 1)}
	for _, bad := range append(wrongSaid(), wrongTimes()...) {
		out = append(out, impl.Rib{Routes: []impl.Route{bad}})
	}
	return slices.DeleteFunc(out, plainRib)
}

func plainLeakRight(x impl.Leak) bool {
	return isOneOf(x.From, 0, 2) && isOneOf(x.To, 0, 2) && x.From != x.To && plainNetRight(x.Within) && isOneOf(x.Add, 1, 15) && isOneOf(x.Tag, 1000, 65535)
}

func plainLeaksRight(l []impl.Leak) bool {
	return len(l) <= mostRules && !slices.ContainsFunc(l, func(x impl.Leak) bool { return !plainLeakRight(x) })
}

// plainLets looks whether a rule lets a right Route through.
func plainLets(x impl.Leak, r impl.Route) bool {
	return r.Metric != 16 && r.Tag < 1000 && r.Net.Len >= x.Within.Len && firstBits(r.Net.Addr, x.Within.Addr, x.Within.Len)
}

// plainGot is what a Route is behind the rule.
func plainGot(x impl.Leak, r impl.Route) impl.Route {
	metric := r.Metric + x.Add
	if metric > 16 {
		metric = 16
	}
	return impl.Route{Net: r.Net, Metric: metric, Next: x.From + 1, Iface: 3, Tag: x.Tag}
}

func plainLeakTaken(ribs []impl.Rib, l []impl.Leak, now int64) bool {
	return len(ribs) <= mostRibs && !slices.ContainsFunc(ribs, func(t impl.Rib) bool { return !plainRib(t) }) && plainLeaksRight(l) && isOneOf(now, 0, mostNow)
}

func plainLeakOnce(ribs []impl.Rib, l []impl.Leak, now int64) []impl.Rib {
	if !plainLeakTaken(ribs, l, now) {
		return nil
	}
	out := slices.Clone(ribs)
	for _, x := range l {
		if x.From >= int64(len(ribs)) || x.To >= int64(len(ribs)) {
			continue
		}
		for _, r := range ribs[x.From].Routes {
			if !plainLets(x, r) {
				continue
			}
			if learned := plainLearn(out[x.To], plainGot(x, r), now); learned.Code == impl.OK {
				out[x.To] = learned.Rib
			}
		}
	}
	return out
}

func plainSources(l []impl.Leak, to int64) []int64 {
	var out []int64
	if !plainLeaksRight(l) || !isOneOf(to, 0, 2) {
		return out
	}
	for n := range int64(3) {
		if n == to || slices.ContainsFunc(l, func(x impl.Leak) bool { return x.To == to && x.From == n }) {
			out = append(out, n)
		}
	}
	return out
}

// sameRibs takes an empty list and none as the same.
func sameRibs(a []impl.Rib, b []impl.Rib) bool {
	return slices.EqualFunc(a, b, func(x, y impl.Rib) bool { return slices.Equal(x.Routes, y.Routes) })
}

func holdRibs(t *testing.T, what string, got []impl.Rib, want ...impl.Rib) {
	t.Helper()
	if !sameRibs(got, want) {
		t.Errorf("%s:\n got %+v\nwant %+v", what, got, want)
	}
	for _, x := range got {
		if !plainRib(x) {
			t.Errorf("%s: what is told is not right: %+v", what, x)
		}
	}
}

// holdLeaks asks each call what the plain ones tell.
func holdLeaks(t *testing.T, what string, ribs []impl.Rib, l []impl.Leak, now int64) {
	t.Helper()
	for _, x := range l[:min(len(l), mostRules+1)] {
		if got := impl.LeakRight(x); got != plainLeakRight(x) {
			t.Errorf("%s: LeakRight(%+v): got %v", what, x, got)
		}
	}
	if got := impl.LeaksRight(l); got != plainLeaksRight(l) {
		t.Errorf("%s: LeaksRight(%+v): got %v", what, l, got)
	}
	for _, to := range append(wrongParties, edgeParties...) {
		if got := impl.SourcesOf(l, to); !slices.Equal(got, plainSources(l, to)) {
			t.Errorf("%s: SourcesOf(%+v, %d): got %v, want %v", what, l, to, got, plainSources(l, to))
		}
	}
	holdRibs(t, what+": LeakOnce", impl.LeakOnce(ribs, l, now), plainLeakOnce(ribs, l, now)...)
}

// holdNoLeak asks that nothing is told.
func holdNoLeak(t *testing.T, what string, ribs []impl.Rib, l []impl.Leak, now int64) {
	t.Helper()
	if got := impl.LeakOnce(ribs, l, now); len(got) != 0 {
		t.Errorf("%s: LeakOnce: got %+v", what, got)
	}
}

// threeRibs are right, of all kinds of Routes, no two alike.
func threeRibs() []impl.Rib {
	nets := netsOfAll()
	return []impl.Rib{
		someRib(5),
		{Routes: []impl.Route{ownRoute(nets[2]), liveRoute(nets[6])}},
		{Routes: []impl.Route{goneRoute(nets[4]), liveRoute(nets[9]), ownRoute(nets[10])}},
	}
}

// anyLeakRib is right; its Tags lie about LeakTag, and some of it may have come by a rule.
func anyLeakRib(r *rand.Rand, many int, now int64) impl.Rib {
	t := anyRib(r, many, now)
	for i := range t.Routes {
		x := &t.Routes[i]
		x.Tag = []int64{0, 7, 999, 999, 1000, 1001, 65535}[r.Intn(7)]
		if x.Next != 0 && r.Intn(3) == 0 {
			x.Next, x.Iface = 1+r.Int63n(3), 3
		}
	}
	return t
}

func anyLeak(r *rand.Rand) impl.Leak {
	nets := append(netsOfAll(), impl.Net{}, impl.Net{}, impl.Net{}, impl.Net{Len: 1}, impl.Net{Addr: 0x0A000000, Len: 7}, impl.Net{Addr: 0x0A000000, Len: 15})
	from := r.Int63n(3)
	return impl.Leak{
		From:   from,
		To:     (from + 1 + r.Int63n(2)) % 3,
		Within: nets[r.Intn(len(nets))],
		Add:    edgeAdds[r.Intn(len(edgeAdds))],
		Tag:    edgeRuleTags[r.Intn(len(edgeRuleTags))],
	}
}

func anyLeaks(r *rand.Rand, many int) []impl.Leak {
	var l []impl.Leak
	for range many {
		l = append(l, anyLeak(r))
	}
	return l
}

func anyLeakRibs(r *rand.Rand, many int, now int64) []impl.Rib {
	var ribs []impl.Rib
	for range many {
		ribs = append(ribs, anyLeakRib(r, r.Intn(mostRoutes+1), now))
	}
	return ribs
}

// TestLeakRight goes through all edges of all fields together.
func TestLeakRight(t *testing.T) {
	nets := []impl.Net{{}, {Addr: 0x0A010000, Len: 16}, {Addr: topAddr, Len: 32}, {Addr: 1, Len: 0}, {Addr: 0x0A010000, Len: 15}, {Addr: 0, Len: 33}, {Addr: -1, Len: 32}}
	right := 0
	for _, from := range []int64{-1, 0, 1, 2, 3} {
		for _, to := range []int64{-1, 0, 1, 2, 3} {
			for _, n := range nets {
				for _, add := range []int64{0, 1, 15, 16} {
					for _, tag := range []int64{999, 1000, 65535, 65536} {
						x := impl.Leak{From: from, To: to, Within: n, Add: add, Tag: tag}
						if got := impl.LeakRight(x); got != plainLeakRight(x) {
							t.Errorf("LeakRight(%+v): got %v", x, got)
						}
						if impl.LeakRight(x) {
							right++
						}
					}
				}
			}
		}
	}
	// 6 pairs that are unlike, 3 Nets, 2 Adds, 2 Tags.
	if want := 6 * 3 * 2 * 2; right != want {
		t.Errorf("right ones: got %d, want %d", right, want)
	}
}

func TestLeakRightOneByOne(t *testing.T) {
	for _, f := range leakFields() {
		for _, n := range f.edge {
			x := someLeak()
			f.put(&x, n)
			if !impl.LeakRight(x) {
				t.Errorf("LeakRight(%+v): got false", x)
			}
		}
	}
	for _, x := range wrongLeaks() {
		if impl.LeakRight(x) {
			t.Errorf("LeakRight(%+v): got true", x)
		}
	}
	for length := range int64(33) {
		x := someLeak()
		x.Within = impl.NetOf(topAddr, length)
		if !impl.LeakRight(x) {
			t.Errorf("LeakRight(%+v): got false", x)
		}
	}
	for tag := int64(-5); tag < 1<<16+5; tag++ {
		x := someLeak()
		x.Tag = tag
		if got := impl.LeakRight(x); got != (tag >= 1000 && tag <= 65535) {
			t.Fatalf("LeakRight(%+v): got %v", x, got)
		}
	}
}

func TestLeaksRight(t *testing.T) {
	for many := range mostRules + 1 {
		if !impl.LeaksRight(someLeaks(many)) {
			t.Errorf("LeaksRight of %d: got false", many)
		}
		for at := range many {
			for _, bad := range wrongLeaks() {
				l := someLeaks(many)
				l[at] = bad
				if impl.LeaksRight(l) {
					t.Errorf("LeaksRight(%+v): got true", l)
				}
			}
		}
	}
	if !impl.LeaksRight([]impl.Leak{}) {
		t.Errorf("LeaksRight of an empty list: got false")
	}
	if !impl.LeaksRight(slices.Repeat([]impl.Leak{someLeak()}, mostRules)) {
		t.Errorf("LeaksRight of one four times: got false")
	}
	for _, many := range []int{5, 6, 256, 257, impl.MaxList, impl.MaxList + 1} {
		if impl.LeaksRight(someLeaks(many)) {
			t.Errorf("LeaksRight of %d: got true", many)
		}
	}
}

func TestSourcesOf(t *testing.T) {
	rule := func(from, to int64) impl.Leak {
		return impl.Leak{From: from, To: to, Add: 1, Tag: 1000}
	}
	for _, x := range []struct {
		what string
		l    []impl.Leak
		to   int64
		want []int64
	}{
		{"no rules, the first", nil, 0, []int64{0}},
		{"no rules, the last", nil, 2, []int64{2}},
		{"no rules, one too far", nil, 3, nil},
		{"no rules, below", nil, -1, nil},
		{"an empty list", []impl.Leak{}, 1, []int64{1}},
		{"one from below", []impl.Leak{rule(0, 2)}, 2, []int64{0, 2}},
		{"one from above", []impl.Leak{rule(2, 0)}, 0, []int64{0, 2}},
		{"both, rising", []impl.Leak{rule(0, 1), rule(2, 1)}, 1, []int64{0, 1, 2}},
		{"both, falling", []impl.Leak{rule(2, 1), rule(0, 1)}, 1, []int64{0, 1, 2}},
		{"both from below, falling", []impl.Leak{rule(1, 2), rule(0, 2)}, 2, []int64{0, 1, 2}},
		{"both from above, falling", []impl.Leak{rule(2, 0), rule(1, 0)}, 0, []int64{0, 1, 2}},
		{"two of one From", []impl.Leak{rule(2, 1), rule(2, 1)}, 1, []int64{1, 2}},
		{"two of one From, another between", []impl.Leak{rule(2, 1), rule(0, 1), rule(2, 1)}, 1, []int64{0, 1, 2}},
		{"all four of one From", []impl.Leak{rule(0, 2), rule(0, 2), rule(0, 2), rule(0, 2)}, 2, []int64{0, 2}},
		{"to others alone", []impl.Leak{rule(0, 1), rule(0, 2), rule(1, 2), rule(2, 1)}, 0, []int64{0}},
		{"of a rule to it no further", []impl.Leak{rule(0, 1), rule(1, 2)}, 2, []int64{1, 2}},
		{"among others", []impl.Leak{rule(1, 0), rule(0, 2), rule(2, 1), rule(1, 2)}, 2, []int64{0, 1, 2}},
		{"one too far", []impl.Leak{rule(0, 1)}, 3, nil},
		{"below", []impl.Leak{rule(0, 1)}, -1, nil},
		{"a rule that is not right", []impl.Leak{rule(0, 1), rule(3, 1)}, 1, nil},
		{"a rule that is not right, to others", []impl.Leak{rule(0, 1), rule(2, 2)}, 1, nil},
	} {
		if got := impl.SourcesOf(x.l, x.to); !slices.Equal(got, x.want) {
			t.Errorf("%s: SourcesOf(%+v, %d): got %v, want %v", x.what, x.l, x.to, got, x.want)
		}
	}
}

func TestSourcesOfEdges(t *testing.T) {
	for many := range mostRules + 1 {
		l := someLeaks(many)
		for _, to := range edgeParties {
			if got := impl.SourcesOf(l, to); !slices.Equal(got, plainSources(l, to)) || !slices.Contains(got, to) {
				t.Errorf("SourcesOf(%+v, %d): got %v", l, to, got)
			}
			for at := range many {
				for _, bad := range wrongLeaks() {
					wrong := slices.Clone(l)
					wrong[at] = bad
					if got := impl.SourcesOf(wrong, to); len(got) != 0 {
						t.Errorf("SourcesOf(%+v, %d): got %v", wrong, to, got)
					}
				}
			}
		}
		for _, to := range wrongParties {
			if got := impl.SourcesOf(l, to); len(got) != 0 {
				t.Errorf("SourcesOf(%+v, %d): got %v", l, to, got)
			}
		}
	}
	for _, many := range []int{5, 6, 256, impl.MaxList, impl.MaxList + 1} {
		for _, to := range edgeParties {
			if got := impl.SourcesOf(someLeaks(many), to); len(got) != 0 {
				t.Errorf("SourcesOf %d rules: got %v", many, got)
			}
		}
	}
}

// TestP12WhatARuleLetsThrough has each field that counts at its edges, and what is got, written out.
func TestP12WhatARuleLetsThrough(t *testing.T) {
	n := impl.Net{Addr: 0x0A010000, Len: 16}
	route := func(metric, tag int64) impl.Route {
		return impl.Route{Net: n, Metric: metric, Next: 9, Iface: 1, Tag: tag, Until: 12}
	}
	got := func(metric int64) []impl.Route {
		return []impl.Route{{Net: n, Metric: metric, Next: 1, Iface: 3, Tag: 1234, Until: 16, Changed: true}}
	}
	gone := impl.Route{Net: n, Metric: 16, Next: 9, Iface: 1, Bin: 12}
	own := impl.Route{Net: n, Metric: 1, Iface: 2}
	ownFar := impl.Route{Net: n, Metric: 15, Iface: 2, Tag: 999}
	changed := route(3, 0)
	changed.Changed = true
	due := route(3, 0)
	due.Until = 1
	for _, x := range []struct {
		what   string
		r      impl.Route
		within impl.Net
		add    int64
		want   []impl.Route
	}{
		{"an ordinary one", route(3, 7), impl.Net{}, 2, got(5)},
		{"one that is Changed", changed, impl.Net{}, 2, got(5)},
		{"one that is due", due, impl.Net{}, 2, got(5)},
		{"its own", own, impl.Net{}, 2, got(3)},
		{"its own, far", ownFar, impl.Net{}, 1, nil},
		{"out of reach", gone, impl.Net{}, 1, nil},
		{"the least Metric and Add", route(1, 0), impl.Net{}, 1, got(2)},
		{"together below Infinity", route(5, 0), impl.Net{}, 10, got(15)},
		{"together at Infinity", route(5, 0), impl.Net{}, 11, nil},
		{"together above Infinity", route(5, 0), impl.Net{}, 12, nil},
		{"together far above Infinity", route(15, 0), impl.Net{}, 15, nil},
		{"the most below", route(14, 0), impl.Net{}, 1, got(15)},
		{"the most of Add", route(1, 0), impl.Net{}, 14, got(15)},
		{"no Tag", route(3, 0), impl.Net{}, 2, got(5)},
		{"the last Tag", route(3, 999), impl.Net{}, 2, got(5)},
		{"the first Tag of rules", route(3, 1000), impl.Net{}, 2, nil},
		{"the next Tag of rules", route(3, 1001), impl.Net{}, 2, nil},
		{"the Tag of this rule", route(3, 1234), impl.Net{}, 2, nil},
		{"the greatest Tag", route(3, 65535), impl.Net{}, 2, nil},
		{"the same Net", route(3, 0), n, 2, got(5)},
		{"one bit wider", route(3, 0), impl.Net{Addr: 0x0A000000, Len: 15}, 2, got(5)},
		{"one bit narrower", route(3, 0), impl.Net{Addr: 0x0A010000, Len: 17}, 2, nil},
		{"the narrowest", route(3, 0), impl.Net{Addr: 0x0A010000, Len: 32}, 2, nil},
		{"the one beside it", route(3, 0), impl.Net{Addr: 0x0A000000, Len: 16}, 2, nil},
		{"another one, wider", route(3, 0), impl.Net{Addr: 0x0B000000, Len: 8}, 2, nil},
		{"another half of all", route(3, 0), impl.Net{Addr: 0x80000000, Len: 1}, 2, nil},
		{"its half of all", route(3, 0), impl.Net{Len: 1}, 2, got(5)},
	} {
		rule := impl.Leak{From: 0, To: 1, Within: x.within, Add: x.add, Tag: 1234}
		from := impl.Rib{Routes: []impl.Route{x.r}}
		holdRibs(t, x.what, impl.LeakOnce([]impl.Rib{from, {}}, []impl.Leak{rule}, 10), from, impl.Rib{Routes: x.want})
		other := impl.Rib{Routes: []impl.Route{liveRoute(netsOfAll()[10])}}
		among := impl.Rib{Routes: append(slices.Clone(x.want), other.Routes...)}
		holdRibs(t, x.what+", among others", impl.LeakOnce([]impl.Rib{from, other}, []impl.Leak{rule}, 10), from, among)
	}
}

// TestLeakOnceNext: who the rule is from, and its Tag and Add, are seen in what is got.
func TestLeakOnceNext(t *testing.T) {
	n := netsOfAll()[4]
	for _, from := range edgeParties {
		for _, to := range edgeParties {
			if from == to {
				continue
			}
			for _, tag := range edgeRuleTags {
				for _, add := range edgeAdds {
					for _, now := range edgeNows {
						ribs := make([]impl.Rib, 3)
						ribs[from] = impl.Rib{Routes: []impl.Route{ownRoute(n)}}
						want := slices.Clone(ribs)
						if add < 15 {
							want[to] = impl.Rib{Routes: []impl.Route{{Net: n, Metric: 1 + add, Next: from + 1, Iface: 3, Tag: tag, Until: now + 6, Changed: true}}}
						}
						rule := impl.Leak{From: from, To: to, Add: add, Tag: tag}
						holdRibs(t, "got", impl.LeakOnce(ribs, []impl.Leak{rule}, now), want...)
					}
				}
			}
		}
	}
}

// TestLeakOnceOntoWhatIsThere has what the Rib To may have of the Net, and what becomes of it, written out.
func TestLeakOnceOntoWhatIsThere(t *testing.T) {
	n := impl.Net{Addr: 0x0A010000, Len: 16}
	from := impl.Rib{Routes: []impl.Route{{Net: n, Metric: 3, Next: 9, Iface: 1, Tag: 7, Until: 12}}}
	rule := impl.Leak{From: 2, To: 0, Add: 2, Tag: 1500}
	got := impl.Route{Net: n, Metric: 5, Next: 3, Iface: 3, Tag: 1500, Until: 16, Changed: true}
	with := func(change func(*impl.Route)) impl.Route {
		r := got
		r.Until, r.Changed = 11, false
		change(&r)
		return r
	}
	again := got
	again.Changed = false
	lost := with(func(r *impl.Route) { r.Metric, r.Until, r.Bin = 16, 0, 11 })
	elsewhere := func(metric int64) impl.Route {
		return impl.Route{Net: n, Metric: metric, Next: 8, Iface: 1, Tag: 7, Until: 12}
	}
	own := impl.Route{Net: n, Metric: 15, Iface: 1}
	for _, x := range []struct {
		what      string
		old, want impl.Route
	}{
		{"its own", own, own},
		{"the same again", with(func(*impl.Route) {}), again},
		{"the same again, Changed", with(func(r *impl.Route) { r.Changed = true }), got},
		{"another Metric of the same", with(func(r *impl.Route) { r.Metric = 4 }), got},
		{"another Tag of the same", with(func(r *impl.Route) { r.Tag = 1501 }), got},
		{"out of reach", lost, got},
		{"of another tenant, less", with(func(r *impl.Route) { r.Next, r.Metric = 2, 4 }), with(func(r *impl.Route) { r.Next, r.Metric = 2, 4 })},
		{"of another tenant, the same", with(func(r *impl.Route) { r.Next = 2 }), with(func(r *impl.Route) { r.Next = 2 })},
		{"of another tenant, more", with(func(r *impl.Route) { r.Next, r.Metric = 2, 6 }), got},
		{"of a neighbour, less", elsewhere(4), elsewhere(4)},
		{"of a neighbour, the same", elsewhere(5), elsewhere(5)},
		{"of a neighbour, more", elsewhere(6), got},
	} {
		old, want := impl.Rib{Routes: []impl.Route{x.old}}, impl.Rib{Routes: []impl.Route{x.want}}
		holdRibs(t, x.what, impl.LeakOnce([]impl.Rib{old, {}, from}, []impl.Leak{rule}, 10), want, impl.Rib{}, from)
	}
	far := rule
	far.Add = 13
	was, gone := with(func(*impl.Route) {}), impl.Route{Net: n, Metric: 16, Next: 3, Iface: 3, Tag: 1500, Bin: 14, Changed: true}
	holdRibs(t, "out of reach from now on", impl.LeakOnce([]impl.Rib{ribOf(was).Rib, {}, from}, []impl.Leak{far}, 10), ribOf(gone).Rib, impl.Rib{}, from)
	holdRibs(t, "out of reach as it was", impl.LeakOnce([]impl.Rib{ribOf(lost).Rib, {}, from}, []impl.Leak{far}, 10), ribOf(lost).Rib, impl.Rib{}, from)
	far.Add = 15
	holdRibs(t, "no more than Infinity", impl.LeakOnce([]impl.Rib{ribOf(was).Rib, {}, from}, []impl.Leak{far}, 10), ribOf(gone).Rib, impl.Rib{}, from)
}

// TestLeakOnceLetsPassWhatIsNotSaidAgain: what the rule does not let through tells nothing, not even that it is gone.
func TestLeakOnceLetsPassWhatIsNotSaidAgain(t *testing.T) {
	n := netsOfAll()[4]
	was := impl.Rib{Routes: []impl.Route{{Net: n, Metric: 5, Next: 1, Iface: 3, Tag: 1000, Until: 11}}}
	rule := someLeak()
	for _, from := range []impl.Rib{{}, ribOf(goneRoute(n)).Rib, ribOf(liveRoute(netsOfAll()[3])).Rib} {
		narrow := rule
		narrow.Within = n
		holdRibs(t, "nothing of the Net", impl.LeakOnce([]impl.Rib{from, was}, []impl.Leak{narrow}, 10), from, was)
	}
}

func TestLeakOnceRuleByRule(t *testing.T) {
	a, b, c := netsOfAll()[2], netsOfAll()[4], netsOfAll()[10]
	route := func(n impl.Net, metric int64) impl.Route {
		return impl.Route{Net: n, Metric: metric, Next: 9, Iface: 1, Until: 12}
	}
	got := func(n impl.Net, metric, from, tag int64) impl.Route {
		return impl.Route{Net: n, Metric: metric, Next: from + 1, Iface: 3, Tag: tag, Until: 16, Changed: true}
	}
	rule := func(from, to, add, tag int64) impl.Leak {
		return impl.Leak{From: from, To: to, Add: add, Tag: tag}
	}
	one, two, three := ribOf(route(a, 1)).Rib, ribOf(route(b, 2)).Rib, ribOf(route(c, 3)).Rib
	ribs := []impl.Rib{one, two, three}
	holdRibs(t, "two into one", impl.LeakOnce(ribs, []impl.Leak{rule(0, 1, 1, 1000), rule(2, 1, 2, 2000)}, 10),
		one, ribOf(got(a, 2, 0, 1000), route(b, 2), got(c, 5, 2, 2000)).Rib, three)
	holdRibs(t, "into one out of which another goes", impl.LeakOnce(ribs, []impl.Leak{rule(0, 1, 1, 1000), rule(1, 2, 2, 2000)}, 10),
		one, ribOf(got(a, 2, 0, 1000), route(b, 2)).Rib, ribOf(got(b, 4, 1, 2000), route(c, 3)).Rib)
	holdRibs(t, "there and back", impl.LeakOnce(ribs, []impl.Leak{rule(0, 1, 1, 1000), rule(1, 0, 2, 2000)}, 10),
		ribOf(route(a, 1), got(b, 4, 1, 2000)).Rib, ribOf(got(a, 2, 0, 1000), route(b, 2)).Rib, three)
	holdRibs(t, "all round", impl.LeakOnce(ribs, []impl.Leak{rule(0, 1, 1, 1000), rule(1, 2, 1, 1001), rule(2, 0, 1, 1002)}, 10),
		ribOf(route(a, 1), got(c, 4, 2, 1002)).Rib, ribOf(got(a, 2, 0, 1000), route(b, 2)).Rib, ribOf(got(b, 3, 1, 1001), route(c, 3)).Rib)
	holdRibs(t, "the last of one From counts", impl.LeakOnce(ribs, []impl.Leak{rule(0, 1, 1, 1000), rule(0, 1, 5, 1001)}, 10),
		one, ribOf(got(a, 6, 0, 1001), route(b, 2)).Rib, three)
	far := impl.LeakOnce(ribs, []impl.Leak{rule(0, 1, 1, 1000), rule(0, 1, 15, 1001)}, 10)
	gone := impl.Route{Net: a, Metric: 16, Next: 1, Iface: 3, Tag: 1000, Bin: 14, Changed: true}
	holdRibs(t, "said to be out of reach behind it", far, one, ribOf(gone, route(b, 2)).Rib, three)
	near := []impl.Rib{ribOf(route(a, 3)).Rib, {}, ribOf(route(a, 3)).Rib}
	holdRibs(t, "the nearer of two", impl.LeakOnce(near, []impl.Leak{rule(0, 1, 4, 1000), rule(2, 1, 3, 1001)}, 10), near[0], ribOf(got(a, 6, 2, 1001)).Rib, near[2])
	holdRibs(t, "the first of two as near", impl.LeakOnce(near, []impl.Leak{rule(0, 1, 3, 1000), rule(2, 1, 3, 1001)}, 10), near[0], ribOf(got(a, 6, 0, 1000)).Rib, near[2])
	holdRibs(t, "the first of two as near, turned", impl.LeakOnce(near, []impl.Leak{rule(2, 1, 3, 1001), rule(0, 1, 3, 1000)}, 10), near[0], ribOf(got(a, 6, 2, 1001)).Rib, near[2])
}

// TestLeakOnceReadsAsAtFirst: what a rule puts in the place of another one is not yet seen by a later rule.
func TestLeakOnceReadsAsAtFirst(t *testing.T) {
	n := netsOfAll()[4]
	near := impl.Route{Net: n, Metric: 2, Next: 9, Iface: 1, Until: 12}
	far := impl.Route{Net: n, Metric: 9, Next: 8, Iface: 0, Tag: 5, Until: 12}
	ribs := []impl.Rib{ribOf(near).Rib, ribOf(far).Rib, {}}
	in := impl.Leak{From: 0, To: 1, Add: 1, Tag: 1000}
	out := impl.Leak{From: 1, To: 2, Add: 1, Tag: 1001}
	taken := impl.Route{Net: n, Metric: 3, Next: 1, Iface: 3, Tag: 1000, Until: 16, Changed: true}
	told := impl.Route{Net: n, Metric: 10, Next: 2, Iface: 3, Tag: 1001, Until: 16, Changed: true}
	for _, l := range [][]impl.Leak{{in, out}, {out, in}} {
		holdRibs(t, "at first", impl.LeakOnce(ribs, l, 10), ribs[0], ribOf(taken).Rib, ribOf(told).Rib)
	}
	later := impl.LeakOnce(ribs, []impl.Leak{in, out}, 10)
	holdRibs(t, "and behind it", impl.LeakOnce(later, []impl.Leak{out}, 11), later...)
}

func TestLeakOnceInAFullTable(t *testing.T) {
	nets := netsOfAll()
	to := impl.Rib{}
	for _, n := range nets[:7] {
		r := liveRoute(n)
		r.Metric = 15
		to.Routes = append(to.Routes, r)
	}
	var from impl.Rib
	for _, at := range []int{0, 5, 7, 8, 9, 10, 11} {
		r := liveRoute(nets[at])
		r.Metric = 1
		from.Routes = append(from.Routes, r)
	}
	got := func(at int) impl.Route {
		return impl.Route{Net: nets[at], Metric: 3, Next: 1, Iface: 3, Tag: 1000, Until: 26, Changed: true}
	}
	room := plainWith(to, got(7))
	room.Routes[0], room.Routes[5] = got(0), got(5)
	holdRibs(t, "room for one", impl.LeakOnce([]impl.Rib{from, to}, []impl.Leak{someLeak()}, 20), from, room)
	full := impl.Rib{Routes: append(slices.Clone(to.Routes), liveRoute(nets[11]))}
	want := impl.Rib{Routes: append(slices.Clone(to.Routes), got(11))}
	want.Routes[0], want.Routes[5] = got(0), got(5)
	full.Routes[7].Metric = 15
	holdRibs(t, "no room, the others are learned", impl.LeakOnce([]impl.Rib{from, full}, []impl.Leak{someLeak()}, 20), from, want)
	far := someLeak()
	far.Add = 15
	holdRibs(t, "Infinity needs no room", impl.LeakOnce([]impl.Rib{from, full}, []impl.Leak{far}, 20), from, full)
	second := impl.Leak{From: 2, To: 1, Add: 1, Tag: 1007}
	other := ribOf(liveRoute(nets[8]), liveRoute(nets[11])).Rib
	holdRibs(t, "no room for the second rule's", impl.LeakOnce([]impl.Rib{{}, full, other}, []impl.Leak{someLeak(), second}, 20), impl.Rib{},
		impl.Rib{Routes: append(slices.Clone(to.Routes), impl.Route{Net: nets[11], Metric: 4, Next: 3, Iface: 3, Tag: 1007, Until: 26, Changed: true})}, other)
}

// TestLeakOnceHowManyRibs: rules of those that are not there do nothing, and the others do all.
func TestLeakOnceHowManyRibs(t *testing.T) {
	for from := range int64(3) {
		for to := range int64(3) {
			if from == to {
				continue
			}
			rule := impl.Leak{From: from, To: to, Add: 1, Tag: 1000}
			for many := range mostRibs + 1 {
				ribs := threeRibs()[:many]
				holdLeaks(t, "one rule", ribs, []impl.Leak{rule}, 10)
				there := from < int64(many) && to < int64(many)
				if got := impl.LeakOnce(ribs, []impl.Leak{rule}, 10); sameRibs(got, ribs) == there {
					t.Errorf("from %d to %d of %d: got %+v", from, to, many, got)
				}
				if got := impl.LeakOnce(ribs, []impl.Leak{rule}, 10); len(got) != many {
					t.Errorf("from %d to %d of %d: got %d", from, to, many, len(got))
				}
			}
		}
	}
	two := threeRibs()[:2]
	missing := []impl.Leak{{From: 2, To: 0, Add: 1, Tag: 1001}, {From: 0, To: 2, Add: 1, Tag: 1002}}
	holdRibs(t, "not there among those that are", impl.LeakOnce(two, append(missing, someLeak()), 10), impl.LeakOnce(two, []impl.Leak{someLeak()}, 10)...)
	holdRibs(t, "none that is there", impl.LeakOnce(two, missing, 10), two...)
	for many := range mostRules + 1 {
		for size := range mostRibs + 1 {
			holdLeaks(t, "how many", threeRibs()[:size], someLeaks(many), 10)
			holdRibs(t, "no rules", impl.LeakOnce(threeRibs()[:size], nil, 10), threeRibs()[:size]...)
			holdRibs(t, "an empty list of rules", impl.LeakOnce(threeRibs()[:size], []impl.Leak{}, 10), threeRibs()[:size]...)
		}
		holdNoLeak(t, "no Ribs", nil, someLeaks(many), 10)
		holdNoLeak(t, "an empty list of Ribs", []impl.Rib{}, someLeaks(many), 10)
	}
}

func TestLeakOnceFaults(t *testing.T) {
	for many := range mostRules + 1 {
		l := someLeaks(many)
		for _, size := range []int{4, 5, 256, impl.MaxList, impl.MaxList + 1} {
			holdNoLeak(t, "too many Ribs", slices.Repeat(threeRibs()[:1], size), l, 10)
			holdNoLeak(t, "too many empty Ribs", make([]impl.Rib, size), l, 10)
		}
		for _, now := range wrongNows {
			holdNoLeak(t, "a wrong now", threeRibs(), l, now)
		}
		for _, now := range edgeNows {
			if got := impl.LeakOnce(threeRibs(), l, now); len(got) != mostRibs {
				t.Errorf("now %d: got %+v", now, got)
			}
			holdLeaks(t, "now", threeRibs(), l, now)
		}
		for _, bad := range wrongRibs() {
			for size := 1; size <= mostRibs; size++ {
				for at := range size {
					ribs := threeRibs()[:size]
					ribs[at] = bad
					holdNoLeak(t, "a wrong Rib", ribs, l, 10)
				}
			}
		}
		for at := range many {
			for _, bad := range wrongLeaks() {
				wrong := slices.Clone(l)
				wrong[at] = bad
				for size := range mostRibs + 1 {
					holdNoLeak(t, "a wrong rule", threeRibs()[:size], wrong, 10)
				}
			}
		}
	}
	for _, many := range []int{5, 6, 256, impl.MaxList, impl.MaxList + 1} {
		holdNoLeak(t, "too many rules", threeRibs(), someLeaks(many), 10)
	}
}

// TestLeaksAny asks all calls of all kinds of right Ribs and rules.
func TestLeaksAny(t *testing.T) {
	r := rand.New(rand.NewSource(81))
	changed, passed := 0, 0
	for range 20000 {
		now := anyNow(r)
		ribs := anyLeakRibs(r, r.Intn(mostRibs+1), now)
		l := anyLeaks(r, r.Intn(mostRules+1))
		holdLeaks(t, "any", ribs, l, now)
		if sameRibs(impl.LeakOnce(ribs, l, now), ribs) {
			passed++
		} else {
			changed++
		}
	}
	if changed < 1000 || passed < 1000 {
		t.Errorf("changed %d times, and %d times not", changed, passed)
	}
}

// TestP12NothingThatWasGotSo: one by one of what is new in a Rib, some rule to it lets it through, and it did not come by a rule.
func TestP12NothingThatWasGotSo(t *testing.T) {
	r := rand.New(rand.NewSource(82))
	for range 10000 {
		now := anyNow(r)
		ribs, l := anyLeakRibs(r, mostRibs, now), anyLeaks(r, 1+r.Intn(mostRules))
		for to, got := range impl.LeakOnce(ribs, l, now) {
			for _, x := range got.Routes {
				if impl.RibFind(ribs[to], x.Net) == x {
					continue
				}
				lets := slices.ContainsFunc(l, func(rule impl.Leak) bool {
					was := impl.RibFind(ribs[rule.From], x.Net)
					return rule.To == int64(to) && x.Next == rule.From+1 && was.Metric > 0 && was.Metric < 16 && was.Tag < 1000 && impl.Within(rule.Within, x.Net)
				})
				if !lets || x.Iface != impl.LeakIface || x.Metric < 16 && x.Tag < impl.LeakTag {
					t.Fatalf("LeakOnce(%+v, %+v, %d): the Rib %d has %+v", ribs, l, now, to, x)
				}
			}
		}
	}
}

// TestP12GetsWhatARuleLetsThrough: with room, and one rule, what passes is there, no farther than it says.
func TestP12GetsWhatARuleLetsThrough(t *testing.T) {
	r := rand.New(rand.NewSource(83))
	passed := 0
	for range 10000 {
		now := anyNow(r)
		ribs := []impl.Rib{anyLeakRib(r, r.Intn(5), now), anyLeakRib(r, r.Intn(5), now), {}}
		rule := anyLeak(r)
		rule.From, rule.To = 0, 1
		got := impl.LeakOnce(ribs, []impl.Leak{rule}, now)
		for _, x := range ribs[0].Routes {
			was, is := impl.RibFind(ribs[1], x.Net), impl.RibFind(got[1], x.Net)
			switch {
			case !plainLets(rule, x) || was != (impl.Route{}) && was.Next == 0:
				if is != was {
					t.Fatalf("LeakOnce(%+v, %+v, %d): %+v is %+v", ribs, rule, now, was, is)
				}
			case x.Metric+rule.Add < 16:
				passed++
				if is.Metric == 0 || is.Metric > x.Metric+rule.Add {
					t.Fatalf("LeakOnce(%+v, %+v, %d): of %+v there is %+v", ribs, rule, now, x, is)
				}
			}
		}
	}
	if passed < 1000 {
		t.Errorf("only %d have passed", passed)
	}
}

// TestP12WhoHasNoRule: such a Rib is as it was, whatever the others have; and nobody's rules take anything from whom they are from.
func TestP12WhoHasNoRule(t *testing.T) {
	r := rand.New(rand.NewSource(84))
	for range 10000 {
		now := anyNow(r)
		ribs, l := anyLeakRibs(r, 1+r.Intn(mostRibs), now), anyLeaks(r, r.Intn(mostRules+1))
		got := impl.LeakOnce(ribs, l, now)
		for to := range ribs {
			sources := impl.SourcesOf(l, int64(to))
			if len(sources) == 1 && !slices.Equal(got[to].Routes, ribs[to].Routes) {
				t.Fatalf("LeakOnce(%+v, %+v, %d): the Rib %d has no rule, but is %+v", ribs, l, now, to, got[to])
			}
			others := slices.Clone(ribs)
			for at := range others {
				if !slices.Contains(sources, int64(at)) {
					others[at] = impl.Rib{}
				}
			}
			if again := impl.LeakOnce(others, l, now); !slices.Equal(again[to].Routes, got[to].Routes) {
				t.Fatalf("LeakOnce(%+v, %+v, %d): the Rib %d has something of none of %v", ribs, l, now, to, sources)
			}
		}
	}
}

// TestP12NoFurther: however often the rules are gone through, what the 0 has comes to the 1, and from there to nobody.
func TestP12NoFurther(t *testing.T) {
	n := netsOfAll()
	ribs := []impl.Rib{ribOf(ownRoute(n[4])).Rib, ribOf(ownRoute(n[6])).Rib, ribOf(ownRoute(n[10])).Rib}
	l := []impl.Leak{
		{From: 0, To: 1, Add: 1, Tag: 1000},
		{From: 1, To: 2, Add: 1, Tag: 1001},
		{From: 2, To: 0, Add: 1, Tag: 65535},
	}
	for now := range int64(40) {
		for i := range ribs {
			ribs[i] = impl.RibTick(ribs[i], now).Rib
		}
		ribs = impl.LeakOnce(ribs, l, now)
		for i, at := range []int{4, 6, 10} {
			there := []impl.Route{impl.RibFind(ribs[i], n[at]), impl.RibFind(ribs[(i+1)%3], n[at]), impl.RibFind(ribs[(i+2)%3], n[at])}
			if there[0].Next != 0 || there[1].Metric != 2 || there[1].Next != int64(i)+1 || there[2] != (impl.Route{}) {
				t.Fatalf("at %d: of the Net of %d: %+v", now, i, there)
			}
		}
	}
}

// TestP12GoesWithoutTheRule: without the rule what was got ages, and goes.
func TestP12GoesWithoutTheRule(t *testing.T) {
	n := netsOfAll()[4]
	ribs := impl.LeakOnce([]impl.Rib{ribOf(ownRoute(n)).Rib, {}}, []impl.Leak{someLeak()}, 10)
	for now := int64(11); now < 25; now++ {
		ribs[1] = impl.RibTick(ribs[1], now).Rib
		ribs = impl.LeakOnce(ribs, nil, now)
		want := int64(3)
		if now >= 16 {
			want = 16
		}
		if now >= 20 {
			want = 0
		}
		if got := impl.RibFind(ribs[1], n).Metric; got != want {
			t.Errorf("at %d: got %d, want %d", now, got, want)
		}
	}
}

// TestLeakKeepsNothing: no call writes into what it is given, and none hands a piece of it out.
func TestLeakKeepsNothing(t *testing.T) {
	r := rand.New(rand.NewSource(85))
	for range 2000 {
		var ribs []impl.Rib
		var wholes, were [][]impl.Route
		for range 1 + r.Intn(mostRibs) {
			rib, whole := spare(anyLeakRib(r, r.Intn(mostRoutes+1), 500))
			ribs, wholes, were = append(ribs, rib), append(wholes, whole), append(were, slices.Clone(whole))
		}
		l := anyLeaks(r, r.Intn(mostRules+1))
		rules := append(slices.Clone(l), impl.Leak{Add: 71}, impl.Leak{Add: 72})
		heads := slices.Clone(ribs)
		got := impl.LeakOnce(ribs, rules[:len(l)], 500)
		kept := plainLeakOnce(ribs, l, 500)
		for i := range got {
			for at := range got[i].Routes {
				got[i].Routes[at] = impl.Route{Tag: 77}
			}
			_ = append(got[i].Routes, impl.Route{Tag: 78})
			got[i] = impl.Rib{}
		}
		sources := impl.SourcesOf(rules[:len(l)], 1)
		for i := range sources {
			sources[i] = 77
		}
		impl.LeaksRight(rules[:len(l)])
		for i := range wholes {
			if !slices.Equal(wholes[i], were[i]) {
				t.Fatalf("what was handed in is changed: %+v, was %+v", wholes[i], were[i])
			}
		}
		if !sameRibs(ribs, heads) || !slices.Equal(rules[:len(l)], l) || rules[len(l)].Add != 71 || rules[len(l)+1].Add != 72 {
			t.Fatalf("what was handed in is changed: %+v and %+v", ribs, rules)
		}
		holdRibs(t, "again", impl.LeakOnce(ribs, l, 500), kept...)
	}
}

// TestLeakOnceSharesNothing: no two Ribs told share Routes, even if those handed in do.
func TestLeakOnceSharesNothing(t *testing.T) {
	for many := range mostRoutes + 1 {
		one, whole := spare(someRib(many))
		for rules := range mostRules + 1 {
			got := impl.LeakOnce([]impl.Rib{one, one, one}, someLeaks(rules), 10)
			want := plainLeakOnce([]impl.Rib{one, one, one}, someLeaks(rules), 10)
			were := slices.Clone(whole)
			for i := range got {
				holdRibs(t, "not written into by others", got[i:i+1], want[i])
				for at := range got[i].Routes {
					got[i].Routes[at] = impl.Route{Tag: 77}
				}
				_ = append(got[i].Routes, impl.Route{Tag: 78})
			}
			if !slices.Equal(whole, were) {
				t.Errorf("%d Routes, %d rules: what was handed in is changed: %+v", many, rules, whole)
			}
		}
	}
}
