package hier_test

import (
	"math/rand"
	"testing"

	"skirmish/api"
	"skirmish/hier"
)

// P16.6: graphs that differ in one thing.
func TestSame(t *testing.T) {
	list := []api.Graph{
		{}, {Class: 1}, {Class: -1}, {Class: maxInt},
		linked(1, cells(0, 0)), linked(1, cells(0, 1)), linked(1, cells(1, 0)), linked(1, cells(0, 0, 0, 1)), linked(1, cells(0, 1, 0, 0)), linked(2, cells(0, 0)),
		linked(1, nil, [3]int{0, 0, 0}), linked(1, nil, [3]int{1, 0, 0}), linked(1, nil, [3]int{0, 1, 0}), linked(1, nil, [3]int{0, 0, 1}), linked(1, nil, [3]int{0, 0, -1}),
		linked(1, nil, [3]int{0, 0, 0}, [3]int{0, 0, 0}), linked(1, nil, [3]int{0, 0, 0}, [3]int{0, 0, 1}), linked(1, nil, [3]int{0, 0, 1}, [3]int{0, 0, 0}),
		linked(1, cells(0, 0), [3]int{0, 0, 0}),
	}
	for i, a := range list {
		for j, b := range list {
			if ok := hier.Same(a, b); ok != (i == j) {
				t.Errorf("Same of %v and %v is %v", a, b, ok)
			}
		}
	}
	if !hier.Same(api.Graph{Nodes: []api.Node{}, Links: []api.Link{}}, api.Graph{}) {
		t.Error("nil slices and empty ones are not the same")
	}
	if !hier.Same(linked(3, cells(7, 0, 8, 0), [3]int{0, 1, 10}), linked(3, cells(7, 0, 8, 0), [3]int{0, 1, 10})) {
		t.Error("equal graphs in different memory are not the same")
	}
}

// spoil returns the graph with something wrong in it, which may be the graph of no map.
func spoil(random *rand.Rand, g api.Graph) api.Graph {
	numbers := []int{0, 1, -1, len(g.Nodes) - 1, len(g.Nodes), random.Intn(len(g.Nodes) + 1), 10, -10, 1 << 16, 1 << 32, maxInt, minInt, maxInt / 2}
	number := func() int { return numbers[random.Intn(len(numbers))] }
	s := api.Graph{Class: g.Class}
	for _, n := range g.Nodes {
		switch random.Intn(30) {
		case 0:
			n.At.X = number()
		case 1:
			n.At.Y = number()
		case 2:
			s.Nodes = append(s.Nodes, n)
		case 3:
			continue
		}
		s.Nodes = append(s.Nodes, n)
	}
	for _, l := range g.Links {
		switch random.Intn(60) {
		case 0:
			l.From = number()
		case 1:
			l.To = number()
		case 2, 3:
			l.Cost = number()
		case 4:
			s.Links = append(s.Links, l)
		case 5:
			continue
		}
		s.Links = append(s.Links, l)
	}
	return s
}

// costly returns the graph with other costs of links, some of which are 0 or less.
func costly(random *rand.Rand, g api.Graph, least int) api.Graph {
	s := api.Graph{Class: g.Class, Nodes: g.Nodes}
	for _, l := range g.Links {
		l.Cost = least + random.Intn(3)
		s.Links = append(s.Links, l)
	}
	return s
}

// P16.2 and P16.3 promise of other graphs only that each call ends (rule 0.1); a and b being inside and open is still asked for.
func TestOtherGraphs(t *testing.T) {
	random := rand.New(rand.NewSource(166))
	for i := range 60 {
		m := randomMap(random, 1+random.Intn(32), 1+random.Intn(32), i%4)
		d := model{m, randomBlocked(random, m), api.CFoot + i%3}
		g := built(t, m, d.blocked, d.class)
		other := randomMap(random, 1+random.Intn(32), 1+random.Intn(32), i%4)
		list := []api.Graph{
			spoil(random, g), costly(random, g, -2), costly(random, g, -1), costly(random, g, 0), costly(random, g, 1), costly(random, g, 1<<16-1), costly(random, g, maxInt-2),
			built(t, other, nil, d.class), built(t, flat(32, 32), nil, d.class), {Class: d.class},
		}
		for _, s := range list {
			if _, e := hier.Update(s, m, d.blocked, []api.Pos{d.at(0)}); e != api.OK {
				t.Fatalf("Update of %v: %d", s, e)
			}
			a, b := d.at(random.Intn(len(m.Cells))), d.at(random.Intn(len(m.Cells)))
			_, _, e := hier.Path(s, m, d.blocked, a, b)
			if ok := d.free(a) && d.free(b); ok == (e == api.ErrBlocked) || e == api.ErrArg {
				t.Fatalf("Path of %v from %v to %v: %d", s, a, b, e)
			}
			hier.Connected(s, m, d.blocked, a, b)
		}
	}
}

// Rule 0.1: graphs without a map, and with very many nodes and links.
func TestHugeGraphs(t *testing.T) {
	huge := api.Graph{Class: api.CFly}
	for i := range 1 << 18 {
		huge.Nodes = append(huge.Nodes, api.Node{At: at(i%32, i/32)})
		huge.Links = append(huge.Links, api.Link{From: i, To: i + 1, Cost: 1}, api.Link{From: i + 1, To: i, Cost: 1})
	}
	m := flat(32, 32)
	if _, e := hier.Update(huge, m, nil, nil); e != api.OK {
		t.Errorf("Update of a huge graph: %d", e)
	}
	if _, _, e := hier.Path(huge, m, nil, at(0, 0), at(7, 7)); e != api.OK {
		t.Errorf("Path within a cluster in a huge graph: %d", e)
	}
	hier.Connected(huge, m, nil, at(0, 0), at(31, 31))
}
