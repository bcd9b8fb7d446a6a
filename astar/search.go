package astar

import "skirmish/api"

// A frontier holds the cells that are still to be examined, by the costs of the ways to them. Count is the number of these cells.
type frontier struct {
	buckets [][]api.Pos
	count   int
}

// add adds a cell to which a way has been found.
func (f *frontier) add(p api.Pos, cost int) {
	for len(f.buckets) <= cost {
		f.buckets = append(f.buckets, nil)
	}
	f.buckets[cost] = append(f.buckets[cost], p)
	f.count++
}

// costs returns for each cell the least cost of a way to it from the cell start, and none if there is none.
func (g ground) costs(start api.Pos) (costs []int) {
	costs = g.numbers()
	if !g.free(start) {
		return costs
	}
	var f frontier
	// As long as a cell is to be examined, the costs need not be the least ones, and none of them counts.
	defer func() {
		if f.count != 0 {
			costs = g.numbers()
		}
	}()
	costs[g.index(start)] = 0
	f.add(start, 0)
	// Each step costs something, so a bucket does not grow once it is being examined, and the buckets behind it may.
	for cost := 0; cost < len(f.buckets); cost++ {
		for _, p := range f.buckets[cost] {
			f.count--
			// Otherwise a cheaper way to p has been found and examined since it was added.
			if costs[g.index(p)] == cost {
				g.examine(&f, costs, p)
			}
		}
	}
	return costs
}

// examine adds the cells to which the way over p is the cheapest one that has been found.
func (g ground) examine(f *frontier, costs []int, p api.Pos) {
	for q, step := range g.steps(p) {
		cost, i := costs[g.index(p)]+step, g.index(q)
		if costs[i] == none || cost < costs[i] {
			costs[i] = cost
			f.add(q, cost)
		}
	}
}

// descend returns the way from p on which each cell is the next one of the cell before; rests are the costs of the ways that are left.
func (g ground) descend(p api.Pos, rests []int) []api.Pos {
	path := []api.Pos{p}
	for {
		q, ok := g.next(p, rests)
		if !ok {
			return path
		}
		path = append(path, q)
		p = q
	}
}

// next returns the cell in the least direction from p in which the rest of the way has the least cost, and false if there is no rest.
func (g ground) next(p api.Pos, rests []int) (api.Pos, bool) {
	for q, step := range g.steps(p) {
		if step+rests[g.index(q)] == rests[g.index(p)] {
			return q, true
		}
	}
	return api.Pos{}, false
}

// fill gives the cells that are connected with p, which have no region, the region with a number.
func (g ground) fill(regions []int, p api.Pos, number int) {
	regions[g.index(p)] = number
	found := []api.Pos{p}
	for len(found) > 0 {
		last := len(found) - 1
		p, found = found[last], found[:last]
		for q := range g.steps(p) {
			if i := g.index(q); regions[i] == none {
				regions[i] = number
				found = append(found, q)
			}
		}
	}
}
