package flow

import (
	"iter"

	"skirmish/api"
	"skirmish/grid"
	"skirmish/terrain"
)

// highest is more than any way of least cost can cost: it enters each cell at most once, and no step costs 20.
const highest = 20 * api.MaxSide * api.MaxSide

// A search finds the costs and directions of a field. Cells are known by their indices.
type search struct {
	m       api.Map
	blocked []bool
	field   api.Field
	waiting queue
}

// A step leads to the cell to in a direction.
type step struct{ dir, to, cost int }

// steps produces the possible steps from the cell i, in ascending directions.
func (s *search) steps(i int) iter.Seq[step] {
	return func(yield func(step) bool) {
		p := grid.At(s.m.W, i)
		for dir := range directions {
			cost, ok := terrain.Step(s.m, s.blocked, s.field.Class, p, dir)
			if ok && !yield(step{dir, grid.Index(s.m.W, grid.Step(p, dir)), cost}) {
				return
			}
		}
	}
}

// spread improves the ways of other cells by those of the cells that wait, until no way can be improved.
func (s *search) spread() {
	for i, ok := s.waiting.next(s.field.Cost); ok; i, ok = s.waiting.next(s.field.Cost) {
		for t := range s.steps(i) {
			// Steps are symmetrical, so the step back from t.to to i costs the same.
			s.offer(t.to, (t.dir+directions/2)%directions, s.field.Cost[i]+t.cost)
		}
	}
}

// offer gives the cell i a way that begins in the direction dir, if it is better than the one that is known.
func (s *search) offer(i, dir, cost int) {
	known := s.field.Cost[i]
	if known == none || cost < known {
		s.field.Cost[i], s.field.Dir[i] = cost, dir
		s.wait(i)
	} else if cost == known {
		s.field.Dir[i] = min(s.field.Dir[i], dir)
	}
}

// wait adds the cell i to those that wait, if it has a way.
func (s *search) wait(i int) {
	if cost := s.field.Cost[i]; cost != none {
		s.waiting.add(i, cost)
	}
}

// repair corrects a field that was right before something changed, where the steps of no other cells than those of a list have changed.
func (s *search) repair(changed []int) {
	// First the ways are taken away that have lost a step. They are examined by cost, so what a way leads over is right before the way is.
	border := changed
	s.waitAll(changed)
	for i, ok := s.waiting.next(s.field.Cost); ok; i, ok = s.waiting.next(s.field.Cost) {
		if !s.redirect(i) {
			border = append(border, s.lose(i)...)
		}
	}
	// What is left are ways, but changed steps may make better ones, and cells without one may get one from the cells around them.
	s.waiting = queue{}
	s.waitAll(border)
	s.spread()
}

// waitAll adds those cells of a list to the ones that wait that have a way.
func (s *search) waitAll(list []int) {
	for _, i := range list {
		s.wait(i)
	}
}

// redirect gives the cell i, which has a way, the least direction of a way of the same cost, and returns false if there is none.
func (s *search) redirect(i int) bool {
	if s.field.Cost[i] == 0 {
		return true
	}
	for t := range s.steps(i) {
		if rest := s.field.Cost[t.to]; rest != none && rest+t.cost == s.field.Cost[i] {
			s.field.Dir[i] = t.dir
			return true
		}
	}
	return false
}

// lose takes the way of the cell i, lets those cells wait whose ways may lead over it, and returns the cells around it.
func (s *search) lose(i int) []int {
	cost := s.field.Cost[i]
	s.field.Cost[i], s.field.Dir[i] = none, none
	var around []int
	for t := range s.steps(i) {
		if s.field.Cost[t.to] == cost+t.cost {
			s.wait(t.to)
		}
		around = append(around, t.to)
	}
	return around
}

// touched returns the indices of the cells whose steps depend on the cells of a list: these, and the cells around them.
func touched(m api.Map, cells []api.Pos) []int {
	marks := make([]bool, len(m.Cells))
	for _, p := range cells {
		for _, q := range append(grid.Neighbors(m.W, m.H, p), p) {
			if grid.In(m.W, m.H, q) {
				marks[grid.Index(m.W, q)] = true
			}
		}
	}
	var list []int
	for i, marked := range marks {
		if marked {
			list = append(list, i)
		}
	}
	return list
}

// noCost tells whether a number cannot be the cost of a cell.
func noCost(cost int) bool {
	return cost < none || cost > highest
}
