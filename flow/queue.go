package flow

// A queue holds the indices of cells that wait, in buckets by their costs. Buckets before the one with the number cost are empty.
type queue struct {
	buckets [][]int
	cost    int
}

// add adds a cell, whose cost is not less than that of the last cell that was taken.
func (q *queue) add(i, cost int) {
	for len(q.buckets) <= cost {
		q.buckets = append(q.buckets, nil)
	}
	q.buckets[cost] = append(q.buckets[cost], i)
}

// take removes and returns a cell of the least cost, and this cost; false if no cell is left.
func (q *queue) take() (i, cost int, ok bool) {
	for q.cost < len(q.buckets) {
		bucket := q.buckets[q.cost]
		if last := len(bucket) - 1; last >= 0 {
			q.buckets[q.cost] = bucket[:last]
			return bucket[last], q.cost, true
		}
		q.cost++
	}
	return 0, 0, false
}

// next takes a cell of the least cost that is still the cell's one of the list costs; false if no cell is left.
func (q *queue) next(costs []int) (int, bool) {
again:
	i, cost, ok := q.take()
	if ok && costs[i] != cost {
		goto again
	}
	return i, ok
}
