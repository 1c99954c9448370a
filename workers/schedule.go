package workers

import (
	"cmp"
	"slices"

	"grisaille/api"
)

const (
	maxCost = 1 << 30

	// scriptRows is at least the number of rows of every tile.
	scriptRows = 256
)

// checkCosts returns the error of a number of workers and of costs.
func checkCosts(costs []int, workers int) api.Errno {
	switch {
	case !validWorkers(workers):
		return api.ErrArgument
	case len(costs) > api.MaxTiles:
		return api.ErrLimit
	case slices.ContainsFunc(costs, func(n int) bool { return n < 0 || n > maxCost }):
		return api.ErrRange
	}
	return api.OK
}

// areWorkers reports whether all entries are numbers of workers.
func areWorkers(assigned []int, workers int) bool {
	return !slices.ContainsFunc(assigned, func(n int) bool { return n < 0 || n >= workers })
}

// Assign returns the schedule of the longest-processing-time rule.
func Assign(costs []int, workers int) ([]int, api.Errno) {
	if e := checkCosts(costs, workers); e != api.OK {
		return nil, e
	}
	order := make([]int, len(costs))
	for i := range order {
		order[i] = i
	}
	slices.SortStableFunc(order, func(i, j int) int { return cmp.Compare(costs[j], costs[i]) })
	assigned := make([]int, len(costs))
	loads := make([]int, workers)
	for _, i := range order {
		who := slices.Index(loads, slices.Min(loads))
		assigned[i] = who
		loads[who] += costs[i]
	}
	return assigned, api.OK
}

// Makespan returns the largest total cost of a worker.
func Makespan(costs []int, assigned []int, workers int) (int, api.Errno) {
	if e := checkCosts(costs, workers); e != api.OK {
		return 0, e
	}
	if len(assigned) != len(costs) || !areWorkers(assigned, workers) {
		return 0, api.ErrRange
	}
	loads := make([]int, workers)
	for i, who := range assigned {
		loads[who] += costs[i]
	}
	return slices.Max(loads), api.OK
}

// Script returns the actions by which each tile is claimed, drawn and published by its worker.
func Script(assigned []int, workers int) ([]api.Action, api.Errno) {
	switch {
	case !validWorkers(workers):
		return nil, api.ErrArgument
	case len(assigned) > api.MaxTiles:
		return nil, api.ErrLimit
	case !areWorkers(assigned, workers):
		return nil, api.ErrRange
	}
	var actions []api.Action
	for i, who := range assigned {
		actions = append(actions,
			api.Action{Kind: claimTile, Worker: who, Tile: i},
			api.Action{Kind: drawRows, Worker: who, Rows: scriptRows},
			api.Action{Kind: publishTile, Worker: who},
		)
	}
	return actions, api.OK
}
