package tiles

import (
	"sync"

	"vivarium/api"
)

// workOut are the cells of these tiles that have another state one generation later, tile by tile. The workers only read the grid, and what changes in a tile goes to a place of its own: which worker took which tile is not seen.
func (b *Board) workOut(tiles []int, crew []asker) [][]api.Cell {
	queue := make(chan int, len(tiles)) // with room for all, so that nobody waits for a worker to take one
	for i := range tiles {
		queue <- i
	}
	close(queue)
	changed := make([][]api.Cell, len(tiles))
	var all sync.WaitGroup
	for w := range min(len(crew), len(tiles)) {
		a := &crew[w]
		all.Add(1)
		go func() {
			defer all.Done()
			for i := range queue {
				changed[i] = a.changed(b.grid, b.marks.area(tiles[i]))
			}
		}()
	}
	all.Wait()
	return changed
}
