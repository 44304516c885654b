package many

import "sync"

// share has the work of the places 0 .. count - 1 done by so many workers. Each takes the next place as soon as it is done with one, and works on that place alone: so what comes of it is the same whoever took it. When share answers, all have ended.
func share(count, workers int, work func(place int)) {
	places := make(chan int)
	var running sync.WaitGroup
	for range min(workers, count) {
		running.Add(1)
		go func() {
			defer running.Done()
			for place := range places {
				work(place)
			}
		}()
	}
	for place := range count {
		places <- place
	}
	close(places)
	running.Wait()
}
