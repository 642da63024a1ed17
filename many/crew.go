package many

import (
	"sync"

	"conduit/api"
	"conduit/bus"
)

// task is a job, and the channel of its own on which its result comes back.
type task struct {
	job    api.Job
	result chan<- Result
}

// crew is workers, the channel over which jobs go out to them, and the row of the channels on which the results come back, in the order of the jobs.
type crew struct {
	workers sync.WaitGroup
	tasks   chan task
	row     chan (<-chan Result)
}

// do does the jobs that next has, so many at a time, so many of them being out at most. It asks and gives by itself: so it never does both at once, and when it does which does not hang on how the workers run.
func do(next func() (api.Job, bool), workers, out int, give func(r Result) bool) {
	c := newCrew(workers, out)
	defer c.end()
	more := c.fill(next)
	for result := range c.row {
		if !give(<-result) {
			return
		}
		more = more && c.fill(next)
	}
}

// newCrew is workers that wait for jobs. There is room for as many as may be out, so handing one out never waits.
func newCrew(workers, out int) *crew {
	c := &crew{tasks: make(chan task, out), row: make(chan (<-chan Result), out)}
	c.workers.Add(workers)
	for range workers {
		go c.work()
	}
	return c
}

// work does one job after another, until no more can come.
func (c *crew) work() {
	defer c.workers.Done()
	for t := range c.tasks {
		state, events := bus.Run(t.job.Plan, t.job.Steps)
		t.result <- Result{Bus: state, Events: events}
	}
}

// fill hands out jobs until the row is full; false: there are no more, and the row ends.
func (c *crew) fill(next func() (api.Job, bool)) bool {
	for len(c.row) < cap(c.row) {
		job, ok := next()
		if !ok {
			close(c.row)
			return false
		}
		c.handOut(job)
	}
	return true
}

// handOut puts a job's result into the row; its channel has room, as nobody may ever take it.
func (c *crew) handOut(job api.Job) {
	result := make(chan Result, 1)
	c.tasks <- task{job, result}
	c.row <- result
}

// end waits until the workers have gone home; jobs that none of them has begun are not wanted any more.
func (c *crew) end() {
	close(c.tasks)
	for range c.tasks {
	}
	c.workers.Wait()
}
