package timer_test

import (
	"fmt"

	"quaestor/timer"
)

// ExampleTimer is README's: it waits, fires, waits twice as long, and is made short.
func ExampleTimer() {
	t := timer.New()
	fmt.Println(t.Wait(), t.Runs())
	t.Start()
	fmt.Println(t.Tick(1), t.Wait(), t.Runs())

	t.Start()
	fmt.Println(t.Tick(1), t.Left())
	t.Start()
	fmt.Println(t.Left())
	t.Again()
	fmt.Println(t.Left())
	t.Reset()
	fmt.Println(t.Wait(), t.Left())
	fmt.Println(t.Tick(5), t.Wait(), t.Left())
	// Output:
	// 1 false
	// true 2 false
	// false 1
	// 1
	// 2
	// 1 2
	// true 2 0
}

// ExampleTimer_Tick has the examples of the chapter.
func ExampleTimer_Tick() {
	t := timer.New()
	t.Start()
	fmt.Println(t.Tick(1), t.Wait())
	t.Start()
	fmt.Println(t.Tick(1))
	fmt.Println(t.Tick(1), t.Wait())
	// Output:
	// true 2
	// false
	// true 4
}
