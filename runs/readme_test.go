package runs_test

import (
	"fmt"

	"nestbox/judges"
	"nestbox/machines"
	"nestbox/runs"
	"nestbox/scripts"
	"nestbox/worlds"
)

// What README.md says of how to use the program.
func Example() {
	c := machines.Config{World: worlds.Config{Bits: 2, Budget: 8, Tries: 3, Quantum: 1, Way: 16}, Conns: 1}
	script, _ := scripts.Print([]scripts.Cmd{{Kind: scripts.CmFeed, Bytes: []byte("set a 0 0 1\r\nx\r\n")}})
	m, e := runs.Run(c, script)
	windows, all := runs.Finish(m, 100)
	fmt.Printf("%d %d %v %q\n", e, windows, all, runs.Outs(m)[0])
	fmt.Print(runs.Rows(m))
	fmt.Println(len(judges.Judge(m)))
	// Output:
	// 0 18 true "STORED\r\n"
	// 0 set a 0 35 21 stored 1
	// 0
}
