package flow_test

import (
	"fmt"

	"couchant/api"
	"couchant/flow"
)

// This is the example of README.md.
func Example() {
	net := api.Net{N: 3, Arcs: []api.Arc{
		{From: 0, To: 1, Low: 2, High: 5, LowBy: 1, HighBy: 2}, {From: 1, To: 2, High: 4, HighBy: 3},
		{From: 2, To: 0, High: 9}, {From: 1, To: 0, High: 3, HighBy: 4},
	}}
	weights := []int{0, 0, 1, 0}
	most, amounts, potentials, err := flow.Greatest(net, weights)
	fmt.Println(most, err)                                         // 4 0
	fmt.Println(flow.CheckBest(net, weights, amounts, potentials)) // true 0: no circulation has a greater sum
	fmt.Println(flow.Records(net, weights, potentials))            // [3] 0
	net, _ = flow.Narrow(net, 1, 0, 0, 7)
	net, _ = flow.Narrow(net, 3, 0, 1, 8)
	obstacle, _, _ := flow.Obstacle(net)             // two units have to go from node 0 to node 1, and only one can come back
	fmt.Println(obstacle.Nodes)                      // [0 2]
	fmt.Println(flow.ObstacleRecords(net, obstacle)) // [1 7 8] 0
	// Output:
	// 4 0
	// true 0
	// [3] 0
	// [0 2]
	// [1 7 8] 0
}
