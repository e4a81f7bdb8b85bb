package algebra

import "tactician/api"

// Each list of words has them at the numbers of what they stand for; a number that stands for nothing has an empty one.

func relWords() []string {
	all := shapes()
	return each(all[:], func(s shape) string { return s.word })
}

// queryWords has the expressions that have relations.
func queryWords() []string {
	return []string{api.OExists: "exists", api.OIn: "in", api.OOne: "one"}
}

func kindWords() []string {
	return []string{api.Int: "int", api.Bool: "bool", api.Text: "text"}
}

func joinWords() []string {
	return []string{api.Inner: "inner", api.Left: "left", api.Full: "full", api.Semi: "semi", api.Anti: "anti"}
}

func callWords() []string {
	return []string{api.Count: "count", api.Some: "some", api.Sum: "sum", api.Min: "min", api.Max: "max", api.Only: "only"}
}
