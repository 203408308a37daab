package hire

import (
	"maps"
	"slices"

	"ferrule/api"
)

// byId has each slip of a list by its Id; not ok if two of them clash.
func byId(list []api.Slip) (map[int]api.Slip, bool) {
	slips := map[int]api.Slip{}
	for _, s := range list {
		if known, ok := slips[s.Id]; ok && known != s {
			return nil, false
		}
		slips[s.Id] = s
	}
	return slips, true
}

// sortedSlips are slips in the order of their Ids.
func sortedSlips(slips map[int]api.Slip) []api.Slip {
	var list []api.Slip
	for _, id := range slices.Sorted(maps.Keys(slips)) {
		list = append(list, slips[id])
	}
	return list
}
