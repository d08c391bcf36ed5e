package code

import (
	"slices"

	"headend/api"
	"headend/cipher"
)

// noMember stands for the member in the entry of a group none of whose members is named.
const noMember = -1

// stepsOf returns the code of steps with a number among those of a code of two levels.
func stepsOf(c api.Levels, users, n int) api.Steps {
	return api.Steps{Users: users, Block: c.Block, Key: cipher.Derive(c.Key, api.TagLevel, uint64(n)), Limit: c.Limit}
}

func codeOfGroups(c api.Levels) api.Steps { return stepsOf(c, c.Groups, 0) }

func codeOfMembers(c api.Levels, group int) api.Steps { return stepsOf(c, c.Members, 1+group) }

// CheckLevels returns ErrCode unless a code of two levels is valid.
func CheckLevels(c api.Levels) api.Errno {
	if e := CheckSteps(codeOfGroups(c)); e != api.OK {
		return e
	}
	// The codes of the members of all groups are valid if one is: only their keys differ.
	return CheckSteps(codeOfMembers(c, 0))
}

// LevelWord returns the word of a member of a group.
func LevelWord(c api.Levels, group, member int) ([]uint8, api.Errno) {
	if e := CheckLevels(c); e != api.OK {
		return nil, e
	}
	if !isWithin(group, 0, c.Groups-1) || !isWithin(member, 0, c.Members-1) {
		return nil, api.ErrArg
	}
	return slices.Concat(stepWord(codeOfGroups(c), group), stepWord(codeOfMembers(c, group), member)), api.OK
}

// TraceLevels returns the groups and members that a code of two levels names for a copy.
func TraceLevels(c api.Levels, y []uint8) ([]api.Accused, api.Errno) {
	if e := CheckLevels(c); e != api.OK {
		return nil, e
	}
	groups := codeOfGroups(c)
	split := columns(groups)
	if !isCopy(y, split+columns(codeOfMembers(c, 0))) {
		return nil, api.ErrWord
	}
	var l []api.Accused
	for _, group := range traceSteps(groups, y[:split]) {
		members := traceSteps(codeOfMembers(c, group), y[split:])
		if len(members) == 0 {
			members = []int{noMember}
		}
		for _, member := range members {
			l = append(l, api.Accused{Group: group, Member: member})
		}
	}
	return l, api.OK
}
